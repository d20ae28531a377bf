/-
  What ReadUnit answers.
-/
import Derived.Test.YtokabkhnidlcnabDoorUnitM
import Derived.Test.YtokabkhnidlcnabDoorCoreE
namespace Go.Proofs.YtokabkhnidlcnabDoor
set_option maxRecDepth 100000
set_option linter.unusedSimpArgs false
set_option linter.unusedVariables false

/-- The operator that words declare. -/
def OpW (ws : List ByteArray) (o : OpR) : Prop :=
  ∃ k t l, LevW l ∧ ((ws = [k, t, l] ∧ ((k = wPrefix ∧ o = ⟨t, 1, (valTo l l.size : Int), 0⟩) ∨ (k = wPostfix ∧ o = ⟨t, 3, (valTo l l.size : Int), 0⟩))) ∨
    ∃ sd, ws = [k, t, l, sd] ∧ k = wInfix ∧ sideW sd ≠ 0 ∧ o = ⟨t, 2, (valTo l l.size : Int), sideW sd⟩)

theorem OpW.one {ws : List ByteArray} {o o' : OpR} (h : OpW ws o) (h' : OpW ws o') : o = o' := by
  obtain ⟨k, t, l, hl, h⟩ := h
  obtain ⟨k', t', l', hl', h'⟩ := h'
  rcases h with ⟨e, h⟩ | ⟨sd, e, hk, hs, rfl⟩
  · rcases h' with ⟨e', h'⟩ | ⟨sd', e', hk', hs', rfl⟩
    · rw [e] at e'
      simp only [List.cons.injEq, and_true] at e'
      obtain ⟨rfl, rfl, rfl⟩ := e'
      rcases h with ⟨h1, rfl⟩ | ⟨h1, rfl⟩ <;> rcases h' with ⟨h2, rfl⟩ | ⟨h2, rfl⟩
      · rfl
      · rw [h1] at h2; exact absurd h2 (by decide)
      · rw [h1] at h2; exact absurd h2 (by decide)
      · rfl
    · rw [e] at e'; simp at e'
  · rcases h' with ⟨e', h'⟩ | ⟨sd', e', hk', hs', rfl⟩
    · rw [e] at e'; simp at e'
    · rw [e] at e'
      simp only [List.cons.injEq, and_true] at e'
      obtain ⟨rfl, rfl, rfl, rfl⟩ := e'
      rfl

/-- A line of a header is taken. -/
def LineIs (ws : List ByteArray) (us : List ByteArray) (os : List OpR) (us' : List ByteArray) (os' : List OpR) : Prop :=
  (ws = [] ∧ us' = us ∧ os' = os) ∨ (∃ x, ws = [wUse, x] ∧ us' = us ++ [x] ∧ os' = os) ∨ (∃ o, OpW ws o ∧ us' = us ∧ os' = os ++ [o])

theorem OpW.len {ws : List ByteArray} {o : OpR} (h : OpW ws o) : ws.length = 3 ∨ ws.length = 4 := by
  obtain ⟨k, t, l, hl, ⟨rfl, _⟩ | ⟨sd, rfl, _⟩⟩ := h
  · exact Or.inl rfl
  · exact Or.inr rfl

theorem LineIs.one {ws us us1 us2 : List ByteArray} {os os1 os2 : List OpR} (h : LineIs ws us os us1 os1) (h' : LineIs ws us os us2 os2) : us1 = us2 ∧ os1 = os2 := by
  rcases h with ⟨e, rfl, rfl⟩ | ⟨x, e, rfl, rfl⟩ | ⟨o, ho, rfl, rfl⟩
  · rcases h' with ⟨_, rfl, rfl⟩ | ⟨x', e', _⟩ | ⟨o', ho', _⟩
    · exact ⟨rfl, rfl⟩
    · rw [e] at e'; simp at e'
    · have := ho'.len; rw [e] at this; simp at this
  · rcases h' with ⟨e', _⟩ | ⟨x', e', rfl, rfl⟩ | ⟨o', ho', _⟩
    · rw [e] at e'; simp at e'
    · rw [e] at e'
      simp only [List.cons.injEq, and_true, true_and] at e'
      subst e'
      exact ⟨rfl, rfl⟩
    · have := ho'.len; rw [e] at this; simp at this
  · rcases h' with ⟨e', _⟩ | ⟨x', e', _⟩ | ⟨o', ho', rfl, rfl⟩
    · have := ho.len; rw [e'] at this; simp at this
    · have := ho.len; rw [e'] at this; simp at this
    · rw [ho.one ho']; exact ⟨rfl, rfl⟩

/-- The text behind the line that ends at z. -/
def bodyB (s : ByteArray) (z : Nat) : ByteArray := if z < s.size then s.extract (z + 1) s.size else ByteArray.empty

/-- What is read from some lines on. -/
def UnF (s : ByteArray) : List (Nat × Nat) → Nat → List ByteArray → List OpR → List ByteArray → List OpR → ByteArray → Int → Int → Prop
  | [], _, _, _, u, o, b, c, l => u = [] ∧ o = [] ∧ b = ByteArray.empty ∧ c = 3 ∧ l = 0
  | p :: r, n, us, os, u, o, b, c, l =>
    (wds (s.extract p.1 p.2) = [wBegin] ∧ u = us ∧ o = os ∧ b = bodyB s p.2 ∧ c = 0 ∧ l = 0) ∨
    (wds (s.extract p.1 p.2) ≠ [wBegin] ∧ ((∃ us' os', LineIs (wds (s.extract p.1 p.2)) us os us' os' ∧ UnF s r (n + 1) us' os' u o b c l) ∨
      ((∀ us' os', ¬ LineIs (wds (s.extract p.1 p.2)) us os us' os') ∧ u = [] ∧ o = [] ∧ b = ByteArray.empty ∧ c = 2 ∧ l = (n : Int))))

theorem UnF.one {s : ByteArray} : ∀ (ls : List (Nat × Nat)) (n : Nat) (us : List ByteArray) (os : List OpR) {u u' : List ByteArray} {o o' : List OpR} {b b' : ByteArray} {c c' l l' : Int}, UnF s ls n us os u o b c l → UnF s ls n us os u' o' b' c' l' → u = u' ∧ o = o' ∧ b = b' ∧ c = c' ∧ l = l'
  | [], n, us, os, _, _, _, _, _, _, _, _, _, _, h, h' => by
    obtain ⟨rfl, rfl, rfl, rfl, rfl⟩ := h
    obtain ⟨rfl, rfl, rfl, rfl, rfl⟩ := h'
    exact ⟨rfl, rfl, rfl, rfl, rfl⟩
  | p :: r, n, us, os, _, _, _, _, _, _, _, _, _, _, h, h' => by
    rcases h with ⟨e, rfl, rfl, rfl, rfl, rfl⟩ | ⟨e, h⟩
    · rcases h' with ⟨_, rfl, rfl, rfl, rfl, rfl⟩ | ⟨e', _⟩
      · exact ⟨rfl, rfl, rfl, rfl, rfl⟩
      · exact absurd e e'
    · rcases h' with ⟨e', _⟩ | ⟨_, h'⟩
      · exact absurd e' e
      · rcases h with ⟨us1, os1, h1, h⟩ | ⟨h1, rfl, rfl, rfl, rfl, rfl⟩
        · rcases h' with ⟨us2, os2, h2, h'⟩ | ⟨h2, _⟩
          · obtain ⟨rfl, rfl⟩ := h1.one h2
            exact UnF.one r (n + 1) us1 os1 h h'
          · exact absurd h1 (h2 _ _)
        · rcases h' with ⟨us2, os2, h2, h'⟩ | ⟨h2, rfl, rfl, rfl, rfl, rfl⟩
          · exact absurd h2 (h1 _ _)
          · exact ⟨rfl, rfl, rfl, rfl, rfl⟩

/-- What ReadUnit answers. -/
def UnitIs (s : ByteArray) (u : List ByteArray) (o : List OpR) (b : ByteArray) (c l : Int) : Prop :=
  (20000 < s.size ∧ u = [] ∧ o = [] ∧ b = ByteArray.empty ∧ c = 1 ∧ l = 0) ∨ (s.size ≤ 20000 ∧ UnF s (pcs 10 s 0) 1 [] [] u o b c l)

theorem UnitIs.one {s : ByteArray} {u u' : List ByteArray} {o o' : List OpR} {b b' : ByteArray} {c c' l l' : Int} (h : UnitIs s u o b c l) (h' : UnitIs s u' o' b' c' l') : u = u' ∧ o = o' ∧ b = b' ∧ c = c' ∧ l = l' := by
  rcases h with ⟨a, rfl, rfl, rfl, rfl, rfl⟩ | ⟨a, h⟩
  · rcases h' with ⟨_, rfl, rfl, rfl, rfl, rfl⟩ | ⟨a', _⟩
    · exact ⟨rfl, rfl, rfl, rfl, rfl⟩
    · omega
  · rcases h' with ⟨a', _⟩ | ⟨_, h'⟩
    · omega
    · exact UnF.one _ _ _ _ h h'
end Go.Proofs.YtokabkhnidlcnabDoor
