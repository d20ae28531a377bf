/-
  The operator that words declare, word by word.
-/
import Derived.Test.YtokabkhnidlcnabDoorLnRow
namespace Go.Proofs.YtokabkhnidlcnabDoor
set_option maxRecDepth 100000
set_option linter.unusedSimpArgs false
set_option linter.unusedVariables false
open Go.RowKit

/-- What n words declare, of which the first four are given. -/
def opAns (n : Nat) (k t l sd : ByteArray) : Option OpR :=
  if levB l = true then
    (if k = wPrefix ∧ n = 3 then some ⟨t, 1, (valTo l l.size : Int), 0⟩
     else if k = wPostfix ∧ n = 3 then some ⟨t, 3, (valTo l l.size : Int), 0⟩
     else if k = wInfix ∧ n = 4 ∧ sideW sd ≠ 0 then some ⟨t, 2, (valTo l l.size : Int), sideW sd⟩ else none)
  else none

theorem side_cases (t : ByteArray) : sideW t = 0 ∨ sideW t = 1 ∨ sideW t = 2 ∨ sideW t = 3 := by
  unfold sideW
  split
  · exact Or.inr (Or.inl rfl)
  · split
    · exact Or.inr (Or.inr (Or.inl rfl))
    · split
      · exact Or.inr (Or.inr (Or.inr rfl))
      · exact Or.inl rfl

/-- A row's words from the first on. -/
theorem words_parts {ws : List ByteArray} (h : 3 ≤ ws.length) : ∃ k t l r, ws = k :: t :: l :: r := by
  match ws, h with
  | k :: t :: l :: r, _ => exact ⟨k, t, l, r, rfl⟩

theorem opAns_is {k t l sd : ByteArray} {r : List ByteArray} (hr : r = [] ∨ ∃ r', r = sd :: r') : (∀ o, opAns (r.length + 3) k t l sd = some o → OpW (k :: t :: l :: r) o) ∧ (opAns (r.length + 3) k t l sd = none → ∀ o, ¬ OpW (k :: t :: l :: r) o) := by
  unfold opAns
  constructor
  · intro o h
    split at h
    · rename_i hl
      have hL := (levB_iff l).1 hl
      split at h
      · rename_i hk
        injection h with h
        have : r = [] := List.length_eq_zero_iff.1 (by omega)
        subst this
        exact ⟨k, t, l, hL, Or.inl ⟨rfl, Or.inl ⟨hk.1, h.symm⟩⟩⟩
      · split at h
        · rename_i hk
          injection h with h
          have : r = [] := List.length_eq_zero_iff.1 (by omega)
          subst this
          exact ⟨k, t, l, hL, Or.inl ⟨rfl, Or.inr ⟨hk.1, h.symm⟩⟩⟩
        · split at h
          · rename_i hk
            injection h with h
            rcases hr with rfl | ⟨r', rfl⟩
            · simp at hk
            · have : r' = [] := List.length_eq_zero_iff.1 (by have h9 := hk.2.1; simp only [List.length_cons] at h9; omega)
              subst this
              exact ⟨k, t, l, hL, Or.inr ⟨sd, rfl, hk.1, hk.2.2, h.symm⟩⟩
          · cases h
    · cases h
  · rintro h o ⟨k', t', l', hL, h2⟩
    have hlv := fun (e : l = l') => (levB_iff l).2 (e ▸ hL)
    rcases h2 with ⟨e, h2⟩ | ⟨sd', e, h2, h3, h4⟩
    · simp only [List.cons.injEq] at e
      obtain ⟨rfl, rfl, rfl, rfl⟩ := e
      rw [if_pos (hlv rfl)] at h
      rcases h2 with ⟨hk, _⟩ | ⟨hk, _⟩
      · rw [if_pos ⟨hk, rfl⟩] at h; cases h
      · rw [if_neg (fun x => by rw [hk] at x; exact absurd x.1 (by decide)), if_pos ⟨hk, rfl⟩] at h; cases h
    · simp only [List.cons.injEq] at e
      obtain ⟨rfl, rfl, rfl, rfl⟩ := e
      have : sd = sd' := by
        rcases hr with h | ⟨r', h⟩
        · cases h
        · simp only [List.cons.injEq] at h; exact h.1.symm
      subst this
      rw [if_pos (hlv rfl), if_neg (fun x => by rw [h2] at x; exact absurd x.1 (by decide)), if_neg (fun x => by rw [h2] at x; exact absurd x.1 (by decide)), if_pos ⟨h2, rfl, h3⟩] at h
      cases h

/-- An operator in a block of its own, that may be written. -/
def OpCells (w : World) (b : Nat) (o : OpR) : Prop :=
  (w.cell? ⟨b, 0, none⟩ = some (.string o.s) ∧ w.cell? ⟨b, 1, none⟩ = some (.int .i64 o.k) ∧ w.cell? ⟨b, 2, none⟩ = some (.int .i64 o.l) ∧ w.cell? ⟨b, 3, none⟩ = some (.int .i64 o.sd)) ∧
    (w.frozen? ⟨b, 0, none⟩ = false ∧ w.frozen? ⟨b, 1, none⟩ = false ∧ w.frozen? ⟨b, 2, none⟩ = false ∧ w.frozen? ⟨b, 3, none⟩ = false)

theorem OpCells.below {w w' : World} {b B : Nat} {o : OpR} (h : OpCells w b o) (hb : Below B w w') (hB : b < B) : OpCells w' b o := by
  obtain ⟨⟨h0, h1, h2, h3⟩, g0, g1, g2, g3⟩ := h
  have e := fun j => hb.cell (p := ⟨b, j, none⟩) hB
  have f := fun j => hb.frozen (p := ⟨b, j, none⟩) hB
  exact ⟨⟨(e 0).trans h0, (e 1).trans h1, (e 2).trans h2, (e 3).trans h3⟩, (f 0).trans g0, (f 1).trans g1, (f 2).trans g2, (f 3).trans g3⟩

/-- What is answered of words. -/
def OpwPost (w : World) (n : Nat) (k t l sd : ByteArray) (e : Ending) (w' : World) : Prop :=
  ∃ (o : OpR) (v : Bool), e = .returned (.tuple #[.agg #[.string o.s, .int .i64 o.k, .int .i64 o.l, .int .i64 o.sd], .bool v]) ∧ ((v = true ∧ opAns n k t l sd = some o) ∨ (v = false ∧ opAns n k t l sd = none)) ∧ Below w.heap.size w w'

theorem ans_none {n : Nat} {k t l sd : ByteArray} (h : levB l = false) : opAns n k t l sd = none := by
  unfold opAns; rw [h]; rfl
theorem ans_prefix {n : Nat} {k t l sd : ByteArray} (h : levB l = true) (hk : k = wPrefix) : opAns n k t l sd = if n = 3 then some ⟨t, 1, (valTo l l.size : Int), 0⟩ else none := by
  subst hk
  unfold opAns
  rw [if_pos h]
  by_cases hn : n = 3
  · rw [if_pos ⟨rfl, hn⟩, if_pos hn]
  · rw [if_neg (fun x => hn x.2), if_neg (fun x => hn x.2), if_neg (fun x => absurd x.1 (by decide)), if_neg hn]
theorem ans_postfix {n : Nat} {k t l sd : ByteArray} (h : levB l = true) (hk : k = wPostfix) : opAns n k t l sd = if n = 3 then some ⟨t, 3, (valTo l l.size : Int), 0⟩ else none := by
  subst hk
  unfold opAns
  rw [if_pos h]
  by_cases hn : n = 3
  · rw [if_neg (fun x => absurd x.1 (by decide)), if_pos ⟨rfl, hn⟩, if_pos hn]
  · rw [if_neg (fun x => hn x.2), if_neg (fun x => hn x.2), if_neg (fun x => absurd x.1 (by decide)), if_neg hn]
theorem ans_infix {n : Nat} {k t l sd : ByteArray} (h : levB l = true) (hk : k = wInfix) : opAns n k t l sd = if n = 4 ∧ sideW sd ≠ 0 then some ⟨t, 2, (valTo l l.size : Int), sideW sd⟩ else none := by
  subst hk
  unfold opAns
  rw [if_pos h, if_neg (fun x => absurd x.1 (by decide)), if_neg (fun x => absurd x.1 (by decide))]
  by_cases hn : n = 4 ∧ sideW sd ≠ 0
  · rw [if_pos ⟨rfl, hn⟩, if_pos hn]
  · rw [if_neg (fun x => hn x.2), if_neg hn]
theorem ans_other {n : Nat} {k t l sd : ByteArray} (h1 : k ≠ wPrefix) (h2 : k ≠ wPostfix) (h3 : k ≠ wInfix) : opAns n k t l sd = none := by
  unfold opAns
  split
  · rw [if_neg (fun x => h1 x.1), if_neg (fun x => h2 x.1), if_neg (fun x => h3 x.1)]
  · rfl
end Go.Proofs.YtokabkhnidlcnabDoor
