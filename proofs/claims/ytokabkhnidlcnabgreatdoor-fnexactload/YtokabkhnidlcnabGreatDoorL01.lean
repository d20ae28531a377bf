import Derived.Test.YtokabkhnidlcnabGreatDoorL00

/-
  Kinds of bytes.
-/
namespace Go.Proofs.YtokabkhnidlcnabGreatDoor
set_option maxRecDepth 100000
open Go.RowKit

/-- The byte at a place. -/
def bt (s : ByteArray) (i : Nat) : UInt8 := s.data[i]?.getD 0

theorem bt_get {s : ByteArray} {i : Nat} (h : i < s.size) : s[i] = bt s i := by
  have h' : i < s.data.size := h
  show s.data[i] = _
  unfold bt
  rw [Array.getElem?_eq_getElem h']
  rfl

/-- The kind of a byte: 1 a blank, 2 a digit, 3 a letter, 4 and 5 the brackets, 6 a sign, 0 another. -/
def cls (c : UInt8) : Nat :=
  if c.toNat = 32 ∨ c.toNat = 9 ∨ c.toNat = 10 then 1
  else if 48 ≤ c.toNat ∧ c.toNat ≤ 57 then 2
  else if (65 ≤ c.toNat ∧ c.toNat ≤ 90) ∨ (97 ≤ c.toNat ∧ c.toNat ≤ 122) ∨ c.toNat = 95 then 3
  else if c.toNat = 40 then 4
  else if c.toNat = 41 then 5
  else if sgB c = true then 6
  else 0

theorem cls_sg (c : UInt8) : sgB c = decide (cls c = 6) := by
  obtain ⟨v⟩ := c
  revert v
  decide +kernel

theorem cls_blank (c : UInt8) : (cls c = 1) ↔ (c.toNat = 32 ∨ c.toNat = 9 ∨ c.toNat = 10) := by
  obtain ⟨v⟩ := c
  revert v
  decide +kernel
theorem cls_dig (c : UInt8) : (cls c = 2) ↔ (48 ≤ c.toNat ∧ c.toNat ≤ 57) := by
  obtain ⟨v⟩ := c
  revert v
  decide +kernel
theorem cls_let (c : UInt8) : (cls c = 3) ↔ ((65 ≤ c.toNat ∧ c.toNat ≤ 90) ∨ (97 ≤ c.toNat ∧ c.toNat ≤ 122) ∨ c.toNat = 95) := by
  obtain ⟨v⟩ := c
  revert v
  decide +kernel
theorem cls_open (c : UInt8) : (cls c = 4) ↔ c = 40 := by
  obtain ⟨v⟩ := c
  revert v
  decide +kernel
theorem cls_close (c : UInt8) : (cls c = 5) ↔ c = 41 := by
  obtain ⟨v⟩ := c
  revert v
  decide +kernel
theorem cls_lt (c : UInt8) : cls c < 7 := by
  unfold cls
  split
  · omega
  · split
    · omega
    · split
      · omega
      · split
        · omega
        · split
          · omega
          · split <;> omega

/-- What the bytes of a whole text make it. -/
def NumT (t : ByteArray) : Prop := 1 ≤ t.size ∧ ∀ j, j < t.size → cls (bt t j) = 2
def NameT (t : ByteArray) : Prop := 1 ≤ t.size ∧ ∀ j, j < t.size → (cls (bt t j) = 3 ∨ (j ≠ 0 ∧ cls (bt t j) = 2))

/-- The same as Bools. -/
def numB (t : ByteArray) : Bool := decide (1 ≤ t.size) && (List.range t.size).all fun j => cls (bt t j) == 2
def nameB (t : ByteArray) : Bool := decide (1 ≤ t.size) && (List.range t.size).all fun j => cls (bt t j) == 3 || (j != 0 && cls (bt t j) == 2)
theorem numB_iff (t : ByteArray) : numB t = true ↔ NumT t := by
  simp [numB, NumT, List.all_eq_true]
theorem nameB_iff (t : ByteArray) : nameB t = true ↔ NameT t := by
  simp [nameB, NameT, List.all_eq_true]
theorem data_eq (t : ByteArray) (a : Array UInt8) : t.data = a ↔ t = ⟨a⟩ := ⟨fun h => by cases t; simp_all, fun h => by rw [h]⟩
end Go.Proofs.YtokabkhnidlcnabGreatDoor

/-
  Lines and words of a text, by places.
-/
namespace Go.Proofs.YtokabkhnidlcnabGreatDoor
set_option maxRecDepth 100000
set_option linter.unusedSimpArgs false
set_option linter.unusedVariables false

/-- The next place from i on where a byte c stands, or the text's end. -/
def nxF (c : UInt8) (s : ByteArray) : Nat → Nat → Nat
  | 0, i => i
  | n + 1, i => if i < s.size ∧ bt s i ≠ c then nxF c s n (i + 1) else i
def nx (c : UInt8) (s : ByteArray) (i : Nat) : Nat := nxF c s (s.size - i) i

theorem nxF_spec (c : UInt8) (s : ByteArray) : ∀ (n i : Nat), s.size - i ≤ n → i ≤ s.size → i ≤ nxF c s n i ∧ nxF c s n i ≤ s.size ∧ (∀ k, i ≤ k → k < nxF c s n i → bt s k ≠ c) ∧ (nxF c s n i < s.size → bt s (nxF c s n i) = c)
  | 0, i, hn, hi => by
    simp only [nxF]
    exact ⟨Nat.le_refl _, hi, fun k h1 h2 => by omega, fun h => by omega⟩
  | n + 1, i, hn, hi => by
    simp only [nxF]
    by_cases h : i < s.size ∧ bt s i ≠ c
    · rw [if_pos h]
      obtain ⟨h1, h2, h3, h4⟩ := nxF_spec c s n (i + 1) (by omega) (by omega)
      refine ⟨by omega, h2, fun k k1 k2 => ?_, h4⟩
      by_cases e : k = i
      · subst e; exact h.2
      · exact h3 k (by omega) k2
    · rw [if_neg h]
      refine ⟨Nat.le_refl _, hi, fun k h1 h2 => by omega, fun hl => ?_⟩
      by_cases e : bt s i = c
      · exact e
      · exact absurd ⟨hl, e⟩ h

theorem nx_spec (c : UInt8) (s : ByteArray) (i : Nat) (hi : i ≤ s.size) : i ≤ nx c s i ∧ nx c s i ≤ s.size ∧ (∀ k, i ≤ k → k < nx c s i → bt s k ≠ c) ∧ (nx c s i < s.size → bt s (nx c s i) = c) :=
  nxF_spec c s _ i (Nat.le_refl _) hi

/-- It is the only such place. -/
theorem nx_one {c : UInt8} {s : ByteArray} {i j : Nat} (hi : i ≤ s.size) (h1 : i ≤ j) (h2 : j ≤ s.size) (h3 : ∀ k, i ≤ k → k < j → bt s k ≠ c) (h4 : j < s.size → bt s j = c) : nx c s i = j := by
  obtain ⟨g1, g2, g3, g4⟩ := nx_spec c s i hi
  rcases Nat.lt_trichotomy (nx c s i) j with h | h | h
  · exact absurd (g4 (by omega)) (h3 _ g1 h)
  · exact h
  · exact absurd (h4 (by omega)) (g3 _ h1 h)

/-- The pieces from i on: where each begins and ends. -/
def pcF (c : UInt8) (s : ByteArray) : Nat → Nat → List (Nat × Nat)
  | 0, _ => []
  | n + 1, i => (i, nx c s i) :: (if nx c s i < s.size then pcF c s n (nx c s i + 1) else [])
def pcs (c : UInt8) (s : ByteArray) (i : Nat) : List (Nat × Nat) := pcF c s (s.size - i + 1) i

theorem pcF_more (c : UInt8) (s : ByteArray) : ∀ (n m i : Nat), i ≤ s.size → s.size - i + 1 ≤ n → s.size - i + 1 ≤ m → pcF c s n i = pcF c s m i
  | 0, _, i, hi, hn, _ => by omega
  | _ + 1, 0, i, hi, _, hm => by omega
  | n + 1, m + 1, i, hi, hn, hm => by
    simp only [pcF]
    congr 1
    have h := nx_spec c s i hi
    by_cases hl : nx c s i < s.size
    · rw [if_pos hl, if_pos hl]
      exact pcF_more c s n m _ (by omega) (by omega) (by omega)
    · rw [if_neg hl, if_neg hl]

theorem pcs_step (c : UInt8) (s : ByteArray) (i : Nat) (hi : i ≤ s.size) : pcs c s i = (i, nx c s i) :: (if nx c s i < s.size then pcs c s (nx c s i + 1) else []) := by
  have h := nx_spec c s i hi
  conv => lhs; unfold pcs
  simp only [pcF]
  congr 1
  by_cases hl : nx c s i < s.size
  · rw [if_pos hl, if_pos hl]
    exact pcF_more c s _ _ _ (by omega) (by omega) (by omega)
  · rw [if_neg hl, if_neg hl]

/-- The words of a line. -/
def wds (l : ByteArray) : List ByteArray := ((pcs 32 l 0).filter (fun p => decide (p.1 < p.2))).map (fun p => l.extract p.1 p.2)

/-- The words of a line from place i on. -/
def wdsFrom (l : ByteArray) (i : Nat) : List ByteArray := ((pcs 32 l i).filter (fun p => decide (p.1 < p.2))).map (fun p => l.extract p.1 p.2)

theorem wds_from (l : ByteArray) : wds l = wdsFrom l 0 := rfl

theorem wdsFrom_step (l : ByteArray) (i : Nat) (hi : i ≤ l.size) : wdsFrom l i = (if i < nx 32 l i then [l.extract i (nx 32 l i)] else []) ++ (if nx 32 l i < l.size then wdsFrom l (nx 32 l i + 1) else []) := by
  unfold wdsFrom
  rw [pcs_step 32 l i hi]
  by_cases h1 : i < nx 32 l i
  · rw [if_pos h1, List.filter_cons_of_pos (by simpa using h1)]
    by_cases h2 : nx 32 l i < l.size
    · rw [if_pos h2, if_pos h2]; rfl
    · rw [if_neg h2, if_neg h2]; rfl
  · rw [if_neg h1, List.filter_cons_of_neg (by simpa using h1)]
    by_cases h2 : nx 32 l i < l.size
    · rw [if_pos h2, if_pos h2]; rfl
    · rw [if_neg h2, if_neg h2]; rfl

/-- The texts of the words of a header. -/
def bB (l : List UInt8) : ByteArray := ⟨l.toArray⟩
def wBegin : ByteArray := ⟨#[98, 101, 103, 105, 110]⟩
def wUse : ByteArray := ⟨#[117, 115, 101]⟩
def wPrefix : ByteArray := ⟨#[112, 114, 101, 102, 105, 120]⟩
def wInfix : ByteArray := ⟨#[105, 110, 102, 105, 120]⟩
def wPostfix : ByteArray := ⟨#[112, 111, 115, 116, 102, 105, 120]⟩
def wLeft : ByteArray := ⟨#[108, 101, 102, 116]⟩
def wRight : ByteArray := ⟨#[114, 105, 103, 104, 116]⟩
def wNone : ByteArray := ⟨#[110, 111, 110, 101]⟩

/-- A word of 1 to 6 digits. -/
def LevW (w : ByteArray) : Prop := 1 ≤ w.size ∧ w.size ≤ 6 ∧ ∀ i, i < w.size → 48 ≤ (bt w i).toNat ∧ (bt w i).toNat ≤ 57
/-- The value of digits. -/
def valTo (w : ByteArray) : Nat → Nat
  | 0 => 0
  | k + 1 => valTo w k * 10 + ((bt w k).toNat - 48)
def sideW (w : ByteArray) : Int := if w = wLeft then 1 else if w = wRight then 2 else if w = wNone then 3 else 0

theorem valTo_le (w : ByteArray) (h : ∀ i, i < w.size → 48 ≤ (bt w i).toNat ∧ (bt w i).toNat ≤ 57) : ∀ k, k ≤ w.size → valTo w k < 10 ^ k
  | 0, _ => by simp [valTo]
  | k + 1, hk => by
    have := valTo_le w h k (by omega)
    have := h k (by omega)
    simp only [valTo, Nat.pow_succ]
    omega
end Go.Proofs.YtokabkhnidlcnabGreatDoor

/-
  What ReadUnit answers.
-/
namespace Go.Proofs.YtokabkhnidlcnabGreatDoor
set_option maxRecDepth 100000
set_option linter.unusedSimpArgs false
set_option linter.unusedVariables false

/-- The operator that words declare. -/
def OpW (ws : List ByteArray) (o : OpR) : Prop :=
  ∃ k t l, LevW l ∧ ((ws = [k, t, l] ∧ ((k = wPrefix ∧ o = ⟨t, 1, (valTo l l.size : Int), 0⟩) ∨ (k = wPostfix ∧ o = ⟨t, 3, (valTo l l.size : Int), 0⟩))) ∨
    ∃ sd, ws = [k, t, l, sd] ∧ k = wInfix ∧ sideW sd ≠ 0 ∧ o = ⟨t, 2, (valTo l l.size : Int), sideW sd⟩)

theorem OpW.one {ws : List ByteArray} {o o' : OpR} (h : OpW ws o) (h' : OpW ws o') : o = o' := by
  obtain ⟨k, t, l, hl, h⟩ := h
  obtain ⟨k', t', l', hl', h'⟩ := h'
  rcases h with ⟨e, h⟩ | ⟨sd, e, hk, hs, rfl⟩
  · rcases h' with ⟨e', h'⟩ | ⟨sd', e', hk', hs', rfl⟩
    · rw [e] at e'
      simp only [List.cons.injEq, and_true] at e'
      obtain ⟨rfl, rfl, rfl⟩ := e'
      rcases h with ⟨h1, rfl⟩ | ⟨h1, rfl⟩ <;> rcases h' with ⟨h2, rfl⟩ | ⟨h2, rfl⟩
      · rfl
      · rw [h1] at h2; exact absurd h2 (by decide)
      · rw [h1] at h2; exact absurd h2 (by decide)
      · rfl
    · rw [e] at e'; simp at e'
  · rcases h' with ⟨e', h'⟩ | ⟨sd', e', hk', hs', rfl⟩
    · rw [e] at e'; simp at e'
    · rw [e] at e'
      simp only [List.cons.injEq, and_true] at e'
      obtain ⟨rfl, rfl, rfl, rfl⟩ := e'
      rfl

/-- A line of a header is taken. -/
def LineIs (ws : List ByteArray) (us : List ByteArray) (os : List OpR) (us' : List ByteArray) (os' : List OpR) : Prop :=
  (ws = [] ∧ us' = us ∧ os' = os) ∨ (∃ x, ws = [wUse, x] ∧ us' = us ++ [x] ∧ os' = os) ∨ (∃ o, OpW ws o ∧ us' = us ∧ os' = os ++ [o])

theorem OpW.len {ws : List ByteArray} {o : OpR} (h : OpW ws o) : ws.length = 3 ∨ ws.length = 4 := by
  obtain ⟨k, t, l, hl, ⟨rfl, _⟩ | ⟨sd, rfl, _⟩⟩ := h
  · exact Or.inl rfl
  · exact Or.inr rfl

theorem LineIs.one {ws us us1 us2 : List ByteArray} {os os1 os2 : List OpR} (h : LineIs ws us os us1 os1) (h' : LineIs ws us os us2 os2) : us1 = us2 ∧ os1 = os2 := by
  rcases h with ⟨e, rfl, rfl⟩ | ⟨x, e, rfl, rfl⟩ | ⟨o, ho, rfl, rfl⟩
  · rcases h' with ⟨_, rfl, rfl⟩ | ⟨x', e', _⟩ | ⟨o', ho', _⟩
    · exact ⟨rfl, rfl⟩
    · rw [e] at e'; simp at e'
    · have := ho'.len; rw [e] at this; simp at this
  · rcases h' with ⟨e', _⟩ | ⟨x', e', rfl, rfl⟩ | ⟨o', ho', _⟩
    · rw [e] at e'; simp at e'
    · rw [e] at e'
      simp only [List.cons.injEq, and_true, true_and] at e'
      subst e'
      exact ⟨rfl, rfl⟩
    · have := ho'.len; rw [e] at this; simp at this
  · rcases h' with ⟨e', _⟩ | ⟨x', e', _⟩ | ⟨o', ho', rfl, rfl⟩
    · have := ho.len; rw [e'] at this; simp at this
    · have := ho.len; rw [e'] at this; simp at this
    · rw [ho.one ho']; exact ⟨rfl, rfl⟩

/-- The text behind the line that ends at z. -/
def bodyB (s : ByteArray) (z : Nat) : ByteArray := if z < s.size then s.extract (z + 1) s.size else ByteArray.empty

/-- What is read from some lines on. -/
def UnF (s : ByteArray) : List (Nat × Nat) → Nat → List ByteArray → List OpR → List ByteArray → List OpR → ByteArray → Int → Int → Prop
  | [], _, _, _, u, o, b, c, l => u = [] ∧ o = [] ∧ b = ByteArray.empty ∧ c = 3 ∧ l = 0
  | p :: r, n, us, os, u, o, b, c, l =>
    (wds (s.extract p.1 p.2) = [wBegin] ∧ u = us ∧ o = os ∧ b = bodyB s p.2 ∧ c = 0 ∧ l = 0) ∨
    (wds (s.extract p.1 p.2) ≠ [wBegin] ∧ ((∃ us' os', LineIs (wds (s.extract p.1 p.2)) us os us' os' ∧ UnF s r (n + 1) us' os' u o b c l) ∨
      ((∀ us' os', ¬ LineIs (wds (s.extract p.1 p.2)) us os us' os') ∧ u = [] ∧ o = [] ∧ b = ByteArray.empty ∧ c = 2 ∧ l = (n : Int))))

theorem UnF.one {s : ByteArray} : ∀ (ls : List (Nat × Nat)) (n : Nat) (us : List ByteArray) (os : List OpR) {u u' : List ByteArray} {o o' : List OpR} {b b' : ByteArray} {c c' l l' : Int}, UnF s ls n us os u o b c l → UnF s ls n us os u' o' b' c' l' → u = u' ∧ o = o' ∧ b = b' ∧ c = c' ∧ l = l'
  | [], n, us, os, _, _, _, _, _, _, _, _, _, _, h, h' => by
    obtain ⟨rfl, rfl, rfl, rfl, rfl⟩ := h
    obtain ⟨rfl, rfl, rfl, rfl, rfl⟩ := h'
    exact ⟨rfl, rfl, rfl, rfl, rfl⟩
  | p :: r, n, us, os, _, _, _, _, _, _, _, _, _, _, h, h' => by
    rcases h with ⟨e, rfl, rfl, rfl, rfl, rfl⟩ | ⟨e, h⟩
    · rcases h' with ⟨_, rfl, rfl, rfl, rfl, rfl⟩ | ⟨e', _⟩
      · exact ⟨rfl, rfl, rfl, rfl, rfl⟩
      · exact absurd e e'
    · rcases h' with ⟨e', _⟩ | ⟨_, h'⟩
      · exact absurd e' e
      · rcases h with ⟨us1, os1, h1, h⟩ | ⟨h1, rfl, rfl, rfl, rfl, rfl⟩
        · rcases h' with ⟨us2, os2, h2, h'⟩ | ⟨h2, _⟩
          · obtain ⟨rfl, rfl⟩ := h1.one h2
            exact UnF.one r (n + 1) us1 os1 h h'
          · exact absurd h1 (h2 _ _)
        · rcases h' with ⟨us2, os2, h2, h'⟩ | ⟨h2, rfl, rfl, rfl, rfl, rfl⟩
          · exact absurd h2 (h1 _ _)
          · exact ⟨rfl, rfl, rfl, rfl, rfl⟩

/-- What ReadUnit answers. -/
def UnitIs (s : ByteArray) (u : List ByteArray) (o : List OpR) (b : ByteArray) (c l : Int) : Prop :=
  (20000 < s.size ∧ u = [] ∧ o = [] ∧ b = ByteArray.empty ∧ c = 1 ∧ l = 0) ∨ (s.size ≤ 20000 ∧ UnF s (pcs 10 s 0) 1 [] [] u o b c l)

theorem UnitIs.one {s : ByteArray} {u u' : List ByteArray} {o o' : List OpR} {b b' : ByteArray} {c c' l l' : Int} (h : UnitIs s u o b c l) (h' : UnitIs s u' o' b' c' l') : u = u' ∧ o = o' ∧ b = b' ∧ c = c' ∧ l = l' := by
  rcases h with ⟨a, rfl, rfl, rfl, rfl, rfl⟩ | ⟨a, h⟩
  · rcases h' with ⟨_, rfl, rfl, rfl, rfl, rfl⟩ | ⟨a', _⟩
    · exact ⟨rfl, rfl, rfl, rfl, rfl⟩
    · omega
  · rcases h' with ⟨a', _⟩ | ⟨_, h'⟩
    · omega
    · exact UnF.one _ _ _ _ h h'
end Go.Proofs.YtokabkhnidlcnabGreatDoor
