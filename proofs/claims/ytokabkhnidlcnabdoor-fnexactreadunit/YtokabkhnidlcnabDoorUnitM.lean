/-
  Lines and words of a text, by places.
-/
import Derived.Test.YtokabkhnidlcnabDoorByteM
namespace Go.Proofs.YtokabkhnidlcnabDoor
set_option maxRecDepth 100000
set_option linter.unusedSimpArgs false
set_option linter.unusedVariables false

/-- The next place from i on where a byte c stands, or the text's end. -/
def nxF (c : UInt8) (s : ByteArray) : Nat → Nat → Nat
  | 0, i => i
  | n + 1, i => if i < s.size ∧ bt s i ≠ c then nxF c s n (i + 1) else i
def nx (c : UInt8) (s : ByteArray) (i : Nat) : Nat := nxF c s (s.size - i) i

theorem nxF_spec (c : UInt8) (s : ByteArray) : ∀ (n i : Nat), s.size - i ≤ n → i ≤ s.size → i ≤ nxF c s n i ∧ nxF c s n i ≤ s.size ∧ (∀ k, i ≤ k → k < nxF c s n i → bt s k ≠ c) ∧ (nxF c s n i < s.size → bt s (nxF c s n i) = c)
  | 0, i, hn, hi => by
    simp only [nxF]
    exact ⟨Nat.le_refl _, hi, fun k h1 h2 => by omega, fun h => by omega⟩
  | n + 1, i, hn, hi => by
    simp only [nxF]
    by_cases h : i < s.size ∧ bt s i ≠ c
    · rw [if_pos h]
      obtain ⟨h1, h2, h3, h4⟩ := nxF_spec c s n (i + 1) (by omega) (by omega)
      refine ⟨by omega, h2, fun k k1 k2 => ?_, h4⟩
      by_cases e : k = i
      · subst e; exact h.2
      · exact h3 k (by omega) k2
    · rw [if_neg h]
      refine ⟨Nat.le_refl _, hi, fun k h1 h2 => by omega, fun hl => ?_⟩
      by_cases e : bt s i = c
      · exact e
      · exact absurd ⟨hl, e⟩ h

theorem nx_spec (c : UInt8) (s : ByteArray) (i : Nat) (hi : i ≤ s.size) : i ≤ nx c s i ∧ nx c s i ≤ s.size ∧ (∀ k, i ≤ k → k < nx c s i → bt s k ≠ c) ∧ (nx c s i < s.size → bt s (nx c s i) = c) :=
  nxF_spec c s _ i (Nat.le_refl _) hi

/-- It is the only such place. -/
theorem nx_one {c : UInt8} {s : ByteArray} {i j : Nat} (hi : i ≤ s.size) (h1 : i ≤ j) (h2 : j ≤ s.size) (h3 : ∀ k, i ≤ k → k < j → bt s k ≠ c) (h4 : j < s.size → bt s j = c) : nx c s i = j := by
  obtain ⟨g1, g2, g3, g4⟩ := nx_spec c s i hi
  rcases Nat.lt_trichotomy (nx c s i) j with h | h | h
  · exact absurd (g4 (by omega)) (h3 _ g1 h)
  · exact h
  · exact absurd (h4 (by omega)) (g3 _ h1 h)

/-- The pieces from i on: where each begins and ends. -/
def pcF (c : UInt8) (s : ByteArray) : Nat → Nat → List (Nat × Nat)
  | 0, _ => []
  | n + 1, i => (i, nx c s i) :: (if nx c s i < s.size then pcF c s n (nx c s i + 1) else [])
def pcs (c : UInt8) (s : ByteArray) (i : Nat) : List (Nat × Nat) := pcF c s (s.size - i + 1) i

theorem pcF_more (c : UInt8) (s : ByteArray) : ∀ (n m i : Nat), i ≤ s.size → s.size - i + 1 ≤ n → s.size - i + 1 ≤ m → pcF c s n i = pcF c s m i
  | 0, _, i, hi, hn, _ => by omega
  | _ + 1, 0, i, hi, _, hm => by omega
  | n + 1, m + 1, i, hi, hn, hm => by
    simp only [pcF]
    congr 1
    have h := nx_spec c s i hi
    by_cases hl : nx c s i < s.size
    · rw [if_pos hl, if_pos hl]
      exact pcF_more c s n m _ (by omega) (by omega) (by omega)
    · rw [if_neg hl, if_neg hl]

theorem pcs_step (c : UInt8) (s : ByteArray) (i : Nat) (hi : i ≤ s.size) : pcs c s i = (i, nx c s i) :: (if nx c s i < s.size then pcs c s (nx c s i + 1) else []) := by
  have h := nx_spec c s i hi
  conv => lhs; unfold pcs
  simp only [pcF]
  congr 1
  by_cases hl : nx c s i < s.size
  · rw [if_pos hl, if_pos hl]
    exact pcF_more c s _ _ _ (by omega) (by omega) (by omega)
  · rw [if_neg hl, if_neg hl]

/-- The words of a line. -/
def wds (l : ByteArray) : List ByteArray := ((pcs 32 l 0).filter (fun p => decide (p.1 < p.2))).map (fun p => l.extract p.1 p.2)

/-- The words of a line from place i on. -/
def wdsFrom (l : ByteArray) (i : Nat) : List ByteArray := ((pcs 32 l i).filter (fun p => decide (p.1 < p.2))).map (fun p => l.extract p.1 p.2)

theorem wds_from (l : ByteArray) : wds l = wdsFrom l 0 := rfl

theorem wdsFrom_step (l : ByteArray) (i : Nat) (hi : i ≤ l.size) : wdsFrom l i = (if i < nx 32 l i then [l.extract i (nx 32 l i)] else []) ++ (if nx 32 l i < l.size then wdsFrom l (nx 32 l i + 1) else []) := by
  unfold wdsFrom
  rw [pcs_step 32 l i hi]
  by_cases h1 : i < nx 32 l i
  · rw [if_pos h1, List.filter_cons_of_pos (by simpa using h1)]
    by_cases h2 : nx 32 l i < l.size
    · rw [if_pos h2, if_pos h2]; rfl
    · rw [if_neg h2, if_neg h2]; rfl
  · rw [if_neg h1, List.filter_cons_of_neg (by simpa using h1)]
    by_cases h2 : nx 32 l i < l.size
    · rw [if_pos h2, if_pos h2]; rfl
    · rw [if_neg h2, if_neg h2]; rfl

/-- The texts of the words of a header. -/
def bB (l : List UInt8) : ByteArray := ⟨l.toArray⟩
def wBegin : ByteArray := ⟨#[98, 101, 103, 105, 110]⟩
def wUse : ByteArray := ⟨#[117, 115, 101]⟩
def wPrefix : ByteArray := ⟨#[112, 114, 101, 102, 105, 120]⟩
def wInfix : ByteArray := ⟨#[105, 110, 102, 105, 120]⟩
def wPostfix : ByteArray := ⟨#[112, 111, 115, 116, 102, 105, 120]⟩
def wLeft : ByteArray := ⟨#[108, 101, 102, 116]⟩
def wRight : ByteArray := ⟨#[114, 105, 103, 104, 116]⟩
def wNone : ByteArray := ⟨#[110, 111, 110, 101]⟩

/-- A word of 1 to 6 digits. -/
def LevW (w : ByteArray) : Prop := 1 ≤ w.size ∧ w.size ≤ 6 ∧ ∀ i, i < w.size → 48 ≤ (bt w i).toNat ∧ (bt w i).toNat ≤ 57
/-- The value of digits. -/
def valTo (w : ByteArray) : Nat → Nat
  | 0 => 0
  | k + 1 => valTo w k * 10 + ((bt w k).toNat - 48)
def sideW (w : ByteArray) : Int := if w = wLeft then 1 else if w = wRight then 2 else if w = wNone then 3 else 0

theorem valTo_le (w : ByteArray) (h : ∀ i, i < w.size → 48 ≤ (bt w i).toNat ∧ (bt w i).toNat ≤ 57) : ∀ k, k ≤ w.size → valTo w k < 10 ^ k
  | 0, _ => by simp [valTo]
  | k + 1, hk => by
    have := valTo_le w h k (by omega)
    have := h k (by omega)
    simp only [valTo, Nat.pow_succ]
    omega
end Go.Proofs.YtokabkhnidlcnabDoor
