/-
  Walk: the draw of a table and a text.
-/
import Derived.Test.YtokabkhnidlcnaaDrawBad3
import Derived.Test.YtokabkhnidlcnaaByteRow
namespace Go.Proofs.Ytokabkhnidlcnaa
set_option maxRecDepth 100000
set_option linter.unusedSimpArgs false
set_option linter.unusedVariables false
open Go.RowKit

/-- The text and the place when i words are drawn. -/
def lexS (xs : List OpR) (bs : List UInt8) (p : Nat) : Nat → ByteArray × Nat
  | 0 => (⟨#[]⟩, p)
  | i + 1 => ((lexS xs bs p i).1 ++ gapN (nxt bs (lexS xs bs p i).2) ++ wordN xs bs (adv bs (lexS xs bs p i).2), wordP xs bs (adv bs (lexS xs bs p i).2))

/-- How many words are drawn. -/
def LexN (xs : List OpR) (bs : List UInt8) (p i : Nat) : Prop := 3 ≤ i ∧ bs.length ≤ (lexS xs bs p i).2 ∧ ∀ j, j < i → j < 3 ∨ (lexS xs bs p j).2 < bs.length

theorem LexN.one {xs : List OpR} {bs : List UInt8} {p i j : Nat} (h : LexN xs bs p i) (h' : LexN xs bs p j) : i = j := by
  rcases Nat.lt_trichotomy i j with e | e | e
  · have := h'.2.2 i e; have := h.1; have := h.2.1; omega
  · exact e
  · have := h.2.2 j e; have := h'.1; have := h'.2.1; omega

theorem wordN_size {xs : List OpR} (hx : ∀ i, i < xs.length → (atO xs i).s.size ≤ 1001) (bs : List UInt8) (p : Nat) : (wordN xs bs p).size ≤ 1001 := by
  have e1 : (⟨#[97, 49, 95, 98]⟩ : ByteArray).size = 4 := rfl
  have e2 : (⟨#[49, 48, 50, 55]⟩ : ByteArray).size = 4 := rfl
  unfold wordN
  split
  · rename_i h
    exact hx _ (Nat.mod_lt _ h.2)
  · split
    · decide
    · split
      · decide
      · split
        · rw [ByteArray.size_extract]; omega
        · split
          · have := txN_size (nxt bs p); omega
          · split
            · show 1 ≤ 1001; omega
            · rw [ByteArray.size_extract]; omega

theorem lexS_size {xs : List OpR} (hx : ∀ i, i < xs.length → (atO xs i).s.size ≤ 1001) (bs : List UInt8) (p : Nat) : ∀ i, (lexS xs bs p i).1.size ≤ 1003 * i
  | 0 => Nat.le_refl _
  | i + 1 => by
    have h1 := lexS_size hx bs p i
    have h2 := gapN_size (nxt bs (lexS xs bs p i).2)
    have h3 := wordN_size hx bs (adv bs (lexS xs bs p i).2)
    show ((lexS xs bs p i).1 ++ gapN (nxt bs (lexS xs bs p i).2) ++ wordN xs bs (adv bs (lexS xs bs p i).2)).size ≤ _
    rw [ByteArray.size_append, ByteArray.size_append]
    omega

theorem adv_ge (bs : List UInt8) (p : Nat) : p ≤ adv bs p := by unfold adv; split <;> omega
theorem adv_gt {bs : List UInt8} {p : Nat} (h : p < bs.length) : adv bs p = p + 1 := by unfold adv; rw [if_pos h]
theorem wordP_ge (xs : List OpR) (bs : List UInt8) (p : Nat) : p ≤ wordP xs bs p := by
  have h1 := adv_ge bs p
  have h2 := adv_ge bs (adv bs p)
  unfold wordP
  repeat' split
  all_goals omega

/-- Each word takes a number, as long as there are some. -/
theorem lexS_far (xs : List OpR) (bs : List UInt8) (p : Nat) (h : p ≤ bs.length) : ∀ i, (∀ j, j < i → j < 3 ∨ (lexS xs bs p j).2 < bs.length) → i ≤ 3 + (lexS xs bs p i).2
  | 0, _ => by omega
  | i + 1, hj => by
    have ih := lexS_far xs bs p h i (fun j hj' => hj j (by omega))
    have h2 := wordP_ge xs bs (adv bs (lexS xs bs p i).2)
    have h3 := adv_ge bs (lexS xs bs p i).2
    show i + 1 ≤ 3 + wordP xs bs (adv bs (lexS xs bs p i).2)
    rcases hj i (by omega) with h4 | h4
    · omega
    · have h5 := adv_gt h4
      omega

/-- What is drawn: the table and the place behind it. -/
def TabD (bs : List UInt8) (xs : List OpR) (q : Nat) : Prop :=
  ∃ ys p, TabTo bs (adv bs (adv bs 0)) (3 + nxt bs (adv bs 0) % 8) ys p ∧ ((nxt bs 0 % 16 = 15 ∧ xs = badT ys bs p ∧ q = badP ys bs p) ∨ (nxt bs 0 % 16 ≠ 15 ∧ xs = ys ∧ q = p))

theorem TabD.one {bs : List UInt8} {xs xs' : List OpR} {q q' : Nat} (h : TabD bs xs q) (h' : TabD bs xs' q') : xs = xs' ∧ q = q' := by
  obtain ⟨ys, p, ht, hc⟩ := h
  obtain ⟨ys', p', ht', hc'⟩ := h'
  obtain ⟨rfl, rfl⟩ := ht.one ht'
  rcases hc with ⟨h, rfl, rfl⟩ | ⟨h, rfl, rfl⟩ <;> rcases hc' with ⟨h', rfl, rfl⟩ | ⟨h', rfl, rfl⟩
  · exact ⟨rfl, rfl⟩
  · exact absurd h h'
  · exact absurd h' h
  · exact ⟨rfl, rfl⟩

/-- Blanks up to a length. -/
def padTo (s : ByteArray) (n : Nat) : ByteArray := ⟨(s.data.toList ++ List.replicate (n - s.size) (32 : UInt8)).toArray⟩

/-- What DrawLex draws. -/
def LexD (bs : List UInt8) (xs : List OpR) (s : ByteArray) : Prop :=
  ∃ q i, TabD bs xs q ∧ LexN xs bs q i ∧ s = if nxt bs 0 % 16 = 14 then padTo (lexS xs bs q i).1 (20000 + nxt bs 0 / 16 % 3 - 1) else (lexS xs bs q i).1

theorem LexD.one {bs : List UInt8} {xs xs' : List OpR} {s s' : ByteArray} (h : LexD bs xs s) (h' : LexD bs xs' s') : xs = xs' ∧ s = s' := by
  obtain ⟨q, i, ht, hn, hs⟩ := h
  obtain ⟨q', i', ht', hn', hs'⟩ := h'
  obtain ⟨rfl, rfl⟩ := ht.one ht'
  obtain rfl := hn.one hn'
  exact ⟨rfl, hs.trans hs'.symm⟩

/-- A drawn table is short, and its texts are. -/
theorem TabTo.len {bs : List UInt8} {p0 : Nat} : ∀ {k : Nat} {xs : List OpR} {p : Nat}, TabTo bs p0 k xs p → xs.length ≤ k ∧ ∀ i, i < xs.length → (atO xs i).s.size ≤ 16
  | 0, xs, p, h => by
    obtain ⟨rfl, _⟩ := h
    exact ⟨Nat.zero_le _, fun i hi => by simp at hi⟩
  | k + 1, xs, p, h => by
    obtain ⟨ys, q, ht, _, hc⟩ := h
    obtain ⟨h1, h2⟩ := ht.len
    rcases hc with ⟨_, rfl⟩ | ⟨_, rfl⟩
    · refine ⟨by simp; omega, fun i hi => ?_⟩
      by_cases e : i < ys.length
      · have : atO (ys ++ [drOp (nxt bs q) (nxt bs (adv bs q)) true]) i = atO ys i := by unfold atO; simp [List.getD, List.getElem?_append, e]
        rw [this]; exact h2 i e
      · have e2 : i = ys.length := by simp at hi; omega
        have : atO (ys ++ [drOp (nxt bs q) (nxt bs (adv bs q)) true]) i = drOp (nxt bs q) (nxt bs (adv bs q)) true := by unfold atO; simp [List.getD, e2]
        rw [this]
        show (txN _).size ≤ 16
        have := txN_size (nxt bs (adv bs q))
        omega
    · exact ⟨by omega, h2⟩
end Go.Proofs.Ytokabkhnidlcnaa
