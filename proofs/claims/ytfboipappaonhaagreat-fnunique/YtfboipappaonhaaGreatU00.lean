import Derived.Test.YtfboipappaonhaaGreatRows
import Derived.WalkKit
import Derived.WalkSpells
import Derived.WalkLawsBesides
import Derived.Lib.Walk
import Derived.Deep.Light
import Derived.Deep.MidRow
import Derived.Lib.Bytealg
import Derived.Laws.MakeOwn

/-
  Small words of every walk: what is kept from the walk, cells behind a call.
-/
namespace Go.Proofs.YtfboipappaonhaaGreat
set_option maxRecDepth 100000
open Go.RowKit

theorem hide {p : Prop} (h : p) : Hid p := h
theorem unhide {p : Prop} (h : Hid p) : p := h
theorem bcell {W w1 : World} (hb : Below W.heap.size W w1) : (∀ b o, b < W.heap.size → w1.cell? ⟨b, o, none⟩ = W.cell? ⟨b, o, none⟩) ∧ (∀ b o, b < W.heap.size → w1.frozen? ⟨b, o, none⟩ = W.frozen? ⟨b, o, none⟩) :=
  ⟨fun b o h => hb.cell (p := ⟨b, o, none⟩) h, fun b o h => hb.frozen (p := ⟨b, o, none⟩) h⟩
theorem ret_bool {a b : Bool} (h : a = b) : Ending.returned (.bool a) = .returned (.bool b) := by rw [h]
theorem ret_int {k : IntKind} {a b : Int} (h : a = b) : Ending.returned (.int k a) = .returned (.int k b) := by rw [h]

theorem ret_str {a b : ByteArray} (h : a = b) : Ending.returned (.string a) = .returned (.string b) := by rw [h]
theorem below1 (w : World) (o) : Below w.heap.size w (w.alloc o) := (Below.refl _ _).alloc (Nat.le_refl _) _

theorem below_setCells {B : Nat} {a : World} {g : Nat} (hg : B ≤ g) : ∀ (vs : List Value) (o : Nat) (w : World), Below B a w → Below B a (w.setCells g o vs)
  | [], _, _, h => h
  | v :: r, o, _, h => below_setCells hg r (o + 1) _ (h.setCell (p := ⟨g, o, none⟩) hg v)
end Go.Proofs.YtfboipappaonhaaGreat

/-
  The plain mathematics of chapter 1: signs, well-formed operators, holes. Nothing of the program is imported.
-/
namespace Go.Proofs.YtfboipappaonhaaGreat
set_option maxRecDepth 100000

/-- The 18 signs, as bytes. -/
def sgL : List UInt8 := [43, 45, 42, 47, 60, 62, 61, 33, 38, 124, 94, 126, 63, 58, 64, 37, 36, 46]

def sgB (c : UInt8) : Bool := sgL.contains c

/-- All bytes are signs. -/
def sgsB (l : List UInt8) : Bool := l.all sgB

/-- A text is 1 to 16 signs. -/
def txtB (s : ByteArray) : Bool := sgsB s.data.toList && decide (1 ≤ s.size) && decide (s.size ≤ 16)

/-- Kind and side fit. -/
def sideB (k sd : Int) : Bool := (k == 2 && (sd == 1 || sd == 2 || sd == 3)) || ((k == 1 || k == 3) && sd == 0)

def okB (s : ByteArray) (k l sd : Int) : Bool := txtB s && decide (1 ≤ l) && decide (l ≤ 1000) && sideB k sd

/-- What szOp leaves. -/
def szI (left : Int) (n : Nat) : Int := if left < n then -1 else left - n

/-- The least of a hole of an infix operator. -/
def infI (l sd : Int) (b : Bool) : Int := if sd = (if b then 2 else 1) then l else l + 1

/-- The least of a hole. -/
def holeI (s : ByteArray) (k l sd : Int) (b : Bool) : Int :=
  if okB s k l sd = false then 0 else if k = 2 then infI l sd b else if b then 0 else l

/-- The five shapes of a well-formed operator. -/
theorem ok_shape (s : ByteArray) (k l sd : Int) (h : okB s k l sd = true) :
    (1 ≤ l ∧ l ≤ 1000) ∧ ((k = 2 ∧ sd = 1) ∨ (k = 2 ∧ sd = 2) ∨ (k = 2 ∧ sd = 3) ∨ (k = 1 ∧ sd = 0) ∨ (k = 3 ∧ sd = 0)) := by
  simp only [okB, sideB, Bool.and_eq_true, Bool.or_eq_true, decide_eq_true_eq, beq_iff_eq] at h
  omega

theorem hole_bad (s : ByteArray) (k l sd : Int) (b : Bool) (h : okB s k l sd = false) : holeI s k l sd b = 0 := by
  simp [holeI, h]

theorem idx_sg (c : UInt8) : (decide (0 ≤ Lib.indexByte sgL c)) = sgB c := by
  obtain ⟨v⟩ := c
  revert v
  decide +kernel

theorem sgB_none (c : UInt8) (h : ∀ j, j < 18 → sgL.getD j 0 ≠ c) : sgB c = false := by
  have h' : ∀ x ∈ sgL, x ≠ c := by
    intro x hx
    obtain ⟨j, hj, e⟩ := List.getElem_of_mem hx
    have := h j hj
    rw [List.getD_eq_getElem?_getD, List.getElem?_eq_getElem hj] at this
    simpa [e] using this
  unfold sgB
  simp only [List.contains_eq_mem, decide_eq_false_iff_not]
  intro hc
  exact h' c hc rfl

theorem sgB_some (c : UInt8) (j : Nat) (hj : j < 18) (h : sgL.getD j 0 = c) : sgB c = true := by
  unfold sgB
  simp only [List.contains_eq_mem, decide_eq_true_eq]
  rw [List.getD_eq_getElem?_getD, List.getElem?_eq_getElem hj] at h
  rw [← h]
  exact List.getElem_mem _

theorem sgs_snoc (l : List UInt8) (c : UInt8) : sgsB (l ++ [c]) = (sgsB l && sgB c) := by
  simp [sgsB]

theorem take_snoc (s : ByteArray) (k : Nat) (h : k < s.size) : s.data.toList.take (k + 1) = s.data.toList.take k ++ [s[k]] := by
  rw [List.take_succ_eq_append_getElem (by simpa using h)]; rfl

theorem sgs_full (s : ByteArray) (k : Nat) (h : ¬ k < s.size) : s.data.toList.take k = s.data.toList := by
  rw [List.take_of_length_le]; simp; omega

theorem sgs_false (s : ByteArray) (k : Nat) (h : k < s.size) (hb : sgB s[k] = false) : sgsB s.data.toList = false := by
  have hm : s[k] ∈ s.data.toList := by
    have : s[k] = s.data.toList[k]'(by simpa using h) := rfl
    rw [this]; exact List.getElem_mem _
  simp only [sgsB, List.all_eq_false]
  exact ⟨_, hm, by simp [hb]⟩

theorem u8_eq (a c : UInt8) (h : ((a.toNat : Int) == (c.toNat : Int)) = true) : a = c := by
  have := beq_iff_eq.1 h
  exact UInt8.toNat_inj.1 (by omega)

theorem u8_ne (a c : UInt8) (h : ((a.toNat : Int) == (c.toNat : Int)) = false) : a ≠ c := by
  intro e
  subst e
  simp at h

theorem lit_get (k : Nat) (h : k < 18) (h' : k < (ByteArray.mk #[43, 45, 42, 47, 60, 62, 61, 33, 38, 124, 94, 126, 63, 58, 64, 37, 36, 46]).size) :
    (ByteArray.mk #[43, 45, 42, 47, 60, 62, 61, 33, 38, 124, 94, 126, 63, 58, 64, 37, 36, 46])[k]'h' = sgL.getD k 0 := by
  have e : ∀ i : Fin 18, (ByteArray.mk #[43, 45, 42, 47, 60, 62, 61, 33, 38, 124, 94, 126, 63, 58, 64, 37, 36, 46])[i.val]'i.isLt = sgL.getD i.val 0 := by decide
  exact e ⟨k, h⟩

theorem u8_back (c : UInt8) : ((c.toNat : Int)).toNat.toUInt8 = c := by
  simp

end Go.Proofs.YtfboipappaonhaaGreat

/-
  Lists of operators in memory: their cells.
-/
namespace Go.Proofs.YtfboipappaonhaaGreat
set_option maxRecDepth 100000
open Go.RowKit

/-- An operator, as its four fields. -/
structure OpR where
  s : ByteArray
  k : Int
  l : Int
  sd : Int

def OpR.ok (o : OpR) : Bool := okB o.s o.k o.l o.sd
def OpR.zero : OpR := ⟨⟨#[]⟩, 0, 0, 0⟩
def OpR.cells (o : OpR) : Array Value := #[.string o.s, .int .i64 o.k, .int .i64 o.l, .int .i64 o.sd]

/-- The operator at a place. -/
def atO (xs : List OpR) (i : Nat) : OpR := xs.getD i OpR.zero

/-- The four cells of the operator at place i. -/
def CellsAt (w : World) (b off : Nat) (xs : List OpR) (i : Nat) : Prop :=
  w.cell? ⟨b, off + i * 4, none⟩ = some (.string (atO xs i).s) ∧ w.cell? ⟨b, off + i * 4 + 1, none⟩ = some (.int .i64 (atO xs i).k) ∧
    w.cell? ⟨b, off + i * 4 + 2, none⟩ = some (.int .i64 (atO xs i).l) ∧ w.cell? ⟨b, off + i * 4 + 3, none⟩ = some (.int .i64 (atO xs i).sd)

/-- The cells of a row of operators. -/
def Ops (w : World) (b off : Nat) (xs : List OpR) : Prop := ∀ i, i < xs.length → CellsAt w b off xs i

/-- No text is too long for a text. -/
def Sized (xs : List OpR) : Prop := ∀ i, i < xs.length → (atO xs i).s.size ≤ maxLen

theorem CellsAt.below {w w' : World} {b off i : Nat} {xs : List OpR} {B : Nat} (h : CellsAt w b off xs i) (hb : Below B w w') (hB : b < B) : CellsAt w' b off xs i := by
  obtain ⟨h0, h1, h2, h3⟩ := h
  exact ⟨(hb.cell (p := ⟨b, _, none⟩) hB).trans h0, (hb.cell (p := ⟨b, _, none⟩) hB).trans h1, (hb.cell (p := ⟨b, _, none⟩) hB).trans h2, (hb.cell (p := ⟨b, _, none⟩) hB).trans h3⟩

theorem Ops.below {w w' : World} {b off : Nat} {xs : List OpR} {B : Nat} (h : Ops w b off xs) (hb : Below B w w') (hB : b < B) : Ops w' b off xs :=
  fun i hi => (h i hi).below hb hB

/-- A slice of operators that came in: empty, or its cells lie there. -/
def Arg (w : World) (a : Option Addr) (xs : List OpR) : Prop := xs.length = 0 ∨ ∃ b off, a = some ⟨b, off, none⟩ ∧ Ops w b off xs ∧ b < w.heap.size

def okTo (xs : List OpR) (k : Nat) : Prop := ∀ j, j < k → (atO xs j).ok = true

theorem okTo_succ {xs : List OpR} {k : Nat} (h : okTo xs k) (hk : (atO xs k).ok = true) : okTo xs (k + 1) := by
  intro j hj
  by_cases e : j = k
  · subst e; exact hk
  · exact h j (by omega)

/-- What is left of 'left', as szOpS has it: less than nothing, or the list and what is left fit. -/
def Left (left r : Int) (n : Nat) : Prop := r < 0 ∨ (0 ≤ r ∧ r + n ≤ left)
end Go.Proofs.YtfboipappaonhaaGreat
