/-
  Lists of operators in memory: their cells.
-/
import Derived.Test.YtokabkhnidlcnabDoorBase
import Derived.Test.YtokabkhnidlcnabDoorMath
import Derived.Deep.MidRow
import Derived.Laws.MakeOwn
namespace Go.Proofs.YtokabkhnidlcnabDoor
set_option maxRecDepth 100000
open Go.RowKit

/-- An operator, as its four fields. -/
structure OpR where
  s : ByteArray
  k : Int
  l : Int
  sd : Int

def OpR.ok (o : OpR) : Bool := okB o.s o.k o.l o.sd
def OpR.zero : OpR := ⟨⟨#[]⟩, 0, 0, 0⟩
def OpR.cells (o : OpR) : Array Value := #[.string o.s, .int .i64 o.k, .int .i64 o.l, .int .i64 o.sd]

/-- The operator at a place. -/
def atO (xs : List OpR) (i : Nat) : OpR := xs.getD i OpR.zero

/-- The four cells of the operator at place i. -/
def CellsAt (w : World) (b off : Nat) (xs : List OpR) (i : Nat) : Prop :=
  w.cell? ⟨b, off + i * 4, none⟩ = some (.string (atO xs i).s) ∧ w.cell? ⟨b, off + i * 4 + 1, none⟩ = some (.int .i64 (atO xs i).k) ∧
    w.cell? ⟨b, off + i * 4 + 2, none⟩ = some (.int .i64 (atO xs i).l) ∧ w.cell? ⟨b, off + i * 4 + 3, none⟩ = some (.int .i64 (atO xs i).sd)

/-- The cells of a row of operators. -/
def Ops (w : World) (b off : Nat) (xs : List OpR) : Prop := ∀ i, i < xs.length → CellsAt w b off xs i

/-- No text is too long for a text. -/
def Sized (xs : List OpR) : Prop := ∀ i, i < xs.length → (atO xs i).s.size ≤ maxLen

theorem CellsAt.below {w w' : World} {b off i : Nat} {xs : List OpR} {B : Nat} (h : CellsAt w b off xs i) (hb : Below B w w') (hB : b < B) : CellsAt w' b off xs i := by
  obtain ⟨h0, h1, h2, h3⟩ := h
  exact ⟨(hb.cell (p := ⟨b, _, none⟩) hB).trans h0, (hb.cell (p := ⟨b, _, none⟩) hB).trans h1, (hb.cell (p := ⟨b, _, none⟩) hB).trans h2, (hb.cell (p := ⟨b, _, none⟩) hB).trans h3⟩

theorem Ops.below {w w' : World} {b off : Nat} {xs : List OpR} {B : Nat} (h : Ops w b off xs) (hb : Below B w w') (hB : b < B) : Ops w' b off xs :=
  fun i hi => (h i hi).below hb hB

/-- A slice of operators that came in: empty, or its cells lie there. -/
def Arg (w : World) (a : Option Addr) (xs : List OpR) : Prop := xs.length = 0 ∨ ∃ b off, a = some ⟨b, off, none⟩ ∧ Ops w b off xs ∧ b < w.heap.size

def okTo (xs : List OpR) (k : Nat) : Prop := ∀ j, j < k → (atO xs j).ok = true

theorem okTo_succ {xs : List OpR} {k : Nat} (h : okTo xs k) (hk : (atO xs k).ok = true) : okTo xs (k + 1) := by
  intro j hj
  by_cases e : j = k
  · subst e; exact hk
  · exact h j (by omega)

/-- What is left of 'left', as szOpS has it: less than nothing, or the list and what is left fit. -/
def Left (left r : Int) (n : Nat) : Prop := r < 0 ∨ (0 ≤ r ∧ r + n ≤ left)
end Go.Proofs.YtokabkhnidlcnabDoor
