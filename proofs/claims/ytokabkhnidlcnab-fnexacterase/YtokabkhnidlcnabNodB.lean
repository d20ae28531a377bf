/-
  Lists of nodes in memory.
-/
import Derived.Test.YtokabkhnidlcnabBase
import Derived.Deep.MidRow
import Derived.Deep.RegionHeld
import Derived.Laws.MakeOwn
import Derived.OwnWalk
import Derived.Laws.OwnMore
namespace Go.Proofs.Ytokabkhnidlcnab
set_option maxRecDepth 100000
open Go.RowKit

structure NodeR where
  k : Int
  t : ByteArray
  a : Int
  b : Int

def NodeR.zero : NodeR := ⟨0, ⟨#[]⟩, 0, 0⟩
def atN (xs : List NodeR) (i : Nat) : NodeR := xs.getD i NodeR.zero

/-- The cells of the element at place i. -/
def CellsN (w : World) (b off : Nat) (xs : List NodeR) (i : Nat) : Prop :=
  w.cell? ⟨b, off + i * 4, none⟩ = some (.int .i64 (atN xs i).k) ∧ w.cell? ⟨b, off + i * 4 + 1, none⟩ = some (.string (atN xs i).t) ∧ w.cell? ⟨b, off + i * 4 + 2, none⟩ = some (.int .i64 (atN xs i).a) ∧ w.cell? ⟨b, off + i * 4 + 3, none⟩ = some (.int .i64 (atN xs i).b)

def OpsN (w : World) (b off : Nat) (xs : List NodeR) : Prop := ∀ i, i < xs.length → CellsN w b off xs i

/-- No text is too long for a text. -/
def SizedN (xs : List NodeR) : Prop := ∀ i, i < xs.length → (atN xs i).t.size ≤ maxLen

theorem CellsN.below {w w' : World} {b off i : Nat} {xs : List NodeR} {B : Nat} (h : CellsN w b off xs i) (hb : Below B w w') (hB : b < B) : CellsN w' b off xs i := by
  obtain ⟨h0, h1, h2, h3⟩ := h
  exact ⟨(hb.cell (p := ⟨b, _, none⟩) hB).trans h0, (hb.cell (p := ⟨b, _, none⟩) hB).trans h1, (hb.cell (p := ⟨b, _, none⟩) hB).trans h2, (hb.cell (p := ⟨b, _, none⟩) hB).trans h3⟩

theorem OpsN.below {w w' : World} {b off : Nat} {xs : List NodeR} {B : Nat} (h : OpsN w b off xs) (hb : Below B w w') (hB : b < B) : OpsN w' b off xs :=
  fun i hi => (h i hi).below hb hB

def ArgN (w : World) (a : Option Addr) (xs : List NodeR) : Prop := xs.length = 0 ∨ ∃ b off, a = some ⟨b, off, none⟩ ∧ OpsN w b off xs ∧ b < w.heap.size

theorem ArgN.below {w w' : World} {a : Option Addr} {xs : List NodeR} (h : ArgN w a xs) (hb : Below w.heap.size w w') : ArgN w' a xs := by
  rcases h with h | ⟨b, off, rfl, h1, h2⟩
  · exact Or.inl h
  · exact Or.inr ⟨b, off, rfl, h1.below hb h2, Nat.lt_of_lt_of_le h2 hb.size⟩

theorem ArgN.alloc {w : World} {a : Option Addr} {xs : List NodeR} (h : ArgN w a xs) (o : Obj) : ArgN (w.alloc o) a xs := h.below (below1 _ _)

/-- The bytes of an element. -/
def totN (o : NodeR) : Nat := o.t.size
def totToN (xs : List NodeR) : Nat → Nat
  | 0 => 0
  | k + 1 => totToN xs k + totN (atN xs k)

/-- A row that is being filled: k elements lie there; all its cells may be written. -/
def FilledN (w : World) (g : Nat) (xs : List NodeR) (k : Nat) : Prop :=
  g < w.heap.size ∧ w.there g 0 (xs.length * 4) ∧ ∀ i, i < k → CellsN w g 0 xs i

theorem FilledN.grown {w w' : World} {g k : Nat} {xs : List NodeR} {row : Option Nat} (h : FilledN w g xs k) (hg : w.grownBy w' row) (hne : some g ≠ row) : FilledN w' g xs k := by
  obtain ⟨h1, h2, h3⟩ := h
  have hb := hg.block g h1 hne
  have e : ∀ o, w'.cell? ⟨g, o, none⟩ = w.cell? ⟨g, o, none⟩ := fun o => World.cell?_of_block (w := w) hb
  have f : ∀ o, w'.frozen? ⟨g, o, none⟩ = w.frozen? ⟨g, o, none⟩ := fun o => World.frozen?_of_block (w := w) hb
  refine ⟨Nat.lt_of_lt_of_le h1 hg.size, fun j hj => ⟨by rw [e]; exact (h2 j hj).1, by rw [f]; exact (h2 j hj).2⟩, fun i hi => ?_⟩
  obtain ⟨a0, a1, a2, a3⟩ := h3 i hi
  exact ⟨(e _).trans a0, (e _).trans a1, (e _).trans a2, (e _).trans a3⟩

theorem FilledN.below {w w' : World} {g k : Nat} {xs : List NodeR} {B : Nat} (h : FilledN w g xs k) (hb : Below B w w') (hB : g < B) : FilledN w' g xs k := by
  obtain ⟨h1, h2, h3⟩ := h
  refine ⟨Nat.lt_of_lt_of_le h1 hb.size, fun j hj => ?_, fun i hi => (h3 i hi).below hb hB⟩
  have := h2 j hj
  exact ⟨by rw [hb.cell (p := ⟨g, _, none⟩) hB]; exact this.1, by rw [hb.frozen (p := ⟨g, _, none⟩) hB]; exact this.2⟩

theorem FilledN.setCell {w : World} {g k : Nat} {xs : List NodeR} (h : FilledN w g xs k) (b o : Nat) (v : Value) (hp : b ≠ g) : FilledN (w.setCell ⟨b, o, none⟩ v) g xs k :=
  h.grown (row := some b) ⟨rfl, rfl, rfl, by simp [World.setCell], fun i _ hi => Below.heap_setCell _ _ _ _ (fun e => hi (by rw [e]))⟩ (fun e => hp (Option.some.inj e).symm)

theorem FilledN.ops {w : World} {g : Nat} {xs : List NodeR} (h : FilledN w g xs xs.length) : OpsN w g 0 xs := fun i hi => h.2.2 i hi

theorem FilledN.anew {w : World} {g : Nat} {xs ys : List NodeR} {k : Nat} (h : FilledN w g xs k) (hl : xs.length = ys.length) : FilledN w g ys 0 :=
  ⟨h.1, hl ▸ h.2.1, fun i hi => absurd hi (Nat.not_lt_zero i)⟩

theorem FilledN.step {w : World} {g k : Nat} {xs : List NodeR} (h : FilledN w g xs k) (hk : k < xs.length) :
    FilledN (w.setCells g (k * 4) [.int .i64 (atN xs k).k, .string (atN xs k).t, .int .i64 (atN xs k).a, .int .i64 (atN xs k).b]) g xs (k + 1) := by
  obtain ⟨h1, h2, h3⟩ := h
  have hin := World.cell?_setCells_in g [.int .i64 (atN xs k).k, .string (atN xs k).t, .int .i64 (atN xs k).a, .int .i64 (atN xs k).b] (k * 4) w (fun j hj => by
    have := (h2 (k * 4 + j) (by simp at hj; omega)).1
    simpa using this)
  refine ⟨?_, World.there_setCells h2 _ _ _, fun i hi => ?_⟩
  · simpa [World.setCells, World.setCell] using h1
  · by_cases e : i = k
    · subst e
      exact ⟨by simpa using hin 0 (by simp), by simpa using hin 1 (by simp), by simpa using hin 2 (by simp), by simpa using hin 3 (by simp)⟩
    · have hi' : i < k := by omega
      obtain ⟨c0, c1, c2, c3⟩ := h3 i hi'
      refine ⟨?_, ?_, ?_, ?_⟩
      all_goals
        rw [World.cell?_setCells_out g _ _ _ _ (fun _ _ => Or.inl (by simp; omega))]
        assumption

theorem FilledN.step_of {w : World} {g k : Nat} {xs : List NodeR} (h : FilledN w g xs k) (hk : k < xs.length) {o : NodeR} (e : atN xs k = o) :
    FilledN (w.setCells g (k * 4) [.int .i64 o.k, .string o.t, .int .i64 o.a, .int .i64 o.b]) g xs (k + 1) := by
  subst e
  exact h.step hk

theorem fill_cellsN {w : World} {g k : Nat} {xs : List NodeR} (h : FilledN w g xs k) (hk : k < xs.length) :
    ((∃ v, w.cell? ⟨g, k * 4, none⟩ = some v) ∧ w.frozen? ⟨g, k * 4, none⟩ = false) ∧ ((∃ v, w.cell? ⟨g, k * 4 + 1, none⟩ = some v) ∧ w.frozen? ⟨g, k * 4 + 1, none⟩ = false) ∧ ((∃ v, w.cell? ⟨g, k * 4 + 2, none⟩ = some v) ∧ w.frozen? ⟨g, k * 4 + 2, none⟩ = false) ∧ ((∃ v, w.cell? ⟨g, k * 4 + 3, none⟩ = some v) ∧ w.frozen? ⟨g, k * 4 + 3, none⟩ = false) := by
  have h0 := h.2.1 (k * 4) (by omega)
  have h1 := h.2.1 (k * 4 + 1) (by omega)
  have h2 := h.2.1 (k * 4 + 2) (by omega)
  have h3 := h.2.1 (k * 4 + 3) (by omega)
  simp only [Nat.zero_add] at h0 h1 h2 h3
  exact ⟨⟨Option.isSome_iff_exists.1 h0.1, h0.2⟩, ⟨Option.isSome_iff_exists.1 h1.1, h1.2⟩, ⟨Option.isSome_iff_exists.1 h2.1, h2.2⟩, ⟨Option.isSome_iff_exists.1 h3.1, h3.2⟩⟩

theorem infoN : (Try.prog.info? 115).map (fun i => (i.zero, i.size, i.bytes)) = some (some (.agg #[.int .i64 0, .string ⟨#[]⟩, .int .i64 0, .int .i64 0]), 4, 40) := by kernel_rfl

theorem made_thereN (w : World) (z : Array Value) (n : Nat) (t : TypeId) : (w.alloc (.cells (madeCells z n) t)).there w.heap.size 0 n := by
  intro j hj
  have hb : (w.alloc (.cells (madeCells z n) t)).heap[w.heap.size]? = some (.cells (madeCells z n) t (0, 0)) := heap_alloc_new w _
  have hc := cell_of_row (w.alloc (.cells (madeCells z n) t)) w.heap.size (0 + j) (madeCells z n) t (0, 0) hb
  refine ⟨?_, frozen_of_row _ _ _ _ _ hb⟩
  rw [hc]
  have : j < (madeCells z n).size := by rw [size_madeCells]; exact hj
  simp [this]

end Go.Proofs.Ytokabkhnidlcnab
