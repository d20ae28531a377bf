/-
  Rows of operators that are filled.
-/
import Derived.Test.YtokabkhnidlcnabDoorCoreE
import Derived.Deep.RegionHeld
namespace Go.Proofs.YtokabkhnidlcnabDoor
set_option maxRecDepth 100000
open Go.RowKit

/-- A row that is being filled: k operators lie there; all its cells may be written. -/
def Filled (w : World) (g : Nat) (xs : List OpR) (k : Nat) : Prop :=
  g < w.heap.size ∧ w.there g 0 (xs.length * 4) ∧ ∀ i, i < k → CellsAt w g 0 xs i

theorem Filled.below {w w' : World} {g k : Nat} {xs : List OpR} {B : Nat} (h : Filled w g xs k) (hb : Below B w w') (hB : g < B) : Filled w' g xs k := by
  obtain ⟨h1, h2, h3⟩ := h
  refine ⟨Nat.lt_of_lt_of_le h1 hb.size, fun j hj => ?_, fun i hi => (h3 i hi).below hb hB⟩
  have := h2 j hj
  exact ⟨by rw [hb.cell (p := ⟨g, _, none⟩) hB]; exact this.1, by rw [hb.frozen (p := ⟨g, _, none⟩) hB]; exact this.2⟩

theorem Filled.step {w : World} {g k : Nat} {xs : List OpR} (h : Filled w g xs k) (hk : k < xs.length) :
    Filled (w.setCells g (k * 4) [.string (atO xs k).s, .int .i64 (atO xs k).k, .int .i64 (atO xs k).l, .int .i64 (atO xs k).sd]) g xs (k + 1) := by
  obtain ⟨h1, h2, h3⟩ := h
  have hin := World.cell?_setCells_in g [.string (atO xs k).s, .int .i64 (atO xs k).k, .int .i64 (atO xs k).l, .int .i64 (atO xs k).sd] (k * 4) w (fun j hj => by
    have := (h2 (k * 4 + j) (by simp at hj; omega)).1
    simpa using this)
  refine ⟨?_, World.there_setCells h2 _ _ _, fun i hi => ?_⟩
  · simpa [World.setCells, World.setCell] using h1
  · by_cases e : i = k
    · subst e
      have a0 := hin 0 (by simp)
      have a1 := hin 1 (by simp)
      have a2 := hin 2 (by simp)
      have a3 := hin 3 (by simp)
      exact ⟨by simpa using a0, by simpa using a1, by simpa using a2, by simpa using a3⟩
    · have hi' : i < k := by omega
      obtain ⟨c0, c1, c2, c3⟩ := h3 i hi'
      refine ⟨?_, ?_, ?_, ?_⟩
      all_goals
        rw [World.cell?_setCells_out g _ _ _ _ (fun _ _ => Or.inl (by simp; omega))]
        assumption

theorem fill_cells {w : World} {g k : Nat} {xs : List OpR} (h : Filled w g xs k) (hk : k < xs.length) :
    ((∃ v, w.cell? ⟨g, k * 4, none⟩ = some v) ∧ w.frozen? ⟨g, k * 4, none⟩ = false) ∧ ((∃ v, w.cell? ⟨g, k * 4 + 1, none⟩ = some v) ∧ w.frozen? ⟨g, k * 4 + 1, none⟩ = false) ∧
    ((∃ v, w.cell? ⟨g, k * 4 + 2, none⟩ = some v) ∧ w.frozen? ⟨g, k * 4 + 2, none⟩ = false) ∧ ((∃ v, w.cell? ⟨g, k * 4 + 3, none⟩ = some v) ∧ w.frozen? ⟨g, k * 4 + 3, none⟩ = false) := by
  have h0 := h.2.1 (k * 4) (by omega)
  have h1 := h.2.1 (k * 4 + 1) (by omega)
  have h2 := h.2.1 (k * 4 + 2) (by omega)
  have h3 := h.2.1 (k * 4 + 3) (by omega)
  simp only [Nat.zero_add] at h0 h1 h2 h3
  exact ⟨⟨Option.isSome_iff_exists.1 h0.1, h0.2⟩, ⟨Option.isSome_iff_exists.1 h1.1, h1.2⟩, ⟨Option.isSome_iff_exists.1 h2.1, h2.2⟩, ⟨Option.isSome_iff_exists.1 h3.1, h3.2⟩⟩

theorem infoOp : (Tryd.prog.info? 37).map (fun i => (i.zero, i.size, i.bytes)) = some (some (.agg #[.string ⟨#[]⟩, .int .i64 0, .int .i64 0, .int .i64 0]), 4, 40) := by kernel_rfl
theorem sizeOp : (Tryd.prog.info? 37).map (·.size) = some 4 := by kernel_rfl

theorem made_there (w : World) (z : Array Value) (n : Nat) (t : TypeId) : (w.alloc (.cells (madeCells z n) t)).there w.heap.size 0 n := by
  intro j hj
  have hb : (w.alloc (.cells (madeCells z n) t)).heap[w.heap.size]? = some (.cells (madeCells z n) t (0, 0)) := heap_alloc_new w _
  have hc := cell_of_row (w.alloc (.cells (madeCells z n) t)) w.heap.size (0 + j) (madeCells z n) t (0, 0) hb
  refine ⟨?_, frozen_of_row _ _ _ _ _ hb⟩
  rw [hc]
  have : j < (madeCells z n).size := by rw [size_madeCells]; exact hj
  simp [this]
end Go.Proofs.YtokabkhnidlcnabDoor
