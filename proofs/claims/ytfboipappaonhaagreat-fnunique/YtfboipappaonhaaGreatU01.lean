import Derived.Deep.RegionHeld
import Derived.Test.YtfboipappaonhaaGreatU00

/-
  Rows of operators that are filled.
-/
namespace Go.Proofs.YtfboipappaonhaaGreat
set_option maxRecDepth 100000
open Go.RowKit

/-- A row that is being filled: k operators lie there; all its cells may be written. -/
def Filled (w : World) (g : Nat) (xs : List OpR) (k : Nat) : Prop :=
  g < w.heap.size ∧ w.there g 0 (xs.length * 4) ∧ ∀ i, i < k → CellsAt w g 0 xs i

theorem Filled.below {w w' : World} {g k : Nat} {xs : List OpR} {B : Nat} (h : Filled w g xs k) (hb : Below B w w') (hB : g < B) : Filled w' g xs k := by
  obtain ⟨h1, h2, h3⟩ := h
  refine ⟨Nat.lt_of_lt_of_le h1 hb.size, fun j hj => ?_, fun i hi => (h3 i hi).below hb hB⟩
  have := h2 j hj
  exact ⟨by rw [hb.cell (p := ⟨g, _, none⟩) hB]; exact this.1, by rw [hb.frozen (p := ⟨g, _, none⟩) hB]; exact this.2⟩

theorem Filled.step {w : World} {g k : Nat} {xs : List OpR} (h : Filled w g xs k) (hk : k < xs.length) :
    Filled (w.setCells g (k * 4) [.string (atO xs k).s, .int .i64 (atO xs k).k, .int .i64 (atO xs k).l, .int .i64 (atO xs k).sd]) g xs (k + 1) := by
  obtain ⟨h1, h2, h3⟩ := h
  have hin := World.cell?_setCells_in g [.string (atO xs k).s, .int .i64 (atO xs k).k, .int .i64 (atO xs k).l, .int .i64 (atO xs k).sd] (k * 4) w (fun j hj => by
    have := (h2 (k * 4 + j) (by simp at hj; omega)).1
    simpa using this)
  refine ⟨?_, World.there_setCells h2 _ _ _, fun i hi => ?_⟩
  · simpa [World.setCells, World.setCell] using h1
  · by_cases e : i = k
    · subst e
      have a0 := hin 0 (by simp)
      have a1 := hin 1 (by simp)
      have a2 := hin 2 (by simp)
      have a3 := hin 3 (by simp)
      exact ⟨by simpa using a0, by simpa using a1, by simpa using a2, by simpa using a3⟩
    · have hi' : i < k := by omega
      obtain ⟨c0, c1, c2, c3⟩ := h3 i hi'
      refine ⟨?_, ?_, ?_, ?_⟩
      all_goals
        rw [World.cell?_setCells_out g _ _ _ _ (fun _ _ => Or.inl (by simp; omega))]
        assumption

theorem fill_cells {w : World} {g k : Nat} {xs : List OpR} (h : Filled w g xs k) (hk : k < xs.length) :
    ((∃ v, w.cell? ⟨g, k * 4, none⟩ = some v) ∧ w.frozen? ⟨g, k * 4, none⟩ = false) ∧ ((∃ v, w.cell? ⟨g, k * 4 + 1, none⟩ = some v) ∧ w.frozen? ⟨g, k * 4 + 1, none⟩ = false) ∧
    ((∃ v, w.cell? ⟨g, k * 4 + 2, none⟩ = some v) ∧ w.frozen? ⟨g, k * 4 + 2, none⟩ = false) ∧ ((∃ v, w.cell? ⟨g, k * 4 + 3, none⟩ = some v) ∧ w.frozen? ⟨g, k * 4 + 3, none⟩ = false) := by
  have h0 := h.2.1 (k * 4) (by omega)
  have h1 := h.2.1 (k * 4 + 1) (by omega)
  have h2 := h.2.1 (k * 4 + 2) (by omega)
  have h3 := h.2.1 (k * 4 + 3) (by omega)
  simp only [Nat.zero_add] at h0 h1 h2 h3
  exact ⟨⟨Option.isSome_iff_exists.1 h0.1, h0.2⟩, ⟨Option.isSome_iff_exists.1 h1.1, h1.2⟩, ⟨Option.isSome_iff_exists.1 h2.1, h2.2⟩, ⟨Option.isSome_iff_exists.1 h3.1, h3.2⟩⟩

theorem infoOp : (Tryz.prog.info? 123).map (fun i => (i.zero, i.size, i.bytes)) = some (some (.agg #[.string ⟨#[]⟩, .int .i64 0, .int .i64 0, .int .i64 0]), 4, 40) := by kernel_rfl
theorem sizeOp : (Tryz.prog.info? 123).map (·.size) = some 4 := by kernel_rfl

theorem made_there (w : World) (z : Array Value) (n : Nat) (t : TypeId) : (w.alloc (.cells (madeCells z n) t)).there w.heap.size 0 n := by
  intro j hj
  have hb : (w.alloc (.cells (madeCells z n) t)).heap[w.heap.size]? = some (.cells (madeCells z n) t (0, 0)) := heap_alloc_new w _
  have hc := cell_of_row (w.alloc (.cells (madeCells z n) t)) w.heap.size (0 + j) (madeCells z n) t (0, 0) hb
  refine ⟨?_, frozen_of_row _ _ _ _ _ hb⟩
  rw [hc]
  have : j < (madeCells z n).size := by rw [size_madeCells]; exact hj
  simp [this]
end Go.Proofs.YtfboipappaonhaaGreat

/-
  Rows of operators: small facts.
-/
namespace Go.Proofs.YtfboipappaonhaaGreat
set_option maxRecDepth 100000
open Go.RowKit

theorem Arg.alloc {w : World} {a : Option Addr} {xs : List OpR} (h : Arg w a xs) (o : Obj) : Arg (w.alloc o) a xs := by
  rcases h with h | ⟨b, off, rfl, h1, h2⟩
  · exact Or.inl h
  · exact Or.inr ⟨b, off, rfl, h1.below (below1 _ _) h2, by simp; omega⟩

theorem Arg.below {w w' : World} {a : Option Addr} {xs : List OpR} (h : Arg w a xs) (hb : Below w.heap.size w w') : Arg w' a xs := by
  rcases h with h | ⟨b, off, rfl, h1, h2⟩
  · exact Or.inl h
  · exact Or.inr ⟨b, off, rfl, h1.below hb h2, Nat.lt_of_lt_of_le h2 hb.size⟩

theorem CellsAt.setCell {w : World} {b off i : Nat} {xs : List OpR} (h : CellsAt w b off xs i) (p : Addr) (v : Value) (hp : p.block ≠ b) : CellsAt (w.setCell p v) b off xs i := by
  obtain ⟨h0, h1, h2, h3⟩ := h
  have e : ∀ o, (w.setCell p v).cell? ⟨b, o, none⟩ = w.cell? ⟨b, o, none⟩ := fun o => World.cell?_setCell_other _ _ _ _ (fun e => hp (by rw [e]))
  exact ⟨(e _).trans h0, (e _).trans h1, (e _).trans h2, (e _).trans h3⟩

theorem Filled.setCell {w : World} {g k : Nat} {xs : List OpR} (h : Filled w g xs k) (p : Addr) (v : Value) (hp : p.block ≠ g) : Filled (w.setCell p v) g xs k := by
  obtain ⟨h1, h2, h3⟩ := h
  refine ⟨by simpa [World.setCell] using h1, fun j hj => ⟨?_, ?_⟩, fun i hi => (h3 i hi).setCell p v hp⟩
  · rw [World.cell?_setCell_other _ _ _ _ (fun e => hp (by rw [e]))]; exact (h2 j hj).1
  · rw [World.frozen?_setCell]; exact (h2 j hj).2

theorem Filled.ops {w : World} {g : Nat} {xs : List OpR} (h : Filled w g xs xs.length) : Ops w g 0 xs := fun i hi => h.2.2 i hi

theorem toList_inj {s t : ByteArray} (h : s.toList = t.toList) : s = t := by
  rw [ByteArray.toList_eq, ByteArray.toList_eq] at h
  obtain ⟨⟨a⟩⟩ := s
  obtain ⟨⟨b⟩⟩ := t
  simp at h
  rw [h]
end Go.Proofs.YtfboipappaonhaaGreat

/-
  What a call keeps of memory.
-/
namespace Go.Proofs.YtfboipappaonhaaGreat
set_option maxRecDepth 100000
open Go.RowKit

/-- Nothing but one block has turned. -/
structure Kept1 (w w' : World) (g : Nat) : Prop where
  os : w'.os = w.os
  tape : w'.tape = w.tape
  output : w'.output = w.output
  size : w.heap.size ≤ w'.heap.size
  block : ∀ i, i < w.heap.size → i ≠ g → w'.heap[i]? = w.heap[i]?

theorem Kept1.refl (w : World) (g : Nat) : Kept1 w w g := ⟨rfl, rfl, rfl, Nat.le_refl _, fun _ _ _ => rfl⟩
theorem Kept1.trans {w w1 w2 : World} {g : Nat} (h : Kept1 w w1 g) (h' : Kept1 w1 w2 g) : Kept1 w w2 g :=
  ⟨h'.os.trans h.os, h'.tape.trans h.tape, h'.output.trans h.output, Nat.le_trans h.size h'.size, fun i hi a => (h'.block i (Nat.lt_of_lt_of_le hi h.size) a).trans (h.block i hi a)⟩
theorem Kept1.of_below {w w' : World} {g : Nat} (h : Below w.heap.size w w') : Kept1 w w' g := ⟨h.os, h.tape, h.output, h.size, fun i hi _ => h.block i hi⟩
theorem Kept1.cell {w w' : World} {g : Nat} (h : Kept1 w w' g) {b : Nat} (hb : b < w.heap.size) (h1 : b ≠ g) (o : Nat) : w'.cell? ⟨b, o, none⟩ = w.cell? ⟨b, o, none⟩ :=
  World.cell?_of_block (w := w) (h.block b hb h1)
theorem Kept1.frozen {w w' : World} {g : Nat} (h : Kept1 w w' g) {b : Nat} (hb : b < w.heap.size) (h1 : b ≠ g) (o : Nat) : w'.frozen? ⟨b, o, none⟩ = w.frozen? ⟨b, o, none⟩ :=
  World.frozen?_of_block (w := w) (h.block b hb h1)
theorem Kept1.below {w w' : World} {g B : Nat} (h : Kept1 w w' g) (hB : B ≤ w.heap.size) (h1 : B ≤ g) : Below B w w' :=
  ⟨h.os, h.tape, h.output, h.size, fun i hi => h.block i (by omega) (by omega)⟩
theorem kept1_setCells {g : Nat} : ∀ (vs : List Value) (o : Nat) (w : World), Kept1 w (w.setCells g o vs) g
  | [], _, w => Kept1.refl w g
  | v :: r, o, w => (show Kept1 w (w.setCell ⟨g, o, none⟩ v) g from ⟨rfl, rfl, rfl, by simp [World.setCell], fun _ _ hi => Below.heap_setCell _ _ _ _ hi⟩).trans (kept1_setCells r (o + 1) _)
theorem Kept1.ops {w w' : World} {g b off : Nat} {xs : List OpR} (h : Kept1 w w' g) (ho : Ops w b off xs) (hb : b < w.heap.size) (hne : b ≠ g) : Ops w' b off xs := fun i hi => by
  obtain ⟨a0, a1, a2, a3⟩ := ho i hi
  have e := h.cell hb hne
  exact ⟨(e _).trans a0, (e _).trans a1, (e _).trans a2, (e _).trans a3⟩
theorem Kept1.filled {w w' : World} {g b k : Nat} {xs : List OpR} (h : Kept1 w w' g) (ho : Filled w b xs k) (hne : b ≠ g) : Filled w' b xs k := by
  obtain ⟨h1, h2, h3⟩ := ho
  have e := h.cell h1 hne
  have f := h.frozen h1 hne
  refine ⟨Nat.lt_of_lt_of_le h1 h.size, fun j hj => ⟨by rw [e]; exact (h2 j hj).1, by rw [f]; exact (h2 j hj).2⟩, fun i hi => ?_⟩
  obtain ⟨a0, a1, a2, a3⟩ := h3 i hi
  exact ⟨(e _).trans a0, (e _).trans a1, (e _).trans a2, (e _).trans a3⟩

theorem grown_kept1 {w w' : World} {g : Nat} (h : Kept1 w w' g) : w.grownBy w' (some g) := ⟨h.os, h.tape, h.output, h.size, fun i hi e => h.block i hi (fun x => e (by rw [x]))⟩
end Go.Proofs.YtfboipappaonhaaGreat
