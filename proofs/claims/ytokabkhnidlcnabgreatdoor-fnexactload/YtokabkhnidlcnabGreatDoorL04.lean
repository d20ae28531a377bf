import Derived.Deep.MidRow
import Derived.Deep.RegionHeld
import Derived.Laws.MakeOwn
import Derived.OwnWalk
import Derived.Laws.OwnMore
import Derived.Test.YtokabkhnidlcnabGreatDoorL00

/-
  Rows of modules in memory.
-/
namespace Go.Proofs.YtokabkhnidlcnabGreatDoor
set_option maxRecDepth 100000
open Go.RowKit

structure ModR where
  n : ByteArray
  t : ByteArray

def ModR.zero : ModR := ⟨⟨#[]⟩, ⟨#[]⟩⟩
def atM (xs : List ModR) (i : Nat) : ModR := xs.getD i ModR.zero

/-- The cells of the element at place i. -/
def CellsM (w : World) (b off : Nat) (xs : List ModR) (i : Nat) : Prop :=
  w.cell? ⟨b, off + i * 2, none⟩ = some (.string (atM xs i).n) ∧ w.cell? ⟨b, off + i * 2 + 1, none⟩ = some (.string (atM xs i).t)

def OpsM (w : World) (b off : Nat) (xs : List ModR) : Prop := ∀ i, i < xs.length → CellsM w b off xs i

/-- No text is too long for a text. -/
def SizedM (xs : List ModR) : Prop := ∀ i, i < xs.length → (atM xs i).n.size ≤ maxLen ∧ (atM xs i).t.size ≤ maxLen

theorem CellsM.below {w w' : World} {b off i : Nat} {xs : List ModR} {B : Nat} (h : CellsM w b off xs i) (hb : Below B w w') (hB : b < B) : CellsM w' b off xs i := by
  obtain ⟨h0, h1⟩ := h
  exact ⟨(hb.cell (p := ⟨b, _, none⟩) hB).trans h0, (hb.cell (p := ⟨b, _, none⟩) hB).trans h1⟩

theorem OpsM.below {w w' : World} {b off : Nat} {xs : List ModR} {B : Nat} (h : OpsM w b off xs) (hb : Below B w w') (hB : b < B) : OpsM w' b off xs :=
  fun i hi => (h i hi).below hb hB

def ArgM (w : World) (a : Option Addr) (xs : List ModR) : Prop := xs.length = 0 ∨ ∃ b off, a = some ⟨b, off, none⟩ ∧ OpsM w b off xs ∧ b < w.heap.size

theorem ArgM.below {w w' : World} {a : Option Addr} {xs : List ModR} (h : ArgM w a xs) (hb : Below w.heap.size w w') : ArgM w' a xs := by
  rcases h with h | ⟨b, off, rfl, h1, h2⟩
  · exact Or.inl h
  · exact Or.inr ⟨b, off, rfl, h1.below hb h2, Nat.lt_of_lt_of_le h2 hb.size⟩

theorem ArgM.alloc {w : World} {a : Option Addr} {xs : List ModR} (h : ArgM w a xs) (o : Obj) : ArgM (w.alloc o) a xs := h.below (below1 _ _)

/-- A row that is being filled: k elements lie there; all its cells may be written. -/
def FilledM (w : World) (g : Nat) (xs : List ModR) (k : Nat) : Prop :=
  g < w.heap.size ∧ w.there g 0 (xs.length * 2) ∧ ∀ i, i < k → CellsM w g 0 xs i

theorem FilledM.grown {w w' : World} {g k : Nat} {xs : List ModR} {row : Option Nat} (h : FilledM w g xs k) (hg : w.grownBy w' row) (hne : some g ≠ row) : FilledM w' g xs k := by
  obtain ⟨h1, h2, h3⟩ := h
  have hb := hg.block g h1 hne
  have e : ∀ o, w'.cell? ⟨g, o, none⟩ = w.cell? ⟨g, o, none⟩ := fun o => World.cell?_of_block (w := w) hb
  have f : ∀ o, w'.frozen? ⟨g, o, none⟩ = w.frozen? ⟨g, o, none⟩ := fun o => World.frozen?_of_block (w := w) hb
  refine ⟨Nat.lt_of_lt_of_le h1 hg.size, fun j hj => ⟨by rw [e]; exact (h2 j hj).1, by rw [f]; exact (h2 j hj).2⟩, fun i hi => ?_⟩
  obtain ⟨a0, a1⟩ := h3 i hi
  exact ⟨(e _).trans a0, (e _).trans a1⟩

theorem FilledM.below {w w' : World} {g k : Nat} {xs : List ModR} {B : Nat} (h : FilledM w g xs k) (hb : Below B w w') (hB : g < B) : FilledM w' g xs k := by
  obtain ⟨h1, h2, h3⟩ := h
  refine ⟨Nat.lt_of_lt_of_le h1 hb.size, fun j hj => ?_, fun i hi => (h3 i hi).below hb hB⟩
  have := h2 j hj
  exact ⟨by rw [hb.cell (p := ⟨g, _, none⟩) hB]; exact this.1, by rw [hb.frozen (p := ⟨g, _, none⟩) hB]; exact this.2⟩

theorem FilledM.setCell {w : World} {g k : Nat} {xs : List ModR} (h : FilledM w g xs k) (b o : Nat) (v : Value) (hp : b ≠ g) : FilledM (w.setCell ⟨b, o, none⟩ v) g xs k :=
  h.grown (row := some b) ⟨rfl, rfl, rfl, by simp [World.setCell], fun i _ hi => Below.heap_setCell _ _ _ _ (fun e => hi (by rw [e]))⟩ (fun e => hp (Option.some.inj e).symm)

theorem FilledM.ops {w : World} {g : Nat} {xs : List ModR} (h : FilledM w g xs xs.length) : OpsM w g 0 xs := fun i hi => h.2.2 i hi

theorem FilledM.anew {w : World} {g : Nat} {xs ys : List ModR} {k : Nat} (h : FilledM w g xs k) (hl : xs.length = ys.length) : FilledM w g ys 0 :=
  ⟨h.1, hl ▸ h.2.1, fun i hi => absurd hi (Nat.not_lt_zero i)⟩

theorem FilledM.step {w : World} {g k : Nat} {xs : List ModR} (h : FilledM w g xs k) (hk : k < xs.length) :
    FilledM (w.setCells g (k * 2) [.string (atM xs k).n, .string (atM xs k).t]) g xs (k + 1) := by
  obtain ⟨h1, h2, h3⟩ := h
  have hin := World.cell?_setCells_in g [.string (atM xs k).n, .string (atM xs k).t] (k * 2) w (fun j hj => by
    have := (h2 (k * 2 + j) (by simp at hj; omega)).1
    simpa using this)
  refine ⟨?_, World.there_setCells h2 _ _ _, fun i hi => ?_⟩
  · simpa [World.setCells, World.setCell] using h1
  · by_cases e : i = k
    · subst e
      exact ⟨by simpa using hin 0 (by simp), by simpa using hin 1 (by simp)⟩
    · have hi' : i < k := by omega
      obtain ⟨c0, c1⟩ := h3 i hi'
      refine ⟨?_, ?_⟩
      all_goals
        rw [World.cell?_setCells_out g _ _ _ _ (fun _ _ => Or.inl (by simp; omega))]
        assumption

theorem FilledM.step_of {w : World} {g k : Nat} {xs : List ModR} (h : FilledM w g xs k) (hk : k < xs.length) {o : ModR} (e : atM xs k = o) :
    FilledM (w.setCells g (k * 2) [.string o.n, .string o.t]) g xs (k + 1) := by
  subst e
  exact h.step hk

theorem fill_cellsM {w : World} {g k : Nat} {xs : List ModR} (h : FilledM w g xs k) (hk : k < xs.length) :
    ((∃ v, w.cell? ⟨g, k * 2, none⟩ = some v) ∧ w.frozen? ⟨g, k * 2, none⟩ = false) ∧ ((∃ v, w.cell? ⟨g, k * 2 + 1, none⟩ = some v) ∧ w.frozen? ⟨g, k * 2 + 1, none⟩ = false) := by
  have h0 := h.2.1 (k * 2) (by omega)
  have h1 := h.2.1 (k * 2 + 1) (by omega)
  simp only [Nat.zero_add] at h0 h1
  exact ⟨⟨Option.isSome_iff_exists.1 h0.1, h0.2⟩, ⟨Option.isSome_iff_exists.1 h1.1, h1.2⟩⟩

theorem infoM : (Tryz.prog.info? 43).map (fun i => (i.zero, i.size, i.bytes)) = some (some (.agg #[.string ⟨#[]⟩, .string ⟨#[]⟩]), 2, 32) := by kernel_rfl

theorem made_thereM (w : World) (z : Array Value) (n : Nat) (t : TypeId) : (w.alloc (.cells (madeCells z n) t)).there w.heap.size 0 n := by
  intro j hj
  have hb : (w.alloc (.cells (madeCells z n) t)).heap[w.heap.size]? = some (.cells (madeCells z n) t (0, 0)) := heap_alloc_new w _
  have hc := cell_of_row (w.alloc (.cells (madeCells z n) t)) w.heap.size (0 + j) (madeCells z n) t (0, 0) hb
  refine ⟨?_, frozen_of_row _ _ _ _ _ hb⟩
  rw [hc]
  have : j < (madeCells z n).size := by rw [size_madeCells]; exact hj
  simp [this]
end Go.Proofs.YtokabkhnidlcnabGreatDoor

/-
  Walks: signs, in the program.
-/
namespace Go.Proofs.YtokabkhnidlcnabGreatDoor
set_option maxRecDepth 100000
open Go.RowKit

set_option maxHeartbeats 400000 in
theorem isSign_any (c : UInt8) (w : World) :
    Calls Tryz.prog 72 #[.int .u8 (c.toNat : Int)] w fun e w' => e = .returned (.bool (sgB c)) ∧ w' = w := by
  go_enter Tryz.func72, Tryz.ntmps72
  go_wp2
  rw [run_callFunc_extern Tryz.func98 (by kernel_rfl) (by kernel_rfl) (by kernel_rfl) (e := Extern.BytealgIndexByte.indexByte) (by kernel_rfl), Lib.run_indexByteString]
  simp only [Result.andThen]
  rw [Oper.upon_value]
  go_wp2
  go_ret
  refine ⟨?_, rfl⟩
  exact congrArg (fun b => Ending.returned (.bool b)) (idx_sg c)
end Go.Proofs.YtokabkhnidlcnabGreatDoor

/-
  Walks: signs and texts of operators, in both texts.
-/
namespace Go.Proofs.YtokabkhnidlcnabGreatDoor
set_option maxRecDepth 100000
open Go.RowKit

set_option maxHeartbeats 400000 in
theorem l1IsSign_any (c : UInt8) (w : World) :
    Calls Tryz.prog 61 #[.int .u8 (c.toNat : Int)] w fun e w' => e = .returned (.bool (sgB c)) ∧ w' = w := by
  go_enter Tryz.func61, Tryz.ntmps61
  go_wp2
  go_loop [4] (fun i => ∃ k : Nat, k ≤ 18 ∧ i = .int .i64 k ∧ ∀ j, j < k → sgL.getD j 0 ≠ c) (fun i => 18 - (intOf i).toNat)
  case atStart => exact ⟨0, by omega, rfl, fun j h => by omega⟩
  case round =>
    obtain ⟨k, hk, rfl, hn⟩ := hrel
    by_cases hlt : k < 18
    · go_wp2
      · go_ret
        exact ⟨ret_bool (sgB_some c k hlt (by rw [← lit_get k hlt (by exact hlt)]; exact u8_eq _ _ ‹_›)).symm, rfl⟩
      · refine ⟨⟨k + 1, by omega, by go_num, ?_⟩, by simp [intOf]; omega⟩
        intro j hj
        by_cases e : j = k
        · subst e
          rw [← lit_get j hlt (by exact hlt)]
          exact u8_ne _ _ ‹_›
        · exact hn j (by omega)
    · go_wp2
      go_ret
      exact ⟨ret_bool (sgB_none c (fun j hj => hn j (by omega))).symm, rfl⟩
end Go.Proofs.YtokabkhnidlcnabGreatDoor
