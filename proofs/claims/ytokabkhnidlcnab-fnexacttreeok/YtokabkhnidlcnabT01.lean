import Derived.Deep.MidRow
import Derived.Laws.MakeOwn
import Derived.Deep.RegionHeld
import Derived.OwnWalk
import Derived.Laws.OwnMore
import Derived.Test.YtokabkhnidlcnabT00

/-
  Lists of operators in memory.
-/
namespace Go.Proofs.Ytokabkhnidlcnab
set_option maxRecDepth 100000
open Go.RowKit

theorem szOp_any (s : ByteArray) (k l sd : Int) (left : Int) (w : World) (hs : s.size ≤ maxLen) (h0 : 0 ≤ left) (h1 : left ≤ 1048576) :
    Calls Try.prog 78 #[.agg #[.string s, .int .i64 k, .int .i64 l, .int .i64 sd], .int .i64 left] w fun e w' => e = .returned (.int .i64 (szI left s.size)) ∧ Below w.heap.size w w' := by
  unfold maxLen at hs
  by_cases h : left < s.size
  · go_enter Try.func78, Try.ntmps78
    go_wp2
    go_ret
    exact ⟨ret_int (by simp [szI]; omega), below1 _ _⟩
  · go_enter Try.func78, Try.ntmps78
    go_wp2
    go_ret
    exact ⟨ret_int (by simp [szI]; omega), below1 _ _⟩

theorem toOp_any (s : ByteArray) (k l sd : Int) (w : World) :
    Calls Try.prog 79 #[.agg #[.string s, .int .i64 k, .int .i64 l, .int .i64 sd]] w fun e w' => e = .returned (.agg #[.string s, .int .i64 k, .int .i64 l, .int .i64 sd]) ∧ Below w.heap.size w w' := by
  go_enter Try.func79, Try.ntmps79
  go_wp2
  exact bodyPost_ret (v := .agg #[.string s, .int .i64 k, .int .i64 l, .int .i64 sd]) (by simp [results, Try.results79, go_sem]) rfl ⟨rfl, (((Below.refl _ _).alloc (Nat.le_refl _) _).alloc (by simp) _).alloc (by simp; omega) _⟩

/-- An operator, as its four fields. -/
structure OpR where
  s : ByteArray
  k : Int
  l : Int
  sd : Int

def OpR.ok (o : OpR) : Bool := okB o.s o.k o.l o.sd
def OpR.zero : OpR := ⟨⟨#[]⟩, 0, 0, 0⟩
def OpR.cells (o : OpR) : Array Value := #[.string o.s, .int .i64 o.k, .int .i64 o.l, .int .i64 o.sd]

/-- The operator at a place. -/
def atO (xs : List OpR) (i : Nat) : OpR := xs.getD i OpR.zero

/-- The four cells of the operator at place i. -/
def CellsAt (w : World) (b off : Nat) (xs : List OpR) (i : Nat) : Prop :=
  w.cell? ⟨b, off + i * 4, none⟩ = some (.string (atO xs i).s) ∧ w.cell? ⟨b, off + i * 4 + 1, none⟩ = some (.int .i64 (atO xs i).k) ∧
    w.cell? ⟨b, off + i * 4 + 2, none⟩ = some (.int .i64 (atO xs i).l) ∧ w.cell? ⟨b, off + i * 4 + 3, none⟩ = some (.int .i64 (atO xs i).sd)

/-- The cells of a row of operators. -/
def Ops (w : World) (b off : Nat) (xs : List OpR) : Prop := ∀ i, i < xs.length → CellsAt w b off xs i

/-- No text is too long for a text. -/
def Sized (xs : List OpR) : Prop := ∀ i, i < xs.length → (atO xs i).s.size ≤ maxLen

theorem CellsAt.below {w w' : World} {b off i : Nat} {xs : List OpR} {B : Nat} (h : CellsAt w b off xs i) (hb : Below B w w') (hB : b < B) : CellsAt w' b off xs i := by
  obtain ⟨h0, h1, h2, h3⟩ := h
  exact ⟨(hb.cell (p := ⟨b, _, none⟩) hB).trans h0, (hb.cell (p := ⟨b, _, none⟩) hB).trans h1, (hb.cell (p := ⟨b, _, none⟩) hB).trans h2, (hb.cell (p := ⟨b, _, none⟩) hB).trans h3⟩

theorem Ops.below {w w' : World} {b off : Nat} {xs : List OpR} {B : Nat} (h : Ops w b off xs) (hb : Below B w w') (hB : b < B) : Ops w' b off xs :=
  fun i hi => (h i hi).below hb hB

/-- A slice of operators that came in: empty, or its cells lie there. -/
def Arg (w : World) (a : Option Addr) (xs : List OpR) : Prop := xs.length = 0 ∨ ∃ b off, a = some ⟨b, off, none⟩ ∧ Ops w b off xs ∧ b < w.heap.size

def okTo (xs : List OpR) (k : Nat) : Prop := ∀ j, j < k → (atO xs j).ok = true

theorem okTo_succ {xs : List OpR} {k : Nat} (h : okTo xs k) (hk : (atO xs k).ok = true) : okTo xs (k + 1) := by
  intro j hj
  by_cases e : j = k
  · subst e; exact hk
  · exact h j (by omega)

/-- What is left of 'left', as szOpS has it: less than nothing, or the list and what is left fit. -/
def Left (left r : Int) (n : Nat) : Prop := r < 0 ∨ (0 ≤ r ∧ r + n ≤ left)

set_option maxHeartbeats 1000000 in
theorem szOpS_any (a : Option Addr) (cap : Nat) (xs : List OpR) (left : Int) (w : World) (hm : xs.length ≤ maxLen) (hw : Arg w a xs) (hs : Sized xs) (hl0 : 0 ≤ left) (hl1 : left ≤ 1048576) :
    Calls Try.prog 42 #[.slice a xs.length cap, .int .i64 left] w fun e w' => (∃ r, e = .returned (.int .i64 r) ∧ Left left r xs.length) ∧ Below w.heap.size w w' := by
  unfold maxLen at hm
  by_cases hneg : left < xs.length
  · go_enter Try.func42, Try.ntmps42
    go_wp2
    go_ret
    exact ⟨⟨-1, rfl, Or.inl (by omega)⟩, Below.refl _ _⟩
  rcases hw with h0 | ⟨b, off, rfl, hw, hB⟩
  · go_enter Try.func42, Try.ntmps42
    go_wp2
    refine wp_loop_rounds 1 ?_
    rw [rounds_succ]
    go_wp2
    go_ret
    exact ⟨⟨_, rfl, Or.inr (by omega)⟩, Below.refl _ _⟩
  · go_enter Try.func42, Try.ntmps42
    go_wp2
    go_loopw [1, 5] (fun lf i wr => ∃ (k : Nat) (r : Int), k ≤ xs.length ∧ i = .int .i64 k ∧ lf = .int .i64 r ∧ 0 ≤ r ∧ r ≤ left - xs.length ∧ Below w.heap.size w wr) (fun _ i _ => xs.length - (intOf i).toNat)
    case atStart => exact ⟨0, _, Nat.zero_le _, rfl, rfl, by omega, by omega, Below.refl _ _⟩
    case round =>
      obtain ⟨k, r, hk, rfl, rfl, hr0, hr1, hbel⟩ := hrel
      by_cases hlt : k < xs.length
      · obtain ⟨h0, h1, h2, h3⟩ := (hw k hlt).below hbel hB
        have hsz : szI r (atO xs k).s.size < 0 ∨ (0 ≤ szI r (atO xs k).s.size ∧ szI r (atO xs k).s.size ≤ r) := by unfold szI; split <;> omega
        rcases hsz with hsz | ⟨hsz, hszr⟩
        · go_wp2_with (go_at_call 78; refine (szOp_any _ _ _ _ _ _ (hs k hlt) hr0 (by omega)).mono ?_; rintro e w' ⟨rfl, hb⟩)
          go_ret
          exact ⟨⟨-1, rfl, Or.inl (by omega)⟩, hbel.trans (hb.mono hbel.size)⟩
        · go_wp2_with (go_at_call 78; refine (szOp_any _ _ _ _ _ _ (hs k hlt) hr0 (by omega)).mono ?_; rintro e w' ⟨rfl, hb⟩)
          exact ⟨⟨k + 1, _, by omega, by go_num, rfl, hsz, by omega, hbel.trans (hb.mono hbel.size)⟩, by simp [intOf]; omega⟩
      · go_wp2
        go_ret
        exact ⟨⟨_, rfl, Or.inr ⟨hr0, by omega⟩⟩, hbel⟩
end Go.Proofs.Ytokabkhnidlcnab

/-
  Lists of tokens in memory.
-/
namespace Go.Proofs.Ytokabkhnidlcnab
set_option maxRecDepth 100000
open Go.RowKit

structure TokR where
  k : Int
  g : ByteArray
  t : ByteArray

def TokR.zero : TokR := ⟨0, ⟨#[]⟩, ⟨#[]⟩⟩
def atT (xs : List TokR) (i : Nat) : TokR := xs.getD i TokR.zero

/-- The cells of the element at place i. -/
def CellsT (w : World) (b off : Nat) (xs : List TokR) (i : Nat) : Prop :=
  w.cell? ⟨b, off + i * 3, none⟩ = some (.int .i64 (atT xs i).k) ∧ w.cell? ⟨b, off + i * 3 + 1, none⟩ = some (.string (atT xs i).g) ∧ w.cell? ⟨b, off + i * 3 + 2, none⟩ = some (.string (atT xs i).t)

def OpsT (w : World) (b off : Nat) (xs : List TokR) : Prop := ∀ i, i < xs.length → CellsT w b off xs i

/-- No text is too long for a text. -/
def SizedT (xs : List TokR) : Prop := ∀ i, i < xs.length → (atT xs i).g.size ≤ maxLen ∧ (atT xs i).t.size ≤ maxLen

theorem CellsT.below {w w' : World} {b off i : Nat} {xs : List TokR} {B : Nat} (h : CellsT w b off xs i) (hb : Below B w w') (hB : b < B) : CellsT w' b off xs i := by
  obtain ⟨h0, h1, h2⟩ := h
  exact ⟨(hb.cell (p := ⟨b, _, none⟩) hB).trans h0, (hb.cell (p := ⟨b, _, none⟩) hB).trans h1, (hb.cell (p := ⟨b, _, none⟩) hB).trans h2⟩

theorem OpsT.below {w w' : World} {b off : Nat} {xs : List TokR} {B : Nat} (h : OpsT w b off xs) (hb : Below B w w') (hB : b < B) : OpsT w' b off xs :=
  fun i hi => (h i hi).below hb hB

def ArgT (w : World) (a : Option Addr) (xs : List TokR) : Prop := xs.length = 0 ∨ ∃ b off, a = some ⟨b, off, none⟩ ∧ OpsT w b off xs ∧ b < w.heap.size

theorem ArgT.below {w w' : World} {a : Option Addr} {xs : List TokR} (h : ArgT w a xs) (hb : Below w.heap.size w w') : ArgT w' a xs := by
  rcases h with h | ⟨b, off, rfl, h1, h2⟩
  · exact Or.inl h
  · exact Or.inr ⟨b, off, rfl, h1.below hb h2, Nat.lt_of_lt_of_le h2 hb.size⟩

theorem ArgT.alloc {w : World} {a : Option Addr} {xs : List TokR} (h : ArgT w a xs) (o : Obj) : ArgT (w.alloc o) a xs := h.below (below1 _ _)

/-- The bytes of an element. -/
def totT (o : TokR) : Nat := o.g.size + o.t.size
def totToT (xs : List TokR) : Nat → Nat
  | 0 => 0
  | k + 1 => totToT xs k + totT (atT xs k)

/-- A row that is being filled: k elements lie there; all its cells may be written. -/
def FilledT (w : World) (g : Nat) (xs : List TokR) (k : Nat) : Prop :=
  g < w.heap.size ∧ w.there g 0 (xs.length * 3) ∧ ∀ i, i < k → CellsT w g 0 xs i

theorem FilledT.grown {w w' : World} {g k : Nat} {xs : List TokR} {row : Option Nat} (h : FilledT w g xs k) (hg : w.grownBy w' row) (hne : some g ≠ row) : FilledT w' g xs k := by
  obtain ⟨h1, h2, h3⟩ := h
  have hb := hg.block g h1 hne
  have e : ∀ o, w'.cell? ⟨g, o, none⟩ = w.cell? ⟨g, o, none⟩ := fun o => World.cell?_of_block (w := w) hb
  have f : ∀ o, w'.frozen? ⟨g, o, none⟩ = w.frozen? ⟨g, o, none⟩ := fun o => World.frozen?_of_block (w := w) hb
  refine ⟨Nat.lt_of_lt_of_le h1 hg.size, fun j hj => ⟨by rw [e]; exact (h2 j hj).1, by rw [f]; exact (h2 j hj).2⟩, fun i hi => ?_⟩
  obtain ⟨a0, a1, a2⟩ := h3 i hi
  exact ⟨(e _).trans a0, (e _).trans a1, (e _).trans a2⟩

theorem FilledT.below {w w' : World} {g k : Nat} {xs : List TokR} {B : Nat} (h : FilledT w g xs k) (hb : Below B w w') (hB : g < B) : FilledT w' g xs k := by
  obtain ⟨h1, h2, h3⟩ := h
  refine ⟨Nat.lt_of_lt_of_le h1 hb.size, fun j hj => ?_, fun i hi => (h3 i hi).below hb hB⟩
  have := h2 j hj
  exact ⟨by rw [hb.cell (p := ⟨g, _, none⟩) hB]; exact this.1, by rw [hb.frozen (p := ⟨g, _, none⟩) hB]; exact this.2⟩

theorem FilledT.setCell {w : World} {g k : Nat} {xs : List TokR} (h : FilledT w g xs k) (b o : Nat) (v : Value) (hp : b ≠ g) : FilledT (w.setCell ⟨b, o, none⟩ v) g xs k :=
  h.grown (row := some b) ⟨rfl, rfl, rfl, by simp [World.setCell], fun i _ hi => Below.heap_setCell _ _ _ _ (fun e => hi (by rw [e]))⟩ (fun e => hp (Option.some.inj e).symm)

theorem FilledT.ops {w : World} {g : Nat} {xs : List TokR} (h : FilledT w g xs xs.length) : OpsT w g 0 xs := fun i hi => h.2.2 i hi

theorem FilledT.anew {w : World} {g : Nat} {xs ys : List TokR} {k : Nat} (h : FilledT w g xs k) (hl : xs.length = ys.length) : FilledT w g ys 0 :=
  ⟨h.1, hl ▸ h.2.1, fun i hi => absurd hi (Nat.not_lt_zero i)⟩

theorem FilledT.step {w : World} {g k : Nat} {xs : List TokR} (h : FilledT w g xs k) (hk : k < xs.length) :
    FilledT (w.setCells g (k * 3) [.int .i64 (atT xs k).k, .string (atT xs k).g, .string (atT xs k).t]) g xs (k + 1) := by
  obtain ⟨h1, h2, h3⟩ := h
  have hin := World.cell?_setCells_in g [.int .i64 (atT xs k).k, .string (atT xs k).g, .string (atT xs k).t] (k * 3) w (fun j hj => by
    have := (h2 (k * 3 + j) (by simp at hj; omega)).1
    simpa using this)
  refine ⟨?_, World.there_setCells h2 _ _ _, fun i hi => ?_⟩
  · simpa [World.setCells, World.setCell] using h1
  · by_cases e : i = k
    · subst e
      exact ⟨by simpa using hin 0 (by simp), by simpa using hin 1 (by simp), by simpa using hin 2 (by simp)⟩
    · have hi' : i < k := by omega
      obtain ⟨c0, c1, c2⟩ := h3 i hi'
      refine ⟨?_, ?_, ?_⟩
      all_goals
        rw [World.cell?_setCells_out g _ _ _ _ (fun _ _ => Or.inl (by simp; omega))]
        assumption

theorem FilledT.step_of {w : World} {g k : Nat} {xs : List TokR} (h : FilledT w g xs k) (hk : k < xs.length) {o : TokR} (e : atT xs k = o) :
    FilledT (w.setCells g (k * 3) [.int .i64 o.k, .string o.g, .string o.t]) g xs (k + 1) := by
  subst e
  exact h.step hk

theorem fill_cellsT {w : World} {g k : Nat} {xs : List TokR} (h : FilledT w g xs k) (hk : k < xs.length) :
    ((∃ v, w.cell? ⟨g, k * 3, none⟩ = some v) ∧ w.frozen? ⟨g, k * 3, none⟩ = false) ∧ ((∃ v, w.cell? ⟨g, k * 3 + 1, none⟩ = some v) ∧ w.frozen? ⟨g, k * 3 + 1, none⟩ = false) ∧ ((∃ v, w.cell? ⟨g, k * 3 + 2, none⟩ = some v) ∧ w.frozen? ⟨g, k * 3 + 2, none⟩ = false) := by
  have h0 := h.2.1 (k * 3) (by omega)
  have h1 := h.2.1 (k * 3 + 1) (by omega)
  have h2 := h.2.1 (k * 3 + 2) (by omega)
  simp only [Nat.zero_add] at h0 h1 h2
  exact ⟨⟨Option.isSome_iff_exists.1 h0.1, h0.2⟩, ⟨Option.isSome_iff_exists.1 h1.1, h1.2⟩, ⟨Option.isSome_iff_exists.1 h2.1, h2.2⟩⟩

theorem infoT : (Try.prog.info? 79).map (fun i => (i.zero, i.size, i.bytes)) = some (some (.agg #[.int .i64 0, .string ⟨#[]⟩, .string ⟨#[]⟩]), 3, 40) := by kernel_rfl

theorem made_thereT (w : World) (z : Array Value) (n : Nat) (t : TypeId) : (w.alloc (.cells (madeCells z n) t)).there w.heap.size 0 n := by
  intro j hj
  have hb : (w.alloc (.cells (madeCells z n) t)).heap[w.heap.size]? = some (.cells (madeCells z n) t (0, 0)) := heap_alloc_new w _
  have hc := cell_of_row (w.alloc (.cells (madeCells z n) t)) w.heap.size (0 + j) (madeCells z n) t (0, 0) hb
  refine ⟨?_, frozen_of_row _ _ _ _ _ hb⟩
  rw [hc]
  have : j < (madeCells z n).size := by rw [size_madeCells]; exact hj
  simp [this]

end Go.Proofs.Ytokabkhnidlcnab
