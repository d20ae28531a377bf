import Derived.Deep.MidRow
import Derived.Laws.MakeOwn
import Derived.Deep.RegionHeld
import Derived.Test.YtokabkhnidlcnaaL00

/-
  Lists of operators in memory.
-/
namespace Go.Proofs.Ytokabkhnidlcnaa
set_option maxRecDepth 100000
open Go.RowKit

theorem szOp_any (s : ByteArray) (k l sd : Int) (left : Int) (w : World) (hs : s.size ≤ maxLen) (h0 : 0 ≤ left) (h1 : left ≤ 1048576) :
    Calls Try.prog 17 #[.agg #[.string s, .int .i64 k, .int .i64 l, .int .i64 sd], .int .i64 left] w fun e w' => e = .returned (.int .i64 (szI left s.size)) ∧ Below w.heap.size w w' := by
  unfold maxLen at hs
  by_cases h : left < s.size
  · go_enter Try.func17, Try.ntmps17
    go_wp2
    go_ret
    exact ⟨ret_int (by simp [szI]; omega), below1 _ _⟩
  · go_enter Try.func17, Try.ntmps17
    go_wp2
    go_ret
    exact ⟨ret_int (by simp [szI]; omega), below1 _ _⟩

theorem toOp_any (s : ByteArray) (k l sd : Int) (w : World) :
    Calls Try.prog 19 #[.agg #[.string s, .int .i64 k, .int .i64 l, .int .i64 sd]] w fun e w' => e = .returned (.agg #[.string s, .int .i64 k, .int .i64 l, .int .i64 sd]) ∧ Below w.heap.size w w' := by
  go_enter Try.func19, Try.ntmps19
  go_wp2
  exact bodyPost_ret (v := .agg #[.string s, .int .i64 k, .int .i64 l, .int .i64 sd]) (by simp [results, Try.results19, go_sem]) rfl ⟨rfl, (((Below.refl _ _).alloc (Nat.le_refl _) _).alloc (by simp) _).alloc (by simp; omega) _⟩

/-- An operator, as its four fields. -/
structure OpR where
  s : ByteArray
  k : Int
  l : Int
  sd : Int

def OpR.ok (o : OpR) : Bool := okB o.s o.k o.l o.sd
def OpR.zero : OpR := ⟨⟨#[]⟩, 0, 0, 0⟩
def OpR.cells (o : OpR) : Array Value := #[.string o.s, .int .i64 o.k, .int .i64 o.l, .int .i64 o.sd]

/-- The operator at a place. -/
def atO (xs : List OpR) (i : Nat) : OpR := xs.getD i OpR.zero

/-- The four cells of the operator at place i. -/
def CellsAt (w : World) (b off : Nat) (xs : List OpR) (i : Nat) : Prop :=
  w.cell? ⟨b, off + i * 4, none⟩ = some (.string (atO xs i).s) ∧ w.cell? ⟨b, off + i * 4 + 1, none⟩ = some (.int .i64 (atO xs i).k) ∧
    w.cell? ⟨b, off + i * 4 + 2, none⟩ = some (.int .i64 (atO xs i).l) ∧ w.cell? ⟨b, off + i * 4 + 3, none⟩ = some (.int .i64 (atO xs i).sd)

/-- The cells of a row of operators. -/
def Ops (w : World) (b off : Nat) (xs : List OpR) : Prop := ∀ i, i < xs.length → CellsAt w b off xs i

/-- No text is too long for a text. -/
def Sized (xs : List OpR) : Prop := ∀ i, i < xs.length → (atO xs i).s.size ≤ maxLen

theorem CellsAt.below {w w' : World} {b off i : Nat} {xs : List OpR} {B : Nat} (h : CellsAt w b off xs i) (hb : Below B w w') (hB : b < B) : CellsAt w' b off xs i := by
  obtain ⟨h0, h1, h2, h3⟩ := h
  exact ⟨(hb.cell (p := ⟨b, _, none⟩) hB).trans h0, (hb.cell (p := ⟨b, _, none⟩) hB).trans h1, (hb.cell (p := ⟨b, _, none⟩) hB).trans h2, (hb.cell (p := ⟨b, _, none⟩) hB).trans h3⟩

theorem Ops.below {w w' : World} {b off : Nat} {xs : List OpR} {B : Nat} (h : Ops w b off xs) (hb : Below B w w') (hB : b < B) : Ops w' b off xs :=
  fun i hi => (h i hi).below hb hB

/-- A slice of operators that came in: empty, or its cells lie there. -/
def Arg (w : World) (a : Option Addr) (xs : List OpR) : Prop := xs.length = 0 ∨ ∃ b off, a = some ⟨b, off, none⟩ ∧ Ops w b off xs ∧ b < w.heap.size

def okTo (xs : List OpR) (k : Nat) : Prop := ∀ j, j < k → (atO xs j).ok = true

theorem okTo_succ {xs : List OpR} {k : Nat} (h : okTo xs k) (hk : (atO xs k).ok = true) : okTo xs (k + 1) := by
  intro j hj
  by_cases e : j = k
  · subst e; exact hk
  · exact h j (by omega)

/-- What is left of 'left', as szOpS has it: less than nothing, or the list and what is left fit. -/
def Left (left r : Int) (n : Nat) : Prop := r < 0 ∨ (0 ≤ r ∧ r + n ≤ left)

set_option maxHeartbeats 1000000 in
theorem szOpS_any (a : Option Addr) (cap : Nat) (xs : List OpR) (left : Int) (w : World) (hm : xs.length ≤ maxLen) (hw : Arg w a xs) (hs : Sized xs) (hl0 : 0 ≤ left) (hl1 : left ≤ 1048576) :
    Calls Try.prog 38 #[.slice a xs.length cap, .int .i64 left] w fun e w' => (∃ r, e = .returned (.int .i64 r) ∧ Left left r xs.length) ∧ Below w.heap.size w w' := by
  unfold maxLen at hm
  by_cases hneg : left < xs.length
  · go_enter Try.func38, Try.ntmps38
    go_wp2
    go_ret
    exact ⟨⟨-1, rfl, Or.inl (by omega)⟩, Below.refl _ _⟩
  rcases hw with h0 | ⟨b, off, rfl, hw, hB⟩
  · go_enter Try.func38, Try.ntmps38
    go_wp2
    refine wp_loop_rounds 1 ?_
    rw [rounds_succ]
    go_wp2
    go_ret
    exact ⟨⟨_, rfl, Or.inr (by omega)⟩, Below.refl _ _⟩
  · go_enter Try.func38, Try.ntmps38
    go_wp2
    go_loopw [1, 5] (fun lf i wr => ∃ (k : Nat) (r : Int), k ≤ xs.length ∧ i = .int .i64 k ∧ lf = .int .i64 r ∧ 0 ≤ r ∧ r ≤ left - xs.length ∧ Below w.heap.size w wr) (fun _ i _ => xs.length - (intOf i).toNat)
    case atStart => exact ⟨0, _, Nat.zero_le _, rfl, rfl, by omega, by omega, Below.refl _ _⟩
    case round =>
      obtain ⟨k, r, hk, rfl, rfl, hr0, hr1, hbel⟩ := hrel
      by_cases hlt : k < xs.length
      · obtain ⟨h0, h1, h2, h3⟩ := (hw k hlt).below hbel hB
        have hsz : szI r (atO xs k).s.size < 0 ∨ (0 ≤ szI r (atO xs k).s.size ∧ szI r (atO xs k).s.size ≤ r) := by unfold szI; split <;> omega
        rcases hsz with hsz | ⟨hsz, hszr⟩
        · go_wp2_with (go_at_call 17; refine (szOp_any _ _ _ _ _ _ (hs k hlt) hr0 (by omega)).mono ?_; rintro e w' ⟨rfl, hb⟩)
          go_ret
          exact ⟨⟨-1, rfl, Or.inl (by omega)⟩, hbel.trans (hb.mono hbel.size)⟩
        · go_wp2_with (go_at_call 17; refine (szOp_any _ _ _ _ _ _ (hs k hlt) hr0 (by omega)).mono ?_; rintro e w' ⟨rfl, hb⟩)
          exact ⟨⟨k + 1, _, by omega, by go_num, rfl, hsz, by omega, hbel.trans (hb.mono hbel.size)⟩, by simp [intOf]; omega⟩
      · go_wp2
        go_ret
        exact ⟨⟨_, rfl, Or.inr ⟨hr0, by omega⟩⟩, hbel⟩
end Go.Proofs.Ytokabkhnidlcnaa

/-
  Tables: sizes, copies, comparison.
-/
namespace Go.Proofs.Ytokabkhnidlcnaa
set_option maxRecDepth 100000
open Go.RowKit

set_option maxHeartbeats 400000 in
theorem szTable_any (a : Option Addr) (cap : Nat) (xs : List OpR) (left : Int) (w : World) (hm : xs.length ≤ maxLen) (hw : Arg w a xs) (hs : Sized xs) (hl0 : 0 ≤ left) (hl1 : left ≤ 1048576) :
    Calls Try.prog 12 #[.agg #[.slice a xs.length cap], .int .i64 left] w fun e w' => (∃ r, e = .returned (.int .i64 r) ∧ Left left r xs.length) ∧ Below w.heap.size w w' := by
  have hw' : ∀ o, Arg (w.alloc o) a xs := fun o => by
    rcases hw with h | ⟨b, off, rfl, h1, h2⟩
    · exact Or.inl h
    · exact Or.inr ⟨b, off, rfl, h1.below (below1 _ _) h2, by simp; omega⟩
  have HW := hide hw'
  clear hw' hw
  go_enter Try.func12, Try.ntmps12
  go_wp2_with fail
  refine (szOpS_any _ _ _ _ _ hm (unhide HW _) hs hl0 hl1).mono ?_
  rintro e w1 ⟨⟨r, rfl, hr⟩, hb⟩
  by_cases hr0 : r < 0
  · go_wp2_with fail
    go_ret
    exact ⟨⟨-1, rfl, Or.inl (by omega)⟩, (below1 _ _).trans (hb.mono (by simp))⟩
  · go_wp2_with fail
    go_ret
    exact ⟨⟨r, rfl, hr⟩, (below1 _ _).trans (hb.mono (by simp))⟩

/-- A row that is being filled: k operators lie there; all its cells may be written. -/
def Filled (w : World) (g : Nat) (xs : List OpR) (k : Nat) : Prop :=
  g < w.heap.size ∧ w.there g 0 (xs.length * 4) ∧ ∀ i, i < k → CellsAt w g 0 xs i

theorem Filled.below {w w' : World} {g k : Nat} {xs : List OpR} {B : Nat} (h : Filled w g xs k) (hb : Below B w w') (hB : g < B) : Filled w' g xs k := by
  obtain ⟨h1, h2, h3⟩ := h
  refine ⟨Nat.lt_of_lt_of_le h1 hb.size, fun j hj => ?_, fun i hi => (h3 i hi).below hb hB⟩
  have := h2 j hj
  exact ⟨by rw [hb.cell (p := ⟨g, _, none⟩) hB]; exact this.1, by rw [hb.frozen (p := ⟨g, _, none⟩) hB]; exact this.2⟩

theorem Filled.step {w : World} {g k : Nat} {xs : List OpR} (h : Filled w g xs k) (hk : k < xs.length) :
    Filled (w.setCells g (k * 4) [.string (atO xs k).s, .int .i64 (atO xs k).k, .int .i64 (atO xs k).l, .int .i64 (atO xs k).sd]) g xs (k + 1) := by
  obtain ⟨h1, h2, h3⟩ := h
  have hin := World.cell?_setCells_in g [.string (atO xs k).s, .int .i64 (atO xs k).k, .int .i64 (atO xs k).l, .int .i64 (atO xs k).sd] (k * 4) w (fun j hj => by
    have := (h2 (k * 4 + j) (by simp at hj; omega)).1
    simpa using this)
  refine ⟨?_, World.there_setCells h2 _ _ _, fun i hi => ?_⟩
  · simpa [World.setCells, World.setCell] using h1
  · by_cases e : i = k
    · subst e
      have a0 := hin 0 (by simp)
      have a1 := hin 1 (by simp)
      have a2 := hin 2 (by simp)
      have a3 := hin 3 (by simp)
      exact ⟨by simpa using a0, by simpa using a1, by simpa using a2, by simpa using a3⟩
    · have hi' : i < k := by omega
      obtain ⟨c0, c1, c2, c3⟩ := h3 i hi'
      refine ⟨?_, ?_, ?_, ?_⟩
      all_goals
        rw [World.cell?_setCells_out g _ _ _ _ (fun _ _ => Or.inl (by simp; omega))]
        assumption

theorem fill_cells {w : World} {g k : Nat} {xs : List OpR} (h : Filled w g xs k) (hk : k < xs.length) :
    ((∃ v, w.cell? ⟨g, k * 4, none⟩ = some v) ∧ w.frozen? ⟨g, k * 4, none⟩ = false) ∧ ((∃ v, w.cell? ⟨g, k * 4 + 1, none⟩ = some v) ∧ w.frozen? ⟨g, k * 4 + 1, none⟩ = false) ∧
    ((∃ v, w.cell? ⟨g, k * 4 + 2, none⟩ = some v) ∧ w.frozen? ⟨g, k * 4 + 2, none⟩ = false) ∧ ((∃ v, w.cell? ⟨g, k * 4 + 3, none⟩ = some v) ∧ w.frozen? ⟨g, k * 4 + 3, none⟩ = false) := by
  have h0 := h.2.1 (k * 4) (by omega)
  have h1 := h.2.1 (k * 4 + 1) (by omega)
  have h2 := h.2.1 (k * 4 + 2) (by omega)
  have h3 := h.2.1 (k * 4 + 3) (by omega)
  simp only [Nat.zero_add] at h0 h1 h2 h3
  exact ⟨⟨Option.isSome_iff_exists.1 h0.1, h0.2⟩, ⟨Option.isSome_iff_exists.1 h1.1, h1.2⟩, ⟨Option.isSome_iff_exists.1 h2.1, h2.2⟩, ⟨Option.isSome_iff_exists.1 h3.1, h3.2⟩⟩

theorem infoOp : (Try.prog.info? 48).map (fun i => (i.zero, i.size, i.bytes)) = some (some (.agg #[.string ⟨#[]⟩, .int .i64 0, .int .i64 0, .int .i64 0]), 4, 40) := by kernel_rfl
theorem sizeOp : (Try.prog.info? 48).map (·.size) = some 4 := by kernel_rfl

theorem made_there (w : World) (z : Array Value) (n : Nat) (t : TypeId) : (w.alloc (.cells (madeCells z n) t)).there w.heap.size 0 n := by
  intro j hj
  have hb : (w.alloc (.cells (madeCells z n) t)).heap[w.heap.size]? = some (.cells (madeCells z n) t (0, 0)) := heap_alloc_new w _
  have hc := cell_of_row (w.alloc (.cells (madeCells z n) t)) w.heap.size (0 + j) (madeCells z n) t (0, 0) hb
  refine ⟨?_, frozen_of_row _ _ _ _ _ hb⟩
  rw [hc]
  have : j < (madeCells z n).size := by rw [size_madeCells]; exact hj
  simp [this]

set_option maxHeartbeats 1000000 in
theorem toOpS_any (a : Option Addr) (cap : Nat) (xs : List OpR) (w : World) (hm : xs.length ≤ 1048576) (hw : Arg w a xs) :
    Calls Try.prog 41 #[.slice a xs.length cap] w fun e w' => (∃ g, e = .returned (.slice (some ⟨g, 0, none⟩) xs.length xs.length) ∧ w.heap.size ≤ g ∧ Filled w' g xs xs.length) ∧ Below w.heap.size w w' := by
  obtain ⟨inf, hi, hz⟩ := Option.map_eq_some_iff.1 infoOp
  simp only [Prod.mk.injEq] at hz
  obtain ⟨hz, hsz, hby⟩ := hz
  have hmk : ∀ W : World, (Instr.makeSlice 23 (.int .i64 (xs.length : Int)) (.int .i64 (xs.length : Int))).run Try.prog W = .ok (.slice (some ⟨W.heap.size, 0, none⟩) xs.length xs.length) (W.alloc (.cells (madeCells #[.string ⟨#[]⟩, .int .i64 0, .int .i64 0, .int .i64 0] (xs.length * 4)) 48)) := by
    intro W
    have := run_make (P := Try.prog) W 23 48 inf _ Try.underlying23 hi hz .i64 .i64 xs.length xs.length (by omega) (Int.le_refl _) (by rw [hby]; omega) (by omega)
    simpa [hsz, Value.cells] using this
  clear hz hsz hby hi
  rcases hw with h0 | ⟨b, off, rfl, hw, hB⟩
  · obtain rfl := List.eq_nil_of_length_eq_zero h0
    have hmk0 : ∀ W : World, (Instr.makeSlice 23 (.int .i64 0) (.int .i64 0)).run Try.prog W = .ok (.slice (some ⟨W.heap.size, 0, none⟩) 0 0) (W.alloc (.cells #[] 48)) := fun W => by kernel_rfl
    clear hmk h0 hm
    go_enter Try.func41, Try.ntmps41
    go_wp2
    refine wp_loop_rounds 1 ?_
    rw [rounds_succ]
    go_wp2
    go_ret
    exact ⟨⟨w.heap.size, rfl, Nat.le_refl _, by simp, fun j hj => (by simp at hj), fun i hi => (by simp at hi)⟩, below1 _ _⟩
  · go_enter Try.func41, Try.ntmps41
    go_wp2
    go_loopw [4] (fun i wr => ∃ k : Nat, k ≤ xs.length ∧ i = .int .i64 k ∧ Filled wr w.heap.size xs k ∧ Below w.heap.size w wr) (fun i _ => xs.length - (intOf i).toNat)
    case atStart => exact ⟨0, Nat.zero_le _, rfl, ⟨by simp, made_there _ _ _ _, fun i hi => by omega⟩, below1 _ _⟩
    case round =>
      obtain ⟨k, hk, rfl, hfil, hbel⟩ := hrel
      by_cases hlt : k < xs.length
      · obtain ⟨h0, h1, h2, h3⟩ := (hw k hlt).below hbel hB
        go_wp2_with fail
        refine (toOp_any _ _ _ _ _).mono ?_
        rintro e w1 ⟨rfl, hb⟩
        have hfil1 := hfil.below hb hfil.1
        obtain ⟨⟨e0, f0⟩, ⟨e1, f1⟩, ⟨e2, f2⟩, ⟨e3, f3⟩⟩ := fill_cells hfil1 hlt
        obtain ⟨v0, e0⟩ := e0
        obtain ⟨v1, e1⟩ := e1
        obtain ⟨v2, e2⟩ := e2
        obtain ⟨v3, e3⟩ := e3
        have HF := hide (hfil1.step hlt)
        have HB := hide (below_setCells (Nat.le_refl w.heap.size) [.string (atO xs k).s, .int .i64 (atO xs k).k, .int .i64 (atO xs k).l, .int .i64 (atO xs k).sd] (k * 4) w1 (hbel.trans (hb.mono hbel.size)))
        clear hfil1 hfil
        go_wp2_with fail
        exact ⟨⟨k + 1, by omega, by go_num, unhide HF, unhide HB⟩, by simp [intOf]; omega⟩
      · go_wp2
        go_ret
        have : k = xs.length := by omega
        exact ⟨⟨w.heap.size, rfl, Nat.le_refl _, this ▸ hfil⟩, hbel⟩
end Go.Proofs.Ytokabkhnidlcnaa
