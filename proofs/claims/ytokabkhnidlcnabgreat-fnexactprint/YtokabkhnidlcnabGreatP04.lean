import Derived.Deep.RegionHeld
import Derived.Test.YtokabkhnidlcnabGreatP01
import Derived.Test.YtokabkhnidlcnabGreatP03

/-
  Tables: sizes, copies, comparison.
-/
namespace Go.Proofs.YtokabkhnidlcnabGreat
set_option maxRecDepth 100000
open Go.RowKit

set_option maxHeartbeats 400000 in
theorem szTable_any (a : Option Addr) (cap : Nat) (xs : List OpR) (left : Int) (w : World) (hm : xs.length ≤ maxLen) (hw : Arg w a xs) (hs : Sized xs) (hl0 : 0 ≤ left) (hl1 : left ≤ 1048576) :
    Calls Tryz.prog 6 #[.agg #[.slice a xs.length cap], .int .i64 left] w fun e w' => (∃ r, e = .returned (.int .i64 r) ∧ Left left r xs.length) ∧ Below w.heap.size w w' := by
  have hw' : ∀ o, Arg (w.alloc o) a xs := fun o => by
    rcases hw with h | ⟨b, off, rfl, h1, h2⟩
    · exact Or.inl h
    · exact Or.inr ⟨b, off, rfl, h1.below (below1 _ _) h2, by simp; omega⟩
  have HW := hide hw'
  clear hw' hw
  go_enter Tryz.func6, Tryz.ntmps6
  go_wp2_with fail
  refine (szOpS_any _ _ _ _ _ hm (unhide HW _) hs hl0 hl1).mono ?_
  rintro e w1 ⟨⟨r, rfl, hr⟩, hb⟩
  by_cases hr0 : r < 0
  · go_wp2_with fail
    go_ret
    exact ⟨⟨-1, rfl, Or.inl (by omega)⟩, (below1 _ _).trans (hb.mono (by simp))⟩
  · go_wp2_with fail
    go_ret
    exact ⟨⟨r, rfl, hr⟩, (below1 _ _).trans (hb.mono (by simp))⟩

/-- A row that is being filled: k operators lie there; all its cells may be written. -/
def Filled (w : World) (g : Nat) (xs : List OpR) (k : Nat) : Prop :=
  g < w.heap.size ∧ w.there g 0 (xs.length * 4) ∧ ∀ i, i < k → CellsAt w g 0 xs i

theorem Filled.below {w w' : World} {g k : Nat} {xs : List OpR} {B : Nat} (h : Filled w g xs k) (hb : Below B w w') (hB : g < B) : Filled w' g xs k := by
  obtain ⟨h1, h2, h3⟩ := h
  refine ⟨Nat.lt_of_lt_of_le h1 hb.size, fun j hj => ?_, fun i hi => (h3 i hi).below hb hB⟩
  have := h2 j hj
  exact ⟨by rw [hb.cell (p := ⟨g, _, none⟩) hB]; exact this.1, by rw [hb.frozen (p := ⟨g, _, none⟩) hB]; exact this.2⟩

theorem Filled.step {w : World} {g k : Nat} {xs : List OpR} (h : Filled w g xs k) (hk : k < xs.length) :
    Filled (w.setCells g (k * 4) [.string (atO xs k).s, .int .i64 (atO xs k).k, .int .i64 (atO xs k).l, .int .i64 (atO xs k).sd]) g xs (k + 1) := by
  obtain ⟨h1, h2, h3⟩ := h
  have hin := World.cell?_setCells_in g [.string (atO xs k).s, .int .i64 (atO xs k).k, .int .i64 (atO xs k).l, .int .i64 (atO xs k).sd] (k * 4) w (fun j hj => by
    have := (h2 (k * 4 + j) (by simp at hj; omega)).1
    simpa using this)
  refine ⟨?_, World.there_setCells h2 _ _ _, fun i hi => ?_⟩
  · simpa [World.setCells, World.setCell] using h1
  · by_cases e : i = k
    · subst e
      have a0 := hin 0 (by simp)
      have a1 := hin 1 (by simp)
      have a2 := hin 2 (by simp)
      have a3 := hin 3 (by simp)
      exact ⟨by simpa using a0, by simpa using a1, by simpa using a2, by simpa using a3⟩
    · have hi' : i < k := by omega
      obtain ⟨c0, c1, c2, c3⟩ := h3 i hi'
      refine ⟨?_, ?_, ?_, ?_⟩
      all_goals
        rw [World.cell?_setCells_out g _ _ _ _ (fun _ _ => Or.inl (by simp; omega))]
        assumption

theorem fill_cells {w : World} {g k : Nat} {xs : List OpR} (h : Filled w g xs k) (hk : k < xs.length) :
    ((∃ v, w.cell? ⟨g, k * 4, none⟩ = some v) ∧ w.frozen? ⟨g, k * 4, none⟩ = false) ∧ ((∃ v, w.cell? ⟨g, k * 4 + 1, none⟩ = some v) ∧ w.frozen? ⟨g, k * 4 + 1, none⟩ = false) ∧
    ((∃ v, w.cell? ⟨g, k * 4 + 2, none⟩ = some v) ∧ w.frozen? ⟨g, k * 4 + 2, none⟩ = false) ∧ ((∃ v, w.cell? ⟨g, k * 4 + 3, none⟩ = some v) ∧ w.frozen? ⟨g, k * 4 + 3, none⟩ = false) := by
  have h0 := h.2.1 (k * 4) (by omega)
  have h1 := h.2.1 (k * 4 + 1) (by omega)
  have h2 := h.2.1 (k * 4 + 2) (by omega)
  have h3 := h.2.1 (k * 4 + 3) (by omega)
  simp only [Nat.zero_add] at h0 h1 h2 h3
  exact ⟨⟨Option.isSome_iff_exists.1 h0.1, h0.2⟩, ⟨Option.isSome_iff_exists.1 h1.1, h1.2⟩, ⟨Option.isSome_iff_exists.1 h2.1, h2.2⟩, ⟨Option.isSome_iff_exists.1 h3.1, h3.2⟩⟩

theorem infoOp : (Tryz.prog.info? 104).map (fun i => (i.zero, i.size, i.bytes)) = some (some (.agg #[.string ⟨#[]⟩, .int .i64 0, .int .i64 0, .int .i64 0]), 4, 40) := by kernel_rfl
theorem sizeOp : (Tryz.prog.info? 104).map (·.size) = some 4 := by kernel_rfl

theorem made_there (w : World) (z : Array Value) (n : Nat) (t : TypeId) : (w.alloc (.cells (madeCells z n) t)).there w.heap.size 0 n := by
  intro j hj
  have hb : (w.alloc (.cells (madeCells z n) t)).heap[w.heap.size]? = some (.cells (madeCells z n) t (0, 0)) := heap_alloc_new w _
  have hc := cell_of_row (w.alloc (.cells (madeCells z n) t)) w.heap.size (0 + j) (madeCells z n) t (0, 0) hb
  refine ⟨?_, frozen_of_row _ _ _ _ _ hb⟩
  rw [hc]
  have : j < (madeCells z n).size := by rw [size_madeCells]; exact hj
  simp [this]

set_option maxHeartbeats 1000000 in
theorem toOpS_any (a : Option Addr) (cap : Nat) (xs : List OpR) (w : World) (hm : xs.length ≤ 1048576) (hw : Arg w a xs) :
    Calls Tryz.prog 28 #[.slice a xs.length cap] w fun e w' => (∃ g, e = .returned (.slice (some ⟨g, 0, none⟩) xs.length xs.length) ∧ w.heap.size ≤ g ∧ Filled w' g xs xs.length) ∧ Below w.heap.size w w' := by
  obtain ⟨inf, hi, hz⟩ := Option.map_eq_some_iff.1 infoOp
  simp only [Prod.mk.injEq] at hz
  obtain ⟨hz, hsz, hby⟩ := hz
  have hmk : ∀ W : World, (Instr.makeSlice 31 (.int .i64 (xs.length : Int)) (.int .i64 (xs.length : Int))).run Tryz.prog W = .ok (.slice (some ⟨W.heap.size, 0, none⟩) xs.length xs.length) (W.alloc (.cells (madeCells #[.string ⟨#[]⟩, .int .i64 0, .int .i64 0, .int .i64 0] (xs.length * 4)) 104)) := by
    intro W
    have := run_make (P := Tryz.prog) W 31 104 inf _ Tryz.underlying31 hi hz .i64 .i64 xs.length xs.length (by omega) (Int.le_refl _) (by rw [hby]; omega) (by omega)
    simpa [hsz, Value.cells] using this
  clear hz hsz hby hi
  rcases hw with h0 | ⟨b, off, rfl, hw, hB⟩
  · obtain rfl := List.eq_nil_of_length_eq_zero h0
    have hmk0 : ∀ W : World, (Instr.makeSlice 31 (.int .i64 0) (.int .i64 0)).run Tryz.prog W = .ok (.slice (some ⟨W.heap.size, 0, none⟩) 0 0) (W.alloc (.cells #[] 104)) := fun W => by kernel_rfl
    clear hmk h0 hm
    go_enter Tryz.func28, Tryz.ntmps28
    go_wp2
    refine wp_loop_rounds 1 ?_
    rw [rounds_succ]
    go_wp2
    go_ret
    exact ⟨⟨w.heap.size, rfl, Nat.le_refl _, by simp, fun j hj => (by simp at hj), fun i hi => (by simp at hi)⟩, below1 _ _⟩
  · go_enter Tryz.func28, Tryz.ntmps28
    go_wp2
    go_loopw [4] (fun i wr => ∃ k : Nat, k ≤ xs.length ∧ i = .int .i64 k ∧ Filled wr w.heap.size xs k ∧ Below w.heap.size w wr) (fun i _ => xs.length - (intOf i).toNat)
    case atStart => exact ⟨0, Nat.zero_le _, rfl, ⟨by simp, made_there _ _ _ _, fun i hi => by omega⟩, below1 _ _⟩
    case round =>
      obtain ⟨k, hk, rfl, hfil, hbel⟩ := hrel
      by_cases hlt : k < xs.length
      · obtain ⟨h0, h1, h2, h3⟩ := (hw k hlt).below hbel hB
        go_wp2_with fail
        refine (toOp_any _ _ _ _ _).mono ?_
        rintro e w1 ⟨rfl, hb⟩
        have hfil1 := hfil.below hb hfil.1
        obtain ⟨⟨e0, f0⟩, ⟨e1, f1⟩, ⟨e2, f2⟩, ⟨e3, f3⟩⟩ := fill_cells hfil1 hlt
        obtain ⟨v0, e0⟩ := e0
        obtain ⟨v1, e1⟩ := e1
        obtain ⟨v2, e2⟩ := e2
        obtain ⟨v3, e3⟩ := e3
        have HF := hide (hfil1.step hlt)
        have HB := hide (below_setCells (Nat.le_refl w.heap.size) [.string (atO xs k).s, .int .i64 (atO xs k).k, .int .i64 (atO xs k).l, .int .i64 (atO xs k).sd] (k * 4) w1 (hbel.trans (hb.mono hbel.size)))
        clear hfil1 hfil
        go_wp2_with fail
        exact ⟨⟨k + 1, by omega, by go_num, unhide HF, unhide HB⟩, by simp [intOf]; omega⟩
      · go_wp2
        go_ret
        have : k = xs.length := by omega
        exact ⟨⟨w.heap.size, rfl, Nat.le_refl _, this ▸ hfil⟩, hbel⟩
end Go.Proofs.YtokabkhnidlcnabGreat

/-
  Tables: the copy of a table, two tables that hold the same.
-/
namespace Go.Proofs.YtokabkhnidlcnabGreat
set_option maxRecDepth 100000
open Go.RowKit

theorem Arg.alloc {w : World} {a : Option Addr} {xs : List OpR} (h : Arg w a xs) (o : Obj) : Arg (w.alloc o) a xs := by
  rcases h with h | ⟨b, off, rfl, h1, h2⟩
  · exact Or.inl h
  · exact Or.inr ⟨b, off, rfl, h1.below (below1 _ _) h2, by simp; omega⟩

theorem Arg.below {w w' : World} {a : Option Addr} {xs : List OpR} (h : Arg w a xs) (hb : Below w.heap.size w w') : Arg w' a xs := by
  rcases h with h | ⟨b, off, rfl, h1, h2⟩
  · exact Or.inl h
  · exact Or.inr ⟨b, off, rfl, h1.below hb h2, Nat.lt_of_lt_of_le h2 hb.size⟩

theorem CellsAt.setCell {w : World} {b off i : Nat} {xs : List OpR} (h : CellsAt w b off xs i) (p : Addr) (v : Value) (hp : p.block ≠ b) : CellsAt (w.setCell p v) b off xs i := by
  obtain ⟨h0, h1, h2, h3⟩ := h
  have e : ∀ o, (w.setCell p v).cell? ⟨b, o, none⟩ = w.cell? ⟨b, o, none⟩ := fun o => World.cell?_setCell_other _ _ _ _ (fun e => hp (by rw [e]))
  exact ⟨(e _).trans h0, (e _).trans h1, (e _).trans h2, (e _).trans h3⟩

theorem Filled.setCell {w : World} {g k : Nat} {xs : List OpR} (h : Filled w g xs k) (p : Addr) (v : Value) (hp : p.block ≠ g) : Filled (w.setCell p v) g xs k := by
  obtain ⟨h1, h2, h3⟩ := h
  refine ⟨by simpa [World.setCell] using h1, fun j hj => ⟨?_, ?_⟩, fun i hi => (h3 i hi).setCell p v hp⟩
  · rw [World.cell?_setCell_other _ _ _ _ (fun e => hp (by rw [e]))]; exact (h2 j hj).1
  · rw [World.frozen?_setCell]; exact (h2 j hj).2

theorem Filled.ops {w : World} {g : Nat} {xs : List OpR} (h : Filled w g xs xs.length) : Ops w g 0 xs := fun i hi => h.2.2 i hi

set_option maxHeartbeats 1000000 in
theorem toTable_any (a : Option Addr) (cap : Nat) (xs : List OpR) (w : World) (hm : xs.length ≤ 1048576) (hw : Arg w a xs) :
    Calls Tryz.prog 8 #[.agg #[.slice a xs.length cap]] w fun e w' => (∃ g, e = .returned (.agg #[.slice (some ⟨g, 0, none⟩) xs.length xs.length]) ∧ w.heap.size ≤ g ∧ Filled w' g xs xs.length) ∧ Below w.heap.size w w' := by
  have HW := hide hw
  clear hw
  go_enter Tryz.func8, Tryz.ntmps8
  go_wp2_with fail
  refine (toOpS_any _ _ _ _ hm ((((unhide HW).alloc _).alloc _).alloc _)).mono ?_
  rintro e w1 ⟨⟨g, rfl, hg, hfil⟩, hb⟩
  obtain ⟨hc, hf⟩ := bcell hb
  have hz : w.heap.size + 2 < w1.heap.size := by have := hb.size; simp at this; omega
  have hgs : w.heap.size + 3 ≤ g := by simpa using hg
  have HF := hide hfil
  clear hfil hg
  go_wp2_with fail
  refine bodyPost_ret (v := .agg #[.slice (some ⟨g, 0, none⟩) xs.length xs.length]) (by simp [results, Tryz.results8, go_sem, hc]) rfl ⟨⟨g, rfl, by omega, ?_⟩, ?_⟩
  · exact ((unhide HF).setCell _ _ (by simp; omega)).setCell _ _ (by simp; omega)
  · exact (((((below1 _ _).alloc (by simp) _).alloc (by simp; omega) _).trans (hb.mono (by simp; omega))).setCell (by simp; omega) _).setCell (by simp) _

set_option maxHeartbeats 400000 in
theorem eqOp_same (s : ByteArray) (k l sd : Int) (w : World) :
    Calls Tryz.prog 76 #[.agg #[.string s, .int .i64 k, .int .i64 l, .int .i64 sd], .agg #[.string s, .int .i64 k, .int .i64 l, .int .i64 sd]] w fun e w' => e = .returned (.bool true) ∧ Below w.heap.size w w' := by
  go_enter Tryz.func76, Tryz.ntmps76
  go_wp2
  go_ret
  exact ⟨rfl, (below1 _ _).alloc (by simp) _⟩

set_option maxHeartbeats 1000000 in
theorem eqOpS_same (b off b' off' cap cap' : Nat) (xs : List OpR) (w : World) (hm : xs.length ≤ 1048576) (h : Ops w b off xs) (h' : Ops w b' off' xs) (hB : b < w.heap.size) (hB' : b' < w.heap.size) :
    Calls Tryz.prog 38 #[.slice (some ⟨b, off, none⟩) xs.length cap, .slice (some ⟨b', off', none⟩) xs.length cap'] w fun e w' => e = .returned (.bool true) ∧ Below w.heap.size w w' := by
  go_enter Tryz.func38, Tryz.ntmps38
  go_wp2
  go_loopw [5] (fun i wr => ∃ k : Nat, k ≤ xs.length ∧ i = .int .i64 k ∧ Below w.heap.size w wr) (fun i _ => xs.length - (intOf i).toNat)
  case atStart => exact ⟨0, Nat.zero_le _, rfl, Below.refl _ _⟩
  case round =>
    obtain ⟨k, hk, rfl, hbel⟩ := hrel
    by_cases hlt : k < xs.length
    · obtain ⟨a0, a1, a2, a3⟩ := (h k hlt).below hbel hB
      obtain ⟨c0, c1, c2, c3⟩ := (h' k hlt).below hbel hB'
      have hltI : (k : Int) < (xs.length : Int) := by omega
      have zb : b < wr.heap.size := Nat.lt_of_lt_of_le hB hbel.size
      have zb' : b' < wr.heap.size := Nat.lt_of_lt_of_le hB' hbel.size
      go_wp2_with fail
      go_region_held (fun w' => w'.cell? ⟨b, off + k * 4, none⟩ = some (.string (atO xs k).s) ∧ w'.cell? ⟨b, off + k * 4 + 1, none⟩ = some (.int .i64 (atO xs k).k) ∧
        w'.cell? ⟨b, off + k * 4 + 2, none⟩ = some (.int .i64 (atO xs k).l) ∧ w'.cell? ⟨b, off + k * 4 + 3, none⟩ = some (.int .i64 (atO xs k).sd) ∧
        w'.cell? ⟨b', off' + k * 4, none⟩ = some (.string (atO xs k).s) ∧ w'.cell? ⟨b', off' + k * 4 + 1, none⟩ = some (.int .i64 (atO xs k).k) ∧
        w'.cell? ⟨b', off' + k * 4 + 2, none⟩ = some (.int .i64 (atO xs k).l) ∧ w'.cell? ⟨b', off' + k * 4 + 3, none⟩ = some (.int .i64 (atO xs k).sd)) (go_keep)
        (first | (go_at_call 76; refine (eqOp_same _ _ _ _ _).mono ?_; rintro e w1 ⟨rfl, hb1⟩; obtain ⟨q0, q1, q2, q3⟩ := CellsAt.below (w := wr.drew) ⟨a0, a1, a2, a3⟩ hb1 zb; obtain ⟨p0, p1, p2, p3⟩ := CellsAt.below (w := wr.drew) ⟨c0, c1, c2, c3⟩ hb1 zb'))
      go_wp2
      exact ⟨⟨k + 1, by omega, by go_num, hbel.trans (((Below.refl _ _).drew.trans hb1).mono hbel.size)⟩, by simp [intOf]; omega⟩
    · go_wp2
      go_ret
      exact ⟨rfl, hbel⟩
end Go.Proofs.YtokabkhnidlcnabGreat

/-
  Walk: all operators are well formed.
-/
namespace Go.Proofs.YtokabkhnidlcnabGreat
set_option maxRecDepth 100000
open Go.RowKit

set_option maxHeartbeats 400000 in
theorem allWF_any (b off cap : Nat) (xs : List OpR) (w : World) (hn2 : xs.length ≤ 1048576) (hw : Ops w b off xs) (hs : Sized xs) (hB : b < w.heap.size) :
    Calls Tryz.prog 62 #[.slice (some ⟨b, off, none⟩) xs.length cap] w fun e w' => (∃ v, e = .returned (.bool v) ∧ (v = true ↔ okTo xs xs.length)) ∧ Below w.heap.size w w' := by
  go_enter Tryz.func62, Tryz.ntmps62
  go_wp2
  go_loopw [7] (fun i wr => ∃ k : Nat, k ≤ xs.length ∧ i = .int .i64 k ∧ okTo xs k ∧ Below w.heap.size w wr) (fun i _ => xs.length - (intOf i).toNat)
  case atStart => exact ⟨0, Nat.zero_le _, rfl, fun j h => by omega, Below.refl _ _⟩
  case round =>
    obtain ⟨k, hk, rfl, hok, hbel⟩ := hrel
    by_cases hlt : k < xs.length
    · obtain ⟨h0, h1, h2, h3⟩ := (hw k hlt).below hbel hB
      cases ht : (atO xs k).ok
      · have Ht := hide ht
        unfold OpR.ok at ht
        go_wp2_with (go_at_call 103; refine (wellFormed_any _ _ _ _ _ (hs k hlt)).mono ?_; rintro e w' ⟨rfl, hb⟩)
        go_ret
        refine ⟨⟨false, rfl, ⟨fun h => (by cases h), fun h => ?_⟩⟩, ?_⟩
        · have := h k hlt; rw [unhide Ht] at this; cases this
        · exact hbel.trans (((below1 _ _).trans (hb.mono (by simp))).mono hbel.size)
      · have Ht := hide ht
        unfold OpR.ok at ht
        go_wp2_with (go_at_call 103; refine (wellFormed_any _ _ _ _ _ (hs k hlt)).mono ?_; rintro e w' ⟨rfl, hb⟩)
        exact ⟨⟨k + 1, by omega, by go_num, okTo_succ hok (unhide Ht), hbel.trans (((below1 _ _).trans (hb.mono (by simp))).mono hbel.size)⟩, by simp [intOf]; omega⟩
    · have : k = xs.length := by omega
      go_wp2
      go_ret
      exact ⟨⟨true, rfl, ⟨fun _ => this ▸ hok, fun _ => rfl⟩⟩, hbel⟩

end Go.Proofs.YtokabkhnidlcnabGreat
