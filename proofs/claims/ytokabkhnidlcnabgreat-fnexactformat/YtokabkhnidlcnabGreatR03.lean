import Derived.Deep.RegionHeld
import Derived.Test.YtokabkhnidlcnabGreatR00
import Derived.Test.YtokabkhnidlcnabGreatR02

/-
  Walks: well-formed operators, holes, in both texts.
-/
namespace Go.Proofs.YtokabkhnidlcnabGreat
set_option maxRecDepth 100000
open Go.RowKit

set_option maxHeartbeats 400000 in
theorem l1OpOk_any (s : ByteArray) (k l sd : Int) (w : World) (hs : s.size ≤ maxLen) :
    Calls Tryz.prog 50 #[.agg #[.string s, .int .i64 k, .int .i64 l, .int .i64 sd]] w fun e w' => e = .returned (.bool (okB s k l sd)) ∧ Below w.heap.size w w' := by
  cases ht : txtB s
  · have hf := hide (show okB s k l sd = false by simp [okB, ht])
    go_enter Tryz.func50, Tryz.ntmps50
    go_wp2_with (go_at_call 91; refine (l1Signs_any _ _ hs).mono ?_; rintro e w' ⟨rfl, rfl⟩)
    go_ret
    exact ⟨ret_bool (unhide hf).symm, below1 _ _⟩
  · have hf := hide (show okB s k l sd = (decide (1 ≤ l) && decide (l ≤ 1000) && sideB k sd) by simp [okB, ht])
    go_enter Tryz.func50, Tryz.ntmps50
    go_wp2_with (go_at_call 91; refine (l1Signs_any _ _ hs).mono ?_; rintro e w' ⟨rfl, rfl⟩)
    all_goals (go_ret; refine ⟨ret_bool ?_, below1 _ _⟩; rw [unhide hf]; go_light; clear hf; (try simp only [beq_iff_eq, beq_eq_false_iff_ne, ne_eq] at *); rw [Bool.eq_iff_iff]; simp [sideB] <;> omega)

set_option maxHeartbeats 400000 in
theorem sideFits_any (s : ByteArray) (k l sd : Int) (w : World) :
    Calls Tryz.prog 132 #[.agg #[.string s, .int .i64 k, .int .i64 l, .int .i64 sd]] w fun e w' => e = .returned (.bool (sideB k sd)) ∧ Below w.heap.size w w' := by
  go_enter Tryz.func132, Tryz.ntmps132
  go_wp2
  all_goals (go_ret; refine ⟨ret_bool ?_, below1 _ _⟩; go_light; (try simp only [beq_iff_eq, beq_eq_false_iff_ne, ne_eq] at *); rw [Bool.eq_iff_iff]; simp [sideB] <;> omega)

set_option maxHeartbeats 400000 in
theorem wellFormed_any (s : ByteArray) (k l sd : Int) (w : World) (hs : s.size ≤ maxLen) :
    Calls Tryz.prog 103 #[.agg #[.string s, .int .i64 k, .int .i64 l, .int .i64 sd]] w fun e w' => e = .returned (.bool (okB s k l sd)) ∧ Below w.heap.size w w' := by
  cases ht : txtB s
  · have hf := hide (show okB s k l sd = false by simp [okB, ht])
    go_enter Tryz.func103, Tryz.ntmps103
    go_wp2_with (go_at_call 131; refine (isOpText_any _ _ hs).mono ?_; rintro e w' ⟨rfl, rfl⟩)
    go_ret
    exact ⟨ret_bool (unhide hf).symm, below1 _ _⟩
  · have hf := hide (show okB s k l sd = (decide (1 ≤ l) && decide (l ≤ 1000) && sideB k sd) by simp [okB, ht])
    by_cases h1 : 1 ≤ l
    · by_cases h2 : l ≤ 1000
      · go_enter Tryz.func103, Tryz.ntmps103
        go_wp2_with (first | (go_at_call 131; refine (isOpText_any _ _ hs).mono ?_; rintro e w' ⟨rfl, rfl⟩) | (go_at_call 132; refine (sideFits_any _ _ _ _ _).mono ?_; rintro e w' ⟨rfl, hb⟩))
        go_ret
        exact ⟨ret_bool (by rw [unhide hf]; simp [h1, h2]), (below1 _ _).trans (hb.mono (by simp))⟩
      · go_enter Tryz.func103, Tryz.ntmps103
        go_wp2_with (first | (go_at_call 131; refine (isOpText_any _ _ hs).mono ?_; rintro e w' ⟨rfl, rfl⟩) | (go_at_call 132; refine (sideFits_any _ _ _ _ _).mono ?_; rintro e w' ⟨rfl, hb⟩))
        go_ret
        exact ⟨ret_bool (by rw [unhide hf]; simp; intros; omega), below1 _ _⟩
    · go_enter Tryz.func103, Tryz.ntmps103
      go_wp2_with (first | (go_at_call 131; refine (isOpText_any _ _ hs).mono ?_; rintro e w' ⟨rfl, rfl⟩) | (go_at_call 132; refine (sideFits_any _ _ _ _ _).mono ?_; rintro e w' ⟨rfl, hb⟩))
      go_ret
      exact ⟨ret_bool (by rw [unhide hf]; simp; intros; omega), below1 _ _⟩
end Go.Proofs.YtokabkhnidlcnabGreat

/-
  Walks: Hole, in both texts.
-/
namespace Go.Proofs.YtokabkhnidlcnabGreat
set_option maxRecDepth 100000
open Go.RowKit

set_option maxHeartbeats 1000000 in
theorem specHole_any (s : ByteArray) (k l sd : Int) (b : Bool) (w : World) (hs : s.size ≤ maxLen) :
    Calls Tryz.prog 102 #[.agg #[.string s, .int .i64 k, .int .i64 l, .int .i64 sd], .bool b] w fun e w' => e = .returned (.int .i64 (holeI s k l sd b)) ∧ Below w.heap.size w w' := by
  cases ht : okB s k l sd
  · have hf := hide (hole_bad s k l sd b ht)
    go_enter Tryz.func102, Tryz.ntmps102
    go_wp2_with (go_at_call 50; refine (l1OpOk_any _ _ _ _ _ hs).mono ?_; rintro e w' ⟨rfl, hb⟩)
    go_ret
    exact ⟨ret_int (unhide hf).symm, (below1 _ _).trans (hb.mono (by simp))⟩
  · obtain ⟨⟨hl1, hl2⟩, h⟩ := ok_shape s k l sd ht
    rcases h with ⟨rfl, rfl⟩ | ⟨rfl, rfl⟩ | ⟨rfl, rfl⟩ | ⟨rfl, rfl⟩ | ⟨rfl, rfl⟩ <;> cases b
    all_goals
      have hf := hide (ht)
      go_enter Tryz.func102, Tryz.ntmps102
      go_wp2_with (go_at_call 50; refine (l1OpOk_any _ _ _ _ _ hs).mono ?_; rintro e w' ⟨rfl, hb⟩; obtain ⟨hc, hz⟩ := bcell hb)
      go_ret
      exact ⟨ret_int (by simp [holeI, infI, unhide hf]), (below1 _ _).trans (hb.mono (by simp))⟩

set_option maxHeartbeats 400000 in
theorem infixHole_any (s : ByteArray) (k l sd : Int) (b : Bool) (w : World) (hl1 : 1 ≤ l) (hl2 : l ≤ 1000) :
    Calls Tryz.prog 137 #[.agg #[.string s, .int .i64 k, .int .i64 l, .int .i64 sd], .bool b] w fun e w' => e = .returned (.int .i64 (infI l sd b)) ∧ Below w.heap.size w w' := by
  cases b
  · by_cases h : sd = 1
    · have h' : (sd == 1) = true := by simpa using h
      have H := hide h
      clear h
      go_enter Tryz.func137, Tryz.ntmps137
      go_wp2
      go_ret
      exact ⟨ret_int (by simp [infI, unhide H]), below1 _ _⟩
    · have h' : (sd == 1) = false := by simpa using h
      go_enter Tryz.func137, Tryz.ntmps137
      go_wp2
      go_ret
      exact ⟨ret_int (by simp [infI, h]), below1 _ _⟩
  · by_cases h : sd = 2
    · have h' : (sd == 2) = true := by simpa using h
      have H := hide h
      clear h
      go_enter Tryz.func137, Tryz.ntmps137
      go_wp2
      go_ret
      exact ⟨ret_int (by simp [infI, unhide H]), below1 _ _⟩
    · have h' : (sd == 2) = false := by simpa using h
      go_enter Tryz.func137, Tryz.ntmps137
      go_wp2
      go_ret
      exact ⟨ret_int (by simp [infI, h]), below1 _ _⟩

set_option maxHeartbeats 1000000 in
theorem implHole_any (s : ByteArray) (k l sd : Int) (b : Bool) (w : World) (hs : s.size ≤ maxLen) :
    Calls Tryz.prog 113 #[.agg #[.string s, .int .i64 k, .int .i64 l, .int .i64 sd], .bool b] w fun e w' => e = .returned (.int .i64 (holeI s k l sd b)) ∧ Below w.heap.size w w' := by
  cases ht : okB s k l sd
  · have hf := hide (hole_bad s k l sd b ht)
    go_enter Tryz.func113, Tryz.ntmps113
    go_wp2_with (go_at_call 103; refine (wellFormed_any _ _ _ _ _ hs).mono ?_; rintro e w' ⟨rfl, hb⟩)
    go_ret
    exact ⟨ret_int (unhide hf).symm, (below1 _ _).trans (hb.mono (by simp))⟩
  · obtain ⟨⟨hl1, hl2⟩, h⟩ := ok_shape s k l sd ht
    have hf := hide ht
    by_cases h2 : k = 2
    · subst h2
      clear h
      go_enter Tryz.func113, Tryz.ntmps113
      go_wp2_with (first | (go_at_call 103; refine (wellFormed_any _ _ _ _ _ hs).mono ?_; rintro e w' ⟨rfl, hb⟩; obtain ⟨hc, hz⟩ := bcell hb) | (go_at_call 137; refine (infixHole_any _ _ _ _ _ _ hl1 hl2).mono ?_; rintro e w1 ⟨rfl, hb1⟩))
      go_ret
      exact ⟨ret_int (by simp [holeI, unhide hf]), (below1 _ _).trans ((hb.mono (by simp)).trans (hb1.mono (by have := hb.size; simp at this; omega)))⟩
    · have h2' : (k == 2) = false := by simpa using h2
      clear h
      cases b
      all_goals
        go_enter Tryz.func113, Tryz.ntmps113
        go_wp2_with (first | (go_at_call 103; refine (wellFormed_any _ _ _ _ _ hs).mono ?_; rintro e w' ⟨rfl, hb⟩; obtain ⟨hc, hz⟩ := bcell hb))
        go_ret
        exact ⟨ret_int (by simp [holeI, unhide hf, h2]), (below1 _ _).trans (hb.mono (by simp))⟩

end Go.Proofs.YtokabkhnidlcnabGreat

/-
  Tables: sizes, copies, comparison.
-/
namespace Go.Proofs.YtokabkhnidlcnabGreat
set_option maxRecDepth 100000
open Go.RowKit

set_option maxHeartbeats 400000 in
theorem szTable_any (a : Option Addr) (cap : Nat) (xs : List OpR) (left : Int) (w : World) (hm : xs.length ≤ maxLen) (hw : Arg w a xs) (hs : Sized xs) (hl0 : 0 ≤ left) (hl1 : left ≤ 1048576) :
    Calls Tryz.prog 6 #[.agg #[.slice a xs.length cap], .int .i64 left] w fun e w' => (∃ r, e = .returned (.int .i64 r) ∧ Left left r xs.length) ∧ Below w.heap.size w w' := by
  have hw' : ∀ o, Arg (w.alloc o) a xs := fun o => by
    rcases hw with h | ⟨b, off, rfl, h1, h2⟩
    · exact Or.inl h
    · exact Or.inr ⟨b, off, rfl, h1.below (below1 _ _) h2, by simp; omega⟩
  have HW := hide hw'
  clear hw' hw
  go_enter Tryz.func6, Tryz.ntmps6
  go_wp2_with fail
  refine (szOpS_any _ _ _ _ _ hm (unhide HW _) hs hl0 hl1).mono ?_
  rintro e w1 ⟨⟨r, rfl, hr⟩, hb⟩
  by_cases hr0 : r < 0
  · go_wp2_with fail
    go_ret
    exact ⟨⟨-1, rfl, Or.inl (by omega)⟩, (below1 _ _).trans (hb.mono (by simp))⟩
  · go_wp2_with fail
    go_ret
    exact ⟨⟨r, rfl, hr⟩, (below1 _ _).trans (hb.mono (by simp))⟩

/-- A row that is being filled: k operators lie there; all its cells may be written. -/
def Filled (w : World) (g : Nat) (xs : List OpR) (k : Nat) : Prop :=
  g < w.heap.size ∧ w.there g 0 (xs.length * 4) ∧ ∀ i, i < k → CellsAt w g 0 xs i

theorem Filled.below {w w' : World} {g k : Nat} {xs : List OpR} {B : Nat} (h : Filled w g xs k) (hb : Below B w w') (hB : g < B) : Filled w' g xs k := by
  obtain ⟨h1, h2, h3⟩ := h
  refine ⟨Nat.lt_of_lt_of_le h1 hb.size, fun j hj => ?_, fun i hi => (h3 i hi).below hb hB⟩
  have := h2 j hj
  exact ⟨by rw [hb.cell (p := ⟨g, _, none⟩) hB]; exact this.1, by rw [hb.frozen (p := ⟨g, _, none⟩) hB]; exact this.2⟩

theorem Filled.step {w : World} {g k : Nat} {xs : List OpR} (h : Filled w g xs k) (hk : k < xs.length) :
    Filled (w.setCells g (k * 4) [.string (atO xs k).s, .int .i64 (atO xs k).k, .int .i64 (atO xs k).l, .int .i64 (atO xs k).sd]) g xs (k + 1) := by
  obtain ⟨h1, h2, h3⟩ := h
  have hin := World.cell?_setCells_in g [.string (atO xs k).s, .int .i64 (atO xs k).k, .int .i64 (atO xs k).l, .int .i64 (atO xs k).sd] (k * 4) w (fun j hj => by
    have := (h2 (k * 4 + j) (by simp at hj; omega)).1
    simpa using this)
  refine ⟨?_, World.there_setCells h2 _ _ _, fun i hi => ?_⟩
  · simpa [World.setCells, World.setCell] using h1
  · by_cases e : i = k
    · subst e
      have a0 := hin 0 (by simp)
      have a1 := hin 1 (by simp)
      have a2 := hin 2 (by simp)
      have a3 := hin 3 (by simp)
      exact ⟨by simpa using a0, by simpa using a1, by simpa using a2, by simpa using a3⟩
    · have hi' : i < k := by omega
      obtain ⟨c0, c1, c2, c3⟩ := h3 i hi'
      refine ⟨?_, ?_, ?_, ?_⟩
      all_goals
        rw [World.cell?_setCells_out g _ _ _ _ (fun _ _ => Or.inl (by simp; omega))]
        assumption

theorem fill_cells {w : World} {g k : Nat} {xs : List OpR} (h : Filled w g xs k) (hk : k < xs.length) :
    ((∃ v, w.cell? ⟨g, k * 4, none⟩ = some v) ∧ w.frozen? ⟨g, k * 4, none⟩ = false) ∧ ((∃ v, w.cell? ⟨g, k * 4 + 1, none⟩ = some v) ∧ w.frozen? ⟨g, k * 4 + 1, none⟩ = false) ∧
    ((∃ v, w.cell? ⟨g, k * 4 + 2, none⟩ = some v) ∧ w.frozen? ⟨g, k * 4 + 2, none⟩ = false) ∧ ((∃ v, w.cell? ⟨g, k * 4 + 3, none⟩ = some v) ∧ w.frozen? ⟨g, k * 4 + 3, none⟩ = false) := by
  have h0 := h.2.1 (k * 4) (by omega)
  have h1 := h.2.1 (k * 4 + 1) (by omega)
  have h2 := h.2.1 (k * 4 + 2) (by omega)
  have h3 := h.2.1 (k * 4 + 3) (by omega)
  simp only [Nat.zero_add] at h0 h1 h2 h3
  exact ⟨⟨Option.isSome_iff_exists.1 h0.1, h0.2⟩, ⟨Option.isSome_iff_exists.1 h1.1, h1.2⟩, ⟨Option.isSome_iff_exists.1 h2.1, h2.2⟩, ⟨Option.isSome_iff_exists.1 h3.1, h3.2⟩⟩

theorem infoOp : (Tryz.prog.info? 104).map (fun i => (i.zero, i.size, i.bytes)) = some (some (.agg #[.string ⟨#[]⟩, .int .i64 0, .int .i64 0, .int .i64 0]), 4, 40) := by kernel_rfl
theorem sizeOp : (Tryz.prog.info? 104).map (·.size) = some 4 := by kernel_rfl

theorem made_there (w : World) (z : Array Value) (n : Nat) (t : TypeId) : (w.alloc (.cells (madeCells z n) t)).there w.heap.size 0 n := by
  intro j hj
  have hb : (w.alloc (.cells (madeCells z n) t)).heap[w.heap.size]? = some (.cells (madeCells z n) t (0, 0)) := heap_alloc_new w _
  have hc := cell_of_row (w.alloc (.cells (madeCells z n) t)) w.heap.size (0 + j) (madeCells z n) t (0, 0) hb
  refine ⟨?_, frozen_of_row _ _ _ _ _ hb⟩
  rw [hc]
  have : j < (madeCells z n).size := by rw [size_madeCells]; exact hj
  simp [this]

set_option maxHeartbeats 1000000 in
theorem toOpS_any (a : Option Addr) (cap : Nat) (xs : List OpR) (w : World) (hm : xs.length ≤ 1048576) (hw : Arg w a xs) :
    Calls Tryz.prog 28 #[.slice a xs.length cap] w fun e w' => (∃ g, e = .returned (.slice (some ⟨g, 0, none⟩) xs.length xs.length) ∧ w.heap.size ≤ g ∧ Filled w' g xs xs.length) ∧ Below w.heap.size w w' := by
  obtain ⟨inf, hi, hz⟩ := Option.map_eq_some_iff.1 infoOp
  simp only [Prod.mk.injEq] at hz
  obtain ⟨hz, hsz, hby⟩ := hz
  have hmk : ∀ W : World, (Instr.makeSlice 31 (.int .i64 (xs.length : Int)) (.int .i64 (xs.length : Int))).run Tryz.prog W = .ok (.slice (some ⟨W.heap.size, 0, none⟩) xs.length xs.length) (W.alloc (.cells (madeCells #[.string ⟨#[]⟩, .int .i64 0, .int .i64 0, .int .i64 0] (xs.length * 4)) 104)) := by
    intro W
    have := run_make (P := Tryz.prog) W 31 104 inf _ Tryz.underlying31 hi hz .i64 .i64 xs.length xs.length (by omega) (Int.le_refl _) (by rw [hby]; omega) (by omega)
    simpa [hsz, Value.cells] using this
  clear hz hsz hby hi
  rcases hw with h0 | ⟨b, off, rfl, hw, hB⟩
  · obtain rfl := List.eq_nil_of_length_eq_zero h0
    have hmk0 : ∀ W : World, (Instr.makeSlice 31 (.int .i64 0) (.int .i64 0)).run Tryz.prog W = .ok (.slice (some ⟨W.heap.size, 0, none⟩) 0 0) (W.alloc (.cells #[] 104)) := fun W => by kernel_rfl
    clear hmk h0 hm
    go_enter Tryz.func28, Tryz.ntmps28
    go_wp2
    refine wp_loop_rounds 1 ?_
    rw [rounds_succ]
    go_wp2
    go_ret
    exact ⟨⟨w.heap.size, rfl, Nat.le_refl _, by simp, fun j hj => (by simp at hj), fun i hi => (by simp at hi)⟩, below1 _ _⟩
  · go_enter Tryz.func28, Tryz.ntmps28
    go_wp2
    go_loopw [4] (fun i wr => ∃ k : Nat, k ≤ xs.length ∧ i = .int .i64 k ∧ Filled wr w.heap.size xs k ∧ Below w.heap.size w wr) (fun i _ => xs.length - (intOf i).toNat)
    case atStart => exact ⟨0, Nat.zero_le _, rfl, ⟨by simp, made_there _ _ _ _, fun i hi => by omega⟩, below1 _ _⟩
    case round =>
      obtain ⟨k, hk, rfl, hfil, hbel⟩ := hrel
      by_cases hlt : k < xs.length
      · obtain ⟨h0, h1, h2, h3⟩ := (hw k hlt).below hbel hB
        go_wp2_with fail
        refine (toOp_any _ _ _ _ _).mono ?_
        rintro e w1 ⟨rfl, hb⟩
        have hfil1 := hfil.below hb hfil.1
        obtain ⟨⟨e0, f0⟩, ⟨e1, f1⟩, ⟨e2, f2⟩, ⟨e3, f3⟩⟩ := fill_cells hfil1 hlt
        obtain ⟨v0, e0⟩ := e0
        obtain ⟨v1, e1⟩ := e1
        obtain ⟨v2, e2⟩ := e2
        obtain ⟨v3, e3⟩ := e3
        have HF := hide (hfil1.step hlt)
        have HB := hide (below_setCells (Nat.le_refl w.heap.size) [.string (atO xs k).s, .int .i64 (atO xs k).k, .int .i64 (atO xs k).l, .int .i64 (atO xs k).sd] (k * 4) w1 (hbel.trans (hb.mono hbel.size)))
        clear hfil1 hfil
        go_wp2_with fail
        exact ⟨⟨k + 1, by omega, by go_num, unhide HF, unhide HB⟩, by simp [intOf]; omega⟩
      · go_wp2
        go_ret
        have : k = xs.length := by omega
        exact ⟨⟨w.heap.size, rfl, Nat.le_refl _, this ▸ hfil⟩, hbel⟩
end Go.Proofs.YtokabkhnidlcnabGreat
