import Derived.Deep.RegionHeld
import Derived.Test.YtokabkhnidlcnabGreatDoorL11
import Derived.Test.YtokabkhnidlcnabGreatDoorL17
import Derived.Test.YtokabkhnidlcnabGreatDoorL29

/-
  Marks that are held in rows of operators.
-/
namespace Go.Proofs.YtokabkhnidlcnabGreatDoor
set_option maxRecDepth 100000
open Go.RowKit

set_option maxRecDepth 100000 in
set_option maxHeartbeats 2000000 in
theorem heldOpS_any (g cap k n : Nat) (w : World) (hm : n ≤ 1048576) (h1 : 1 ≤ k) (hk : k ≤ 10000000) (hw : Filled w g (mks k n) n) :
    Calls Tryz.prog 28 #[.slice (some ⟨g, 0, none⟩) n cap, .int .i64 (k : Int)] w fun e w' => e = .returned (.int .i64 ((k + 4 * n : Nat) : Int)) ∧ Below w.heap.size w w' := by
  have hw0 := hide hw
  clear hw
  go_enter Tryz.func28, Tryz.ntmps28
  go_wp2
  go_loopw [1, 5] (fun kk i wr => ∃ m c : Nat, m ≤ n ∧ i = .int .i64 (m : Int) ∧ kk = .int .i64 (c : Int) ∧ 1 ≤ c ∧ c ≤ 100000000 ∧ Hid (c = k + 4 * m) ∧ Below w.heap.size w wr) (fun _ i _ => n - (intOf i).toNat)
  case atStart => exact ⟨0, k, Nat.zero_le _, rfl, rfl, h1, by omega, hide (by omega), Below.refl _ _⟩
  case round =>
    obtain ⟨m, c, hmn, rfl, rfl, hc1, hc2, hc, hbel⟩ := hrel
    by_cases hlt : m < n
    · have hcell := (((unhide hw0).2.2 m hlt).below hbel (unhide hw0).1)
      have hat : atO (mks k n) m = mk1 c := by rw [mks_at hlt, unhide hc]
      have zg : g < wr.heap.size := Nat.lt_of_lt_of_le (unhide hw0).1 hbel.size
      unfold CellsAt at hcell
      rw [hat] at hcell
      simp only [mk1, Nat.zero_add] at hcell
      obtain ⟨a0, a1, a2, a3⟩ := hcell
      have hltI : (m : Int) < (n : Int) := by omega
      clear hat
      go_wp2_with fail
      go_region_held (fun w' => w'.cell? ⟨g, m * 4, none⟩ = some (.string (MT c)) ∧ w'.cell? ⟨g, m * 4 + 1, none⟩ = some (.int .i64 ((c : Int) + 1)) ∧ w'.cell? ⟨g, m * 4 + 2, none⟩ = some (.int .i64 ((c : Int) + 1 + 1)) ∧ w'.cell? ⟨g, m * 4 + 3, none⟩ = some (.int .i64 ((c : Int) + 1 + 1 + 1))) (go_keep)
        (first | (go_at_call 26; refine (markText_any c _ hc1 (by omega)).mono ?_; rintro e w1 ⟨rfl, hb1⟩; have q0 := (hb1.cell (p := ⟨g, m * 4, none⟩) zg).trans (show wr.drew.cell? ⟨g, m * 4, none⟩ = _ from a0); have q1 := (hb1.cell (p := ⟨g, m * 4 + 1, none⟩) zg).trans (show wr.drew.cell? ⟨g, m * 4 + 1, none⟩ = _ from a1); have q2 := (hb1.cell (p := ⟨g, m * 4 + 2, none⟩) zg).trans (show wr.drew.cell? ⟨g, m * 4 + 2, none⟩ = _ from a2); have q3 := (hb1.cell (p := ⟨g, m * 4 + 3, none⟩) zg).trans (show wr.drew.cell? ⟨g, m * 4 + 3, none⟩ = _ from a3)))
      go_wp2
      refine ⟨⟨m + 1, c + 4, by omega, by go_num, by go_num, by omega, ?_, hide ?_, hbel.trans (((Below.refl wr.heap.size wr).drew.trans hb1).mono hbel.size)⟩, by simp [intOf]; omega⟩
      · have := unhide hc; omega
      · have := unhide hc; omega
    · go_wp2
      go_ret
      exact ⟨ret_int (by have := unhide hc; omega), hbel⟩
end Go.Proofs.YtokabkhnidlcnabGreatDoor

/-
  What the laws do with rows of operators: equality, marks.
-/
namespace Go.Proofs.YtokabkhnidlcnabGreatDoor
set_option maxRecDepth 100000
set_option linter.unusedSimpArgs false
set_option linter.unusedVariables false
open Go.RowKit

set_option maxHeartbeats 1000000 in
theorem eqOps_any (v v' : Value) (os : List OpR) (w : World) (hm : os.length ≤ 1048576) (h : OpsAt w v os) (h' : OpsAt w v' os) :
    Calls Tryz.prog 44 #[v, v'] w fun e w' => e = .returned (.bool true) ∧ Below w.heap.size w w' := by
  by_cases h0 : os.length = 0
  · obtain ⟨a, c, rfl, _⟩ := h
    obtain ⟨a', c', rfl, _⟩ := h'
    rw [h0]
    clear h0 hm
    go_enter Tryz.func44, Tryz.ntmps44
    go_wp2
    refine wp_loop_rounds 1 ?_
    rw [rounds_succ]
    go_wp2
    go_ret
    exact ⟨rfl, Below.refl _ _⟩
  · obtain ⟨a, c, rfl, h | ⟨g, rfl, hg, h⟩⟩ := h
    · exact absurd h.1 h0
    obtain ⟨a', c', rfl, h' | ⟨g', rfl, hg', h'⟩⟩ := h'
    · exact absurd h'.1 h0
    exact eqOpS_same g 0 g' 0 c c' os w hm h h' hg hg'

def MarkO (w : World) (v : Value) (k n : Nat) : Prop := ∃ a c, v = .slice a n c ∧ (n = 0 ∨ ∃ g, a = some ⟨g, 0, none⟩ ∧ Filled w g (mks k n) n)

theorem MarkO.below {w w' : World} {v : Value} {k n : Nat} (h : MarkO w v k n) (hb : Below w.heap.size w w') : MarkO w' v k n := by
  obtain ⟨a, c, rfl, h⟩ := h
  refine ⟨a, c, rfl, h.imp id ?_⟩
  rintro ⟨g, rfl, h1⟩
  exact ⟨g, rfl, h1.below hb h1.1⟩

set_option maxHeartbeats 2000000 in
theorem markOps_own (v : Value) (B k : Nat) (os : List OpR) (w : World) (hm : os.length ≤ 1048576) (h1 : 1 ≤ k) (hk : k ≤ 10000000) (h : RowO w B v os) :
    Calls Tryz.prog 27 #[v, .int .i64 (k : Int)] w fun e w' => e = .returned (.int .i64 ((k + 4 * os.length : Nat) : Int)) ∧ MarkO w' v k os.length ∧ w.grownBy w' v.ownBlock := by
  by_cases h0 : os.length = 0
  · obtain ⟨a, c, rfl⟩ : ∃ a c, v = .slice a os.length c := rowS_slice h
    rw [h0]
    clear h0 hm h
    go_enter Tryz.func27, Tryz.ntmps27
    go_wp2
    refine wp_loop_rounds 1 ?_
    rw [rounds_succ]
    go_wp2
    go_ret
    exact ⟨rfl, ⟨a, c, rfl, Or.inl rfl⟩, grown_belN (Below.refl _ _) _⟩
  · have h' := h
    obtain ⟨_, ⟨e1, e2⟩ | ⟨g, cap, cur, rfl, _⟩⟩ := h'
    · exact absurd e2 h0
    · refine (markOpS_any g cap k os w hm h1 hk (owns_filled h).2).mono ?_
      rintro e w' ⟨rfl, hf, hkp⟩
      exact ⟨rfl, ⟨_, _, rfl, Or.inr ⟨g, rfl, hf⟩⟩, grown_kept1 hkp⟩

set_option maxHeartbeats 2000000 in
theorem heldOps_any (v : Value) (k n : Nat) (w : World) (hm : n ≤ 1048576) (h1 : 1 ≤ k) (hk : k ≤ 10000000) (h : MarkO w v k n) :
    Calls Tryz.prog 28 #[v, .int .i64 (k : Int)] w fun e w' => e = .returned (.int .i64 ((k + 4 * n : Nat) : Int)) ∧ Below w.heap.size w w' := by
  by_cases h0 : n = 0
  · obtain ⟨a, c, rfl, _⟩ := h
    subst h0
    clear hm
    go_enter Tryz.func28, Tryz.ntmps28
    go_wp2
    refine wp_loop_rounds 1 ?_
    rw [rounds_succ]
    go_wp2
    go_ret
    exact ⟨rfl, Below.refl _ _⟩
  · obtain ⟨a, c, rfl, h | ⟨g, rfl, hf⟩⟩ := h
    · exact absurd h h0
    exact heldOpS_any g c k n w hm h1 hk hf
end Go.Proofs.YtokabkhnidlcnabGreatDoor

/-
  The laws' helpers over rows of tables: are they the same?
-/
namespace Go.Proofs.YtokabkhnidlcnabGreatDoor
set_option maxRecDepth 100000
set_option linter.unusedSimpArgs false
set_option linter.unusedVariables false
open Go.RowKit

set_option maxHeartbeats 1000000 in
theorem eqTable_at (v v' : Value) (os : List OpR) (w : World) (hm : os.length ≤ 1048576) (h : OpsAt w v os) (h' : OpsAt w v' os) :
    Calls Tryz.prog 24 #[.agg #[v], .agg #[v']] w fun e w' => e = .returned (.bool true) ∧ Below w.heap.size w w' := by
  obtain ⟨a, c, rfl, _⟩ := id h
  obtain ⟨a', c', rfl, _⟩ := id h'
  obtain ⟨W, hW⟩ : ∃ W, W = (w.alloc (.cells #[.slice a os.length c] 54)).alloc (.cells #[.slice a' os.length c'] 54) := ⟨_, rfl⟩
  have hb : Below w.heap.size w W := by rw [hW]; exact (below1 _ _).alloc (by simp) _
  have HX := hide (eqOps_any _ _ os W hm (h.below hb) (h'.below hb))
  have HW := hide hW
  have HB := hide hb
  clear h h' hW hb
  go_enter Tryz.func24, Tryz.ntmps24
  go_wp2_with (first | (go_at_call 44; rw [← unhide HW]; (with_reducible refine (unhide HX).mono ?_); rintro e w1 ⟨rfl, hb1⟩; have HB1 := hide hb1; clear hb1))
  go_ret
  exact ⟨rfl, (unhide HB).trans ((unhide HB1).mono (unhide HB).size)⟩

set_option maxHeartbeats 2000000 in
theorem eqTableS_at (v v' : Value) (out : List (List OpR)) (w : World) (hn : out.length ≤ 1048576) (hm : ∀ o ∈ out, o.length ≤ 1048576) (h : TabsAt w v out) (h' : TabsAt w v' out) :
    Calls Tryz.prog 8 #[v, v'] w fun e w' => e = .returned (.bool true) ∧ Below w.heap.size w w' := by
  have HT := hide h
  have HT' := hide h'
  have HM := hide hm
  obtain ⟨a, c, rfl, _⟩ := h
  obtain ⟨a', c', rfl, _⟩ := h'
  clear hm
  go_enter Tryz.func8, Tryz.ntmps8
  go_wp2_with fail
  go_loopw [5] (fun i wr => ∃ k : Nat, k ≤ out.length ∧ i = .int .i64 (k : Int) ∧ Below w.heap.size w wr) (fun i _ => out.length - (intOf i).toNat)
  case atStart => exact ⟨0, Nat.zero_le _, rfl, Below.refl _ _⟩
  case round =>
    obtain ⟨k, hk, rfl, hbel⟩ := hrel
    by_cases hlt : k < out.length
    · have hltI : (k : Int) < (out.length : Int) := by omega
      obtain ⟨a1, c1, e1, t1⟩ := (unhide HT).below hbel
      obtain ⟨a2, c2, e2, t2⟩ := (unhide HT').below hbel
      obtain ⟨rfl, rfl⟩ : a = a1 ∧ c = c1 := by injection e1 with x _ y; exact ⟨x, y⟩
      obtain ⟨rfl, rfl⟩ : a' = a2 ∧ c' = c2 := by injection e2 with x _ y; exact ⟨x, y⟩
      rcases t1 with t1 | ⟨g, rfl, hg, hc⟩
      · omega
      rcases t2 with t2 | ⟨g', rfl, hg', hc'⟩
      · omega
      obtain ⟨x, x0, hx⟩ := hc k hlt
      obtain ⟨y, y0, hy⟩ := hc' k hlt
      have HX := hide (fun W (hb : Below wr.heap.size wr W) => eqTable_at x y (atS2 out k) W ((unhide HM) _ (by unfold atS2; simp [hlt])) (hx.below hb) (hy.below hb))
      obtain ⟨ax, cx, rfl, _⟩ := hx
      obtain ⟨ay, cy, rfl, _⟩ := hy
      clear e1 e2 hc hc'
      have HX2 := hide ((unhide HX) wr.drew (Below.refl _ _).drew)
      go_wp2_with fail
      go_region_with (first | (go_at_call 24; (with_reducible refine (unhide HX2).mono ?_); rintro e w1 ⟨rfl, hb1⟩; have HB1 := hide (show Below w.heap.size w w1 from hbel.drew.trans (hb1.mono hbel.size)); clear hb1))
      all_goals go_wp2_with fail
      all_goals exact ⟨⟨k + 1, by omega, by go_num, unhide HB1⟩, by simp [intOf]; omega⟩
    · go_wp2
      go_ret
      exact ⟨rfl, hbel⟩
end Go.Proofs.YtokabkhnidlcnabGreatDoor
