/-
  Walk: the law of Hole.
-/
import Derived.Test.YtokabkhnidlcnaaHoleB
import Derived.Test.YtokabkhnidlcnaaCore
namespace Go.Proofs.Ytokabkhnidlcnaa
set_option maxRecDepth 100000
open Go.RowKit

set_option maxHeartbeats 1000000 in
theorem lawHole (s : ByteArray) (k l sd : Int) (b : Bool) (w : World) (hs : s.size ≤ maxLen) :
    Calls Try.prog 5 #[.agg #[.string s, .int .i64 k, .int .i64 l, .int .i64 sd], .bool b] w fun e w' => e = .returned (.bool true) ∧ Below w.heap.size w w' := by
  by_cases h : (1048576 : Int) < s.size
  · have hz : szI 1048576 s.size < 0 := by simp [szI, h]
    go_enter Try.func5, Try.ntmps5
    go_wp2_with (go_at_call 17; refine (szOp_any _ _ _ _ _ _ hs (by decide) (by decide)).mono ?_; rintro e w' ⟨rfl, hb⟩)
    go_ret
    exact ⟨rfl, (below1 _ _).trans (hb.mono (by simp))⟩
  · have hz : ¬ szI 1048576 s.size < 0 := by simp [szI, h]; omega
    go_enter Try.func5, Try.ntmps5
    go_wp2_with fail
    refine (szOp_any _ _ _ _ _ _ hs (by decide) (by decide)).mono ?_
    rintro e w1 ⟨rfl, hb1⟩
    obtain ⟨hc1, hf1⟩ := bcell hb1
    have z1 : w.heap.size < w1.heap.size := by have := hb1.size; simp at this; omega
    go_wp2_with fail
    refine (toOp_any _ _ _ _ _).mono ?_
    rintro e w2 ⟨rfl, hb2⟩
    obtain ⟨hc2, hf2⟩ := bcell hb2
    have z2 : w.heap.size < w2.heap.size := by have := hb2.size; omega
    go_wp2_with fail
    refine (specHole_any _ _ _ _ _ _ hs).mono ?_
    rintro e w3 ⟨rfl, hb3⟩
    obtain ⟨hc3, hf3⟩ := bcell hb3
    have z3 : w.heap.size < w3.heap.size := by have := hb3.size; omega
    go_wp2_with fail
    refine (toOp_any _ _ _ _ _).mono ?_
    rintro e w4 ⟨rfl, hb4⟩
    obtain ⟨hc4, hf4⟩ := bcell hb4
    have z4 : w.heap.size < w4.heap.size := by have := hb4.size; omega
    go_wp2_with fail
    refine (implHole_any _ _ _ _ _ _ hs).mono ?_
    rintro e w5 ⟨rfl, hb5⟩
    go_wp2_with fail
    go_ret
    exact ⟨rfl, (below1 _ _).trans ((hb1.mono (by simp)).trans ((hb2.mono (by omega)).trans ((hb3.mono (by omega)).trans ((hb4.mono (by omega)).trans (hb5.mono (by omega))))))⟩
end Go.Proofs.Ytokabkhnidlcnaa
