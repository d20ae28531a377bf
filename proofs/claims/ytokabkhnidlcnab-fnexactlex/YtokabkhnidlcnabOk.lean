/-
  Walks: well-formed operators, holes, in both texts.
-/
import Derived.Test.YtokabkhnidlcnabText
namespace Go.Proofs.Ytokabkhnidlcnab
set_option maxRecDepth 100000
open Go.RowKit

set_option maxHeartbeats 400000 in
theorem l1OpOk_any (s : ByteArray) (k l sd : Int) (w : World) (hs : s.size ≤ maxLen) :
    Calls Try.prog 81 #[.agg #[.string s, .int .i64 k, .int .i64 l, .int .i64 sd]] w fun e w' => e = .returned (.bool (okB s k l sd)) ∧ Below w.heap.size w w' := by
  cases ht : txtB s
  · have hf := hide (show okB s k l sd = false by simp [okB, ht])
    go_enter Try.func81, Try.ntmps81
    go_wp2_with (go_at_call 116; refine (l1Signs_any _ _ hs).mono ?_; rintro e w' ⟨rfl, rfl⟩)
    go_ret
    exact ⟨ret_bool (unhide hf).symm, below1 _ _⟩
  · have hf := hide (show okB s k l sd = (decide (1 ≤ l) && decide (l ≤ 1000) && sideB k sd) by simp [okB, ht])
    go_enter Try.func81, Try.ntmps81
    go_wp2_with (go_at_call 116; refine (l1Signs_any _ _ hs).mono ?_; rintro e w' ⟨rfl, rfl⟩)
    all_goals (go_ret; refine ⟨ret_bool ?_, below1 _ _⟩; rw [unhide hf]; go_light; clear hf; (try simp only [beq_iff_eq, beq_eq_false_iff_ne, ne_eq] at *); rw [Bool.eq_iff_iff]; simp [sideB] <;> omega)

set_option maxHeartbeats 400000 in
theorem sideFits_any (s : ByteArray) (k l sd : Int) (w : World) :
    Calls Try.prog 138 #[.agg #[.string s, .int .i64 k, .int .i64 l, .int .i64 sd]] w fun e w' => e = .returned (.bool (sideB k sd)) ∧ Below w.heap.size w w' := by
  go_enter Try.func138, Try.ntmps138
  go_wp2
  all_goals (go_ret; refine ⟨ret_bool ?_, below1 _ _⟩; go_light; (try simp only [beq_iff_eq, beq_eq_false_iff_ne, ne_eq] at *); rw [Bool.eq_iff_iff]; simp [sideB] <;> omega)

set_option maxHeartbeats 400000 in
theorem wellFormed_any (s : ByteArray) (k l sd : Int) (w : World) (hs : s.size ≤ maxLen) :
    Calls Try.prog 121 #[.agg #[.string s, .int .i64 k, .int .i64 l, .int .i64 sd]] w fun e w' => e = .returned (.bool (okB s k l sd)) ∧ Below w.heap.size w w' := by
  cases ht : txtB s
  · have hf := hide (show okB s k l sd = false by simp [okB, ht])
    go_enter Try.func121, Try.ntmps121
    go_wp2_with (go_at_call 135; refine (isOpText_any _ _ hs).mono ?_; rintro e w' ⟨rfl, rfl⟩)
    go_ret
    exact ⟨ret_bool (unhide hf).symm, below1 _ _⟩
  · have hf := hide (show okB s k l sd = (decide (1 ≤ l) && decide (l ≤ 1000) && sideB k sd) by simp [okB, ht])
    by_cases h1 : 1 ≤ l
    · by_cases h2 : l ≤ 1000
      · go_enter Try.func121, Try.ntmps121
        go_wp2_with (first | (go_at_call 135; refine (isOpText_any _ _ hs).mono ?_; rintro e w' ⟨rfl, rfl⟩) | (go_at_call 138; refine (sideFits_any _ _ _ _ _).mono ?_; rintro e w' ⟨rfl, hb⟩))
        go_ret
        exact ⟨ret_bool (by rw [unhide hf]; simp [h1, h2]), (below1 _ _).trans (hb.mono (by simp))⟩
      · go_enter Try.func121, Try.ntmps121
        go_wp2_with (first | (go_at_call 135; refine (isOpText_any _ _ hs).mono ?_; rintro e w' ⟨rfl, rfl⟩) | (go_at_call 138; refine (sideFits_any _ _ _ _ _).mono ?_; rintro e w' ⟨rfl, hb⟩))
        go_ret
        exact ⟨ret_bool (by rw [unhide hf]; simp; intros; omega), below1 _ _⟩
    · go_enter Try.func121, Try.ntmps121
      go_wp2_with (first | (go_at_call 135; refine (isOpText_any _ _ hs).mono ?_; rintro e w' ⟨rfl, rfl⟩) | (go_at_call 138; refine (sideFits_any _ _ _ _ _).mono ?_; rintro e w' ⟨rfl, hb⟩))
      go_ret
      exact ⟨ret_bool (by rw [unhide hf]; simp; intros; omega), below1 _ _⟩
end Go.Proofs.Ytokabkhnidlcnab
