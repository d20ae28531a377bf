import Derived.Test.YtokabkhnidlcnaaL03

/-
  Walks: texts of operators, in both texts.
-/
namespace Go.Proofs.Ytokabkhnidlcnaa
set_option maxRecDepth 100000
open Go.RowKit

theorem txt_false_of (s : ByteArray) (k : Nat) (h : k < s.size) (hb : sgB s[k] = false) : txtB s = false := by
  simp [txtB, sgs_false s k h hb]

theorem txt_of (s : ByteArray) (k : Nat) (hk : ¬ k < s.size) (h : sgsB (s.data.toList.take k) = true) : txtB s = (decide (1 ≤ s.size) && decide (s.size ≤ 16)) := by
  rw [sgs_full s k hk] at h
  simp [txtB, h]

theorem sgs_step (s : ByteArray) (k : Nat) (h : k < s.size) (hs : sgsB (s.data.toList.take k) = true) (hb : sgB s[k] = true) : sgsB (s.data.toList.take (k + 1)) = true := by
  rw [take_snoc s k h, sgs_snoc, hs, hb]; rfl

set_option maxHeartbeats 400000 in
theorem l1Signs_any (s : ByteArray) (w : World) (hs : s.size ≤ maxLen) :
    Calls Try.prog 61 #[.string s] w fun e w' => e = .returned (.bool (txtB s)) ∧ w' = w := by
  unfold maxLen at hs
  go_enter Try.func61, Try.ntmps61
  go_wp2
  go_loop [3] (fun i => ∃ k : Nat, k ≤ s.size ∧ i = .int .i64 k ∧ Hid (sgsB (s.data.toList.take k) = true)) (fun i => s.size - (intOf i).toNat)
  case atStart => exact ⟨0, Nat.zero_le _, rfl, hide rfl⟩
  case round =>
    obtain ⟨k, hk, rfl, hn⟩ := hrel
    by_cases hlt : k < s.size
    · cases hb : sgB s[k]
      · have Hb := hide hb
        go_wp2_with (go_at_call 66; refine (l1IsSign_any _ _).mono ?_; rintro e w' ⟨rfl, rfl⟩)
        go_ret
        exact ⟨ret_bool (txt_false_of s k hlt (unhide Hb)).symm, rfl⟩
      · have Hb := hide hb
        go_wp2_with (go_at_call 66; refine (l1IsSign_any _ _).mono ?_; rintro e w' ⟨rfl, rfl⟩)
        exact ⟨⟨k + 1, by omega, by go_num, hide (sgs_step s k hlt (unhide hn) (unhide Hb))⟩, by simp [intOf]; omega⟩
    · have ht := hide (txt_of s k hlt (unhide hn))
      by_cases h1 : 1 ≤ s.size
      · have h1' : (1 : Int) ≤ (s.size : Int) := by omega
        go_wp2
        go_ret
        exact ⟨ret_bool (by rw [unhide ht]; simp [h1]; omega), rfl⟩
      · go_wp2
        go_ret
        exact ⟨ret_bool (by rw [unhide ht]; simp [h1]), rfl⟩

set_option maxHeartbeats 400000 in
theorem isOpText_any (s : ByteArray) (w : World) (hs : s.size ≤ maxLen) :
    Calls Try.prog 64 #[.string s] w fun e w' => e = .returned (.bool (txtB s)) ∧ w' = w := by
  unfold maxLen at hs
  by_cases h1 : s.size < 1
  · go_enter Try.func64, Try.ntmps64
    go_wp2
    go_ret
    exact ⟨ret_bool (by simp [txtB]; omega), rfl⟩
  by_cases h2 : 16 < s.size
  · go_enter Try.func64, Try.ntmps64
    go_wp2
    go_ret
    exact ⟨ret_bool (by simp [txtB]; omega), rfl⟩
  go_enter Try.func64, Try.ntmps64
  go_wp2
  go_loop [14] (fun i => ∃ k : Nat, k ≤ s.size ∧ i = .int .i64 k ∧ Hid (sgsB (s.data.toList.take k) = true)) (fun i => s.size - (intOf i).toNat)
  case atStart => exact ⟨0, Nat.zero_le _, rfl, hide rfl⟩
  case round =>
    obtain ⟨k, hk, rfl, hn⟩ := hrel
    by_cases hlt : k < s.size
    · cases hb : sgB s[k]
      · have Hb := hide hb
        go_wp2_with (go_at_call 79; refine (isSign_any _ _).mono ?_; rintro e w' ⟨rfl, rfl⟩)
        go_ret
        exact ⟨ret_bool (txt_false_of s k hlt (unhide Hb)).symm, rfl⟩
      · have Hb := hide hb
        go_wp2_with (go_at_call 79; refine (isSign_any _ _).mono ?_; rintro e w' ⟨rfl, rfl⟩)
        exact ⟨⟨k + 1, by omega, by go_num, hide (sgs_step s k hlt (unhide hn) (unhide Hb))⟩, by simp [intOf]; omega⟩
    · have ht := hide (txt_of s k hlt (unhide hn))
      go_wp2
      go_ret
      exact ⟨ret_bool (by rw [unhide ht]; simp; omega), rfl⟩
end Go.Proofs.Ytokabkhnidlcnaa

/-
  Walks: well-formed operators, holes, in both texts.
-/
namespace Go.Proofs.Ytokabkhnidlcnaa
set_option maxRecDepth 100000
open Go.RowKit

set_option maxHeartbeats 400000 in
theorem l1OpOk_any (s : ByteArray) (k l sd : Int) (w : World) (hs : s.size ≤ maxLen) :
    Calls Try.prog 39 #[.agg #[.string s, .int .i64 k, .int .i64 l, .int .i64 sd]] w fun e w' => e = .returned (.bool (okB s k l sd)) ∧ Below w.heap.size w w' := by
  cases ht : txtB s
  · have hf := hide (show okB s k l sd = false by simp [okB, ht])
    go_enter Try.func39, Try.ntmps39
    go_wp2_with (go_at_call 61; refine (l1Signs_any _ _ hs).mono ?_; rintro e w' ⟨rfl, rfl⟩)
    go_ret
    exact ⟨ret_bool (unhide hf).symm, below1 _ _⟩
  · have hf := hide (show okB s k l sd = (decide (1 ≤ l) && decide (l ≤ 1000) && sideB k sd) by simp [okB, ht])
    go_enter Try.func39, Try.ntmps39
    go_wp2_with (go_at_call 61; refine (l1Signs_any _ _ hs).mono ?_; rintro e w' ⟨rfl, rfl⟩)
    all_goals (go_ret; refine ⟨ret_bool ?_, below1 _ _⟩; rw [unhide hf]; go_light; clear hf; (try simp only [beq_iff_eq, beq_eq_false_iff_ne, ne_eq] at *); rw [Bool.eq_iff_iff]; simp [sideB] <;> omega)

set_option maxHeartbeats 400000 in
theorem sideFits_any (s : ByteArray) (k l sd : Int) (w : World) :
    Calls Try.prog 65 #[.agg #[.string s, .int .i64 k, .int .i64 l, .int .i64 sd]] w fun e w' => e = .returned (.bool (sideB k sd)) ∧ Below w.heap.size w w' := by
  go_enter Try.func65, Try.ntmps65
  go_wp2
  all_goals (go_ret; refine ⟨ret_bool ?_, below1 _ _⟩; go_light; (try simp only [beq_iff_eq, beq_eq_false_iff_ne, ne_eq] at *); rw [Bool.eq_iff_iff]; simp [sideB] <;> omega)

set_option maxHeartbeats 400000 in
theorem wellFormed_any (s : ByteArray) (k l sd : Int) (w : World) (hs : s.size ≤ maxLen) :
    Calls Try.prog 43 #[.agg #[.string s, .int .i64 k, .int .i64 l, .int .i64 sd]] w fun e w' => e = .returned (.bool (okB s k l sd)) ∧ Below w.heap.size w w' := by
  cases ht : txtB s
  · have hf := hide (show okB s k l sd = false by simp [okB, ht])
    go_enter Try.func43, Try.ntmps43
    go_wp2_with (go_at_call 64; refine (isOpText_any _ _ hs).mono ?_; rintro e w' ⟨rfl, rfl⟩)
    go_ret
    exact ⟨ret_bool (unhide hf).symm, below1 _ _⟩
  · have hf := hide (show okB s k l sd = (decide (1 ≤ l) && decide (l ≤ 1000) && sideB k sd) by simp [okB, ht])
    by_cases h1 : 1 ≤ l
    · by_cases h2 : l ≤ 1000
      · go_enter Try.func43, Try.ntmps43
        go_wp2_with (first | (go_at_call 64; refine (isOpText_any _ _ hs).mono ?_; rintro e w' ⟨rfl, rfl⟩) | (go_at_call 65; refine (sideFits_any _ _ _ _ _).mono ?_; rintro e w' ⟨rfl, hb⟩))
        go_ret
        exact ⟨ret_bool (by rw [unhide hf]; simp [h1, h2]), (below1 _ _).trans (hb.mono (by simp))⟩
      · go_enter Try.func43, Try.ntmps43
        go_wp2_with (first | (go_at_call 64; refine (isOpText_any _ _ hs).mono ?_; rintro e w' ⟨rfl, rfl⟩) | (go_at_call 65; refine (sideFits_any _ _ _ _ _).mono ?_; rintro e w' ⟨rfl, hb⟩))
        go_ret
        exact ⟨ret_bool (by rw [unhide hf]; simp; intros; omega), below1 _ _⟩
    · go_enter Try.func43, Try.ntmps43
      go_wp2_with (first | (go_at_call 64; refine (isOpText_any _ _ hs).mono ?_; rintro e w' ⟨rfl, rfl⟩) | (go_at_call 65; refine (sideFits_any _ _ _ _ _).mono ?_; rintro e w' ⟨rfl, hb⟩))
      go_ret
      exact ⟨ret_bool (by rw [unhide hf]; simp; intros; omega), below1 _ _⟩
end Go.Proofs.Ytokabkhnidlcnaa
