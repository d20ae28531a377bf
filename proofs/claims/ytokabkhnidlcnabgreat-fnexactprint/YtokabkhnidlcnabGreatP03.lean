import Derived.Test.YtokabkhnidlcnabGreatP01
import Derived.Test.YtokabkhnidlcnabGreatP02

/-
  Walks: texts of operators, in both texts.
-/
namespace Go.Proofs.YtokabkhnidlcnabGreat
set_option maxRecDepth 100000
open Go.RowKit

theorem txt_false_of (s : ByteArray) (k : Nat) (h : k < s.size) (hb : sgB s[k] = false) : txtB s = false := by
  simp [txtB, sgs_false s k h hb]

theorem txt_of (s : ByteArray) (k : Nat) (hk : ¬ k < s.size) (h : sgsB (s.data.toList.take k) = true) : txtB s = (decide (1 ≤ s.size) && decide (s.size ≤ 16)) := by
  rw [sgs_full s k hk] at h
  simp [txtB, h]

theorem sgs_step (s : ByteArray) (k : Nat) (h : k < s.size) (hs : sgsB (s.data.toList.take k) = true) (hb : sgB s[k] = true) : sgsB (s.data.toList.take (k + 1)) = true := by
  rw [take_snoc s k h, sgs_snoc, hs, hb]; rfl

set_option maxHeartbeats 400000 in
theorem l1Signs_any (s : ByteArray) (w : World) (hs : s.size ≤ maxLen) :
    Calls Tryz.prog 91 #[.string s] w fun e w' => e = .returned (.bool (txtB s)) ∧ w' = w := by
  unfold maxLen at hs
  go_enter Tryz.func91, Tryz.ntmps91
  go_wp2
  go_loop [3] (fun i => ∃ k : Nat, k ≤ s.size ∧ i = .int .i64 k ∧ Hid (sgsB (s.data.toList.take k) = true)) (fun i => s.size - (intOf i).toNat)
  case atStart => exact ⟨0, Nat.zero_le _, rfl, hide rfl⟩
  case round =>
    obtain ⟨k, hk, rfl, hn⟩ := hrel
    by_cases hlt : k < s.size
    · cases hb : sgB s[k]
      · have Hb := hide hb
        go_wp2_with (go_at_call 128; refine (l1IsSign_any _ _).mono ?_; rintro e w' ⟨rfl, rfl⟩)
        go_ret
        exact ⟨ret_bool (txt_false_of s k hlt (unhide Hb)).symm, rfl⟩
      · have Hb := hide hb
        go_wp2_with (go_at_call 128; refine (l1IsSign_any _ _).mono ?_; rintro e w' ⟨rfl, rfl⟩)
        exact ⟨⟨k + 1, by omega, by go_num, hide (sgs_step s k hlt (unhide hn) (unhide Hb))⟩, by simp [intOf]; omega⟩
    · have ht := hide (txt_of s k hlt (unhide hn))
      by_cases h1 : 1 ≤ s.size
      · have h1' : (1 : Int) ≤ (s.size : Int) := by omega
        go_wp2
        go_ret
        exact ⟨ret_bool (by rw [unhide ht]; simp [h1]; omega), rfl⟩
      · go_wp2
        go_ret
        exact ⟨ret_bool (by rw [unhide ht]; simp [h1]), rfl⟩

set_option maxHeartbeats 400000 in
theorem isOpText_any (s : ByteArray) (w : World) (hs : s.size ≤ maxLen) :
    Calls Tryz.prog 131 #[.string s] w fun e w' => e = .returned (.bool (txtB s)) ∧ w' = w := by
  unfold maxLen at hs
  by_cases h1 : s.size < 1
  · go_enter Tryz.func131, Tryz.ntmps131
    go_wp2
    go_ret
    exact ⟨ret_bool (by simp [txtB]; omega), rfl⟩
  by_cases h2 : 16 < s.size
  · go_enter Tryz.func131, Tryz.ntmps131
    go_wp2
    go_ret
    exact ⟨ret_bool (by simp [txtB]; omega), rfl⟩
  go_enter Tryz.func131, Tryz.ntmps131
  go_wp2
  go_loop [14] (fun i => ∃ k : Nat, k ≤ s.size ∧ i = .int .i64 k ∧ Hid (sgsB (s.data.toList.take k) = true)) (fun i => s.size - (intOf i).toNat)
  case atStart => exact ⟨0, Nat.zero_le _, rfl, hide rfl⟩
  case round =>
    obtain ⟨k, hk, rfl, hn⟩ := hrel
    by_cases hlt : k < s.size
    · cases hb : sgB s[k]
      · have Hb := hide hb
        go_wp2_with (go_at_call 133; refine (isSign_any _ _).mono ?_; rintro e w' ⟨rfl, rfl⟩)
        go_ret
        exact ⟨ret_bool (txt_false_of s k hlt (unhide Hb)).symm, rfl⟩
      · have Hb := hide hb
        go_wp2_with (go_at_call 133; refine (isSign_any _ _).mono ?_; rintro e w' ⟨rfl, rfl⟩)
        exact ⟨⟨k + 1, by omega, by go_num, hide (sgs_step s k hlt (unhide hn) (unhide Hb))⟩, by simp [intOf]; omega⟩
    · have ht := hide (txt_of s k hlt (unhide hn))
      go_wp2
      go_ret
      exact ⟨ret_bool (by rw [unhide ht]; simp; omega), rfl⟩
end Go.Proofs.YtokabkhnidlcnabGreat

/-
  Walks: well-formed operators, holes, in both texts.
-/
namespace Go.Proofs.YtokabkhnidlcnabGreat
set_option maxRecDepth 100000
open Go.RowKit

set_option maxHeartbeats 400000 in
theorem l1OpOk_any (s : ByteArray) (k l sd : Int) (w : World) (hs : s.size ≤ maxLen) :
    Calls Tryz.prog 50 #[.agg #[.string s, .int .i64 k, .int .i64 l, .int .i64 sd]] w fun e w' => e = .returned (.bool (okB s k l sd)) ∧ Below w.heap.size w w' := by
  cases ht : txtB s
  · have hf := hide (show okB s k l sd = false by simp [okB, ht])
    go_enter Tryz.func50, Tryz.ntmps50
    go_wp2_with (go_at_call 91; refine (l1Signs_any _ _ hs).mono ?_; rintro e w' ⟨rfl, rfl⟩)
    go_ret
    exact ⟨ret_bool (unhide hf).symm, below1 _ _⟩
  · have hf := hide (show okB s k l sd = (decide (1 ≤ l) && decide (l ≤ 1000) && sideB k sd) by simp [okB, ht])
    go_enter Tryz.func50, Tryz.ntmps50
    go_wp2_with (go_at_call 91; refine (l1Signs_any _ _ hs).mono ?_; rintro e w' ⟨rfl, rfl⟩)
    all_goals (go_ret; refine ⟨ret_bool ?_, below1 _ _⟩; rw [unhide hf]; go_light; clear hf; (try simp only [beq_iff_eq, beq_eq_false_iff_ne, ne_eq] at *); rw [Bool.eq_iff_iff]; simp [sideB] <;> omega)

set_option maxHeartbeats 400000 in
theorem sideFits_any (s : ByteArray) (k l sd : Int) (w : World) :
    Calls Tryz.prog 132 #[.agg #[.string s, .int .i64 k, .int .i64 l, .int .i64 sd]] w fun e w' => e = .returned (.bool (sideB k sd)) ∧ Below w.heap.size w w' := by
  go_enter Tryz.func132, Tryz.ntmps132
  go_wp2
  all_goals (go_ret; refine ⟨ret_bool ?_, below1 _ _⟩; go_light; (try simp only [beq_iff_eq, beq_eq_false_iff_ne, ne_eq] at *); rw [Bool.eq_iff_iff]; simp [sideB] <;> omega)

set_option maxHeartbeats 400000 in
theorem wellFormed_any (s : ByteArray) (k l sd : Int) (w : World) (hs : s.size ≤ maxLen) :
    Calls Tryz.prog 103 #[.agg #[.string s, .int .i64 k, .int .i64 l, .int .i64 sd]] w fun e w' => e = .returned (.bool (okB s k l sd)) ∧ Below w.heap.size w w' := by
  cases ht : txtB s
  · have hf := hide (show okB s k l sd = false by simp [okB, ht])
    go_enter Tryz.func103, Tryz.ntmps103
    go_wp2_with (go_at_call 131; refine (isOpText_any _ _ hs).mono ?_; rintro e w' ⟨rfl, rfl⟩)
    go_ret
    exact ⟨ret_bool (unhide hf).symm, below1 _ _⟩
  · have hf := hide (show okB s k l sd = (decide (1 ≤ l) && decide (l ≤ 1000) && sideB k sd) by simp [okB, ht])
    by_cases h1 : 1 ≤ l
    · by_cases h2 : l ≤ 1000
      · go_enter Tryz.func103, Tryz.ntmps103
        go_wp2_with (first | (go_at_call 131; refine (isOpText_any _ _ hs).mono ?_; rintro e w' ⟨rfl, rfl⟩) | (go_at_call 132; refine (sideFits_any _ _ _ _ _).mono ?_; rintro e w' ⟨rfl, hb⟩))
        go_ret
        exact ⟨ret_bool (by rw [unhide hf]; simp [h1, h2]), (below1 _ _).trans (hb.mono (by simp))⟩
      · go_enter Tryz.func103, Tryz.ntmps103
        go_wp2_with (first | (go_at_call 131; refine (isOpText_any _ _ hs).mono ?_; rintro e w' ⟨rfl, rfl⟩) | (go_at_call 132; refine (sideFits_any _ _ _ _ _).mono ?_; rintro e w' ⟨rfl, hb⟩))
        go_ret
        exact ⟨ret_bool (by rw [unhide hf]; simp; intros; omega), below1 _ _⟩
    · go_enter Tryz.func103, Tryz.ntmps103
      go_wp2_with (first | (go_at_call 131; refine (isOpText_any _ _ hs).mono ?_; rintro e w' ⟨rfl, rfl⟩) | (go_at_call 132; refine (sideFits_any _ _ _ _ _).mono ?_; rintro e w' ⟨rfl, hb⟩))
      go_ret
      exact ⟨ret_bool (by rw [unhide hf]; simp; intros; omega), below1 _ _⟩
end Go.Proofs.YtokabkhnidlcnabGreat

/-
  Walks: Hole, in both texts.
-/
namespace Go.Proofs.YtokabkhnidlcnabGreat
set_option maxRecDepth 100000
open Go.RowKit

set_option maxHeartbeats 1000000 in
theorem specHole_any (s : ByteArray) (k l sd : Int) (b : Bool) (w : World) (hs : s.size ≤ maxLen) :
    Calls Tryz.prog 102 #[.agg #[.string s, .int .i64 k, .int .i64 l, .int .i64 sd], .bool b] w fun e w' => e = .returned (.int .i64 (holeI s k l sd b)) ∧ Below w.heap.size w w' := by
  cases ht : okB s k l sd
  · have hf := hide (hole_bad s k l sd b ht)
    go_enter Tryz.func102, Tryz.ntmps102
    go_wp2_with (go_at_call 50; refine (l1OpOk_any _ _ _ _ _ hs).mono ?_; rintro e w' ⟨rfl, hb⟩)
    go_ret
    exact ⟨ret_int (unhide hf).symm, (below1 _ _).trans (hb.mono (by simp))⟩
  · obtain ⟨⟨hl1, hl2⟩, h⟩ := ok_shape s k l sd ht
    rcases h with ⟨rfl, rfl⟩ | ⟨rfl, rfl⟩ | ⟨rfl, rfl⟩ | ⟨rfl, rfl⟩ | ⟨rfl, rfl⟩ <;> cases b
    all_goals
      have hf := hide (ht)
      go_enter Tryz.func102, Tryz.ntmps102
      go_wp2_with (go_at_call 50; refine (l1OpOk_any _ _ _ _ _ hs).mono ?_; rintro e w' ⟨rfl, hb⟩; obtain ⟨hc, hz⟩ := bcell hb)
      go_ret
      exact ⟨ret_int (by simp [holeI, infI, unhide hf]), (below1 _ _).trans (hb.mono (by simp))⟩

set_option maxHeartbeats 400000 in
theorem infixHole_any (s : ByteArray) (k l sd : Int) (b : Bool) (w : World) (hl1 : 1 ≤ l) (hl2 : l ≤ 1000) :
    Calls Tryz.prog 137 #[.agg #[.string s, .int .i64 k, .int .i64 l, .int .i64 sd], .bool b] w fun e w' => e = .returned (.int .i64 (infI l sd b)) ∧ Below w.heap.size w w' := by
  cases b
  · by_cases h : sd = 1
    · have h' : (sd == 1) = true := by simpa using h
      have H := hide h
      clear h
      go_enter Tryz.func137, Tryz.ntmps137
      go_wp2
      go_ret
      exact ⟨ret_int (by simp [infI, unhide H]), below1 _ _⟩
    · have h' : (sd == 1) = false := by simpa using h
      go_enter Tryz.func137, Tryz.ntmps137
      go_wp2
      go_ret
      exact ⟨ret_int (by simp [infI, h]), below1 _ _⟩
  · by_cases h : sd = 2
    · have h' : (sd == 2) = true := by simpa using h
      have H := hide h
      clear h
      go_enter Tryz.func137, Tryz.ntmps137
      go_wp2
      go_ret
      exact ⟨ret_int (by simp [infI, unhide H]), below1 _ _⟩
    · have h' : (sd == 2) = false := by simpa using h
      go_enter Tryz.func137, Tryz.ntmps137
      go_wp2
      go_ret
      exact ⟨ret_int (by simp [infI, h]), below1 _ _⟩

set_option maxHeartbeats 1000000 in
theorem implHole_any (s : ByteArray) (k l sd : Int) (b : Bool) (w : World) (hs : s.size ≤ maxLen) :
    Calls Tryz.prog 113 #[.agg #[.string s, .int .i64 k, .int .i64 l, .int .i64 sd], .bool b] w fun e w' => e = .returned (.int .i64 (holeI s k l sd b)) ∧ Below w.heap.size w w' := by
  cases ht : okB s k l sd
  · have hf := hide (hole_bad s k l sd b ht)
    go_enter Tryz.func113, Tryz.ntmps113
    go_wp2_with (go_at_call 103; refine (wellFormed_any _ _ _ _ _ hs).mono ?_; rintro e w' ⟨rfl, hb⟩)
    go_ret
    exact ⟨ret_int (unhide hf).symm, (below1 _ _).trans (hb.mono (by simp))⟩
  · obtain ⟨⟨hl1, hl2⟩, h⟩ := ok_shape s k l sd ht
    have hf := hide ht
    by_cases h2 : k = 2
    · subst h2
      clear h
      go_enter Tryz.func113, Tryz.ntmps113
      go_wp2_with (first | (go_at_call 103; refine (wellFormed_any _ _ _ _ _ hs).mono ?_; rintro e w' ⟨rfl, hb⟩; obtain ⟨hc, hz⟩ := bcell hb) | (go_at_call 137; refine (infixHole_any _ _ _ _ _ _ hl1 hl2).mono ?_; rintro e w1 ⟨rfl, hb1⟩))
      go_ret
      exact ⟨ret_int (by simp [holeI, unhide hf]), (below1 _ _).trans ((hb.mono (by simp)).trans (hb1.mono (by have := hb.size; simp at this; omega)))⟩
    · have h2' : (k == 2) = false := by simpa using h2
      clear h
      cases b
      all_goals
        go_enter Tryz.func113, Tryz.ntmps113
        go_wp2_with (first | (go_at_call 103; refine (wellFormed_any _ _ _ _ _ hs).mono ?_; rintro e w' ⟨rfl, hb⟩; obtain ⟨hc, hz⟩ := bcell hb))
        go_ret
        exact ⟨ret_int (by simp [holeI, unhide hf, h2]), (below1 _ _).trans (hb.mono (by simp))⟩

end Go.Proofs.YtokabkhnidlcnabGreat
