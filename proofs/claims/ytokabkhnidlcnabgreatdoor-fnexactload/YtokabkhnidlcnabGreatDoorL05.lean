import Derived.Test.YtokabkhnidlcnabGreatDoorL00
import Derived.Test.YtokabkhnidlcnabGreatDoorL04

/-
  Walks: texts of operators, in both texts.
-/
namespace Go.Proofs.YtokabkhnidlcnabGreatDoor
set_option maxRecDepth 100000
open Go.RowKit

theorem txt_false_of (s : ByteArray) (k : Nat) (h : k < s.size) (hb : sgB s[k] = false) : txtB s = false := by
  simp [txtB, sgs_false s k h hb]

theorem txt_of (s : ByteArray) (k : Nat) (hk : ¬ k < s.size) (h : sgsB (s.data.toList.take k) = true) : txtB s = (decide (1 ≤ s.size) && decide (s.size ≤ 16)) := by
  rw [sgs_full s k hk] at h
  simp [txtB, h]

theorem sgs_step (s : ByteArray) (k : Nat) (h : k < s.size) (hs : sgsB (s.data.toList.take k) = true) (hb : sgB s[k] = true) : sgsB (s.data.toList.take (k + 1)) = true := by
  rw [take_snoc s k h, sgs_snoc, hs, hb]; rfl

set_option maxHeartbeats 400000 in
theorem l1Signs_any (s : ByteArray) (w : World) (hs : s.size ≤ maxLen) :
    Calls Tryz.prog 49 #[.string s] w fun e w' => e = .returned (.bool (txtB s)) ∧ w' = w := by
  unfold maxLen at hs
  go_enter Tryz.func49, Tryz.ntmps49
  go_wp2
  go_loop [3] (fun i => ∃ k : Nat, k ≤ s.size ∧ i = .int .i64 k ∧ Hid (sgsB (s.data.toList.take k) = true)) (fun i => s.size - (intOf i).toNat)
  case atStart => exact ⟨0, Nat.zero_le _, rfl, hide rfl⟩
  case round =>
    obtain ⟨k, hk, rfl, hn⟩ := hrel
    by_cases hlt : k < s.size
    · cases hb : sgB s[k]
      · have Hb := hide hb
        go_wp2_with (go_at_call 61; refine (l1IsSign_any _ _).mono ?_; rintro e w' ⟨rfl, rfl⟩)
        go_ret
        exact ⟨ret_bool (txt_false_of s k hlt (unhide Hb)).symm, rfl⟩
      · have Hb := hide hb
        go_wp2_with (go_at_call 61; refine (l1IsSign_any _ _).mono ?_; rintro e w' ⟨rfl, rfl⟩)
        exact ⟨⟨k + 1, by omega, by go_num, hide (sgs_step s k hlt (unhide hn) (unhide Hb))⟩, by simp [intOf]; omega⟩
    · have ht := hide (txt_of s k hlt (unhide hn))
      by_cases h1 : 1 ≤ s.size
      · have h1' : (1 : Int) ≤ (s.size : Int) := by omega
        go_wp2
        go_ret
        exact ⟨ret_bool (by rw [unhide ht]; simp [h1]; omega), rfl⟩
      · go_wp2
        go_ret
        exact ⟨ret_bool (by rw [unhide ht]; simp [h1]), rfl⟩

set_option maxHeartbeats 400000 in
theorem isOpText_any (s : ByteArray) (w : World) (hs : s.size ≤ maxLen) :
    Calls Tryz.prog 96 #[.string s] w fun e w' => e = .returned (.bool (txtB s)) ∧ w' = w := by
  unfold maxLen at hs
  by_cases h1 : s.size < 1
  · go_enter Tryz.func96, Tryz.ntmps96
    go_wp2
    go_ret
    exact ⟨ret_bool (by simp [txtB]; omega), rfl⟩
  by_cases h2 : 16 < s.size
  · go_enter Tryz.func96, Tryz.ntmps96
    go_wp2
    go_ret
    exact ⟨ret_bool (by simp [txtB]; omega), rfl⟩
  go_enter Tryz.func96, Tryz.ntmps96
  go_wp2
  go_loop [14] (fun i => ∃ k : Nat, k ≤ s.size ∧ i = .int .i64 k ∧ Hid (sgsB (s.data.toList.take k) = true)) (fun i => s.size - (intOf i).toNat)
  case atStart => exact ⟨0, Nat.zero_le _, rfl, hide rfl⟩
  case round =>
    obtain ⟨k, hk, rfl, hn⟩ := hrel
    by_cases hlt : k < s.size
    · cases hb : sgB s[k]
      · have Hb := hide hb
        go_wp2_with (go_at_call 72; refine (isSign_any _ _).mono ?_; rintro e w' ⟨rfl, rfl⟩)
        go_ret
        exact ⟨ret_bool (txt_false_of s k hlt (unhide Hb)).symm, rfl⟩
      · have Hb := hide hb
        go_wp2_with (go_at_call 72; refine (isSign_any _ _).mono ?_; rintro e w' ⟨rfl, rfl⟩)
        exact ⟨⟨k + 1, by omega, by go_num, hide (sgs_step s k hlt (unhide hn) (unhide Hb))⟩, by simp [intOf]; omega⟩
    · have ht := hide (txt_of s k hlt (unhide hn))
      go_wp2
      go_ret
      exact ⟨ret_bool (by rw [unhide ht]; simp; omega), rfl⟩
end Go.Proofs.YtokabkhnidlcnabGreatDoor

/-
  Walks: well-formed operators, holes, in both texts.
-/
namespace Go.Proofs.YtokabkhnidlcnabGreatDoor
set_option maxRecDepth 100000
open Go.RowKit

set_option maxHeartbeats 400000 in
theorem l1OpOk_any (s : ByteArray) (k l sd : Int) (w : World) (hs : s.size ≤ maxLen) :
    Calls Tryz.prog 35 #[.agg #[.string s, .int .i64 k, .int .i64 l, .int .i64 sd]] w fun e w' => e = .returned (.bool (okB s k l sd)) ∧ Below w.heap.size w w' := by
  cases ht : txtB s
  · have hf := hide (show okB s k l sd = false by simp [okB, ht])
    go_enter Tryz.func35, Tryz.ntmps35
    go_wp2_with (go_at_call 49; refine (l1Signs_any _ _ hs).mono ?_; rintro e w' ⟨rfl, rfl⟩)
    go_ret
    exact ⟨ret_bool (unhide hf).symm, below1 _ _⟩
  · have hf := hide (show okB s k l sd = (decide (1 ≤ l) && decide (l ≤ 1000) && sideB k sd) by simp [okB, ht])
    go_enter Tryz.func35, Tryz.ntmps35
    go_wp2_with (go_at_call 49; refine (l1Signs_any _ _ hs).mono ?_; rintro e w' ⟨rfl, rfl⟩)
    all_goals (go_ret; refine ⟨ret_bool ?_, below1 _ _⟩; rw [unhide hf]; go_light; clear hf; (try simp only [beq_iff_eq, beq_eq_false_iff_ne, ne_eq] at *); rw [Bool.eq_iff_iff]; simp [sideB] <;> omega)

set_option maxHeartbeats 400000 in
theorem sideFits_any (s : ByteArray) (k l sd : Int) (w : World) :
    Calls Tryz.prog 97 #[.agg #[.string s, .int .i64 k, .int .i64 l, .int .i64 sd]] w fun e w' => e = .returned (.bool (sideB k sd)) ∧ Below w.heap.size w w' := by
  go_enter Tryz.func97, Tryz.ntmps97
  go_wp2
  all_goals (go_ret; refine ⟨ret_bool ?_, below1 _ _⟩; go_light; (try simp only [beq_iff_eq, beq_eq_false_iff_ne, ne_eq] at *); rw [Bool.eq_iff_iff]; simp [sideB] <;> omega)

set_option maxHeartbeats 400000 in
theorem wellFormed_any (s : ByteArray) (k l sd : Int) (w : World) (hs : s.size ≤ maxLen) :
    Calls Tryz.prog 84 #[.agg #[.string s, .int .i64 k, .int .i64 l, .int .i64 sd]] w fun e w' => e = .returned (.bool (okB s k l sd)) ∧ Below w.heap.size w w' := by
  cases ht : txtB s
  · have hf := hide (show okB s k l sd = false by simp [okB, ht])
    go_enter Tryz.func84, Tryz.ntmps84
    go_wp2_with (go_at_call 96; refine (isOpText_any _ _ hs).mono ?_; rintro e w' ⟨rfl, rfl⟩)
    go_ret
    exact ⟨ret_bool (unhide hf).symm, below1 _ _⟩
  · have hf := hide (show okB s k l sd = (decide (1 ≤ l) && decide (l ≤ 1000) && sideB k sd) by simp [okB, ht])
    by_cases h1 : 1 ≤ l
    · by_cases h2 : l ≤ 1000
      · go_enter Tryz.func84, Tryz.ntmps84
        go_wp2_with (first | (go_at_call 96; refine (isOpText_any _ _ hs).mono ?_; rintro e w' ⟨rfl, rfl⟩) | (go_at_call 97; refine (sideFits_any _ _ _ _ _).mono ?_; rintro e w' ⟨rfl, hb⟩))
        go_ret
        exact ⟨ret_bool (by rw [unhide hf]; simp [h1, h2]), (below1 _ _).trans (hb.mono (by simp))⟩
      · go_enter Tryz.func84, Tryz.ntmps84
        go_wp2_with (first | (go_at_call 96; refine (isOpText_any _ _ hs).mono ?_; rintro e w' ⟨rfl, rfl⟩) | (go_at_call 97; refine (sideFits_any _ _ _ _ _).mono ?_; rintro e w' ⟨rfl, hb⟩))
        go_ret
        exact ⟨ret_bool (by rw [unhide hf]; simp; intros; omega), below1 _ _⟩
    · go_enter Tryz.func84, Tryz.ntmps84
      go_wp2_with (first | (go_at_call 96; refine (isOpText_any _ _ hs).mono ?_; rintro e w' ⟨rfl, rfl⟩) | (go_at_call 97; refine (sideFits_any _ _ _ _ _).mono ?_; rintro e w' ⟨rfl, hb⟩))
      go_ret
      exact ⟨ret_bool (by rw [unhide hf]; simp; intros; omega), below1 _ _⟩
end Go.Proofs.YtokabkhnidlcnabGreatDoor

/-
  Walk: all operators are well formed.
-/
namespace Go.Proofs.YtokabkhnidlcnabGreatDoor
set_option maxRecDepth 100000
open Go.RowKit

set_option maxHeartbeats 400000 in
theorem allWF_any (b off cap : Nat) (xs : List OpR) (w : World) (hn2 : xs.length ≤ 1048576) (hw : Ops w b off xs) (hs : Sized xs) (hB : b < w.heap.size) :
    Calls Tryz.prog 73 #[.slice (some ⟨b, off, none⟩) xs.length cap] w fun e w' => (∃ v, e = .returned (.bool v) ∧ (v = true ↔ okTo xs xs.length)) ∧ Below w.heap.size w w' := by
  go_enter Tryz.func73, Tryz.ntmps73
  go_wp2
  go_loopw [7] (fun i wr => ∃ k : Nat, k ≤ xs.length ∧ i = .int .i64 k ∧ okTo xs k ∧ Below w.heap.size w wr) (fun i _ => xs.length - (intOf i).toNat)
  case atStart => exact ⟨0, Nat.zero_le _, rfl, fun j h => by omega, Below.refl _ _⟩
  case round =>
    obtain ⟨k, hk, rfl, hok, hbel⟩ := hrel
    by_cases hlt : k < xs.length
    · obtain ⟨h0, h1, h2, h3⟩ := (hw k hlt).below hbel hB
      cases ht : (atO xs k).ok
      · have Ht := hide ht
        unfold OpR.ok at ht
        go_wp2_with (go_at_call 84; refine (wellFormed_any _ _ _ _ _ (hs k hlt)).mono ?_; rintro e w' ⟨rfl, hb⟩)
        go_ret
        refine ⟨⟨false, rfl, ⟨fun h => (by cases h), fun h => ?_⟩⟩, ?_⟩
        · have := h k hlt; rw [unhide Ht] at this; cases this
        · exact hbel.trans (((below1 _ _).trans (hb.mono (by simp))).mono hbel.size)
      · have Ht := hide ht
        unfold OpR.ok at ht
        go_wp2_with (go_at_call 84; refine (wellFormed_any _ _ _ _ _ (hs k hlt)).mono ?_; rintro e w' ⟨rfl, hb⟩)
        exact ⟨⟨k + 1, by omega, by go_num, okTo_succ hok (unhide Ht), hbel.trans (((below1 _ _).trans (hb.mono (by simp))).mono hbel.size)⟩, by simp [intOf]; omega⟩
    · have : k = xs.length := by omega
      go_wp2
      go_ret
      exact ⟨⟨true, rfl, ⟨fun _ => this ▸ hok, fun _ => rfl⟩⟩, hbel⟩

end Go.Proofs.YtokabkhnidlcnabGreatDoor
