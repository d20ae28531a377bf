/-
  Walks: texts of operators, in both texts.
-/
import Derived.Test.YtokabkhnidlcnabSign
namespace Go.Proofs.Ytokabkhnidlcnab
set_option maxRecDepth 100000
open Go.RowKit

theorem txt_false_of (s : ByteArray) (k : Nat) (h : k < s.size) (hb : sgB s[k] = false) : txtB s = false := by
  simp [txtB, sgs_false s k h hb]

theorem txt_of (s : ByteArray) (k : Nat) (hk : ¬ k < s.size) (h : sgsB (s.data.toList.take k) = true) : txtB s = (decide (1 ≤ s.size) && decide (s.size ≤ 16)) := by
  rw [sgs_full s k hk] at h
  simp [txtB, h]

theorem sgs_step (s : ByteArray) (k : Nat) (h : k < s.size) (hs : sgsB (s.data.toList.take k) = true) (hb : sgB s[k] = true) : sgsB (s.data.toList.take (k + 1)) = true := by
  rw [take_snoc s k h, sgs_snoc, hs, hb]; rfl

set_option maxHeartbeats 400000 in
theorem l1Signs_any (s : ByteArray) (w : World) (hs : s.size ≤ maxLen) :
    Calls Try.prog 116 #[.string s] w fun e w' => e = .returned (.bool (txtB s)) ∧ w' = w := by
  unfold maxLen at hs
  go_enter Try.func116, Try.ntmps116
  go_wp2
  go_loop [3] (fun i => ∃ k : Nat, k ≤ s.size ∧ i = .int .i64 k ∧ Hid (sgsB (s.data.toList.take k) = true)) (fun i => s.size - (intOf i).toNat)
  case atStart => exact ⟨0, Nat.zero_le _, rfl, hide rfl⟩
  case round =>
    obtain ⟨k, hk, rfl, hn⟩ := hrel
    by_cases hlt : k < s.size
    · cases hb : sgB s[k]
      · have Hb := hide hb
        go_wp2_with (go_at_call 118; refine (l1IsSign_any _ _).mono ?_; rintro e w' ⟨rfl, rfl⟩)
        go_ret
        exact ⟨ret_bool (txt_false_of s k hlt (unhide Hb)).symm, rfl⟩
      · have Hb := hide hb
        go_wp2_with (go_at_call 118; refine (l1IsSign_any _ _).mono ?_; rintro e w' ⟨rfl, rfl⟩)
        exact ⟨⟨k + 1, by omega, by go_num, hide (sgs_step s k hlt (unhide hn) (unhide Hb))⟩, by simp [intOf]; omega⟩
    · have ht := hide (txt_of s k hlt (unhide hn))
      by_cases h1 : 1 ≤ s.size
      · have h1' : (1 : Int) ≤ (s.size : Int) := by omega
        go_wp2
        go_ret
        exact ⟨ret_bool (by rw [unhide ht]; simp [h1]; omega), rfl⟩
      · go_wp2
        go_ret
        exact ⟨ret_bool (by rw [unhide ht]; simp [h1]), rfl⟩

set_option maxHeartbeats 400000 in
theorem isOpText_any (s : ByteArray) (w : World) (hs : s.size ≤ maxLen) :
    Calls Try.prog 135 #[.string s] w fun e w' => e = .returned (.bool (txtB s)) ∧ w' = w := by
  unfold maxLen at hs
  by_cases h1 : s.size < 1
  · go_enter Try.func135, Try.ntmps135
    go_wp2
    go_ret
    exact ⟨ret_bool (by simp [txtB]; omega), rfl⟩
  by_cases h2 : 16 < s.size
  · go_enter Try.func135, Try.ntmps135
    go_wp2
    go_ret
    exact ⟨ret_bool (by simp [txtB]; omega), rfl⟩
  go_enter Try.func135, Try.ntmps135
  go_wp2
  go_loop [14] (fun i => ∃ k : Nat, k ≤ s.size ∧ i = .int .i64 k ∧ Hid (sgsB (s.data.toList.take k) = true)) (fun i => s.size - (intOf i).toNat)
  case atStart => exact ⟨0, Nat.zero_le _, rfl, hide rfl⟩
  case round =>
    obtain ⟨k, hk, rfl, hn⟩ := hrel
    by_cases hlt : k < s.size
    · cases hb : sgB s[k]
      · have Hb := hide hb
        go_wp2_with (go_at_call 139; refine (isSign_any _ _).mono ?_; rintro e w' ⟨rfl, rfl⟩)
        go_ret
        exact ⟨ret_bool (txt_false_of s k hlt (unhide Hb)).symm, rfl⟩
      · have Hb := hide hb
        go_wp2_with (go_at_call 139; refine (isSign_any _ _).mono ?_; rintro e w' ⟨rfl, rfl⟩)
        exact ⟨⟨k + 1, by omega, by go_num, hide (sgs_step s k hlt (unhide hn) (unhide Hb))⟩, by simp [intOf]; omega⟩
    · have ht := hide (txt_of s k hlt (unhide hn))
      go_wp2
      go_ret
      exact ⟨ret_bool (by rw [unhide ht]; simp; omega), rfl⟩
end Go.Proofs.Ytokabkhnidlcnab
