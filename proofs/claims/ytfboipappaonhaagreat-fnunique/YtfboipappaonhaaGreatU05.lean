import Derived.Test.YtfboipappaonhaaGreatU00
import Derived.Test.YtfboipappaonhaaGreatU04

/-
  Walks: letters, names, in the specification.
-/
namespace Go.Proofs.YtfboipappaonhaaGreat
set_option maxRecDepth 100000
open Go.RowKit

theorem l2Letter_any (c : UInt8) (w : World) :
    Calls Tryz.prog 164 #[.int .u8 (c.toNat : Int)] w fun e w' => e = .returned (.bool (decide (cls c = 3))) ∧ w' = w := by
  go_enter Tryz.func164, Tryz.ntmps164
  go_wp2
  all_goals (go_ret; refine ⟨ret_bool ?_, rfl⟩; go_light; rw [Bool.eq_iff_iff]; simp [cls_let] <;> omega)

set_option maxHeartbeats 400000 in
theorem l2IsName_any (s : ByteArray) (w : World) (hs : s.size ≤ maxLen) :
    Calls Tryz.prog 146 #[.string s] w fun e w' => RetB e (NameT s) ∧ w' = w := by
  unfold maxLen at hs
  go_enter Tryz.func146, Tryz.ntmps146
  go_wp2
  go_loop [3] (fun i => ∃ k : Nat, k ≤ s.size ∧ i = .int .i64 k ∧ Hid (∀ j, j < k → (cls (bt s j) = 3 ∨ (j ≠ 0 ∧ cls (bt s j) = 2)))) (fun i => s.size - (intOf i).toNat)
  case atStart => exact ⟨0, Nat.zero_le _, rfl, hide (fun j h => by omega)⟩
  case round =>
    obtain ⟨k, hk, rfl, hn⟩ := hrel
    by_cases hlt : k < s.size
    · have hbk := hide (bt_get hlt)
      have no : (¬ cls (bt s k) = 3) → (k = 0 ∨ ¬ cls (bt s k) = 2) → ∀ v, v = false → Says v (NameT s) := fun h1 h2 v hv => by
        subst hv
        refine ⟨fun h => (by cases h), fun h => ?_⟩
        have := h.2 k hlt
        omega
      have NO := hide no
      clear no
      cases hb : decide (cls s[k] = 3)
      · have hb3 := hide (show ¬ cls (bt s k) = 3 by rw [bt_get hlt] at hb; simpa using hb)
        by_cases hk0 : k = 0
        · subst hk0
          go_wp2_with (go_at_call 164; refine (l2Letter_any _ _).mono ?_; rintro e w' ⟨rfl, rfl⟩)
          go_ret
          exact ⟨⟨_, rfl, (unhide NO) (unhide hb3) (Or.inl trivial) _ rfl⟩, rfl⟩
        · have hk0' : ((k : Int) == 0) = false := by simp; omega
          cases hd : decide (cls s[k] = 2)
          · have hd2 := hide (show ¬ cls (bt s k) = 2 by rw [bt_get hlt] at hd; simpa using hd)
            go_wp2_with (first | (go_at_call 164; refine (l2Letter_any _ _).mono ?_; rintro e w' ⟨rfl, rfl⟩) | (go_at_call 165; refine (l2Digit_any _ _).mono ?_; rintro e w' ⟨rfl, rfl⟩))
            go_ret
            exact ⟨⟨_, rfl, (unhide NO) (unhide hb3) (Or.inr (unhide hd2)) _ rfl⟩, rfl⟩
          · have hd2 := hide (show cls (bt s k) = 2 by rw [bt_get hlt] at hd; simpa using hd)
            go_wp2_with (first | (go_at_call 164; refine (l2Letter_any _ _).mono ?_; rintro e w' ⟨rfl, rfl⟩) | (go_at_call 165; refine (l2Digit_any _ _).mono ?_; rintro e w' ⟨rfl, rfl⟩))
            refine ⟨⟨k + 1, by omega, by go_num, hide (fun j hj => ?_)⟩, by simp [intOf]; omega⟩
            by_cases e : j = k
            · subst e
              exact Or.inr ⟨hk0, unhide hd2⟩
            · exact (unhide hn) j (by omega)
      · have hb3 := hide (show cls (bt s k) = 3 by rw [bt_get hlt] at hb; simpa using hb)
        go_wp2_with (go_at_call 164; refine (l2Letter_any _ _).mono ?_; rintro e w' ⟨rfl, rfl⟩)
        refine ⟨⟨k + 1, by omega, by go_num, hide (fun j hj => ?_)⟩, by simp [intOf]; omega⟩
        by_cases e : j = k
        · subst e
          exact Or.inl (unhide hb3)
        · exact (unhide hn) j (by omega)
    · by_cases h1 : 1 ≤ s.size
      · have h1' : (1 : Int) ≤ (s.size : Int) := by omega
        go_wp2
        go_ret
        exact ⟨⟨_, rfl, ⟨fun _ => ⟨h1, fun j hj => (unhide hn) j (by omega)⟩, fun _ => by simp; omega⟩⟩, rfl⟩
      · go_wp2
        go_ret
        exact ⟨⟨decide (0 < s.size), rfl, ⟨fun h => absurd (of_decide_eq_true h) (by omega), fun h => absurd h.1 h1⟩⟩, rfl⟩
end Go.Proofs.YtfboipappaonhaaGreat

/-
  Walks: signs, in the program.
-/
namespace Go.Proofs.YtfboipappaonhaaGreat
set_option maxRecDepth 100000
open Go.RowKit

set_option maxHeartbeats 400000 in
theorem isSign_any (c : UInt8) (w : World) :
    Calls Tryz.prog 158 #[.int .u8 (c.toNat : Int)] w fun e w' => e = .returned (.bool (sgB c)) ∧ w' = w := by
  go_enter Tryz.func158, Tryz.ntmps158
  go_wp2
  rw [run_callFunc_extern Tryz.func169 (by kernel_rfl) (by kernel_rfl) (by kernel_rfl) (e := Extern.BytealgIndexByte.indexByte) (by kernel_rfl), Lib.run_indexByteString]
  simp only [Result.andThen]
  rw [Oper.upon_value]
  go_wp2
  go_ret
  refine ⟨?_, rfl⟩
  exact congrArg (fun b => Ending.returned (.bool b)) (idx_sg c)
end Go.Proofs.YtfboipappaonhaaGreat

/-
  Walks: signs and texts of operators, in both texts.
-/
namespace Go.Proofs.YtfboipappaonhaaGreat
set_option maxRecDepth 100000
open Go.RowKit

set_option maxHeartbeats 400000 in
theorem l1IsSign_any (c : UInt8) (w : World) :
    Calls Tryz.prog 154 #[.int .u8 (c.toNat : Int)] w fun e w' => e = .returned (.bool (sgB c)) ∧ w' = w := by
  go_enter Tryz.func154, Tryz.ntmps154
  go_wp2
  go_loop [4] (fun i => ∃ k : Nat, k ≤ 18 ∧ i = .int .i64 k ∧ ∀ j, j < k → sgL.getD j 0 ≠ c) (fun i => 18 - (intOf i).toNat)
  case atStart => exact ⟨0, by omega, rfl, fun j h => by omega⟩
  case round =>
    obtain ⟨k, hk, rfl, hn⟩ := hrel
    by_cases hlt : k < 18
    · go_wp2
      · go_ret
        exact ⟨ret_bool (sgB_some c k hlt (by rw [← lit_get k hlt (by exact hlt)]; exact u8_eq _ _ ‹_›)).symm, rfl⟩
      · refine ⟨⟨k + 1, by omega, by go_num, ?_⟩, by simp [intOf]; omega⟩
        intro j hj
        by_cases e : j = k
        · subst e
          rw [← lit_get j hlt (by exact hlt)]
          exact u8_ne _ _ ‹_›
        · exact hn j (by omega)
    · go_wp2
      go_ret
      exact ⟨ret_bool (sgB_none c (fun j hj => hn j (by omega))).symm, rfl⟩
end Go.Proofs.YtfboipappaonhaaGreat
