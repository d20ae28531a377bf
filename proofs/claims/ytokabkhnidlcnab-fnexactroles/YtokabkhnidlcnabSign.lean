/-
  Walks: signs and texts of operators, in both texts.
-/
import Derived.Test.YtokabkhnidlcnabBase
import Derived.Test.YtokabkhnidlcnabMath
namespace Go.Proofs.Ytokabkhnidlcnab
set_option maxRecDepth 100000
open Go.RowKit

set_option maxHeartbeats 400000 in
theorem l1IsSign_any (c : UInt8) (w : World) :
    Calls Try.prog 118 #[.int .u8 (c.toNat : Int)] w fun e w' => e = .returned (.bool (sgB c)) ∧ w' = w := by
  go_enter Try.func118, Try.ntmps118
  go_wp2
  go_loop [4] (fun i => ∃ k : Nat, k ≤ 18 ∧ i = .int .i64 k ∧ ∀ j, j < k → sgL.getD j 0 ≠ c) (fun i => 18 - (intOf i).toNat)
  case atStart => exact ⟨0, by omega, rfl, fun j h => by omega⟩
  case round =>
    obtain ⟨k, hk, rfl, hn⟩ := hrel
    by_cases hlt : k < 18
    · go_wp2
      · go_ret
        exact ⟨ret_bool (sgB_some c k hlt (by rw [← lit_get k hlt (by exact hlt)]; exact u8_eq _ _ ‹_›)).symm, rfl⟩
      · refine ⟨⟨k + 1, by omega, by go_num, ?_⟩, by simp [intOf]; omega⟩
        intro j hj
        by_cases e : j = k
        · subst e
          rw [← lit_get j hlt (by exact hlt)]
          exact u8_ne _ _ ‹_›
        · exact hn j (by omega)
    · go_wp2
      go_ret
      exact ⟨ret_bool (sgB_none c (fun j hj => hn j (by omega))).symm, rfl⟩

set_option maxHeartbeats 400000 in
theorem isSign_any (c : UInt8) (w : World) :
    Calls Try.prog 139 #[.int .u8 (c.toNat : Int)] w fun e w' => e = .returned (.bool (sgB c)) ∧ w' = w := by
  go_enter Try.func139, Try.ntmps139
  go_wp2
  rw [run_callFunc_extern Try.func144 (by kernel_rfl) (by kernel_rfl) (by kernel_rfl) (e := Extern.BytealgIndexByte.indexByte) (by kernel_rfl), Lib.run_indexByteString]
  simp only [Result.andThen]
  rw [Oper.upon_value]
  go_wp2
  go_ret
  refine ⟨?_, rfl⟩
  exact congrArg (fun b => Ending.returned (.bool b)) (idx_sg c)
end Go.Proofs.Ytokabkhnidlcnab
