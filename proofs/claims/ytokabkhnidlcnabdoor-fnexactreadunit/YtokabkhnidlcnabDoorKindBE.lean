/-
  Walks: the program's kinds of bytes.
-/
import Derived.Test.YtokabkhnidlcnabDoorSpecNum
import Derived.Test.YtokabkhnidlcnabDoorSignI
namespace Go.Proofs.YtokabkhnidlcnabDoor
set_option maxRecDepth 100000
open Go.RowKit

set_option maxHeartbeats 1000000 in
theorem kindOfByte_any (c : UInt8) (w : World) :
    Calls Tryd.prog 52 #[.int .u8 (c.toNat : Int)] w fun e w' => e = .returned (.int .i64 (cls c : Int)) ∧ w' = w := by
  have hsg := cls_sg c
  go_enter Tryd.func52, Tryd.ntmps52
  go_wp2_with (go_at_call 60; refine (isSign_any _ _).mono ?_; rintro e w' ⟨rfl, hx⟩; obtain rfl := hx.symm)
  all_goals (go_ret; refine ⟨ret_int ?_, rfl⟩; go_light; (try simp only [beq_iff_eq, beq_eq_false_iff_ne, ne_eq] at *); unfold cls; (repeat' split) <;> (try simp_all) <;> (try omega))

/-- A byte goes on with a word. -/
def stays (first : Nat) (c : UInt8) : Bool := decide (cls c = 2 ∨ (cls c = 3 ∧ first = 3))

set_option maxHeartbeats 1000000 in
theorem staysWord_any (first : Nat) (c : UInt8) (w : World) :
    Calls Tryd.prog 53 #[.int .i64 (first : Int), .int .u8 (c.toNat : Int)] w fun e w' => e = .returned (.bool (stays first c)) ∧ w' = w := by
  by_cases h2 : cls c = 2
  · have HR := hide (show stays first c = true by simp [stays, h2])
    have HC := hide (show (cls c : Int) = 2 by omega)
    clear h2
    go_enter Tryd.func53, Tryd.ntmps53
    go_wp2_with (go_at_call 52; refine (kindOfByte_any _ _).mono ?_; rw [unhide HC]; rintro e w' ⟨rfl, hx⟩; obtain rfl := hx.symm)
    go_ret
    exact ⟨ret_bool (unhide HR).symm, rfl⟩
  by_cases h3 : cls c = 3
  · have HC := hide (show (cls c : Int) = 3 by omega)
    by_cases hf : first = 3
    · have HR := hide (show stays first c = true by simp [stays, h3, hf])
      subst hf
      clear h2 h3
      go_enter Tryd.func53, Tryd.ntmps53
      go_wp2_with (go_at_call 52; refine (kindOfByte_any _ _).mono ?_; rw [unhide HC]; rintro e w' ⟨rfl, hx⟩; obtain rfl := hx.symm)
      go_ret
      exact ⟨ret_bool (unhide HR).symm, rfl⟩
    · have HR := hide (show stays first c = false by simp [stays, h3, hf])
      have hf' : ((first : Int) == 3) = false := by simp; omega
      clear h2 h3 hf
      go_enter Tryd.func53, Tryd.ntmps53
      go_wp2_with (go_at_call 52; refine (kindOfByte_any _ _).mono ?_; rw [unhide HC]; rintro e w' ⟨rfl, hx⟩; obtain rfl := hx.symm)
      go_ret
      exact ⟨ret_bool (unhide HR).symm, rfl⟩
  · have HR := hide (show stays first c = false by simp [stays, h2, h3])
    have h2' : ((cls c : Int) == 2) = false := by simp; omega
    have h3' : ((cls c : Int) == 3) = false := by simp; omega
    clear h2 h3
    go_enter Tryd.func53, Tryd.ntmps53
    go_wp2_with (go_at_call 52; refine (kindOfByte_any _ _).mono ?_; rintro e w' ⟨rfl, hx⟩; obtain rfl := hx.symm)
    go_ret
    exact ⟨ret_bool (unhide HR).symm, rfl⟩

theorem loop_ne (t : ByteArray) : ∀ (n i : Nat) (r : List UInt8), n = t.size - i → r ≠ [] → ByteArray.toList.loop t i r ≠ []
  | 0, i, r, h, hr => by
    unfold ByteArray.toList.loop
    rw [if_neg (by omega)]
    simpa using hr
  | n + 1, i, r, h, hr => by
    unfold ByteArray.toList.loop
    rw [if_pos (by omega)]
    exact loop_ne t n (i + 1) _ (by omega) (by simp)

theorem not_empty {t : ByteArray} (h : t.size ≠ 0) : t.toList.isEmpty = false := by
  rw [List.isEmpty_eq_false_iff]
  unfold ByteArray.toList ByteArray.toList.loop
  rw [if_pos (by omega)]
  exact loop_ne t (t.size - 1) 1 _ rfl (by simp)

theorem bytes_nil {t : ByteArray} (h : t.size = 0) : t = ⟨#[]⟩ := by
  obtain ⟨d⟩ := t
  congr 1
  exact Array.eq_empty_of_size_eq_zero h

theorem says_false {p : Prop} (h : ¬ p) : Says false p := ⟨fun e => (by cases e), fun e => absurd e h⟩
theorem says_true {p : Prop} (h : p) : Says true p := ⟨fun _ => h, fun _ => rfl⟩
end Go.Proofs.YtokabkhnidlcnabDoor
