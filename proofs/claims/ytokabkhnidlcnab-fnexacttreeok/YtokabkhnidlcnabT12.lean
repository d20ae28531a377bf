import Derived.Test.YtokabkhnidlcnabT03
import Derived.Test.YtokabkhnidlcnabT11

/-
  Walks: the program's kinds of bytes, forms of texts.
-/
namespace Go.Proofs.Ytokabkhnidlcnab
set_option maxRecDepth 100000
open Go.RowKit

set_option maxHeartbeats 1000000 in
theorem kindOfByte_any (c : UInt8) (w : World) :
    Calls Try.prog 124 #[.int .u8 (c.toNat : Int)] w fun e w' => e = .returned (.int .i64 (cls c : Int)) ∧ w' = w := by
  have hsg := cls_sg c
  go_enter Try.func124, Try.ntmps124
  go_wp2_with (go_at_call 139; refine (isSign_any _ _).mono ?_; rintro e w' ⟨rfl, hx⟩; obtain rfl := hx.symm)
  all_goals (go_ret; refine ⟨ret_int ?_, rfl⟩; go_light; (try simp only [beq_iff_eq, beq_eq_false_iff_ne, ne_eq] at *); unfold cls; (repeat' split) <;> (try simp_all) <;> (try omega))

/-- A byte goes on with a word. -/
def stays (first : Nat) (c : UInt8) : Bool := decide (cls c = 2 ∨ (cls c = 3 ∧ first = 3))

set_option maxHeartbeats 1000000 in
theorem staysWord_any (first : Nat) (c : UInt8) (w : World) :
    Calls Try.prog 140 #[.int .i64 (first : Int), .int .u8 (c.toNat : Int)] w fun e w' => e = .returned (.bool (stays first c)) ∧ w' = w := by
  by_cases h2 : cls c = 2
  · have HR := hide (show stays first c = true by simp [stays, h2])
    have HC := hide (show (cls c : Int) = 2 by omega)
    clear h2
    go_enter Try.func140, Try.ntmps140
    go_wp2_with (go_at_call 124; refine (kindOfByte_any _ _).mono ?_; rw [unhide HC]; rintro e w' ⟨rfl, hx⟩; obtain rfl := hx.symm)
    go_ret
    exact ⟨ret_bool (unhide HR).symm, rfl⟩
  by_cases h3 : cls c = 3
  · have HC := hide (show (cls c : Int) = 3 by omega)
    by_cases hf : first = 3
    · have HR := hide (show stays first c = true by simp [stays, h3, hf])
      subst hf
      clear h2 h3
      go_enter Try.func140, Try.ntmps140
      go_wp2_with (go_at_call 124; refine (kindOfByte_any _ _).mono ?_; rw [unhide HC]; rintro e w' ⟨rfl, hx⟩; obtain rfl := hx.symm)
      go_ret
      exact ⟨ret_bool (unhide HR).symm, rfl⟩
    · have HR := hide (show stays first c = false by simp [stays, h3, hf])
      have hf' : ((first : Int) == 3) = false := by simp; omega
      clear h2 h3 hf
      go_enter Try.func140, Try.ntmps140
      go_wp2_with (go_at_call 124; refine (kindOfByte_any _ _).mono ?_; rw [unhide HC]; rintro e w' ⟨rfl, hx⟩; obtain rfl := hx.symm)
      go_ret
      exact ⟨ret_bool (unhide HR).symm, rfl⟩
  · have HR := hide (show stays first c = false by simp [stays, h2, h3])
    have h2' : ((cls c : Int) == 2) = false := by simp; omega
    have h3' : ((cls c : Int) == 3) = false := by simp; omega
    clear h2 h3
    go_enter Try.func140, Try.ntmps140
    go_wp2_with (go_at_call 124; refine (kindOfByte_any _ _).mono ?_; rintro e w' ⟨rfl, hx⟩; obtain rfl := hx.symm)
    go_ret
    exact ⟨ret_bool (unhide HR).symm, rfl⟩

theorem loop_ne (t : ByteArray) : ∀ (n i : Nat) (r : List UInt8), n = t.size - i → r ≠ [] → ByteArray.toList.loop t i r ≠ []
  | 0, i, r, h, hr => by
    unfold ByteArray.toList.loop
    rw [if_neg (by omega)]
    simpa using hr
  | n + 1, i, r, h, hr => by
    unfold ByteArray.toList.loop
    rw [if_pos (by omega)]
    exact loop_ne t n (i + 1) _ (by omega) (by simp)

theorem not_empty {t : ByteArray} (h : t.size ≠ 0) : t.toList.isEmpty = false := by
  rw [List.isEmpty_eq_false_iff]
  unfold ByteArray.toList ByteArray.toList.loop
  rw [if_pos (by omega)]
  exact loop_ne t (t.size - 1) 1 _ rfl (by simp)

theorem bytes_nil {t : ByteArray} (h : t.size = 0) : t = ⟨#[]⟩ := by
  obtain ⟨d⟩ := t
  congr 1
  exact Array.eq_empty_of_size_eq_zero h

theorem says_false {p : Prop} (h : ¬ p) : Says false p := ⟨fun e => (by cases e), fun e => absurd e h⟩
theorem says_true {p : Prop} (h : p) : Says true p := ⟨fun _ => h, fun _ => rfl⟩
end Go.Proofs.Ytokabkhnidlcnab

/-
  Words: numbers and names (isWord).
-/
namespace Go.Proofs.Ytokabkhnidlcnab
set_option maxRecDepth 100000
open Go.RowKit

/-- A text of one word. -/
def WordT (first : Nat) (s : ByteArray) : Prop := 1 ≤ s.size ∧ cls (bt s 0) = first ∧ ∀ j, j < s.size → stays first (bt s j) = true

set_option maxHeartbeats 1000000 in
theorem isWord_any (first : Nat) (s : ByteArray) (w : World) (hs : s.size ≤ maxLen) :
    Calls Try.prog 134 #[.int .i64 (first : Int), .string s] w fun e w' => RetB e (WordT first s) ∧ w' = w := by
  unfold maxLen at hs
  by_cases h0 : s.size = 0
  · have HN := hide (show ¬ WordT first s from fun h => by have := h.1; omega)
    obtain rfl := bytes_nil h0
    go_enter Try.func134, Try.ntmps134
    go_wp2_with fail
    go_ret
    exact ⟨⟨_, rfl, says_false (unhide HN)⟩, rfl⟩
  have hne := not_empty h0
  have h0I : (0 : Int) < (s.size : Int) := by omega
  have h0N : 0 < s.size := by omega
  by_cases hc : cls (bt s 0) = first
  case neg =>
    have HN := hide (show ¬ WordT first s from fun h => hc h.2.1)
    have hb := bt_get h0N
    have hc' : ((cls s[0] : Int) != (first : Int)) = true := by rw [hb]; simp; omega
    clear hb
    go_enter Try.func134, Try.ntmps134
    go_wp2_with (go_at_call 124; refine (kindOfByte_any _ _).mono ?_; rintro e w' ⟨rfl, hx⟩; obtain rfl := hx.symm)
    go_ret
    exact ⟨⟨_, rfl, says_false (unhide HN)⟩, rfl⟩
  have HC := hide hc
  have hb := bt_get h0N
  have HX := hide (show (cls s[0] : Int) = (first : Int) by rw [hb]; omega)
  clear hb hc
  go_enter Try.func134, Try.ntmps134
  go_wp2_with (go_at_call 124; refine (kindOfByte_any _ _).mono ?_; rw [unhide HX]; rintro e w' ⟨rfl, hx⟩; obtain rfl := hx.symm)
  go_loop [17] (fun i => ∃ k : Nat, k ≤ s.size ∧ i = .int .i64 (k : Int) ∧ Hid (∀ j, j < k → stays first (bt s j) = true)) (fun i => s.size - (intOf i).toNat)
  case atStart => exact ⟨0, Nat.zero_le _, rfl, hide (fun j h => by omega)⟩
  case round =>
    obtain ⟨k, hk, rfl, hn⟩ := hrel
    by_cases hlt : k < s.size
    · have hltI : (k : Int) < (s.size : Int) := by omega
      cases hb : stays first s[k]
      · have Hb := hide (show stays first (bt s k) = false by rw [← bt_get hlt]; exact hb)
        go_wp2_with (go_at_call 140; refine (staysWord_any _ _ _).mono ?_; rintro e w' ⟨rfl, hx⟩; obtain rfl := hx.symm)
        go_ret
        exact ⟨⟨_, rfl, says_false (fun h => by have := h.2.2 k hlt; rw [unhide Hb] at this; cases this)⟩, rfl⟩
      · have Hb := hide (show stays first (bt s k) = true by rw [← bt_get hlt]; exact hb)
        go_wp2_with (go_at_call 140; refine (staysWord_any _ _ _).mono ?_; rintro e w' ⟨rfl, hx⟩; obtain rfl := hx.symm)
        refine ⟨⟨k + 1, by omega, by go_num, hide (fun j hj => ?_)⟩, by simp [intOf]; omega⟩
        by_cases e : j = k
        · subst e; exact unhide Hb
        · exact (unhide hn) j (by omega)
    · go_wp2_with fail
      go_ret
      exact ⟨⟨_, rfl, says_true ⟨by omega, unhide HC, fun j hj => (unhide hn) j (by omega)⟩⟩, rfl⟩

theorem WordT_2 (s : ByteArray) : WordT 2 s ↔ NumT s := by
  unfold WordT NumT stays
  constructor
  · rintro ⟨h1, h2, h3⟩
    refine ⟨h1, fun j hj => ?_⟩
    have := h3 j hj
    simpa using this
  · rintro ⟨h1, h2⟩
    exact ⟨h1, h2 0 (by omega), fun j hj => by simp [h2 j hj]⟩

theorem WordT_3 (s : ByteArray) : WordT 3 s ↔ NameT s := by
  unfold WordT NameT stays
  constructor
  · rintro ⟨h1, h2, h3⟩
    refine ⟨h1, fun j hj => ?_⟩
    have := h3 j hj
    simp at this
    by_cases e : j = 0
    · subst e; exact Or.inl h2
    · omega
  · rintro ⟨h1, h2⟩
    refine ⟨h1, ?_, fun j hj => ?_⟩
    · have := h2 0 (by omega); omega
    · have := h2 j hj; simp; omega
end Go.Proofs.Ytokabkhnidlcnab
