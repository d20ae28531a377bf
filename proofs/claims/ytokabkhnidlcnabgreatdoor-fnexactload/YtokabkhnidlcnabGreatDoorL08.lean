import Derived.Test.YtokabkhnidlcnabGreatDoorL04
import Derived.Test.YtokabkhnidlcnabGreatDoorL07

/-
  Walks: the program's kinds of bytes.
-/
namespace Go.Proofs.YtokabkhnidlcnabGreatDoor
set_option maxRecDepth 100000
open Go.RowKit

set_option maxHeartbeats 1000000 in
theorem kindOfByte_any (c : UInt8) (w : World) :
    Calls Tryz.prog 65 #[.int .u8 (c.toNat : Int)] w fun e w' => e = .returned (.int .i64 (cls c : Int)) ∧ w' = w := by
  have hsg := cls_sg c
  go_enter Tryz.func65, Tryz.ntmps65
  go_wp2_with (go_at_call 72; refine (isSign_any _ _).mono ?_; rintro e w' ⟨rfl, hx⟩; obtain rfl := hx.symm)
  all_goals (go_ret; refine ⟨ret_int ?_, rfl⟩; go_light; (try simp only [beq_iff_eq, beq_eq_false_iff_ne, ne_eq] at *); unfold cls; (repeat' split) <;> (try simp_all) <;> (try omega))

/-- A byte goes on with a word. -/
def stays (first : Nat) (c : UInt8) : Bool := decide (cls c = 2 ∨ (cls c = 3 ∧ first = 3))

set_option maxHeartbeats 1000000 in
theorem staysWord_any (first : Nat) (c : UInt8) (w : World) :
    Calls Tryz.prog 66 #[.int .i64 (first : Int), .int .u8 (c.toNat : Int)] w fun e w' => e = .returned (.bool (stays first c)) ∧ w' = w := by
  by_cases h2 : cls c = 2
  · have HR := hide (show stays first c = true by simp [stays, h2])
    have HC := hide (show (cls c : Int) = 2 by omega)
    clear h2
    go_enter Tryz.func66, Tryz.ntmps66
    go_wp2_with (go_at_call 65; refine (kindOfByte_any _ _).mono ?_; rw [unhide HC]; rintro e w' ⟨rfl, hx⟩; obtain rfl := hx.symm)
    go_ret
    exact ⟨ret_bool (unhide HR).symm, rfl⟩
  by_cases h3 : cls c = 3
  · have HC := hide (show (cls c : Int) = 3 by omega)
    by_cases hf : first = 3
    · have HR := hide (show stays first c = true by simp [stays, h3, hf])
      subst hf
      clear h2 h3
      go_enter Tryz.func66, Tryz.ntmps66
      go_wp2_with (go_at_call 65; refine (kindOfByte_any _ _).mono ?_; rw [unhide HC]; rintro e w' ⟨rfl, hx⟩; obtain rfl := hx.symm)
      go_ret
      exact ⟨ret_bool (unhide HR).symm, rfl⟩
    · have HR := hide (show stays first c = false by simp [stays, h3, hf])
      have hf' : ((first : Int) == 3) = false := by simp; omega
      clear h2 h3 hf
      go_enter Tryz.func66, Tryz.ntmps66
      go_wp2_with (go_at_call 65; refine (kindOfByte_any _ _).mono ?_; rw [unhide HC]; rintro e w' ⟨rfl, hx⟩; obtain rfl := hx.symm)
      go_ret
      exact ⟨ret_bool (unhide HR).symm, rfl⟩
  · have HR := hide (show stays first c = false by simp [stays, h2, h3])
    have h2' : ((cls c : Int) == 2) = false := by simp; omega
    have h3' : ((cls c : Int) == 3) = false := by simp; omega
    clear h2 h3
    go_enter Tryz.func66, Tryz.ntmps66
    go_wp2_with (go_at_call 65; refine (kindOfByte_any _ _).mono ?_; rintro e w' ⟨rfl, hx⟩; obtain rfl := hx.symm)
    go_ret
    exact ⟨ret_bool (unhide HR).symm, rfl⟩

theorem loop_ne (t : ByteArray) : ∀ (n i : Nat) (r : List UInt8), n = t.size - i → r ≠ [] → ByteArray.toList.loop t i r ≠ []
  | 0, i, r, h, hr => by
    unfold ByteArray.toList.loop
    rw [if_neg (by omega)]
    simpa using hr
  | n + 1, i, r, h, hr => by
    unfold ByteArray.toList.loop
    rw [if_pos (by omega)]
    exact loop_ne t n (i + 1) _ (by omega) (by simp)

theorem not_empty {t : ByteArray} (h : t.size ≠ 0) : t.toList.isEmpty = false := by
  rw [List.isEmpty_eq_false_iff]
  unfold ByteArray.toList ByteArray.toList.loop
  rw [if_pos (by omega)]
  exact loop_ne t (t.size - 1) 1 _ rfl (by simp)

theorem bytes_nil {t : ByteArray} (h : t.size = 0) : t = ⟨#[]⟩ := by
  obtain ⟨d⟩ := t
  congr 1
  exact Array.eq_empty_of_size_eq_zero h

theorem says_false {p : Prop} (h : ¬ p) : Says false p := ⟨fun e => (by cases e), fun e => absurd e h⟩
theorem says_true {p : Prop} (h : p) : Says true p := ⟨fun _ => h, fun _ => rfl⟩
end Go.Proofs.YtokabkhnidlcnabGreatDoor

/-
  Words: numbers and names (isWord).
-/
namespace Go.Proofs.YtokabkhnidlcnabGreatDoor
set_option maxRecDepth 100000
open Go.RowKit

/-- A text of one word. -/
def WordT (first : Nat) (s : ByteArray) : Prop := 1 ≤ s.size ∧ cls (bt s 0) = first ∧ ∀ j, j < s.size → stays first (bt s j) = true

set_option maxHeartbeats 1000000 in
theorem isWord_any (first : Nat) (s : ByteArray) (w : World) (hs : s.size ≤ maxLen) :
    Calls Tryz.prog 53 #[.int .i64 (first : Int), .string s] w fun e w' => RetB e (WordT first s) ∧ w' = w := by
  unfold maxLen at hs
  by_cases h0 : s.size = 0
  · have HN := hide (show ¬ WordT first s from fun h => by have := h.1; omega)
    obtain rfl := bytes_nil h0
    go_enter Tryz.func53, Tryz.ntmps53
    go_wp2_with fail
    go_ret
    exact ⟨⟨_, rfl, says_false (unhide HN)⟩, rfl⟩
  have hne := not_empty h0
  have h0I : (0 : Int) < (s.size : Int) := by omega
  have h0N : 0 < s.size := by omega
  by_cases hc : cls (bt s 0) = first
  case neg =>
    have HN := hide (show ¬ WordT first s from fun h => hc h.2.1)
    have hb := bt_get h0N
    have hc' : ((cls s[0] : Int) != (first : Int)) = true := by rw [hb]; simp; omega
    clear hb
    go_enter Tryz.func53, Tryz.ntmps53
    go_wp2_with (go_at_call 65; refine (kindOfByte_any _ _).mono ?_; rintro e w' ⟨rfl, hx⟩; obtain rfl := hx.symm)
    go_ret
    exact ⟨⟨_, rfl, says_false (unhide HN)⟩, rfl⟩
  have HC := hide hc
  have hb := bt_get h0N
  have HX := hide (show (cls s[0] : Int) = (first : Int) by rw [hb]; omega)
  clear hb hc
  go_enter Tryz.func53, Tryz.ntmps53
  go_wp2_with (go_at_call 65; refine (kindOfByte_any _ _).mono ?_; rw [unhide HX]; rintro e w' ⟨rfl, hx⟩; obtain rfl := hx.symm)
  go_loop [17] (fun i => ∃ k : Nat, k ≤ s.size ∧ i = .int .i64 (k : Int) ∧ Hid (∀ j, j < k → stays first (bt s j) = true)) (fun i => s.size - (intOf i).toNat)
  case atStart => exact ⟨0, Nat.zero_le _, rfl, hide (fun j h => by omega)⟩
  case round =>
    obtain ⟨k, hk, rfl, hn⟩ := hrel
    by_cases hlt : k < s.size
    · have hltI : (k : Int) < (s.size : Int) := by omega
      cases hb : stays first s[k]
      · have Hb := hide (show stays first (bt s k) = false by rw [← bt_get hlt]; exact hb)
        go_wp2_with (go_at_call 66; refine (staysWord_any _ _ _).mono ?_; rintro e w' ⟨rfl, hx⟩; obtain rfl := hx.symm)
        go_ret
        exact ⟨⟨_, rfl, says_false (fun h => by have := h.2.2 k hlt; rw [unhide Hb] at this; cases this)⟩, rfl⟩
      · have Hb := hide (show stays first (bt s k) = true by rw [← bt_get hlt]; exact hb)
        go_wp2_with (go_at_call 66; refine (staysWord_any _ _ _).mono ?_; rintro e w' ⟨rfl, hx⟩; obtain rfl := hx.symm)
        refine ⟨⟨k + 1, by omega, by go_num, hide (fun j hj => ?_)⟩, by simp [intOf]; omega⟩
        by_cases e : j = k
        · subst e; exact unhide Hb
        · exact (unhide hn) j (by omega)
    · go_wp2_with fail
      go_ret
      exact ⟨⟨_, rfl, says_true ⟨by omega, unhide HC, fun j hj => (unhide hn) j (by omega)⟩⟩, rfl⟩

theorem WordT_2 (s : ByteArray) : WordT 2 s ↔ NumT s := by
  unfold WordT NumT stays
  constructor
  · rintro ⟨h1, h2, h3⟩
    refine ⟨h1, fun j hj => ?_⟩
    have := h3 j hj
    simpa using this
  · rintro ⟨h1, h2⟩
    exact ⟨h1, h2 0 (by omega), fun j hj => by simp [h2 j hj]⟩

theorem WordT_3 (s : ByteArray) : WordT 3 s ↔ NameT s := by
  unfold WordT NameT stays
  constructor
  · rintro ⟨h1, h2, h3⟩
    refine ⟨h1, fun j hj => ?_⟩
    have := h3 j hj
    simp at this
    by_cases e : j = 0
    · subst e; exact Or.inl h2
    · omega
  · rintro ⟨h1, h2⟩
    refine ⟨h1, ?_, fun j hj => ?_⟩
    · have := h2 0 (by omega); omega
    · have := h2 j hj; simp; omega
end Go.Proofs.YtokabkhnidlcnabGreatDoor

/-
  Walks: the words of a header: kinds, sides, levels, in both texts.
-/
namespace Go.Proofs.YtokabkhnidlcnabGreatDoor
set_option maxRecDepth 100000
set_option linter.unusedSimpArgs false
set_option linter.unusedVariables false
open Go.RowKit

theorem lit_true {t : ByteArray} {l : List UInt8} (h : (t.toList == l) = true) : t = ⟨l.toArray⟩ := by
  have h : t.toList = l := by simpa using h
  rw [ByteArray.toList_eq] at h
  obtain ⟨d⟩ := t
  subst h
  simp
theorem lit_false {t : ByteArray} {l : List UInt8} (h : (t.toList == l) = false) : t ≠ ⟨l.toArray⟩ := fun e => by
  subst e
  simp [ByteArray.toList_eq] at h
theorem lit_yes {t : ByteArray} {l : List UInt8} (h : t = ⟨l.toArray⟩) : (t.toList == l) = true := by
  cases e : (t.toList == l)
  · exact absurd h (lit_false e)
  · rfl
theorem lit_no {t : ByteArray} {l : List UInt8} (h : t ≠ ⟨l.toArray⟩) : (t.toList == l) = false := by
  cases e : (t.toList == l)
  · rfl
  · exact absurd (lit_true e) h

/-- The kind that a word says. -/
def kindW (w : ByteArray) : Int := if w = wPrefix then 1 else if w = wInfix then 2 else if w = wPostfix then 3 else 0

theorem l5Side_any (t : ByteArray) (w : World) :
    Calls Tryz.prog 47 #[.string t] w fun e w' => e = .returned (.int .i64 (sideW t)) ∧ w' = w := by
  cases q1 : (t.toList == [108, 101, 102, 116])
  · cases q2 : (t.toList == [114, 105, 103, 104, 116])
    · cases q3 : (t.toList == [110, 111, 110, 101])
      · have HR := hide (show sideW t = 0 by unfold sideW wLeft wRight wNone; rw [if_neg (lit_false q1), if_neg (lit_false q2), if_neg (lit_false q3)])
        go_enter Tryz.func47, Tryz.ntmps47
        go_wp2
        go_ret
        exact ⟨ret_int (unhide HR).symm, rfl⟩
      · have HR := hide (show sideW t = 3 by unfold sideW wLeft wRight wNone; rw [if_neg (lit_false q1), if_neg (lit_false q2), if_pos (lit_true q3)])
        go_enter Tryz.func47, Tryz.ntmps47
        go_wp2
        go_ret
        exact ⟨ret_int (unhide HR).symm, rfl⟩
    · have HR := hide (show sideW t = 2 by unfold sideW wLeft wRight wNone; rw [if_neg (lit_false q1), if_pos (lit_true q2)])
      go_enter Tryz.func47, Tryz.ntmps47
      go_wp2
      go_ret
      exact ⟨ret_int (unhide HR).symm, rfl⟩
  · have HR := hide (show sideW t = 1 by unfold sideW wLeft wRight wNone; rw [if_pos (lit_true q1)])
    go_enter Tryz.func47, Tryz.ntmps47
    go_wp2
    go_ret
    exact ⟨ret_int (unhide HR).symm, rfl⟩

theorem sideOfWord_any (t : ByteArray) (w : World) :
    Calls Tryz.prog 82 #[.string t] w fun e w' => e = .returned (.int .i64 (sideW t)) ∧ w' = w := by
  cases q1 : (t.toList == [108, 101, 102, 116])
  · cases q2 : (t.toList == [114, 105, 103, 104, 116])
    · cases q3 : (t.toList == [110, 111, 110, 101])
      · have HR := hide (show sideW t = 0 by unfold sideW wLeft wRight wNone; rw [if_neg (lit_false q1), if_neg (lit_false q2), if_neg (lit_false q3)])
        go_enter Tryz.func82, Tryz.ntmps82
        go_wp2
        go_ret
        exact ⟨ret_int (unhide HR).symm, rfl⟩
      · have HR := hide (show sideW t = 3 by unfold sideW wLeft wRight wNone; rw [if_neg (lit_false q1), if_neg (lit_false q2), if_pos (lit_true q3)])
        go_enter Tryz.func82, Tryz.ntmps82
        go_wp2
        go_ret
        exact ⟨ret_int (unhide HR).symm, rfl⟩
    · have HR := hide (show sideW t = 2 by unfold sideW wLeft wRight wNone; rw [if_neg (lit_false q1), if_pos (lit_true q2)])
      go_enter Tryz.func82, Tryz.ntmps82
      go_wp2
      go_ret
      exact ⟨ret_int (unhide HR).symm, rfl⟩
  · have HR := hide (show sideW t = 1 by unfold sideW wLeft wRight wNone; rw [if_pos (lit_true q1)])
    go_enter Tryz.func82, Tryz.ntmps82
    go_wp2
    go_ret
    exact ⟨ret_int (unhide HR).symm, rfl⟩

theorem kindOfWord_any (t : ByteArray) (w : World) :
    Calls Tryz.prog 81 #[.string t] w fun e w' => e = .returned (.int .i64 (kindW t)) ∧ w' = w := by
  cases q1 : (t.toList == [112, 114, 101, 102, 105, 120])
  · cases q2 : (t.toList == [105, 110, 102, 105, 120])
    · cases q3 : (t.toList == [112, 111, 115, 116, 102, 105, 120])
      · have HR := hide (show kindW t = 0 by unfold kindW wPrefix wInfix wPostfix; rw [if_neg (lit_false q1), if_neg (lit_false q2), if_neg (lit_false q3)])
        go_enter Tryz.func81, Tryz.ntmps81
        go_wp2
        go_ret
        exact ⟨ret_int (unhide HR).symm, rfl⟩
      · have HR := hide (show kindW t = 3 by unfold kindW wPrefix wInfix wPostfix; rw [if_neg (lit_false q1), if_neg (lit_false q2), if_pos (lit_true q3)])
        go_enter Tryz.func81, Tryz.ntmps81
        go_wp2
        go_ret
        exact ⟨ret_int (unhide HR).symm, rfl⟩
    · have HR := hide (show kindW t = 2 by unfold kindW wPrefix wInfix wPostfix; rw [if_neg (lit_false q1), if_pos (lit_true q2)])
      go_enter Tryz.func81, Tryz.ntmps81
      go_wp2
      go_ret
      exact ⟨ret_int (unhide HR).symm, rfl⟩
  · have HR := hide (show kindW t = 1 by unfold kindW wPrefix wInfix wPostfix; rw [if_pos (lit_true q1)])
    go_enter Tryz.func81, Tryz.ntmps81
    go_wp2
    go_ret
    exact ⟨ret_int (unhide HR).symm, rfl⟩

/-- A word of 1 to 6 digits, as a Bool. -/
def levB (t : ByteArray) : Bool := decide (t.size ≤ 6) && numB t
/-- What a level's word says. -/
def levI (t : ByteArray) : Int := if levB t = true then (valTo t t.size : Int) else -1

theorem levB_iff (t : ByteArray) : levB t = true ↔ LevW t := by
  unfold levB LevW
  rw [Bool.and_eq_true, numB_iff, decide_eq_true_iff]
  unfold NumT
  constructor
  · rintro ⟨h1, h2, h3⟩
    exact ⟨h2, h1, fun i hi => (cls_dig _).1 (h3 i hi)⟩
  · rintro ⟨h1, h2, h3⟩
    exact ⟨h2, h1, fun i hi => (cls_dig _).2 (h3 i hi)⟩

theorem isLevelWord_any (t : ByteArray) (w : World) (hs : t.size ≤ maxLen) :
    Calls Tryz.prog 79 #[.string t] w fun e w' => e = .returned (.bool (levB t)) ∧ w' = w := by
  by_cases h6 : t.size ≤ 6
  · have h6I : (t.size : Int) ≤ 6 := by omega
    have HE := hide (show ∀ v, Says v (WordT 2 t) → v = levB t from fun v hv => by
      have : (v = true ↔ levB t = true) := by
        rw [levB_iff]
        unfold Says at hv
        rw [hv, WordT_2]
        unfold NumT LevW
        constructor
        · rintro ⟨a, b⟩; exact ⟨a, h6, fun i hi => (cls_dig _).1 (b i hi)⟩
        · rintro ⟨a, _, b⟩; exact ⟨a, fun i hi => (cls_dig _).2 (b i hi)⟩
      exact Bool.eq_iff_iff.2 this)
    go_enter Tryz.func79, Tryz.ntmps79
    go_wp2_with (go_at_call 53; refine (isWord_any 2 _ _ hs).mono ?_; rintro e w' ⟨⟨v, rfl, hv⟩, hx⟩; obtain rfl := hx.symm; have HV := hide hv; clear hv)
    go_ret
    exact ⟨ret_bool ((unhide HE) _ (unhide HV)), rfl⟩
  · have h6I : ¬ (t.size : Int) ≤ 6 := by omega
    have HE := hide (show levB t = false by unfold levB; simp [h6])
    unfold maxLen at hs
    go_enter Tryz.func79, Tryz.ntmps79
    go_wp2
    go_ret
    exact ⟨ret_bool (unhide HE).symm, rfl⟩

set_option maxHeartbeats 1000000 in
theorem l5Level_any (t : ByteArray) (w : World) (hs : t.size ≤ maxLen) :
    Calls Tryz.prog 46 #[.string t] w fun e w' => e = .returned (.int .i64 (levI t)) ∧ w' = w := by
  by_cases hn : NumT t
  case neg =>
    have HR := hide (show levI t = -1 by
      unfold levI
      rw [if_neg]
      rw [levB_iff]
      exact fun h => hn ⟨h.1, fun i hi => (cls_dig _).2 (h.2.2 i hi)⟩)
    have HN := hide hn
    clear hn
    go_enter Tryz.func46, Tryz.ntmps46
    go_wp2_with (go_at_call 60; refine (l2IsNumber_any _ _ hs).mono ?_; rintro e w' ⟨⟨v, rfl, hv⟩, hx⟩; obtain rfl := hx.symm; obtain rfl : v = false := (by cases v; rfl; exact absurd (hv.1 rfl) (unhide HN)); clear hv)
    go_ret
    exact ⟨ret_int (unhide HR).symm, rfl⟩
  by_cases h6 : t.size ≤ 6
  case neg =>
    have h6I : (6 : Int) < (t.size : Int) := by omega
    have HR := hide (show levI t = -1 by
      unfold levI levB
      simp [h6])
    have HN := hide hn
    have hs2 := hs
    unfold maxLen at hs2
    clear hn
    go_enter Tryz.func46, Tryz.ntmps46
    go_wp2_with (go_at_call 60; refine (l2IsNumber_any _ _ hs).mono ?_; rintro e w' ⟨⟨v, rfl, hv⟩, hx⟩; obtain rfl := hx.symm; obtain rfl : v = true := (by cases v; exact (hv.2 (unhide HN)); rfl); clear hv)
    go_ret
    exact ⟨ret_int (unhide HR).symm, rfl⟩
  have h6I : (t.size : Int) ≤ 6 := by omega
  have hdig : ∀ i, i < t.size → 48 ≤ (bt t i).toNat ∧ (bt t i).toNat ≤ 57 := fun i hi => (cls_dig _).1 (hn.2 i hi)
  have hval : ∀ k, k ≤ t.size → valTo t k < 1000000 := fun k hk => by
    have h := valTo_le t hdig k hk
    have h2 : 10 ^ k ≤ 10 ^ 6 := Nat.pow_le_pow_right (by decide) (by omega)
    omega
  have HR := hide (show levI t = (valTo t t.size : Int) by
    unfold levI
    rw [if_pos]
    rw [levB_iff]
    exact ⟨hn.1, h6, hdig⟩)
  have HD := hide hdig
  have HV := hide hval
  have HN := hide hn
  clear hn hdig hval
  go_enter Tryz.func46, Tryz.ntmps46
  go_wp2_with (go_at_call 60; refine (l2IsNumber_any _ _ hs).mono ?_; rintro e w' ⟨⟨v, rfl, hv⟩, hx⟩; obtain rfl := hx.symm; obtain rfl : v = true := (by cases v; exact (hv.2 (unhide HN)); rfl); clear hv)
  go_loop [3, 4] (fun x i => ∃ k : Nat, k ≤ t.size ∧ i = .int .i64 (k : Int) ∧ x = .int .i64 (valTo t k : Int)) (fun _ i => t.size - (intOf i).toNat)
  case atStart => exact ⟨0, Nat.zero_le _, rfl, rfl⟩
  case round =>
    obtain ⟨k, hk, rfl, rfl⟩ := hrel
    by_cases hlt : k < t.size
    · have hltI : (k : Int) < (t.size : Int) := by omega
      have h1 := (unhide HV) k hk
      obtain ⟨d1, d2⟩ := (unhide HD) k hlt
      have hb := bt_get hlt
      rw [← hb] at d1 d2
      have HB := hide hb
      have d1I : (48 : Int) ≤ (t[k].toNat : Int) := by omega
      have d2I : (t[k].toNat : Int) ≤ 57 := by omega
      have h1I : (valTo t k : Int) < 1000000 := by omega
      have h0I : (0 : Int) ≤ (valTo t k : Int) := by omega
      clear hb
      go_wp2
      refine ⟨⟨k + 1, by omega, by go_num, ?_⟩, by simp [intOf]; omega⟩
      simp only [valTo]
      rw [← unhide HB]
      go_num
    · have HK := hide (show k = t.size by omega)
      go_wp2
      go_ret
      exact ⟨ret_int (by rw [unhide HR, unhide HK]), rfl⟩
end Go.Proofs.YtokabkhnidlcnabGreatDoor
