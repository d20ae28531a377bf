/-
  Walks: the words of a header: kinds, sides, levels, in both texts.
-/
import Derived.Test.YtokabkhnidlcnabDoorUnitB
import Derived.Test.YtokabkhnidlcnabDoorKindWE
namespace Go.Proofs.YtokabkhnidlcnabDoor
set_option maxRecDepth 100000
set_option linter.unusedSimpArgs false
set_option linter.unusedVariables false
open Go.RowKit

theorem lit_true {t : ByteArray} {l : List UInt8} (h : (t.toList == l) = true) : t = ⟨l.toArray⟩ := by
  have h : t.toList = l := by simpa using h
  rw [ByteArray.toList_eq] at h
  obtain ⟨d⟩ := t
  subst h
  simp
theorem lit_false {t : ByteArray} {l : List UInt8} (h : (t.toList == l) = false) : t ≠ ⟨l.toArray⟩ := fun e => by
  subst e
  simp [ByteArray.toList_eq] at h
theorem lit_yes {t : ByteArray} {l : List UInt8} (h : t = ⟨l.toArray⟩) : (t.toList == l) = true := by
  cases e : (t.toList == l)
  · exact absurd h (lit_false e)
  · rfl
theorem lit_no {t : ByteArray} {l : List UInt8} (h : t ≠ ⟨l.toArray⟩) : (t.toList == l) = false := by
  cases e : (t.toList == l)
  · rfl
  · exact absurd (lit_true e) h

/-- The kind that a word says. -/
def kindW (w : ByteArray) : Int := if w = wPrefix then 1 else if w = wInfix then 2 else if w = wPostfix then 3 else 0

theorem l5Side_any (t : ByteArray) (w : World) :
    Calls Tryd.prog 23 #[.string t] w fun e w' => e = .returned (.int .i64 (sideW t)) ∧ w' = w := by
  cases q1 : (t.toList == [108, 101, 102, 116])
  · cases q2 : (t.toList == [114, 105, 103, 104, 116])
    · cases q3 : (t.toList == [110, 111, 110, 101])
      · have HR := hide (show sideW t = 0 by unfold sideW wLeft wRight wNone; rw [if_neg (lit_false q1), if_neg (lit_false q2), if_neg (lit_false q3)])
        go_enter Tryd.func23, Tryd.ntmps23
        go_wp2
        go_ret
        exact ⟨ret_int (unhide HR).symm, rfl⟩
      · have HR := hide (show sideW t = 3 by unfold sideW wLeft wRight wNone; rw [if_neg (lit_false q1), if_neg (lit_false q2), if_pos (lit_true q3)])
        go_enter Tryd.func23, Tryd.ntmps23
        go_wp2
        go_ret
        exact ⟨ret_int (unhide HR).symm, rfl⟩
    · have HR := hide (show sideW t = 2 by unfold sideW wLeft wRight wNone; rw [if_neg (lit_false q1), if_pos (lit_true q2)])
      go_enter Tryd.func23, Tryd.ntmps23
      go_wp2
      go_ret
      exact ⟨ret_int (unhide HR).symm, rfl⟩
  · have HR := hide (show sideW t = 1 by unfold sideW wLeft wRight wNone; rw [if_pos (lit_true q1)])
    go_enter Tryd.func23, Tryd.ntmps23
    go_wp2
    go_ret
    exact ⟨ret_int (unhide HR).symm, rfl⟩

theorem sideOfWord_any (t : ByteArray) (w : World) :
    Calls Tryd.prog 35 #[.string t] w fun e w' => e = .returned (.int .i64 (sideW t)) ∧ w' = w := by
  cases q1 : (t.toList == [108, 101, 102, 116])
  · cases q2 : (t.toList == [114, 105, 103, 104, 116])
    · cases q3 : (t.toList == [110, 111, 110, 101])
      · have HR := hide (show sideW t = 0 by unfold sideW wLeft wRight wNone; rw [if_neg (lit_false q1), if_neg (lit_false q2), if_neg (lit_false q3)])
        go_enter Tryd.func35, Tryd.ntmps35
        go_wp2
        go_ret
        exact ⟨ret_int (unhide HR).symm, rfl⟩
      · have HR := hide (show sideW t = 3 by unfold sideW wLeft wRight wNone; rw [if_neg (lit_false q1), if_neg (lit_false q2), if_pos (lit_true q3)])
        go_enter Tryd.func35, Tryd.ntmps35
        go_wp2
        go_ret
        exact ⟨ret_int (unhide HR).symm, rfl⟩
    · have HR := hide (show sideW t = 2 by unfold sideW wLeft wRight wNone; rw [if_neg (lit_false q1), if_pos (lit_true q2)])
      go_enter Tryd.func35, Tryd.ntmps35
      go_wp2
      go_ret
      exact ⟨ret_int (unhide HR).symm, rfl⟩
  · have HR := hide (show sideW t = 1 by unfold sideW wLeft wRight wNone; rw [if_pos (lit_true q1)])
    go_enter Tryd.func35, Tryd.ntmps35
    go_wp2
    go_ret
    exact ⟨ret_int (unhide HR).symm, rfl⟩

theorem kindOfWord_any (t : ByteArray) (w : World) :
    Calls Tryd.prog 34 #[.string t] w fun e w' => e = .returned (.int .i64 (kindW t)) ∧ w' = w := by
  cases q1 : (t.toList == [112, 114, 101, 102, 105, 120])
  · cases q2 : (t.toList == [105, 110, 102, 105, 120])
    · cases q3 : (t.toList == [112, 111, 115, 116, 102, 105, 120])
      · have HR := hide (show kindW t = 0 by unfold kindW wPrefix wInfix wPostfix; rw [if_neg (lit_false q1), if_neg (lit_false q2), if_neg (lit_false q3)])
        go_enter Tryd.func34, Tryd.ntmps34
        go_wp2
        go_ret
        exact ⟨ret_int (unhide HR).symm, rfl⟩
      · have HR := hide (show kindW t = 3 by unfold kindW wPrefix wInfix wPostfix; rw [if_neg (lit_false q1), if_neg (lit_false q2), if_pos (lit_true q3)])
        go_enter Tryd.func34, Tryd.ntmps34
        go_wp2
        go_ret
        exact ⟨ret_int (unhide HR).symm, rfl⟩
    · have HR := hide (show kindW t = 2 by unfold kindW wPrefix wInfix wPostfix; rw [if_neg (lit_false q1), if_pos (lit_true q2)])
      go_enter Tryd.func34, Tryd.ntmps34
      go_wp2
      go_ret
      exact ⟨ret_int (unhide HR).symm, rfl⟩
  · have HR := hide (show kindW t = 1 by unfold kindW wPrefix wInfix wPostfix; rw [if_pos (lit_true q1)])
    go_enter Tryd.func34, Tryd.ntmps34
    go_wp2
    go_ret
    exact ⟨ret_int (unhide HR).symm, rfl⟩

/-- A word of 1 to 6 digits, as a Bool. -/
def levB (t : ByteArray) : Bool := decide (t.size ≤ 6) && numB t
/-- What a level's word says. -/
def levI (t : ByteArray) : Int := if levB t = true then (valTo t t.size : Int) else -1

theorem levB_iff (t : ByteArray) : levB t = true ↔ LevW t := by
  unfold levB LevW
  rw [Bool.and_eq_true, numB_iff, decide_eq_true_iff]
  unfold NumT
  constructor
  · rintro ⟨h1, h2, h3⟩
    exact ⟨h2, h1, fun i hi => (cls_dig _).1 (h3 i hi)⟩
  · rintro ⟨h1, h2, h3⟩
    exact ⟨h2, h1, fun i hi => (cls_dig _).2 (h3 i hi)⟩

theorem isLevelWord_any (t : ByteArray) (w : World) (hs : t.size ≤ maxLen) :
    Calls Tryd.prog 32 #[.string t] w fun e w' => e = .returned (.bool (levB t)) ∧ w' = w := by
  by_cases h6 : t.size ≤ 6
  · have h6I : (t.size : Int) ≤ 6 := by omega
    have HE := hide (show ∀ v, Says v (WordT 2 t) → v = levB t from fun v hv => by
      have : (v = true ↔ levB t = true) := by
        rw [levB_iff]
        unfold Says at hv
        rw [hv, WordT_2]
        unfold NumT LevW
        constructor
        · rintro ⟨a, b⟩; exact ⟨a, h6, fun i hi => (cls_dig _).1 (b i hi)⟩
        · rintro ⟨a, _, b⟩; exact ⟨a, fun i hi => (cls_dig _).2 (b i hi)⟩
      exact Bool.eq_iff_iff.2 this)
    go_enter Tryd.func32, Tryd.ntmps32
    go_wp2_with (go_at_call 44; refine (isWord_any 2 _ _ hs).mono ?_; rintro e w' ⟨⟨v, rfl, hv⟩, hx⟩; obtain rfl := hx.symm; have HV := hide hv; clear hv)
    go_ret
    exact ⟨ret_bool ((unhide HE) _ (unhide HV)), rfl⟩
  · have h6I : ¬ (t.size : Int) ≤ 6 := by omega
    have HE := hide (show levB t = false by unfold levB; simp [h6])
    unfold maxLen at hs
    go_enter Tryd.func32, Tryd.ntmps32
    go_wp2
    go_ret
    exact ⟨ret_bool (unhide HE).symm, rfl⟩

set_option maxHeartbeats 1000000 in
theorem l5Level_any (t : ByteArray) (w : World) (hs : t.size ≤ maxLen) :
    Calls Tryd.prog 22 #[.string t] w fun e w' => e = .returned (.int .i64 (levI t)) ∧ w' = w := by
  by_cases hn : NumT t
  case neg =>
    have HR := hide (show levI t = -1 by
      unfold levI
      rw [if_neg]
      rw [levB_iff]
      exact fun h => hn ⟨h.1, fun i hi => (cls_dig _).2 (h.2.2 i hi)⟩)
    have HN := hide hn
    clear hn
    go_enter Tryd.func22, Tryd.ntmps22
    go_wp2_with (go_at_call 29; refine (l2IsNumber_any _ _ hs).mono ?_; rintro e w' ⟨⟨v, rfl, hv⟩, hx⟩; obtain rfl := hx.symm; obtain rfl : v = false := (by cases v; rfl; exact absurd (hv.1 rfl) (unhide HN)); clear hv)
    go_ret
    exact ⟨ret_int (unhide HR).symm, rfl⟩
  by_cases h6 : t.size ≤ 6
  case neg =>
    have h6I : (6 : Int) < (t.size : Int) := by omega
    have HR := hide (show levI t = -1 by
      unfold levI levB
      simp [h6])
    have HN := hide hn
    have hs2 := hs
    unfold maxLen at hs2
    clear hn
    go_enter Tryd.func22, Tryd.ntmps22
    go_wp2_with (go_at_call 29; refine (l2IsNumber_any _ _ hs).mono ?_; rintro e w' ⟨⟨v, rfl, hv⟩, hx⟩; obtain rfl := hx.symm; obtain rfl : v = true := (by cases v; exact (hv.2 (unhide HN)); rfl); clear hv)
    go_ret
    exact ⟨ret_int (unhide HR).symm, rfl⟩
  have h6I : (t.size : Int) ≤ 6 := by omega
  have hdig : ∀ i, i < t.size → 48 ≤ (bt t i).toNat ∧ (bt t i).toNat ≤ 57 := fun i hi => (cls_dig _).1 (hn.2 i hi)
  have hval : ∀ k, k ≤ t.size → valTo t k < 1000000 := fun k hk => by
    have h := valTo_le t hdig k hk
    have h2 : 10 ^ k ≤ 10 ^ 6 := Nat.pow_le_pow_right (by decide) (by omega)
    omega
  have HR := hide (show levI t = (valTo t t.size : Int) by
    unfold levI
    rw [if_pos]
    rw [levB_iff]
    exact ⟨hn.1, h6, hdig⟩)
  have HD := hide hdig
  have HV := hide hval
  have HN := hide hn
  clear hn hdig hval
  go_enter Tryd.func22, Tryd.ntmps22
  go_wp2_with (go_at_call 29; refine (l2IsNumber_any _ _ hs).mono ?_; rintro e w' ⟨⟨v, rfl, hv⟩, hx⟩; obtain rfl := hx.symm; obtain rfl : v = true := (by cases v; exact (hv.2 (unhide HN)); rfl); clear hv)
  go_loop [3, 4] (fun x i => ∃ k : Nat, k ≤ t.size ∧ i = .int .i64 (k : Int) ∧ x = .int .i64 (valTo t k : Int)) (fun _ i => t.size - (intOf i).toNat)
  case atStart => exact ⟨0, Nat.zero_le _, rfl, rfl⟩
  case round =>
    obtain ⟨k, hk, rfl, rfl⟩ := hrel
    by_cases hlt : k < t.size
    · have hltI : (k : Int) < (t.size : Int) := by omega
      have h1 := (unhide HV) k hk
      obtain ⟨d1, d2⟩ := (unhide HD) k hlt
      have hb := bt_get hlt
      rw [← hb] at d1 d2
      have HB := hide hb
      have d1I : (48 : Int) ≤ (t[k].toNat : Int) := by omega
      have d2I : (t[k].toNat : Int) ≤ 57 := by omega
      have h1I : (valTo t k : Int) < 1000000 := by omega
      have h0I : (0 : Int) ≤ (valTo t k : Int) := by omega
      clear hb
      go_wp2
      refine ⟨⟨k + 1, by omega, by go_num, ?_⟩, by simp [intOf]; omega⟩
      simp only [valTo]
      rw [← unhide HB]
      go_num
    · have HK := hide (show k = t.size by omega)
      go_wp2
      go_ret
      exact ⟨ret_int (by rw [unhide HR, unhide HK]), rfl⟩
end Go.Proofs.YtokabkhnidlcnabDoor
