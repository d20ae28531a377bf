import Derived.Test.YtokabkhnidlcnaaL03
import Derived.Test.YtokabkhnidlcnaaL12
import Derived.Test.YtokabkhnidlcnaaL13

/-
  The text of a text's tokens is the text.
-/
namespace Go.Proofs.Ytokabkhnidlcnaa
set_option maxRecDepth 100000
set_option linter.unusedSimpArgs false
set_option linter.unusedVariables false
open Go.RowKit

def rendL (us : List TokR) : List UInt8 := us.flatMap fun t => t.g.data.toList ++ t.t.data.toList

theorem rendTo_take (us : List TokR) : ∀ k, k ≤ us.length → rendTo us k = rendL (us.take k)
  | 0, _ => rfl
  | k + 1, h => by
    have ih := rendTo_take us k (by omega)
    have e : us.take (k + 1) = us.take k ++ [atT us k] := by
      rw [List.take_add_one, List.getElem?_eq_getElem (by omega)]
      simp [atT, List.getD, List.getElem?_eq_getElem (show k < us.length by omega)]
    rw [e]
    show rendTo us k ++ (atT us k).g.data.toList ++ (atT us k).t.data.toList = _
    rw [ih]
    simp [rendL]

theorem rendTo_all (us : List TokR) : rendTo us us.length = rendL us := by
  rw [rendTo_take us us.length (Nat.le_refl _), List.take_length]

theorem ext_list (s : ByteArray) (i j : Nat) : (s.extract i j).data.toList = (s.data.toList.drop i).take (j - i) := by
  simp [ByteArray.data_extract, List.extract_eq_take_drop]

theorem rend_lexed {xs : List OpR} {s : ByteArray} : ∀ (us : List TokR) (i : Nat), Lexed xs s i us → rendL us = s.data.toList.drop i ∧ us.length + i ≤ s.size + 1
  | [], _, h => h.elim
  | t :: out, i, h => by
    have hsl : s.data.toList.length = s.size := by simp
    rcases h with ⟨rfl, hi, _, rfl⟩ | ⟨j, n, k, hij, hj, _, _, htok, rfl, hout⟩
    · refine ⟨?_, by simp; omega⟩
      show (s.extract i s.size).data.toList ++ [] ++ [] = _
      rw [ext_list, List.append_nil, List.append_nil, List.take_of_length_le (by rw [List.length_drop, hsl]; exact Nat.le_refl _)]
    · obtain ⟨ih1, ih2⟩ := rend_lexed out (j + n) hout
      have h1 := htok.1
      refine ⟨?_, by simp; omega⟩
      show (s.extract i j).data.toList ++ (s.extract j (j + n)).data.toList ++ rendL out = _
      rw [ih1, ext_list, ext_list]
      have e1 : s.data.toList.drop (j + n) = (s.data.toList.drop j).drop n := by rw [List.drop_drop]
      have e2 : s.data.toList.drop j = (s.data.toList.drop i).drop (j - i) := by rw [List.drop_drop]; congr 1; omega
      rw [List.append_assoc, e1, Nat.add_sub_cancel_left, List.take_append_drop, e2, List.take_append_drop]

/-- What the tokens of a text say of themselves. -/
theorem lexed_all {xs : List OpR} {s : ByteArray} {us : List TokR} (h : Lexed xs s 0 us) : (⟨(rendTo us us.length).toArray⟩ : ByteArray) = s ∧ us.length ≤ s.size + 1 ∧ totToT us us.length = s.size := by
  obtain ⟨h1, h2⟩ := rend_lexed us 0 h
  rw [List.drop_zero] at h1
  have h3 := rend_len us us.length
  rw [rendTo_all, h1] at h3
  refine ⟨?_, by omega, by rw [← h3]; simp⟩
  rw [rendTo_all, h1]
end Go.Proofs.Ytokabkhnidlcnaa

/-
  Walks: the specification's kinds of bytes, forms of texts.
-/
namespace Go.Proofs.Ytokabkhnidlcnaa
set_option maxRecDepth 100000
open Go.RowKit

theorem l2Digit_any (c : UInt8) (w : World) :
    Calls Try.prog 68 #[.int .u8 (c.toNat : Int)] w fun e w' => e = .returned (.bool (decide (cls c = 2))) ∧ w' = w := by
  go_enter Try.func68, Try.ntmps68
  go_wp2
  all_goals (go_ret; refine ⟨ret_bool ?_, rfl⟩; go_light; rw [Bool.eq_iff_iff]; simp [cls_dig] <;> omega)

theorem l2Letter_any (c : UInt8) (w : World) :
    Calls Try.prog 67 #[.int .u8 (c.toNat : Int)] w fun e w' => e = .returned (.bool (decide (cls c = 3))) ∧ w' = w := by
  go_enter Try.func67, Try.ntmps67
  go_wp2
  all_goals (go_ret; refine ⟨ret_bool ?_, rfl⟩; go_light; rw [Bool.eq_iff_iff]; simp [cls_let] <;> omega)

theorem l2Blank_any (c : UInt8) (w : World) :
    Calls Try.prog 28 #[.int .u8 (c.toNat : Int)] w fun e w' => e = .returned (.bool (decide (cls c = 1))) ∧ w' = w := by
  go_enter Try.func28, Try.ntmps28
  go_wp2
  all_goals (go_ret; refine ⟨ret_bool ?_, rfl⟩; go_light; (try simp only [beq_iff_eq, beq_eq_false_iff_ne, ne_eq] at *); rw [Bool.eq_iff_iff]; simp [cls_blank] <;> omega)

/-- A Bool that says whether p holds. -/
def Says (v : Bool) (p : Prop) : Prop := v = true ↔ p
/-- The call gives a Bool that says whether p holds. -/
def RetB (e : Ending) (p : Prop) : Prop := ∃ v : Bool, e = .returned (.bool v) ∧ Says v p

set_option maxHeartbeats 400000 in
theorem l2IsNumber_any (s : ByteArray) (w : World) (hs : s.size ≤ maxLen) :
    Calls Try.prog 48 #[.string s] w fun e w' => RetB e (NumT s) ∧ w' = w := by
  unfold maxLen at hs
  go_enter Try.func48, Try.ntmps48
  go_wp2
  go_loop [3] (fun i => ∃ k : Nat, k ≤ s.size ∧ i = .int .i64 k ∧ Hid (∀ j, j < k → cls (bt s j) = 2)) (fun i => s.size - (intOf i).toNat)
  case atStart => exact ⟨0, Nat.zero_le _, rfl, hide (fun j h => by omega)⟩
  case round =>
    obtain ⟨k, hk, rfl, hn⟩ := hrel
    by_cases hlt : k < s.size
    · cases hb : decide (cls s[k] = 2)
      · have Hb := hide hb
        go_wp2_with (go_at_call 68; refine (l2Digit_any _ _).mono ?_; rintro e w' ⟨rfl, rfl⟩)
        go_ret
        refine ⟨⟨_, rfl, ⟨fun h => (by cases h), fun h => ?_⟩⟩, rfl⟩
        have h2 := h.2 k hlt
        have := unhide Hb
        rw [bt_get hlt] at this
        simp at this
        exact absurd h2 this
      · have Hb := hide hb
        go_wp2_with (go_at_call 68; refine (l2Digit_any _ _).mono ?_; rintro e w' ⟨rfl, rfl⟩)
        refine ⟨⟨k + 1, by omega, by go_num, hide (fun j hj => ?_)⟩, by simp [intOf]; omega⟩
        by_cases e : j = k
        · subst e
          have := unhide Hb
          rw [bt_get hlt] at this
          simpa using this
        · exact (unhide hn) j (by omega)
    · by_cases h1 : 1 ≤ s.size
      · have h1' : (1 : Int) ≤ (s.size : Int) := by omega
        go_wp2
        go_ret
        exact ⟨⟨_, rfl, ⟨fun _ => ⟨h1, fun j hj => (unhide hn) j (by omega)⟩, fun _ => by simp; omega⟩⟩, rfl⟩
      · go_wp2
        go_ret
        exact ⟨⟨decide (0 < s.size), rfl, ⟨fun h => absurd (of_decide_eq_true h) (by omega), fun h => absurd h.1 h1⟩⟩, rfl⟩

set_option maxHeartbeats 400000 in
theorem l2IsName_any (s : ByteArray) (w : World) (hs : s.size ≤ maxLen) :
    Calls Try.prog 49 #[.string s] w fun e w' => RetB e (NameT s) ∧ w' = w := by
  unfold maxLen at hs
  go_enter Try.func49, Try.ntmps49
  go_wp2
  go_loop [3] (fun i => ∃ k : Nat, k ≤ s.size ∧ i = .int .i64 k ∧ Hid (∀ j, j < k → (cls (bt s j) = 3 ∨ (j ≠ 0 ∧ cls (bt s j) = 2)))) (fun i => s.size - (intOf i).toNat)
  case atStart => exact ⟨0, Nat.zero_le _, rfl, hide (fun j h => by omega)⟩
  case round =>
    obtain ⟨k, hk, rfl, hn⟩ := hrel
    by_cases hlt : k < s.size
    · have hbk := hide (bt_get hlt)
      have no : (¬ cls (bt s k) = 3) → (k = 0 ∨ ¬ cls (bt s k) = 2) → ∀ v, v = false → Says v (NameT s) := fun h1 h2 v hv => by
        subst hv
        refine ⟨fun h => (by cases h), fun h => ?_⟩
        have := h.2 k hlt
        omega
      have NO := hide no
      clear no
      cases hb : decide (cls s[k] = 3)
      · have hb3 := hide (show ¬ cls (bt s k) = 3 by rw [bt_get hlt] at hb; simpa using hb)
        by_cases hk0 : k = 0
        · subst hk0
          go_wp2_with (go_at_call 67; refine (l2Letter_any _ _).mono ?_; rintro e w' ⟨rfl, rfl⟩)
          go_ret
          exact ⟨⟨_, rfl, (unhide NO) (unhide hb3) (Or.inl trivial) _ rfl⟩, rfl⟩
        · have hk0' : ((k : Int) == 0) = false := by simp; omega
          cases hd : decide (cls s[k] = 2)
          · have hd2 := hide (show ¬ cls (bt s k) = 2 by rw [bt_get hlt] at hd; simpa using hd)
            go_wp2_with (first | (go_at_call 67; refine (l2Letter_any _ _).mono ?_; rintro e w' ⟨rfl, rfl⟩) | (go_at_call 68; refine (l2Digit_any _ _).mono ?_; rintro e w' ⟨rfl, rfl⟩))
            go_ret
            exact ⟨⟨_, rfl, (unhide NO) (unhide hb3) (Or.inr (unhide hd2)) _ rfl⟩, rfl⟩
          · have hd2 := hide (show cls (bt s k) = 2 by rw [bt_get hlt] at hd; simpa using hd)
            go_wp2_with (first | (go_at_call 67; refine (l2Letter_any _ _).mono ?_; rintro e w' ⟨rfl, rfl⟩) | (go_at_call 68; refine (l2Digit_any _ _).mono ?_; rintro e w' ⟨rfl, rfl⟩))
            refine ⟨⟨k + 1, by omega, by go_num, hide (fun j hj => ?_)⟩, by simp [intOf]; omega⟩
            by_cases e : j = k
            · subst e
              exact Or.inr ⟨hk0, unhide hd2⟩
            · exact (unhide hn) j (by omega)
      · have hb3 := hide (show cls (bt s k) = 3 by rw [bt_get hlt] at hb; simpa using hb)
        go_wp2_with (go_at_call 67; refine (l2Letter_any _ _).mono ?_; rintro e w' ⟨rfl, rfl⟩)
        refine ⟨⟨k + 1, by omega, by go_num, hide (fun j hj => ?_)⟩, by simp [intOf]; omega⟩
        by_cases e : j = k
        · subst e
          exact Or.inl (unhide hb3)
        · exact (unhide hn) j (by omega)
    · by_cases h1 : 1 ≤ s.size
      · have h1' : (1 : Int) ≤ (s.size : Int) := by omega
        go_wp2
        go_ret
        exact ⟨⟨_, rfl, ⟨fun _ => ⟨h1, fun j hj => (unhide hn) j (by omega)⟩, fun _ => by simp; omega⟩⟩, rfl⟩
      · go_wp2
        go_ret
        exact ⟨⟨decide (0 < s.size), rfl, ⟨fun h => absurd (of_decide_eq_true h) (by omega), fun h => absurd h.1 h1⟩⟩, rfl⟩

theorem bytes_inj {a b : ByteArray} (h : a.toList = b.toList) : a = b := by
  rw [ByteArray.toList_eq, ByteArray.toList_eq] at h
  obtain ⟨⟨l⟩⟩ := a
  obtain ⟨⟨l'⟩⟩ := b
  simpa using h

set_option maxHeartbeats 400000 in
theorem l2Find_any (b off cap : Nat) (xs : List OpR) (t : ByteArray) (kd : Int) (w : World) (hm : xs.length ≤ 1048576) (hw : Ops w b off xs) (hB : b < w.heap.size) :
    Calls Try.prog 57 #[.agg #[.slice (some ⟨b, off, none⟩) xs.length cap], .string t, .int .i64 kd] w fun e w' => (∃ r : Int, e = .returned (.int .i64 r) ∧ (0 ≤ r ↔ ∃ j, j < xs.length ∧ (atO xs j).s = t ∧ (atO xs j).k = kd)) ∧ Below w.heap.size w w' := by
  go_enter Try.func57, Try.ntmps57
  go_wp2
  have hops : Ops (w.alloc (.cells #[.slice (some ⟨b, off, none⟩) xs.length cap] 25)) b off xs := hw.below (below1 _ _) hB
  have HO := hide hops
  clear hops hw
  go_loop [7] (fun i => ∃ k : Nat, k ≤ xs.length ∧ i = .int .i64 k ∧ Hid (∀ j, j < k → ¬ ((atO xs j).s = t ∧ (atO xs j).k = kd))) (fun i => xs.length - (intOf i).toNat)
  case atStart => exact ⟨0, Nat.zero_le _, rfl, hide (fun j h => by omega)⟩
  case round =>
    obtain ⟨k, hk, rfl, hn⟩ := hrel
    by_cases hlt : k < xs.length
    · obtain ⟨a0, a1, a2, a3⟩ := (unhide HO) k hlt
      have hnx := hide (show ∀ (_ : ¬ ((atO xs k).s = t ∧ (atO xs k).k = kd)), ∀ j, j < k + 1 → ¬ ((atO xs j).s = t ∧ (atO xs j).k = kd) from fun hne j hj => by
        by_cases e : j = k
        · subst e; exact hne
        · exact (unhide hn) j (by omega))
      go_wp2
      · rename_i hs1 hk1 _
        go_ret
        exact ⟨⟨(k : Int), rfl, ⟨fun _ => ⟨k, hlt, bytes_inj hs1, by simpa using hk1⟩, fun _ => by omega⟩⟩, below1 _ _⟩
      · refine ⟨⟨k + 1, by omega, by go_num, hide ((unhide hnx) ?_)⟩, by simp [intOf]; omega⟩
        rintro ⟨_, h⟩
        simp_all
      · refine ⟨⟨k + 1, by omega, by go_num, hide ((unhide hnx) ?_)⟩, by simp [intOf]; omega⟩
        rintro ⟨h, _⟩
        simp_all
    · go_wp2
      go_ret
      refine ⟨⟨-1, rfl, ⟨fun h => absurd h (by decide), fun ⟨j, hj, h⟩ => absurd h ((unhide hn) j (by omega))⟩⟩, below1 _ _⟩
end Go.Proofs.Ytokabkhnidlcnaa
