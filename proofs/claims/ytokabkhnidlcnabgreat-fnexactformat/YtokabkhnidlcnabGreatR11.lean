import Derived.Test.YtokabkhnidlcnabGreatR01
import Derived.Test.YtokabkhnidlcnabGreatR02

/-
  Walks: the specification's kinds of bytes, forms of texts.
-/
namespace Go.Proofs.YtokabkhnidlcnabGreat
set_option maxRecDepth 100000
open Go.RowKit

theorem l2Digit_any (c : UInt8) (w : World) :
    Calls Tryz.prog 130 #[.int .u8 (c.toNat : Int)] w fun e w' => e = .returned (.bool (decide (cls c = 2))) ∧ w' = w := by
  go_enter Tryz.func130, Tryz.ntmps130
  go_wp2
  all_goals (go_ret; refine ⟨ret_bool ?_, rfl⟩; go_light; rw [Bool.eq_iff_iff]; simp [cls_dig] <;> omega)

theorem l2Letter_any (c : UInt8) (w : World) :
    Calls Tryz.prog 129 #[.int .u8 (c.toNat : Int)] w fun e w' => e = .returned (.bool (decide (cls c = 3))) ∧ w' = w := by
  go_enter Tryz.func129, Tryz.ntmps129
  go_wp2
  all_goals (go_ret; refine ⟨ret_bool ?_, rfl⟩; go_light; rw [Bool.eq_iff_iff]; simp [cls_let] <;> omega)

theorem l2Blank_any (c : UInt8) (w : World) :
    Calls Tryz.prog 52 #[.int .u8 (c.toNat : Int)] w fun e w' => e = .returned (.bool (decide (cls c = 1))) ∧ w' = w := by
  go_enter Tryz.func52, Tryz.ntmps52
  go_wp2
  all_goals (go_ret; refine ⟨ret_bool ?_, rfl⟩; go_light; (try simp only [beq_iff_eq, beq_eq_false_iff_ne, ne_eq] at *); rw [Bool.eq_iff_iff]; simp [cls_blank] <;> omega)

/-- A Bool that says whether p holds. -/
def Says (v : Bool) (p : Prop) : Prop := v = true ↔ p
/-- The call gives a Bool that says whether p holds. -/
def RetB (e : Ending) (p : Prop) : Prop := ∃ v : Bool, e = .returned (.bool v) ∧ Says v p

set_option maxHeartbeats 400000 in
theorem l2IsNumber_any (s : ByteArray) (w : World) (hs : s.size ≤ maxLen) :
    Calls Tryz.prog 94 #[.string s] w fun e w' => RetB e (NumT s) ∧ w' = w := by
  unfold maxLen at hs
  go_enter Tryz.func94, Tryz.ntmps94
  go_wp2
  go_loop [3] (fun i => ∃ k : Nat, k ≤ s.size ∧ i = .int .i64 k ∧ Hid (∀ j, j < k → cls (bt s j) = 2)) (fun i => s.size - (intOf i).toNat)
  case atStart => exact ⟨0, Nat.zero_le _, rfl, hide (fun j h => by omega)⟩
  case round =>
    obtain ⟨k, hk, rfl, hn⟩ := hrel
    by_cases hlt : k < s.size
    · cases hb : decide (cls s[k] = 2)
      · have Hb := hide hb
        go_wp2_with (go_at_call 130; refine (l2Digit_any _ _).mono ?_; rintro e w' ⟨rfl, rfl⟩)
        go_ret
        refine ⟨⟨_, rfl, ⟨fun h => (by cases h), fun h => ?_⟩⟩, rfl⟩
        have h2 := h.2 k hlt
        have := unhide Hb
        rw [bt_get hlt] at this
        simp at this
        exact absurd h2 this
      · have Hb := hide hb
        go_wp2_with (go_at_call 130; refine (l2Digit_any _ _).mono ?_; rintro e w' ⟨rfl, rfl⟩)
        refine ⟨⟨k + 1, by omega, by go_num, hide (fun j hj => ?_)⟩, by simp [intOf]; omega⟩
        by_cases e : j = k
        · subst e
          have := unhide Hb
          rw [bt_get hlt] at this
          simpa using this
        · exact (unhide hn) j (by omega)
    · by_cases h1 : 1 ≤ s.size
      · have h1' : (1 : Int) ≤ (s.size : Int) := by omega
        go_wp2
        go_ret
        exact ⟨⟨_, rfl, ⟨fun _ => ⟨h1, fun j hj => (unhide hn) j (by omega)⟩, fun _ => by simp; omega⟩⟩, rfl⟩
      · go_wp2
        go_ret
        exact ⟨⟨decide (0 < s.size), rfl, ⟨fun h => absurd (of_decide_eq_true h) (by omega), fun h => absurd h.1 h1⟩⟩, rfl⟩

set_option maxHeartbeats 400000 in
theorem l2IsName_any (s : ByteArray) (w : World) (hs : s.size ≤ maxLen) :
    Calls Tryz.prog 95 #[.string s] w fun e w' => RetB e (NameT s) ∧ w' = w := by
  unfold maxLen at hs
  go_enter Tryz.func95, Tryz.ntmps95
  go_wp2
  go_loop [3] (fun i => ∃ k : Nat, k ≤ s.size ∧ i = .int .i64 k ∧ Hid (∀ j, j < k → (cls (bt s j) = 3 ∨ (j ≠ 0 ∧ cls (bt s j) = 2)))) (fun i => s.size - (intOf i).toNat)
  case atStart => exact ⟨0, Nat.zero_le _, rfl, hide (fun j h => by omega)⟩
  case round =>
    obtain ⟨k, hk, rfl, hn⟩ := hrel
    by_cases hlt : k < s.size
    · have hbk := hide (bt_get hlt)
      have no : (¬ cls (bt s k) = 3) → (k = 0 ∨ ¬ cls (bt s k) = 2) → ∀ v, v = false → Says v (NameT s) := fun h1 h2 v hv => by
        subst hv
        refine ⟨fun h => (by cases h), fun h => ?_⟩
        have := h.2 k hlt
        omega
      have NO := hide no
      clear no
      cases hb : decide (cls s[k] = 3)
      · have hb3 := hide (show ¬ cls (bt s k) = 3 by rw [bt_get hlt] at hb; simpa using hb)
        by_cases hk0 : k = 0
        · subst hk0
          go_wp2_with (go_at_call 129; refine (l2Letter_any _ _).mono ?_; rintro e w' ⟨rfl, rfl⟩)
          go_ret
          exact ⟨⟨_, rfl, (unhide NO) (unhide hb3) (Or.inl trivial) _ rfl⟩, rfl⟩
        · have hk0' : ((k : Int) == 0) = false := by simp; omega
          cases hd : decide (cls s[k] = 2)
          · have hd2 := hide (show ¬ cls (bt s k) = 2 by rw [bt_get hlt] at hd; simpa using hd)
            go_wp2_with (first | (go_at_call 129; refine (l2Letter_any _ _).mono ?_; rintro e w' ⟨rfl, rfl⟩) | (go_at_call 130; refine (l2Digit_any _ _).mono ?_; rintro e w' ⟨rfl, rfl⟩))
            go_ret
            exact ⟨⟨_, rfl, (unhide NO) (unhide hb3) (Or.inr (unhide hd2)) _ rfl⟩, rfl⟩
          · have hd2 := hide (show cls (bt s k) = 2 by rw [bt_get hlt] at hd; simpa using hd)
            go_wp2_with (first | (go_at_call 129; refine (l2Letter_any _ _).mono ?_; rintro e w' ⟨rfl, rfl⟩) | (go_at_call 130; refine (l2Digit_any _ _).mono ?_; rintro e w' ⟨rfl, rfl⟩))
            refine ⟨⟨k + 1, by omega, by go_num, hide (fun j hj => ?_)⟩, by simp [intOf]; omega⟩
            by_cases e : j = k
            · subst e
              exact Or.inr ⟨hk0, unhide hd2⟩
            · exact (unhide hn) j (by omega)
      · have hb3 := hide (show cls (bt s k) = 3 by rw [bt_get hlt] at hb; simpa using hb)
        go_wp2_with (go_at_call 129; refine (l2Letter_any _ _).mono ?_; rintro e w' ⟨rfl, rfl⟩)
        refine ⟨⟨k + 1, by omega, by go_num, hide (fun j hj => ?_)⟩, by simp [intOf]; omega⟩
        by_cases e : j = k
        · subst e
          exact Or.inl (unhide hb3)
        · exact (unhide hn) j (by omega)
    · by_cases h1 : 1 ≤ s.size
      · have h1' : (1 : Int) ≤ (s.size : Int) := by omega
        go_wp2
        go_ret
        exact ⟨⟨_, rfl, ⟨fun _ => ⟨h1, fun j hj => (unhide hn) j (by omega)⟩, fun _ => by simp; omega⟩⟩, rfl⟩
      · go_wp2
        go_ret
        exact ⟨⟨decide (0 < s.size), rfl, ⟨fun h => absurd (of_decide_eq_true h) (by omega), fun h => absurd h.1 h1⟩⟩, rfl⟩

theorem bytes_inj {a b : ByteArray} (h : a.toList = b.toList) : a = b := by
  rw [ByteArray.toList_eq, ByteArray.toList_eq] at h
  obtain ⟨⟨l⟩⟩ := a
  obtain ⟨⟨l'⟩⟩ := b
  simpa using h

set_option maxHeartbeats 400000 in
theorem l2Find_any (b off cap : Nat) (xs : List OpR) (t : ByteArray) (kd : Int) (w : World) (hm : xs.length ≤ 1048576) (hw : Ops w b off xs) (hB : b < w.heap.size) :
    Calls Tryz.prog 97 #[.agg #[.slice (some ⟨b, off, none⟩) xs.length cap], .string t, .int .i64 kd] w fun e w' => (∃ r : Int, e = .returned (.int .i64 r) ∧ (0 ≤ r ↔ ∃ j, j < xs.length ∧ (atO xs j).s = t ∧ (atO xs j).k = kd)) ∧ Below w.heap.size w w' := by
  go_enter Tryz.func97, Tryz.ntmps97
  go_wp2
  have hops : Ops (w.alloc (.cells #[.slice (some ⟨b, off, none⟩) xs.length cap] 33)) b off xs := hw.below (below1 _ _) hB
  have HO := hide hops
  clear hops hw
  go_loop [7] (fun i => ∃ k : Nat, k ≤ xs.length ∧ i = .int .i64 k ∧ Hid (∀ j, j < k → ¬ ((atO xs j).s = t ∧ (atO xs j).k = kd))) (fun i => xs.length - (intOf i).toNat)
  case atStart => exact ⟨0, Nat.zero_le _, rfl, hide (fun j h => by omega)⟩
  case round =>
    obtain ⟨k, hk, rfl, hn⟩ := hrel
    by_cases hlt : k < xs.length
    · obtain ⟨a0, a1, a2, a3⟩ := (unhide HO) k hlt
      have hnx := hide (show ∀ (_ : ¬ ((atO xs k).s = t ∧ (atO xs k).k = kd)), ∀ j, j < k + 1 → ¬ ((atO xs j).s = t ∧ (atO xs j).k = kd) from fun hne j hj => by
        by_cases e : j = k
        · subst e; exact hne
        · exact (unhide hn) j (by omega))
      go_wp2
      · rename_i hs1 hk1 _
        go_ret
        exact ⟨⟨(k : Int), rfl, ⟨fun _ => ⟨k, hlt, bytes_inj hs1, by simpa using hk1⟩, fun _ => by omega⟩⟩, below1 _ _⟩
      · refine ⟨⟨k + 1, by omega, by go_num, hide ((unhide hnx) ?_)⟩, by simp [intOf]; omega⟩
        rintro ⟨_, h⟩
        simp_all
      · refine ⟨⟨k + 1, by omega, by go_num, hide ((unhide hnx) ?_)⟩, by simp [intOf]; omega⟩
        rintro ⟨h, _⟩
        simp_all
    · go_wp2
      go_ret
      refine ⟨⟨-1, rfl, ⟨fun h => absurd h (by decide), fun ⟨j, hj, h⟩ => absurd h ((unhide hn) j (by omega))⟩⟩, below1 _ _⟩
end Go.Proofs.YtokabkhnidlcnabGreat

/-
  Walks: the specification's trees in order.
-/
namespace Go.Proofs.YtokabkhnidlcnabGreat
set_option maxRecDepth 100000
open Go.RowKit

theorem l3Kids_any (k : Int) (w : World) :
    Calls Tryz.prog 60 #[.int .i64 k] w fun e w' => e = .returned (.int .i64 (kids k : Int)) ∧ w' = w := by
  by_cases h4 : k = 4
  · subst h4
    go_enter Tryz.func60, Tryz.ntmps60
    go_wp2
    go_ret
    exact ⟨ret_int (by simp [kids]), rfl⟩
  by_cases h3 : k = 3
  · subst h3
    go_enter Tryz.func60, Tryz.ntmps60
    go_wp2
    go_ret
    exact ⟨ret_int (by simp [kids]), rfl⟩
  by_cases h5 : k = 5
  · subst h5
    go_enter Tryz.func60, Tryz.ntmps60
    go_wp2
    go_ret
    exact ⟨ret_int (by simp [kids]), rfl⟩
  by_cases h6 : k = 6
  · subst h6
    go_enter Tryz.func60, Tryz.ntmps60
    go_wp2
    go_ret
    exact ⟨ret_int (by simp [kids]), rfl⟩
  have e4 : (k == 4) = false := by simpa using h4
  have e3 : (k == 3) = false := by simpa using h3
  have e5 : (k == 5) = false := by simpa using h5
  have e6 : (k == 6) = false := by simpa using h6
  have HK := hide (show kids k = 0 by simp [kids, h4, h3, h5, h6])
  clear h4 h3 h5 h6
  go_enter Tryz.func60, Tryz.ntmps60
  go_wp2
  go_ret
  exact ⟨ret_int (by rw [unhide HK]; rfl), rfl⟩

theorem l3Kids_is {k : Int} {n : Nat} (h : kids k = n) (z : Int) (hz : (n : Int) = z) (w : World) :
    Calls Tryz.prog 60 #[.int .i64 k] w fun e w' => e = .returned (.int .i64 z) ∧ w' = w := by
  subst hz
  subst h
  exact l3Kids_any k w

/-- What l3From gives. -/
def frI (xs : List NodeR) (i : Nat) : Int := match frS xs i with
  | some f => (f : Int)
  | none => -1

theorem frI_some {xs : List NodeR} {i f : Nat} (h : frS xs i = some f) : frI xs i = (f : Int) := by unfold frI; rw [h]
theorem frI_none {xs : List NodeR} {i : Nat} (h : frS xs i = none) : frI xs i = -1 := by unfold frI; rw [h]

theorem l3From_neg (a : Option Addr) (n cap : Nat) (w : World) :
    Calls Tryz.prog 138 #[.slice a n cap, .int .i64 (-1)] w fun e w' => e = .returned (.int .i64 (-1)) ∧ w' = w := by
  go_enter Tryz.func138, Tryz.ntmps138
  go_wp2
  go_ret
  exact ⟨rfl, rfl⟩

set_option maxHeartbeats 4000000 in
theorem l3From_any (b off cap : Nat) (xs : List NodeR) (hm : xs.length ≤ 1048576) : ∀ (n i : Nat) (w : World), i < n → i < xs.length → OpsN w b off xs → b < w.heap.size →
    Calls Tryz.prog 138 #[.slice (some ⟨b, off, none⟩) xs.length cap, .int .i64 (i : Int)] w fun e w' => e = .returned (.int .i64 (frI xs i)) ∧ Below w.heap.size w w'
  | 0, _, _, h, _, _, _ => absurd h (Nat.not_lt_zero _)
  | n + 1, i, w, hin, hi, hw, hB => by
    obtain ⟨h0, h1, h2, h3⟩ := hw i hi
    have IH := hide (l3From_any b off cap xs hm n)
    have HW := hide hw
    have hiI : (i : Int) < (xs.length : Int) := by omega
    have hi0 : ¬ (i : Int) < 0 := by omega
    clear hw
    rcases kids_cases (atN xs i).k with hk | hk | hk
    · have HK := hide hk
      have HF := hide (frS_zero hk)
      clear hk
      by_cases ha : (atN xs i).a = 0
      · rw [ha] at h2
        by_cases hb : (atN xs i).b = 0
        · rw [hb] at h3
          have HR := hide (show frI xs i = (i : Int) from frI_some (by rw [unhide HF, if_pos ⟨ha, hb⟩]))
          clear ha hb
          go_enter Tryz.func138, Tryz.ntmps138
          go_wp2_with (go_at_call 60; refine (l3Kids_is (unhide HK) 0 rfl _).mono ?_; rintro e w' ⟨rfl, rfl⟩)
          go_ret
          exact ⟨ret_int (unhide HR).symm, below1 _ _⟩
        · have hb' : ((atN xs i).b == 0) = false := by simpa using hb
          have hb'' : ((atN xs i).b != 0) = true := by simpa using hb
          have HR := hide (show frI xs i = -1 from frI_none (by rw [unhide HF, if_neg (fun h => hb h.2)]))
          clear ha hb
          go_enter Tryz.func138, Tryz.ntmps138
          go_wp2_with (go_at_call 60; refine (l3Kids_is (unhide HK) 0 rfl _).mono ?_; rintro e w' ⟨rfl, rfl⟩)
          go_ret
          exact ⟨ret_int (unhide HR).symm, below1 _ _⟩
      · have ha' : ((atN xs i).a == 0) = false := by simpa using ha
        have ha'' : ((atN xs i).a != 0) = true := by simpa using ha
        have HR := hide (show frI xs i = -1 from frI_none (by rw [unhide HF, if_neg (fun h => ha h.1)]))
        clear ha
        go_enter Tryz.func138, Tryz.ntmps138
        go_wp2_with (go_at_call 60; refine (l3Kids_is (unhide HK) 0 rfl _).mono ?_; rintro e w' ⟨rfl, rfl⟩)
        go_ret
        exact ⟨ret_int (unhide HR).symm, below1 _ _⟩
    · have HK := hide hk
      have HF := hide (frS_one hk)
      clear hk
      by_cases ha : (atN xs i).a = (i : Int) - 1
      · rw [ha] at h2
        by_cases hb : (atN xs i).b = 0
        · rw [hb] at h3
          by_cases h1i : 1 ≤ i
          · have HR := hide (show frI xs i = frI xs (i - 1) by unfold frI; rw [unhide HF, if_pos ⟨h1i, ha, hb⟩])
            have ei : (i : Int) - 1 = ((i - 1 : Nat) : Int) := by omega
            clear ha hb
            go_enter Tryz.func138, Tryz.ntmps138
            go_wp2_with (first | (go_at_call 60; refine (l3Kids_is (unhide HK) 1 rfl _).mono ?_; rintro e w' ⟨rfl, rfl⟩) | (go_at_call 138; refine ((unhide IH) (i - 1) _ (by omega) (by omega) ((unhide HW).below (below1 _ _) hB) (by simp; omega)).mono ?_; rintro e w' ⟨rfl, hb1⟩))
            go_ret
            exact ⟨ret_int (unhide HR).symm, (below1 _ _).trans (hb1.mono (by simp))⟩
          · have HR := hide (show frI xs i = -1 from frI_none (by rw [unhide HF, if_neg (fun h => h1i h.1)]))
            have ei : (i : Int) - 1 = -1 := by omega
            clear ha hb h1i
            go_enter Tryz.func138, Tryz.ntmps138
            go_wp2_with (first | (go_at_call 60; refine (l3Kids_is (unhide HK) 1 rfl _).mono ?_; rintro e w' ⟨rfl, rfl⟩) | (go_at_call 138; refine (l3From_neg _ _ _ _).mono ?_; rintro e w' ⟨rfl, rfl⟩))
            go_ret
            exact ⟨ret_int (unhide HR).symm, below1 _ _⟩
        · have hb' : ((atN xs i).b == 0) = false := by simpa using hb
          have hb'' : ((atN xs i).b != 0) = true := by simpa using hb
          have HR := hide (show frI xs i = -1 from frI_none (by rw [unhide HF, if_neg (fun h => hb h.2.2)]))
          clear ha hb
          go_enter Tryz.func138, Tryz.ntmps138
          go_wp2_with (go_at_call 60; refine (l3Kids_is (unhide HK) 1 rfl _).mono ?_; rintro e w' ⟨rfl, rfl⟩)
          go_ret
          exact ⟨ret_int (unhide HR).symm, below1 _ _⟩
      · have ha' : ((atN xs i).a == (i : Int) - 1) = false := by simpa using ha
        have ha'' : ((atN xs i).a != (i : Int) - 1) = true := by simpa using ha
        have HR := hide (show frI xs i = -1 from frI_none (by rw [unhide HF, if_neg (fun h => ha h.2.1)]))
        clear ha
        go_enter Tryz.func138, Tryz.ntmps138
        go_wp2_with (go_at_call 60; refine (l3Kids_is (unhide HK) 1 rfl _).mono ?_; rintro e w' ⟨rfl, rfl⟩)
        go_ret
        exact ⟨ret_int (unhide HR).symm, below1 _ _⟩
    · have HK := hide hk
      have HN := hide (frS_two_none (xs := xs) (i := i) hk)
      have HP := hide (fun (p1 : 1 ≤ i) p2 f p3 p4 p5 => frS_two (xs := xs) (i := i) (f := f) hk p1 p2 p3 p4 p5)
      clear hk
      by_cases hb : (atN xs i).b = (i : Int) - 1
      case neg =>
        have hb' : ((atN xs i).b == (i : Int) - 1) = false := by simpa using hb
        have hb'' : ((atN xs i).b != (i : Int) - 1) = true := by simpa using hb
        have HR := hide (show frI xs i = -1 from frI_none ((unhide HN) (fun h => hb h.2.1)))
        clear hb
        go_enter Tryz.func138, Tryz.ntmps138
        go_wp2_with (go_at_call 60; refine (l3Kids_is (unhide HK) 2 rfl _).mono ?_; rintro e w' ⟨rfl, rfl⟩)
        go_ret
        exact ⟨ret_int (unhide HR).symm, below1 _ _⟩
      rw [hb] at h3
      by_cases h1i : 1 ≤ i
      case neg =>
        have HR := hide (show frI xs i = -1 from frI_none ((unhide HN) (fun h => h1i h.1)))
        have ei : (i : Int) - 1 = -1 := by omega
        clear hb h1i
        go_enter Tryz.func138, Tryz.ntmps138
        go_wp2_with (first | (go_at_call 60; refine (l3Kids_is (unhide HK) 2 rfl _).mono ?_; rintro e w' ⟨rfl, rfl⟩) | (go_at_call 138; refine (l3From_neg _ _ _ _).mono ?_; rintro e w' ⟨rfl, rfl⟩))
        go_ret
        exact ⟨ret_int (unhide HR).symm, below1 _ _⟩
      have ei : (i : Int) - 1 = ((i - 1 : Nat) : Int) := by omega
      cases hf : frS xs (i - 1) with
      | none =>
        have HR := hide (show frI xs i = -1 from frI_none ((unhide HN) (fun ⟨_, _, f, h, _⟩ => by rw [hf] at h; cases h)))
        have HI := hide (frI_none hf)
        clear hb hf
        go_enter Tryz.func138, Tryz.ntmps138
        go_wp2_with (first | (go_at_call 60; refine (l3Kids_is (unhide HK) 2 rfl _).mono ?_; rintro e w' ⟨rfl, rfl⟩) | (go_at_call 138; refine ((unhide IH) (i - 1) _ (by omega) (by omega) ((unhide HW).below (below1 _ _) hB) (by simp; omega)).mono ?_; rw [unhide HI]; rintro e w' ⟨rfl, hb1⟩))
        go_ret
        exact ⟨ret_int (unhide HR).symm, (below1 _ _).trans (hb1.mono (by simp))⟩
      | some f =>
        have hle := frS_le hf
        have HI := hide (frI_some hf)
        by_cases hf1 : 1 ≤ f
        case neg =>
          have HR := hide (show frI xs i = -1 from frI_none ((unhide HN) (fun ⟨_, _, f', h, h', _⟩ => by rw [hf] at h; injection h with h; omega)))
          have hf0 : (f : Int) < 1 := by omega
          clear hb hf
          go_enter Tryz.func138, Tryz.ntmps138
          go_wp2_with (first | (go_at_call 60; refine (l3Kids_is (unhide HK) 2 rfl _).mono ?_; rintro e w' ⟨rfl, rfl⟩) | (go_at_call 138; refine ((unhide IH) (i - 1) _ (by omega) (by omega) ((unhide HW).below (below1 _ _) hB) (by simp; omega)).mono ?_; rw [unhide HI]; rintro e w' ⟨rfl, hb1⟩))
          go_ret
          exact ⟨ret_int (unhide HR).symm, (below1 _ _).trans (hb1.mono (by simp))⟩
        have hf0 : ¬ (f : Int) < 1 := by omega
        have hfm : (f : Int) ≤ 1048576 := by omega
        by_cases ha : (atN xs i).a = (f : Int) - 1
        case neg =>
          have ha' : ((atN xs i).a == (f : Int) - 1) = false := by simpa using ha
          have ha'' : ((atN xs i).a != (f : Int) - 1) = true := by simpa using ha
          have HR := hide (show frI xs i = -1 from frI_none ((unhide HN) (fun ⟨_, _, f', h, _, h'⟩ => by rw [hf] at h; injection h with h; subst h; exact ha h')))
          clear hb hf ha
          go_enter Tryz.func138, Tryz.ntmps138
          go_wp2_with (first | (go_at_call 60; refine (l3Kids_is (unhide HK) 2 rfl _).mono ?_; rintro e w' ⟨rfl, rfl⟩) | (go_at_call 138; refine ((unhide IH) (i - 1) _ (by omega) (by omega) ((unhide HW).below (below1 _ _) hB) (by simp; omega)).mono ?_; rw [unhide HI]; rintro e w' ⟨rfl, hb1⟩; have c1 : w'.cell? ⟨w.heap.size, 2, none⟩ = some (.int .i64 (atN xs i).a) := (hb1.cell (p := ⟨w.heap.size, 2, none⟩) (by simp)).trans (by simp [go_sem])))
          go_ret
          exact ⟨ret_int (unhide HR).symm, (below1 _ _).trans (hb1.mono (by simp))⟩
        rw [ha] at h2
        have HR := hide (show frI xs i = frI xs (f - 1) by unfold frI; rw [(unhide HP) h1i hb f hf hf1 ha])
        have ef : (f : Int) - 1 = ((f - 1 : Nat) : Int) := by omega
        clear hb hf ha
        go_enter Tryz.func138, Tryz.ntmps138
        go_wp2_with (go_at_call 60; refine (l3Kids_is (unhide HK) 2 rfl _).mono ?_; rintro e w' ⟨rfl, rfl⟩)
        refine ((unhide IH) (i - 1) _ (by omega) (by omega) ((unhide HW).below (below1 _ _) hB) (by simp; omega)).mono ?_
        rw [unhide HI]
        rintro e w1 ⟨rfl, hb1⟩
        have c1 : w1.cell? ⟨w.heap.size, 2, none⟩ = some (.int .i64 ((f : Int) - 1)) := (hb1.cell (p := ⟨w.heap.size, 2, none⟩) (by simp)).trans (by simp [go_sem, ef])
        go_wp2_with fail
        refine ((unhide IH) (f - 1) _ (by omega) (by omega) ((unhide HW).below ((below1 _ _).trans (hb1.mono (by simp))) hB) (by have := hb1.size; simp at this; omega)).mono ?_
        rintro e w2 ⟨rfl, hb2⟩
        go_wp2_with fail
        go_ret
        exact ⟨ret_int (unhide HR).symm, ((below1 _ _).trans (hb1.mono (by simp))).trans (hb2.mono (by have := hb1.size; simp at this; omega))⟩

end Go.Proofs.YtokabkhnidlcnabGreat

/-
  Walks: the program's kinds of bytes, forms of texts.
-/
namespace Go.Proofs.YtokabkhnidlcnabGreat
set_option maxRecDepth 100000
open Go.RowKit

set_option maxHeartbeats 1000000 in
theorem kindOfByte_any (c : UInt8) (w : World) :
    Calls Tryz.prog 106 #[.int .u8 (c.toNat : Int)] w fun e w' => e = .returned (.int .i64 (cls c : Int)) ∧ w' = w := by
  have hsg := cls_sg c
  go_enter Tryz.func106, Tryz.ntmps106
  go_wp2_with (go_at_call 133; refine (isSign_any _ _).mono ?_; rintro e w' ⟨rfl, hx⟩; obtain rfl := hx.symm)
  all_goals (go_ret; refine ⟨ret_int ?_, rfl⟩; go_light; (try simp only [beq_iff_eq, beq_eq_false_iff_ne, ne_eq] at *); unfold cls; (repeat' split) <;> (try simp_all) <;> (try omega))

/-- A byte goes on with a word. -/
def stays (first : Nat) (c : UInt8) : Bool := decide (cls c = 2 ∨ (cls c = 3 ∧ first = 3))

set_option maxHeartbeats 1000000 in
theorem staysWord_any (first : Nat) (c : UInt8) (w : World) :
    Calls Tryz.prog 134 #[.int .i64 (first : Int), .int .u8 (c.toNat : Int)] w fun e w' => e = .returned (.bool (stays first c)) ∧ w' = w := by
  by_cases h2 : cls c = 2
  · have HR := hide (show stays first c = true by simp [stays, h2])
    have HC := hide (show (cls c : Int) = 2 by omega)
    clear h2
    go_enter Tryz.func134, Tryz.ntmps134
    go_wp2_with (go_at_call 106; refine (kindOfByte_any _ _).mono ?_; rw [unhide HC]; rintro e w' ⟨rfl, hx⟩; obtain rfl := hx.symm)
    go_ret
    exact ⟨ret_bool (unhide HR).symm, rfl⟩
  by_cases h3 : cls c = 3
  · have HC := hide (show (cls c : Int) = 3 by omega)
    by_cases hf : first = 3
    · have HR := hide (show stays first c = true by simp [stays, h3, hf])
      subst hf
      clear h2 h3
      go_enter Tryz.func134, Tryz.ntmps134
      go_wp2_with (go_at_call 106; refine (kindOfByte_any _ _).mono ?_; rw [unhide HC]; rintro e w' ⟨rfl, hx⟩; obtain rfl := hx.symm)
      go_ret
      exact ⟨ret_bool (unhide HR).symm, rfl⟩
    · have HR := hide (show stays first c = false by simp [stays, h3, hf])
      have hf' : ((first : Int) == 3) = false := by simp; omega
      clear h2 h3 hf
      go_enter Tryz.func134, Tryz.ntmps134
      go_wp2_with (go_at_call 106; refine (kindOfByte_any _ _).mono ?_; rw [unhide HC]; rintro e w' ⟨rfl, hx⟩; obtain rfl := hx.symm)
      go_ret
      exact ⟨ret_bool (unhide HR).symm, rfl⟩
  · have HR := hide (show stays first c = false by simp [stays, h2, h3])
    have h2' : ((cls c : Int) == 2) = false := by simp; omega
    have h3' : ((cls c : Int) == 3) = false := by simp; omega
    clear h2 h3
    go_enter Tryz.func134, Tryz.ntmps134
    go_wp2_with (go_at_call 106; refine (kindOfByte_any _ _).mono ?_; rintro e w' ⟨rfl, hx⟩; obtain rfl := hx.symm)
    go_ret
    exact ⟨ret_bool (unhide HR).symm, rfl⟩

theorem loop_ne (t : ByteArray) : ∀ (n i : Nat) (r : List UInt8), n = t.size - i → r ≠ [] → ByteArray.toList.loop t i r ≠ []
  | 0, i, r, h, hr => by
    unfold ByteArray.toList.loop
    rw [if_neg (by omega)]
    simpa using hr
  | n + 1, i, r, h, hr => by
    unfold ByteArray.toList.loop
    rw [if_pos (by omega)]
    exact loop_ne t n (i + 1) _ (by omega) (by simp)

theorem not_empty {t : ByteArray} (h : t.size ≠ 0) : t.toList.isEmpty = false := by
  rw [List.isEmpty_eq_false_iff]
  unfold ByteArray.toList ByteArray.toList.loop
  rw [if_pos (by omega)]
  exact loop_ne t (t.size - 1) 1 _ rfl (by simp)

theorem bytes_nil {t : ByteArray} (h : t.size = 0) : t = ⟨#[]⟩ := by
  obtain ⟨d⟩ := t
  congr 1
  exact Array.eq_empty_of_size_eq_zero h

theorem says_false {p : Prop} (h : ¬ p) : Says false p := ⟨fun e => (by cases e), fun e => absurd e h⟩
theorem says_true {p : Prop} (h : p) : Says true p := ⟨fun _ => h, fun _ => rfl⟩
end Go.Proofs.YtokabkhnidlcnabGreat
