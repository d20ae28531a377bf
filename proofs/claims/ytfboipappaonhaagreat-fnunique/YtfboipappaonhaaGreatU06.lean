import Derived.Test.YtfboipappaonhaaGreatU03
import Derived.Test.YtfboipappaonhaaGreatU04
import Derived.Test.YtfboipappaonhaaGreatU05

/-
  Walks: the specification's kinds of bytes, forms of texts.
-/
namespace Go.Proofs.YtfboipappaonhaaGreat
set_option maxRecDepth 100000
open Go.RowKit

theorem l2Blank_any (c : UInt8) (w : World) :
    Calls Tryz.prog 103 #[.int .u8 (c.toNat : Int)] w fun e w' => e = .returned (.bool (decide (cls c = 1))) ∧ w' = w := by
  go_enter Tryz.func103, Tryz.ntmps103
  go_wp2
  all_goals (go_ret; refine ⟨ret_bool ?_, rfl⟩; go_light; (try simp only [beq_iff_eq, beq_eq_false_iff_ne, ne_eq] at *); rw [Bool.eq_iff_iff]; simp [cls_blank] <;> omega)

set_option maxHeartbeats 400000 in
theorem l2Find_any (b off cap : Nat) (xs : List OpR) (t : ByteArray) (kd : Int) (w : World) (hm : xs.length ≤ 1048576) (hw : Ops w b off xs) (hB : b < w.heap.size) :
    Calls Tryz.prog 97 #[.agg #[.slice (some ⟨b, off, none⟩) xs.length cap], .string t, .int .i64 kd] w fun e w' => (∃ r : Int, e = .returned (.int .i64 r) ∧ (0 ≤ r ↔ ∃ j, j < xs.length ∧ (atO xs j).s = t ∧ (atO xs j).k = kd)) ∧ Below w.heap.size w w' := by
  go_enter Tryz.func97, Tryz.ntmps97
  go_wp2
  have hops : Ops (w.alloc (.cells #[.slice (some ⟨b, off, none⟩) xs.length cap] 25)) b off xs := hw.below (below1 _ _) hB
  have HO := hide hops
  clear hops hw
  go_loop [7] (fun i => ∃ k : Nat, k ≤ xs.length ∧ i = .int .i64 k ∧ Hid (∀ j, j < k → ¬ ((atO xs j).s = t ∧ (atO xs j).k = kd))) (fun i => xs.length - (intOf i).toNat)
  case atStart => exact ⟨0, Nat.zero_le _, rfl, hide (fun j h => by omega)⟩
  case round =>
    obtain ⟨k, hk, rfl, hn⟩ := hrel
    by_cases hlt : k < xs.length
    · obtain ⟨a0, a1, a2, a3⟩ := (unhide HO) k hlt
      have hnx := hide (show ∀ (_ : ¬ ((atO xs k).s = t ∧ (atO xs k).k = kd)), ∀ j, j < k + 1 → ¬ ((atO xs j).s = t ∧ (atO xs j).k = kd) from fun hne j hj => by
        by_cases e : j = k
        · subst e; exact hne
        · exact (unhide hn) j (by omega))
      go_wp2
      · rename_i hs1 hk1 _
        go_ret
        exact ⟨⟨(k : Int), rfl, ⟨fun _ => ⟨k, hlt, bytes_inj hs1, by simpa using hk1⟩, fun _ => by omega⟩⟩, below1 _ _⟩
      · refine ⟨⟨k + 1, by omega, by go_num, hide ((unhide hnx) ?_)⟩, by simp [intOf]; omega⟩
        rintro ⟨_, h⟩
        simp_all
      · refine ⟨⟨k + 1, by omega, by go_num, hide ((unhide hnx) ?_)⟩, by simp [intOf]; omega⟩
        rintro ⟨h, _⟩
        simp_all
    · go_wp2
      go_ret
      refine ⟨⟨-1, rfl, ⟨fun h => absurd h (by decide), fun ⟨j, hj, h⟩ => absurd h ((unhide hn) j (by omega))⟩⟩, below1 _ _⟩
end Go.Proofs.YtfboipappaonhaaGreat

/-
  Walks: texts of operators, in both texts.
-/
namespace Go.Proofs.YtfboipappaonhaaGreat
set_option maxRecDepth 100000
open Go.RowKit

theorem txt_false_of (s : ByteArray) (k : Nat) (h : k < s.size) (hb : sgB s[k] = false) : txtB s = false := by
  simp [txtB, sgs_false s k h hb]

theorem txt_of (s : ByteArray) (k : Nat) (hk : ¬ k < s.size) (h : sgsB (s.data.toList.take k) = true) : txtB s = (decide (1 ≤ s.size) && decide (s.size ≤ 16)) := by
  rw [sgs_full s k hk] at h
  simp [txtB, h]

theorem sgs_step (s : ByteArray) (k : Nat) (h : k < s.size) (hs : sgsB (s.data.toList.take k) = true) (hb : sgB s[k] = true) : sgsB (s.data.toList.take (k + 1)) = true := by
  rw [take_snoc s k h, sgs_snoc, hs, hb]; rfl

set_option maxHeartbeats 400000 in
theorem l1Signs_any (s : ByteArray) (w : World) (hs : s.size ≤ maxLen) :
    Calls Tryz.prog 142 #[.string s] w fun e w' => e = .returned (.bool (txtB s)) ∧ w' = w := by
  unfold maxLen at hs
  go_enter Tryz.func142, Tryz.ntmps142
  go_wp2
  go_loop [3] (fun i => ∃ k : Nat, k ≤ s.size ∧ i = .int .i64 k ∧ Hid (sgsB (s.data.toList.take k) = true)) (fun i => s.size - (intOf i).toNat)
  case atStart => exact ⟨0, Nat.zero_le _, rfl, hide rfl⟩
  case round =>
    obtain ⟨k, hk, rfl, hn⟩ := hrel
    by_cases hlt : k < s.size
    · cases hb : sgB s[k]
      · have Hb := hide hb
        go_wp2_with (go_at_call 154; refine (l1IsSign_any _ _).mono ?_; rintro e w' ⟨rfl, rfl⟩)
        go_ret
        exact ⟨ret_bool (txt_false_of s k hlt (unhide Hb)).symm, rfl⟩
      · have Hb := hide hb
        go_wp2_with (go_at_call 154; refine (l1IsSign_any _ _).mono ?_; rintro e w' ⟨rfl, rfl⟩)
        exact ⟨⟨k + 1, by omega, by go_num, hide (sgs_step s k hlt (unhide hn) (unhide Hb))⟩, by simp [intOf]; omega⟩
    · have ht := hide (txt_of s k hlt (unhide hn))
      by_cases h1 : 1 ≤ s.size
      · have h1' : (1 : Int) ≤ (s.size : Int) := by omega
        go_wp2
        go_ret
        exact ⟨ret_bool (by rw [unhide ht]; simp [h1]; omega), rfl⟩
      · go_wp2
        go_ret
        exact ⟨ret_bool (by rw [unhide ht]; simp [h1]), rfl⟩

set_option maxHeartbeats 400000 in
theorem isOpText_any (s : ByteArray) (w : World) (hs : s.size ≤ maxLen) :
    Calls Tryz.prog 140 #[.string s] w fun e w' => e = .returned (.bool (txtB s)) ∧ w' = w := by
  unfold maxLen at hs
  by_cases h1 : s.size < 1
  · go_enter Tryz.func140, Tryz.ntmps140
    go_wp2
    go_ret
    exact ⟨ret_bool (by simp [txtB]; omega), rfl⟩
  by_cases h2 : 16 < s.size
  · go_enter Tryz.func140, Tryz.ntmps140
    go_wp2
    go_ret
    exact ⟨ret_bool (by simp [txtB]; omega), rfl⟩
  go_enter Tryz.func140, Tryz.ntmps140
  go_wp2
  go_loop [14] (fun i => ∃ k : Nat, k ≤ s.size ∧ i = .int .i64 k ∧ Hid (sgsB (s.data.toList.take k) = true)) (fun i => s.size - (intOf i).toNat)
  case atStart => exact ⟨0, Nat.zero_le _, rfl, hide rfl⟩
  case round =>
    obtain ⟨k, hk, rfl, hn⟩ := hrel
    by_cases hlt : k < s.size
    · cases hb : sgB s[k]
      · have Hb := hide hb
        go_wp2_with (go_at_call 158; refine (isSign_any _ _).mono ?_; rintro e w' ⟨rfl, rfl⟩)
        go_ret
        exact ⟨ret_bool (txt_false_of s k hlt (unhide Hb)).symm, rfl⟩
      · have Hb := hide hb
        go_wp2_with (go_at_call 158; refine (isSign_any _ _).mono ?_; rintro e w' ⟨rfl, rfl⟩)
        exact ⟨⟨k + 1, by omega, by go_num, hide (sgs_step s k hlt (unhide hn) (unhide Hb))⟩, by simp [intOf]; omega⟩
    · have ht := hide (txt_of s k hlt (unhide hn))
      go_wp2
      go_ret
      exact ⟨ret_bool (by rw [unhide ht]; simp; omega), rfl⟩
end Go.Proofs.YtfboipappaonhaaGreat

/-
  Walks: the specification's trees in order.
-/
namespace Go.Proofs.YtfboipappaonhaaGreat
set_option maxRecDepth 100000
open Go.RowKit

theorem l3Kids_any (k : Int) (w : World) :
    Calls Tryz.prog 55 #[.int .i64 k] w fun e w' => e = .returned (.int .i64 (kids k : Int)) ∧ w' = w := by
  by_cases h4 : k = 4
  · subst h4
    go_enter Tryz.func55, Tryz.ntmps55
    go_wp2
    go_ret
    exact ⟨ret_int (by simp [kids]), rfl⟩
  by_cases h3 : k = 3
  · subst h3
    go_enter Tryz.func55, Tryz.ntmps55
    go_wp2
    go_ret
    exact ⟨ret_int (by simp [kids]), rfl⟩
  by_cases h5 : k = 5
  · subst h5
    go_enter Tryz.func55, Tryz.ntmps55
    go_wp2
    go_ret
    exact ⟨ret_int (by simp [kids]), rfl⟩
  by_cases h6 : k = 6
  · subst h6
    go_enter Tryz.func55, Tryz.ntmps55
    go_wp2
    go_ret
    exact ⟨ret_int (by simp [kids]), rfl⟩
  have e4 : (k == 4) = false := by simpa using h4
  have e3 : (k == 3) = false := by simpa using h3
  have e5 : (k == 5) = false := by simpa using h5
  have e6 : (k == 6) = false := by simpa using h6
  have HK := hide (show kids k = 0 by simp [kids, h4, h3, h5, h6])
  clear h4 h3 h5 h6
  go_enter Tryz.func55, Tryz.ntmps55
  go_wp2
  go_ret
  exact ⟨ret_int (by rw [unhide HK]; rfl), rfl⟩

theorem l3Kids_is {k : Int} {n : Nat} (h : kids k = n) (z : Int) (hz : (n : Int) = z) (w : World) :
    Calls Tryz.prog 55 #[.int .i64 k] w fun e w' => e = .returned (.int .i64 z) ∧ w' = w := by
  subst hz
  subst h
  exact l3Kids_any k w

/-- What l3From gives. -/
def frI (xs : List NodeR) (i : Nat) : Int := match frS xs i with
  | some f => (f : Int)
  | none => -1

theorem frI_some {xs : List NodeR} {i f : Nat} (h : frS xs i = some f) : frI xs i = (f : Int) := by unfold frI; rw [h]
theorem frI_none {xs : List NodeR} {i : Nat} (h : frS xs i = none) : frI xs i = -1 := by unfold frI; rw [h]

theorem l3From_neg (a : Option Addr) (n cap : Nat) (w : World) :
    Calls Tryz.prog 120 #[.slice a n cap, .int .i64 (-1)] w fun e w' => e = .returned (.int .i64 (-1)) ∧ w' = w := by
  go_enter Tryz.func120, Tryz.ntmps120
  go_wp2
  go_ret
  exact ⟨rfl, rfl⟩

set_option maxHeartbeats 4000000 in
theorem l3From_any (b off cap : Nat) (xs : List NodeR) (hm : xs.length ≤ 1048576) : ∀ (n i : Nat) (w : World), i < n → i < xs.length → OpsN w b off xs → b < w.heap.size →
    Calls Tryz.prog 120 #[.slice (some ⟨b, off, none⟩) xs.length cap, .int .i64 (i : Int)] w fun e w' => e = .returned (.int .i64 (frI xs i)) ∧ Below w.heap.size w w'
  | 0, _, _, h, _, _, _ => absurd h (Nat.not_lt_zero _)
  | n + 1, i, w, hin, hi, hw, hB => by
    obtain ⟨h0, h1, h2, h3⟩ := hw i hi
    have IH := hide (l3From_any b off cap xs hm n)
    have HW := hide hw
    have hiI : (i : Int) < (xs.length : Int) := by omega
    have hi0 : ¬ (i : Int) < 0 := by omega
    clear hw
    rcases kids_cases (atN xs i).k with hk | hk | hk
    · have HK := hide hk
      have HF := hide (frS_zero hk)
      clear hk
      by_cases ha : (atN xs i).a = 0
      · rw [ha] at h2
        by_cases hb : (atN xs i).b = 0
        · rw [hb] at h3
          have HR := hide (show frI xs i = (i : Int) from frI_some (by rw [unhide HF, if_pos ⟨ha, hb⟩]))
          clear ha hb
          go_enter Tryz.func120, Tryz.ntmps120
          go_wp2_with (go_at_call 55; refine (l3Kids_is (unhide HK) 0 rfl _).mono ?_; rintro e w' ⟨rfl, rfl⟩)
          go_ret
          exact ⟨ret_int (unhide HR).symm, below1 _ _⟩
        · have hb' : ((atN xs i).b == 0) = false := by simpa using hb
          have hb'' : ((atN xs i).b != 0) = true := by simpa using hb
          have HR := hide (show frI xs i = -1 from frI_none (by rw [unhide HF, if_neg (fun h => hb h.2)]))
          clear ha hb
          go_enter Tryz.func120, Tryz.ntmps120
          go_wp2_with (go_at_call 55; refine (l3Kids_is (unhide HK) 0 rfl _).mono ?_; rintro e w' ⟨rfl, rfl⟩)
          go_ret
          exact ⟨ret_int (unhide HR).symm, below1 _ _⟩
      · have ha' : ((atN xs i).a == 0) = false := by simpa using ha
        have ha'' : ((atN xs i).a != 0) = true := by simpa using ha
        have HR := hide (show frI xs i = -1 from frI_none (by rw [unhide HF, if_neg (fun h => ha h.1)]))
        clear ha
        go_enter Tryz.func120, Tryz.ntmps120
        go_wp2_with (go_at_call 55; refine (l3Kids_is (unhide HK) 0 rfl _).mono ?_; rintro e w' ⟨rfl, rfl⟩)
        go_ret
        exact ⟨ret_int (unhide HR).symm, below1 _ _⟩
    · have HK := hide hk
      have HF := hide (frS_one hk)
      clear hk
      by_cases ha : (atN xs i).a = (i : Int) - 1
      · rw [ha] at h2
        by_cases hb : (atN xs i).b = 0
        · rw [hb] at h3
          by_cases h1i : 1 ≤ i
          · have HR := hide (show frI xs i = frI xs (i - 1) by unfold frI; rw [unhide HF, if_pos ⟨h1i, ha, hb⟩])
            have ei : (i : Int) - 1 = ((i - 1 : Nat) : Int) := by omega
            clear ha hb
            go_enter Tryz.func120, Tryz.ntmps120
            go_wp2_with (first | (go_at_call 55; refine (l3Kids_is (unhide HK) 1 rfl _).mono ?_; rintro e w' ⟨rfl, rfl⟩) | (go_at_call 120; refine ((unhide IH) (i - 1) _ (by omega) (by omega) ((unhide HW).below (below1 _ _) hB) (by simp; omega)).mono ?_; rintro e w' ⟨rfl, hb1⟩))
            go_ret
            exact ⟨ret_int (unhide HR).symm, (below1 _ _).trans (hb1.mono (by simp))⟩
          · have HR := hide (show frI xs i = -1 from frI_none (by rw [unhide HF, if_neg (fun h => h1i h.1)]))
            have ei : (i : Int) - 1 = -1 := by omega
            clear ha hb h1i
            go_enter Tryz.func120, Tryz.ntmps120
            go_wp2_with (first | (go_at_call 55; refine (l3Kids_is (unhide HK) 1 rfl _).mono ?_; rintro e w' ⟨rfl, rfl⟩) | (go_at_call 120; refine (l3From_neg _ _ _ _).mono ?_; rintro e w' ⟨rfl, rfl⟩))
            go_ret
            exact ⟨ret_int (unhide HR).symm, below1 _ _⟩
        · have hb' : ((atN xs i).b == 0) = false := by simpa using hb
          have hb'' : ((atN xs i).b != 0) = true := by simpa using hb
          have HR := hide (show frI xs i = -1 from frI_none (by rw [unhide HF, if_neg (fun h => hb h.2.2)]))
          clear ha hb
          go_enter Tryz.func120, Tryz.ntmps120
          go_wp2_with (go_at_call 55; refine (l3Kids_is (unhide HK) 1 rfl _).mono ?_; rintro e w' ⟨rfl, rfl⟩)
          go_ret
          exact ⟨ret_int (unhide HR).symm, below1 _ _⟩
      · have ha' : ((atN xs i).a == (i : Int) - 1) = false := by simpa using ha
        have ha'' : ((atN xs i).a != (i : Int) - 1) = true := by simpa using ha
        have HR := hide (show frI xs i = -1 from frI_none (by rw [unhide HF, if_neg (fun h => ha h.2.1)]))
        clear ha
        go_enter Tryz.func120, Tryz.ntmps120
        go_wp2_with (go_at_call 55; refine (l3Kids_is (unhide HK) 1 rfl _).mono ?_; rintro e w' ⟨rfl, rfl⟩)
        go_ret
        exact ⟨ret_int (unhide HR).symm, below1 _ _⟩
    · have HK := hide hk
      have HN := hide (frS_two_none (xs := xs) (i := i) hk)
      have HP := hide (fun (p1 : 1 ≤ i) p2 f p3 p4 p5 => frS_two (xs := xs) (i := i) (f := f) hk p1 p2 p3 p4 p5)
      clear hk
      by_cases hb : (atN xs i).b = (i : Int) - 1
      case neg =>
        have hb' : ((atN xs i).b == (i : Int) - 1) = false := by simpa using hb
        have hb'' : ((atN xs i).b != (i : Int) - 1) = true := by simpa using hb
        have HR := hide (show frI xs i = -1 from frI_none ((unhide HN) (fun h => hb h.2.1)))
        clear hb
        go_enter Tryz.func120, Tryz.ntmps120
        go_wp2_with (go_at_call 55; refine (l3Kids_is (unhide HK) 2 rfl _).mono ?_; rintro e w' ⟨rfl, rfl⟩)
        go_ret
        exact ⟨ret_int (unhide HR).symm, below1 _ _⟩
      rw [hb] at h3
      by_cases h1i : 1 ≤ i
      case neg =>
        have HR := hide (show frI xs i = -1 from frI_none ((unhide HN) (fun h => h1i h.1)))
        have ei : (i : Int) - 1 = -1 := by omega
        clear hb h1i
        go_enter Tryz.func120, Tryz.ntmps120
        go_wp2_with (first | (go_at_call 55; refine (l3Kids_is (unhide HK) 2 rfl _).mono ?_; rintro e w' ⟨rfl, rfl⟩) | (go_at_call 120; refine (l3From_neg _ _ _ _).mono ?_; rintro e w' ⟨rfl, rfl⟩))
        go_ret
        exact ⟨ret_int (unhide HR).symm, below1 _ _⟩
      have ei : (i : Int) - 1 = ((i - 1 : Nat) : Int) := by omega
      cases hf : frS xs (i - 1) with
      | none =>
        have HR := hide (show frI xs i = -1 from frI_none ((unhide HN) (fun ⟨_, _, f, h, _⟩ => by rw [hf] at h; cases h)))
        have HI := hide (frI_none hf)
        clear hb hf
        go_enter Tryz.func120, Tryz.ntmps120
        go_wp2_with (first | (go_at_call 55; refine (l3Kids_is (unhide HK) 2 rfl _).mono ?_; rintro e w' ⟨rfl, rfl⟩) | (go_at_call 120; refine ((unhide IH) (i - 1) _ (by omega) (by omega) ((unhide HW).below (below1 _ _) hB) (by simp; omega)).mono ?_; rw [unhide HI]; rintro e w' ⟨rfl, hb1⟩))
        go_ret
        exact ⟨ret_int (unhide HR).symm, (below1 _ _).trans (hb1.mono (by simp))⟩
      | some f =>
        have hle := frS_le hf
        have HI := hide (frI_some hf)
        by_cases hf1 : 1 ≤ f
        case neg =>
          have HR := hide (show frI xs i = -1 from frI_none ((unhide HN) (fun ⟨_, _, f', h, h', _⟩ => by rw [hf] at h; injection h with h; omega)))
          have hf0 : (f : Int) < 1 := by omega
          clear hb hf
          go_enter Tryz.func120, Tryz.ntmps120
          go_wp2_with (first | (go_at_call 55; refine (l3Kids_is (unhide HK) 2 rfl _).mono ?_; rintro e w' ⟨rfl, rfl⟩) | (go_at_call 120; refine ((unhide IH) (i - 1) _ (by omega) (by omega) ((unhide HW).below (below1 _ _) hB) (by simp; omega)).mono ?_; rw [unhide HI]; rintro e w' ⟨rfl, hb1⟩))
          go_ret
          exact ⟨ret_int (unhide HR).symm, (below1 _ _).trans (hb1.mono (by simp))⟩
        have hf0 : ¬ (f : Int) < 1 := by omega
        have hfm : (f : Int) ≤ 1048576 := by omega
        by_cases ha : (atN xs i).a = (f : Int) - 1
        case neg =>
          have ha' : ((atN xs i).a == (f : Int) - 1) = false := by simpa using ha
          have ha'' : ((atN xs i).a != (f : Int) - 1) = true := by simpa using ha
          have HR := hide (show frI xs i = -1 from frI_none ((unhide HN) (fun ⟨_, _, f', h, _, h'⟩ => by rw [hf] at h; injection h with h; subst h; exact ha h')))
          clear hb hf ha
          go_enter Tryz.func120, Tryz.ntmps120
          go_wp2_with (first | (go_at_call 55; refine (l3Kids_is (unhide HK) 2 rfl _).mono ?_; rintro e w' ⟨rfl, rfl⟩) | (go_at_call 120; refine ((unhide IH) (i - 1) _ (by omega) (by omega) ((unhide HW).below (below1 _ _) hB) (by simp; omega)).mono ?_; rw [unhide HI]; rintro e w' ⟨rfl, hb1⟩; have c1 : w'.cell? ⟨w.heap.size, 2, none⟩ = some (.int .i64 (atN xs i).a) := (hb1.cell (p := ⟨w.heap.size, 2, none⟩) (by simp)).trans (by simp [go_sem])))
          go_ret
          exact ⟨ret_int (unhide HR).symm, (below1 _ _).trans (hb1.mono (by simp))⟩
        rw [ha] at h2
        have HR := hide (show frI xs i = frI xs (f - 1) by unfold frI; rw [(unhide HP) h1i hb f hf hf1 ha])
        have ef : (f : Int) - 1 = ((f - 1 : Nat) : Int) := by omega
        clear hb hf ha
        go_enter Tryz.func120, Tryz.ntmps120
        go_wp2_with (go_at_call 55; refine (l3Kids_is (unhide HK) 2 rfl _).mono ?_; rintro e w' ⟨rfl, rfl⟩)
        refine ((unhide IH) (i - 1) _ (by omega) (by omega) ((unhide HW).below (below1 _ _) hB) (by simp; omega)).mono ?_
        rw [unhide HI]
        rintro e w1 ⟨rfl, hb1⟩
        have c1 : w1.cell? ⟨w.heap.size, 2, none⟩ = some (.int .i64 ((f : Int) - 1)) := (hb1.cell (p := ⟨w.heap.size, 2, none⟩) (by simp)).trans (by simp [go_sem, ef])
        go_wp2_with fail
        refine ((unhide IH) (f - 1) _ (by omega) (by omega) ((unhide HW).below ((below1 _ _).trans (hb1.mono (by simp))) hB) (by have := hb1.size; simp at this; omega)).mono ?_
        rintro e w2 ⟨rfl, hb2⟩
        go_wp2_with fail
        go_ret
        exact ⟨ret_int (unhide HR).symm, ((below1 _ _).trans (hb1.mono (by simp))).trans (hb2.mono (by have := hb1.size; simp at this; omega))⟩

end Go.Proofs.YtfboipappaonhaaGreat
