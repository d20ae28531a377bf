import Derived.Test.YtokabkhnidlcnabT03
import Derived.Test.YtokabkhnidlcnabT04
import Derived.Test.YtokabkhnidlcnabT11
import Derived.Test.YtokabkhnidlcnabT12

/-
  Walks: the specification's trees in order.
-/
namespace Go.Proofs.Ytokabkhnidlcnab
set_option maxRecDepth 100000
open Go.RowKit

theorem l3Kids_any (k : Int) (w : World) :
    Calls Try.prog 102 #[.int .i64 k] w fun e w' => e = .returned (.int .i64 (kids k : Int)) ∧ w' = w := by
  by_cases h4 : k = 4
  · subst h4
    go_enter Try.func102, Try.ntmps102
    go_wp2
    go_ret
    exact ⟨ret_int (by simp [kids]), rfl⟩
  by_cases h3 : k = 3
  · subst h3
    go_enter Try.func102, Try.ntmps102
    go_wp2
    go_ret
    exact ⟨ret_int (by simp [kids]), rfl⟩
  by_cases h5 : k = 5
  · subst h5
    go_enter Try.func102, Try.ntmps102
    go_wp2
    go_ret
    exact ⟨ret_int (by simp [kids]), rfl⟩
  by_cases h6 : k = 6
  · subst h6
    go_enter Try.func102, Try.ntmps102
    go_wp2
    go_ret
    exact ⟨ret_int (by simp [kids]), rfl⟩
  have e4 : (k == 4) = false := by simpa using h4
  have e3 : (k == 3) = false := by simpa using h3
  have e5 : (k == 5) = false := by simpa using h5
  have e6 : (k == 6) = false := by simpa using h6
  have HK := hide (show kids k = 0 by simp [kids, h4, h3, h5, h6])
  clear h4 h3 h5 h6
  go_enter Try.func102, Try.ntmps102
  go_wp2
  go_ret
  exact ⟨ret_int (by rw [unhide HK]; rfl), rfl⟩

theorem l3Kids_is {k : Int} {n : Nat} (h : kids k = n) (z : Int) (hz : (n : Int) = z) (w : World) :
    Calls Try.prog 102 #[.int .i64 k] w fun e w' => e = .returned (.int .i64 z) ∧ w' = w := by
  subst hz
  subst h
  exact l3Kids_any k w

/-- What l3From gives. -/
def frI (xs : List NodeR) (i : Nat) : Int := match frS xs i with
  | some f => (f : Int)
  | none => -1

theorem frI_some {xs : List NodeR} {i f : Nat} (h : frS xs i = some f) : frI xs i = (f : Int) := by unfold frI; rw [h]
theorem frI_none {xs : List NodeR} {i : Nat} (h : frS xs i = none) : frI xs i = -1 := by unfold frI; rw [h]

theorem l3From_neg (a : Option Addr) (n cap : Nat) (w : World) :
    Calls Try.prog 109 #[.slice a n cap, .int .i64 (-1)] w fun e w' => e = .returned (.int .i64 (-1)) ∧ w' = w := by
  go_enter Try.func109, Try.ntmps109
  go_wp2
  go_ret
  exact ⟨rfl, rfl⟩

set_option maxHeartbeats 4000000 in
theorem l3From_any (b off cap : Nat) (xs : List NodeR) (hm : xs.length ≤ 1048576) : ∀ (n i : Nat) (w : World), i < n → i < xs.length → OpsN w b off xs → b < w.heap.size →
    Calls Try.prog 109 #[.slice (some ⟨b, off, none⟩) xs.length cap, .int .i64 (i : Int)] w fun e w' => e = .returned (.int .i64 (frI xs i)) ∧ Below w.heap.size w w'
  | 0, _, _, h, _, _, _ => absurd h (Nat.not_lt_zero _)
  | n + 1, i, w, hin, hi, hw, hB => by
    obtain ⟨h0, h1, h2, h3⟩ := hw i hi
    have IH := hide (l3From_any b off cap xs hm n)
    have HW := hide hw
    have hiI : (i : Int) < (xs.length : Int) := by omega
    have hi0 : ¬ (i : Int) < 0 := by omega
    clear hw
    rcases kids_cases (atN xs i).k with hk | hk | hk
    · have HK := hide hk
      have HF := hide (frS_zero hk)
      clear hk
      by_cases ha : (atN xs i).a = 0
      · rw [ha] at h2
        by_cases hb : (atN xs i).b = 0
        · rw [hb] at h3
          have HR := hide (show frI xs i = (i : Int) from frI_some (by rw [unhide HF, if_pos ⟨ha, hb⟩]))
          clear ha hb
          go_enter Try.func109, Try.ntmps109
          go_wp2_with (go_at_call 102; refine (l3Kids_is (unhide HK) 0 rfl _).mono ?_; rintro e w' ⟨rfl, rfl⟩)
          go_ret
          exact ⟨ret_int (unhide HR).symm, below1 _ _⟩
        · have hb' : ((atN xs i).b == 0) = false := by simpa using hb
          have hb'' : ((atN xs i).b != 0) = true := by simpa using hb
          have HR := hide (show frI xs i = -1 from frI_none (by rw [unhide HF, if_neg (fun h => hb h.2)]))
          clear ha hb
          go_enter Try.func109, Try.ntmps109
          go_wp2_with (go_at_call 102; refine (l3Kids_is (unhide HK) 0 rfl _).mono ?_; rintro e w' ⟨rfl, rfl⟩)
          go_ret
          exact ⟨ret_int (unhide HR).symm, below1 _ _⟩
      · have ha' : ((atN xs i).a == 0) = false := by simpa using ha
        have ha'' : ((atN xs i).a != 0) = true := by simpa using ha
        have HR := hide (show frI xs i = -1 from frI_none (by rw [unhide HF, if_neg (fun h => ha h.1)]))
        clear ha
        go_enter Try.func109, Try.ntmps109
        go_wp2_with (go_at_call 102; refine (l3Kids_is (unhide HK) 0 rfl _).mono ?_; rintro e w' ⟨rfl, rfl⟩)
        go_ret
        exact ⟨ret_int (unhide HR).symm, below1 _ _⟩
    · have HK := hide hk
      have HF := hide (frS_one hk)
      clear hk
      by_cases ha : (atN xs i).a = (i : Int) - 1
      · rw [ha] at h2
        by_cases hb : (atN xs i).b = 0
        · rw [hb] at h3
          by_cases h1i : 1 ≤ i
          · have HR := hide (show frI xs i = frI xs (i - 1) by unfold frI; rw [unhide HF, if_pos ⟨h1i, ha, hb⟩])
            have ei : (i : Int) - 1 = ((i - 1 : Nat) : Int) := by omega
            clear ha hb
            go_enter Try.func109, Try.ntmps109
            go_wp2_with (first | (go_at_call 102; refine (l3Kids_is (unhide HK) 1 rfl _).mono ?_; rintro e w' ⟨rfl, rfl⟩) | (go_at_call 109; refine ((unhide IH) (i - 1) _ (by omega) (by omega) ((unhide HW).below (below1 _ _) hB) (by simp; omega)).mono ?_; rintro e w' ⟨rfl, hb1⟩))
            go_ret
            exact ⟨ret_int (unhide HR).symm, (below1 _ _).trans (hb1.mono (by simp))⟩
          · have HR := hide (show frI xs i = -1 from frI_none (by rw [unhide HF, if_neg (fun h => h1i h.1)]))
            have ei : (i : Int) - 1 = -1 := by omega
            clear ha hb h1i
            go_enter Try.func109, Try.ntmps109
            go_wp2_with (first | (go_at_call 102; refine (l3Kids_is (unhide HK) 1 rfl _).mono ?_; rintro e w' ⟨rfl, rfl⟩) | (go_at_call 109; refine (l3From_neg _ _ _ _).mono ?_; rintro e w' ⟨rfl, rfl⟩))
            go_ret
            exact ⟨ret_int (unhide HR).symm, below1 _ _⟩
        · have hb' : ((atN xs i).b == 0) = false := by simpa using hb
          have hb'' : ((atN xs i).b != 0) = true := by simpa using hb
          have HR := hide (show frI xs i = -1 from frI_none (by rw [unhide HF, if_neg (fun h => hb h.2.2)]))
          clear ha hb
          go_enter Try.func109, Try.ntmps109
          go_wp2_with (go_at_call 102; refine (l3Kids_is (unhide HK) 1 rfl _).mono ?_; rintro e w' ⟨rfl, rfl⟩)
          go_ret
          exact ⟨ret_int (unhide HR).symm, below1 _ _⟩
      · have ha' : ((atN xs i).a == (i : Int) - 1) = false := by simpa using ha
        have ha'' : ((atN xs i).a != (i : Int) - 1) = true := by simpa using ha
        have HR := hide (show frI xs i = -1 from frI_none (by rw [unhide HF, if_neg (fun h => ha h.2.1)]))
        clear ha
        go_enter Try.func109, Try.ntmps109
        go_wp2_with (go_at_call 102; refine (l3Kids_is (unhide HK) 1 rfl _).mono ?_; rintro e w' ⟨rfl, rfl⟩)
        go_ret
        exact ⟨ret_int (unhide HR).symm, below1 _ _⟩
    · have HK := hide hk
      have HN := hide (frS_two_none (xs := xs) (i := i) hk)
      have HP := hide (fun (p1 : 1 ≤ i) p2 f p3 p4 p5 => frS_two (xs := xs) (i := i) (f := f) hk p1 p2 p3 p4 p5)
      clear hk
      by_cases hb : (atN xs i).b = (i : Int) - 1
      case neg =>
        have hb' : ((atN xs i).b == (i : Int) - 1) = false := by simpa using hb
        have hb'' : ((atN xs i).b != (i : Int) - 1) = true := by simpa using hb
        have HR := hide (show frI xs i = -1 from frI_none ((unhide HN) (fun h => hb h.2.1)))
        clear hb
        go_enter Try.func109, Try.ntmps109
        go_wp2_with (go_at_call 102; refine (l3Kids_is (unhide HK) 2 rfl _).mono ?_; rintro e w' ⟨rfl, rfl⟩)
        go_ret
        exact ⟨ret_int (unhide HR).symm, below1 _ _⟩
      rw [hb] at h3
      by_cases h1i : 1 ≤ i
      case neg =>
        have HR := hide (show frI xs i = -1 from frI_none ((unhide HN) (fun h => h1i h.1)))
        have ei : (i : Int) - 1 = -1 := by omega
        clear hb h1i
        go_enter Try.func109, Try.ntmps109
        go_wp2_with (first | (go_at_call 102; refine (l3Kids_is (unhide HK) 2 rfl _).mono ?_; rintro e w' ⟨rfl, rfl⟩) | (go_at_call 109; refine (l3From_neg _ _ _ _).mono ?_; rintro e w' ⟨rfl, rfl⟩))
        go_ret
        exact ⟨ret_int (unhide HR).symm, below1 _ _⟩
      have ei : (i : Int) - 1 = ((i - 1 : Nat) : Int) := by omega
      cases hf : frS xs (i - 1) with
      | none =>
        have HR := hide (show frI xs i = -1 from frI_none ((unhide HN) (fun ⟨_, _, f, h, _⟩ => by rw [hf] at h; cases h)))
        have HI := hide (frI_none hf)
        clear hb hf
        go_enter Try.func109, Try.ntmps109
        go_wp2_with (first | (go_at_call 102; refine (l3Kids_is (unhide HK) 2 rfl _).mono ?_; rintro e w' ⟨rfl, rfl⟩) | (go_at_call 109; refine ((unhide IH) (i - 1) _ (by omega) (by omega) ((unhide HW).below (below1 _ _) hB) (by simp; omega)).mono ?_; rw [unhide HI]; rintro e w' ⟨rfl, hb1⟩))
        go_ret
        exact ⟨ret_int (unhide HR).symm, (below1 _ _).trans (hb1.mono (by simp))⟩
      | some f =>
        have hle := frS_le hf
        have HI := hide (frI_some hf)
        by_cases hf1 : 1 ≤ f
        case neg =>
          have HR := hide (show frI xs i = -1 from frI_none ((unhide HN) (fun ⟨_, _, f', h, h', _⟩ => by rw [hf] at h; injection h with h; omega)))
          have hf0 : (f : Int) < 1 := by omega
          clear hb hf
          go_enter Try.func109, Try.ntmps109
          go_wp2_with (first | (go_at_call 102; refine (l3Kids_is (unhide HK) 2 rfl _).mono ?_; rintro e w' ⟨rfl, rfl⟩) | (go_at_call 109; refine ((unhide IH) (i - 1) _ (by omega) (by omega) ((unhide HW).below (below1 _ _) hB) (by simp; omega)).mono ?_; rw [unhide HI]; rintro e w' ⟨rfl, hb1⟩))
          go_ret
          exact ⟨ret_int (unhide HR).symm, (below1 _ _).trans (hb1.mono (by simp))⟩
        have hf0 : ¬ (f : Int) < 1 := by omega
        have hfm : (f : Int) ≤ 1048576 := by omega
        by_cases ha : (atN xs i).a = (f : Int) - 1
        case neg =>
          have ha' : ((atN xs i).a == (f : Int) - 1) = false := by simpa using ha
          have ha'' : ((atN xs i).a != (f : Int) - 1) = true := by simpa using ha
          have HR := hide (show frI xs i = -1 from frI_none ((unhide HN) (fun ⟨_, _, f', h, _, h'⟩ => by rw [hf] at h; injection h with h; subst h; exact ha h')))
          clear hb hf ha
          go_enter Try.func109, Try.ntmps109
          go_wp2_with (first | (go_at_call 102; refine (l3Kids_is (unhide HK) 2 rfl _).mono ?_; rintro e w' ⟨rfl, rfl⟩) | (go_at_call 109; refine ((unhide IH) (i - 1) _ (by omega) (by omega) ((unhide HW).below (below1 _ _) hB) (by simp; omega)).mono ?_; rw [unhide HI]; rintro e w' ⟨rfl, hb1⟩; have c1 : w'.cell? ⟨w.heap.size, 2, none⟩ = some (.int .i64 (atN xs i).a) := (hb1.cell (p := ⟨w.heap.size, 2, none⟩) (by simp)).trans (by simp [go_sem])))
          go_ret
          exact ⟨ret_int (unhide HR).symm, (below1 _ _).trans (hb1.mono (by simp))⟩
        rw [ha] at h2
        have HR := hide (show frI xs i = frI xs (f - 1) by unfold frI; rw [(unhide HP) h1i hb f hf hf1 ha])
        have ef : (f : Int) - 1 = ((f - 1 : Nat) : Int) := by omega
        clear hb hf ha
        go_enter Try.func109, Try.ntmps109
        go_wp2_with (go_at_call 102; refine (l3Kids_is (unhide HK) 2 rfl _).mono ?_; rintro e w' ⟨rfl, rfl⟩)
        refine ((unhide IH) (i - 1) _ (by omega) (by omega) ((unhide HW).below (below1 _ _) hB) (by simp; omega)).mono ?_
        rw [unhide HI]
        rintro e w1 ⟨rfl, hb1⟩
        have c1 : w1.cell? ⟨w.heap.size, 2, none⟩ = some (.int .i64 ((f : Int) - 1)) := (hb1.cell (p := ⟨w.heap.size, 2, none⟩) (by simp)).trans (by simp [go_sem, ef])
        go_wp2_with fail
        refine ((unhide IH) (f - 1) _ (by omega) (by omega) ((unhide HW).below ((below1 _ _).trans (hb1.mono (by simp))) hB) (by have := hb1.size; simp at this; omega)).mono ?_
        rintro e w2 ⟨rfl, hb2⟩
        go_wp2_with fail
        go_ret
        exact ⟨ret_int (unhide HR).symm, ((below1 _ _).trans (hb1.mono (by simp))).trans (hb2.mono (by have := hb1.size; simp at this; omega))⟩

end Go.Proofs.Ytokabkhnidlcnab

/-
  Walks: the specification's trees in order, the whole of it.
-/
namespace Go.Proofs.Ytokabkhnidlcnab
set_option maxRecDepth 100000
open Go.RowKit

theorem TxtOk_big {o : NodeR} (h : 20000 < o.t.size) : ¬ TxtOk o := fun h' => by have := h'.1; omega
theorem TxtOk_1 {o : NodeR} (h : o.t.size ≤ 20000) (hk : o.k = 1) : TxtOk o ↔ NumT o.t := by
  unfold TxtOk; rw [hk]; simp [h]
theorem TxtOk_2 {o : NodeR} (h : o.t.size ≤ 20000) (hk : o.k = 2) : TxtOk o ↔ NameT o.t := by
  unfold TxtOk; rw [hk]; simp [h]
theorem TxtOk_6 {o : NodeR} (hk : o.k = 6) : TxtOk o ↔ o.t.size = 0 := by
  unfold TxtOk; rw [hk]
  refine ⟨fun h => ?_, fun h => ⟨by omega, Or.inr (Or.inr (Or.inl ⟨rfl, h⟩))⟩⟩
  rcases h.2 with h | h | h | h
  · omega
  · omega
  · exact h.2
  · omega
theorem TxtOk_3 {o : NodeR} (h : o.t.size ≤ 20000) (hk : o.k = 3 ∨ o.k = 4 ∨ o.k = 5) : TxtOk o ↔ txtB o.t = true := by
  unfold TxtOk; rcases hk with hk | hk | hk <;> rw [hk] <;> simp [h]
theorem TxtOk_0 {o : NodeR} (hk : ¬ (o.k = 1 ∨ o.k = 2 ∨ o.k = 3 ∨ o.k = 4 ∨ o.k = 5 ∨ o.k = 6)) : ¬ TxtOk o := by
  unfold TxtOk; rintro ⟨_, h | h | h | h⟩
  · omega
  · omega
  · omega
  · omega

set_option maxHeartbeats 1000000 in
theorem l3TextOk_any (o : NodeR) (w : World) (hs : o.t.size ≤ maxLen) :
    Calls Try.prog 110 #[.agg #[.int .i64 o.k, .string o.t, .int .i64 o.a, .int .i64 o.b]] w fun e w' => RetB e (TxtOk o) ∧ Below w.heap.size w w' := by
  have HS := hide hs
  unfold maxLen at hs
  by_cases hbig : 20000 < o.t.size
  · have hbigI : (20000 : Int) < (o.t.size : Int) := by omega
    have HN := hide (TxtOk_big hbig)
    clear hbig
    go_enter Try.func110, Try.ntmps110
    go_wp2_with fail
    go_ret
    exact ⟨⟨_, rfl, says_false (unhide HN)⟩, below1 _ _⟩
  have hbigI : ¬ (20000 : Int) < (o.t.size : Int) := by omega
  have hsm : o.t.size ≤ 20000 := by omega
  clear hbig
  by_cases k1 : o.k = 1
  · have HT := hide (TxtOk_1 hsm k1)
    rw [k1]
    clear k1
    go_enter Try.func110, Try.ntmps110
    go_wp2_with (go_at_call 84; refine (l2IsNumber_any _ _ (unhide HS)).mono ?_; rintro e w' ⟨⟨v, rfl, hv⟩, rfl⟩)
    go_ret
    exact ⟨⟨_, rfl, hv.trans (unhide HT).symm⟩, below1 _ _⟩
  by_cases k2 : o.k = 2
  · have HT := hide (TxtOk_2 hsm k2)
    rw [k2]
    clear k1 k2
    go_enter Try.func110, Try.ntmps110
    go_wp2_with (go_at_call 85; refine (l2IsName_any _ _ (unhide HS)).mono ?_; rintro e w' ⟨⟨v, rfl, hv⟩, rfl⟩)
    go_ret
    exact ⟨⟨_, rfl, hv.trans (unhide HT).symm⟩, below1 _ _⟩
  by_cases k6 : o.k = 6
  · have HT := hide (TxtOk_6 k6)
    rw [k6]
    clear k1 k2 k6
    by_cases h0 : o.t.size = 0
    · rw [bytes_nil h0]
      go_enter Try.func110, Try.ntmps110
      go_wp2_with fail
      go_ret
      exact ⟨⟨_, rfl, says_true ((unhide HT).2 h0)⟩, below1 _ _⟩
    · have hne : o.t.toList.isEmpty = false := not_empty h0
      go_enter Try.func110, Try.ntmps110
      go_wp2_with fail
      go_ret
      exact ⟨⟨_, rfl, says_false (fun h => h0 ((unhide HT).1 h))⟩, below1 _ _⟩
  have e1 : (o.k == 1) = false := by simpa using k1
  have e2 : (o.k == 2) = false := by simpa using k2
  have e6 : (o.k == 6) = false := by simpa using k6
  by_cases k3 : 3 ≤ o.k
  · by_cases k5 : o.k ≤ 5
    · have HT := hide (TxtOk_3 hsm (by omega))
      clear k1 k2 k6
      go_enter Try.func110, Try.ntmps110
      go_wp2_with (go_at_call 116; refine (l1Signs_any _ _ (unhide HS)).mono ?_; rintro e w' ⟨rfl, rfl⟩)
      go_ret
      exact ⟨⟨_, rfl, (unhide HT).symm⟩, below1 _ _⟩
    · have HT := hide (TxtOk_0 (o := o) (by omega))
      clear k1 k2 k6
      go_enter Try.func110, Try.ntmps110
      go_wp2_with fail
      go_ret
      exact ⟨⟨_, rfl, says_false (unhide HT)⟩, below1 _ _⟩
  · have HT := hide (TxtOk_0 (o := o) (by omega))
    clear k1 k2 k6
    go_enter Try.func110, Try.ntmps110
    go_wp2_with fail
    go_ret
    exact ⟨⟨_, rfl, says_false (unhide HT)⟩, below1 _ _⟩

set_option maxHeartbeats 4000000 in
theorem l3InOrder_any (b off cap : Nat) (xs : List NodeR) (w : World) (hm : xs.length ≤ 1048576) (hw : OpsN w b off xs) (hs : SizedN xs) (hB : b < w.heap.size) :
    Calls Try.prog 71 #[.agg #[.slice (some ⟨b, off, none⟩) xs.length cap]] w fun e w' => RetB e (InOrd xs) ∧ Below w.heap.size w w' := by
  have HW := hide hw
  have HS := hide hs
  clear hw hs
  by_cases h1 : xs.length < 1
  · have h1I : (xs.length : Int) < 1 := by omega
    have HN := hide (show ¬ InOrd xs from fun h => by have := h.1; omega)
    go_enter Try.func71, Try.ntmps71
    go_wp2_with fail
    go_ret
    exact ⟨⟨_, rfl, says_false (unhide HN)⟩, below1 _ _⟩
  have h1I : ¬ (xs.length : Int) < 1 := by omega
  by_cases h2 : 20000 < xs.length
  · have h2I : (20000 : Int) < (xs.length : Int) := by omega
    have HN := hide (show ¬ InOrd xs from fun h => by have := h.2.1; omega)
    go_enter Try.func71, Try.ntmps71
    go_wp2_with fail
    go_ret
    exact ⟨⟨_, rfl, says_false (unhide HN)⟩, below1 _ _⟩
  have h2I : ¬ (20000 : Int) < (xs.length : Int) := by omega
  have ei : (xs.length : Int) - 1 = ((xs.length - 1 : Nat) : Int) := by omega
  by_cases h3 : frS xs (xs.length - 1) = some 0
  case neg =>
    have h3I : (frI xs (xs.length - 1) != 0) = true := by
      unfold frI
      cases hf : frS xs (xs.length - 1) with
      | none => rfl
      | some f =>
        simp only [bne_iff_ne, ne_eq]
        intro e
        have : f = 0 := by omega
        subst this
        exact h3 hf
    have HN := hide (show ¬ InOrd xs from fun h => h3 h.2.2.1)
    clear h3
    go_enter Try.func71, Try.ntmps71
    go_wp2_with (go_at_call 109; refine (l3From_any b off cap xs hm xs.length (xs.length - 1) _ (by omega) (by omega) ((unhide HW).below (below1 _ _) hB) (by simp; omega)).mono ?_; rintro e w' ⟨rfl, hb1⟩)
    go_ret
    exact ⟨⟨_, rfl, says_false (unhide HN)⟩, (below1 _ _).trans (hb1.mono (by simp))⟩
  have HI := hide (frI_some h3)
  have H3 := hide h3
  clear h3
  go_enter Try.func71, Try.ntmps71
  go_wp2_with fail
  refine (l3From_any b off cap xs hm xs.length (xs.length - 1) _ (by omega) (by omega) ((unhide HW).below (below1 _ _) hB) (by simp; omega)).mono ?_
  rw [unhide HI]
  rintro e w1 ⟨rfl, hb1⟩
  have bel1 : Below w.heap.size w w1 := (below1 _ _).trans (hb1.mono (by simp))
  clear hb1
  go_wp2_with fail
  go_loopw [4] (fun i wr => ∃ k : Nat, k ≤ xs.length ∧ i = .int .i64 (k : Int) ∧ Hid (∀ j, j < k → TxtOk (atN xs j)) ∧ Below w.heap.size w wr) (fun i _ => xs.length - (intOf i).toNat)
  case atStart => exact ⟨0, Nat.zero_le _, rfl, hide (fun j hj => absurd hj (Nat.not_lt_zero j)), bel1⟩
  case round =>
    obtain ⟨k, hk, rfl, hok, hbel⟩ := hrel
    by_cases hlt : k < xs.length
    · obtain ⟨c0, c1, c2, c3⟩ := ((unhide HW) k hlt).below hbel hB
      have hltI : (k : Int) < (xs.length : Int) := by omega
      go_wp2_with fail
      refine (l3TextOk_any (atN xs k) _ ((unhide HS) k hlt)).mono ?_
      rintro e w2 ⟨⟨v, rfl, hv⟩, hb2⟩
      have bel2 := hbel.trans (hb2.mono hbel.size)
      have HV := hide hv
      clear hv hb2
      cases v
      · go_wp2_with fail
        go_ret
        exact ⟨⟨_, rfl, says_false (fun h => Bool.false_ne_true ((unhide HV).2 (h.2.2.2 k hlt)))⟩, bel2⟩
      · go_wp2_with fail
        refine ⟨⟨k + 1, by omega, by go_num, hide (fun j hj => ?_), bel2⟩, by simp [intOf]; omega⟩
        by_cases e : j = k
        · subst e; exact (unhide HV).1 rfl
        · exact (unhide hok) j (by omega)
    · have hkn : k = xs.length := by omega
      go_wp2_with fail
      go_ret
      exact ⟨⟨_, rfl, says_true ⟨by omega, by omega, unhide H3, fun i hi => (unhide hok) i (by omega)⟩⟩, hbel⟩
end Go.Proofs.Ytokabkhnidlcnab
