/-
  Walks: the specification's trees in order, the whole of it.
-/
import Derived.Test.YtokabkhnidlcnabSpecTree1
import Derived.Test.YtokabkhnidlcnabKindB
namespace Go.Proofs.Ytokabkhnidlcnab
set_option maxRecDepth 100000
open Go.RowKit

theorem TxtOk_big {o : NodeR} (h : 20000 < o.t.size) : ¬ TxtOk o := fun h' => by have := h'.1; omega
theorem TxtOk_1 {o : NodeR} (h : o.t.size ≤ 20000) (hk : o.k = 1) : TxtOk o ↔ NumT o.t := by
  unfold TxtOk; rw [hk]; simp [h]
theorem TxtOk_2 {o : NodeR} (h : o.t.size ≤ 20000) (hk : o.k = 2) : TxtOk o ↔ NameT o.t := by
  unfold TxtOk; rw [hk]; simp [h]
theorem TxtOk_6 {o : NodeR} (hk : o.k = 6) : TxtOk o ↔ o.t.size = 0 := by
  unfold TxtOk; rw [hk]
  refine ⟨fun h => ?_, fun h => ⟨by omega, Or.inr (Or.inr (Or.inl ⟨rfl, h⟩))⟩⟩
  rcases h.2 with h | h | h | h
  · omega
  · omega
  · exact h.2
  · omega
theorem TxtOk_3 {o : NodeR} (h : o.t.size ≤ 20000) (hk : o.k = 3 ∨ o.k = 4 ∨ o.k = 5) : TxtOk o ↔ txtB o.t = true := by
  unfold TxtOk; rcases hk with hk | hk | hk <;> rw [hk] <;> simp [h]
theorem TxtOk_0 {o : NodeR} (hk : ¬ (o.k = 1 ∨ o.k = 2 ∨ o.k = 3 ∨ o.k = 4 ∨ o.k = 5 ∨ o.k = 6)) : ¬ TxtOk o := by
  unfold TxtOk; rintro ⟨_, h | h | h | h⟩
  · omega
  · omega
  · omega
  · omega

set_option maxHeartbeats 1000000 in
theorem l3TextOk_any (o : NodeR) (w : World) (hs : o.t.size ≤ maxLen) :
    Calls Try.prog 110 #[.agg #[.int .i64 o.k, .string o.t, .int .i64 o.a, .int .i64 o.b]] w fun e w' => RetB e (TxtOk o) ∧ Below w.heap.size w w' := by
  have HS := hide hs
  unfold maxLen at hs
  by_cases hbig : 20000 < o.t.size
  · have hbigI : (20000 : Int) < (o.t.size : Int) := by omega
    have HN := hide (TxtOk_big hbig)
    clear hbig
    go_enter Try.func110, Try.ntmps110
    go_wp2_with fail
    go_ret
    exact ⟨⟨_, rfl, says_false (unhide HN)⟩, below1 _ _⟩
  have hbigI : ¬ (20000 : Int) < (o.t.size : Int) := by omega
  have hsm : o.t.size ≤ 20000 := by omega
  clear hbig
  by_cases k1 : o.k = 1
  · have HT := hide (TxtOk_1 hsm k1)
    rw [k1]
    clear k1
    go_enter Try.func110, Try.ntmps110
    go_wp2_with (go_at_call 84; refine (l2IsNumber_any _ _ (unhide HS)).mono ?_; rintro e w' ⟨⟨v, rfl, hv⟩, rfl⟩)
    go_ret
    exact ⟨⟨_, rfl, hv.trans (unhide HT).symm⟩, below1 _ _⟩
  by_cases k2 : o.k = 2
  · have HT := hide (TxtOk_2 hsm k2)
    rw [k2]
    clear k1 k2
    go_enter Try.func110, Try.ntmps110
    go_wp2_with (go_at_call 85; refine (l2IsName_any _ _ (unhide HS)).mono ?_; rintro e w' ⟨⟨v, rfl, hv⟩, rfl⟩)
    go_ret
    exact ⟨⟨_, rfl, hv.trans (unhide HT).symm⟩, below1 _ _⟩
  by_cases k6 : o.k = 6
  · have HT := hide (TxtOk_6 k6)
    rw [k6]
    clear k1 k2 k6
    by_cases h0 : o.t.size = 0
    · rw [bytes_nil h0]
      go_enter Try.func110, Try.ntmps110
      go_wp2_with fail
      go_ret
      exact ⟨⟨_, rfl, says_true ((unhide HT).2 h0)⟩, below1 _ _⟩
    · have hne : o.t.toList.isEmpty = false := not_empty h0
      go_enter Try.func110, Try.ntmps110
      go_wp2_with fail
      go_ret
      exact ⟨⟨_, rfl, says_false (fun h => h0 ((unhide HT).1 h))⟩, below1 _ _⟩
  have e1 : (o.k == 1) = false := by simpa using k1
  have e2 : (o.k == 2) = false := by simpa using k2
  have e6 : (o.k == 6) = false := by simpa using k6
  by_cases k3 : 3 ≤ o.k
  · by_cases k5 : o.k ≤ 5
    · have HT := hide (TxtOk_3 hsm (by omega))
      clear k1 k2 k6
      go_enter Try.func110, Try.ntmps110
      go_wp2_with (go_at_call 116; refine (l1Signs_any _ _ (unhide HS)).mono ?_; rintro e w' ⟨rfl, rfl⟩)
      go_ret
      exact ⟨⟨_, rfl, (unhide HT).symm⟩, below1 _ _⟩
    · have HT := hide (TxtOk_0 (o := o) (by omega))
      clear k1 k2 k6
      go_enter Try.func110, Try.ntmps110
      go_wp2_with fail
      go_ret
      exact ⟨⟨_, rfl, says_false (unhide HT)⟩, below1 _ _⟩
  · have HT := hide (TxtOk_0 (o := o) (by omega))
    clear k1 k2 k6
    go_enter Try.func110, Try.ntmps110
    go_wp2_with fail
    go_ret
    exact ⟨⟨_, rfl, says_false (unhide HT)⟩, below1 _ _⟩

set_option maxHeartbeats 4000000 in
theorem l3InOrder_any (b off cap : Nat) (xs : List NodeR) (w : World) (hm : xs.length ≤ 1048576) (hw : OpsN w b off xs) (hs : SizedN xs) (hB : b < w.heap.size) :
    Calls Try.prog 71 #[.agg #[.slice (some ⟨b, off, none⟩) xs.length cap]] w fun e w' => RetB e (InOrd xs) ∧ Below w.heap.size w w' := by
  have HW := hide hw
  have HS := hide hs
  clear hw hs
  by_cases h1 : xs.length < 1
  · have h1I : (xs.length : Int) < 1 := by omega
    have HN := hide (show ¬ InOrd xs from fun h => by have := h.1; omega)
    go_enter Try.func71, Try.ntmps71
    go_wp2_with fail
    go_ret
    exact ⟨⟨_, rfl, says_false (unhide HN)⟩, below1 _ _⟩
  have h1I : ¬ (xs.length : Int) < 1 := by omega
  by_cases h2 : 20000 < xs.length
  · have h2I : (20000 : Int) < (xs.length : Int) := by omega
    have HN := hide (show ¬ InOrd xs from fun h => by have := h.2.1; omega)
    go_enter Try.func71, Try.ntmps71
    go_wp2_with fail
    go_ret
    exact ⟨⟨_, rfl, says_false (unhide HN)⟩, below1 _ _⟩
  have h2I : ¬ (20000 : Int) < (xs.length : Int) := by omega
  have ei : (xs.length : Int) - 1 = ((xs.length - 1 : Nat) : Int) := by omega
  by_cases h3 : frS xs (xs.length - 1) = some 0
  case neg =>
    have h3I : (frI xs (xs.length - 1) != 0) = true := by
      unfold frI
      cases hf : frS xs (xs.length - 1) with
      | none => rfl
      | some f =>
        simp only [bne_iff_ne, ne_eq]
        intro e
        have : f = 0 := by omega
        subst this
        exact h3 hf
    have HN := hide (show ¬ InOrd xs from fun h => h3 h.2.2.1)
    clear h3
    go_enter Try.func71, Try.ntmps71
    go_wp2_with (go_at_call 109; refine (l3From_any b off cap xs hm xs.length (xs.length - 1) _ (by omega) (by omega) ((unhide HW).below (below1 _ _) hB) (by simp; omega)).mono ?_; rintro e w' ⟨rfl, hb1⟩)
    go_ret
    exact ⟨⟨_, rfl, says_false (unhide HN)⟩, (below1 _ _).trans (hb1.mono (by simp))⟩
  have HI := hide (frI_some h3)
  have H3 := hide h3
  clear h3
  go_enter Try.func71, Try.ntmps71
  go_wp2_with fail
  refine (l3From_any b off cap xs hm xs.length (xs.length - 1) _ (by omega) (by omega) ((unhide HW).below (below1 _ _) hB) (by simp; omega)).mono ?_
  rw [unhide HI]
  rintro e w1 ⟨rfl, hb1⟩
  have bel1 : Below w.heap.size w w1 := (below1 _ _).trans (hb1.mono (by simp))
  clear hb1
  go_wp2_with fail
  go_loopw [4] (fun i wr => ∃ k : Nat, k ≤ xs.length ∧ i = .int .i64 (k : Int) ∧ Hid (∀ j, j < k → TxtOk (atN xs j)) ∧ Below w.heap.size w wr) (fun i _ => xs.length - (intOf i).toNat)
  case atStart => exact ⟨0, Nat.zero_le _, rfl, hide (fun j hj => absurd hj (Nat.not_lt_zero j)), bel1⟩
  case round =>
    obtain ⟨k, hk, rfl, hok, hbel⟩ := hrel
    by_cases hlt : k < xs.length
    · obtain ⟨c0, c1, c2, c3⟩ := ((unhide HW) k hlt).below hbel hB
      have hltI : (k : Int) < (xs.length : Int) := by omega
      go_wp2_with fail
      refine (l3TextOk_any (atN xs k) _ ((unhide HS) k hlt)).mono ?_
      rintro e w2 ⟨⟨v, rfl, hv⟩, hb2⟩
      have bel2 := hbel.trans (hb2.mono hbel.size)
      have HV := hide hv
      clear hv hb2
      cases v
      · go_wp2_with fail
        go_ret
        exact ⟨⟨_, rfl, says_false (fun h => Bool.false_ne_true ((unhide HV).2 (h.2.2.2 k hlt)))⟩, bel2⟩
      · go_wp2_with fail
        refine ⟨⟨k + 1, by omega, by go_num, hide (fun j hj => ?_), bel2⟩, by simp [intOf]; omega⟩
        by_cases e : j = k
        · subst e; exact (unhide HV).1 rfl
        · exact (unhide hok) j (by omega)
    · have hkn : k = xs.length := by omega
      go_wp2_with fail
      go_ret
      exact ⟨⟨_, rfl, says_true ⟨by omega, by omega, unhide H3, fun i hi => (unhide hok) i (by omega)⟩⟩, hbel⟩
end Go.Proofs.Ytokabkhnidlcnab
