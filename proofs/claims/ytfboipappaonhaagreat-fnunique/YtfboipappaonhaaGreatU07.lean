import Derived.Test.YtfboipappaonhaaGreatU04
import Derived.Test.YtfboipappaonhaaGreatU05
import Derived.Test.YtfboipappaonhaaGreatU06

/-
  Walks: the program's kinds of bytes.
-/
namespace Go.Proofs.YtfboipappaonhaaGreat
set_option maxRecDepth 100000
open Go.RowKit

set_option maxHeartbeats 1000000 in
theorem kindOfByte_any (c : UInt8) (w : World) :
    Calls Tryz.prog 125 #[.int .u8 (c.toNat : Int)] w fun e w' => e = .returned (.int .i64 (cls c : Int)) ∧ w' = w := by
  have hsg := cls_sg c
  go_enter Tryz.func125, Tryz.ntmps125
  go_wp2_with (go_at_call 158; refine (isSign_any _ _).mono ?_; rintro e w' ⟨rfl, hx⟩; obtain rfl := hx.symm)
  all_goals (go_ret; refine ⟨ret_int ?_, rfl⟩; go_light; (try simp only [beq_iff_eq, beq_eq_false_iff_ne, ne_eq] at *); unfold cls; (repeat' split) <;> (try simp_all) <;> (try omega))

/-- A byte goes on with a word. -/
def stays (first : Nat) (c : UInt8) : Bool := decide (cls c = 2 ∨ (cls c = 3 ∧ first = 3))

set_option maxHeartbeats 1000000 in
theorem staysWord_any (first : Nat) (c : UInt8) (w : World) :
    Calls Tryz.prog 159 #[.int .i64 (first : Int), .int .u8 (c.toNat : Int)] w fun e w' => e = .returned (.bool (stays first c)) ∧ w' = w := by
  by_cases h2 : cls c = 2
  · have HR := hide (show stays first c = true by simp [stays, h2])
    have HC := hide (show (cls c : Int) = 2 by omega)
    clear h2
    go_enter Tryz.func159, Tryz.ntmps159
    go_wp2_with (go_at_call 125; refine (kindOfByte_any _ _).mono ?_; rw [unhide HC]; rintro e w' ⟨rfl, hx⟩; obtain rfl := hx.symm)
    go_ret
    exact ⟨ret_bool (unhide HR).symm, rfl⟩
  by_cases h3 : cls c = 3
  · have HC := hide (show (cls c : Int) = 3 by omega)
    by_cases hf : first = 3
    · have HR := hide (show stays first c = true by simp [stays, h3, hf])
      subst hf
      clear h2 h3
      go_enter Tryz.func159, Tryz.ntmps159
      go_wp2_with (go_at_call 125; refine (kindOfByte_any _ _).mono ?_; rw [unhide HC]; rintro e w' ⟨rfl, hx⟩; obtain rfl := hx.symm)
      go_ret
      exact ⟨ret_bool (unhide HR).symm, rfl⟩
    · have HR := hide (show stays first c = false by simp [stays, h3, hf])
      have hf' : ((first : Int) == 3) = false := by simp; omega
      clear h2 h3 hf
      go_enter Tryz.func159, Tryz.ntmps159
      go_wp2_with (go_at_call 125; refine (kindOfByte_any _ _).mono ?_; rw [unhide HC]; rintro e w' ⟨rfl, hx⟩; obtain rfl := hx.symm)
      go_ret
      exact ⟨ret_bool (unhide HR).symm, rfl⟩
  · have HR := hide (show stays first c = false by simp [stays, h2, h3])
    have h2' : ((cls c : Int) == 2) = false := by simp; omega
    have h3' : ((cls c : Int) == 3) = false := by simp; omega
    clear h2 h3
    go_enter Tryz.func159, Tryz.ntmps159
    go_wp2_with (go_at_call 125; refine (kindOfByte_any _ _).mono ?_; rintro e w' ⟨rfl, hx⟩; obtain rfl := hx.symm)
    go_ret
    exact ⟨ret_bool (unhide HR).symm, rfl⟩

theorem loop_ne (t : ByteArray) : ∀ (n i : Nat) (r : List UInt8), n = t.size - i → r ≠ [] → ByteArray.toList.loop t i r ≠ []
  | 0, i, r, h, hr => by
    unfold ByteArray.toList.loop
    rw [if_neg (by omega)]
    simpa using hr
  | n + 1, i, r, h, hr => by
    unfold ByteArray.toList.loop
    rw [if_pos (by omega)]
    exact loop_ne t n (i + 1) _ (by omega) (by simp)

theorem not_empty {t : ByteArray} (h : t.size ≠ 0) : t.toList.isEmpty = false := by
  rw [List.isEmpty_eq_false_iff]
  unfold ByteArray.toList ByteArray.toList.loop
  rw [if_pos (by omega)]
  exact loop_ne t (t.size - 1) 1 _ rfl (by simp)

theorem bytes_nil {t : ByteArray} (h : t.size = 0) : t = ⟨#[]⟩ := by
  obtain ⟨d⟩ := t
  congr 1
  exact Array.eq_empty_of_size_eq_zero h

theorem says_false {p : Prop} (h : ¬ p) : Says false p := ⟨fun e => (by cases e), fun e => absurd e h⟩
theorem says_true {p : Prop} (h : p) : Says true p := ⟨fun _ => h, fun _ => rfl⟩
end Go.Proofs.YtfboipappaonhaaGreat

/-
  Walks: the program's kinds of bytes, forms of texts.
-/
namespace Go.Proofs.YtfboipappaonhaaGreat
set_option maxRecDepth 100000
open Go.RowKit


end Go.Proofs.YtfboipappaonhaaGreat

/-
  Walks: the specification's trees in order, the whole of it.
-/
namespace Go.Proofs.YtfboipappaonhaaGreat
set_option maxRecDepth 100000
open Go.RowKit

theorem TxtOk_big {o : NodeR} (h : 20000 < o.t.size) : ¬ TxtOk o := fun h' => by have := h'.1; omega
theorem TxtOk_1 {o : NodeR} (h : o.t.size ≤ 20000) (hk : o.k = 1) : TxtOk o ↔ NumT o.t := by
  unfold TxtOk; rw [hk]; simp [h]
theorem TxtOk_2 {o : NodeR} (h : o.t.size ≤ 20000) (hk : o.k = 2) : TxtOk o ↔ NameT o.t := by
  unfold TxtOk; rw [hk]; simp [h]
theorem TxtOk_6 {o : NodeR} (hk : o.k = 6) : TxtOk o ↔ o.t.size = 0 := by
  unfold TxtOk; rw [hk]
  refine ⟨fun h => ?_, fun h => ⟨by omega, Or.inr (Or.inr (Or.inl ⟨rfl, h⟩))⟩⟩
  rcases h.2 with h | h | h | h
  · omega
  · omega
  · exact h.2
  · omega
theorem TxtOk_3 {o : NodeR} (h : o.t.size ≤ 20000) (hk : o.k = 3 ∨ o.k = 4 ∨ o.k = 5) : TxtOk o ↔ txtB o.t = true := by
  unfold TxtOk; rcases hk with hk | hk | hk <;> rw [hk] <;> simp [h]
theorem TxtOk_0 {o : NodeR} (hk : ¬ (o.k = 1 ∨ o.k = 2 ∨ o.k = 3 ∨ o.k = 4 ∨ o.k = 5 ∨ o.k = 6)) : ¬ TxtOk o := by
  unfold TxtOk; rintro ⟨_, h | h | h | h⟩
  · omega
  · omega
  · omega
  · omega

set_option maxHeartbeats 1000000 in
theorem l3TextOk_any (o : NodeR) (w : World) (hs : o.t.size ≤ maxLen) :
    Calls Tryz.prog 121 #[.agg #[.int .i64 o.k, .string o.t, .int .i64 o.a, .int .i64 o.b]] w fun e w' => RetB e (TxtOk o) ∧ Below w.heap.size w w' := by
  have HS := hide hs
  unfold maxLen at hs
  by_cases hbig : 20000 < o.t.size
  · have hbigI : (20000 : Int) < (o.t.size : Int) := by omega
    have HN := hide (TxtOk_big hbig)
    clear hbig
    go_enter Tryz.func121, Tryz.ntmps121
    go_wp2_with fail
    go_ret
    exact ⟨⟨_, rfl, says_false (unhide HN)⟩, below1 _ _⟩
  have hbigI : ¬ (20000 : Int) < (o.t.size : Int) := by omega
  have hsm : o.t.size ≤ 20000 := by omega
  clear hbig
  by_cases k1 : o.k = 1
  · have HT := hide (TxtOk_1 hsm k1)
    rw [k1]
    clear k1
    go_enter Tryz.func121, Tryz.ntmps121
    go_wp2_with (go_at_call 145; refine (l2IsNumber_any _ _ (unhide HS)).mono ?_; rintro e w' ⟨⟨v, rfl, hv⟩, rfl⟩)
    go_ret
    exact ⟨⟨_, rfl, hv.trans (unhide HT).symm⟩, below1 _ _⟩
  by_cases k2 : o.k = 2
  · have HT := hide (TxtOk_2 hsm k2)
    rw [k2]
    clear k1 k2
    go_enter Tryz.func121, Tryz.ntmps121
    go_wp2_with (go_at_call 146; refine (l2IsName_any _ _ (unhide HS)).mono ?_; rintro e w' ⟨⟨v, rfl, hv⟩, rfl⟩)
    go_ret
    exact ⟨⟨_, rfl, hv.trans (unhide HT).symm⟩, below1 _ _⟩
  by_cases k6 : o.k = 6
  · have HT := hide (TxtOk_6 k6)
    rw [k6]
    clear k1 k2 k6
    by_cases h0 : o.t.size = 0
    · rw [bytes_nil h0]
      go_enter Tryz.func121, Tryz.ntmps121
      go_wp2_with fail
      go_ret
      exact ⟨⟨_, rfl, says_true ((unhide HT).2 h0)⟩, below1 _ _⟩
    · have hne : o.t.toList.isEmpty = false := not_empty h0
      go_enter Tryz.func121, Tryz.ntmps121
      go_wp2_with fail
      go_ret
      exact ⟨⟨_, rfl, says_false (fun h => h0 ((unhide HT).1 h))⟩, below1 _ _⟩
  have e1 : (o.k == 1) = false := by simpa using k1
  have e2 : (o.k == 2) = false := by simpa using k2
  have e6 : (o.k == 6) = false := by simpa using k6
  by_cases k3 : 3 ≤ o.k
  · by_cases k5 : o.k ≤ 5
    · have HT := hide (TxtOk_3 hsm (by omega))
      clear k1 k2 k6
      go_enter Tryz.func121, Tryz.ntmps121
      go_wp2_with (go_at_call 142; refine (l1Signs_any _ _ (unhide HS)).mono ?_; rintro e w' ⟨rfl, rfl⟩)
      go_ret
      exact ⟨⟨_, rfl, (unhide HT).symm⟩, below1 _ _⟩
    · have HT := hide (TxtOk_0 (o := o) (by omega))
      clear k1 k2 k6
      go_enter Tryz.func121, Tryz.ntmps121
      go_wp2_with fail
      go_ret
      exact ⟨⟨_, rfl, says_false (unhide HT)⟩, below1 _ _⟩
  · have HT := hide (TxtOk_0 (o := o) (by omega))
    clear k1 k2 k6
    go_enter Tryz.func121, Tryz.ntmps121
    go_wp2_with fail
    go_ret
    exact ⟨⟨_, rfl, says_false (unhide HT)⟩, below1 _ _⟩

set_option maxHeartbeats 4000000 in
theorem l3InOrder_any (b off cap : Nat) (xs : List NodeR) (w : World) (hm : xs.length ≤ 1048576) (hw : OpsN w b off xs) (hs : SizedN xs) (hB : b < w.heap.size) :
    Calls Tryz.prog 72 #[.agg #[.slice (some ⟨b, off, none⟩) xs.length cap]] w fun e w' => RetB e (InOrd xs) ∧ Below w.heap.size w w' := by
  have HW := hide hw
  have HS := hide hs
  clear hw hs
  by_cases h1 : xs.length < 1
  · have h1I : (xs.length : Int) < 1 := by omega
    have HN := hide (show ¬ InOrd xs from fun h => by have := h.1; omega)
    go_enter Tryz.func72, Tryz.ntmps72
    go_wp2_with fail
    go_ret
    exact ⟨⟨_, rfl, says_false (unhide HN)⟩, below1 _ _⟩
  have h1I : ¬ (xs.length : Int) < 1 := by omega
  by_cases h2 : 20000 < xs.length
  · have h2I : (20000 : Int) < (xs.length : Int) := by omega
    have HN := hide (show ¬ InOrd xs from fun h => by have := h.2.1; omega)
    go_enter Tryz.func72, Tryz.ntmps72
    go_wp2_with fail
    go_ret
    exact ⟨⟨_, rfl, says_false (unhide HN)⟩, below1 _ _⟩
  have h2I : ¬ (20000 : Int) < (xs.length : Int) := by omega
  have ei : (xs.length : Int) - 1 = ((xs.length - 1 : Nat) : Int) := by omega
  by_cases h3 : frS xs (xs.length - 1) = some 0
  case neg =>
    have h3I : (frI xs (xs.length - 1) != 0) = true := by
      unfold frI
      cases hf : frS xs (xs.length - 1) with
      | none => rfl
      | some f =>
        simp only [bne_iff_ne, ne_eq]
        intro e
        have : f = 0 := by omega
        subst this
        exact h3 hf
    have HN := hide (show ¬ InOrd xs from fun h => h3 h.2.2.1)
    clear h3
    go_enter Tryz.func72, Tryz.ntmps72
    go_wp2_with (go_at_call 120; refine (l3From_any b off cap xs hm xs.length (xs.length - 1) _ (by omega) (by omega) ((unhide HW).below (below1 _ _) hB) (by simp; omega)).mono ?_; rintro e w' ⟨rfl, hb1⟩)
    go_ret
    exact ⟨⟨_, rfl, says_false (unhide HN)⟩, (below1 _ _).trans (hb1.mono (by simp))⟩
  have HI := hide (frI_some h3)
  have H3 := hide h3
  clear h3
  go_enter Tryz.func72, Tryz.ntmps72
  go_wp2_with fail
  refine (l3From_any b off cap xs hm xs.length (xs.length - 1) _ (by omega) (by omega) ((unhide HW).below (below1 _ _) hB) (by simp; omega)).mono ?_
  rw [unhide HI]
  rintro e w1 ⟨rfl, hb1⟩
  have bel1 : Below w.heap.size w w1 := (below1 _ _).trans (hb1.mono (by simp))
  clear hb1
  go_wp2_with fail
  go_loopw [4] (fun i wr => ∃ k : Nat, k ≤ xs.length ∧ i = .int .i64 (k : Int) ∧ Hid (∀ j, j < k → TxtOk (atN xs j)) ∧ Below w.heap.size w wr) (fun i _ => xs.length - (intOf i).toNat)
  case atStart => exact ⟨0, Nat.zero_le _, rfl, hide (fun j hj => absurd hj (Nat.not_lt_zero j)), bel1⟩
  case round =>
    obtain ⟨k, hk, rfl, hok, hbel⟩ := hrel
    by_cases hlt : k < xs.length
    · obtain ⟨c0, c1, c2, c3⟩ := ((unhide HW) k hlt).below hbel hB
      have hltI : (k : Int) < (xs.length : Int) := by omega
      go_wp2_with fail
      refine (l3TextOk_any (atN xs k) _ ((unhide HS) k hlt)).mono ?_
      rintro e w2 ⟨⟨v, rfl, hv⟩, hb2⟩
      have bel2 := hbel.trans (hb2.mono hbel.size)
      have HV := hide hv
      clear hv hb2
      cases v
      · go_wp2_with fail
        go_ret
        exact ⟨⟨_, rfl, says_false (fun h => Bool.false_ne_true ((unhide HV).2 (h.2.2.2 k hlt)))⟩, bel2⟩
      · go_wp2_with fail
        refine ⟨⟨k + 1, by omega, by go_num, hide (fun j hj => ?_), bel2⟩, by simp [intOf]; omega⟩
        by_cases e : j = k
        · subst e; exact (unhide HV).1 rfl
        · exact (unhide hok) j (by omega)
    · have hkn : k = xs.length := by omega
      go_wp2_with fail
      go_ret
      exact ⟨⟨_, rfl, says_true ⟨by omega, by omega, unhide H3, fun i hi => (unhide hok) i (by omega)⟩⟩, hbel⟩
end Go.Proofs.YtfboipappaonhaaGreat
