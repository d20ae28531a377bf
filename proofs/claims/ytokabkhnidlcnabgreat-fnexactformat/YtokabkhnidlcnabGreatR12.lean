import Derived.Deep.RegionHeldLaw
import Derived.BigQuiet
import Derived.Test.YtokabkhnidlcnabGreatR05
import Derived.Test.YtokabkhnidlcnabGreatR11

/-
  Walks: the specification's trees in order, the whole of it.
-/
namespace Go.Proofs.YtokabkhnidlcnabGreat
set_option maxRecDepth 100000
open Go.RowKit

theorem TxtOk_big {o : NodeR} (h : 20000 < o.t.size) : ¬ TxtOk o := fun h' => by have := h'.1; omega
theorem TxtOk_1 {o : NodeR} (h : o.t.size ≤ 20000) (hk : o.k = 1) : TxtOk o ↔ NumT o.t := by
  unfold TxtOk; rw [hk]; simp [h]
theorem TxtOk_2 {o : NodeR} (h : o.t.size ≤ 20000) (hk : o.k = 2) : TxtOk o ↔ NameT o.t := by
  unfold TxtOk; rw [hk]; simp [h]
theorem TxtOk_6 {o : NodeR} (hk : o.k = 6) : TxtOk o ↔ o.t.size = 0 := by
  unfold TxtOk; rw [hk]
  refine ⟨fun h => ?_, fun h => ⟨by omega, Or.inr (Or.inr (Or.inl ⟨rfl, h⟩))⟩⟩
  rcases h.2 with h | h | h | h
  · omega
  · omega
  · exact h.2
  · omega
theorem TxtOk_3 {o : NodeR} (h : o.t.size ≤ 20000) (hk : o.k = 3 ∨ o.k = 4 ∨ o.k = 5) : TxtOk o ↔ txtB o.t = true := by
  unfold TxtOk; rcases hk with hk | hk | hk <;> rw [hk] <;> simp [h]
theorem TxtOk_0 {o : NodeR} (hk : ¬ (o.k = 1 ∨ o.k = 2 ∨ o.k = 3 ∨ o.k = 4 ∨ o.k = 5 ∨ o.k = 6)) : ¬ TxtOk o := by
  unfold TxtOk; rintro ⟨_, h | h | h | h⟩
  · omega
  · omega
  · omega
  · omega

set_option maxHeartbeats 1000000 in
theorem l3TextOk_any (o : NodeR) (w : World) (hs : o.t.size ≤ maxLen) :
    Calls Tryz.prog 139 #[.agg #[.int .i64 o.k, .string o.t, .int .i64 o.a, .int .i64 o.b]] w fun e w' => RetB e (TxtOk o) ∧ Below w.heap.size w w' := by
  have HS := hide hs
  unfold maxLen at hs
  by_cases hbig : 20000 < o.t.size
  · have hbigI : (20000 : Int) < (o.t.size : Int) := by omega
    have HN := hide (TxtOk_big hbig)
    clear hbig
    go_enter Tryz.func139, Tryz.ntmps139
    go_wp2_with fail
    go_ret
    exact ⟨⟨_, rfl, says_false (unhide HN)⟩, below1 _ _⟩
  have hbigI : ¬ (20000 : Int) < (o.t.size : Int) := by omega
  have hsm : o.t.size ≤ 20000 := by omega
  clear hbig
  by_cases k1 : o.k = 1
  · have HT := hide (TxtOk_1 hsm k1)
    rw [k1]
    clear k1
    go_enter Tryz.func139, Tryz.ntmps139
    go_wp2_with (go_at_call 94; refine (l2IsNumber_any _ _ (unhide HS)).mono ?_; rintro e w' ⟨⟨v, rfl, hv⟩, rfl⟩)
    go_ret
    exact ⟨⟨_, rfl, hv.trans (unhide HT).symm⟩, below1 _ _⟩
  by_cases k2 : o.k = 2
  · have HT := hide (TxtOk_2 hsm k2)
    rw [k2]
    clear k1 k2
    go_enter Tryz.func139, Tryz.ntmps139
    go_wp2_with (go_at_call 95; refine (l2IsName_any _ _ (unhide HS)).mono ?_; rintro e w' ⟨⟨v, rfl, hv⟩, rfl⟩)
    go_ret
    exact ⟨⟨_, rfl, hv.trans (unhide HT).symm⟩, below1 _ _⟩
  by_cases k6 : o.k = 6
  · have HT := hide (TxtOk_6 k6)
    rw [k6]
    clear k1 k2 k6
    by_cases h0 : o.t.size = 0
    · rw [bytes_nil h0]
      go_enter Tryz.func139, Tryz.ntmps139
      go_wp2_with fail
      go_ret
      exact ⟨⟨_, rfl, says_true ((unhide HT).2 h0)⟩, below1 _ _⟩
    · have hne : o.t.toList.isEmpty = false := not_empty h0
      go_enter Tryz.func139, Tryz.ntmps139
      go_wp2_with fail
      go_ret
      exact ⟨⟨_, rfl, says_false (fun h => h0 ((unhide HT).1 h))⟩, below1 _ _⟩
  have e1 : (o.k == 1) = false := by simpa using k1
  have e2 : (o.k == 2) = false := by simpa using k2
  have e6 : (o.k == 6) = false := by simpa using k6
  by_cases k3 : 3 ≤ o.k
  · by_cases k5 : o.k ≤ 5
    · have HT := hide (TxtOk_3 hsm (by omega))
      clear k1 k2 k6
      go_enter Tryz.func139, Tryz.ntmps139
      go_wp2_with (go_at_call 91; refine (l1Signs_any _ _ (unhide HS)).mono ?_; rintro e w' ⟨rfl, rfl⟩)
      go_ret
      exact ⟨⟨_, rfl, (unhide HT).symm⟩, below1 _ _⟩
    · have HT := hide (TxtOk_0 (o := o) (by omega))
      clear k1 k2 k6
      go_enter Tryz.func139, Tryz.ntmps139
      go_wp2_with fail
      go_ret
      exact ⟨⟨_, rfl, says_false (unhide HT)⟩, below1 _ _⟩
  · have HT := hide (TxtOk_0 (o := o) (by omega))
    clear k1 k2 k6
    go_enter Tryz.func139, Tryz.ntmps139
    go_wp2_with fail
    go_ret
    exact ⟨⟨_, rfl, says_false (unhide HT)⟩, below1 _ _⟩

set_option maxHeartbeats 4000000 in
theorem l3InOrder_any (b off cap : Nat) (xs : List NodeR) (w : World) (hm : xs.length ≤ 1048576) (hw : OpsN w b off xs) (hs : SizedN xs) (hB : b < w.heap.size) :
    Calls Tryz.prog 119 #[.agg #[.slice (some ⟨b, off, none⟩) xs.length cap]] w fun e w' => RetB e (InOrd xs) ∧ Below w.heap.size w w' := by
  have HW := hide hw
  have HS := hide hs
  clear hw hs
  by_cases h1 : xs.length < 1
  · have h1I : (xs.length : Int) < 1 := by omega
    have HN := hide (show ¬ InOrd xs from fun h => by have := h.1; omega)
    go_enter Tryz.func119, Tryz.ntmps119
    go_wp2_with fail
    go_ret
    exact ⟨⟨_, rfl, says_false (unhide HN)⟩, below1 _ _⟩
  have h1I : ¬ (xs.length : Int) < 1 := by omega
  by_cases h2 : 20000 < xs.length
  · have h2I : (20000 : Int) < (xs.length : Int) := by omega
    have HN := hide (show ¬ InOrd xs from fun h => by have := h.2.1; omega)
    go_enter Tryz.func119, Tryz.ntmps119
    go_wp2_with fail
    go_ret
    exact ⟨⟨_, rfl, says_false (unhide HN)⟩, below1 _ _⟩
  have h2I : ¬ (20000 : Int) < (xs.length : Int) := by omega
  have ei : (xs.length : Int) - 1 = ((xs.length - 1 : Nat) : Int) := by omega
  by_cases h3 : frS xs (xs.length - 1) = some 0
  case neg =>
    have h3I : (frI xs (xs.length - 1) != 0) = true := by
      unfold frI
      cases hf : frS xs (xs.length - 1) with
      | none => rfl
      | some f =>
        simp only [bne_iff_ne, ne_eq]
        intro e
        have : f = 0 := by omega
        subst this
        exact h3 hf
    have HN := hide (show ¬ InOrd xs from fun h => h3 h.2.2.1)
    clear h3
    go_enter Tryz.func119, Tryz.ntmps119
    go_wp2_with (go_at_call 138; refine (l3From_any b off cap xs hm xs.length (xs.length - 1) _ (by omega) (by omega) ((unhide HW).below (below1 _ _) hB) (by simp; omega)).mono ?_; rintro e w' ⟨rfl, hb1⟩)
    go_ret
    exact ⟨⟨_, rfl, says_false (unhide HN)⟩, (below1 _ _).trans (hb1.mono (by simp))⟩
  have HI := hide (frI_some h3)
  have H3 := hide h3
  clear h3
  go_enter Tryz.func119, Tryz.ntmps119
  go_wp2_with fail
  refine (l3From_any b off cap xs hm xs.length (xs.length - 1) _ (by omega) (by omega) ((unhide HW).below (below1 _ _) hB) (by simp; omega)).mono ?_
  rw [unhide HI]
  rintro e w1 ⟨rfl, hb1⟩
  have bel1 : Below w.heap.size w w1 := (below1 _ _).trans (hb1.mono (by simp))
  clear hb1
  go_wp2_with fail
  go_loopw [4] (fun i wr => ∃ k : Nat, k ≤ xs.length ∧ i = .int .i64 (k : Int) ∧ Hid (∀ j, j < k → TxtOk (atN xs j)) ∧ Below w.heap.size w wr) (fun i _ => xs.length - (intOf i).toNat)
  case atStart => exact ⟨0, Nat.zero_le _, rfl, hide (fun j hj => absurd hj (Nat.not_lt_zero j)), bel1⟩
  case round =>
    obtain ⟨k, hk, rfl, hok, hbel⟩ := hrel
    by_cases hlt : k < xs.length
    · obtain ⟨c0, c1, c2, c3⟩ := ((unhide HW) k hlt).below hbel hB
      have hltI : (k : Int) < (xs.length : Int) := by omega
      go_wp2_with fail
      refine (l3TextOk_any (atN xs k) _ ((unhide HS) k hlt)).mono ?_
      rintro e w2 ⟨⟨v, rfl, hv⟩, hb2⟩
      have bel2 := hbel.trans (hb2.mono hbel.size)
      have HV := hide hv
      clear hv hb2
      cases v
      · go_wp2_with fail
        go_ret
        exact ⟨⟨_, rfl, says_false (fun h => Bool.false_ne_true ((unhide HV).2 (h.2.2.2 k hlt)))⟩, bel2⟩
      · go_wp2_with fail
        refine ⟨⟨k + 1, by omega, by go_num, hide (fun j hj => ?_), bel2⟩, by simp [intOf]; omega⟩
        by_cases e : j = k
        · subst e; exact (unhide HV).1 rfl
        · exact (unhide hok) j (by omega)
    · have hkn : k = xs.length := by omega
      go_wp2_with fail
      go_ret
      exact ⟨⟨_, rfl, says_true ⟨by omega, by omega, unhide H3, fun i hi => (unhide hok) i (by omega)⟩⟩, hbel⟩
end Go.Proofs.YtokabkhnidlcnabGreat

/-
  Walks: the specification's operators of nodes, levels, holes.
-/
namespace Go.Proofs.YtokabkhnidlcnabGreat
set_option maxRecDepth 100000
set_option linter.unusedVariables false
set_option linter.unusedSimpArgs false
open Go.RowKit

theorem keep4 {w : World} {B b o : Nat} {v0 v1 v2 v3 u : Value} (hne : B ≠ b) (h : w.cell? ⟨b, o, none⟩ = some u) : ((((w.setCell ⟨B, 0, none⟩ v0).setCell ⟨B, 1, none⟩ v1).setCell ⟨B, 2, none⟩ v2).setCell ⟨B, 3, none⟩ v3).cell? ⟨b, o, none⟩ = some u := by
  rw [World.cell?_setCell_far _ _ _ _ hne, World.cell?_setCell_far _ _ _ _ hne, World.cell?_setCell_far _ _ _ _ hne, World.cell?_setCell_far _ _ _ _ hne]
  exact h

/-- What l2Find gives. -/
def fI : Option Nat → Int
  | some j => (j : Int)
  | none => -1

set_option maxHeartbeats 1000000 in
theorem l2Find_ix (b off cap : Nat) (xs : List OpR) (t : ByteArray) (kd : Int) (w : World) (hm : xs.length ≤ 1048576) (hw : Ops w b off xs) (hB : b < w.heap.size) :
    Calls Tryz.prog 97 #[.agg #[.slice (some ⟨b, off, none⟩) xs.length cap], .string t, .int .i64 kd] w fun e w' => e = .returned (.int .i64 (fI (fnd xs t kd))) ∧ Below w.heap.size w w' := by
  go_enter Tryz.func97, Tryz.ntmps97
  go_wp2
  have hops : Ops (w.alloc (.cells #[.slice (some ⟨b, off, none⟩) xs.length cap] 33)) b off xs := hw.below (below1 _ _) hB
  have HO := hide hops
  clear hops hw
  go_loop [7] (fun i => ∃ k : Nat, k ≤ xs.length ∧ i = .int .i64 k ∧ Hid (∀ j, j < k → ¬ ((atO xs j).s = t ∧ (atO xs j).k = kd))) (fun i => xs.length - (intOf i).toNat)
  case atStart => exact ⟨0, Nat.zero_le _, rfl, hide (fun j h => by omega)⟩
  case round =>
    obtain ⟨k, hk, rfl, hn⟩ := hrel
    by_cases hlt : k < xs.length
    · obtain ⟨a0, a1, a2, a3⟩ := (unhide HO) k hlt
      have hnx := hide (show ∀ (_ : ¬ ((atO xs k).s = t ∧ (atO xs k).k = kd)), ∀ j, j < k + 1 → ¬ ((atO xs j).s = t ∧ (atO xs j).k = kd) from fun hne j hj => by
        by_cases e : j = k
        · subst e; exact hne
        · exact (unhide hn) j (by omega))
      go_wp2
      · rename_i hs1 hk1 _
        go_ret
        refine ⟨ret_int ?_, below1 _ _⟩
        rw [fnd_first hlt (unhide hn) ⟨bytes_inj hs1, by simpa using hk1⟩]
        rfl
      · refine ⟨⟨k + 1, by omega, by go_num, hide ((unhide hnx) ?_)⟩, by simp [intOf]; omega⟩
        rintro ⟨_, h⟩
        simp_all
      · refine ⟨⟨k + 1, by omega, by go_num, hide ((unhide hnx) ?_)⟩, by simp [intOf]; omega⟩
        rintro ⟨h, _⟩
        simp_all
    · go_wp2
      go_ret
      refine ⟨ret_int ?_, below1 _ _⟩
      rw [fnd_not (fun j hj => (unhide hn) j (by omega))]
      rfl

theorem l3IsOp_any (o : NodeR) (w : World) (v : Bool) (hv : v = decide (3 ≤ o.k ∧ o.k ≤ 5)) :
    Calls Tryz.prog 82 #[.agg #[.int .i64 o.k, .string o.t, .int .i64 o.a, .int .i64 o.b]] w fun e w' => e = .returned (.bool v) ∧ Below w.heap.size w w' := by
  by_cases h3 : 3 ≤ o.k
  · by_cases h5 : o.k ≤ 5
    · have HV := hide (show v = true by rw [hv]; simp [h3, h5])
      clear hv
      go_enter Tryz.func82, Tryz.ntmps82
      go_wp2
      go_ret
      exact ⟨ret_bool (unhide HV).symm, below1 _ _⟩
    · have HV := hide (show v = false by rw [hv]; simp [h5])
      clear hv
      go_enter Tryz.func82, Tryz.ntmps82
      go_wp2
      go_ret
      exact ⟨ret_bool (unhide HV).symm, below1 _ _⟩
  · have HV := hide (show v = false by rw [hv]; simp [h3])
    clear hv
    go_enter Tryz.func82, Tryz.ntmps82
    go_wp2
    go_ret
    exact ⟨ret_bool (unhide HV).symm, below1 _ _⟩

set_option maxHeartbeats 1000000 in
theorem l3OpOf_any (b off cap : Nat) (xs : List OpR) (o : NodeR) (j : Nat) (w : World) (hm : xs.length ≤ 1048576) (hw : Ops w b off xs) (hB : b < w.heap.size) (h3 : 3 ≤ o.k) (h5 : o.k ≤ 5) (hf : fnd xs o.t (o.k - 2) = some j) :
    Calls Tryz.prog 100 #[.agg #[.slice (some ⟨b, off, none⟩) xs.length cap], .agg #[.int .i64 o.k, .string o.t, .int .i64 o.a, .int .i64 o.b]] w fun e w' => e = .returned (.agg #[.string (atO xs j).s, .int .i64 (atO xs j).k, .int .i64 (atO xs j).l, .int .i64 (atO xs j).sd]) ∧ Below w.heap.size w w' := by
  have hj := (fnd_some hf).1
  have hjI : (j : Int) < (xs.length : Int) := by omega
  have HFI := hide (show fI (fnd xs o.t (o.k - 2)) = (j : Int) by rw [hf]; rfl)
  have HW := hide hw
  clear hw hf
  have HW3 := hide (show ∀ o1 o2 o3 : Obj, CellsAt (((w.alloc o1).alloc o2).alloc o3).drew b off xs j from fun o1 o2 o3 => ((unhide HW) j hj).below ((((below1 w o1).alloc (by simp) o2).alloc (by simp; omega) o3).drew) hB)
  go_enter Tryz.func100, Tryz.ntmps100
  go_wp2_with fail
  obtain ⟨r0, r1, r2, r3⟩ := (unhide HW3) (.cells #[.slice (some ⟨b, off, none⟩) xs.length cap] 33) (.cells #[.int .i64 o.k, .string o.t, .int .i64 o.a, .int .i64 o.b] 115) (.cells #[.string ⟨#[]⟩, .int .i64 0, .int .i64 0, .int .i64 0] 104)
  have HB3 := hide (show ∀ o1 o2 o3 : Obj, Below w.heap.size w (((w.alloc o1).alloc o2).alloc o3).drew from fun o1 o2 o3 => (((below1 w o1).alloc (by simp) o2).alloc (by simp; omega) o3).drew)
  have hbn1 : b ≠ w.heap.size + 1 + 1 := by omega
  have hbn2 : w.heap.size + 1 + 1 ≠ b := by omega
  have HWR := hide (show IntKind.i64.wrap (o.k - 2) = o.k - 2 by rw [IntKind.wrap_i64]; omega)
  have HSZ := hide (show ((((w.alloc (.cells #[.slice (some ⟨b, off, none⟩) xs.length cap] 33)).alloc (.cells #[.int .i64 o.k, .string o.t, .int .i64 o.a, .int .i64 o.b] 115)).alloc (.cells #[.string ⟨#[]⟩, .int .i64 0, .int .i64 0, .int .i64 0] 104)).drew).heap.size = w.heap.size + 3 from (show (((w.alloc (.cells #[.slice (some ⟨b, off, none⟩) xs.length cap] 33)).alloc (.cells #[.int .i64 o.k, .string o.t, .int .i64 o.a, .int .i64 o.b] 115)).alloc (.cells #[.string ⟨#[]⟩, .int .i64 0, .int .i64 0, .int .i64 0] 104)).heap.size = w.heap.size + 3 by simp))
  have HLT := hide (show b < ((((w.alloc (.cells #[.slice (some ⟨b, off, none⟩) xs.length cap] 33)).alloc (.cells #[.int .i64 o.k, .string o.t, .int .i64 o.a, .int .i64 o.b] 115)).alloc (.cells #[.string ⟨#[]⟩, .int .i64 0, .int .i64 0, .int .i64 0] 104)).drew).heap.size by rw [unhide HSZ]; omega)
  have HL0 := hide (show w.heap.size < ((((w.alloc (.cells #[.slice (some ⟨b, off, none⟩) xs.length cap] 33)).alloc (.cells #[.int .i64 o.k, .string o.t, .int .i64 o.a, .int .i64 o.b] 115)).alloc (.cells #[.string ⟨#[]⟩, .int .i64 0, .int .i64 0, .int .i64 0] 104)).drew).heap.size by rw [unhide HSZ]; omega)
  have HL1 := hide (show w.heap.size + 1 < ((((w.alloc (.cells #[.slice (some ⟨b, off, none⟩) xs.length cap] 33)).alloc (.cells #[.int .i64 o.k, .string o.t, .int .i64 o.a, .int .i64 o.b] 115)).alloc (.cells #[.string ⟨#[]⟩, .int .i64 0, .int .i64 0, .int .i64 0] 104)).drew).heap.size by rw [unhide HSZ]; omega)
  have HL2 := hide (show w.heap.size + 1 + 1 < ((((w.alloc (.cells #[.slice (some ⟨b, off, none⟩) xs.length cap] 33)).alloc (.cells #[.int .i64 o.k, .string o.t, .int .i64 o.a, .int .i64 o.b] 115)).alloc (.cells #[.string ⟨#[]⟩, .int .i64 0, .int .i64 0, .int .i64 0] 104)).drew).heap.size by rw [unhide HSZ]; omega)
  have HLW := hide (show w.heap.size ≤ ((((w.alloc (.cells #[.slice (some ⟨b, off, none⟩) xs.length cap] 33)).alloc (.cells #[.int .i64 o.k, .string o.t, .int .i64 o.a, .int .i64 o.b] 115)).alloc (.cells #[.string ⟨#[]⟩, .int .i64 0, .int .i64 0, .int .i64 0] 104)).drew).heap.size by rw [unhide HSZ]; omega)
  have HC0 := hide (show ((((w.alloc (.cells #[.slice (some ⟨b, off, none⟩) xs.length cap] 33)).alloc (.cells #[.int .i64 o.k, .string o.t, .int .i64 o.a, .int .i64 o.b] 115)).alloc (.cells #[.string ⟨#[]⟩, .int .i64 0, .int .i64 0, .int .i64 0] 104)).drew).cell? ⟨w.heap.size, 0, none⟩ = some (.slice (some ⟨b, off, none⟩) xs.length cap) ∧ ((((w.alloc (.cells #[.slice (some ⟨b, off, none⟩) xs.length cap] 33)).alloc (.cells #[.int .i64 o.k, .string o.t, .int .i64 o.a, .int .i64 o.b] 115)).alloc (.cells #[.string ⟨#[]⟩, .int .i64 0, .int .i64 0, .int .i64 0] 104)).drew).cell? ⟨w.heap.size + 1, 0, none⟩ = some (.int .i64 o.k) ∧ ((((w.alloc (.cells #[.slice (some ⟨b, off, none⟩) xs.length cap] 33)).alloc (.cells #[.int .i64 o.k, .string o.t, .int .i64 o.a, .int .i64 o.b] 115)).alloc (.cells #[.string ⟨#[]⟩, .int .i64 0, .int .i64 0, .int .i64 0] 104)).drew).cell? ⟨w.heap.size + 1, 1, none⟩ = some (.string o.t) from
    (show (((w.alloc (.cells #[.slice (some ⟨b, off, none⟩) xs.length cap] 33)).alloc (.cells #[.int .i64 o.k, .string o.t, .int .i64 o.a, .int .i64 o.b] 115)).alloc (.cells #[.string ⟨#[]⟩, .int .i64 0, .int .i64 0, .int .i64 0] 104)).cell? ⟨w.heap.size, 0, none⟩ = some (.slice (some ⟨b, off, none⟩) xs.length cap) ∧ (((w.alloc (.cells #[.slice (some ⟨b, off, none⟩) xs.length cap] 33)).alloc (.cells #[.int .i64 o.k, .string o.t, .int .i64 o.a, .int .i64 o.b] 115)).alloc (.cells #[.string ⟨#[]⟩, .int .i64 0, .int .i64 0, .int .i64 0] 104)).cell? ⟨w.heap.size + 1, 0, none⟩ = some (.int .i64 o.k) ∧ (((w.alloc (.cells #[.slice (some ⟨b, off, none⟩) xs.length cap] 33)).alloc (.cells #[.int .i64 o.k, .string o.t, .int .i64 o.a, .int .i64 o.b] 115)).alloc (.cells #[.string ⟨#[]⟩, .int .i64 0, .int .i64 0, .int .i64 0] 104)).cell? ⟨w.heap.size + 1, 1, none⟩ = some (.string o.t) from ⟨by simp [go_sem], by simp [go_sem], by simp [go_sem]⟩))
  have HC2 := hide (show (((((w.alloc (.cells #[.slice (some ⟨b, off, none⟩) xs.length cap] 33)).alloc (.cells #[.int .i64 o.k, .string o.t, .int .i64 o.a, .int .i64 o.b] 115)).alloc (.cells #[.string ⟨#[]⟩, .int .i64 0, .int .i64 0, .int .i64 0] 104)).drew).cell? ⟨w.heap.size + 1 + 1, 0, none⟩ = some (.string ⟨#[]⟩) ∧ ((((w.alloc (.cells #[.slice (some ⟨b, off, none⟩) xs.length cap] 33)).alloc (.cells #[.int .i64 o.k, .string o.t, .int .i64 o.a, .int .i64 o.b] 115)).alloc (.cells #[.string ⟨#[]⟩, .int .i64 0, .int .i64 0, .int .i64 0] 104)).drew).cell? ⟨w.heap.size + 1 + 1, 1, none⟩ = some (.int .i64 0) ∧ ((((w.alloc (.cells #[.slice (some ⟨b, off, none⟩) xs.length cap] 33)).alloc (.cells #[.int .i64 o.k, .string o.t, .int .i64 o.a, .int .i64 o.b] 115)).alloc (.cells #[.string ⟨#[]⟩, .int .i64 0, .int .i64 0, .int .i64 0] 104)).drew).cell? ⟨w.heap.size + 1 + 1, 2, none⟩ = some (.int .i64 0) ∧ ((((w.alloc (.cells #[.slice (some ⟨b, off, none⟩) xs.length cap] 33)).alloc (.cells #[.int .i64 o.k, .string o.t, .int .i64 o.a, .int .i64 o.b] 115)).alloc (.cells #[.string ⟨#[]⟩, .int .i64 0, .int .i64 0, .int .i64 0] 104)).drew).cell? ⟨w.heap.size + 1 + 1, 3, none⟩ = some (.int .i64 0)) ∧ ∀ q, ((((w.alloc (.cells #[.slice (some ⟨b, off, none⟩) xs.length cap] 33)).alloc (.cells #[.int .i64 o.k, .string o.t, .int .i64 o.a, .int .i64 o.b] 115)).alloc (.cells #[.string ⟨#[]⟩, .int .i64 0, .int .i64 0, .int .i64 0] 104)).drew).frozen? ⟨w.heap.size + 1 + 1, q, none⟩ = false from
    (show ((((w.alloc (.cells #[.slice (some ⟨b, off, none⟩) xs.length cap] 33)).alloc (.cells #[.int .i64 o.k, .string o.t, .int .i64 o.a, .int .i64 o.b] 115)).alloc (.cells #[.string ⟨#[]⟩, .int .i64 0, .int .i64 0, .int .i64 0] 104)).cell? ⟨w.heap.size + 1 + 1, 0, none⟩ = some (.string ⟨#[]⟩) ∧ (((w.alloc (.cells #[.slice (some ⟨b, off, none⟩) xs.length cap] 33)).alloc (.cells #[.int .i64 o.k, .string o.t, .int .i64 o.a, .int .i64 o.b] 115)).alloc (.cells #[.string ⟨#[]⟩, .int .i64 0, .int .i64 0, .int .i64 0] 104)).cell? ⟨w.heap.size + 1 + 1, 1, none⟩ = some (.int .i64 0) ∧ (((w.alloc (.cells #[.slice (some ⟨b, off, none⟩) xs.length cap] 33)).alloc (.cells #[.int .i64 o.k, .string o.t, .int .i64 o.a, .int .i64 o.b] 115)).alloc (.cells #[.string ⟨#[]⟩, .int .i64 0, .int .i64 0, .int .i64 0] 104)).cell? ⟨w.heap.size + 1 + 1, 2, none⟩ = some (.int .i64 0) ∧ (((w.alloc (.cells #[.slice (some ⟨b, off, none⟩) xs.length cap] 33)).alloc (.cells #[.int .i64 o.k, .string o.t, .int .i64 o.a, .int .i64 o.b] 115)).alloc (.cells #[.string ⟨#[]⟩, .int .i64 0, .int .i64 0, .int .i64 0] 104)).cell? ⟨w.heap.size + 1 + 1, 3, none⟩ = some (.int .i64 0)) ∧ ∀ q, (((w.alloc (.cells #[.slice (some ⟨b, off, none⟩) xs.length cap] 33)).alloc (.cells #[.int .i64 o.k, .string o.t, .int .i64 o.a, .int .i64 o.b] 115)).alloc (.cells #[.string ⟨#[]⟩, .int .i64 0, .int .i64 0, .int .i64 0] 104)).frozen? ⟨w.heap.size + 1 + 1, q, none⟩ = false from ⟨⟨by simp [go_sem], by simp [go_sem], by simp [go_sem], by simp [go_sem]⟩, fun q => by simp [go_sem]⟩))
  go_region_held (fun w' => w'.cell? ⟨w.heap.size, 0, none⟩ = some (.slice (some ⟨b, off, none⟩) xs.length cap) ∧ w'.cell? ⟨w.heap.size + 1, 0, none⟩ = some (.int .i64 o.k) ∧ w'.cell? ⟨w.heap.size + 1, 1, none⟩ = some (.string o.t) ∧ w'.cell? ⟨b, off + j * 4, none⟩ = some (.string (atO xs j).s) ∧ w'.cell? ⟨b, off + j * 4 + 1, none⟩ = some (.int .i64 (atO xs j).k) ∧ w'.cell? ⟨b, off + j * 4 + 2, none⟩ = some (.int .i64 (atO xs j).l) ∧ w'.cell? ⟨b, off + j * 4 + 3, none⟩ = some (.int .i64 (atO xs j).sd)) (first | (go_keep; done) | (refine ⟨keep4 (by omega) ?_, keep4 (by omega) ?_, keep4 (by omega) ?_, keep4 (by omega) ?_, keep4 (by omega) ?_, keep4 (by omega) ?_, keep4 (by omega) ?_⟩ <;> simp [*]))
    (first | (go_at_call 97; have HX := l2Find_ix b off cap xs o.t (o.k - 2) (((w.alloc (.cells #[.slice (some ⟨b, off, none⟩) xs.length cap] 33)).alloc (.cells #[.int .i64 o.k, .string o.t, .int .i64 o.a, .int .i64 o.b] 115)).alloc (.cells #[.string ⟨#[]⟩, .int .i64 0, .int .i64 0, .int .i64 0] 104)).drew hm ((unhide HW).below ((unhide HB3) _ _ _) hB) (unhide HLT); rw [unhide HFI] at HX; rw [unhide HWR]; refine HX.mono ?_; clear HX; rintro e w2 ⟨rfl, hb2⟩; have q0 := (hb2.cell (p := ⟨w.heap.size, 0, none⟩) (unhide HL0)).trans (unhide HC0).1; have q1 := (hb2.cell (p := ⟨w.heap.size + 1, 0, none⟩) (unhide HL1)).trans (unhide HC0).2.1; have q2 := (hb2.cell (p := ⟨w.heap.size + 1, 1, none⟩) (unhide HL1)).trans (unhide HC0).2.2; have s0 := (hb2.cell (p := ⟨b, off + j * 4, none⟩) (unhide HLT)).trans r0; have s1 := (hb2.cell (p := ⟨b, off + j * 4 + 1, none⟩) (unhide HLT)).trans r1; have s2 := (hb2.cell (p := ⟨b, off + j * 4 + 2, none⟩) (unhide HLT)).trans r2; have s3 := (hb2.cell (p := ⟨b, off + j * 4 + 3, none⟩) (unhide HLT)).trans r3; have t0 := (hb2.cell (p := ⟨w.heap.size + 1 + 1, 0, none⟩) (unhide HL2)).trans (unhide HC2).1.1; have t1 := (hb2.cell (p := ⟨w.heap.size + 1 + 1, 1, none⟩) (unhide HL2)).trans (unhide HC2).1.2.1; have t2 := (hb2.cell (p := ⟨w.heap.size + 1 + 1, 2, none⟩) (unhide HL2)).trans (unhide HC2).1.2.2.1; have t3 := (hb2.cell (p := ⟨w.heap.size + 1 + 1, 3, none⟩) (unhide HL2)).trans (unhide HC2).1.2.2.2; have u0 := (hb2.frozen (p := ⟨w.heap.size + 1 + 1, 0, none⟩) (unhide HL2)).trans ((unhide HC2).2 0); have u1 := (hb2.frozen (p := ⟨w.heap.size + 1 + 1, 1, none⟩) (unhide HL2)).trans ((unhide HC2).2 1); have u2 := (hb2.frozen (p := ⟨w.heap.size + 1 + 1, 2, none⟩) (unhide HL2)).trans ((unhide HC2).2 2); have u3 := (hb2.frozen (p := ⟨w.heap.size + 1 + 1, 3, none⟩) (unhide HL2)).trans ((unhide HC2).2 3); have B2 := hide (((unhide HB3) _ _ _).trans (hb2.mono (unhide HLW))); clear hb2))
  go_wp2
  refine bodyPost_ret (v := .agg #[.string (atO xs j).s, .int .i64 (atO xs j).k, .int .i64 (atO xs j).l, .int .i64 (atO xs j).sd]) ?res rfl ⟨rfl, ?_⟩
  case res => simp [results, Tryz.results100, go_sem, t0, t1, t2, t3]
  exact below_setCells (show w.heap.size ≤ w.heap.size + 1 + 1 by omega) [.string (atO xs j).s, .int .i64 (atO xs j).k, .int .i64 (atO xs j).l, .int .i64 (atO xs j).sd] 0 w2 (unhide B2)

theorem fieldLevel (W : World) (s : ByteArray) (k l sd : Int) : (Instr.field 104 (.agg #[.string s, .int .i64 k, .int .i64 l, .int .i64 sd]) 2).run Tryz.prog W = .ok (.int .i64 l) W := by kernel_rfl

theorem levN_op {xs : List OpR} {o : NodeR} {j : Nat} (h3 : 3 ≤ o.k) (h5 : o.k ≤ 5) (hf : fnd xs o.t (o.k - 2) = some j) : levN xs o = (atO xs j).l := by
  unfold levN
  rw [if_pos ⟨h3, h5⟩, hf]
theorem levN_not {xs : List OpR} {o : NodeR} (h : ¬ (3 ≤ o.k ∧ o.k ≤ 5)) : levN xs o = 1001 := by
  unfold levN
  rw [if_neg h]

set_option maxHeartbeats 1000000 in
theorem l3Level_any (b off cap : Nat) (xs : List OpR) (o : NodeR) (w : World) (hm : xs.length ≤ 1048576) (hw : Ops w b off xs) (hB : b < w.heap.size) (hkn : 3 ≤ o.k → o.k ≤ 5 → fnd xs o.t (o.k - 2) ≠ none) :
    Calls Tryz.prog 101 #[.agg #[.slice (some ⟨b, off, none⟩) xs.length cap], .agg #[.int .i64 o.k, .string o.t, .int .i64 o.a, .int .i64 o.b]] w fun e w' => e = .returned (.int .i64 (levN xs o)) ∧ Below w.heap.size w w' := by
  by_cases hop : 3 ≤ o.k ∧ o.k ≤ 5
  · obtain ⟨h3, h5⟩ := hop
    cases hf : fnd xs o.t (o.k - 2) with
    | none => exact absurd hf (hkn h3 h5)
    | some j =>
      have HL := hide (levN_op h3 h5 hf)
      have HW := hide hw
      have HF := hide hf
      have HD := hide (show true = decide (3 ≤ o.k ∧ o.k ≤ 5) by simp [h3, h5])
      clear hw hf hkn
      go_enter Tryz.func101, Tryz.ntmps101
      go_wp2_with fail
      refine (l3IsOp_any o _ true (unhide HD)).mono ?_
      rintro e w1 ⟨rfl, hb1⟩
      have bel1 : Below w.heap.size w w1 := ((below1 _ _).alloc (by simp) _).trans (hb1.mono (by simp; omega))
      have c0 : w1.cell? ⟨w.heap.size, 0, none⟩ = some (.slice (some ⟨b, off, none⟩) xs.length cap) := (hb1.cell (p := ⟨w.heap.size, 0, none⟩) (by simp; omega)).trans (by simp [go_sem])
      have d0 : w1.cell? ⟨w.heap.size + 1, 0, none⟩ = some (.int .i64 o.k) := (hb1.cell (p := ⟨w.heap.size + 1, 0, none⟩) (by simp)).trans (by simp [go_sem])
      have d1 : w1.cell? ⟨w.heap.size + 1, 1, none⟩ = some (.string o.t) := (hb1.cell (p := ⟨w.heap.size + 1, 1, none⟩) (by simp)).trans (by simp [go_sem])
      have d2 : w1.cell? ⟨w.heap.size + 1, 2, none⟩ = some (.int .i64 o.a) := (hb1.cell (p := ⟨w.heap.size + 1, 2, none⟩) (by simp)).trans (by simp [go_sem])
      have d3 : w1.cell? ⟨w.heap.size + 1, 3, none⟩ = some (.int .i64 o.b) := (hb1.cell (p := ⟨w.heap.size + 1, 3, none⟩) (by simp)).trans (by simp [go_sem])
      have hB1 : b < w1.heap.size := Nat.lt_of_lt_of_le hB bel1.size
      clear hb1
      go_wp2_with fail
      refine (l3OpOf_any b off cap xs o j _ hm ((unhide HW).below bel1 hB) hB1 h3 h5 (unhide HF)).mono ?_
      rintro e w2 ⟨rfl, hb2⟩
      have hfld := fieldLevel
      go_wp2
      go_ret
      exact ⟨ret_int (unhide HL).symm, bel1.trans (hb2.mono bel1.size)⟩
  · have HL := hide (levN_not (xs := xs) hop)
    have HD := hide (show false = decide (3 ≤ o.k ∧ o.k ≤ 5) by simp [hop])
    clear hw hop hkn
    go_enter Tryz.func101, Tryz.ntmps101
    go_wp2_with fail
    refine (l3IsOp_any o _ false (unhide HD)).mono ?_
    rintro e w1 ⟨rfl, hb1⟩
    go_wp2_with fail
    go_ret
    exact ⟨ret_int (unhide HL).symm, ((below1 _ _).alloc (by simp) _).trans (hb1.mono (by simp; omega))⟩
end Go.Proofs.YtokabkhnidlcnabGreat

/-
  Walks: the specification's TreeOk.
-/
namespace Go.Proofs.YtokabkhnidlcnabGreat
set_option maxRecDepth 100000
set_option linter.unusedSimpArgs false
set_option linter.unusedVariables false
open Go.RowKit

/-- Cells that hold what they must. -/
def Cs (cs : List (Nat × Nat × Value)) (w : World) : Prop := ∀ p ∈ cs, w.cell? ⟨p.1, p.2.1, none⟩ = some p.2.2

theorem Cs.below {cs : List (Nat × Nat × Value)} {w w' : World} (h : Cs cs w) (hb : Below w.heap.size w w') : Cs cs w' :=
  fun p hp => (hb.cell (p := ⟨p.1, p.2.1, none⟩) (block_lt_of_cell (h p hp))).trans (h p hp)

theorem below_samS {B : Nat} {a w w' : World} (h : Below B a w) (h1 : w'.os = w.os) (h2 : w'.tape = w.tape) (h3 : w'.output = w.output) (h4 : w'.heap = w.heap) : Below B a w' :=
  ⟨h1.trans h.os, h2.trans h.tape, h3.trans h.output, by rw [h4]; exact h.size, fun i hi => by rw [h4]; exact h.block i hi⟩

theorem FitN_not {xs : List OpR} {ns : List NodeR} {i : Nat} (h : ¬ isOpN (atN ns i)) : FitN xs ns i := fun j ho => absurd ho h

theorem FitN_iff {xs : List OpR} {ns : List NodeR} {i j : Nat} (ho : isOpN (atN ns i)) (hf : fnd xs (atN ns i).t ((atN ns i).k - 2) = some j) :
    FitN xs ns i ↔ holeO xs j false ≤ levN xs (atN ns (atN ns i).a.toNat) ∧ (kids (atN ns i).k = 1 ∨ holeO xs j true ≤ levN xs (atN ns (atN ns i).b.toNat)) := by
  constructor
  · intro h; exact h j ho hf
  · intro h j' _ hf'
    rw [hf] at hf'
    injection hf' with hf'
    subst hf'
    exact h

/-- The kids of an operator node, as places. -/
theorem op_kids {ns : List NodeR} (h : InOrd ns) {i : Nat} (hi : i < ns.length) (ho : isOpN (atN ns i)) :
    ∃ ka kb : Nat, (atN ns i).a = (ka : Int) ∧ (atN ns i).b = (kb : Int) ∧ ka < ns.length ∧ kb < ns.length ∧ (kids (atN ns i).k = 1 ∨ kids (atN ns i).k = 2) := by
  rcases h.kidsAt hi with ⟨h0, _⟩ | ⟨h1, h2, ha, hb⟩ | ⟨h1, h2, hb, ha0, ha1⟩
  · exfalso
    unfold isOpN at ho
    unfold kids at h0
    split at h0
    · omega
    · split at h0
      · omega
      · omega
  · exact ⟨i - 1, 0, by omega, by omega, by omega, by omega, Or.inl h1⟩
  · exact ⟨(atN ns i).a.toNat, i - 1, by omega, by omega, by omega, by omega, Or.inr h1⟩

set_option maxHeartbeats 3000000 in
theorem l3Fits_any (b off cap bn offn cn i : Nat) (xs : List OpR) (ns : List NodeR) (w : World) (hm : xs.length ≤ 1048576) (hmn : ns.length ≤ 1048576) (hw : Ops w b off xs) (hsz : Sized xs) (hB : b < w.heap.size) (hwn : OpsN w bn offn ns) (hBn : bn < w.heap.size) (hi : i < ns.length) (hord : InOrd ns) (hkn : Knows xs ns) :
    Calls Tryz.prog 59 #[.agg #[.slice (some ⟨b, off, none⟩) xs.length cap], .slice (some ⟨bn, offn, none⟩) ns.length cn, .int .i64 (i : Int)] w fun e w' => RetB e (FitN xs ns i) ∧ Below w.heap.size w w' := by
  have hiI : (i : Int) < (ns.length : Int) := by omega
  obtain ⟨h0, h1, h2, h3⟩ := hwn i hi
  have HW := hide hw
  have HWN := hide hwn
  have HZ := hide hsz
  have HKN := hide hkn
  by_cases ho : isOpN (atN ns i)
  case neg =>
    have HN := hide (FitN_not (xs := xs) ho)
    have HD := hide (show false = decide (3 ≤ (atN ns i).k ∧ (atN ns i).k ≤ 5) by rw [eq_comm, decide_eq_false_iff_not]; exact ho)
    clear hw hwn hsz hkn ho
    go_enter Tryz.func59, Tryz.ntmps59
    go_wp2_with fail
    refine (l3IsOp_any (atN ns i) _ false (unhide HD)).mono ?_
    rintro e w1 ⟨rfl, hb1⟩
    go_wp2_with fail
    go_ret
    exact ⟨⟨_, rfl, says_true (unhide HN)⟩, ((below1 _ _).alloc (by simp) _).trans (hb1.mono (by simp; omega))⟩
  obtain ⟨j, hf⟩ : ∃ j, fnd xs (atN ns i).t ((atN ns i).k - 2) = some j := by
    cases e : fnd xs (atN ns i).t ((atN ns i).k - 2) with
    | none => exact absurd e (hkn i hi ho)
    | some j => exact ⟨j, rfl⟩
  obtain ⟨ka, kb, hka, hkb, hkal, hkbl, hkk⟩ := op_kids hord hi ho
  have hj := (fnd_some hf).1
  have HIF := hide (show FitN xs ns i ↔ holeO xs j false ≤ levN xs (atN ns ka) ∧ (kids (atN ns i).k = 1 ∨ holeO xs j true ≤ levN xs (atN ns kb)) by
    rw [FitN_iff ho hf, hka, hkb]; simp)
  have HD := hide (show true = decide (3 ≤ (atN ns i).k ∧ (atN ns i).k ≤ 5) by rw [eq_comm, decide_eq_true_iff]; exact ho)
  have HF := hide hf
  have h3k := ho.1
  have h5k := ho.2
  have HKA := hide (show 3 ≤ (atN ns ka).k → (atN ns ka).k ≤ 5 → fnd xs (atN ns ka).t ((atN ns ka).k - 2) ≠ none from fun a b => hkn ka hkal ⟨a, b⟩)
  have HKB := hide (show 3 ≤ (atN ns kb).k → (atN ns kb).k ≤ 5 → fnd xs (atN ns kb).t ((atN ns kb).k - 2) ≠ none from fun a b => hkn kb hkbl ⟨a, b⟩)
  have HSJ := hide (hsz j hj)
  rw [hka] at h2
  rw [hkb] at h3
  have hkaI : (ka : Int) < (ns.length : Int) := by omega
  have hkbI : (kb : Int) < (ns.length : Int) := by omega
  clear hw hwn hsz hkn ho hka hkb hf
  go_enter Tryz.func59, Tryz.ntmps59
  go_wp2_with fail
  refine (l3IsOp_any ⟨(atN ns i).k, (atN ns i).t, (ka : Int), (kb : Int)⟩ _ true (unhide HD)).mono ?_
  rintro e w1 ⟨rfl, hb1⟩
  have bel1 : Below w.heap.size w w1 := ((below1 _ _).alloc (by simp) _).trans (hb1.mono (by simp; omega))
  have HC1 := hide (show Cs [(w.heap.size, 0, .slice (some ⟨b, off, none⟩) xs.length cap), (w.heap.size + 1, 0, .int .i64 (atN ns i).k), (w.heap.size + 1, 1, .string (atN ns i).t), (w.heap.size + 1, 2, .int .i64 (ka : Int)), (w.heap.size + 1, 3, .int .i64 (kb : Int))] w1 from fun p hp => by
    simp only [List.mem_cons, List.not_mem_nil, or_false] at hp
    rcases hp with rfl | rfl | rfl | rfl | rfl
    · exact (hb1.cell (p := ⟨w.heap.size, 0, none⟩) (by simp; omega)).trans (by simp [go_sem])
    · exact (hb1.cell (p := ⟨w.heap.size + 1, 0, none⟩) (by simp)).trans (by simp [go_sem])
    · exact (hb1.cell (p := ⟨w.heap.size + 1, 1, none⟩) (by simp)).trans (by simp [go_sem])
    · exact (hb1.cell (p := ⟨w.heap.size + 1, 2, none⟩) (by simp)).trans (by simp [go_sem])
    · exact (hb1.cell (p := ⟨w.heap.size + 1, 3, none⟩) (by simp)).trans (by simp [go_sem]))
  clear hb1
  have c0 := (unhide HC1) (w.heap.size, 0, .slice (some ⟨b, off, none⟩) xs.length cap) (by simp)
  have d0 := (unhide HC1) (w.heap.size + 1, 0, .int .i64 (atN ns i).k) (by simp)
  have d1 := (unhide HC1) (w.heap.size + 1, 1, .string (atN ns i).t) (by simp)
  have d2 := (unhide HC1) (w.heap.size + 1, 2, .int .i64 (ka : Int)) (by simp)
  have d3 := (unhide HC1) (w.heap.size + 1, 3, .int .i64 (kb : Int)) (by simp)
  simp only at c0 d0 d1 d2 d3
  go_wp2_with fail
  refine (l3OpOf_any b off cap xs ⟨(atN ns i).k, (atN ns i).t, (ka : Int), (kb : Int)⟩ j _ hm ((unhide HW).below bel1 hB) (Nat.lt_of_lt_of_le hB bel1.size) h3k h5k (unhide HF)).mono ?_
  rintro e w2 ⟨rfl, hb2⟩
  have bel2 := bel1.trans (hb2.mono bel1.size)
  have HC2 := hide ((unhide HC1).below hb2)
  clear hb2 HC1 c0 d0 d1 d2 d3 bel1
  have HSC := hide (show Cs [(w.heap.size, 0, .slice (some ⟨b, off, none⟩) xs.length cap), (w.heap.size + 1, 0, .int .i64 (atN ns i).k), (w.heap.size + 1, 1, .string (atN ns i).t), (w.heap.size + 1, 2, .int .i64 (ka : Int)), (w.heap.size + 1, 3, .int .i64 (kb : Int)), (w2.heap.size, 0, .string (atO xs j).s), (w2.heap.size, 1, .int .i64 (atO xs j).k), (w2.heap.size, 2, .int .i64 (atO xs j).l), (w2.heap.size, 3, .int .i64 (atO xs j).sd), (bn, offn + ka * 4, .int .i64 (atN ns ka).k), (bn, offn + ka * 4 + 1, .string (atN ns ka).t), (bn, offn + ka * 4 + 2, .int .i64 (atN ns ka).a), (bn, offn + ka * 4 + 3, .int .i64 (atN ns ka).b), (bn, offn + kb * 4, .int .i64 (atN ns kb).k), (bn, offn + kb * 4 + 1, .string (atN ns kb).t), (bn, offn + kb * 4 + 2, .int .i64 (atN ns kb).a), (bn, offn + kb * 4 + 3, .int .i64 (atN ns kb).b)] (w2.alloc (.cells #[.string (atO xs j).s, .int .i64 (atO xs j).k, .int .i64 (atO xs j).l, .int .i64 (atO xs j).sd] 104)).drew from fun p hp => by
    simp only [List.mem_cons, List.not_mem_nil, or_false] at hp
    have hold : Cs [(w.heap.size, 0, .slice (some ⟨b, off, none⟩) xs.length cap), (w.heap.size + 1, 0, .int .i64 (atN ns i).k), (w.heap.size + 1, 1, .string (atN ns i).t), (w.heap.size + 1, 2, .int .i64 (ka : Int)), (w.heap.size + 1, 3, .int .i64 (kb : Int))] (w2.alloc (.cells #[.string (atO xs j).s, .int .i64 (atO xs j).k, .int .i64 (atO xs j).l, .int .i64 (atO xs j).sd] 104)).drew := (unhide HC2).below ((below1 _ _).drew)
    have hna := ((unhide HWN) ka hkal).below (bel2.trans (((below1 w2 (.cells #[.string (atO xs j).s, .int .i64 (atO xs j).k, .int .i64 (atO xs j).l, .int .i64 (atO xs j).sd] 104)).drew).mono bel2.size)) hBn
    have hnb := ((unhide HWN) kb hkbl).below (bel2.trans (((below1 w2 (.cells #[.string (atO xs j).s, .int .i64 (atO xs j).k, .int .i64 (atO xs j).l, .int .i64 (atO xs j).sd] 104)).drew).mono bel2.size)) hBn
    rcases hp with rfl | rfl | rfl | rfl | rfl | rfl | rfl | rfl | rfl | rfl | rfl | rfl | rfl | rfl | rfl | rfl | rfl
    · exact hold _ (by simp)
    · exact hold _ (by simp)
    · exact hold _ (by simp)
    · exact hold _ (by simp)
    · exact hold _ (by simp)
    · exact (show (w2.alloc (.cells #[.string (atO xs j).s, .int .i64 (atO xs j).k, .int .i64 (atO xs j).l, .int .i64 (atO xs j).sd] 104)).cell? _ = _ by simp [go_sem])
    · exact (show (w2.alloc (.cells #[.string (atO xs j).s, .int .i64 (atO xs j).k, .int .i64 (atO xs j).l, .int .i64 (atO xs j).sd] 104)).cell? _ = _ by simp [go_sem])
    · exact (show (w2.alloc (.cells #[.string (atO xs j).s, .int .i64 (atO xs j).k, .int .i64 (atO xs j).l, .int .i64 (atO xs j).sd] 104)).cell? _ = _ by simp [go_sem])
    · exact (show (w2.alloc (.cells #[.string (atO xs j).s, .int .i64 (atO xs j).k, .int .i64 (atO xs j).l, .int .i64 (atO xs j).sd] 104)).cell? _ = _ by simp [go_sem])
    · exact hna.1
    · exact hna.2.1
    · exact hna.2.2.1
    · exact hna.2.2.2
    · exact hnb.1
    · exact hnb.2.1
    · exact hnb.2.2.1
    · exact hnb.2.2.2)
  have HBC := hide (show Below w.heap.size w (w2.alloc (.cells #[.string (atO xs j).s, .int .i64 (atO xs j).k, .int .i64 (atO xs j).l, .int .i64 (atO xs j).sd] 104)).drew from bel2.trans (((below1 w2 (.cells #[.string (atO xs j).s, .int .i64 (atO xs j).k, .int .i64 (atO xs j).l, .int .i64 (atO xs j).sd] 104)).drew).mono bel2.size))
  clear HC2 bel2
  have HHF := hide (show holeO xs j false = holeI (atO xs j).s (atO xs j).k (atO xs j).l (atO xs j).sd false from rfl)
  have HHT := hide (show holeO xs j true = holeI (atO xs j).s (atO xs j).k (atO xs j).l (atO xs j).sd true from rfl)
  rw [unhide HHF, unhide HHT] at HIF
  clear HHF HHT
  by_cases hA : levN xs (atN ns ka) < holeI (atO xs j).s (atO xs j).k (atO xs j).l (atO xs j).sd false
  · have HN := hide (show ¬ FitN xs ns i from fun h => by have := ((unhide HIF).1 h).1; omega)
    clear HIF
    go_wp2_with fail
    go_region_held (fun w' => w'.cell? ⟨w.heap.size, 0, none⟩ = some (.slice (some ⟨b, off, none⟩) xs.length cap) ∧ w'.cell? ⟨w.heap.size + 1, 2, none⟩ = some (.int .i64 (ka : Int)) ∧ w'.cell? ⟨w2.heap.size, 0, none⟩ = some (.string (atO xs j).s) ∧ w'.cell? ⟨w2.heap.size, 1, none⟩ = some (.int .i64 (atO xs j).k) ∧ w'.cell? ⟨w2.heap.size, 2, none⟩ = some (.int .i64 (atO xs j).l) ∧ w'.cell? ⟨w2.heap.size, 3, none⟩ = some (.int .i64 (atO xs j).sd) ∧ w'.cell? ⟨bn, offn + ka * 4, none⟩ = some (.int .i64 (atN ns ka).k) ∧ w'.cell? ⟨bn, offn + ka * 4 + 1, none⟩ = some (.string (atN ns ka).t) ∧ w'.cell? ⟨bn, offn + ka * 4 + 2, none⟩ = some (.int .i64 (atN ns ka).a) ∧ w'.cell? ⟨bn, offn + ka * 4 + 3, none⟩ = some (.int .i64 (atN ns ka).b)) (first | (go_keep; done) | exact ⟨(unhide HSC) (w.heap.size, 0, .slice (some ⟨b, off, none⟩) xs.length cap) (by simp), (unhide HSC) (w.heap.size + 1, 2, .int .i64 (ka : Int)) (by simp), (unhide HSC) (w2.heap.size, 0, .string (atO xs j).s) (by simp), (unhide HSC) (w2.heap.size, 1, .int .i64 (atO xs j).k) (by simp), (unhide HSC) (w2.heap.size, 2, .int .i64 (atO xs j).l) (by simp), (unhide HSC) (w2.heap.size, 3, .int .i64 (atO xs j).sd) (by simp), (unhide HSC) (bn, offn + ka * 4, .int .i64 (atN ns ka).k) (by simp), (unhide HSC) (bn, offn + ka * 4 + 1, .string (atN ns ka).t) (by simp), (unhide HSC) (bn, offn + ka * 4 + 2, .int .i64 (atN ns ka).a) (by simp), (unhide HSC) (bn, offn + ka * 4 + 3, .int .i64 (atN ns ka).b) (by simp)⟩)
      (first | (go_at_call 101; have HX := l3Level_any b off cap xs (atN ns ka) _ hm ((unhide HW).below (unhide HBC) hB) (Nat.lt_of_lt_of_le hB (unhide HBC).size) (unhide HKA); refine HX.mono ?_; clear HX; rintro e w3 ⟨rfl, hb3⟩; replace HSC := hide ((unhide HSC).below hb3); replace HBC := hide ((unhide HBC).trans (hb3.mono (unhide HBC).size)); clear hb3) | (go_at_call 102; refine (specHole_any (atO xs j).s (atO xs j).k (atO xs j).l (atO xs j).sd false _ (unhide HSJ)).mono ?_; rintro e w4 ⟨rfl, hb4⟩; replace HSC := hide ((unhide HSC).below hb4); replace HBC := hide ((unhide HBC).trans (hb4.mono (unhide HBC).size)); clear hb4))
    all_goals go_wp2
    all_goals go_ret
    all_goals exact ⟨⟨_, rfl, says_false (unhide HN)⟩, unhide HBC⟩
  · go_wp2_with fail
    go_region_held (fun w' => w'.cell? ⟨w.heap.size, 0, none⟩ = some (.slice (some ⟨b, off, none⟩) xs.length cap) ∧ w'.cell? ⟨w.heap.size + 1, 2, none⟩ = some (.int .i64 (ka : Int)) ∧ w'.cell? ⟨w2.heap.size, 0, none⟩ = some (.string (atO xs j).s) ∧ w'.cell? ⟨w2.heap.size, 1, none⟩ = some (.int .i64 (atO xs j).k) ∧ w'.cell? ⟨w2.heap.size, 2, none⟩ = some (.int .i64 (atO xs j).l) ∧ w'.cell? ⟨w2.heap.size, 3, none⟩ = some (.int .i64 (atO xs j).sd) ∧ w'.cell? ⟨bn, offn + ka * 4, none⟩ = some (.int .i64 (atN ns ka).k) ∧ w'.cell? ⟨bn, offn + ka * 4 + 1, none⟩ = some (.string (atN ns ka).t) ∧ w'.cell? ⟨bn, offn + ka * 4 + 2, none⟩ = some (.int .i64 (atN ns ka).a) ∧ w'.cell? ⟨bn, offn + ka * 4 + 3, none⟩ = some (.int .i64 (atN ns ka).b)) (first | (go_keep; done) | exact ⟨(unhide HSC) (w.heap.size, 0, .slice (some ⟨b, off, none⟩) xs.length cap) (by simp), (unhide HSC) (w.heap.size + 1, 2, .int .i64 (ka : Int)) (by simp), (unhide HSC) (w2.heap.size, 0, .string (atO xs j).s) (by simp), (unhide HSC) (w2.heap.size, 1, .int .i64 (atO xs j).k) (by simp), (unhide HSC) (w2.heap.size, 2, .int .i64 (atO xs j).l) (by simp), (unhide HSC) (w2.heap.size, 3, .int .i64 (atO xs j).sd) (by simp), (unhide HSC) (bn, offn + ka * 4, .int .i64 (atN ns ka).k) (by simp), (unhide HSC) (bn, offn + ka * 4 + 1, .string (atN ns ka).t) (by simp), (unhide HSC) (bn, offn + ka * 4 + 2, .int .i64 (atN ns ka).a) (by simp), (unhide HSC) (bn, offn + ka * 4 + 3, .int .i64 (atN ns ka).b) (by simp)⟩)
      (first | (go_at_call 101; have HX := l3Level_any b off cap xs (atN ns ka) _ hm ((unhide HW).below (unhide HBC) hB) (Nat.lt_of_lt_of_le hB (unhide HBC).size) (unhide HKA); refine HX.mono ?_; clear HX; rintro e w3 ⟨rfl, hb3⟩; replace HSC := hide ((unhide HSC).below hb3); replace HBC := hide ((unhide HBC).trans (hb3.mono (unhide HBC).size)); clear hb3) | (go_at_call 102; refine (specHole_any (atO xs j).s (atO xs j).k (atO xs j).l (atO xs j).sd false _ (unhide HSJ)).mono ?_; rintro e w4 ⟨rfl, hb4⟩; replace HSC := hide ((unhide HSC).below hb4); replace HBC := hide ((unhide HBC).trans (hb4.mono (unhide HBC).size)); clear hb4))
    rcases hkk with hkk | hkk
    · have HKK := hide hkk
      have HY := hide (show FitN xs ns i from (unhide HIF).2 ⟨by omega, Or.inl hkk⟩)
      clear hkk HIF
      have d0 := (unhide HSC) (w.heap.size + 1, 0, .int .i64 (atN ns i).k) (by simp)
      simp only at d0
      go_wp2_with fail
      go_quiet ((go_at_call 60; exact Calls.quiet_of_same (l3Kids_is (unhide HKK) 1 rfl _)))
      go_wp2
      go_ret
      exact ⟨⟨_, rfl, says_true (unhide HY)⟩, below_samS (unhide HBC) rfl rfl rfl rfl⟩
    · have HKK := hide hkk
      have HYN := hide (show FitN xs ns i ↔ holeI (atO xs j).s (atO xs j).k (atO xs j).l (atO xs j).sd true ≤ levN xs (atN ns kb) by
        rw [unhide HIF]
        constructor
        · rintro ⟨_, h | h⟩
          · omega
          · exact h
        · intro h; exact ⟨by omega, Or.inr h⟩)
      clear hkk HIF
      replace HSC := hide ((unhide HSC).below (Below.refl _ _).drew)
      replace HBC := hide (unhide HBC).drew
      go_wp2_with fail
      go_region_held (fun w' => w'.cell? ⟨w.heap.size, 0, none⟩ = some (.slice (some ⟨b, off, none⟩) xs.length cap) ∧ w'.cell? ⟨w.heap.size + 1, 0, none⟩ = some (.int .i64 (atN ns i).k) ∧ w'.cell? ⟨w.heap.size + 1, 3, none⟩ = some (.int .i64 (kb : Int)) ∧ w'.cell? ⟨w2.heap.size, 0, none⟩ = some (.string (atO xs j).s) ∧ w'.cell? ⟨w2.heap.size, 1, none⟩ = some (.int .i64 (atO xs j).k) ∧ w'.cell? ⟨w2.heap.size, 2, none⟩ = some (.int .i64 (atO xs j).l) ∧ w'.cell? ⟨w2.heap.size, 3, none⟩ = some (.int .i64 (atO xs j).sd) ∧ w'.cell? ⟨bn, offn + kb * 4, none⟩ = some (.int .i64 (atN ns kb).k) ∧ w'.cell? ⟨bn, offn + kb * 4 + 1, none⟩ = some (.string (atN ns kb).t) ∧ w'.cell? ⟨bn, offn + kb * 4 + 2, none⟩ = some (.int .i64 (atN ns kb).a) ∧ w'.cell? ⟨bn, offn + kb * 4 + 3, none⟩ = some (.int .i64 (atN ns kb).b)) (first | (go_keep; done) | exact ⟨(unhide HSC) (w.heap.size, 0, .slice (some ⟨b, off, none⟩) xs.length cap) (by simp), (unhide HSC) (w.heap.size + 1, 0, .int .i64 (atN ns i).k) (by simp), (unhide HSC) (w.heap.size + 1, 3, .int .i64 (kb : Int)) (by simp), (unhide HSC) (w2.heap.size, 0, .string (atO xs j).s) (by simp), (unhide HSC) (w2.heap.size, 1, .int .i64 (atO xs j).k) (by simp), (unhide HSC) (w2.heap.size, 2, .int .i64 (atO xs j).l) (by simp), (unhide HSC) (w2.heap.size, 3, .int .i64 (atO xs j).sd) (by simp), (unhide HSC) (bn, offn + kb * 4, .int .i64 (atN ns kb).k) (by simp), (unhide HSC) (bn, offn + kb * 4 + 1, .string (atN ns kb).t) (by simp), (unhide HSC) (bn, offn + kb * 4 + 2, .int .i64 (atN ns kb).a) (by simp), (unhide HSC) (bn, offn + kb * 4 + 3, .int .i64 (atN ns kb).b) (by simp)⟩)
        (first | (go_at_call 60; refine (l3Kids_is (unhide HKK) 2 rfl _).mono ?_; rintro e w5 ⟨rfl, hx5⟩; obtain rfl := hx5.symm) | (go_at_call 101; have HX := l3Level_any b off cap xs (atN ns kb) _ hm ((unhide HW).below (unhide HBC) hB) (Nat.lt_of_lt_of_le hB (unhide HBC).size) (unhide HKB); refine HX.mono ?_; clear HX; rintro e w3 ⟨rfl, hb3⟩; replace HSC := hide ((unhide HSC).below hb3); replace HBC := hide ((unhide HBC).trans (hb3.mono (unhide HBC).size)); clear hb3) | (go_at_call 102; refine (specHole_any (atO xs j).s (atO xs j).k (atO xs j).l (atO xs j).sd true _ (unhide HSJ)).mono ?_; rintro e w4 ⟨rfl, hb4⟩; replace HSC := hide ((unhide HSC).below hb4); replace HBC := hide ((unhide HBC).trans (hb4.mono (unhide HBC).size)); clear hb4))
      all_goals go_wp2
      all_goals go_ret
      all_goals exact ⟨⟨_, rfl, (by unfold Says; rw [unhide HYN]; simp)⟩, unhide HBC⟩
end Go.Proofs.YtokabkhnidlcnabGreat
