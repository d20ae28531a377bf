import Derived.Test.YtokabkhnidlcnabT18

/-
  Walks: the specification's l3WellFormed, the whole of it.
-/
namespace Go.Proofs.Ytokabkhnidlcnab
set_option maxRecDepth 100000
set_option linter.unusedSimpArgs false
set_option linter.unusedVariables false
open Go.RowKit

theorem specTableOk_zero (b off cap : Nat) (xs : List OpR) (w : World) (hm : xs.length ≤ 1048576) (hw : Ops w b off xs) (hs : Sized xs) (hB : b < w.heap.size) (hc : IsCode xs 0) :
    Calls Try.prog 49 #[.agg #[.slice (some ⟨b, off, none⟩) xs.length cap]] w fun e w' => e = .returned (.int .i64 0) ∧ Below w.heap.size w w' := by
  refine (specTableOk_any b off cap xs w hm hw hs hB).mono ?_
  rintro e w' ⟨⟨c, rfl, h⟩, hb⟩
  exact ⟨by rw [IsCode_one h hc], hb⟩

set_option maxHeartbeats 2000000 in
theorem l3WellFormed_any (b off cap bn offn cn : Nat) (xs : List OpR) (ns : List NodeR) (w : World) (hm : xs.length ≤ 1048576) (hmn : ns.length ≤ 1048576) (hw : Ops w b off xs) (hsz : Sized xs) (hB : b < w.heap.size) (hwn : OpsN w bn offn ns) (hsn : SizedN ns) (hBn : bn < w.heap.size) (hc : IsCode xs 0) :
    Calls Try.prog 65 #[.agg #[.slice (some ⟨b, off, none⟩) xs.length cap], .agg #[.slice (some ⟨bn, offn, none⟩) ns.length cn]] w fun e w' => RetB e (InOrd ns ∧ Knows xs ns) ∧ Below w.heap.size w w' := by
  have HW := hide hw
  have HWN := hide hwn
  have HZ := hide hsz
  have HZN := hide hsn
  have HC := hide hc
  clear hw hwn hsz hsn hc
  go_enter Try.func65, Try.ntmps65
  go_wp2_with fail
  refine (specTableOk_zero b off cap xs _ hm ((unhide HW).below ((below1 _ _).alloc (by simp) _) hB) (unhide HZ) (by simp; omega) (unhide HC)).mono ?_
  rintro e w1 ⟨rfl, hb1⟩
  have bel1 : Below w.heap.size w w1 := ((below1 _ _).alloc (by simp) _).trans (hb1.mono (by simp; omega))
  have c0 : w1.cell? ⟨w.heap.size, 0, none⟩ = some (.slice (some ⟨b, off, none⟩) xs.length cap) := (hb1.cell (p := ⟨w.heap.size, 0, none⟩) (by simp; omega)).trans (by simp [go_sem])
  have c1 : w1.cell? ⟨w.heap.size + 1, 0, none⟩ = some (.slice (some ⟨bn, offn, none⟩) ns.length cn) := (hb1.cell (p := ⟨w.heap.size + 1, 0, none⟩) (by simp)).trans (by simp [go_sem])
  have z1 : w.heap.size + 2 ≤ w1.heap.size := by have := hb1.size; simp at this; omega
  clear hb1
  go_wp2_with fail
  refine (l3InOrder_any bn offn cn ns _ hmn ((unhide HWN).below bel1 hBn) (unhide HZN) (by omega)).mono ?_
  rintro e w2 ⟨⟨v, rfl, hv⟩, hb2⟩
  have HV := hide hv
  have bel2 := bel1.trans (hb2.mono bel1.size)
  have e0 := (hb2.cell (p := ⟨w.heap.size, 0, none⟩) (show w.heap.size < w1.heap.size by omega)).trans c0
  have e1 := (hb2.cell (p := ⟨w.heap.size + 1, 0, none⟩) (show w.heap.size + 1 < w1.heap.size by omega)).trans c1
  have z2 : w.heap.size + 2 ≤ w2.heap.size := Nat.le_trans z1 hb2.size
  clear hb2 hv c0 c1 bel1 z1
  cases v
  · go_wp2_with fail
    go_ret
    exact ⟨⟨_, rfl, says_false (fun h => Bool.false_ne_true ((unhide HV).2 h.1))⟩, bel2⟩
  have HO := hide ((unhide HV).1 rfl)
  clear HV
  have HCS := hide (show Cs [(w.heap.size, 0, .slice (some ⟨b, off, none⟩) xs.length cap), (w.heap.size + 1, 0, .slice (some ⟨bn, offn, none⟩) ns.length cn)] w2 from fun p hp => by
    simp only [List.mem_cons, List.not_mem_nil, or_false] at hp
    rcases hp with rfl | rfl
    · exact e0
    · exact e1)
  go_wp2_with fail
  go_loopw [5] (fun iv wr => ∃ k : Nat, k ≤ ns.length ∧ iv = .int .i64 (k : Int) ∧ Hid (∀ i, i < k → isOpN (atN ns i) → fnd xs (atN ns i).t ((atN ns i).k - 2) ≠ none) ∧ Hid (Cs [(w.heap.size, 0, .slice (some ⟨b, off, none⟩) xs.length cap), (w.heap.size + 1, 0, .slice (some ⟨bn, offn, none⟩) ns.length cn)] wr) ∧ Below w.heap.size w wr) (fun iv _ => ns.length - (intOf iv).toNat)
  case atStart => exact ⟨0, Nat.zero_le _, rfl, hide (fun i hi => absurd hi (Nat.not_lt_zero i)), HCS, bel2⟩
  case round =>
    clear HCS e0 e1 bel2 z2
    obtain ⟨k, hk, rfl, hkn, hcs, hbel⟩ := hrel
    have c0 := (unhide hcs) (w.heap.size, 0, .slice (some ⟨b, off, none⟩) xs.length cap) (by simp)
    have c1 := (unhide hcs) (w.heap.size + 1, 0, .slice (some ⟨bn, offn, none⟩) ns.length cn) (by simp)
    simp only at c0 c1
    by_cases hlt : k < ns.length
    · have hltI : (k : Int) < (ns.length : Int) := by omega
      obtain ⟨a0, a1, a2, a3⟩ := ((unhide HWN) k hlt).below hbel hBn
      have HC1 := hide ((unhide hcs).below (below1 wr (.cells #[.int .i64 (atN ns k).k, .string (atN ns k).t, .int .i64 (atN ns k).a, .int .i64 (atN ns k).b] 115)))
      have bel1 : Below w.heap.size w (wr.alloc (.cells #[.int .i64 (atN ns k).k, .string (atN ns k).t, .int .i64 (atN ns k).a, .int .i64 (atN ns k).b] 115)) := hbel.alloc hbel.size _
      by_cases ho : isOpN (atN ns k)
      · have HD := hide (show true = decide (3 ≤ (atN ns k).k ∧ (atN ns k).k ≤ 5) by rw [eq_comm, decide_eq_true_iff]; exact ho)
        have h3 := ho.1
        have h5 := ho.2
        have HOP := hide ho
        clear ho
        go_wp2_with fail
        refine (l3IsOp_any (atN ns k) _ true (unhide HD)).mono ?_
        rintro e w3 ⟨rfl, hb3⟩
        have HC3 := hide ((unhide HC1).below hb3)
        have bel3 := bel1.trans (hb3.mono bel1.size)
        have n0 : w3.cell? ⟨wr.heap.size, 0, none⟩ = some (.int .i64 (atN ns k).k) := (hb3.cell (p := ⟨wr.heap.size, 0, none⟩) (by simp)).trans (by simp [go_sem])
        have n1 : w3.cell? ⟨wr.heap.size, 1, none⟩ = some (.string (atN ns k).t) := (hb3.cell (p := ⟨wr.heap.size, 1, none⟩) (by simp)).trans (by simp [go_sem])
        have d0 := (unhide HC3) (w.heap.size, 0, .slice (some ⟨b, off, none⟩) xs.length cap) (by simp)
        simp only at d0
        have hwr : IntKind.i64.wrap ((atN ns k).k - 2) = (atN ns k).k - 2 := by rw [IntKind.wrap_i64]; omega
        clear hb3 c0 c1
        cases hf : fnd xs (atN ns k).t ((atN ns k).k - 2) with
        | none =>
          have HF := hide hf
          have HFI := hide (show fI (fnd xs (atN ns k).t ((atN ns k).k - 2)) = -1 by rw [hf]; rfl)
          clear hf
          go_wp2_with fail
          refine (l2Find_ix b off cap xs (atN ns k).t ((atN ns k).k - 2) _ hm ((unhide HW).below bel3 hB) (Nat.lt_of_lt_of_le hB bel3.size)).mono ?_
          rw [unhide HFI]
          rintro e w4 ⟨rfl, hb4⟩
          go_wp2_with fail
          go_ret
          exact ⟨⟨_, rfl, says_false (fun h => h.2 k hlt (unhide HOP) (unhide HF))⟩, bel3.trans (hb4.mono bel3.size)⟩
        | some j =>
          have HF := hide hf
          have HFI := hide (show fI (fnd xs (atN ns k).t ((atN ns k).k - 2)) = (j : Int) by rw [hf]; rfl)
          clear hf
          go_wp2_with fail
          refine (l2Find_ix b off cap xs (atN ns k).t ((atN ns k).k - 2) _ hm ((unhide HW).below bel3 hB) (Nat.lt_of_lt_of_le hB bel3.size)).mono ?_
          rw [unhide HFI]
          rintro e w4 ⟨rfl, hb4⟩
          have hj0 : ¬ (j : Int) < 0 := by omega
          go_wp2_with fail
          refine ⟨⟨k + 1, by omega, by go_num, hide (fun i hi hop => ?_), hide ((unhide HC3).below hb4), bel3.trans (hb4.mono bel3.size)⟩, by simp [intOf]; omega⟩
          by_cases e : i = k
          · subst e; rw [unhide HF]; simp
          · exact (unhide hkn) i (by omega) hop
      · have HD := hide (show false = decide (3 ≤ (atN ns k).k ∧ (atN ns k).k ≤ 5) by rw [eq_comm, decide_eq_false_iff_not]; exact ho)
        have HOP := hide ho
        clear ho
        go_wp2_with fail
        refine (l3IsOp_any (atN ns k) _ false (unhide HD)).mono ?_
        rintro e w3 ⟨rfl, hb3⟩
        go_wp2_with fail
        refine ⟨⟨k + 1, by omega, by go_num, hide (fun i hi hop => ?_), hide ((unhide HC1).below hb3), bel1.trans (hb3.mono bel1.size)⟩, by simp [intOf]; omega⟩
        by_cases e : i = k
        · subst e; exact absurd hop (unhide HOP)
        · exact (unhide hkn) i (by omega) hop
    · have hkx : k = ns.length := by omega
      go_wp2_with fail
      go_ret
      exact ⟨⟨_, rfl, says_true ⟨unhide HO, fun i hi hop => (unhide hkn) i (by omega) hop⟩⟩, hbel⟩
end Go.Proofs.Ytokabkhnidlcnab

/-
  Walks: the specification's TreeOk.
-/
namespace Go.Proofs.Ytokabkhnidlcnab
set_option maxRecDepth 100000
set_option linter.unusedSimpArgs false
set_option linter.unusedVariables false
open Go.RowKit

set_option maxHeartbeats 2000000 in
theorem specTreeOk_any (b off cap bn offn cn : Nat) (xs : List OpR) (ns : List NodeR) (w : World) (hm : xs.length ≤ 1048576) (hmn : ns.length ≤ 1048576) (hw : Ops w b off xs) (hsz : Sized xs) (hB : b < w.heap.size) (hwn : OpsN w bn offn ns) (hsn : SizedN ns) (hBn : bn < w.heap.size) :
    Calls Try.prog 32 #[.agg #[.slice (some ⟨b, off, none⟩) xs.length cap], .agg #[.slice (some ⟨bn, offn, none⟩) ns.length cn]] w fun e w' => (∃ c, e = .returned (.int .i64 c) ∧ TreeOkIs xs ns c) ∧ Below w.heap.size w w' := by
  have HW := hide hw
  have HWN := hide hwn
  have HZ := hide hsz
  have HZN := hide hsn
  clear hw hwn hsz hsn
  go_enter Try.func32, Try.ntmps32
  go_wp2_with fail
  refine (specTableOk_any b off cap xs _ hm ((unhide HW).below ((below1 _ _).alloc (by simp) _) hB) (unhide HZ) (by simp; omega)).mono ?_
  rintro e w1 ⟨⟨c, rfl, hc⟩, hb1⟩
  have HC := hide hc
  have bel1 : Below w.heap.size w w1 := ((below1 _ _).alloc (by simp) _).trans (hb1.mono (by simp; omega))
  have HCS := hide (show Cs [(w.heap.size, 0, .slice (some ⟨b, off, none⟩) xs.length cap), (w.heap.size + 1, 0, .slice (some ⟨bn, offn, none⟩) ns.length cn)] w1 from fun p hp => by
    simp only [List.mem_cons, List.not_mem_nil, or_false] at hp
    rcases hp with rfl | rfl
    · exact (hb1.cell (p := ⟨w.heap.size, 0, none⟩) (by simp; omega)).trans (by simp [go_sem])
    · exact (hb1.cell (p := ⟨w.heap.size + 1, 0, none⟩) (by simp)).trans (by simp [go_sem]))
  clear hc hb1
  by_cases hc0 : c = 0
  case neg =>
    have hc0' : (c != 0) = true := by simpa using hc0
    have HN := hide (show ¬ IsCode xs 0 from fun h => hc0 (IsCode_one (unhide HC) h))
    clear hc0
    go_wp2_with fail
    go_ret
    exact ⟨⟨1, rfl, Or.inl ⟨unhide HN, rfl⟩⟩, bel1⟩
  subst hc0
  have c0 := (unhide HCS) (w.heap.size, 0, .slice (some ⟨b, off, none⟩) xs.length cap) (by simp)
  have c1 := (unhide HCS) (w.heap.size + 1, 0, .slice (some ⟨bn, offn, none⟩) ns.length cn) (by simp)
  simp only at c0 c1
  go_wp2_with fail
  refine (l3WellFormed_any b off cap bn offn cn xs ns _ hm hmn ((unhide HW).below bel1 hB) (unhide HZ) (Nat.lt_of_lt_of_le hB bel1.size) ((unhide HWN).below bel1 hBn) (unhide HZN) (Nat.lt_of_lt_of_le hBn bel1.size) (unhide HC)).mono ?_
  rintro e w2 ⟨⟨v, rfl, hv⟩, hb2⟩
  have HV := hide hv
  have bel2 := bel1.trans (hb2.mono bel1.size)
  have HC2 := hide ((unhide HCS).below hb2)
  clear hv hb2 HCS c0 c1 bel1
  cases v
  · go_wp2_with fail
    go_ret
    exact ⟨⟨2, rfl, Or.inr ⟨unhide HC, Or.inl ⟨fun h => Bool.false_ne_true ((unhide HV).2 h), rfl⟩⟩⟩, bel2⟩
  have HO := hide ((unhide HV).1 rfl)
  clear HV
  go_wp2_with fail
  go_loopw [5] (fun iv wr => ∃ k : Nat, k ≤ ns.length ∧ iv = .int .i64 (k : Int) ∧ Hid (∀ i, i < k → FitN xs ns i) ∧ Hid (Cs [(w.heap.size, 0, .slice (some ⟨b, off, none⟩) xs.length cap), (w.heap.size + 1, 0, .slice (some ⟨bn, offn, none⟩) ns.length cn)] wr) ∧ Below w.heap.size w wr) (fun iv _ => ns.length - (intOf iv).toNat)
  case atStart => exact ⟨0, Nat.zero_le _, rfl, hide (fun i hi => absurd hi (Nat.not_lt_zero i)), HC2, bel2⟩
  case round =>
    clear HC2 bel2
    obtain ⟨k, hk, rfl, hfit, hcs, hbel⟩ := hrel
    have c0 := (unhide hcs) (w.heap.size, 0, .slice (some ⟨b, off, none⟩) xs.length cap) (by simp)
    have c1 := (unhide hcs) (w.heap.size + 1, 0, .slice (some ⟨bn, offn, none⟩) ns.length cn) (by simp)
    simp only at c0 c1
    by_cases hlt : k < ns.length
    · have hltI : (k : Int) < (ns.length : Int) := by omega
      go_wp2_with fail
      refine (l3Fits_any b off cap bn offn cn k xs ns _ hm hmn ((unhide HW).below hbel hB) (unhide HZ) (Nat.lt_of_lt_of_le hB hbel.size) ((unhide HWN).below hbel hBn) (Nat.lt_of_lt_of_le hBn hbel.size) hlt (unhide HO).1 (unhide HO).2).mono ?_
      rintro e w3 ⟨⟨v, rfl, hv⟩, hb3⟩
      have HV := hide hv
      have HC3 := hide ((unhide hcs).below hb3)
      have bel3 := hbel.trans (hb3.mono hbel.size)
      clear hv hb3
      cases v
      · go_wp2_with fail
        go_ret
        exact ⟨⟨3, rfl, Or.inr ⟨unhide HC, Or.inr ⟨unhide HO, Or.inl ⟨fun h => Bool.false_ne_true ((unhide HV).2 (h k hlt)), rfl⟩⟩⟩⟩, bel3⟩
      · go_wp2_with fail
        refine ⟨⟨k + 1, by omega, by go_num, hide (fun i hi => ?_), HC3, bel3⟩, by simp [intOf]; omega⟩
        by_cases e : i = k
        · subst e; exact (unhide HV).1 rfl
        · exact (unhide hfit) i (by omega)
    · have hkx : k = ns.length := by omega
      go_wp2_with fail
      go_ret
      exact ⟨⟨0, rfl, Or.inr ⟨unhide HC, Or.inr ⟨unhide HO, Or.inr ⟨fun i hi => (unhide hfit) i (by omega), rfl⟩⟩⟩⟩, hbel⟩
end Go.Proofs.Ytokabkhnidlcnab
