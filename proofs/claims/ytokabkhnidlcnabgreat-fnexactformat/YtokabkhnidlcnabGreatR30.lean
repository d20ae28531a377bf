import Derived.Deep.RegionHeldLaw
import Derived.Test.YtokabkhnidlcnabGreatR14
import Derived.Test.YtokabkhnidlcnabGreatR29

/-
  Walk: newParser.
-/
namespace Go.Proofs.YtokabkhnidlcnabGreat
set_option maxRecDepth 100000
set_option linter.unusedSimpArgs false
set_option linter.unusedVariables false
open Go.RowKit Go.Maps

theorem dnL_apart {ns : List OpR} {left : Lit → Bool} {t : ByteArray} {k : Int} (h : Apart23 ns) (ha : (hasB ns t 2 = true ∧ k = 3) ∨ (hasB ns t 3 = true ∧ k = 2)) : dnL ns left t k = false := by
  unfold dnL
  rcases ha with ⟨h1, rfl⟩ | ⟨h1, rfl⟩
  · cases e : hasB ns t 3 with
    | false => rfl
    | true => exact absurd ⟨h1, e⟩ (h t)
  · cases e : hasB ns t 2 with
    | false => rfl
    | true => exact absurd ⟨e, h1⟩ (h t)

set_option maxHeartbeats 4000000 in
theorem newParser_any (bo bs g o c : Nat) (ns : List OpR) (ts : List TokR) (w : World) (hi : Idx w bo bs ns ns.length) (hcd : IsCode ns 0) (hsz : Sized ns) (hm : ns.length ≤ 1048576) (ht : OpsT w g o ts) (hg : g < w.heap.size) :
    Calls Tryz.prog 35 #[.agg #[.map (some bo), .map (some bs)], .slice (some ⟨g, o, none⟩) ts.length c] w fun x w' => NewPost w g o c ns ts x w' ∧ Below w.heap.size w w' := by
  have hmm := @run_makeMap Tryz.prog
  obtain ⟨⟨D, hown, hD⟩, _, _⟩ := hi
  have hbl := hown.lt
  have HOK := hide (code_ok hcd)
  have HV := hide (signTexts_of (code_ok hcd))
  have HAP := hide (code_apart hcd)
  have HC := hide hcd
  have HZ := hide hsz
  have HD := hide hD
  have HT := hide ht
  obtain ⟨W3, hW3⟩ : ∃ W3, W3 = (((w.alloc (.cells #[.map (some bo), .map (some bs)] 70)).alloc (.map #[] 0)).alloc (.map #[] 0)).alloc (.cells #[.slice (some ⟨g, o, none⟩) ts.length c, .int .i64 0, .map (some (w.heap.size + 1)), .map (some (w.heap.size + 1 + 1))] 131) := ⟨_, rfl⟩
  have bel3 : Below w.heap.size w W3 := by rw [hW3]; exact (((below1 _ _).alloc (by simp) _).alloc (by simp; omega) _).alloc (by simp; omega) _
  have z3 : W3.heap.size = w.heap.size + 4 := by rw [hW3]; simp
  have own3 : W3.ownsMap Tryz.prog 135 opElem bo ns.length D := hown.kept (row := none) ⟨bel3.os, bel3.tape, bel3.output, bel3.size, fun i hi _ => bel3.block i hi⟩ (by simp)
  have s13 : SMap W3 (w.heap.size + 1) 0 (fun _ => none) := by
    rw [hW3]
    have := SMap.made (w.alloc (.cells #[.map (some bo), .map (some bs)] 70))
    simp only [World.size_alloc] at this
    exact (this.kept (grown_belN (below1 _ _) none) (by simp)).kept (grown_belN (below1 _ _) none) (by simp)
  have s23 : SMap W3 (w.heap.size + 1 + 1) 0 (fun _ => none) := by
    rw [hW3]
    have := SMap.made ((w.alloc (.cells #[.map (some bo), .map (some bs)] 70)).alloc (.map #[] 0))
    simp only [World.size_alloc] at this
    exact this.kept (grown_belN (below1 _ _) none) (by simp)
  have pr3 : PrsAt W3 (w.heap.size + 1 + 1 + 1) g o ts.length c 0 (w.heap.size + 1) (w.heap.size + 1 + 1) := by
    rw [hW3]
    exact ⟨by simp [go_sem], by simp [go_sem], by simp [go_sem], by simp [go_sem], by simp [go_sem]⟩
  have x3 : W3.cell? ⟨w.heap.size, 0, none⟩ = some (.map (some bo)) := by rw [hW3]; simp [go_sem]
  obtain ⟨w4, hrun, s14, k4⟩ := s13.update (ty := 128) Tryz.underlying128 (by unfold maxLen; omega) (t := ⟨#[40]⟩) (by decide) (.func (.func 70) #[.pointer (some ⟨w.heap.size + 1 + 1 + 1, 0, none⟩)] #[])
  have own4 := hide (own3.kept (grown_kept1 k4) (fun e => by injection e; omega))
  have s24 := s23.kept (grown_kept1 k4) (fun e => by injection e; omega)
  have pr4 := pr3.keptO k4 (by omega)
  have x4 : w4.cell? ⟨w.heap.size, 0, none⟩ = some (.map (some bo)) := (k4.cell (by omega) (by omega) 0).trans x3
  have bel4 : Below w.heap.size w w4 := bel3.trans (k4.below bel3.size (by omega))
  have z4 : w.heap.size + 4 ≤ w4.heap.size := by have := k4.size; omega
  have HI4 := hide (And.intro s14 (And.intro s24 (And.intro pr4 bel4)))
  have HAT := hide (show NewAt w.heap.size bo (w.heap.size + 1 + 1 + 1) (w.heap.size + 1) (w.heap.size + 1 + 1) w4.heap.size from ⟨by omega, by omega, by omega, by omega, by omega, by omega, by omega, by omega, by omega, by omega, hbl⟩)
  rw [hW3] at hrun
  clear s13 s23 pr3 x3 own3 bel3 s14 s24 pr4 bel4 k4 z3 hW3 hD hcd hsz ht
  go_enter Tryz.func35, Tryz.ntmps35
  go_wp2_with (at_range; refine wpList_range_own _ rfl _ 67 rfl 135 104 lawK Tryz.underlying67 opElem bo ns.length D rfl (unhide own4) ?_; intro w0 hrg0 hg0 hs0)
  have HI0 := hide (show NewInv w w0 ns D bo (w.heap.size + 1 + 1 + 1) (w.heap.size + 1) (w.heap.size + 1 + 1) w4.heap.size (Maps.size D + 1) g o ts.length c (Maps.has D) (dnL ns (Maps.has D)) (Maps.size D) (0 + 1) 0 (fun t' => if t'.data = (⟨#[40]⟩ : ByteArray).data then some (.func (.func 70) #[.pointer (some ⟨w.heap.size + 1 + 1 + 1, 0, none⟩)] #[]) else none) (fun _ => none) by
    obtain ⟨h1, h2, h3, h4⟩ := unhide HI4
    have hbb : Below w4.heap.size w4 w0 := ⟨hg0.os, hg0.tape, hg0.output, hg0.size, fun i hi => hg0.block i hi (by simp)⟩
    have hdn : ∀ t k, dnL ns (Maps.has D) t k = false := fun t k => by
      unfold dnL
      cases e : hasB ns t k with
      | false => rfl
      | true =>
        obtain ⟨j, hj, e1, e2⟩ := (hasB_iff _ _ _).1 e
        have := (((unhide HD) t k (by rw [← e1]; exact (unhide HZ) j hj) (by rw [← e2]; exact ok_wfk ((unhide HOK) j hj))).1).2 ⟨j, hj, e1, e2⟩
        rw [this]; rfl
    refine ⟨hrg0, fun kl h => h, h1.kept (grown_belN hbb none) (by simp), h2.kept (grown_belN hbb none) (by simp), by omega, by omega, ⟨rfl, fun t hto => ⟨fun _ => if_neg (fun e => hto (dat_same e)), fun e => ?_⟩⟩, fun t => ⟨fun _ _ => rfl, fun e => ?_, fun e => ?_⟩, h3.below hbb, by omega, h4.trans (hbb.mono h4.size)⟩
    · rw [hdn] at e; cases e
    · rw [hdn] at e; cases e
    · rw [hdn] at e; cases e)
  have HSD := hide (show Maps.size D ≤ 1048576 from Nat.le_trans (unhide own4).size_le hm)
  clear hrg0 hg0 HI4 own4 x4 hrun hown hmm
  go_loopw [7] (fun _ wr => ∃ (left : Lit → Bool) (cnt m1 m2 : Nat) (G1 G2 : ByteArray → Option Value), Hid (NewInv w wr ns D bo (w.heap.size + 1 + 1 + 1) (w.heap.size + 1) (w.heap.size + 1 + 1) w4.heap.size (Maps.size D + 1) g o ts.length c left (dnL ns left) cnt m1 m2 G1 G2)) (fun _ wr => wr.rangeLeft bo w4.heap.size)
  case atStart => exact ⟨_, _, _, _, _, _, HI0⟩
  case round =>
    clear HI0 hs0
    obtain ⟨left, cnt, m1, m2, G1, G2, HIV⟩ := hrel
    go_wp2_with (at_next; refine wpList_next_ranges _ rfl _ rfl 135 lawK opElem (fun x : ByteArray × Int => .agg #[.string x.1, .int .i64 x.2]) (fun c : ByteArray × Int × Int × Int => .agg #[.string c.1, .int .i64 c.2.1, .int .i64 c.2.2.1, .int .i64 c.2.2.2]) (fun key kl h => keyK_shape h) (fun v y h => opElem_shape h) bo w4.heap.size ns.length D left cnt rfl (unhide HIV).rg ?_ ?_)
    · intro hc0 hl0
      have HPC := hide ((unhide HIV).done (unhide HAT) hl0 (unhide HT) hg)
      have HBE := hide (unhide HIV).bel
      go_wp2
      go_ret
      exact ⟨⟨_, _, _, rfl, by omega, hide (unhide HPC).1, hide (unhide HPC).2⟩, unhide HBE⟩
    · intro s kd s2 k2 l2 sd2 kl yd yp w1 cnt1 hkey hlk hvv hat hrg1 hlt hg1 hs1 hen
      obtain ⟨s', kd', he, hss, hkw⟩ := keyK_inv hkey
      simp only [Value.agg.injEq, Array.mk.injEq, List.cons.injEq, Value.string.injEq, Value.int.injEq, true_and, and_true] at he
      obtain ⟨rfl, rfl⟩ := he
      have hkl : kl = klO s kd := by
        have := keyK hss hkw
        rw [this] at hkey
        injection hkey with hkey
        exact hkey.symm
      subst hkl
      obtain ⟨q, j, hj, hq, rfl, rfl, rfl, rfl, rfl, rfl⟩ : ∃ q : OpR, ∃ j, j < ns.length ∧ atO ns j = q ∧ s = q.s ∧ kd = q.k ∧ s2 = q.s ∧ k2 = q.k ∧ l2 = q.l ∧ sd2 = q.sd := by
        obtain ⟨j, hj, e⟩ := ops_entry ((unhide HD) s kd hss hkw).2 ((unhide HIV).sub _ hlk) hvv hat
        exact ⟨_, j, hj, rfl, e⟩
      have HKD := hide (show q.k = 1 ∨ q.k = 2 ∨ q.k = 3 by rw [← hq]; exact ok_kind ((unhide HOK) j hj))
      have HSG := hide (show q.s ≠ opn from fun e => by have := (cls_first (t := opn) (unhide HV) ⟨j, hj, by rw [hq]; exact e⟩).1; revert this; decide)
      have HB := hide (show hasB ns q.s q.k = true by rw [← hq]; exact hasB_at hj)
      have HMO := hide (dnL_more (left := left) (unhide HZ) (unhide HOK) hss hkw (unhide HB))
      have HI1 := hide ((unhide HIV).next (unhide HAT) hrg1 (fun z h => by simp only [Bool.and_eq_true] at h; exact h.1) hlt (Kept1.of_grown hg1))
      have HN1 := hide (show m1 + 1 + cnt1 ≤ Maps.size D + 1 by have := (unhide HIV).n1; omega)
      have HN2 := hide (show m2 + 1 + cnt1 ≤ Maps.size D + 1 by have := (unhide HIV).n2; omega)
      have HMs1 : m1 < maxLen := by have := unhide HN1; have := unhide HSD; unfold maxLen; omega
      have HMs2 : m2 < maxLen := by have := unhide HN2; have := unhide HSD; unfold maxLen; omega
      have HLF := hide (unhide HIV).rg.left_eq
      have HOA := hide (show ∀ b : Nat, (b : Int) - 2 = q.k → opA ns (rt b q.s) = q from fun b h => by rw [← hq] at h ⊢; exact opA_at (unhide HC) hj h)
      have HQS : q.s.size ≤ maxLen := hss
      have HLT := hide hlt
      have HI2 := hide ((unhide HI1).step (below1 w1 (.cells #[.string q.s, .int .i64 q.k, .int .i64 q.l, .int .i64 q.sd] 104)))
      have HOC := hide (show OpC (w1.alloc (.cells #[.string q.s, .int .i64 q.k, .int .i64 q.l, .int .i64 q.sd] 104)) w1.heap.size q from ⟨by simp [go_sem], by simp [go_sem], by simp [go_sem], by simp [go_sem]⟩)
      have belD : Below (w1.alloc (.cells #[.string q.s, .int .i64 q.k, .int .i64 q.l, .int .i64 q.sd] 104)).heap.size (w1.alloc (.cells #[.string q.s, .int .i64 q.k, .int .i64 q.l, .int .i64 q.sd] 104)) (w1.alloc (.cells #[.string q.s, .int .i64 q.k, .int .i64 q.l, .int .i64 q.sd] 104)).drew := (Below.refl _ _).drew
      have hw1 : w4.heap.size < w1.heap.size := (unhide HI1).sz
      have HNZ : w1.heap.size ≠ 0 := by omega
      have hpA := (unhide HI2).pr.2.2.1
      have hpB := (unhide HI2).pr.2.2.2.1
      clear hkey hlk hvv hat HIV hg1 hlt hq hss hkw HI1 hrg1 hs1
      have HLO : w4.heap.size + 1 ≤ (w1.alloc (.cells #[.string q.s, .int .i64 q.k, .int .i64 q.l, .int .i64 q.sd] 104)).drew.heap.size := by simp; omega
      rcases unhide HKD with hk | hk | hk
      · have e1 : (q.k == 1) = true := by rw [hk]; rfl
        have HK := hide hk
        have HNB : w1.heap.size ≠ w.heap.size + 1 := by omega
        have HM1 := hide (show More (dnL ns left) (dnL ns fun z => left z && !z.sameKey (klO q.s q.k)) q.s 1 by have := unhide HMO; rw [hk] at this ⊢; exact this)
        have HQA := hide ((unhide HOA) 3 (by rw [hk]; decide))
        clear hk HKD HB
        go_wp2_with fail
        go_region_held (fun w' => w'.cell? ⟨w.heap.size + 1 + 1 + 1, 2, none⟩ = some (.map (some (w.heap.size + 1))) ∧ w'.cell? ⟨w1.heap.size, 0, none⟩ = some (.string q.s) ∧ w'.cell? ⟨w1.heap.size, 1, none⟩ = some (.int .i64 q.k) ∧ w'.cell? ⟨w1.heap.size, 2, none⟩ = some (.int .i64 q.l) ∧ w'.cell? ⟨w1.heap.size, 3, none⟩ = some (.int .i64 q.sd)) (first | (go_keep; done) | exact ⟨(unhide HI6).pr.2.2.1, (unhide HO6).1, (unhide HO6).2.1, (unhide HO6).2.2.1, (unhide HO6).2.2.2⟩ | exact ⟨(unhide HI5).pr.2.2.1, (unhide HO5).1, (unhide HO5).2.1, (unhide HO5).2.2.1, (unhide HO5).2.2.2⟩ | exact ⟨(unhide HI2).pr.2.2.1, (unhide HOC).1, (unhide HOC).2.1, (unhide HOC).2.2.1, (unhide HOC).2.2.2⟩)
          (first | (go_at_call 71; refine (prefixRule_any (w.heap.size + 1 + 1 + 1) q _ HQS).mono ?_; rintro x w5 ⟨⟨v, rfl, HR⟩, hb5⟩; have HI5 := hide ((unhide HI2).step (belD.trans hb5)); have HO5 := hide ((unhide HOC).kept (Kept1.of_below (g := 0) (belD.trans hb5)) HNZ); obtain ⟨w6, hrun6, hs6, hk6⟩ := (unhide HI5).s1.update (ty := 128) Tryz.underlying128 HMs1 (t := q.s) HQS v; have HI6 := hide ((unhide HI5).put1 (unhide HAT) (unhide HM1) (unhide HSG) (by rw [unhide HQA]; exact (show RuleL _ w5 114 (w.heap.size + 1 + 1 + 1) q v from unhide HR).low HLO) (unhide HN1) hs6 hk6); have HO6 := hide ((unhide HO5).kept hk6 HNB); clear hb5))
        go_wp2_with fail
        refine ⟨⟨_, _, _, _, _, _, HI6⟩, ?_⟩
        rw [unhide HLF, (unhide HI6).rg.left_eq]
        exact unhide HLT
      · have e1 : (q.k == 1) = false := by rw [hk]; rfl
        have e2 : (q.k == 2) = true := by rw [hk]; rfl
        have HK := hide hk
        have HNB : w1.heap.size ≠ w.heap.size + 1 + 1 := by omega
        have HM1 := hide (show More (dnL ns left) (dnL ns fun z => left z && !z.sameKey (klO q.s q.k)) q.s 2 by have := unhide HMO; rw [hk] at this ⊢; exact this)
        have HQA := hide ((unhide HOA) 4 (by rw [hk]; decide))
        have HAB := hide (show dnL ns left q.s 3 = false from dnL_apart (unhide HAP) (by have := unhide HB; rw [hk] at this; exact Or.inl ⟨this, rfl⟩))
        clear hk HKD HB
        go_wp2_with fail
        go_region_held (fun w' => w'.cell? ⟨w.heap.size + 1 + 1 + 1, 3, none⟩ = some (.map (some (w.heap.size + 1 + 1))) ∧ w'.cell? ⟨w1.heap.size, 0, none⟩ = some (.string q.s) ∧ w'.cell? ⟨w1.heap.size, 1, none⟩ = some (.int .i64 q.k) ∧ w'.cell? ⟨w1.heap.size, 2, none⟩ = some (.int .i64 q.l) ∧ w'.cell? ⟨w1.heap.size, 3, none⟩ = some (.int .i64 q.sd)) (first | (go_keep; done) | exact ⟨(unhide HI6).pr.2.2.2.1, (unhide HO6).1, (unhide HO6).2.1, (unhide HO6).2.2.1, (unhide HO6).2.2.2⟩ | exact ⟨(unhide HI5).pr.2.2.2.1, (unhide HO5).1, (unhide HO5).2.1, (unhide HO5).2.2.1, (unhide HO5).2.2.2⟩ | exact ⟨(unhide HI2).pr.2.2.2.1, (unhide HOC).1, (unhide HOC).2.1, (unhide HOC).2.2.1, (unhide HOC).2.2.2⟩)
          (first | (go_at_call 72; refine (infixRule_any (w.heap.size + 1 + 1 + 1) q _ HQS).mono ?_; rintro x w5 ⟨⟨v, rfl, HR⟩, hb5⟩; have HI5 := hide ((unhide HI2).step (belD.trans hb5)); have HO5 := hide ((unhide HOC).kept (Kept1.of_below (g := 0) (belD.trans hb5)) HNZ); obtain ⟨w6, hrun6, hs6, hk6⟩ := (unhide HI5).s2.update (ty := 129) Tryz.underlying129 HMs2 (t := q.s) HQS v; have HI6 := hide ((unhide HI5).put2 (unhide HAT) (unhide HM1) (unhide HAB) (by rw [unhide HQA]; exact (show RuleM _ w5 115 (w.heap.size + 1 + 1 + 1) q v from unhide HR).low HLO) (unhide HN2) hs6 hk6); have HO6 := hide ((unhide HO5).kept hk6 HNB); clear hb5))
        go_wp2_with fail
        refine ⟨⟨_, _, _, _, _, _, HI6⟩, ?_⟩
        rw [unhide HLF, (unhide HI6).rg.left_eq]
        exact unhide HLT
      · have e1 : (q.k == 1) = false := by rw [hk]; rfl
        have e2 : (q.k == 2) = false := by rw [hk]; rfl
        have e3 : (q.k == 3) = true := by rw [hk]; rfl
        have HK := hide hk
        have HNB : w1.heap.size ≠ w.heap.size + 1 + 1 := by omega
        have HM1 := hide (show More (dnL ns left) (dnL ns fun z => left z && !z.sameKey (klO q.s q.k)) q.s 3 by have := unhide HMO; rw [hk] at this ⊢; exact this)
        have HQA := hide ((unhide HOA) 5 (by rw [hk]; decide))
        have HAB := hide (show dnL ns left q.s 2 = false from dnL_apart (unhide HAP) (by have := unhide HB; rw [hk] at this; exact Or.inr ⟨this, rfl⟩))
        clear hk HKD HB
        go_wp2_with fail
        go_region_held (fun w' => w'.cell? ⟨w.heap.size + 1 + 1 + 1, 3, none⟩ = some (.map (some (w.heap.size + 1 + 1))) ∧ w'.cell? ⟨w1.heap.size, 0, none⟩ = some (.string q.s) ∧ w'.cell? ⟨w1.heap.size, 1, none⟩ = some (.int .i64 q.k) ∧ w'.cell? ⟨w1.heap.size, 2, none⟩ = some (.int .i64 q.l) ∧ w'.cell? ⟨w1.heap.size, 3, none⟩ = some (.int .i64 q.sd)) (first | (go_keep; done) | exact ⟨(unhide HI6).pr.2.2.2.1, (unhide HO6).1, (unhide HO6).2.1, (unhide HO6).2.2.1, (unhide HO6).2.2.2⟩ | exact ⟨(unhide HI5).pr.2.2.2.1, (unhide HO5).1, (unhide HO5).2.1, (unhide HO5).2.2.1, (unhide HO5).2.2.2⟩ | exact ⟨(unhide HI2).pr.2.2.2.1, (unhide HOC).1, (unhide HOC).2.1, (unhide HOC).2.2.1, (unhide HOC).2.2.2⟩)
          (first | (go_at_call 73; refine (postfixRule_any (w.heap.size + 1 + 1 + 1) q _ HQS).mono ?_; rintro x w5 ⟨⟨v, rfl, HR⟩, hb5⟩; have HI5 := hide ((unhide HI2).step (belD.trans hb5)); have HO5 := hide ((unhide HOC).kept (Kept1.of_below (g := 0) (belD.trans hb5)) HNZ); obtain ⟨w6, hrun6, hs6, hk6⟩ := (unhide HI5).s2.update (ty := 129) Tryz.underlying129 HMs2 (t := q.s) HQS v; have HI6 := hide ((unhide HI5).put3 (unhide HAT) (unhide HM1) (unhide HAB) (by rw [unhide HQA]; exact (show RuleL _ w5 117 (w.heap.size + 1 + 1 + 1) q v from unhide HR).low HLO) (unhide HN2) hs6 hk6); have HO6 := hide ((unhide HO5).kept hk6 HNB); clear hb5))
        go_wp2_with fail
        refine ⟨⟨_, _, _, _, _, _, HI6⟩, ?_⟩
        rw [unhide HLF, (unhide HI6).rg.left_eq]
        exact unhide HLT
end Go.Proofs.YtokabkhnidlcnabGreat

/-
  Walk: refuseBad.
-/
namespace Go.Proofs.YtokabkhnidlcnabGreat
set_option maxRecDepth 100000
set_option linter.unusedSimpArgs false
set_option linter.unusedVariables false
open Go.RowKit

/-- A refusal. -/
def failE (code place : Int) : Ending := .panicked [{ v := .iface 120 (.agg #[.int .i64 code, .int .i64 place]), recovered := false }]

/-- What refuseBad does. -/
def BadPost (ts : List TokR) (x : Ending) : Prop :=
  (∃ i, i < ts.length ∧ (atT ts i).k = 6 ∧ (∀ j, j < i → (atT ts j).k ≠ 6) ∧ x = failE 3 (offT ts i : Int)) ∨ ((∀ j, j < ts.length → (atT ts j).k ≠ 6) ∧ x = .returned (.tuple #[]))

set_option maxHeartbeats 1000000 in
theorem refuseBad_any (g o c : Nat) (ts : List TokR) (w : World) (hm : ts.length + totToT ts ts.length ≤ 1048576) (hc : ts.length ≤ c) (hc2 : c ≤ maxLen) (hw : OpsT w g o ts) (hB : g < w.heap.size) (hz : ∀ i, i < ts.length → (atT ts i).g.size ≤ 1048576) :
    Calls Tryz.prog 33 #[.slice (some ⟨g, o, none⟩) ts.length c] w fun x w' => BadPost ts x ∧ Below w.heap.size w w' := by
  have HW := hide hw
  have HZ := hide hz
  clear hw hz
  go_enter Tryz.func33, Tryz.ntmps33
  go_wp2_with fail
  go_loopw [6] (fun iv wr => ∃ k : Nat, k ≤ ts.length ∧ iv = .int .i64 (k : Int) ∧ Hid (∀ j, j < k → (atT ts j).k ≠ 6) ∧ Below w.heap.size w wr) (fun iv _ => ts.length - (intOf iv).toNat)
  case atStart => exact ⟨0, Nat.zero_le _, rfl, hide (fun j hj => absurd hj (Nat.not_lt_zero j)), Below.refl _ _⟩
  case round =>
    obtain ⟨k, hk, rfl, hno, hbel⟩ := hrel
    by_cases hlt : k < ts.length
    · have hltI : (k : Int) < (ts.length : Int) := by omega
      obtain ⟨a0, a1, a2⟩ := ((unhide HW) k hlt).below hbel hB
      have hgr : g < wr.heap.size := by have := hbel.size; omega
      have hgn : g ≠ wr.heap.size := by omega
      have bel1 : Below w.heap.size w (wr.alloc (.cells #[.int .i64 (atT ts k).k, .string (atT ts k).g, .string (atT ts k).t] 56)) := hbel.alloc hbel.size _
      by_cases h6 : (atT ts k).k = 6
      · have hb : ((atT ts k).k == 6) = true := by rw [h6]; rfl
        have H6 := hide h6
        have HX := offsetOf_any g o c k ts _ hm hlt hc hc2 (fun j hj => ((unhide HW) j hj).below bel1 hB) (by simp; omega) ((unhide HZ) k hlt)
        clear h6
        go_wp2_with fail
        refine HX.mono ?_
        rintro x w2 ⟨rfl, hb2⟩
        have bel2 := bel1.trans (hb2.mono bel1.size)
        clear HX hb2
        go_wp2_with fail
        exact ⟨rfl, Or.inl ⟨k, hlt, unhide H6, unhide hno, rfl⟩, bel2⟩
      · have hb : ((atT ts k).k == 6) = false := by simp [h6]
        have HN2 := hide (show ∀ j, j < k + 1 → (atT ts j).k ≠ 6 from fun j hj => by
          by_cases e : j = k
          · rw [e]; exact h6
          · exact (unhide hno) j (by omega))
        clear h6
        go_wp2_with fail
        exact ⟨⟨k + 1, by omega, by go_num, HN2, bel1⟩, by simp [intOf]; omega⟩
    · have hke : k = ts.length := by omega
      have HN2 := hide (show ∀ j, j < ts.length → (atT ts j).k ≠ 6 from by rw [← hke]; exact unhide hno)
      have hnl : ¬ ((k : Int) < (ts.length : Int)) := by omega
      clear hke
      go_wp2_with fail
      go_end0
      exact ⟨Or.inr ⟨unhide HN2, rfl⟩, hbel⟩
end Go.Proofs.YtokabkhnidlcnabGreat

/-
  Walk: the answer to a refusal.
-/
namespace Go.Proofs.YtokabkhnidlcnabGreat
set_option maxRecDepth 100000
set_option linter.unusedSimpArgs false
set_option linter.unusedVariables false
open Go.RowKit

set_option maxHeartbeats 1000000 in
theorem answerTo_any (code place : Int) (w : World) :
    Calls Tryz.prog 30 #[.iface 120 (.agg #[.int .i64 code, .int .i64 place])] w fun x w' => x = .returned (.tuple #[.int .i64 code, .int .i64 place]) ∧ Below w.heap.size w w' := by
  go_enter Tryz.func30, Tryz.ntmps30
  have hta : ∀ W : World, (Instr.typeAssert (.iface 120 (.agg #[.int .i64 code, .int .i64 place])) 20 120 true).run Tryz.prog W = .ok (.tuple #[.agg #[.int .i64 code, .int .i64 place], .bool true]) W := fun W => by kernel_rfl
  go_wp2_with fail
  go_region
  go_wp2_with fail
  refine bodyPost_ret (v := .tuple #[.int .i64 code, .int .i64 place]) (by simp [results, Tryz.results30, go_sem]) rfl ⟨rfl, ?_⟩
  first
    | exact (below1 _ _).drew
    | exact below1 _ _
end Go.Proofs.YtokabkhnidlcnabGreat
