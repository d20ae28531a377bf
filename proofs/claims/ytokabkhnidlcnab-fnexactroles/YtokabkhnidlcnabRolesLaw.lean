/-
  Walk: the law of Roles.
-/
import Derived.Test.YtokabkhnidlcnabImplRol2
import Derived.Test.YtokabkhnidlcnabImplRoles
import Derived.Test.YtokabkhnidlcnabSpecRol3
import Derived.Test.YtokabkhnidlcnabIntRow
namespace Go.Proofs.Ytokabkhnidlcnab
set_option maxRecDepth 100000
set_option linter.unusedSimpArgs false
open Go.RowKit Go.Maps
attribute [local simp] heap_drew

theorem toTS_inL {w : World} (a : Option Addr) (cap : Nat) (ts : List TokR) (W : World) (hm : ts.length ≤ 1048576) (ha : ArgT w a ts) (hb : Below w.heap.size w W) :
    Calls Try.prog 24 #[.slice a ts.length cap] W fun e w' => (∃ g, e = .returned (.slice (some ⟨g, 0, none⟩) ts.length ts.length) ∧ W.heap.size ≤ g ∧ Hid (FilledT w' g ts ts.length)) ∧ Below W.heap.size W w' := by
  refine (toTS_any a cap ts W hm (ha.below hb)).mono ?_
  rintro e w' ⟨⟨g, rfl, hg, hf⟩, hb'⟩
  exact ⟨⟨g, rfl, hg, hide hf⟩, hb'⟩

set_option maxHeartbeats 8000000 in
theorem lawRoles (a a' : Option Addr) (cap cap' : Nat) (xs : List OpR) (ts : List TokR) (w : World) (hm : xs.length ≤ maxLen) (hmt : ts.length ≤ maxLen) (hw : Arg w a xs) (hwt : ArgT w a' ts) (hsz : Sized xs) (hst : SizedT ts) :
    Calls Try.prog 6 #[.agg #[.slice a xs.length cap], .slice a' ts.length cap'] w fun e w' => e = .returned (.bool true) ∧ Below w.heap.size w w' := by
  have HA := hide hw
  have HT := hide hwt
  have HZ := hide hsz
  have HZT := hide hst
  have HS0 := hide (show StL w (w.alloc (.cells #[.slice a xs.length cap] 24)) [(w.heap.size, .slice a xs.length cap)] [] [] from (StL.start w).alloc _ _)
  clear hw hsz hwt hst
  go_enter Try.func6, Try.ntmps6
  go_wp2_with fail
  refine (szTable_any a cap xs _ _ hm ((unhide HA).below (unhide HS0).bel) (unhide HZ) (by decide) (by decide)).mono ?_
  rintro e w1 ⟨⟨r, rfl, hr⟩, hb1⟩
  have HS1 := hide ((unhide HS0).step hb1)
  have bel1 := (unhide HS1).bel
  clear HS0 hb1
  by_cases hr0 : r < 0
  · go_wp2_with fail
    go_ret
    exact ⟨rfl, bel1⟩
  have hr1 : 0 ≤ r ∧ r ≤ 1048576 ∧ xs.length ≤ 1048576 := by unfold Left at hr; omega
  obtain ⟨hra, hrb, hnx⟩ := hr1
  clear hr
  go_wp2_with fail
  refine (szTS_any a' cap' ts _ _ hmt ((unhide HT).below bel1) (unhide HZT) hra hrb).mono ?_
  rintro e w1' ⟨⟨r2, rfl, hr2⟩, hb1'⟩
  have HS1' := hide ((unhide HS1).step hb1')
  have bel1' := (unhide HS1').bel
  clear HS1 hb1' bel1
  by_cases hr20 : r2 < 0
  · go_wp2_with fail
    go_ret
    exact ⟨rfl, bel1'⟩
  have hnt : ts.length ≤ 1048576 := by unfold LeftT at hr2; omega
  have e0 := (unhide HS1').cells (w.heap.size, .slice a xs.length cap) (by simp)
  simp only at e0
  clear hr2
  go_wp2_with fail
  refine (toTable_inL (w := w) a cap xs _ hnx (unhide HA) bel1').mono ?_
  rintro e w2 ⟨⟨g2, rfl, hg2, hf2⟩, hb2⟩
  have HS2 := hide (((unhide HS1').step hb2).addr (unhide hf2))
  clear HS1' hb2 e0 bel1' hf2
  go_wp2_with fail
  refine (toTS_inL (w := w) a' cap' ts _ hnt (unhide HT) (unhide HS2).bel).mono ?_
  rintro e w3 ⟨⟨t3, rfl, ht3, hf3⟩, hb3⟩
  have HS3 := hide (((unhide HS2).step hb3).addt (unhide hf3))
  clear HS2 hb3 hf3
  go_wp2_with fail
  refine (specRoles_any g2 0 _ t3 0 _ xs ts _ hnx hnt ((unhide HS3).rows (g2, xs) (by simp)).ops (unhide HZ) ((unhide HS3).rows (g2, xs) (by simp)).1 ((unhide HS3).toks (t3, ts) (by simp)).ops ((unhide HS3).toks (t3, ts) (by simp)).1).mono ?_
  rintro e w4 ⟨⟨gw, cw, us, v, rfl, hgw, hfw, hrl⟩, hb4⟩
  have HS4 := hide (((unhide HS3).step hb4).sub (cs' := [(w.heap.size, .slice a xs.length cap)]) (rs' := []) (ts' := []) (by simp) (by simp) (by simp))
  have HW4 := hide (show OwnedI w4 (w.heap.size + 1) (some ⟨gw, 0, none⟩) us from Or.inr ⟨gw, rfl, by have := (unhide HS3).lt.1 (w.heap.size, .slice a xs.length cap) (by simp); simp only at this; omega, hfw⟩)
  have HRL := hide hrl
  have hul : us.length ≤ 1048576 := Nat.le_trans hrl.len hnt
  have zgw := hfw.1
  clear HS3 hb4 hfw hrl
  have e0 := (unhide HS4).cells (w.heap.size, .slice a xs.length cap) (by simp)
  have z40 := (unhide HS4).lt.1 (w.heap.size, .slice a xs.length cap) (by simp)
  simp only at e0 z40
  go_wp2_with fail
  refine (toTable_inL (w := w) a cap xs _ hnx (unhide HA) (unhide HS4).bel).mono ?_
  rintro e w5 ⟨⟨g5, rfl, hg5, hf5⟩, hb5⟩
  have HS5 := hide ((((unhide HS4).step hb5).addr (unhide hf5)).alloc (.slice (some ⟨g5, 0, none⟩) xs.length xs.length) 28)
  have HW5 := hide (((unhide HW4).step hb5).step (below1 w5 (.cells #[.slice (some ⟨g5, 0, none⟩) xs.length xs.length] 28)))
  have zg5 := (unhide hf5).1
  clear HS4 HW4 hb5 hf5 e0
  go_wp2_with fail
  refine (toTS_inL (w := w) a' cap' ts _ hnt (unhide HT) (unhide HS5).bel).mono ?_
  rintro e w6 ⟨⟨t6, rfl, ht6, hf6⟩, hb6⟩
  have HS6 := hide (((unhide HS5).step hb6).addt (unhide hf6))
  have HW6 := hide ((unhide HW5).step hb6)
  have zt6 := (unhide hf6).1
  have ht6' : w5.heap.size < t6 := by simp at ht6; omega
  clear HS5 HW5 hb6 hf6 ht6
  have e5 := (unhide HS6).cells (w5.heap.size, .slice (some ⟨g5, 0, none⟩) xs.length xs.length) (by simp)
  simp only at e5
  go_wp2_with fail
  refine (implRoles_any g5 0 _ t6 0 _ xs ts _ hnx hnt ((unhide HS6).rows (g5, xs) (by simp)).ops (unhide HZ) ((unhide HS6).rows (g5, xs) (by simp)).1 ((unhide HS6).toks (t6, ts) (by simp)).ops (unhide HZT) ((unhide HS6).toks (t6, ts) (by simp)).1).mono ?_
  rintro e w7 ⟨⟨a9, c9, us', v', rfl, hO9, hrl'⟩, hb7⟩
  obtain ⟨rfl, rfl⟩ := hrl'.one (unhide HRL)
  have HS7 := hide ((unhide HS6).step hb7)
  have HW7 := hide ((unhide HW6).step hb7)
  have HO7 := hide hO9
  have HA9 := hide hO9.lt
  have hvv : (v' != v') = false := by simp
  clear HS6 HW6 hb7 hO9 hrl' e5
  go_wp2_with fail
  refine (eqIntS_arg a9 (some ⟨gw, 0, none⟩) c9 cw us' _ hul (unhide HO7).arg (unhide HW7).arg).mono ?_
  rintro e w8 ⟨rfl, hb8⟩
  have HS8 := hide ((unhide HS7).step hb8)
  have HW8 := hide ((unhide HW7).step hb8)
  have HO8 := hide ((unhide HO7).step hb8)
  clear HS7 HW7 HO7 hb8
  have bel8 := (unhide HS8).bel
  have e0 := (unhide HS8).cells (w.heap.size, .slice a xs.length cap) (by simp)
  have e5 := (unhide HS8).cells (w5.heap.size, .slice (some ⟨g5, 0, none⟩) xs.length xs.length) (by simp)
  have zz0 := (unhide HS8).lt.1 (w.heap.size, .slice a xs.length cap) (by simp)
  have zz5 := (unhide HS8).lt.1 (w5.heap.size, .slice (some ⟨g5, 0, none⟩) xs.length xs.length) (by simp)
  simp only at e0 e5 zz0 zz5
  go_wp2_with fail
  go_region_held (fun w' => w'.cell? ⟨w.heap.size, 0, none⟩ = some (.slice a xs.length cap) ∧ w'.cell? ⟨w5.heap.size, 0, none⟩ = some (.slice (some ⟨g5, 0, none⟩) xs.length xs.length)) (go_keep)
    (first | (go_at_call 12; refine (toTable_inL (w := w) a cap xs _ hnx (unhide HA) bel8.drew).mono ?_; rintro e w9 ⟨⟨g9, rfl, hg9, hf9⟩, hb9⟩; have c9' := (hb9.cell (p := ⟨w.heap.size, 0, none⟩) zz0).trans (show w8.drew.cell? ⟨w.heap.size, 0, none⟩ = _ from e0); have d9 := (hb9.cell (p := ⟨w5.heap.size, 0, none⟩) zz5).trans (show w8.drew.cell? ⟨w5.heap.size, 0, none⟩ = _ from e5); have HS9 := hide ((unhide HS8).drew.step hb9); have HO9 := hide (((unhide HO8).step (Below.refl _ _).drew).step hb9); have HW9 := hide (((unhide HW8).step (Below.refl _ _).drew).step hb9); have z90 := Nat.lt_of_lt_of_le zz0 hb9.size; have z95 := Nat.lt_of_lt_of_le zz5 hb9.size; clear hb9 hg9) | (go_at_call 14; refine (eqTable_same g5 0 g9 0 _ _ xs _ hnx ((unhide HS9).rows (g5, xs) (by simp)).ops (unhide hf9).ops ((unhide HS9).rows (g5, xs) (by simp)).1 (unhide hf9).1).mono ?_; rintro e w10 ⟨rfl, hb10⟩; have c10 := (hb10.cell (p := ⟨w.heap.size, 0, none⟩) z90).trans c9'; have d10 := (hb10.cell (p := ⟨w5.heap.size, 0, none⟩) z95).trans d9; have HS10 := hide ((unhide HS9).step hb10); have HO10 := hide ((unhide HO9).step hb10); have HW10 := hide ((unhide HW9).step hb10); clear hb10))
  clear HS8 HO8 HW8 HS9 HO9 HW9 c9' d9 c10 d10 hf9 e0 e5 zz0 zz5 z90 z95 bel8
  go_wp2_with fail
  refine (toTS_inL (w := w) a' cap' ts _ hnt (unhide HT) (unhide HS10).bel).mono ?_
  rintro e w11 ⟨⟨t11, rfl, ht11, hf11⟩, hb11⟩
  have HS11 := hide (((unhide HS10).step hb11).addt (unhide hf11))
  have HO11 := hide ((unhide HO10).step hb11)
  have HW11 := hide ((unhide HW10).step hb11)
  clear HS10 HO10 HW10 hb11 hf11
  go_wp2_with fail
  refine (eqTS_arg (some ⟨t6, 0, none⟩) (some ⟨t11, 0, none⟩) _ _ ts _ hnt ((unhide HS11).toks (t6, ts) (by simp)).arg ((unhide HS11).toks (t11, ts) (by simp)).arg).mono ?_
  rintro e w12 ⟨rfl, hb12⟩
  have HS12 := hide ((unhide HS11).step hb12)
  have HO12 := hide ((unhide HO11).step hb12)
  have HW12 := hide ((unhide HW11).step hb12)
  clear HS11 HO11 HW11 hb12
  have e5 := (unhide HS12).cells (w5.heap.size, .slice (some ⟨g5, 0, none⟩) xs.length xs.length) (by simp)
  simp only at e5
  go_wp2_with fail
  refine (markTable1 g5 _ xs _ hnx ((unhide HS12).rows (g5, xs) (by simp))).mono ?_
  rintro e w13 ⟨⟨k1, rfl, hk1⟩, hg13⟩
  have HS13 := hide (((unhide HS12).sub (cs' := [(w.heap.size, .slice a xs.length cap)]) (rs' := []) (ts' := [(t6, ts)]) (by simp) (by simp) (by simp)).grown hg13 (fun k hk => by
    simp at hk
    subst hk
    refine ⟨by omega, ?_, ?_, ?_⟩
    · simp; omega
    · simp
    · simp; omega))
  have HO13 := hide ((unhide HO12).grown hg13 (fun k hk => by simp at hk; omega))
  have HW13 := hide (show OwnedI w13 (w.heap.size + 1) (some ⟨gw, 0, none⟩) us' from by
    rcases unhide HW12 with ⟨_, h⟩ | ⟨g, hg, hn, hf⟩
    · cases h
    · injection hg with hg
      injection hg with hg
      subst hg
      exact Or.inr ⟨gw, rfl, hn, hf.grown hg13 (by simp; omega)⟩)
  clear HS12 HO12 HW12 hg13 e5
  have hk1a : 1 ≤ k1 := by have := unhide hk1; omega
  have hk1b : k1 ≤ 10000000 := by have := unhide hk1; omega
  go_wp2_with fail
  refine (markTS_any t6 _ k1 ts _ hnt hk1a hk1b ((unhide HS13).toks (t6, ts) (by simp))).mono ?_
  rintro e w14 ⟨⟨k2, rfl, hk2⟩, _, hkp14⟩
  have hg14 := (unhide hkp14).grown
  have HS14 := hide (((unhide HS13).sub (cs' := [(w.heap.size, .slice a xs.length cap)]) (rs' := []) (ts' := []) (by simp) (by simp) (by simp)).grown hg14 (fun k hk => by
    simp at hk
    subst hk
    refine ⟨by omega, ?_, ?_, ?_⟩
    · simp; omega
    · simp
    · simp))
  have HO14 := hide ((unhide HO13).grown hg14 (fun k hk => by simp at hk; omega))
  have HW14 := hide (show OwnedI w14 (w.heap.size + 1) (some ⟨gw, 0, none⟩) us' from by
    rcases unhide HW13 with ⟨_, h⟩ | ⟨g, hg, hn, hf⟩
    · cases h
    · injection hg with hg
      injection hg with hg
      subst hg
      exact Or.inr ⟨gw, rfl, hn, hf.grown hg14 (by simp; omega)⟩)
  clear HS13 HO13 HW13 hg14 hkp14 hk1 hk2
  have hk20 : ¬ (k2 : Int) < 0 := by omega
  go_wp2_with fail
  refine (eqIntS_arg a9 (some ⟨gw, 0, none⟩) c9 cw us' _ hul (unhide HO14).arg (unhide HW14).arg).mono ?_
  rintro e w15 ⟨rfl, hb15⟩
  have HS15 := hide ((unhide HS14).step hb15)
  have HO15 := hide ((unhide HO14).step hb15)
  have HW15 := hide ((unhide HW14).step hb15)
  clear HS14 HO14 HW14 hb15
  go_wp2_with fail
  refine (markIntS_own a9 c9 _ us' _ hul (unhide HO15)).mono ?_
  rintro e w16 ⟨⟨m1, rfl, hm1⟩, hM16, hg16⟩
  have HS16 := hide ((unhide HS15).grown hg16 (fun k hk => by
    have := (unhide HA9) k hk
    refine ⟨by omega, ?_, ?_, ?_⟩
    · simp; omega
    · simp
    · simp))
  have HW16 := hide (show OwnedI w16 (w.heap.size + 1) (some ⟨gw, 0, none⟩) us' from by
    rcases unhide HW15 with ⟨_, h⟩ | ⟨g, hg, hn, hf⟩
    · cases h
    · injection hg with hg
      injection hg with hg
      subst hg
      exact Or.inr ⟨gw, rfl, hn, hf.grown hg16 (fun e => by have := (unhide HA9) gw e.symm; omega)⟩)
  clear HS15 HO15 HW15 hg16
  go_wp2_with fail
  refine (heldIntS_own a9 c9 us'.length _ hul (unhide hM16)).mono ?_
  rintro e w17 ⟨⟨q1, rfl, hq1⟩, hb17⟩
  obtain rfl : q1 = m1 := (unhide hq1).trans (unhide hm1).symm
  have HS17 := hide ((unhide HS16).step hb17)
  have HW17 := hide ((unhide HW16).step hb17)
  have HM17 := hide ((unhide hM16).step hb17)
  clear HS16 HW16 hM16 hb17 hq1
  have hq10 : ¬ (q1 : Int) < 0 := by omega
  have e0 := (unhide HS17).cells (w.heap.size, .slice a xs.length cap) (by simp)
  simp only at e0
  go_wp2_with fail
  refine (toTable_inL (w := w) a cap xs _ hnx (unhide HA) (unhide HS17).bel).mono ?_
  rintro e w18 ⟨⟨g18, rfl, hg18, hf18⟩, hb18⟩
  have HS18 := hide (((unhide HS17).step hb18).addr (unhide hf18))
  have HW18 := hide ((unhide HW17).step hb18)
  have HM18 := hide ((unhide HM17).step hb18)
  clear HS17 HW17 HM17 hb18 hf18 e0
  go_wp2_with fail
  refine (toTS_inL (w := w) a' cap' ts _ hnt (unhide HT) (unhide HS18).bel).mono ?_
  rintro e w19 ⟨⟨t19, rfl, ht19, hf19⟩, hb19⟩
  have HS19 := hide (((unhide HS18).step hb19).addt (unhide hf19))
  have HW19 := hide ((unhide HW18).step hb19)
  have HM19 := hide ((unhide HM18).step hb19)
  clear HS18 HW18 HM18 hb19 hf19
  go_wp2_with fail
  refine (implRoles_any g18 0 _ t19 0 _ xs ts _ hnx hnt ((unhide HS19).rows (g18, xs) (by simp)).ops (unhide HZ) ((unhide HS19).rows (g18, xs) (by simp)).1 ((unhide HS19).toks (t19, ts) (by simp)).ops (unhide HZT) ((unhide HS19).toks (t19, ts) (by simp)).1).mono ?_
  rintro e w20 ⟨⟨a20, c20, us2, v2, rfl, hO20, hrl2⟩, hb20⟩
  obtain ⟨rfl, rfl⟩ := hrl2.one (unhide HRL)
  have HS20 := hide ((unhide HS19).step hb20)
  have HW20 := hide ((unhide HW19).step hb20)
  have HM20 := hide ((unhide HM19).step hb20)
  have HO20 := hide hO20
  clear HS19 HW19 HM19 hb20 hO20 hrl2
  go_wp2_with fail
  refine (eqIntS_arg a20 (some ⟨gw, 0, none⟩) c20 cw us2 _ hul (unhide HO20).arg (unhide HW20).arg).mono ?_
  rintro e w21 ⟨rfl, hb21⟩
  have HS21 := hide ((unhide HS20).step hb21)
  have HM21 := hide ((unhide HM20).step hb21)
  clear HS20 HM20 HO20 HW20 hb21
  go_wp2_with fail
  refine (heldIntS_own a9 c9 us2.length _ hul (unhide HM21)).mono ?_
  rintro e w22 ⟨⟨q2, rfl, hq2⟩, hb22⟩
  obtain rfl : q2 = q1 := (unhide hq2).trans (unhide hm1).symm
  have bel22 := ((unhide HS21).step hb22).bel
  clear HS21 HM21 hb22 hq2
  go_wp2_with fail
  go_ret
  exact ⟨rfl, bel22⟩
end Go.Proofs.Ytokabkhnidlcnab
