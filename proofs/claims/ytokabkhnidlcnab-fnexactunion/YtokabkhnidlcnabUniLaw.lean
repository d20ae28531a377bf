/-
  Walk: the law of Union.
-/
import Derived.Test.YtokabkhnidlcnabUniState
import Derived.Deep.DeepCutAuto
namespace Go.Proofs.Ytokabkhnidlcnab
set_option maxRecDepth 100000
open Go.RowKit Go.Maps
attribute [local simp] heap_drew

set_option maxRecDepth 100000 in
set_option maxHeartbeats 8000000 in
theorem lawUnion (aA aB : Option Addr) (cA cB : Nat) (xs ys : List OpR) (w : World) (hxm : xs.length ≤ maxLen) (hym : ys.length ≤ maxLen) (hxa : Arg w aA xs) (hya : Arg w aB ys) (hxs : Sized xs) (hys : Sized ys) (hf : ∀ i, i < (xs ++ ys).length → Fine (atO (xs ++ ys) i)) :
    Calls Try.prog 3 #[.agg #[.slice aA xs.length cA], .agg #[.slice aB ys.length cB]] w fun e w' => e = .returned (.bool true) ∧ Below w.heap.size w w' := by
  have HXA := hide hxa
  have HYA := hide hya
  have HXS := hide hxs
  have HYS := hide hys
  have HFN := hide hf
  have HS0 := hide (show Stt w ((w.alloc (.cells #[.slice aA xs.length cA] 24)).alloc (.cells #[.slice aB ys.length cB] 24)) [(w.heap.size + 1, .slice aB ys.length cB), (w.heap.size, .slice aA xs.length cA)] [] by
    have h0 : Stt w w [] [] := ⟨fun p hp => (by cases hp), fun r hr => (by cases hr), Below.refl _ _⟩
    have := (h0.alloc (.slice aA xs.length cA) 24).alloc (.slice aB ys.length cB) 24
    simpa using this)
  clear hxa hya hxs hys hf
  go_enter Try.func3, Try.ntmps3
  go_wp2_with fail
  refine (szTable_any aA cA xs _ _ hxm ((unhide HXA).of_bel (unhide HS0).bel) (unhide HXS) (by decide) (by decide)).mono ?_
  rintro e w1 ⟨⟨r, rfl, hr⟩, hb1⟩
  have HS1 := hide ((unhide HS0).step hb1)
  have bel1 := (unhide HS1).bel
  clear HS0 hb1
  by_cases hr0 : r < 0
  · go_wp2_with fail
    go_ret
    exact ⟨rfl, bel1⟩
  have hr1 : 0 ≤ r ∧ r + xs.length ≤ 1048576 := by unfold Left at hr; omega
  obtain ⟨hra, hrb⟩ := hr1
  have e1 := (unhide HS1).cells (w.heap.size + 1, .slice aB ys.length cB) (by simp)
  simp only at e1
  clear hr
  go_wp2_with fail
  refine (szTable_any aB cB ys _ _ hym ((unhide HYA).of_bel bel1) (unhide HYS) hra (by omega)).mono ?_
  rintro e w2 ⟨⟨r2, rfl, hr2⟩, hb2⟩
  have HS2 := hide ((unhide HS1).step hb2)
  have bel2 := (unhide HS2).bel
  clear HS1 hb2 e1
  by_cases hr20 : r2 < 0
  · go_wp2_with fail
    go_ret
    exact ⟨rfl, bel2⟩
  have hn : xs.length + ys.length ≤ 1048576 := by unfold Left at hr2; omega
  have e1 := (unhide HS2).cells (w.heap.size + 1, .slice aB ys.length cB) (by simp)
  have e0 := (unhide HS2).cells (w.heap.size, .slice aA xs.length cA) (by simp)
  simp only at e1 e0
  have z2 := ((unhide HS2).lt.1 (w.heap.size + 1, .slice aB ys.length cB) (by simp))
  simp only at z2
  clear hr2 bel1
  obtain ⟨us, hus⟩ : ∃ us, us = uniTo (xs ++ ys) (xs ++ ys).length := ⟨_, rfl⟩
  have hul : us.length ≤ 1048576 := by
    have := uni_len (xs ++ ys) (xs ++ ys).length
    rw [← hus] at this
    simp at this
    omega
  have HUS := hide hus
  clear hus
  have hnx : xs.length ≤ 1048576 := by omega
  have hny : ys.length ≤ 1048576 := by omega
  have z2' : w.heap.size < w2.heap.size := by omega
  have n20 : ¬ w.heap.size = w2.heap.size := by omega
  have n21 : ¬ w.heap.size + 1 = w2.heap.size := by omega
  have m20 : ¬ w2.heap.size = w.heap.size := by omega
  have m21 : ¬ w2.heap.size = w.heap.size + 1 := by omega
  go_wp2_with fail
  go_cut [6] (fun s6 wc => ∃ b6 h6 c6 : Nat, s6 = .pointer (some ⟨b6, 0, none⟩) ∧ w.heap.size + 2 ≤ b6 ∧ w.heap.size + 2 ≤ h6 ∧ Hid (Stt w wc [(b6, .slice (some ⟨h6, 0, none⟩) us.length c6), (w.heap.size + 1, .slice aB ys.length cB), (w.heap.size, .slice aA xs.length cA)] [(h6, us)]))
  case first =>
    go_region_held (fun w' => w'.cell? ⟨w.heap.size, 0, none⟩ = some (.slice aA xs.length cA) ∧ w'.cell? ⟨w.heap.size + 1, 0, none⟩ = some (.slice aB ys.length cB)) (go_keep)
      (first | (go_at_call_of 12 aA; refine (toTable_in (w := w) aA cA xs _ hnx (unhide HXA) (by first | exact bel2.drew | exact (bel2.alloc (Nat.le_of_lt z2') _).drew)).mono ?_; rintro e wA ⟨⟨gA, rfl, hgA, hfA⟩, hbA, belA, szA⟩; obtain ⟨hcA, hrA⟩ := bcell hbA; have pA0 := hbA.cell (p := ⟨w.heap.size, 0, none⟩) (by first | assumption | (simp; omega)); have pA1 := hbA.cell (p := ⟨w.heap.size + 1, 0, none⟩) (by first | assumption | (simp; omega)); have sA : w2.heap.size < wA.heap.size := (by first | omega | (simp at szA; omega)); have sA0 : w.heap.size < wA.heap.size := (by omega); have sA1 : w.heap.size + 1 < wA.heap.size := (by omega); have nA0 : ¬ w.heap.size = wA.heap.size := (by omega); have nA1 : ¬ w.heap.size + 1 = wA.heap.size := (by omega); have mA0 : ¬ wA.heap.size = w.heap.size := (by omega); have mA1 : ¬ wA.heap.size = w.heap.size + 1 := (by omega)) | (go_at_call_of 12 aB; refine (toTable_in (w := w) aB cB ys _ hny (unhide HYA) (by first | exact belA | exact (belA.alloc (Nat.le_of_lt sA0) _))).mono ?_; rintro e wB ⟨⟨gB, rfl, hgB, hfB⟩, hbB, belB, szB⟩; obtain ⟨hcB, hrB⟩ := bcell hbB; have pB0 := hbB.cell (p := ⟨w.heap.size, 0, none⟩) (by first | assumption | (simp; omega)); have pB1 := hbB.cell (p := ⟨w.heap.size + 1, 0, none⟩) (by first | assumption | (simp; omega)); have sB' : wA.heap.size < wB.heap.size := (by first | omega | (simp at szB; omega)); have sB : w2.heap.size < wB.heap.size := (by omega); have sB0 : w.heap.size < wB.heap.size := (by omega); have sB1 : w.heap.size + 1 < wB.heap.size := (by omega); have nB0 : ¬ w.heap.size = wB.heap.size := (by omega); have nB1 : ¬ w.heap.size + 1 = wB.heap.size := (by omega); have mB0 : ¬ wB.heap.size = w.heap.size := (by omega); have mB1 : ¬ wB.heap.size = w.heap.size + 1 := (by omega); have hfA2 : Hid (Filled wB gA xs xs.length) := (by first | exact hide ((unhide hfA).below hbB (unhide hfA).1) | exact hide (((unhide hfA).below (below1 _ _) (unhide hfA).1).below hbB ((unhide hfA).below (below1 _ _) (unhide hfA).1).1))) | (go_at_call 11; refine (specUnion_us (w := w) gA gB _ _ xs ys us HUS _ hn (by first | exact unhide hfA2 | exact (unhide hfA2).below (below1 _ _) (unhide hfA2).1) (by first | exact unhide hfB | exact (unhide hfB).below (below1 _ _) (unhide hfB).1) (by first | exact belB | exact (belB.alloc (Nat.le_of_lt sB0) _))).mono ?_; rintro e wU ⟨⟨h6, c6, rfl, hh6, hfU⟩, hbU, belU, szU⟩; obtain ⟨hcU, hrU⟩ := bcell hbU; have hh6' : wB.heap.size ≤ h6 := (by first | omega | (simp at hh6; omega)); have pU0 := hbU.cell (p := ⟨w.heap.size, 0, none⟩) (by first | assumption | (simp; omega)); have pU1 := hbU.cell (p := ⟨w.heap.size + 1, 0, none⟩) (by first | assumption | (simp; omega)); have sU'' : wB.heap.size < wU.heap.size := (by first | omega | (simp at szU; omega)); have sU' : wA.heap.size < wU.heap.size := (by omega); have sU : w2.heap.size < wU.heap.size := (by omega); have sU0 : w.heap.size < wU.heap.size := (by omega); have sU1 : w.heap.size + 1 < wU.heap.size := (by omega)))
    all_goals
      have qU0 : wU.cell? ⟨w.heap.size, 0, none⟩ = some (.slice aA xs.length cA) := by go_keep
      have qU1 : wU.cell? ⟨w.heap.size + 1, 0, none⟩ = some (.slice aB ys.length cB) := by go_keep
      have HSU := hide (show Stt w wU [(w.heap.size + 1, .slice aB ys.length cB), (w.heap.size, .slice aA xs.length cA)] [(h6, us)] from ⟨fun p hp => (by
        rcases List.mem_cons.1 hp with rfl | hp
        · exact qU1
        · rcases List.mem_cons.1 hp with rfl | hp
          · exact qU0
          · cases hp), fun r hr => (by
        rcases List.mem_cons.1 hr with rfl | hr
        · exact unhide hfU
        · cases hr), belU⟩)
      go_wp2_with fail
      go_meet
      case rel =>
        go_light
        first
          | exact ⟨wU.heap.size, h6, c6, rfl, by omega, by omega, hide ((unhide HSU).alloc _ _)⟩
          | exact ⟨wB.heap.size, h6, c6, rfl, by omega, by omega, hide ((unhide HSU).store (u := .slice none 0 0) _ (by go_keep) (by omega) (by simp; omega) (by simp at hh6; simp; omega))⟩
          | exact ⟨wA.heap.size, h6, c6, rfl, by omega, by omega, hide ((unhide HSU).store (u := .slice none 0 0) _ (by go_keep) (by omega) (by simp; omega) (by simp; omega))⟩
          | exact ⟨w2.heap.size, h6, c6, rfl, by omega, by omega, hide ((unhide HSU).store (u := .slice none 0 0) _ (by go_keep) (by omega) (by simp; omega) (by simp; omega))⟩
  case rest =>
    obtain ⟨b6, h6, c6, rfl, hb6, hh6, HS3⟩ := hcut
    clear e0 e1 z2 z2' n20 n21 m20 m21 HS2 bel2
    have bel3 := (unhide HS3).bel
    have e0 := (unhide HS3).cells (w.heap.size, .slice aA xs.length cA) (by simp)
    have zb6 := (unhide HS3).lt.1 (b6, .slice (some ⟨h6, 0, none⟩) us.length c6) (by simp)
    have zh6 := (unhide HS3).lt.2 (h6, us) (by simp)
    simp only at e0 zb6 zh6
    go_wp2_with fail
    refine (toTable_in (w := w) aA cA xs _ hnx (unhide HXA) bel3).mono ?_
    rintro e w4 ⟨⟨g7, rfl, hg7, hf7⟩, hb4, bel4, sz4⟩
    have HS4 := hide ((((unhide HS3).step hb4).addr (unhide hf7)).alloc (.slice (some ⟨g7, 0, none⟩) xs.length xs.length) 28)
    have zg7 := (unhide hf7).1
    clear HS3 hb4 hf7 bel3 e0
    have e1 := (unhide HS4).cells (w.heap.size + 1, .slice aB ys.length cB) (by simp)
    simp only at e1
    go_wp2_with fail
    refine (toTable_in (w := w) aB cB ys _ hny (unhide HYA) (unhide HS4).bel).mono ?_
    rintro e w5 ⟨⟨g8, rfl, hg8, hf8⟩, hb5, bel5, sz5⟩
    have HS5 := hide ((((unhide HS4).step hb5).addr (unhide hf8)).alloc (.slice (some ⟨g8, 0, none⟩) ys.length ys.length) 28)
    have zg8 := (unhide hf8).1
    have hg8' : w4.heap.size < g8 := by simp at hg8; omega
    clear HS4 hb5 hf8 e1 hg8 bel4
    have e7 := (unhide HS5).cells (w4.heap.size, .slice (some ⟨g7, 0, none⟩) xs.length xs.length) (by simp)
    have e8 := (unhide HS5).cells (w5.heap.size, .slice (some ⟨g8, 0, none⟩) ys.length ys.length) (by simp)
    simp only at e7 e8
    go_wp2_with fail
    refine (implUnion_us (w := w) g7 g8 _ _ xs ys us HUS _ hn ((unhide HS5).rows (g7, xs) (by simp)) ((unhide HS5).rows (g8, ys) (by simp)) (unhide HS5).bel HFN).mono ?_
    rintro e w6 ⟨⟨a9, c9, rfl, hO9⟩, hb6', bel6⟩
    have HS6 := hide (((unhide HS5).step hb6').alloc (.slice a9 us.length c9) 28)
    have HO6 := hide ((unhide hO9).step (below1 w6 (.cells #[.slice a9 us.length c9] 28)))
    have HA9 := hide (unhide hO9).lt
    have zb8 : w5.heap.size < w6.heap.size := by have := hb6'.size; simp at this; omega
    clear HS5 hb6' e7 e8 bel5 hO9
    have e9 := (unhide HS6).cells (w6.heap.size, .slice a9 us.length c9) (by simp)
    have e6 := (unhide HS6).cells (b6, .slice (some ⟨h6, 0, none⟩) us.length c6) (by simp)
    simp only at e9 e6
    go_wp2_with fail
    refine (eqTable_arg a9 (some ⟨h6, 0, none⟩) c9 c6 us _ hul (unhide HO6).arg ((unhide HS6).rows (h6, us) (by simp)).arg).mono ?_
    rintro e w7 ⟨rfl, hb7⟩
    have HS7 := hide ((unhide HS6).step hb7)
    have HO7 := hide ((unhide HO6).step hb7)
    have zb9 : w6.heap.size < w7.heap.size := by have := hb7.size; simp at this; omega
    clear HS6 HO6 hb7 e9 e6 bel6
    have bel7 := (unhide HS7).bel
    have e7 := (unhide HS7).cells (w4.heap.size, .slice (some ⟨g7, 0, none⟩) xs.length xs.length) (by simp)
    have e0 := (unhide HS7).cells (w.heap.size, .slice aA xs.length cA) (by simp)
    have zz0 := (unhide HS7).lt.1 (w.heap.size, .slice aA xs.length cA) (by simp)
    have zz7 := (unhide HS7).lt.1 (w4.heap.size, .slice (some ⟨g7, 0, none⟩) xs.length xs.length) (by simp)
    simp only at e7 e0 zz0 zz7
    go_wp2_with fail
    go_region_held (fun w' => w'.cell? ⟨w.heap.size, 0, none⟩ = some (.slice aA xs.length cA) ∧ w'.cell? ⟨w4.heap.size, 0, none⟩ = some (.slice (some ⟨g7, 0, none⟩) xs.length xs.length)) (go_keep)
      (first | (go_at_call 12; refine (toTable_in (w := w) aA cA xs _ hnx (unhide HXA) bel7.drew).mono ?_; rintro e w8 ⟨⟨g10, rfl, hg10, hf10⟩, hb8, bel8, sz8⟩; have c8 := (hb8.cell (p := ⟨w.heap.size, 0, none⟩) zz0).trans (show w7.drew.cell? ⟨w.heap.size, 0, none⟩ = _ from e0); have d8 := (hb8.cell (p := ⟨w4.heap.size, 0, none⟩) zz7).trans (show w7.drew.cell? ⟨w4.heap.size, 0, none⟩ = _ from e7); have HS8 := hide ((unhide HS7).drew.step hb8); have HO8 := hide (((unhide HO7).step (Below.refl _ _).drew).step hb8); have z80 := Nat.lt_of_lt_of_le zz0 hb8.size; have z87 := Nat.lt_of_lt_of_le zz7 hb8.size; clear hb8 sz8 hg10) | (go_at_call 14; refine (eqTable_arg (some ⟨g7, 0, none⟩) (some ⟨g10, 0, none⟩) _ _ xs _ hnx ((unhide HS8).rows (g7, xs) (by simp)).arg (unhide hf10).arg).mono ?_; rintro e w9 ⟨rfl, hb9⟩; have c9 := (hb9.cell (p := ⟨w.heap.size, 0, none⟩) z80).trans c8; have d9 := (hb9.cell (p := ⟨w4.heap.size, 0, none⟩) z87).trans d8; have HS9 := hide ((unhide HS8).step hb9); have HO9 := hide ((unhide HO8).step hb9); clear hb9))
    clear HS7 HO7 HS8 HO8 c8 d8 c9 d9 hf10 e7 e0 zz0 zz7 z80 z87 bel7 bel8
    have bel9 := (unhide HS9).bel
    have e8 := (unhide HS9).cells (w5.heap.size, .slice (some ⟨g8, 0, none⟩) ys.length ys.length) (by simp)
    have e1 := (unhide HS9).cells (w.heap.size + 1, .slice aB ys.length cB) (by simp)
    have zz1 := (unhide HS9).lt.1 (w.heap.size + 1, .slice aB ys.length cB) (by simp)
    have zz8 := (unhide HS9).lt.1 (w5.heap.size, .slice (some ⟨g8, 0, none⟩) ys.length ys.length) (by simp)
    simp only at e8 e1 zz1 zz8
    go_wp2_with fail
    go_region_held (fun w' => w'.cell? ⟨w.heap.size + 1, 0, none⟩ = some (.slice aB ys.length cB) ∧ w'.cell? ⟨w5.heap.size, 0, none⟩ = some (.slice (some ⟨g8, 0, none⟩) ys.length ys.length)) (go_keep)
      (first | (go_at_call 12; refine (toTable_in (w := w) aB cB ys _ hny (unhide HYA) bel9.drew).mono ?_; rintro e w10 ⟨⟨g11, rfl, hg11, hf11⟩, hb10, bel10, sz10⟩; have c10 := (hb10.cell (p := ⟨w.heap.size + 1, 0, none⟩) zz1).trans (show w9.drew.cell? ⟨w.heap.size + 1, 0, none⟩ = _ from e1); have d10 := (hb10.cell (p := ⟨w5.heap.size, 0, none⟩) zz8).trans (show w9.drew.cell? ⟨w5.heap.size, 0, none⟩ = _ from e8); have HS10 := hide ((unhide HS9).drew.step hb10); have HO10 := hide (((unhide HO9).step (Below.refl _ _).drew).step hb10); have z101 := Nat.lt_of_lt_of_le zz1 hb10.size; have z108 := Nat.lt_of_lt_of_le zz8 hb10.size; clear hb10 sz10 hg11) | (go_at_call 14; refine (eqTable_arg (some ⟨g8, 0, none⟩) (some ⟨g11, 0, none⟩) _ _ ys _ hny ((unhide HS10).rows (g8, ys) (by simp)).arg (unhide hf11).arg).mono ?_; rintro e w11 ⟨rfl, hb11⟩; have c11 := (hb11.cell (p := ⟨w.heap.size + 1, 0, none⟩) z101).trans c10; have d11 := (hb11.cell (p := ⟨w5.heap.size, 0, none⟩) z108).trans d10; have HS11 := hide ((unhide HS10).step hb11); have HO11 := hide ((unhide HO10).step hb11); clear hb11))
    clear HS9 HO9 HS10 HO10 c10 d10 c11 d11 hf11 e8 e1 zz1 zz8 z101 z108 bel9 bel10
    have e7 := (unhide HS11).cells (w4.heap.size, .slice (some ⟨g7, 0, none⟩) xs.length xs.length) (by simp)
    simp only at e7
    go_wp2_with fail
    refine (markTable_one (some ⟨g7, 0, none⟩) _ w.heap.size xs _ hnx (((unhide HS11).rows (g7, xs) (by simp)).owned (by omega))).mono ?_
    rintro e w12 ⟨⟨k1, rfl, hk1⟩, _, hg12⟩
    have HS12 := hide (((unhide HS11).sub (cs' := [(w6.heap.size, .slice a9 us.length c9), (w5.heap.size, .slice (some ⟨g8, 0, none⟩) ys.length ys.length), (b6, .slice (some ⟨h6, 0, none⟩) us.length c6), (w.heap.size + 1, .slice aB ys.length cB), (w.heap.size, .slice aA xs.length cA)]) (rs' := [(g8, ys), (h6, us)]) (by simp) (by simp)).grown hg12 (fun k hk => by
      simp at hk
      subst hk
      refine ⟨by omega, ?_, ?_⟩
      · simp; omega
      · simp; omega))
    have HO12 := hide ((unhide HO11).grown hg12 (fun k hk => by simp at hk; simp; omega))
    clear HS11 HO11 hg12 e7
    have e8 := (unhide HS12).cells (w5.heap.size, .slice (some ⟨g8, 0, none⟩) ys.length ys.length) (by simp)
    simp only at e8
    go_wp2_with fail
    refine (markTable_in (some ⟨g8, 0, none⟩) _ k1 w.heap.size ys _ hny (by have := unhide hk1; omega) (by have := unhide hk1; omega) (((unhide HS12).rows (g8, ys) (by simp)).owned (by omega))).mono ?_
    rintro e w13 ⟨⟨k2, rfl, hk2⟩, _, hg13⟩
    have HS13 := hide (((unhide HS12).sub (cs' := [(w6.heap.size, .slice a9 us.length c9), (b6, .slice (some ⟨h6, 0, none⟩) us.length c6), (w.heap.size + 1, .slice aB ys.length cB), (w.heap.size, .slice aA xs.length cA)]) (rs' := [(h6, us)]) (by simp) (by simp)).grown hg13 (fun k hk => by
      simp at hk
      subst hk
      refine ⟨by omega, ?_, ?_⟩
      · simp; omega
      · simp; omega))
    have HO13 := hide ((unhide HO12).grown hg13 (fun k hk => by simp at hk; simp; omega))
    clear HS12 HO12 hg13 e8 hk1 hk2
    have e9 := (unhide HS13).cells (w6.heap.size, .slice a9 us.length c9) (by simp)
    have e6 := (unhide HS13).cells (b6, .slice (some ⟨h6, 0, none⟩) us.length c6) (by simp)
    simp only at e9 e6
    have hk20 : ¬ (k2 : Int) < 0 := by omega
    go_wp2_with fail
    refine (eqTable_arg a9 (some ⟨h6, 0, none⟩) c9 c6 us _ hul (unhide HO13).arg ((unhide HS13).rows (h6, us) (by simp)).arg).mono ?_
    rintro e w14 ⟨rfl, hb14⟩
    have HS14 := hide ((unhide HS13).step hb14)
    have HO14 := hide ((unhide HO13).step hb14)
    clear HS13 HO13 hb14 e9 e6
    have e9 := (unhide HS14).cells (w6.heap.size, .slice a9 us.length c9) (by simp)
    simp only at e9
    go_wp2_with fail
    refine (markTable_one a9 c9 _ us _ hul (unhide HO14)).mono ?_
    rintro e w15 ⟨⟨m1, rfl, hm1⟩, hM15, hg15⟩
    have HS15 := hide ((unhide HS14).grown hg15 (fun k hk => by
      have := (unhide HA9) k hk
      simp at this
      refine ⟨by omega, ?_, ?_⟩
      · simp; omega
      · simp; omega))
    clear HS14 HO14 hg15 e9
    have e9 := (unhide HS15).cells (w6.heap.size, .slice a9 us.length c9) (by simp)
    simp only at e9
    go_wp2_with fail
    refine (heldTable_one a9 c9 us.length _ hul (unhide hM15)).mono ?_
    rintro e w16 ⟨⟨q1, rfl, hq1⟩, hb16⟩
    obtain rfl : q1 = m1 := (unhide hq1).trans (unhide hm1).symm
    have HM16 := hide (And.intro ((unhide HS15).step hb16) ((unhide hM15).step hb16))
    clear HS15 hM15 hb16 e9 hq1
    have hq10 : ¬ (q1 : Int) < 0 := by omega
    have bel16 := (unhide HM16).1.bel
    have e0 := (unhide HM16).1.cells (w.heap.size, .slice aA xs.length cA) (by simp)
    have e1 := (unhide HM16).1.cells (w.heap.size + 1, .slice aB ys.length cB) (by simp)
    have zz0 := (unhide HM16).1.lt.1 (w.heap.size, .slice aA xs.length cA) (by simp)
    have zz1 := (unhide HM16).1.lt.1 (w.heap.size + 1, .slice aB ys.length cB) (by simp)
    have zz9 := (unhide HM16).1.lt.1 (w6.heap.size, .slice a9 us.length c9) (by simp)
    have zzb := (unhide HM16).1.lt.1 (b6, .slice (some ⟨h6, 0, none⟩) us.length c6) (by simp)
    have zzh := (unhide HM16).1.lt.2 (h6, us) (by simp)
    simp only at e0 e1 zz0 zz1 zz9 zzb zzh
    have n160 : ¬ w16.heap.size = w.heap.size := by omega
    have n161 : ¬ w16.heap.size = w.heap.size + 1 := by omega
    go_wp2_with fail
    go_cut [13] (fun s13 wd => ∃ (b13 c13 : Nat) (a13 : Option Addr), s13 = .pointer (some ⟨b13, 0, none⟩) ∧ Hid (Stt w wd [(b13, .slice a13 us.length c13), (w6.heap.size, .slice a9 us.length c9), (b6, .slice (some ⟨h6, 0, none⟩) us.length c6)] [(h6, us)]) ∧ Hid (Owned wd w.heap.size a13 us) ∧ Hid (Marked wd a9 1 us.length))
    case first =>
      go_region_held (fun w' => w'.cell? ⟨w.heap.size, 0, none⟩ = some (.slice aA xs.length cA) ∧ w'.cell? ⟨w.heap.size + 1, 0, none⟩ = some (.slice aB ys.length cB)) (go_keep)
        (first | (go_at_call_of 12 aA; refine (toTable_in (w := w) aA cA xs _ hnx (unhide HXA) (by first | exact bel16.drew | exact (bel16.alloc (Nat.le_of_lt zz0) _).drew)).mono ?_; rintro e wA ⟨⟨gA, rfl, hgA, hfA⟩, hbA, belA, szA⟩; obtain ⟨hcA, hrA⟩ := bcell hbA; have hMA : Hid (Stt w wA [(w6.heap.size, .slice a9 us.length c9), (b6, .slice (some ⟨h6, 0, none⟩) us.length c6), (w.heap.size + 1, .slice aB ys.length cB), (w.heap.size, .slice aA xs.length cA)] [(h6, us)] ∧ Marked wA a9 1 us.length) := (by first | exact hide ⟨(unhide HM16).1.drew.step hbA, ((unhide HM16).2.step (Below.refl _ _).drew).step hbA⟩ | exact hide ⟨((unhide HM16).1.step (below1 _ _)).drew.step hbA, (((unhide HM16).2.step (below1 _ _)).step (Below.refl _ _).drew).step hbA⟩); have qA0 := (unhide hMA).1.cells (w.heap.size, .slice aA xs.length cA) (by simp); have qA1 := (unhide hMA).1.cells (w.heap.size + 1, .slice aB ys.length cB) (by simp); simp only at qA0 qA1; have sA : w16.heap.size < wA.heap.size := (by first | omega | (simp at szA; omega)); have sA0 : w.heap.size < wA.heap.size := (by omega); have nA0 : ¬ wA.heap.size = w.heap.size := (by omega); have nA1 : ¬ wA.heap.size = w.heap.size + 1 := (by omega)) | (go_at_call_of 12 aB; refine (toTable_in (w := w) aB cB ys _ hny (unhide HYA) (by first | exact belA | exact (belA.alloc (Nat.le_of_lt sA0) _))).mono ?_; rintro e wB ⟨⟨gB, rfl, hgB, hfB⟩, hbB, belB, szB⟩; obtain ⟨hcB, hrB⟩ := bcell hbB; have hMB : Hid (Stt w wB [(w6.heap.size, .slice a9 us.length c9), (b6, .slice (some ⟨h6, 0, none⟩) us.length c6), (w.heap.size + 1, .slice aB ys.length cB), (w.heap.size, .slice aA xs.length cA)] [(h6, us)] ∧ Marked wB a9 1 us.length) := (by first | exact hide ⟨(unhide hMA).1.step hbB, (unhide hMA).2.step hbB⟩ | exact hide ⟨((unhide hMA).1.step (below1 _ _)).step hbB, ((unhide hMA).2.step (below1 _ _)).step hbB⟩); have qB0 := (unhide hMB).1.cells (w.heap.size, .slice aA xs.length cA) (by simp); have qB1 := (unhide hMB).1.cells (w.heap.size + 1, .slice aB ys.length cB) (by simp); simp only at qB0 qB1; have sB' : wA.heap.size < wB.heap.size := (by first | omega | (simp at szB; omega)); have sB : w16.heap.size < wB.heap.size := (by omega); have sB0 : w.heap.size < wB.heap.size := (by omega); have nB0 : ¬ wB.heap.size = w.heap.size := (by omega); have nB1 : ¬ wB.heap.size = w.heap.size + 1 := (by omega); have hfA2 : Hid (Filled wB gA xs xs.length) := (by first | exact hide ((unhide hfA).below hbB (unhide hfA).1) | exact hide (((unhide hfA).below (below1 _ _) (unhide hfA).1).below hbB ((unhide hfA).below (below1 _ _) (unhide hfA).1).1))) | (go_at_call 13; refine (implUnion_us (w := w) gA gB _ _ xs ys us HUS _ hn (by first | exact unhide hfA2 | exact (unhide hfA2).below (below1 _ _) (unhide hfA2).1) (by first | exact unhide hfB | exact (unhide hfB).below (below1 _ _) (unhide hfB).1) (by first | exact belB | exact (belB.alloc (Nat.le_of_lt sB0) _)) HFN).mono ?_; rintro e wU ⟨⟨a13, c13, rfl, hOU⟩, hbU, belU⟩; obtain ⟨hcU, hrU⟩ := bcell hbU; have hMU : Hid (Stt w wU [(w6.heap.size, .slice a9 us.length c9), (b6, .slice (some ⟨h6, 0, none⟩) us.length c6), (w.heap.size + 1, .slice aB ys.length cB), (w.heap.size, .slice aA xs.length cA)] [(h6, us)] ∧ Marked wU a9 1 us.length) := (by first | exact hide ⟨(unhide hMB).1.step hbU, (unhide hMB).2.step hbU⟩ | exact hide ⟨((unhide hMB).1.step (below1 _ _)).step hbU, ((unhide hMB).2.step (below1 _ _)).step hbU⟩); have qU0 := (unhide hMU).1.cells (w.heap.size, .slice aA xs.length cA) (by simp); have qU1 := (unhide hMU).1.cells (w.heap.size + 1, .slice aB ys.length cB) (by simp); simp only at qU0 qU1; have sU'' : wB.heap.size ≤ wU.heap.size := (by have := hbU.size; first | omega | (simp at this; omega)); have sU' : wA.heap.size < wU.heap.size := (by omega); have sU : w16.heap.size < wU.heap.size := (by omega)))
      all_goals
        go_wp2_with fail
        go_meet
        case rel =>
          go_light
          refine ⟨_, c13, a13, rfl, hide ?_, hide ?_, hide ?_⟩
          · first
              | exact ((unhide hMU).1.alloc (.slice a13 us.length c13) 28).sub (by simp) (by simp)
              | (refine ((unhide hMU).1.store (u := .slice none 0 0) (.slice a13 us.length c13) ?_ ?_ ?_ ?_).sub (by simp) (by simp)
                 · go_keep
                 · omega
                 · simp; omega
                 · simp; omega)
          · first
              | (refine ((unhide hOU).step (below1 _ _)).le ?_
                 first | omega | (simp; done) | (simp; omega))
              | (refine ((unhide hOU).grown (grown_setCell _ _ _ _) (fun k hk => ?_)).le ?_
                 · injection hk with hk
                   subst hk
                   first | omega | (simp; done) | (simp; omega)
                 · first | omega | (simp; done) | (simp; omega))
          · first
              | exact (unhide hMU).2.step (below1 _ _)
              | (refine (unhide hMU).2.grown (grown_setCell _ _ _ _) (fun q hq e => ?_)
                 injection e with e
                 have := (unhide HA9) q hq
                 omega)
    case rest =>
      obtain ⟨b13, c13, a13, rfl, HS17, HO17, HM17⟩ := hcut
      clear HM16 bel16 e0 e1 zz0 zz1 zz9 zzb zzh n160 n161
      have e13 := (unhide HS17).cells (b13, .slice a13 us.length c13) (by simp)
      have e6 := (unhide HS17).cells (b6, .slice (some ⟨h6, 0, none⟩) us.length c6) (by simp)
      simp only at e13 e6
      go_wp2_with fail
      refine (eqTable_arg a13 (some ⟨h6, 0, none⟩) c13 c6 us _ hul (unhide HO17).arg ((unhide HS17).rows (h6, us) (by simp)).arg).mono ?_
      rintro e w18 ⟨rfl, hb18⟩
      have HS18 := hide ((unhide HS17).step hb18)
      have HM18 := hide ((unhide HM17).step hb18)
      clear HS17 HO17 HM17 hb18 e13 e6
      have e9 := (unhide HS18).cells (w6.heap.size, .slice a9 us.length c9) (by simp)
      simp only at e9
      go_wp2_with fail
      refine (heldTable_one a9 c9 us.length _ hul (unhide HM18)).mono ?_
      rintro e w19 ⟨⟨q2, rfl, hq2⟩, hb19⟩
      obtain rfl : q2 = q1 := (unhide hq2).trans (unhide hm1).symm
      have bel19 := ((unhide HS18).step hb19).bel
      clear HS18 HM18 hb19 e9 hq2
      go_wp2_with fail
      go_ret
      exact ⟨rfl, bel19⟩
end Go.Proofs.Ytokabkhnidlcnab
