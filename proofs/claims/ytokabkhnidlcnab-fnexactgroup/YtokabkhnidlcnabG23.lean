import Derived.Deep.DeepCutAuto
import Derived.ProofKit
import Derived.Lib.SmallJoins
import Derived.Deep.Slices
import Derived.Deep.Strs
import Derived.Test.YtokabkhnidlcnabG20
import Derived.Test.YtokabkhnidlcnabG22

/-
  Walk: the law of Group.
-/
namespace Go.Proofs.Ytokabkhnidlcnab
set_option maxRecDepth 100000
set_option linter.unusedSimpArgs false
set_option linter.unusedVariables false
open Go.RowKit Go.Maps
attribute [local simp] heap_drew

set_option maxHeartbeats 16000000 in
theorem lawGroup (a a' : Option Addr) (cap cap' : Nat) (xs : List OpR) (ns : List NodeR) (w : World) (hm : xs.length ≤ maxLen) (hmn : ns.length ≤ maxLen) (hw : Arg w a xs) (hwn : ArgN w a' ns) (hsz : Sized xs) (hsn : SizedN ns) :
    Calls Try.prog 9 #[.agg #[.slice a xs.length cap], .agg #[.slice a' ns.length cap']] w fun e w' => e = .returned (.bool true) ∧ Below w.heap.size w w' := by
  have HA := hide hw
  have HAN := hide hwn
  have HZ := hide hsz
  have HZN := hide hsn
  have HS0 := hide (show StG w ((w.alloc (.cells #[.slice a xs.length cap] 24)).alloc (.cells #[.slice a' ns.length cap'] 53)) [(w.heap.size + 1, .slice a' ns.length cap'), (w.heap.size, .slice a xs.length cap)] [] [] from by
    have := ((StG.start w).alloc (.slice a xs.length cap) 24).alloc (.slice a' ns.length cap') 53
    simpa using this)
  clear hw hwn hsz hsn
  go_enter Try.func9, Try.ntmps9
  go_wp2_with fail
  refine (szTable_any a cap xs _ _ hm ((unhide HA).below (unhide HS0).bel) (unhide HZ) (by decide) (by decide)).mono ?_
  rintro e w1 ⟨⟨r, rfl, hr⟩, hb1⟩
  have HS1 := hide ((unhide HS0).step hb1)
  have bel1 := (unhide HS1).bel
  clear HS0 hb1
  by_cases hr0 : r < 0
  · go_wp2_with fail
    go_ret
    exact ⟨rfl, bel1⟩
  have hr1 : 0 ≤ r ∧ r ≤ 1048576 ∧ xs.length ≤ 1048576 := by unfold Left at hr; omega
  obtain ⟨hra, hrb, hnx⟩ := hr1
  have k1 := (unhide HS1).cell (w.heap.size + 1, .slice a' ns.length cap') (by simp)
  simp only at k1
  clear hr
  go_wp2_with fail
  refine (szTree_any a' cap' ns _ _ hmn ((unhide HAN).below bel1) (unhide HZN) hra hrb).mono ?_
  rintro e w2 ⟨⟨r2, rfl, hr2⟩, hb2⟩
  have HS2 := hide ((unhide HS1).step hb2)
  have bel2 := (unhide HS2).bel
  clear HS1 hb2 bel1 k1
  by_cases hr20 : r2 < 0
  · go_wp2_with fail
    go_ret
    exact ⟨rfl, bel2⟩
  have hnn : ns.length ≤ 1048576 := by unfold LeftN at hr2; omega
  obtain ⟨us, v, hus⟩ := GroupIs.some_of xs ns
  have HU := hide hus
  have hul : us.length ≤ 20000 := hus.len
  have hul' : us.length ≤ 1048576 := by omega
  have lt0 := (unhide HS2).lt (w.heap.size + 1, .slice a' ns.length cap') (by simp)
  simp only at lt0
  have hlt1 : w.heap.size < w2.heap.size := by omega
  have c20 := (unhide HS2).cell (w.heap.size, .slice a xs.length cap) (by simp)
  have c21 := (unhide HS2).cell (w.heap.size + 1, .slice a' ns.length cap') (by simp)
  simp only at c20 c21
  clear hr2 bel2 hus
  go_wp2_with fail
  go_cut [6, 7] (fun s6 s7 wc => ∃ (b6 c6 : Nat) (aw : Option Addr), s6 = .pointer (some ⟨b6, 0, none⟩) ∧ s7 = .bool v ∧ w2.heap.size ≤ b6 ∧ Hid (∀ k, aw.map (·.block) = some k → w2.heap.size ≤ k ∧ k < wc.heap.size ∧ k ≠ b6) ∧ Hid (StG w wc [(b6, .slice aw us.length c6), (w.heap.size + 1, .slice a' ns.length cap'), (w.heap.size, .slice a xs.length cap)] [] [(aw, us)]))
  case first =>
    replace HS2 := hide (unhide HS2).drew
    go_region_held (fun w' => w'.cell? ⟨w.heap.size, 0, none⟩ = some (.slice a xs.length cap) ∧ w'.cell? ⟨w.heap.size + 1, 0, none⟩ = some (.slice a' ns.length cap')) (first | (go_keep; done) | exact ⟨(unhide HS2).cell (w.heap.size, .slice a xs.length cap) (by simp), (unhide HS2).cell (w.heap.size + 1, .slice a' ns.length cap') (by simp)⟩ | exact ⟨((unhide HS2).step (below1 _ _)).cell (w.heap.size, .slice a xs.length cap) (by simp), ((unhide HS2).step (below1 _ _)).cell (w.heap.size + 1, .slice a' ns.length cap') (by simp)⟩ | exact ⟨(World.cell?_setCell_other _ _ _ _ (fun x => by injection x with x1; omega)).trans ((unhide HS2).cell (w.heap.size, .slice a xs.length cap) (by simp)), (World.cell?_setCell_other _ _ _ _ (fun x => by injection x with x1; omega)).trans ((unhide HS2).cell (w.heap.size + 1, .slice a' ns.length cap') (by simp))⟩)
      (first | (go_at_call 12; have HX := toTableG (w := w) a cap xs hnx (unhide HA) (unhide HS2); refine HX.mono ?_; clear HX; rintro e w3 ⟨g3, rfl, hg3, hg3l, hb3, hs3⟩; replace HS2 := hs3; have z3 : w2.heap.size ≤ w3.heap.size := (by have := hb3.size; first | omega | (simp at this; omega)); (try (replace HBZ := hide (And.intro ((hb3.cell (block_lt_of_cell (unhide HBZ).1)).trans (unhide HBZ).1) ((hb3.frozen (block_lt_of_cell (unhide HBZ).1)).trans (unhide HBZ).2)))); clear hs3 hb3) | (go_at_call 12; have HBZ := hide (show ((w2.drew).alloc (.cells #[.slice none 0 0] 58)).cell? ⟨w2.heap.size, 0, none⟩ = some (.slice none 0 0) ∧ ((w2.drew).alloc (.cells #[.slice none 0 0] 58)).frozen? ⟨w2.heap.size, 0, none⟩ = false from ⟨by simp [go_sem], by simp [go_sem]⟩); have HX := toTableG (w := w) a cap xs hnx (unhide HA) ((unhide HS2).step (below1 _ (.cells #[.slice none 0 0] 58))); refine HX.mono ?_; clear HX; rintro e w3 ⟨g3, rfl, hg3, hg3l, hb3, hs3⟩; replace HS2 := hs3; have z3 : w2.heap.size ≤ w3.heap.size := (by have := hb3.size; first | omega | (simp at this; omega)); (try (replace HBZ := hide (And.intro ((hb3.cell (block_lt_of_cell (unhide HBZ).1)).trans (unhide HBZ).1) ((hb3.frozen (block_lt_of_cell (unhide HBZ).1)).trans (unhide HBZ).2)))); clear hs3 hb3) | (go_at_call 33; have HX := toTreeG (w := w) a' cap' ns hnn (unhide HAN) (unhide HS2); refine HX.mono ?_; clear HX; rintro e w4 ⟨g4, rfl, hg4, hg4l, hb4, hs4⟩; replace HS2 := hs4; have z4 : w3.heap.size ≤ w4.heap.size := (by have := hb4.size; first | omega | (simp at this; omega)); (try (replace HBZ := hide (And.intro ((hb4.cell (block_lt_of_cell (unhide HBZ).1)).trans (unhide HBZ).1) ((hb4.frozen (block_lt_of_cell (unhide HBZ).1)).trans (unhide HBZ).2)))); clear hs4 hb4) | (go_at_call 33; have HBZ := hide (show ((w3).alloc (.cells #[.slice none 0 0] 58)).cell? ⟨(w3).heap.size, 0, none⟩ = some (.slice none 0 0) ∧ ((w3).alloc (.cells #[.slice none 0 0] 58)).frozen? ⟨(w3).heap.size, 0, none⟩ = false from ⟨by simp [go_sem], by simp [go_sem]⟩); have HX := toTreeG (w := w) a' cap' ns hnn (unhide HAN) ((unhide HS2).step (below1 _ (.cells #[.slice none 0 0] 58))); refine HX.mono ?_; clear HX; rintro e w4 ⟨g4, rfl, hg4, hg4l, hb4, hs4⟩; replace HS2 := hs4; have z4 : w3.heap.size ≤ w4.heap.size := (by have := hb4.size; first | omega | (simp at this; omega)); (try (replace HBZ := hide (And.intro ((hb4.cell (block_lt_of_cell (unhide HBZ).1)).trans (unhide HBZ).1) ((hb4.frozen (block_lt_of_cell (unhide HBZ).1)).trans (unhide HBZ).2)))); clear hs4 hb4) | (go_at_call 40; have HX := specGroupG (w := w) g3 g4 xs.length ns.length xs ns us v hnx hnn (unhide HZ) (unhide HZN) (by simp) (by simp) (unhide HU) (unhide HS2); refine HX.mono ?_; clear HX; rintro e w5 ⟨aw, cw, rfl, hl5, hb5, hs5⟩; replace HS2 := hs5; have z5 : w4.heap.size ≤ w5.heap.size := (by have := hb5.size; first | omega | (simp at this; omega)); (try (replace HBZ := hide (And.intro ((hb5.cell (block_lt_of_cell (unhide HBZ).1)).trans (unhide HBZ).1) ((hb5.frozen (block_lt_of_cell (unhide HBZ).1)).trans (unhide HBZ).2)))); (try (obtain ⟨cz, fz⟩ := unhide HBZ)); clear hs5 hb5) | (go_at_call 40; have HBZ := hide (show ((w4).alloc (.cells #[.slice none 0 0] 58)).cell? ⟨(w4).heap.size, 0, none⟩ = some (.slice none 0 0) ∧ ((w4).alloc (.cells #[.slice none 0 0] 58)).frozen? ⟨(w4).heap.size, 0, none⟩ = false from ⟨by simp [go_sem], by simp [go_sem]⟩); have HX := specGroupG (w := w) g3 g4 xs.length ns.length xs ns us v hnx hnn (unhide HZ) (unhide HZN) (by simp) (by simp) (unhide HU) ((unhide HS2).step (below1 _ (.cells #[.slice none 0 0] 58))); refine HX.mono ?_; clear HX; rintro e w5 ⟨aw, cw, rfl, hl5, hb5, hs5⟩; replace HS2 := hs5; have z5 : w4.heap.size ≤ w5.heap.size := (by have := hb5.size; first | omega | (simp at this; omega)); (try (replace HBZ := hide (And.intro ((hb5.cell (block_lt_of_cell (unhide HBZ).1)).trans (unhide HBZ).1) ((hb5.frozen (block_lt_of_cell (unhide HBZ).1)).trans (unhide HBZ).2)))); (try (obtain ⟨cz, fz⟩ := unhide HBZ)); clear hs5 hb5))
    all_goals
      have hl5' := unhide hl5
      (try (simp at hg3))
      (try (simp at hg4))
      go_wp2_with fail
      go_meet
      case rel =>
        go_light
        first
          | exact ⟨w5.heap.size, cw, aw, rfl, rfl, by omega, hide (fun k hk => by have := hl5' k hk; (try simp at this); simp; omega), hide (((unhide HS2).sub (cs' := [(w.heap.size + 1, .slice a' ns.length cap'), (w.heap.size, .slice a xs.length cap)]) (os' := []) (rs' := [(aw, us)]) (by simp) (by simp) (by simp)).alloc _ _)⟩
          | exact ⟨w4.heap.size, cw, aw, rfl, rfl, by omega, hide (fun k hk => by have := hl5' k hk; (try simp at this); simp [World.setCell]; omega), hide (((unhide HS2).sub (cs' := [(w.heap.size + 1, .slice a' ns.length cap'), (w.heap.size, .slice a xs.length cap)]) (os' := []) (rs' := [(aw, us)]) (by simp) (by simp) (by simp)).store (.slice aw us.length cw) cz (by omega) (by simp; omega) (by simp) (fun r hr e => by simp only [List.mem_cons, List.not_mem_nil, or_false] at hr; subst hr; have := hl5' _ e; first | omega | (simp at this; omega)))⟩
          | exact ⟨w3.heap.size, cw, aw, rfl, rfl, by omega, hide (fun k hk => by have := hl5' k hk; (try simp at this); simp [World.setCell]; omega), hide (((unhide HS2).sub (cs' := [(w.heap.size + 1, .slice a' ns.length cap'), (w.heap.size, .slice a xs.length cap)]) (os' := []) (rs' := [(aw, us)]) (by simp) (by simp) (by simp)).store (.slice aw us.length cw) cz (by omega) (by simp; omega) (by simp) (fun r hr e => by simp only [List.mem_cons, List.not_mem_nil, or_false] at hr; subst hr; have := hl5' _ e; first | omega | (simp at this; omega)))⟩
          | exact ⟨w2.heap.size, cw, aw, rfl, rfl, by omega, hide (fun k hk => by have := hl5' k hk; (try simp at this); simp [World.setCell]; omega), hide (((unhide HS2).sub (cs' := [(w.heap.size + 1, .slice a' ns.length cap'), (w.heap.size, .slice a xs.length cap)]) (os' := []) (rs' := [(aw, us)]) (by simp) (by simp) (by simp)).store (.slice aw us.length cw) cz (by omega) (by simp; omega) (by simp) (fun r hr e => by simp only [List.mem_cons, List.not_mem_nil, or_false] at hr; subst hr; have := hl5' _ e; first | omega | (simp at this; omega)))⟩
  case rest =>
    obtain ⟨b6, c6, aw, rfl, rfl, hb6, HLW, HS3⟩ := hcut
    clear HS2 c20 c21
    have e0 := (unhide HS3).cell (w.heap.size, .slice a xs.length cap) (by simp)
    have z6 := (unhide HS3).lt (b6, .slice aw us.length c6) (by simp)
    simp only at e0 z6
    go_wp2_with fail
    refine (toTableG (w := w) a cap xs hnx (unhide HA) (unhide HS3)).mono ?_
    rintro e w7 ⟨g7, rfl, hg7, hg7l, hb7, hs7⟩
    have HS7 := hide ((unhide hs7).alloc (.slice (some ⟨g7, 0, none⟩) xs.length xs.length) 28)
    have z7 := hb7.size
    clear HS3 hb7 hs7 e0
    have e1 := (unhide HS7).cell (w.heap.size + 1, .slice a' ns.length cap') (by simp)
    simp only at e1
    go_wp2_with fail
    refine (toTreeG (w := w) a' cap' ns hnn (unhide HAN) (unhide HS7)).mono ?_
    rintro e w8 ⟨g8, rfl, hg8, hg8l, hb8, hs8⟩
    have HS8 := hide ((unhide hs8).alloc (.slice (some ⟨g8, 0, none⟩) ns.length ns.length) 58)
    have z8 : w7.heap.size + 1 ≤ w8.heap.size := by have := hb8.size; simpa using this
    have hg8' : w7.heap.size + 1 ≤ g8 := by simpa using hg8
    clear HS7 hb8 hs8 e1 hg8
    have e7 := (unhide HS8).cell (w7.heap.size, .slice (some ⟨g7, 0, none⟩) xs.length xs.length) (by simp)
    have e8 := (unhide HS8).cell (w8.heap.size, .slice (some ⟨g8, 0, none⟩) ns.length ns.length) (by simp)
    simp only at e7 e8
    go_wp2_with fail
    refine (implGroupG (w := w) g7 g8 xs.length ns.length xs ns us v hnx hnn (unhide HZ) (unhide HZN) (by simp) (by simp) (unhide HU) (unhide HS8)).mono ?_
    rintro e w9 ⟨a9, c9, rfl, HL9, hb9, hs9⟩
    have HS9 := hide ((unhide hs9).alloc (.slice a9 us.length c9) 58)
    have z9 : w8.heap.size + 1 ≤ w9.heap.size := by have := hb9.size; simpa using this
    have hvv : (v != v) = false := by simp
    clear HS8 hb9 hs9 e7 e8
    have k6 := (unhide HS9).cell (b6, .slice aw us.length c6) (by simp)
    have k9 := (unhide HS9).cell (w9.heap.size, .slice a9 us.length c9) (by simp)
    simp only at k6 k9
    go_wp2_with fail
    refine (eqTree_arg a9 aw c9 c6 us _ hul' ((unhide HS9).tree.rows (a9, us) (by simp)).arg ((unhide HS9).tree.rows (aw, us) (by simp)).arg).mono ?_
    rintro e w10 ⟨rfl, hb10⟩
    have HSC := hide ((unhide HS9).step hb10).drew
    have z10 : w9.heap.size + 1 ≤ w10.heap.size := by have := hb10.size; simpa using this
    clear HS9 hb10 k6 k9
    have q0 := (unhide HSC).cell (w.heap.size, .slice a xs.length cap) (by simp)
    have q7 := (unhide HSC).cell (w7.heap.size, .slice (some ⟨g7, 0, none⟩) xs.length xs.length) (by simp)
    simp only at q0 q7
    go_wp2_with fail
    go_region_held (fun w' => w'.cell? ⟨w.heap.size, 0, none⟩ = some (.slice a xs.length cap) ∧ w'.cell? ⟨w7.heap.size, 0, none⟩ = some (.slice (some ⟨g7, 0, none⟩) xs.length xs.length)) (first | (go_keep; done) | exact ⟨(unhide HSC).cell (w.heap.size, .slice a xs.length cap) (by simp), (unhide HSC).cell (w7.heap.size, .slice (some ⟨g7, 0, none⟩) xs.length xs.length) (by simp)⟩)
      (first | (go_at_call 12; have HX := toTableG (w := w) a cap xs hnx (unhide HA) (unhide HSC); refine HX.mono ?_; clear HX; rintro e w11 ⟨g11, rfl, hg11, hg11l, hb11, hs11⟩; replace HSC := hs11; clear hb11 hs11) | (go_at_call 14; have HX := eqTable_same g7 0 g11 0 xs.length xs.length xs _ hnx ((unhide HSC).ops (g7, xs) (by simp)).ops ((unhide HSC).ops (g11, xs) (by simp)).ops ((unhide HSC).ops (g7, xs) (by simp)).1 ((unhide HSC).ops (g11, xs) (by simp)).1; refine HX.mono ?_; clear HX; rintro e w12 ⟨rfl, hb12⟩; replace HSC := hide ((unhide HSC).step hb12); clear hb12))
    clear q0 q7
    replace HSC := hide (unhide HSC).drew
    have q1 := (unhide HSC).cell (w.heap.size + 1, .slice a' ns.length cap') (by simp)
    have q8 := (unhide HSC).cell (w8.heap.size, .slice (some ⟨g8, 0, none⟩) ns.length ns.length) (by simp)
    simp only at q1 q8
    go_wp2_with fail
    go_region_held (fun w' => w'.cell? ⟨w.heap.size + 1, 0, none⟩ = some (.slice a' ns.length cap') ∧ w'.cell? ⟨w8.heap.size, 0, none⟩ = some (.slice (some ⟨g8, 0, none⟩) ns.length ns.length)) (first | (go_keep; done) | exact ⟨(unhide HSC).cell (w.heap.size + 1, .slice a' ns.length cap') (by simp), (unhide HSC).cell (w8.heap.size, .slice (some ⟨g8, 0, none⟩) ns.length ns.length) (by simp)⟩)
      (first | (go_at_call 33; have HX := toTreeG (w := w) a' cap' ns hnn (unhide HAN) (unhide HSC); refine HX.mono ?_; clear HX; rintro e w13 ⟨g13, rfl, hg13, hg13l, hb13, hs13⟩; replace HSC := hs13; clear hb13 hs13) | (go_at_call 35; have HX := eqTree_arg (some ⟨g8, 0, none⟩) (some ⟨g13, 0, none⟩) ns.length ns.length ns _ hnn ((unhide HSC).tree.rows (some ⟨g8, 0, none⟩, ns) (by simp)).arg ((unhide HSC).tree.rows (some ⟨g13, 0, none⟩, ns) (by simp)).arg; refine HX.mono ?_; clear HX; rintro e w14 ⟨rfl, hb14⟩; replace HSC := hide ((unhide HSC).step hb14); clear hb14))
    clear q1 q8
    have HT := hide ((unhide HSC).sub (cs' := [(w.heap.size, .slice a xs.length cap), (w.heap.size + 1, .slice a' ns.length cap'), (b6, .slice aw us.length c6), (w7.heap.size, .slice (some ⟨g7, 0, none⟩) xs.length xs.length), (w8.heap.size, .slice (some ⟨g8, 0, none⟩) ns.length ns.length), (w9.heap.size, .slice a9 us.length c9)]) (os' := [(g7, xs)]) (rs' := [(some ⟨g8, 0, none⟩, ns), (a9, us), (aw, us)]) (by simp) (by simp) (by simp))
    clear HSC
    have HL6 := HLW
    have e7 := (unhide HT).cell (w7.heap.size, .slice (some ⟨g7, 0, none⟩) xs.length xs.length) (by simp)
    simp only at e7
    go_wp2_with fail
    refine (markTable1 g7 xs.length xs _ hnx ((unhide HT).ops (g7, xs) (by simp))).mono ?_
    rintro e w15 ⟨⟨k1, rfl, hk1⟩, hg15⟩
    have HT15 := hide (((unhide HT).sub (cs' := [(w.heap.size, .slice a xs.length cap), (w.heap.size + 1, .slice a' ns.length cap'), (b6, .slice aw us.length c6), (w8.heap.size, .slice (some ⟨g8, 0, none⟩) ns.length ns.length), (w9.heap.size, .slice a9 us.length c9)]) (os' := []) (rs' := [(some ⟨g8, 0, none⟩, ns), (a9, us), (aw, us)]) (by simp) (by simp) (by simp)).grown hg15 (fun k hk => by
      simp at hk
      subst hk
      refine ⟨by omega, ?_, by simp, ?_⟩
      · simp; omega
      · intro r hr e
        simp only [List.mem_cons, List.not_mem_nil, or_false] at hr
        rcases hr with rfl | rfl | rfl
        · simp at e; omega
        · have := (unhide HL9) _ e; simp at this; omega
        · have := (unhide HLW) _ e; omega))
    have hk1b : 1 ≤ k1 ∧ k1 ≤ 10000000 := by have := unhide hk1; omega
    clear HT hg15 e7 HL6
    have e8 := (unhide HT15).cell (w8.heap.size, .slice (some ⟨g8, 0, none⟩) ns.length ns.length) (by simp)
    simp only at e8
    go_wp2_with fail
    refine (markTreeF g8 ns.length k1 ns _ hnn hk1b.1 hk1b.2 ((unhide HT15).row (by simp))).mono ?_
    rintro e w16 ⟨⟨k2, rfl, hk2⟩, hg16⟩
    have HT16 := hide (((unhide HT15).sub (cs' := [(w.heap.size, .slice a xs.length cap), (w.heap.size + 1, .slice a' ns.length cap'), (b6, .slice aw us.length c6), (w9.heap.size, .slice a9 us.length c9)]) (os' := []) (rs' := [(a9, us), (aw, us)]) (by simp) (by simp) (by simp)).grown hg16 (fun k hk => by
      simp at hk
      subst hk
      refine ⟨by omega, ?_, by simp, ?_⟩
      · simp; omega
      · intro r hr e
        simp only [List.mem_cons, List.not_mem_nil, or_false] at hr
        rcases hr with rfl | rfl
        · have := (unhide HL9) _ e; simp at this; omega
        · have := (unhide HLW) _ e; omega))
    have hk20 : ¬ (k2 : Int) < 0 := by omega
    clear HT15 hg16 e8 hk1b hk1
    have k6 := (unhide HT16).cell (b6, .slice aw us.length c6) (by simp)
    have k9 := (unhide HT16).cell (w9.heap.size, .slice a9 us.length c9) (by simp)
    simp only at k6 k9
    go_wp2_with fail
    refine (eqTree_arg a9 aw c9 c6 us _ hul' ((unhide HT16).tree.rows (a9, us) (by simp)).arg ((unhide HT16).tree.rows (aw, us) (by simp)).arg).mono ?_
    rintro e w17 ⟨rfl, hb17⟩
    have HT17 := hide ((unhide HT16).step hb17)
    clear HT16 hb17 hk2 k6 k9
    have k9 := (unhide HT17).cell (w9.heap.size, .slice a9 us.length c9) (by simp)
    simp only at k9
    go_wp2_with fail
    refine (markTree_own a9 c9 0 us _ hul' ((unhide HT17).tree.rows (a9, us) (by simp))).mono ?_
    rintro e w18 ⟨⟨m1, rfl, hm1⟩, hM18, hg18⟩
    have HT18 := hide (((unhide HT17).sub (cs' := [(w.heap.size, .slice a xs.length cap), (w.heap.size + 1, .slice a' ns.length cap'), (b6, .slice aw us.length c6), (w9.heap.size, .slice a9 us.length c9)]) (os' := []) (rs' := [(aw, us)]) (by simp) (by simp) (by simp)).grown hg18 (fun k hk => by
      have h9 := (unhide HL9) k hk
      simp at h9
      refine ⟨by omega, ?_, by simp, ?_⟩
      · simp; omega
      · intro r hr e
        simp only [List.mem_cons, List.not_mem_nil, or_false] at hr
        subst hr
        have := (unhide HLW) _ e; omega))
    clear HT17 hg18 k9
    have k9 := (unhide HT18).cell (w9.heap.size, .slice a9 us.length c9) (by simp)
    simp only at k9
    go_wp2_with fail
    refine (heldTree_own a9 c9 us.length _ hul' (unhide hM18)).mono ?_
    rintro e w19 ⟨⟨q1, rfl, hq1⟩, hb19⟩
    obtain rfl : q1 = m1 := (unhide hq1).trans (unhide hm1).symm
    have HS2 := hide ((unhide HT18).step hb19)
    have HM := hide ((unhide hM18).step hb19)
    have hq10 : ¬ (q1 : Int) < 0 := by omega
    clear HT18 hM18 hb19 hq1 k9
    have z19 := (unhide HS2).lt (w9.heap.size, .slice a9 us.length c9) (by simp)
    simp only at z19
    have z20 : w.heap.size + 1 < w19.heap.size := by omega
    have z21 : w.heap.size < w19.heap.size := by omega
    have e0 := (unhide HS2).cell (w.heap.size, .slice a xs.length cap) (by simp)
    have e1 := (unhide HS2).cell (w.heap.size + 1, .slice a' ns.length cap') (by simp)
    simp only at e0 e1
    go_wp2_with fail
    go_cut [15, 16] (fun s6 s7 wd => ∃ (b15 c15 : Nat) (ah : Option Addr), s6 = .pointer (some ⟨b15, 0, none⟩) ∧ s7 = .bool v ∧ w19.heap.size ≤ b15 ∧ Hid (MarkedN wd a9 1 us.length) ∧ Hid (StG w wd [(b15, .slice ah us.length c15), (w.heap.size, .slice a xs.length cap), (w.heap.size + 1, .slice a' ns.length cap'), (b6, .slice aw us.length c6), (w9.heap.size, .slice a9 us.length c9)] [] [(ah, us), (aw, us)]))
    case first =>
      replace HS2 := hide (unhide HS2).drew
      replace HM := hide ((unhide HM).step (Below.refl _ _).drew)
      go_region_held (fun w' => w'.cell? ⟨w.heap.size, 0, none⟩ = some (.slice a xs.length cap) ∧ w'.cell? ⟨w.heap.size + 1, 0, none⟩ = some (.slice a' ns.length cap')) (first | (go_keep; done) | exact ⟨(unhide HS2).cell (w.heap.size, .slice a xs.length cap) (by simp), (unhide HS2).cell (w.heap.size + 1, .slice a' ns.length cap') (by simp)⟩ | exact ⟨((unhide HS2).step (below1 _ _)).cell (w.heap.size, .slice a xs.length cap) (by simp), ((unhide HS2).step (below1 _ _)).cell (w.heap.size + 1, .slice a' ns.length cap') (by simp)⟩ | exact ⟨(World.cell?_setCell_other _ _ _ _ (fun x => by injection x with x1; omega)).trans ((unhide HS2).cell (w.heap.size, .slice a xs.length cap) (by simp)), (World.cell?_setCell_other _ _ _ _ (fun x => by injection x with x1; omega)).trans ((unhide HS2).cell (w.heap.size + 1, .slice a' ns.length cap') (by simp))⟩)
        (first | (go_at_call 12; have HX := toTableG (w := w) a cap xs hnx (unhide HA) (unhide HS2); refine HX.mono ?_; clear HX; rintro e w23 ⟨g23, rfl, hg23, hg23l, hb23, hs23⟩; replace HS2 := hs23; have z23 : w19.heap.size ≤ w23.heap.size := (by have := hb23.size; first | omega | (simp at this; omega)); (try (replace HBZ := hide (And.intro ((hb23.cell (block_lt_of_cell (unhide HBZ).1)).trans (unhide HBZ).1) ((hb23.frozen (block_lt_of_cell (unhide HBZ).1)).trans (unhide HBZ).2)))); replace HM := (by first | exact hide ((unhide HM).step hb23) | exact hide (((unhide HM).step (below1 _ _)).step hb23)); clear hs23 hb23) | (go_at_call 12; have HBZ := hide (show ((w19.drew).alloc (.cells #[.slice none 0 0] 58)).cell? ⟨w19.heap.size, 0, none⟩ = some (.slice none 0 0) ∧ ((w19.drew).alloc (.cells #[.slice none 0 0] 58)).frozen? ⟨w19.heap.size, 0, none⟩ = false from ⟨by simp [go_sem], by simp [go_sem]⟩); have HX := toTableG (w := w) a cap xs hnx (unhide HA) ((unhide HS2).step (below1 _ (.cells #[.slice none 0 0] 58))); refine HX.mono ?_; clear HX; rintro e w23 ⟨g23, rfl, hg23, hg23l, hb23, hs23⟩; replace HS2 := hs23; have z23 : w19.heap.size ≤ w23.heap.size := (by have := hb23.size; first | omega | (simp at this; omega)); (try (replace HBZ := hide (And.intro ((hb23.cell (block_lt_of_cell (unhide HBZ).1)).trans (unhide HBZ).1) ((hb23.frozen (block_lt_of_cell (unhide HBZ).1)).trans (unhide HBZ).2)))); replace HM := (by first | exact hide ((unhide HM).step hb23) | exact hide (((unhide HM).step (below1 _ _)).step hb23)); clear hs23 hb23) | (go_at_call 33; have HX := toTreeG (w := w) a' cap' ns hnn (unhide HAN) (unhide HS2); refine HX.mono ?_; clear HX; rintro e w24 ⟨g24, rfl, hg24, hg24l, hb24, hs24⟩; replace HS2 := hs24; have z24 : w23.heap.size ≤ w24.heap.size := (by have := hb24.size; first | omega | (simp at this; omega)); (try (replace HBZ := hide (And.intro ((hb24.cell (block_lt_of_cell (unhide HBZ).1)).trans (unhide HBZ).1) ((hb24.frozen (block_lt_of_cell (unhide HBZ).1)).trans (unhide HBZ).2)))); replace HM := (by first | exact hide ((unhide HM).step hb24) | exact hide (((unhide HM).step (below1 _ _)).step hb24)); clear hs24 hb24) | (go_at_call 33; have HBZ := hide (show ((w23).alloc (.cells #[.slice none 0 0] 58)).cell? ⟨w23.heap.size, 0, none⟩ = some (.slice none 0 0) ∧ ((w23).alloc (.cells #[.slice none 0 0] 58)).frozen? ⟨w23.heap.size, 0, none⟩ = false from ⟨by simp [go_sem], by simp [go_sem]⟩); have HX := toTreeG (w := w) a' cap' ns hnn (unhide HAN) ((unhide HS2).step (below1 _ (.cells #[.slice none 0 0] 58))); refine HX.mono ?_; clear HX; rintro e w24 ⟨g24, rfl, hg24, hg24l, hb24, hs24⟩; replace HS2 := hs24; have z24 : w23.heap.size ≤ w24.heap.size := (by have := hb24.size; first | omega | (simp at this; omega)); (try (replace HBZ := hide (And.intro ((hb24.cell (block_lt_of_cell (unhide HBZ).1)).trans (unhide HBZ).1) ((hb24.frozen (block_lt_of_cell (unhide HBZ).1)).trans (unhide HBZ).2)))); replace HM := (by first | exact hide ((unhide HM).step hb24) | exact hide (((unhide HM).step (below1 _ _)).step hb24)); clear hs24 hb24) | (go_at_call 41; have HX := implGroupG (w := w) g23 g24 xs.length ns.length xs ns us v hnx hnn (unhide HZ) (unhide HZN) (by simp) (by simp) (unhide HU) (unhide HS2); refine HX.mono ?_; clear HX; rintro e w25 ⟨ah, ch, rfl, hl25, hb25, hs25⟩; replace HS2 := hs25; have z25 : w24.heap.size ≤ w25.heap.size := (by have := hb25.size; first | omega | (simp at this; omega)); (try (replace HBZ := hide (And.intro ((hb25.cell (block_lt_of_cell (unhide HBZ).1)).trans (unhide HBZ).1) ((hb25.frozen (block_lt_of_cell (unhide HBZ).1)).trans (unhide HBZ).2)))); replace HM := (by first | exact hide ((unhide HM).step hb25) | exact hide (((unhide HM).step (below1 _ _)).step hb25)); (try (obtain ⟨cz, fz⟩ := unhide HBZ)); clear hs25 hb25) | (go_at_call 41; have HBZ := hide (show ((w24).alloc (.cells #[.slice none 0 0] 58)).cell? ⟨w24.heap.size, 0, none⟩ = some (.slice none 0 0) ∧ ((w24).alloc (.cells #[.slice none 0 0] 58)).frozen? ⟨w24.heap.size, 0, none⟩ = false from ⟨by simp [go_sem], by simp [go_sem]⟩); have HX := implGroupG (w := w) g23 g24 xs.length ns.length xs ns us v hnx hnn (unhide HZ) (unhide HZN) (by simp) (by simp) (unhide HU) ((unhide HS2).step (below1 _ (.cells #[.slice none 0 0] 58))); refine HX.mono ?_; clear HX; rintro e w25 ⟨ah, ch, rfl, hl25, hb25, hs25⟩; replace HS2 := hs25; have z25 : w24.heap.size ≤ w25.heap.size := (by have := hb25.size; first | omega | (simp at this; omega)); (try (replace HBZ := hide (And.intro ((hb25.cell (block_lt_of_cell (unhide HBZ).1)).trans (unhide HBZ).1) ((hb25.frozen (block_lt_of_cell (unhide HBZ).1)).trans (unhide HBZ).2)))); replace HM := (by first | exact hide ((unhide HM).step hb25) | exact hide (((unhide HM).step (below1 _ _)).step hb25)); (try (obtain ⟨cz, fz⟩ := unhide HBZ)); clear hs25 hb25))
      all_goals
        have hl25' := unhide hl25
        (try (simp at hg23))
        (try (simp at hg24))
        go_wp2_with fail
        go_meet
        case rel =>
          go_light
          first
            | exact ⟨w25.heap.size, ch, ah, rfl, rfl, by omega, hide ((unhide HM).step (below1 _ _)), hide (((unhide HS2).sub (cs' := [(w.heap.size, .slice a xs.length cap), (w.heap.size + 1, .slice a' ns.length cap'), (b6, .slice aw us.length c6), (w9.heap.size, .slice a9 us.length c9)]) (os' := []) (rs' := [(ah, us), (aw, us)]) (by simp) (by simp) (by simp)).alloc _ _)⟩
            | exact ⟨w24.heap.size, ch, ah, rfl, rfl, by omega, hide ((unhide HM).grown (⟨rfl, rfl, rfl, by simp [World.setCell], fun i _ hi => Below.heap_setCell _ _ _ _ (fun e => hi (by rw [e]))⟩ : w25.grownBy (w25.setCell ⟨w24.heap.size, 0, none⟩ (.slice ah us.length ch)) (some (w24.heap.size))) (fun k hk e => by have := (unhide HL9) k hk; simp at this; simp at e; omega)), hide (((unhide HS2).sub (cs' := [(w.heap.size, .slice a xs.length cap), (w.heap.size + 1, .slice a' ns.length cap'), (b6, .slice aw us.length c6), (w9.heap.size, .slice a9 us.length c9)]) (os' := []) (rs' := [(ah, us), (aw, us)]) (by simp) (by simp) (by simp)).store (.slice ah us.length ch) cz (by omega) (by simp; omega) (by simp) (fun r hr e => by simp only [List.mem_cons, List.not_mem_nil, or_false] at hr; rcases hr with rfl | rfl; (have := hl25' _ e; first | omega | (simp at this; omega)); (have := (unhide HLW) _ e; omega)))⟩
            | exact ⟨w23.heap.size, ch, ah, rfl, rfl, by omega, hide ((unhide HM).grown (⟨rfl, rfl, rfl, by simp [World.setCell], fun i _ hi => Below.heap_setCell _ _ _ _ (fun e => hi (by rw [e]))⟩ : w25.grownBy (w25.setCell ⟨w23.heap.size, 0, none⟩ (.slice ah us.length ch)) (some (w23.heap.size))) (fun k hk e => by have := (unhide HL9) k hk; simp at this; simp at e; omega)), hide (((unhide HS2).sub (cs' := [(w.heap.size, .slice a xs.length cap), (w.heap.size + 1, .slice a' ns.length cap'), (b6, .slice aw us.length c6), (w9.heap.size, .slice a9 us.length c9)]) (os' := []) (rs' := [(ah, us), (aw, us)]) (by simp) (by simp) (by simp)).store (.slice ah us.length ch) cz (by omega) (by simp; omega) (by simp) (fun r hr e => by simp only [List.mem_cons, List.not_mem_nil, or_false] at hr; rcases hr with rfl | rfl; (have := hl25' _ e; first | omega | (simp at this; omega)); (have := (unhide HLW) _ e; omega)))⟩
            | exact ⟨w19.heap.size, ch, ah, rfl, rfl, by omega, hide ((unhide HM).grown (⟨rfl, rfl, rfl, by simp [World.setCell], fun i _ hi => Below.heap_setCell _ _ _ _ (fun e => hi (by rw [e]))⟩ : w25.grownBy (w25.setCell ⟨w19.heap.size, 0, none⟩ (.slice ah us.length ch)) (some (w19.heap.size))) (fun k hk e => by have := (unhide HL9) k hk; simp at this; simp at e; omega)), hide (((unhide HS2).sub (cs' := [(w.heap.size, .slice a xs.length cap), (w.heap.size + 1, .slice a' ns.length cap'), (b6, .slice aw us.length c6), (w9.heap.size, .slice a9 us.length c9)]) (os' := []) (rs' := [(ah, us), (aw, us)]) (by simp) (by simp) (by simp)).store (.slice ah us.length ch) cz (by omega) (by simp; omega) (by simp) (fun r hr e => by simp only [List.mem_cons, List.not_mem_nil, or_false] at hr; rcases hr with rfl | rfl; (have := hl25' _ e; first | omega | (simp at this; omega)); (have := (unhide HLW) _ e; omega)))⟩
    case rest =>
      obtain ⟨b15, c15, ah, rfl, rfl, hb15, hM, HS30⟩ := hcut
      clear HS2 HM e0 e1
      have k15 := (unhide HS30).cell (b15, .slice ah us.length c15) (by simp)
      have k6 := (unhide HS30).cell (b6, .slice aw us.length c6) (by simp)
      simp only at k15 k6
      go_wp2_with fail
      refine (eqTree_arg ah aw c15 c6 us _ hul' ((unhide HS30).tree.rows (ah, us) (by simp)).arg ((unhide HS30).tree.rows (aw, us) (by simp)).arg).mono ?_
      rintro e w31 ⟨rfl, hb31⟩
      have HS31 := hide ((unhide HS30).step hb31)
      have HM31 := hide ((unhide hM).step hb31)
      clear HS30 hM hb31 k15 k6
      have k9 := (unhide HS31).cell (w9.heap.size, .slice a9 us.length c9) (by simp)
      simp only at k9
      go_wp2_with fail
      refine (heldTree_own a9 c9 us.length _ hul' (unhide HM31)).mono ?_
      rintro e w32 ⟨⟨q2, rfl, hq2⟩, hb32⟩
      obtain rfl : q2 = q1 := (unhide hq2).trans (unhide hm1).symm
      have bel32 := ((unhide HS31).step hb32).bel
      clear HS31 HM31 hb32 hq2 k9
      go_wp2_with fail
      go_ret
      exact ⟨rfl, bel32⟩
end Go.Proofs.Ytokabkhnidlcnab

/-
  A list of Node that comes in, opened. Written by wip/shape.py.
-/
namespace Go.Proofs.Ytokabkhnidlcnab
set_option maxRecDepth 100000
open Go.ChangeShapes Go.WideShapes Go.ChangeAt Go.RowKit Go.Joins
open Go.Deep (trod_struct3)

theorem OpnN.cells9 : Try.prog.cellsOf 9 = 1 := by kernel_rfl
theorem OpnN.cells3 : Try.prog.cellsOf 3 = 1 := by kernel_rfl
theorem OpnN.cellsE : Try.prog.cellsOf 144 = 4 := by kernel_rfl

/-- The fields fit their types. -/
def FineN (o : NodeR) : Prop := (Lit.int .i64 o.k).wf = true ∧ o.t.size ≤ maxLen ∧ (Lit.int .i64 o.a).wf = true ∧ (Lit.int .i64 o.b).wf = true
def AllFineN (xs : List NodeR) : Prop := ∀ i, i < xs.length → FineN (atN xs i)
theorem AllFineN.sized {xs : List NodeR} (h : AllFineN xs) : SizedN xs := fun i hi => (h i hi).2.1

section
variable {H : Type} {enc : TypeId × Value → H} {W : World} {base : Nat} {spare : Nat → Bool} {held : Bool}

set_option maxRecDepth 100000 in
theorem open_elN {n : Nat} {cs : List Value} {x : DataW H × List MemPlace} (h : DataW.trod enc Try.prog W base spare held n 144 cs = some x) :
    ∃ o : NodeR, cs = [.int .i64 o.k, .string o.t, .int .i64 o.a, .int .i64 o.b] ∧ FineN o := by
  obtain ⟨y0, y1, y2, y3, m, _, hlen, g0, g1, g2, g3⟩ := trod_struct4 Try.underlying144 h
  rw [OpnN.cellsE] at hlen
  match cs, hlen with
  | [c0, c1, c2, c3], _ =>
    simp only [OpnN.cells9, OpnN.cells3] at g0 g1 g2 g3
    obtain ⟨v0, e0, _, w0⟩ := DataW.trod_int Try.underlying3 g0
    obtain ⟨v1, e1, _, w1⟩ := DataW.trod_string Try.underlying9 g1
    obtain ⟨v2, e2, _, w2⟩ := DataW.trod_int Try.underlying3 g2
    obtain ⟨v3, e3, _, w3⟩ := DataW.trod_int Try.underlying3 g3
    simp at e0 e1 e2 e3
    subst e0 e1 e2 e3
    exact ⟨⟨v0, v1, v2, v3⟩, rfl, w0, w1, w2, w3⟩

theorem addr_spotN {x : Addr} {v : Value} (h : W.cell? (x.add 0) = some v) : x = ⟨x.block, x.off, none⟩ := by
  obtain ⟨b, off, spot⟩ := x
  have hs : spot = none := by
    have := World.cell?_spot h
    simpa [Addr.add] using this
  subst hs
  rfl

theorem open_listN {fuel : Nat} {cs : List Value} {x : DataW H × List MemPlace} (h : DataW.trod enc Try.prog W 0 (fun _ => true) held fuel 51 cs = some x) :
    ∃ (a : Option Addr) (cap : Nat) (xs : List NodeR), cs = [.slice a xs.length cap] ∧ xs.length ≤ maxLen ∧ ArgN W a xs ∧ AllFineN xs := by
  rcases Go.Deep.open_slice Try.underlying51 h with ⟨rfl, _⟩ | ⟨a, len, cap, m, n, D, Pl, rfl, _, hl, hm, hmm, _, hx⟩
  · exact ⟨none, 0, [], rfl, Nat.zero_le _, Or.inl rfl, fun i hi => absurd hi (Nat.not_lt_zero i)⟩
  have hlm : len ≤ m := by rw [hmm]; simpa using hl
  rw [OpnN.cellsE] at hx
  have each : ∀ i, i < len → ∃ o : NodeR, (W.cell? (a.add (i * 4)) = some (.int .i64 o.k) ∧ W.cell? (a.add (i * 4 + 1)) = some (.string o.t) ∧ W.cell? (a.add (i * 4 + 2)) = some (.int .i64 o.a) ∧ W.cell? (a.add (i * 4 + 3)) = some (.int .i64 o.b)) ∧ FineN o := by
    intro i hi
    obtain ⟨cs', h1, h2⟩ := hx i (by omega)
    obtain ⟨_, hlen, hcell⟩ := World.cells?_some h1
    obtain ⟨o, rfl, ho⟩ := open_elN h2
    have e0 := hcell 0 (by omega)
    have e1 := hcell 1 (by omega)
    have e2 := hcell 2 (by omega)
    have e3 := hcell 3 (by omega)
    rw [Go.Deep.add_add] at e0 e1 e2 e3
    exact ⟨o, ⟨by simpa using e0, by simpa using e1, by simpa using e2, by simpa using e3⟩, ho⟩
  obtain ⟨f, hf⟩ := @Go.Deep.choose_lt NodeR ⟨NodeR.zero⟩ len _ each
  have hlx : ((List.range len).map f).length = len := by simp
  have hat : ∀ i, i < len → atN ((List.range len).map f) i = f i := fun i hi => by simp [atN, hi]
  refine ⟨some a, cap, (List.range len).map f, by rw [hlx], by rw [hlx]; omega, ?_, fun i hi => by rw [hlx] at hi; rw [hat i hi]; exact (hf i hi).2⟩
  by_cases h0 : len = 0
  · exact Or.inl (by rw [hlx]; exact h0)
  · have hs := addr_spotN (show W.cell? (a.add 0) = _ from (hf 0 (by omega)).1.1)
    refine Or.inr ⟨a.block, a.off, by rw [← hs], fun i hi => ?_, ?_⟩
    · rw [hlx] at hi
      obtain ⟨⟨e0, e1, e2, e3⟩, _⟩ := hf i hi
      rw [hs, Addr.add_mid] at e0 e1 e2 e3
      unfold CellsN
      rw [hat i hi]
      exact ⟨e0, by simpa [Nat.add_assoc] using e1, by simpa [Nat.add_assoc] using e2, by simpa [Nat.add_assoc] using e3⟩
    · have := block_lt_of_cell (show W.cell? (a.add 0) = _ from (hf 0 (by omega)).1.1)
      simpa [Addr.add] using this
end
end Go.Proofs.Ytokabkhnidlcnab

/-
  A tree that comes in, opened.
-/
namespace Go.Proofs.Ytokabkhnidlcnab
set_option maxRecDepth 100000
open Go.ChangeShapes Go.WideShapes Go.ChangeAt Go.RowKit Go.Joins

theorem OpnN.cellsTree : Try.prog.cellsOf 53 = 1 := by kernel_rfl
theorem OpnN.cellsList : Try.prog.cellsOf 51 = 1 := by kernel_rfl

section
variable {H : Type} {enc : TypeId × Value → H} {W : World} {held : Bool}

/-- A tree, opened. -/
theorem open_tree {r : Go.Reach} {b0 : Nat} {v : Value} {d : DataW H} {p : List MemPlace} (hv : Value.okWide Try.prog W r b0 53 v) (h : DataW.Trod enc Try.prog W 0 (fun _ => true) held 53 v d p) :
    ∃ (a : Option Addr) (cap : Nat) (xs : List NodeR), v = .agg #[.slice a xs.length cap] ∧ xs.length ≤ maxLen ∧ ArgN W a xs ∧ AllFineN xs := by
  obtain ⟨cs, rfl, hsz⟩ := okWide_struct Try.underlying53 hv
  rw [OpnN.cellsTree] at hsz
  obtain ⟨fuel, hf⟩ := h
  obtain ⟨y0, n, _, _, t0⟩ := trod_struct1 Try.underlying53 hf
  obtain ⟨l⟩ := cs
  match l, hsz with
  | [c0], _ =>
    simp only [OpnN.cellsList] at t0
    obtain ⟨a, cap, xs, e, h1, h2, h3⟩ := open_listN t0
    simp [Value.cells] at e
    subst e
    exact ⟨a, cap, xs, rfl, h1, h2, h3⟩
end
end Go.Proofs.Ytokabkhnidlcnab
