/-
  Walk: the law of Erase.
-/
import Derived.Test.YtokabkhnidlcnabImplErase
import Derived.Test.YtokabkhnidlcnabTreeParts
namespace Go.Proofs.Ytokabkhnidlcnab
set_option maxRecDepth 100000
set_option linter.unusedVariables false
set_option linter.unusedSimpArgs false
open Go.RowKit
attribute [local simp] heap_drew

set_option maxHeartbeats 8000000 in
theorem lawErase (a : Option Addr) (cap : Nat) (xs : List NodeR) (w : World) (hm : xs.length ≤ maxLen) (hw : ArgN w a xs) (hsz : SizedN xs) :
    Calls Try.prog 8 #[.agg #[.slice a xs.length cap]] w fun e w' => e = .returned (.bool true) ∧ Below w.heap.size w w' := by
  have HA := hide hw
  have HZ := hide hsz
  have HS0 := hide (show StT w (w.alloc (.cells #[.slice a xs.length cap] 53)) [(w.heap.size, .slice a xs.length cap)] [] from (StT.start w).alloc _ _)
  clear hw hsz
  go_enter Try.func8, Try.ntmps8
  go_wp2_with fail
  refine (szTree_any a cap xs _ _ hm ((unhide HA).below (unhide HS0).bel) (unhide HZ) (by decide) (by decide)).mono ?_
  rintro e w1 ⟨⟨r, rfl, hr⟩, hb1⟩
  have HS1 := hide ((unhide HS0).step hb1)
  have bel1 := (unhide HS1).bel
  clear HS0 hb1
  by_cases hr0 : r < 0
  · go_wp2_with fail
    go_ret
    exact ⟨rfl, bel1⟩
  have hnx : xs.length ≤ 1048576 := by unfold LeftN at hr; omega
  have e0 := (unhide HS1).cells (w.heap.size, .slice a xs.length cap) (by simp)
  have zw1 := (unhide HS1).lt (w.heap.size, .slice a xs.length cap) (by simp)
  simp only at e0 zw1
  clear hr
  go_wp2_with fail
  refine (toTree_in (w := w) a cap xs _ hnx (unhide HA) bel1).mono ?_
  rintro e w2 ⟨⟨g2, rfl, hg2, hgl2, hf2⟩, hb2⟩
  have HS2 := hide ((unhide HS1).step hb2)
  have z12 := hb2.size
  clear HS1 hb2 e0 bel1
  go_wp2_with fail
  refine (specErase_any g2 0 xs.length xs _ hnx (unhide hf2).ops (unhide HZ) hgl2).mono ?_
  rintro e w3 ⟨⟨aw, cw, us, v, rfl, hfw, hlx⟩, hb3⟩
  have HS3 := hide ((((unhide HS2).step hb3).addr (unhide hfw)).alloc (.slice aw us.length cw) 58)
  have HLW := hide (unhide hfw).lt
  have hul : us.length ≤ 20000 := (unhide hlx).len
  have z23 := hb3.size
  clear HS2 hb3 hf2 hfw
  have e0 := (unhide HS3).cells (w.heap.size, .slice a xs.length cap) (by simp)
  simp only at e0
  go_wp2_with fail
  refine (toTree_in (w := w) a cap xs _ hnx (unhide HA) (unhide HS3).bel).mono ?_
  rintro e w4 ⟨⟨g4, rfl, hg4, hgl4, hf4⟩, hb4⟩
  have HS4 := hide ((((unhide HS3).step hb4).addr ((unhide hf4).owned (Nat.zero_le _))).alloc (.slice (some ⟨g4, 0, none⟩) xs.length xs.length) 58)
  have z34 : w3.heap.size + 1 ≤ g4 := by simpa using hg4
  have hz4 : w3.heap.size + 1 ≤ w4.heap.size := by have := hb4.size; simpa using this
  clear HS3 hb4 e0 hf4 hg4
  have e4 := (unhide HS4).cells (w4.heap.size, .slice (some ⟨g4, 0, none⟩) xs.length xs.length) (by simp)
  simp only at e4
  have HF4 := hide (show FilledN (w4.alloc (.cells #[.slice (some ⟨g4, 0, none⟩) xs.length xs.length] 58)) g4 xs xs.length by
    rcases (unhide HS4).rows (some ⟨g4, 0, none⟩, xs) (by simp) with ⟨_, h⟩ | ⟨g, h, _, h'⟩
    · simp at h
    · simp at h; subst h; exact h')
  go_wp2_with fail
  refine (implErase_any g4 0 xs.length xs _ hnx (unhide HF4).ops (unhide HZ) (unhide HF4).1).mono ?_
  rintro e w5 ⟨⟨a9, c9, us', v', rfl, hO9, hlx'⟩, hb5⟩
  obtain ⟨rfl, rfl⟩ := (unhide hlx').one (unhide hlx)
  have HS5 := hide ((((unhide HS4).step hb5).addr (unhide hO9)).alloc (.slice a9 us'.length c9) 58)
  have HA9 := hide (unhide hO9).lt
  have hvv : (v' != v') = false := by simp
  have z45 : w4.heap.size + 1 ≤ w5.heap.size := by have := hb5.size; simpa using this
  clear HS4 hb5 hO9 hlx' e4 HF4
  have hul' : us'.length ≤ 1048576 := by omega
  have k3 := (unhide HS5).cells (w3.heap.size, .slice aw us'.length cw) (by simp)
  have k5 := (unhide HS5).cells (w5.heap.size, .slice a9 us'.length c9) (by simp)
  simp only at k3 k5
  go_wp2_with fail
  refine (eqTree_arg a9 aw c9 cw us' _ hul' ((unhide HS5).rows (a9, us') (by simp)).arg ((unhide HS5).rows (aw, us') (by simp)).arg).mono ?_
  rintro e w6 ⟨rfl, hb6⟩
  have HS6 := hide ((unhide HS5).step hb6)
  clear HS5 hb6 k3 k5
  have bel6 := (unhide HS6).bel
  have e0 := (unhide HS6).cells (w.heap.size, .slice a xs.length cap) (by simp)
  have e4 := (unhide HS6).cells (w4.heap.size, .slice (some ⟨g4, 0, none⟩) xs.length xs.length) (by simp)
  have zz0 := (unhide HS6).lt (w.heap.size, .slice a xs.length cap) (by simp)
  have zz4 := (unhide HS6).lt (w4.heap.size, .slice (some ⟨g4, 0, none⟩) xs.length xs.length) (by simp)
  simp only at e0 e4 zz0 zz4
  go_wp2_with fail
  go_region_held (fun w' => w'.cell? ⟨w.heap.size, 0, none⟩ = some (.slice a xs.length cap) ∧ w'.cell? ⟨w4.heap.size, 0, none⟩ = some (.slice (some ⟨g4, 0, none⟩) xs.length xs.length)) (go_keep)
    (first | (go_at_call 33; refine (toTree_in (w := w) a cap xs _ hnx (unhide HA) bel6.drew).mono ?_; rintro e w7 ⟨⟨g7, rfl, hg7, hgl7, hf7⟩, hb7⟩; have c7 := (hb7.cell (p := ⟨w.heap.size, 0, none⟩) zz0).trans (show w6.drew.cell? ⟨w.heap.size, 0, none⟩ = _ from e0); have d7 := (hb7.cell (p := ⟨w4.heap.size, 0, none⟩) zz4).trans (show w6.drew.cell? ⟨w4.heap.size, 0, none⟩ = _ from e4); have HS7 := hide ((unhide HS6).drew.step hb7); have z70 := Nat.lt_of_lt_of_le zz0 hb7.size; have z74 := Nat.lt_of_lt_of_le zz4 hb7.size; clear hb7 hg7) | (go_at_call 35; refine (eqTree_arg (some ⟨g4, 0, none⟩) (some ⟨g7, 0, none⟩) _ _ xs _ hnx ((unhide HS7).rows (some ⟨g4, 0, none⟩, xs) (by simp)).arg (unhide hf7).arg).mono ?_; rintro e w8 ⟨rfl, hb8⟩; have c8 := (hb8.cell (p := ⟨w.heap.size, 0, none⟩) z70).trans c7; have d8 := (hb8.cell (p := ⟨w4.heap.size, 0, none⟩) z74).trans d7; have HS8 := hide ((unhide HS7).step hb8); clear hb8))
  clear HS6 HS7 c7 d7 c8 d8 hf7 hgl7 e0 e4 zz0 zz4 z70 z74 bel6
  have e4 := (unhide HS8).cells (w4.heap.size, .slice (some ⟨g4, 0, none⟩) xs.length xs.length) (by simp)
  simp only at e4
  go_wp2_with fail
  refine (markTree_own (some ⟨g4, 0, none⟩) _ 0 xs _ hnx ((unhide HS8).rows (some ⟨g4, 0, none⟩, xs) (by simp))).mono ?_
  rintro e w9 ⟨⟨k1, rfl, hk1⟩, _, hg9⟩
  have HS9 := hide (((unhide HS8).sub (cs' := [(w.heap.size, .slice a xs.length cap), (w3.heap.size, .slice aw us'.length cw), (w5.heap.size, .slice a9 us'.length c9)]) (rs' := [(aw, us'), (a9, us')]) (by simp) (by simp)).grown hg9 (fun k hk => by
    simp at hk
    subst hk
    refine ⟨by omega, ?_, ?_⟩
    · simp; omega
    · intro r hr e
      simp only [List.mem_cons, List.not_mem_nil, or_false] at hr
      rcases hr with rfl | rfl
      · have := (unhide HLW) _ e; omega
      · have := (unhide HA9) _ e; simp at this; omega))
  clear HS8 hg9 e4
  have hk10 : ¬ (k1 : Int) < 0 := by omega
  have k3 := (unhide HS9).cells (w3.heap.size, .slice aw us'.length cw) (by simp)
  have k5 := (unhide HS9).cells (w5.heap.size, .slice a9 us'.length c9) (by simp)
  simp only at k3 k5
  go_wp2_with fail
  refine (eqTree_arg a9 aw c9 cw us' _ hul' ((unhide HS9).rows (a9, us') (by simp)).arg ((unhide HS9).rows (aw, us') (by simp)).arg).mono ?_
  rintro e w10 ⟨rfl, hb10⟩
  have HS10 := hide ((unhide HS9).step hb10)
  clear HS9 hb10 hk1 k3 k5
  have k5 := (unhide HS10).cells (w5.heap.size, .slice a9 us'.length c9) (by simp)
  simp only at k5
  go_wp2_with fail
  refine (markTree_own a9 c9 0 us' _ hul' ((unhide HS10).rows (a9, us') (by simp))).mono ?_
  rintro e w11 ⟨⟨m1, rfl, hm1⟩, hM11, hg11⟩
  have HS11 := hide (((unhide HS10).sub (cs' := [(w.heap.size, .slice a xs.length cap), (w3.heap.size, .slice aw us'.length cw), (w5.heap.size, .slice a9 us'.length c9)]) (rs' := [(aw, us')]) (by simp) (by simp)).grown hg11 (fun k hk => by
    have h9 := (unhide HA9) k hk
    simp at h9
    refine ⟨by omega, ?_, ?_⟩
    · simp; omega
    · intro r hr e
      simp only [List.mem_cons, List.not_mem_nil, or_false] at hr
      subst hr
      have := (unhide HLW) _ e; omega))
  clear HS10 hg11 k5
  have k5 := (unhide HS11).cells (w5.heap.size, .slice a9 us'.length c9) (by simp)
  simp only at k5
  go_wp2_with fail
  refine (heldTree_own a9 c9 us'.length _ hul' (unhide hM11)).mono ?_
  rintro e w12 ⟨⟨q1, rfl, hq1⟩, hb12⟩
  obtain rfl : q1 = m1 := (unhide hq1).trans (unhide hm1).symm
  have HS12 := hide ((unhide HS11).step hb12)
  have HM12 := hide ((unhide hM11).step hb12)
  clear HS11 hM11 hb12 hq1 k5
  have hq10 : ¬ (q1 : Int) < 0 := by omega
  have e0 := (unhide HS12).cells (w.heap.size, .slice a xs.length cap) (by simp)
  simp only at e0
  go_wp2_with fail
  refine (toTree_in (w := w) a cap xs _ hnx (unhide HA) (unhide HS12).bel).mono ?_
  rintro e w13 ⟨⟨g13, rfl, hg13, hgl13, hf13⟩, hb13⟩
  have HS13 := hide ((unhide HS12).step hb13)
  have HM13 := hide ((unhide HM12).step hb13)
  clear HS12 HM12 hb13 e0 hg13
  go_wp2_with fail
  refine (implErase_any g13 0 xs.length xs _ hnx (unhide hf13).ops (unhide HZ) hgl13).mono ?_
  rintro e w14 ⟨⟨a14, c14, us2, v2, rfl, hO14, hlx2⟩, hb14⟩
  obtain ⟨rfl, rfl⟩ := (unhide hlx2).one (unhide hlx)
  have HS14 := hide ((((unhide HS13).step hb14).addr (unhide hO14)).alloc (.slice a14 us2.length c14) 58)
  have HM14 := hide (((unhide HM13).step hb14).step (below1 _ (.cells #[.slice a14 us2.length c14] 58)))
  clear HS13 HM13 hb14 hO14 hlx2 hf13
  have k3 := (unhide HS14).cells (w3.heap.size, .slice aw us2.length cw) (by simp)
  have k14 := (unhide HS14).cells (w14.heap.size, .slice a14 us2.length c14) (by simp)
  simp only at k3 k14
  go_wp2_with fail
  refine (eqTree_arg a14 aw c14 cw us2 _ hul' ((unhide HS14).rows (a14, us2) (by simp)).arg ((unhide HS14).rows (aw, us2) (by simp)).arg).mono ?_
  rintro e w15 ⟨rfl, hb15⟩
  have HS15 := hide ((unhide HS14).step hb15)
  have HM15 := hide ((unhide HM14).step hb15)
  clear HS14 HM14 hb15 k3 k14
  have k5 := (unhide HS15).cells (w5.heap.size, .slice a9 us2.length c9) (by simp)
  simp only at k5
  go_wp2_with fail
  refine (heldTree_own a9 c9 us2.length _ hul' (unhide HM15)).mono ?_
  rintro e w16 ⟨⟨q2, rfl, hq2⟩, hb16⟩
  obtain rfl : q2 = q1 := (unhide hq2).trans (unhide hm1).symm
  have bel16 := ((unhide HS15).step hb16).bel
  clear HS15 HM15 hb16 hq2 k5
  go_wp2_with fail
  go_ret
  exact ⟨rfl, bel16⟩
end Go.Proofs.Ytokabkhnidlcnab
