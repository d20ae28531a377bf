/-
  Walk: the law of Lex.
-/
import Derived.Test.YtokabkhnidlcnabImplLex5
import Derived.Test.YtokabkhnidlcnabImplLexF
import Derived.Test.YtokabkhnidlcnabLawParts
namespace Go.Proofs.Ytokabkhnidlcnab
set_option maxRecDepth 100000
open Go.RowKit Go.Maps
attribute [local simp] heap_drew

set_option maxHeartbeats 8000000 in
theorem lawLex (a : Option Addr) (cap : Nat) (xs : List OpR) (s : ByteArray) (w : World) (hm : xs.length ≤ maxLen) (hw : Arg w a xs) (hsz : Sized xs) (hs : s.size ≤ maxLen) :
    Calls Try.prog 4 #[.agg #[.slice a xs.length cap], .string s] w fun e w' => e = .returned (.bool true) ∧ Below w.heap.size w w' := by
  have HA := hide hw
  have HZ := hide hsz
  have HSS := hide hs
  unfold maxLen at hs
  have HS0 := hide (show StL w (w.alloc (.cells #[.slice a xs.length cap] 24)) [(w.heap.size, .slice a xs.length cap)] [] [] from (StL.start w).alloc _ _)
  clear hw hsz
  by_cases hbig : 1048576 < s.size
  · have hbig' : (1048576 : Int) < (s.size : Int) := by omega
    go_enter Try.func4, Try.ntmps4
    go_wp2_with fail
    go_ret
    exact ⟨rfl, below1 _ _⟩
  have hbig' : ¬ (1048576 : Int) < (s.size : Int) := by omega
  go_enter Try.func4, Try.ntmps4
  go_wp2_with fail
  refine (szTable_any a cap xs _ _ hm ((unhide HA).below (unhide HS0).bel) (unhide HZ) (by decide) (by decide)).mono ?_
  rintro e w1 ⟨⟨r, rfl, hr⟩, hb1⟩
  have HS1 := hide ((unhide HS0).step hb1)
  have bel1 := (unhide HS1).bel
  clear HS0 hb1
  by_cases hr0 : r < 0
  · go_wp2_with fail
    go_ret
    exact ⟨rfl, bel1⟩
  have hnx : xs.length ≤ 1048576 := by unfold Left at hr; omega
  have e0 := (unhide HS1).cells (w.heap.size, .slice a xs.length cap) (by simp)
  simp only at e0
  clear hr
  go_wp2_with fail
  refine (toTable_inL (w := w) a cap xs _ hnx (unhide HA) bel1).mono ?_
  rintro e w2 ⟨⟨g2, rfl, hg2, hf2⟩, hb2⟩
  have HS2 := hide ((unhide HS1).step hb2)
  clear HS1 hb2 e0 bel1
  go_wp2_with fail
  refine (specLex_any g2 0 xs.length xs s _ hnx (unhide hf2).ops (unhide HZ) (unhide hf2).1 (unhide HSS)).mono ?_
  rintro e w3 ⟨⟨gw, cw, us, v, rfl, hgw, hfw, hlx⟩, hb3⟩
  have HS3 := hide (((unhide HS2).step hb3).addt hfw)
  have HLX := hide hlx
  have hul : us.length ≤ 20001 := hlx.len
  clear HS2 hb3 hf2 hfw hlx
  have e0 := (unhide HS3).cells (w.heap.size, .slice a xs.length cap) (by simp)
  simp only at e0
  go_wp2_with fail
  refine (toTable_inL (w := w) a cap xs _ hnx (unhide HA) (unhide HS3).bel).mono ?_
  rintro e w4 ⟨⟨g4, rfl, hg4, hf4⟩, hb4⟩
  have HS4 := hide ((((unhide HS3).step hb4).addr (unhide hf4)).alloc (.slice (some ⟨g4, 0, none⟩) xs.length xs.length) 28)
  have zg4 := (unhide hf4).1
  have zw3 := (unhide HS3).lt.1 (w.heap.size, .slice a xs.length cap) (by simp)
  have zgw := (unhide HS3).lt.2.2 (gw, us) (by simp)
  simp only at zgw zw3
  clear HS3 hb4 hf4 e0
  have e4 := (unhide HS4).cells (w4.heap.size, .slice (some ⟨g4, 0, none⟩) xs.length xs.length) (by simp)
  simp only at e4
  go_wp2_with fail
  refine (implLex_any g4 0 xs.length xs s _ hnx ((unhide HS4).rows (g4, xs) (by simp)).ops (unhide HZ) ((unhide HS4).rows (g4, xs) (by simp)).1 (unhide HSS)).mono ?_
  rintro e w5 ⟨⟨a9, c9, us', v', rfl, hO9, hlx'⟩, hb5⟩
  obtain ⟨rfl, rfl⟩ := hlx'.one (unhide HLX)
  have HS5 := hide ((unhide HS4).step hb5)
  have HO5 := hide hO9
  have HA9 := hide hO9.lt
  have hvv : (v' != v') = false := by simp
  have z45 : w4.heap.size < w5.heap.size := by have := hb5.size; simp at this; omega
  clear HS4 hb5 hO9 hlx' e4
  have hul' : us'.length ≤ 1048576 := by omega
  go_wp2_with fail
  refine (eqTS_arg a9 (some ⟨gw, 0, none⟩) c9 cw us' _ hul' (unhide HO5).arg ((unhide HS5).toks (gw, us') (by simp)).arg).mono ?_
  rintro e w6 ⟨rfl, hb6⟩
  have HS6 := hide ((unhide HS5).step hb6)
  have HO6 := hide ((unhide HO5).step hb6)
  clear HS5 HO5 hb6
  have bel6 := (unhide HS6).bel
  have e0 := (unhide HS6).cells (w.heap.size, .slice a xs.length cap) (by simp)
  have e4 := (unhide HS6).cells (w4.heap.size, .slice (some ⟨g4, 0, none⟩) xs.length xs.length) (by simp)
  have zz0 := (unhide HS6).lt.1 (w.heap.size, .slice a xs.length cap) (by simp)
  have zz4 := (unhide HS6).lt.1 (w4.heap.size, .slice (some ⟨g4, 0, none⟩) xs.length xs.length) (by simp)
  simp only at e0 e4 zz0 zz4
  go_wp2_with fail
  go_region_held (fun w' => w'.cell? ⟨w.heap.size, 0, none⟩ = some (.slice a xs.length cap) ∧ w'.cell? ⟨w4.heap.size, 0, none⟩ = some (.slice (some ⟨g4, 0, none⟩) xs.length xs.length)) (go_keep)
    (first | (go_at_call 12; refine (toTable_inL (w := w) a cap xs _ hnx (unhide HA) bel6.drew).mono ?_; rintro e w7 ⟨⟨g7, rfl, hg7, hf7⟩, hb7⟩; have c7 := (hb7.cell (p := ⟨w.heap.size, 0, none⟩) zz0).trans (show w6.drew.cell? ⟨w.heap.size, 0, none⟩ = _ from e0); have d7 := (hb7.cell (p := ⟨w4.heap.size, 0, none⟩) zz4).trans (show w6.drew.cell? ⟨w4.heap.size, 0, none⟩ = _ from e4); have HS7 := hide ((unhide HS6).drew.step hb7); have HO7 := hide (((unhide HO6).step (Below.refl _ _).drew).step hb7); have z70 := Nat.lt_of_lt_of_le zz0 hb7.size; have z74 := Nat.lt_of_lt_of_le zz4 hb7.size; clear hb7 hg7) | (go_at_call 14; refine (eqTable_same g4 0 g7 0 _ _ xs _ hnx ((unhide HS7).rows (g4, xs) (by simp)).ops (unhide hf7).ops ((unhide HS7).rows (g4, xs) (by simp)).1 (unhide hf7).1).mono ?_; rintro e w8 ⟨rfl, hb8⟩; have c8 := (hb8.cell (p := ⟨w.heap.size, 0, none⟩) z70).trans c7; have d8 := (hb8.cell (p := ⟨w4.heap.size, 0, none⟩) z74).trans d7; have HS8 := hide ((unhide HS7).step hb8); have HO8 := hide ((unhide HO7).step hb8); clear hb8))
  clear HS6 HO6 HS7 HO7 c7 d7 c8 d8 hf7 e0 e4 zz0 zz4 z70 z74 bel6
  have e4 := (unhide HS8).cells (w4.heap.size, .slice (some ⟨g4, 0, none⟩) xs.length xs.length) (by simp)
  simp only at e4
  go_wp2_with fail
  refine (markTable1 g4 _ xs _ hnx ((unhide HS8).rows (g4, xs) (by simp))).mono ?_
  rintro e w9 ⟨⟨k1, rfl, hk1⟩, hg9⟩
  have HS9 := hide (((unhide HS8).sub (cs' := [(w.heap.size, .slice a xs.length cap)]) (rs' := []) (ts' := [(gw, us')]) (by simp) (by simp) (by simp)).grown hg9 (fun k hk => by
    simp at hk
    subst hk
    refine ⟨by omega, ?_, ?_, ?_⟩
    · simp; omega
    · simp
    · simp; omega))
  have HO9 := hide ((unhide HO8).grown hg9 (fun k hk => by simp at hk; simp; omega))
  clear HS8 HO8 hg9 e4
  have hk10 : ¬ (k1 : Int) < 0 := by omega
  go_wp2_with fail
  refine (eqTS_arg a9 (some ⟨gw, 0, none⟩) c9 cw us' _ hul' (unhide HO9).arg ((unhide HS9).toks (gw, us') (by simp)).arg).mono ?_
  rintro e w10 ⟨rfl, hb10⟩
  have HS10 := hide ((unhide HS9).step hb10)
  have HO10 := hide ((unhide HO9).step hb10)
  clear HS9 HO9 hb10 hk1
  go_wp2_with fail
  refine (markTS_own a9 c9 _ us' _ hul' (unhide HO10)).mono ?_
  rintro e w11 ⟨⟨m1, rfl, hm1⟩, hM11, hg11⟩
  have HS11 := hide ((unhide HS10).grown hg11 (fun k hk => by
    have := (unhide HA9) k hk
    simp at this
    refine ⟨by omega, ?_, ?_, ?_⟩
    · simp; omega
    · simp
    · simp; omega))
  clear HS10 HO10 hg11
  go_wp2_with fail
  refine (heldTS_own a9 c9 us'.length _ hul' (unhide hM11)).mono ?_
  rintro e w12 ⟨⟨q1, rfl, hq1⟩, hb12⟩
  obtain rfl : q1 = m1 := (unhide hq1).trans (unhide hm1).symm
  have HS12 := hide ((unhide HS11).step hb12)
  have HM12 := hide ((unhide hM11).step hb12)
  clear HS11 hM11 hb12 hq1
  have hq10 : ¬ (q1 : Int) < 0 := by omega
  have e0 := (unhide HS12).cells (w.heap.size, .slice a xs.length cap) (by simp)
  simp only at e0
  go_wp2_with fail
  refine (toTable_inL (w := w) a cap xs _ hnx (unhide HA) (unhide HS12).bel).mono ?_
  rintro e w13 ⟨⟨g13, rfl, hg13, hf13⟩, hb13⟩
  have HS13 := hide (((unhide HS12).step hb13).addr (unhide hf13))
  have HM13 := hide ((unhide HM12).step hb13)
  clear HS12 HM12 hb13 hf13 e0
  go_wp2_with fail
  refine (implLex_any g13 0 xs.length xs s _ hnx ((unhide HS13).rows (g13, xs) (by simp)).ops (unhide HZ) ((unhide HS13).rows (g13, xs) (by simp)).1 (unhide HSS)).mono ?_
  rintro e w14 ⟨⟨a14, c14, us2, v2, rfl, hO14, hlx2⟩, hb14⟩
  obtain ⟨rfl, rfl⟩ := hlx2.one (unhide HLX)
  have HS14 := hide ((unhide HS13).step hb14)
  have HM14 := hide ((unhide HM13).step hb14)
  have HO14 := hide hO14
  clear HS13 HM13 hb14 hO14 hlx2
  go_wp2_with fail
  refine (eqTS_arg a14 (some ⟨gw, 0, none⟩) c14 cw us2 _ hul' (unhide HO14).arg ((unhide HS14).toks (gw, us2) (by simp)).arg).mono ?_
  rintro e w15 ⟨rfl, hb15⟩
  have HS15 := hide ((unhide HS14).step hb15)
  have HM15 := hide ((unhide HM14).step hb15)
  clear HS14 HM14 HO14 hb15
  go_wp2_with fail
  refine (heldTS_own a9 c9 us2.length _ hul' (unhide HM15)).mono ?_
  rintro e w16 ⟨⟨q2, rfl, hq2⟩, hb16⟩
  obtain rfl : q2 = q1 := (unhide hq2).trans (unhide hm1).symm
  have bel16 := ((unhide HS15).step hb16).bel
  clear HS15 HM15 hb16 hq2
  go_wp2_with fail
  go_ret
  exact ⟨rfl, bel16⟩
end Go.Proofs.Ytokabkhnidlcnab
