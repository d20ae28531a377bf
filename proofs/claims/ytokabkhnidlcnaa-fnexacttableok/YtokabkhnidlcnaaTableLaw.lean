/-
  Walk: the law of TableOk.
-/
import Derived.Test.YtokabkhnidlcnaaImplTable
namespace Go.Proofs.Ytokabkhnidlcnaa
set_option maxRecDepth 100000
open Go.RowKit Go.Maps

set_option maxHeartbeats 1000000 in
theorem implTableOk_any (b off cap : Nat) (xs : List OpR) (w : World) (hm : xs.length ≤ 1048576) (hw : Ops w b off xs) (hs : Sized xs) (hB : b < w.heap.size) :
    Calls Try.prog 15 #[.agg #[.slice (some ⟨b, off, none⟩) xs.length cap]] w fun e w' => (∃ c, e = .returned (.int .i64 c) ∧ IsCode xs c) ∧ Below w.heap.size w w' := by
  go_enter Try.func15, Try.ntmps15
  go_wp2_with fail
  refine (indexTable_any b off cap xs _ hm (hw.below (below1 _ _) hB) hs (by simp; omega)).mono ?_
  rintro e w1 ⟨⟨x, y, c, rfl, hc, _⟩, hb1⟩
  have HC := hide hc
  clear hc
  go_wp2_with fail
  go_ret
  exact ⟨⟨c, rfl, unhide HC⟩, ((below1 _ _).trans (hb1.mono (by simp))).alloc (by have := hb1.size; simp at this; omega) _⟩

set_option maxHeartbeats 2000000 in
theorem lawTable (a : Option Addr) (cap : Nat) (xs : List OpR) (w : World) (hm : xs.length ≤ maxLen) (hw : Arg w a xs) (hs : Sized xs) :
    Calls Try.prog 4 #[.agg #[.slice a xs.length cap]] w fun e w' => e = .returned (.bool true) ∧ Below w.heap.size w w' := by
  have HW := hide hw
  clear hw
  go_enter Try.func4, Try.ntmps4
  go_wp2_with fail
  refine (szTable_any a cap xs _ _ hm ((unhide HW).alloc _) hs (by decide) (by decide)).mono ?_
  rintro e w1 ⟨⟨r, rfl, hr⟩, hb1⟩
  have hbel1 : Below w.heap.size w w1 := (below1 _ _).trans (hb1.mono (by simp))
  obtain ⟨hc1, hf1⟩ := bcell hb1
  have z1 : w.heap.size < w1.heap.size := by have := hb1.size; simp at this; omega
  by_cases hr0 : r < 0
  · go_wp2_with fail
    go_ret
    exact ⟨rfl, hbel1⟩
  have hn : xs.length ≤ 1048576 := by
    unfold Left at hr
    omega
  have c1 : w1.cell? ⟨w.heap.size, 0, none⟩ = some (.slice a xs.length cap) := by rw [hc1 _ _ (by simp)]; simp [go_sem]
  have A1 := hide ((unhide HW).below hbel1)
  clear hr hc1 hf1 hb1
  go_wp2_with fail
  refine (toTable_any a cap xs _ hn (unhide A1)).mono ?_
  rintro e w2 ⟨⟨g, rfl, hg, hfil⟩, hb2⟩
  have c2 : w2.cell? ⟨w.heap.size, 0, none⟩ = some (.slice a xs.length cap) := (hb2.cell (p := ⟨_, _, none⟩) z1).trans c1
  have z2 : w.heap.size < w2.heap.size := Nat.lt_of_lt_of_le z1 hb2.size
  have hbel2 := hbel1.trans (hb2.mono (by omega))
  have A2 := hide ((unhide A1).below hb2)
  have HF := hide hfil
  clear hfil hg A1 hb2 c1
  go_wp2_with fail
  refine (specTableOk_any g 0 xs.length xs _ hn (unhide HF).ops hs (unhide HF).1).mono ?_
  rintro e w3 ⟨⟨c, rfl, hc⟩, hb3⟩
  have HC := hide hc
  have c3 : w3.cell? ⟨w.heap.size, 0, none⟩ = some (.slice a xs.length cap) := (hb3.cell (p := ⟨_, _, none⟩) z2).trans c2
  have z3 : w.heap.size < w3.heap.size := Nat.lt_of_lt_of_le z2 hb3.size
  have hbel3 := hbel2.trans (hb3.mono (by omega))
  have A3 := hide ((unhide A2).below hb3)
  clear A2 hb3 c2 hc HF
  go_wp2_with fail
  refine (toTable_any a cap xs _ hn (unhide A3)).mono ?_
  rintro e w4 ⟨⟨g4, rfl, hg4, hfil4⟩, hb4⟩
  have c4 : w4.cell? ⟨w.heap.size, 0, none⟩ = some (.slice a xs.length cap) := (hb4.cell (p := ⟨_, _, none⟩) z3).trans c3
  have z4 : w.heap.size < w4.heap.size := Nat.lt_of_lt_of_le z3 hb4.size
  have hbel4 := hbel3.trans (hb4.mono (by omega))
  have A4 := hide (((unhide A3).below hb4).alloc (.cells #[.slice (some ⟨g4, 0, none⟩) xs.length xs.length] 25))
  have HF4 := hide (hfil4.below (below1 w4 (.cells #[.slice (some ⟨g4, 0, none⟩) xs.length xs.length] 25)) hfil4.1)
  clear A3 hb4 c3 hfil4 hg4
  go_wp2_with fail
  refine (implTableOk_any g4 0 xs.length xs _ hn (unhide HF4).ops hs (unhide HF4).1).mono ?_
  rintro e w5 ⟨⟨c', rfl, hc'⟩, hb5⟩
  obtain rfl : c = c' := IsCode_one (unhide HC) hc'
  have c5 : w5.cell? ⟨w.heap.size, 0, none⟩ = some (.slice a xs.length cap) := by
    rw [hb5.cell (p := ⟨w.heap.size, 0, none⟩) (by simp; omega)]; exact ((below1 w4 _).cell (p := ⟨w.heap.size, 0, none⟩) z4).trans c4
  have d5 : w5.cell? ⟨w4.heap.size, 0, none⟩ = some (.slice (some ⟨g4, 0, none⟩) xs.length xs.length) := by
    rw [hb5.cell (p := ⟨w4.heap.size, 0, none⟩) (by simp)]; simp [go_sem]
  have z5 : w4.heap.size < w5.heap.size := by have := hb5.size; simp at this; omega
  have hbel5 : Below w.heap.size w w5 := (hbel4.alloc (by omega) _).trans (hb5.mono (by simp; omega))
  have A5 := hide ((unhide A4).below hb5)
  have HF5 := hide ((unhide HF4).below hb5 (unhide HF4).1)
  clear A4 hb5 c4 hc' HC HF4
  go_wp2_with fail
  go_region_held (fun w' => w'.cell? ⟨w.heap.size, 0, none⟩ = some (.slice a xs.length cap) ∧ w'.cell? ⟨w4.heap.size, 0, none⟩ = some (.slice (some ⟨g4, 0, none⟩) xs.length xs.length)) (go_keep)
    (first | (go_at_call 14; refine (toTable_any a cap xs _ hn ((unhide A5).below (Below.refl _ _).drew)).mono ?_; rintro e w6 ⟨⟨g6, rfl, hg6, hfil6⟩, hb6⟩; have c6 := (hb6.cell (p := ⟨w.heap.size, 0, none⟩) (Nat.lt_trans z4 z5)).trans (show w5.drew.cell? ⟨w.heap.size, 0, none⟩ = _ from c5); have d6 := (hb6.cell (p := ⟨w4.heap.size, 0, none⟩) z5).trans (show w5.drew.cell? ⟨w4.heap.size, 0, none⟩ = _ from d5); have HF6 := hide hfil6; have HG6 := hide ((unhide HF5).below ((Below.refl w5.heap.size w5).drew.trans hb6) (unhide HF5).1); have hbel6 := hbel5.trans (((Below.refl w5.heap.size w5).drew.trans hb6).mono (Nat.le_of_lt (Nat.lt_trans z4 z5))); have z6 : w4.heap.size < w6.heap.size := Nat.lt_of_lt_of_le z5 hb6.size; clear hfil6 hg6 hb6) | (go_at_call 16; refine (eqTable_same g4 0 g6 0 _ _ xs _ hn (unhide HG6).ops (unhide HF6).ops (unhide HG6).1 (unhide HF6).1).mono ?_; rintro e w7 ⟨rfl, hb7⟩; have c7 := (hb7.cell (p := ⟨w.heap.size, 0, none⟩) (Nat.lt_trans z4 z6)).trans c6; have d7 := (hb7.cell (p := ⟨w4.heap.size, 0, none⟩) z6).trans d6; have hbel7 := hbel6.trans (hb7.mono (Nat.le_of_lt (Nat.lt_trans z4 z6)))))
  go_wp2
  go_ret
  exact ⟨rfl, hbel7⟩
end Go.Proofs.Ytokabkhnidlcnaa
