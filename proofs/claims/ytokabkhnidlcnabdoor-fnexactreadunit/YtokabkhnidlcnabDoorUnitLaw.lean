/-
  The law of ReadUnit.
-/
import Derived.Test.YtokabkhnidlcnabDoorShUnit
import Derived.Test.YtokabkhnidlcnabDoorSpecUnit
import Derived.Test.YtokabkhnidlcnabDoorImplUnit
namespace Go.Proofs.YtokabkhnidlcnabDoor
set_option maxRecDepth 100000
set_option linter.unusedSimpArgs false
set_option linter.unusedVariables false
open Go.RowKit

/-- A record that the law holds. -/
def RecU (w : World) (A : Nat) (vu vo : Value) (b : ByteArray) : Prop := w.cell? ⟨A, 0, none⟩ = some vu ∧ w.cell? ⟨A, 1, none⟩ = some vo ∧ w.cell? ⟨A, 2, none⟩ = some (.string b)
theorem RecU.below {w w' : World} {A B : Nat} {vu vo : Value} {b : ByteArray} (h : RecU w A vu vo b) (hb : Below B w w') (hA : A < B) : RecU w' A vu vo b :=
  ⟨(hb.cell (p := ⟨A, 0, none⟩) hA).trans h.1, (hb.cell (p := ⟨A, 1, none⟩) hA).trans h.2.1, (hb.cell (p := ⟨A, 2, none⟩) hA).trans h.2.2⟩
theorem RecU.new (w : World) (vu vo : Value) (b : ByteArray) : RecU (w.alloc (.cells #[vu, vo, .string b] 25)) w.heap.size vu vo b := ⟨by simp [go_sem], by simp [go_sem], by simp [go_sem]⟩

theorem RowS.belowB {w w' : World} {B C : Nat} {u : Value} {us : List ByteArray} (h : RowS w B u us) (hb : Below C w w') (hc : ∀ k, u.ownBlock = some k → k < C) : RowS w' B u us := by
  obtain ⟨h1, h2 | ⟨g, cap, cur, hv, hg, h3, h4⟩⟩ := h
  · exact ⟨h1, Or.inl h2⟩
  · exact ⟨h1, Or.inr ⟨g, cap, cur, hv, hg, (hb.block g (hc g (by rw [hv]; rfl))).trans h3, h4⟩⟩
theorem RowO.belowB {w w' : World} {B C : Nat} {u : Value} {us : List OpR} (h : RowO w B u us) (hb : Below C w w') (hc : ∀ k, u.ownBlock = some k → k < C) : RowO w' B u us := by
  obtain ⟨h1, h2 | ⟨g, cap, cur, hv, hg, h3, h4⟩⟩ := h
  · exact ⟨h1, Or.inl h2⟩
  · exact ⟨h1, Or.inr ⟨g, cap, cur, hv, hg, (hb.block g (hc g (by rw [hv]; rfl))).trans h3, h4⟩⟩

set_option maxHeartbeats 8000000 in
theorem lawReadUnit (s : ByteArray) (w : World) (hs : s.size ≤ maxLen) (hm : MaxL w) :
    Calls Tryd.prog 3 #[.string s] w fun e w' => e = .returned (.bool true) ∧ Below w.heap.size w w' := by
  have hs' := hs
  unfold maxLen at hs'
  by_cases hbig : 1048576 < s.size
  · have hI : (1048576 : Int) < (s.size : Int) := by omega
    go_enter Tryd.func3, Tryd.ntmps3
    go_wp2
    go_ret
    exact ⟨rfl, Below.refl _ _⟩
  have hI : ¬ (1048576 : Int) < (s.size : Int) := by omega
  have HM := hide hm
  have HS1 := hide (specReadUnit_any s w hs)
  clear hm hbig
  go_enter Tryd.func3, Tryd.ntmps3
  go_wp2_with fail
  (with_reducible refine (unhide HS1).mono ?_)
  rintro e w1 ⟨vu, vo, us, os, b, c, l, rfl, hi1, ru1, ro1, hne1, hlu, hlo, hb1⟩
  obtain ⟨a1, c1, rfl⟩ := rowS_slice ru1
  obtain ⟨a2, c2, rfl⟩ : ∃ a c, vo = .slice a os.length c := rowS_slice ro1
  obtain ⟨W1, hW1⟩ : ∃ W1, W1 = w1.alloc (.cells #[.slice a1 us.length c1, .slice a2 os.length c2, .string b] 25) := ⟨_, rfl⟩
  have HW1 := hide hW1
  have hbW1 : Below w1.heap.size w1 W1 := by rw [hW1]; exact below1 _ _
  have HBW1 := hide (hb1.trans (hbW1.mono hb1.size))
  have zW1 : w1.heap.size + 1 ≤ W1.heap.size := by rw [hW1]; simp
  have HR1 := hide (show RecU W1 w1.heap.size (.slice a1 us.length c1) (.slice a2 os.length c2) b by rw [hW1]; exact RecU.new _ _ _ _)
  have HRU := hide (ru1.below hbW1)
  have HRO := hide (ro1.below hbW1)
  have HIS := hide hi1
  have HS2 := hide (implReadUnit_any s W1 hs ((unhide HM).below (unhide HBW1)))
  clear hi1 ru1 ro1 hne1 hb1 HS1 hW1 hbW1
  go_wp2_with fail
  rw [← unhide HW1]
  (with_reducible refine (unhide HS2).mono ?_)
  rintro e w2 ⟨vu', vo', us', os', b', c', l', rfl, hi2, ru2, ro2, hne2, hlu2, hlo2, hb2⟩
  obtain ⟨rfl, rfl, rfl, rfl, rfl⟩ := (unhide HIS).one hi2
  obtain ⟨a3, c3, rfl⟩ := rowS_slice ru2
  obtain ⟨a4, c4, rfl⟩ : ∃ a c, vo' = .slice a os.length c := rowS_slice ro2
  obtain ⟨W2, hW2⟩ : ∃ W2, W2 = w2.alloc (.cells #[.slice a3 us.length c3, .slice a4 os.length c4, .string b] 25) := ⟨_, rfl⟩
  have HW2 := hide hW2
  have hbW2 : Below w2.heap.size w2 W2 := by rw [hW2]; exact below1 _ _
  have z2 := hb2.size
  have hb2' : Below W1.heap.size W1 W2 := hb2.trans (hbW2.mono z2)
  have zW2 : w2.heap.size + 1 ≤ W2.heap.size := by rw [hW2]; simp
  have HBW2 := hide ((unhide HBW1).trans (hb2'.mono (unhide HBW1).size))
  have HR2 := hide (show RecU W2 w2.heap.size (.slice a3 us.length c3) (.slice a4 os.length c4) b by rw [hW2]; exact RecU.new _ _ _ _)
  have HR1' := hide ((unhide HR1).below hb2' (by omega))
  have HRU1 := hide ((unhide HRU).below hb2')
  have HRO1 := hide ((unhide HRO).below hb2')
  have HLT1 := hide (fun k e => ((unhide HRU).lt k e).2)
  have HLT2 := hide (fun k e => ((unhide HRO).lt k e).2)
  have HRU2 := hide (ru2.below hbW2)
  have HRO2 := hide (ro2.below hbW2)
  have HNE := hide hne2
  have HL3 := hide (fun k e => (ru2.lt k e).2)
  have HL4 := hide (fun k e => (ro2.lt k e).2)
  have HEQ := hide (eqUnit_any _ _ _ _ b us os W2 (by omega) (by omega) (unhide HRU2).strs (unhide HRU1).strs (unhide HRO2).ops (unhide HRO1).ops)
  obtain ⟨q0, q1, q2⟩ := (unhide HR1).below hb2 (by omega)
  have hlw : w1.heap.size < w2.heap.size := by omega
  clear hi2 ru2 ro2 hne2 hb2 hb2' hW2 hbW2 HS2 HRU HRO HR1
  go_wp2_with fail
  rw [← unhide HW2]
  (with_reducible refine (unhide HEQ).mono ?_)
  rintro e w3 ⟨rfl, hb3⟩
  have z3 := hb3.size
  have HR23 := hide ((unhide HR2).below hb3 (by omega))
  have HR13 := hide ((unhide HR1').below hb3 (by omega))
  have HBW3 := hide ((unhide HBW2).trans (hb3.mono (unhide HBW2).size))
  have HMK := hide (markUnit_any _ _ W1.heap.size b us os w3 hlu hlo ((unhide HRU2).below hb3) ((unhide HRO2).below hb3) (unhide HNE) (by omega))
  have HRU13 := hide ((unhide HRU1).below hb3)
  have HRO13 := hide ((unhide HRO1).below hb3)
  obtain ⟨m, hmm⟩ : ∃ m : Nat, m = 1 + us.length + 4 * os.length := ⟨_, rfl⟩
  rw [← hmm] at HMK
  have HMM := hide hmm
  have hm0 : ¬ (m : Int) < 0 := by omega
  clear hb3 q0 q1 q2 HEQ hmm HR2 HR1' HRU1 HRO1 HRU2 HRO2
  obtain ⟨p0, p1, p2⟩ := unhide HR23
  go_wp2_with fail
  (with_reducible refine (unhide HMK).mono ?_)
  rintro e w4 ⟨rfl, hms4, hmo4, hb4, hall4⟩
  have z4 := hb4.size
  have HBW4 := hide ((unhide HBW3).trans (hb4.mono (by have := (unhide HBW1).size; omega)))
  have HR14 := hide ((unhide HR13).below hb4 (by omega))
  have HR24 := hide (show RecU w4 w2.heap.size (.slice a3 us.length c3) (.slice a4 os.length c4) b by
    have e := fun o => hall4 w2.heap.size o (by omega) (fun e => by have := (unhide HL3) _ e; omega) (fun e => by have := (unhide HL4) _ e; omega)
    exact ⟨(e 0).trans p0, (e 1).trans p1, (e 2).trans p2⟩)
  have HRU14 := hide ((unhide HRU13).belowB hb4 (unhide HLT1))
  have HRO14 := hide ((unhide HRO13).belowB hb4 (unhide HLT2))
  have HMS4 := hide hms4
  have HMO4 := hide hmo4
  have HHD := hide (heldUnit_any _ _ b us.length os.length w4 hlu hlo hms4 hmo4)
  rw [← unhide HMM] at HHD
  clear hms4 hmo4 hb4 hall4 p0 p1 p2 HMK HR23 HR13 HRU13 HRO13
  obtain ⟨p0, p1, p2⟩ := unhide HR24
  go_wp2_with fail
  (with_reducible refine (unhide HHD).mono ?_)
  rintro e w5 ⟨rfl, hb5⟩
  have z5 := hb5.size
  have HBW5 := hide ((unhide HBW4).trans (hb5.mono (unhide HBW4).size))
  have HR15 := hide ((unhide HR14).below hb5 (by omega))
  have HR25 := hide ((unhide HR24).below hb5 (by omega))
  have HRU15 := hide ((unhide HRU14).below hb5)
  have HRO15 := hide ((unhide HRO14).below hb5)
  have HMS5 := hide ((unhide HMS4).below hb5)
  have HMO5 := hide ((unhide HMO4).below hb5)
  have HS3 := hide (implReadUnit_any s w5 hs ((unhide HM).below (unhide HBW5)))
  clear hb5 p0 p1 p2 HHD HR14 HR24 HRU14 HRO14 HMS4 HMO4
  go_wp2_with fail
  (with_reducible refine (unhide HS3).mono ?_)
  rintro e w6 ⟨vu', vo', us', os', b', c', l', rfl, hi2, ru2, ro2, hne2, hlu3, hlo3, hb6⟩
  obtain ⟨rfl, rfl, rfl, rfl, rfl⟩ := (unhide HIS).one hi2
  obtain ⟨a5, c5, rfl⟩ := rowS_slice ru2
  obtain ⟨a6, c6, rfl⟩ : ∃ a c, vo' = .slice a os.length c := rowS_slice ro2
  obtain ⟨W6, hW6⟩ : ∃ W6, W6 = w6.alloc (.cells #[.slice a5 us.length c5, .slice a6 os.length c6, .string b] 25) := ⟨_, rfl⟩
  have HW6 := hide hW6
  have hbW6 : Below w6.heap.size w6 W6 := by rw [hW6]; exact below1 _ _
  have z6 := hb6.size
  have zW6 : w6.heap.size + 1 ≤ W6.heap.size := by rw [hW6]; simp
  have hb6' : Below w5.heap.size w5 W6 := hb6.trans (hbW6.mono z6)
  have HBW6 := hide ((unhide HBW5).trans (hb6'.mono (unhide HBW5).size))
  obtain ⟨q0, q1, q2⟩ := (unhide HR15).below hb6 (by omega)
  have HR26 := hide ((unhide HR25).below hb6' (by omega))
  have HMS6 := hide ((unhide HMS5).below hb6')
  have HMO6 := hide ((unhide HMO5).below hb6')
  have HEQ := hide (eqUnit_any _ _ _ _ b us os W6 (by omega) (by omega) (ru2.below hbW6).strs ((unhide HRU15).below hb6').strs (ro2.below hbW6).ops ((unhide HRO15).below hb6').ops)
  have hlw6 : w1.heap.size < w6.heap.size := by omega
  clear hi2 ru2 ro2 hne2 hb6 hb6' hW6 hbW6 HS3 HR15 HR25 HRU15 HRO15 HMS5 HMO5
  go_wp2_with fail
  rw [← unhide HW6]
  (with_reducible refine (unhide HEQ).mono ?_)
  rintro e w7 ⟨rfl, hb7⟩
  have z7 := hb7.size
  have HBW7 := hide ((unhide HBW6).trans (hb7.mono (unhide HBW6).size))
  have HR27 := hide ((unhide HR26).below hb7 (by omega))
  have HHD := hide (heldUnit_any _ _ b us.length os.length w7 hlu hlo ((unhide HMS6).below hb7) ((unhide HMO6).below hb7))
  rw [← unhide HMM] at HHD
  clear hb7 q0 q1 q2 HEQ HR26 HMS6 HMO6
  obtain ⟨p0, p1, p2⟩ := unhide HR27
  go_wp2_with fail
  (with_reducible refine (unhide HHD).mono ?_)
  rintro e w8 ⟨rfl, hb8⟩
  have HBW8 := hide ((unhide HBW7).trans (hb8.mono (unhide HBW7).size))
  clear hb8 p0 p1 p2 HHD
  go_wp2
  go_ret
  exact ⟨rfl, unhide HBW8⟩
end Go.Proofs.YtokabkhnidlcnabDoor
