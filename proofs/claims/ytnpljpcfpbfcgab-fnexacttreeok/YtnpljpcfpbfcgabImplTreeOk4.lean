/-
  Walk: the program's TreeOk.
-/
import Derived.Test.YtnpljpcfpbfcgabImplTreeOk3
import Derived.Test.YtnpljpcfpbfcgabImplWell
import Derived.Test.YtnpljpcfpbfcgabSpecLex3
namespace Go.Proofs.Ytnpljpcfpbfcgab
set_option maxRecDepth 100000
set_option linter.unusedSimpArgs false
set_option linter.unusedVariables false
open Go.RowKit Go.Maps

set_option maxHeartbeats 2000000 in
theorem implTreeOk_any (b off cap bn offn cn : Nat) (xs : List OpR) (ns : List NodeR) (w : World) (hm : xs.length ≤ 1048576) (hmn : ns.length ≤ 1048576) (hw : Ops w b off xs) (hsz : Sized xs) (hB : b < w.heap.size) (hwn : OpsN w bn offn ns) (hsn : SizedN ns) (hBn : bn < w.heap.size) :
    Calls Try.prog 34 #[.agg #[.slice (some ⟨b, off, none⟩) xs.length cap], .agg #[.slice (some ⟨bn, offn, none⟩) ns.length cn]] w fun e w' => (∃ c, e = .returned (.int .i64 c) ∧ TreeOkIs xs ns c) ∧ Below w.heap.size w w' := by
  have HW := hide hw
  have HWN := hide hwn
  have HZ := hide hsz
  have HZN := hide hsn
  clear hw hwn hsz hsn
  go_enter Try.func34, Try.ntmps34
  go_wp2_with fail
  refine (indexTable_any b off cap xs _ hm ((unhide HW).below ((below1 _ _).alloc (by simp) _) hB) (unhide HZ) (by simp; omega)).mono ?_
  rintro e w1 ⟨⟨x, y, c, rfl, hc, hix⟩, hb1⟩
  have HC := hide hc
  have HIX := hide hix
  have bel1 : Below w.heap.size w w1 := ((below1 _ _).alloc (by simp) _).trans (hb1.mono (by simp; omega))
  have c1 : w1.cell? ⟨w.heap.size + 1, 0, none⟩ = some (.slice (some ⟨bn, offn, none⟩) ns.length cn) := (hb1.cell (p := ⟨w.heap.size + 1, 0, none⟩) (by simp)).trans (by simp [go_sem])
  have z1 : w.heap.size + 2 ≤ w1.heap.size := by have := hb1.size; simp at this; omega
  clear hc hix hb1
  by_cases hc0 : c = 0
  case neg =>
    have hc0' : (c != 0) = true := by simpa using hc0
    have HN := hide (show ¬ IsCode xs 0 from fun h => hc0 (IsCode_one (unhide HC) h))
    clear hc0
    go_wp2_with fail
    go_ret
    exact ⟨⟨1, rfl, Or.inl ⟨unhide HN, rfl⟩⟩, bel1.alloc bel1.size _⟩
  subst hc0
  obtain ⟨bo, bs, rfl, rfl, hidx⟩ := (unhide HIX) rfl
  have HID := hide (hidx.kept (below1 w1 (.cells #[.map (some bo), .map (some bs)] 85)))
  have HOK := hide (code_ok (unhide HC))
  have belA : Below w.heap.size w (w1.alloc (.cells #[.map (some bo), .map (some bs)] 85)) := bel1.alloc bel1.size _
  have HCS := hide (show Cs [(w.heap.size + 1, 0, .slice (some ⟨bn, offn, none⟩) ns.length cn), (w1.heap.size, 0, .map (some bo)), (w1.heap.size, 1, .map (some bs))] (w1.alloc (.cells #[.map (some bo), .map (some bs)] 85)) from fun p hp => by
    simp only [List.mem_cons, List.not_mem_nil, or_false] at hp
    rcases hp with rfl | rfl | rfl
    · exact ((below1 _ _).cell (p := ⟨w.heap.size + 1, 0, none⟩) (show w.heap.size + 1 < w1.heap.size by omega)).trans c1
    · simp [go_sem]
    · simp [go_sem])
  clear HIX hidx c1
  have k1 := (unhide HCS) (w.heap.size + 1, 0, .slice (some ⟨bn, offn, none⟩) ns.length cn) (by simp)
  have k2 := (unhide HCS) (w1.heap.size, 0, .map (some bo)) (by simp)
  have k3 := (unhide HCS) (w1.heap.size, 1, .map (some bs)) (by simp)
  simp only at k1 k2 k3
  go_wp2_with fail
  refine (isWellFormed_any bo bs bn offn cn xs ns _ hmn (unhide HID) (unhide HC) (unhide HOK) ((unhide HWN).below belA hBn) (unhide HZN) (Nat.lt_of_lt_of_le hBn belA.size)).mono ?_
  rintro e w3 ⟨⟨v, rfl, hv⟩, hb3⟩
  have HV := hide hv
  have bel3 := belA.trans (hb3.mono belA.size)
  have HC3 := hide ((unhide HCS).below hb3)
  have HI3 := hide ((unhide HID).kept hb3)
  clear hv hb3 HCS HID k1 k2 k3 belA
  cases v
  · go_wp2_with fail
    go_ret
    exact ⟨⟨2, rfl, Or.inr ⟨unhide HC, Or.inl ⟨fun h => Bool.false_ne_true ((unhide HV).2 h), rfl⟩⟩⟩, bel3⟩
  have HO := hide ((unhide HV).1 rfl).1
  have HK := hide ((unhide HV).1 rfl).2
  clear HV
  have k1 := (unhide HC3) (w.heap.size + 1, 0, .slice (some ⟨bn, offn, none⟩) ns.length cn) (by simp)
  have k2 := (unhide HC3) (w1.heap.size, 0, .map (some bo)) (by simp)
  have k3 := (unhide HC3) (w1.heap.size, 1, .map (some bs)) (by simp)
  simp only at k1 k2 k3
  go_wp2_with fail
  refine (admits_any bo bs bn offn cn xs ns _ hmn (unhide HI3) (unhide HC) (unhide HOK) (unhide HZ) ((unhide HWN).below bel3 hBn) (unhide HZN) (Nat.lt_of_lt_of_le hBn bel3.size) (unhide HO)).mono ?_
  rintro e w4 ⟨⟨v, rfl, hv⟩, hb4⟩
  have HV := hide hv
  have bel4 := bel3.trans (hb4.mono bel3.size)
  clear hv hb4 HC3 HI3 k1 k2 k3 bel3
  cases v
  · go_wp2_with fail
    go_ret
    exact ⟨⟨3, rfl, Or.inr ⟨unhide HC, Or.inr ⟨⟨unhide HO, unhide HK⟩, Or.inl ⟨fun h => Bool.false_ne_true ((unhide HV).2 h), rfl⟩⟩⟩⟩, bel4⟩
  · go_wp2_with fail
    go_ret
    exact ⟨⟨0, rfl, Or.inr ⟨unhide HC, Or.inr ⟨⟨unhide HO, unhide HK⟩, Or.inr ⟨(unhide HV).1 rfl, rfl⟩⟩⟩⟩, bel4⟩
end Go.Proofs.Ytnpljpcfpbfcgab
