/-
  Walk: the program's isWellFormed.
-/
import Derived.Test.YtnpljpcfpbfcgabImplTreeOk2
namespace Go.Proofs.Ytnpljpcfpbfcgab
set_option maxRecDepth 100000
set_option linter.unusedSimpArgs false
set_option linter.unusedVariables false
open Go.RowKit Go.Maps

set_option maxHeartbeats 2000000 in
theorem isWellFormed_any (bo bs bn offn cn : Nat) (xs : List OpR) (ns : List NodeR) (w : World) (hmn : ns.length ≤ 1048576) (hi : Idx w bo bs xs xs.length) (hc : IsCode xs 0) (hok : okTo xs xs.length) (hwn : OpsN w bn offn ns) (hsn : SizedN ns) (hBn : bn < w.heap.size) :
    Calls Try.prog 68 #[.agg #[.map (some bo), .map (some bs)], .agg #[.slice (some ⟨bn, offn, none⟩) ns.length cn]] w fun e w' => RetB e (InOrd ns ∧ Knows xs ns) ∧ Below w.heap.size w w' := by
  have HI := hide hi
  have HC := hide hc
  have HOK := hide hok
  have HWN := hide hwn
  have HZN := hide hsn
  have bel0 : Below w.heap.size w ((w.alloc (.cells #[.map (some bo), .map (some bs)] 85)).alloc (.cells #[.slice (some ⟨bn, offn, none⟩) ns.length cn] 58)) := (below1 _ _).alloc (by simp) _
  clear hi hc hok hwn hsn
  go_enter Try.func68, Try.ntmps68
  go_wp2_with fail
  refine (inOrder_any bn offn cn ns _ hmn ((unhide HWN).below bel0 hBn) (unhide HZN) (Nat.lt_of_lt_of_le hBn bel0.size)).mono ?_
  rintro e w2 ⟨⟨v, rfl, hv⟩, hb2⟩
  have HV := hide hv
  have bel2 := bel0.trans (hb2.mono bel0.size)
  have k1 : w2.cell? ⟨w.heap.size + 1, 0, none⟩ = some (.slice (some ⟨bn, offn, none⟩) ns.length cn) := (hb2.cell (p := ⟨w.heap.size + 1, 0, none⟩) (by simp)).trans (by simp [go_sem])
  have k2 : w2.cell? ⟨w.heap.size, 0, none⟩ = some (.map (some bo)) := (hb2.cell (p := ⟨w.heap.size, 0, none⟩) (by simp; omega)).trans (by simp [go_sem])
  have k3 : w2.cell? ⟨w.heap.size, 1, none⟩ = some (.map (some bs)) := (hb2.cell (p := ⟨w.heap.size, 1, none⟩) (by simp; omega)).trans (by simp [go_sem])
  clear hv hb2 bel0
  cases v
  · go_wp2_with fail
    go_ret
    exact ⟨⟨_, rfl, says_false (fun h => Bool.false_ne_true ((unhide HV).2 h.1))⟩, bel2⟩
  have HO := hide ((unhide HV).1 rfl)
  clear HV
  go_wp2_with fail
  refine (knowsAll_any bo bs bn offn cn xs ns _ hmn ((unhide HI).kept bel2) (unhide HC) (unhide HOK) ((unhide HWN).below bel2 hBn) (unhide HZN) (Nat.lt_of_lt_of_le hBn bel2.size)).mono ?_
  rintro e w3 ⟨⟨v, rfl, hv⟩, hb3⟩
  have HV := hide hv
  have bel3 := bel2.trans (hb3.mono bel2.size)
  clear hv hb3 bel2 k1 k2 k3
  cases v
  · go_wp2_with fail
    go_ret
    exact ⟨⟨_, rfl, says_false (fun h => Bool.false_ne_true ((unhide HV).2 h.2))⟩, bel3⟩
  · go_wp2_with fail
    go_ret
    exact ⟨⟨_, rfl, says_true ⟨unhide HO, (unhide HV).1 rfl⟩⟩, bel3⟩
end Go.Proofs.Ytnpljpcfpbfcgab
