/-
  Walk: the face of what ImplRol2 walks.
-/
import Derived.Test.YtokabkhnidlcnabImplRol2
namespace Go.Proofs.Ytokabkhnidlcnab
set_option maxRecDepth 100000
set_option linter.unusedSimpArgs false
open Go.RowKit Go.Maps

set_option maxHeartbeats 4000000 in
theorem implRoles_any (b off cap b' off' cap' : Nat) (xs : List OpR) (ts : List TokR) (w : World) (hmx : xs.length ≤ 1048576) (hm : ts.length ≤ 1048576) (hw : Ops w b off xs) (hsz : Sized xs) (hB : b < w.heap.size) (hw' : OpsT w b' off' ts) (hst : SizedT ts) (hB' : b' < w.heap.size) :
    Calls Try.prog 27 #[.agg #[.slice (some ⟨b, off, none⟩) xs.length cap], .slice (some ⟨b', off', none⟩) ts.length cap'] w fun e w' => (∃ (a : Option Addr) (c : Nat) (us : List Int) (v : Int), e = .returned (.tuple #[.slice a us.length c, .int .i64 v]) ∧ OwnedI w' w.heap.size a us ∧ RolesIs xs (IsCode xs 0) ts us v) ∧ Below w.heap.size w w' := by
  have HW := hide hw
  have HS := hide hsz
  have HT := hide hw'
  have HST := hide hst
  clear hw hsz hw' hst
  go_enter Try.func27, Try.ntmps27
  go_wp2_with fail
  refine (indexTable_any b off cap xs _ hmx ((unhide HW).below (below1 _ _) hB) (unhide HS) (by simp; omega)).mono ?_
  rintro e w1 ⟨⟨x, y, c, rfl, hc, hix⟩, hb1⟩
  have HC := hide hc
  have HIX := hide hix
  have z1 : w.heap.size + 1 ≤ w1.heap.size := by have := hb1.size; simp at this; omega
  have bel1 : Below w.heap.size w w1 := (below1 _ _).trans (hb1.mono (by simp))
  clear hc hix hb1
  by_cases hc0 : c = 0
  case neg =>
    have hc0' : (c != 0) = true := by simpa using hc0
    have HN := hide (show ¬ IsCode xs 0 from fun h => hc0 (IsCode_one (unhide HC) h))
    clear hc0
    go_wp2_with fail
    go_ret2
    exact ⟨⟨none, 0, [], 0, rfl, Or.inl ⟨rfl, rfl⟩, Or.inl ⟨unhide HN, rfl, rfl⟩⟩, bel1.alloc bel1.size _⟩
  subst hc0
  obtain ⟨bo, bs, rfl, rfl, hidx⟩ := (unhide HIX) rfl
  have HID := hide hidx
  clear HIX hidx
  have HIJ := hide ((unhide HID).kept (below1 w1 (.cells #[.map (some bo), .map (some bs)] 85)))
  clear HID
  have belA : Below w.heap.size w (w1.alloc (.cells #[.map (some bo), .map (some bs)] 85)) := bel1.alloc bel1.size _
  go_wp2_with fail
  refine (rolesM_any bo bs b' off' cap' xs ts _ hm (unhide HIJ) (unhide HC) ((unhide HT).below belA hB') (unhide HST) (by have := belA.size; omega)).mono ?_
  rintro e w2 ⟨⟨a, c2, us, v, rfl, hO, hR⟩, hb2⟩
  have HO := hide hO
  have HR := hide hR
  clear hO hR
  have bel2 : Below w.heap.size w w2 := belA.trans (hb2.mono belA.size)
  go_wp2_with fail
  go_ret2
  refine ⟨⟨a, c2, us, v, rfl, ?_, unhide HR⟩, bel2⟩
  rcases unhide HO with h | ⟨g, rfl, hg, hf⟩
  · exact Or.inl h
  · exact Or.inr ⟨g, rfl, Nat.le_trans belA.size hg, hf⟩
end Go.Proofs.Ytokabkhnidlcnab
