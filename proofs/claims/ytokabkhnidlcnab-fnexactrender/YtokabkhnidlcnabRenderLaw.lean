/-
  Walk: the law of Render, out of a contract of the program's Render ('implRender_any').
-/
import Derived.Test.YtokabkhnidlcnabImplRender
import Derived.Test.YtokabkhnidlcnabSpecRender
import Derived.Test.YtokabkhnidlcnabShToken
namespace Go.Proofs.Ytokabkhnidlcnab
set_option maxRecDepth 100000
open Go.RowKit

set_option maxRecDepth 100000 in
set_option maxHeartbeats 4000000 in
theorem lawRender (a : Option Addr) (cap : Nat) (xs : List TokR) (w : World) (hm : xs.length ≤ maxLen) (hw : ArgT w a xs) (hs : SizedT xs) :
    Calls Try.prog 5 #[.slice a xs.length cap] w fun e w' => e = .returned (.bool true) ∧ Below w.heap.size w w' := by
  have HW := hide hw
  clear hw
  go_enter Try.func5, Try.ntmps5
  go_wp2_with fail
  refine (szTS_any a cap xs _ _ hm (unhide HW) hs (by decide) (by decide)).mono ?_
  rintro e w1 ⟨⟨r, rfl, hr⟩, hb1⟩
  by_cases hr0 : r < 0
  · go_wp2_with fail
    go_ret
    exact ⟨rfl, hb1⟩
  have hn : xs.length + totToT xs xs.length ≤ 1048576 := by unfold LeftT at hr; omega
  have hnx : xs.length ≤ 1048576 := by omega
  clear hr
  go_wp2_with fail
  refine (toTS_any a cap xs _ hnx ((unhide HW).below hb1)).mono ?_
  rintro e w2 ⟨⟨g2, rfl, hg2, hf2⟩, hb2⟩
  have bel2 := hb1.trans (hb2.mono hb1.size)
  have HF2 := hide hf2
  clear hf2 hg2 hb2
  go_wp2_with fail
  refine (specRender_any g2 0 xs.length xs _ hn (unhide HF2).ops (unhide HF2).1).mono ?_
  rintro e w3 ⟨rfl, hb3⟩
  have bel3 := bel2.trans (hb3.mono bel2.size)
  clear HF2 hb3 bel2
  go_wp2_with fail
  refine (toTS_any a cap xs _ hnx ((unhide HW).below bel3)).mono ?_
  rintro e w4 ⟨⟨g4, rfl, hg4, hf4⟩, hb4⟩
  have bel4 := bel3.trans (hb4.mono bel3.size)
  have HF4 := hide hf4
  clear hf4 hg4 hb4 bel3
  go_wp2_with fail
  refine (implRender_any g4 0 xs.length xs _ hn (unhide HF4).ops (unhide HF4).1).mono ?_
  rintro e w5 ⟨rfl, hb5⟩
  have bel5 := bel4.trans (hb5.mono bel4.size)
  have HF5 := hide ((unhide HF4).below hb5 (unhide HF4).1)
  clear HF4 hb5 bel4
  go_wp2_with fail
  refine (toTS_any a cap xs _ hnx ((unhide HW).below bel5)).mono ?_
  rintro e w6 ⟨⟨g6, rfl, hg6, hf6⟩, hb6⟩
  have bel6 := bel5.trans (hb6.mono bel5.size)
  have HF6 := hide hf6
  have HG6 := hide ((unhide HF5).below hb6 (unhide HF5).1)
  clear hf6 hg6 hb6 bel5 HF5
  go_wp2_with fail
  refine (eqTS_same g4 0 g6 0 _ _ xs _ hnx (unhide HG6).ops (unhide HF6).ops (unhide HG6).1 (unhide HF6).1).mono ?_
  rintro e w7 ⟨rfl, hb7⟩
  have bel7 := bel6.trans (hb7.mono bel6.size)
  go_wp2_with fail
  go_ret
  exact ⟨rfl, bel7⟩
end Go.Proofs.Ytokabkhnidlcnab
