/-
  Walk: all operators are well formed.
-/
import Derived.Test.YtokabkhnidlcnabOk
import Derived.Test.YtokabkhnidlcnabCore
namespace Go.Proofs.Ytokabkhnidlcnab
set_option maxRecDepth 100000
open Go.RowKit

set_option maxHeartbeats 400000 in
theorem allWF_any (b off cap : Nat) (xs : List OpR) (w : World) (hn2 : xs.length ≤ 1048576) (hw : Ops w b off xs) (hs : Sized xs) (hB : b < w.heap.size) :
    Calls Try.prog 87 #[.slice (some ⟨b, off, none⟩) xs.length cap] w fun e w' => (∃ v, e = .returned (.bool v) ∧ (v = true ↔ okTo xs xs.length)) ∧ Below w.heap.size w w' := by
  go_enter Try.func87, Try.ntmps87
  go_wp2
  go_loopw [7] (fun i wr => ∃ k : Nat, k ≤ xs.length ∧ i = .int .i64 k ∧ okTo xs k ∧ Below w.heap.size w wr) (fun i _ => xs.length - (intOf i).toNat)
  case atStart => exact ⟨0, Nat.zero_le _, rfl, fun j h => by omega, Below.refl _ _⟩
  case round =>
    obtain ⟨k, hk, rfl, hok, hbel⟩ := hrel
    by_cases hlt : k < xs.length
    · obtain ⟨h0, h1, h2, h3⟩ := (hw k hlt).below hbel hB
      cases ht : (atO xs k).ok
      · have Ht := hide ht
        unfold OpR.ok at ht
        go_wp2_with (go_at_call 121; refine (wellFormed_any _ _ _ _ _ (hs k hlt)).mono ?_; rintro e w' ⟨rfl, hb⟩)
        go_ret
        refine ⟨⟨false, rfl, ⟨fun h => (by cases h), fun h => ?_⟩⟩, ?_⟩
        · have := h k hlt; rw [unhide Ht] at this; cases this
        · exact hbel.trans (((below1 _ _).trans (hb.mono (by simp))).mono hbel.size)
      · have Ht := hide ht
        unfold OpR.ok at ht
        go_wp2_with (go_at_call 121; refine (wellFormed_any _ _ _ _ _ (hs k hlt)).mono ?_; rintro e w' ⟨rfl, hb⟩)
        exact ⟨⟨k + 1, by omega, by go_num, okTo_succ hok (unhide Ht), hbel.trans (((below1 _ _).trans (hb.mono (by simp))).mono hbel.size)⟩, by simp [intOf]; omega⟩
    · have : k = xs.length := by omega
      go_wp2
      go_ret
      exact ⟨⟨true, rfl, ⟨fun _ => this ▸ hok, fun _ => rfl⟩⟩, hbel⟩

end Go.Proofs.Ytokabkhnidlcnab
