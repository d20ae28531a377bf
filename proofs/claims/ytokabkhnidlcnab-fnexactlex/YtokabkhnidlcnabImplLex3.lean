/-
  Walks: the program's scanner: texts of operators.
-/
import Derived.Test.YtokabkhnidlcnabImplLex2
namespace Go.Proofs.Ytokabkhnidlcnab
set_option maxRecDepth 100000
open Go.RowKit Go.Maps

set_option maxHeartbeats 1000000 in
theorem hasText_any (bo bs n : Nat) (xs : List OpR) (t : ByteArray) (w : World) (hi : Idx w bo bs xs n) (hn : n = xs.length) (hk : Kinds xs) (ht : t.size ≤ maxLen) :
    Calls Try.prog 128 #[.agg #[.map (some bo), .map (some bs)], .string t] w fun e w' => RetB e (opT xs t) ∧ Below w.heap.size w w' := by
  subst hn
  obtain ⟨⟨D, hown, hD⟩, _, _⟩ := hi
  have H1 := hide (hD _ _ ht wfK1).1
  have H2 := hide (hD _ _ ht wfK2).1
  have H3 := hide (hD _ _ ht wfK3).1
  have HK := hide (opT_kinds (t := t) hk)
  have HO := hide hown
  clear hD hown hk
  go_enter Try.func128, Try.ntmps128
  go_wp2_with fail
  refine (has_any bo bs xs.length D t 1 _ ((unhide HO).alloc _) ht (by decide)).mono ?_
  rintro e w1 ⟨rfl, hb1⟩
  have bel1 : Below w.heap.size w w1 := (below1 _ _).trans (hb1.mono (by simp))
  have z1 : w.heap.size < w1.heap.size := by have := hb1.size; simp at this; omega
  have c0 : w1.cell? ⟨w.heap.size, 0, none⟩ = some (.map (some bo)) := by rw [hb1.cell (p := ⟨w.heap.size, 0, none⟩) (by simp)]; simp [go_sem]
  have c1 : w1.cell? ⟨w.heap.size, 1, none⟩ = some (.map (some bs)) := by rw [hb1.cell (p := ⟨w.heap.size, 1, none⟩) (by simp)]; simp [go_sem]
  have HO1 := hide (((unhide HO).alloc (.cells #[.map (some bo), .map (some bs)] 85)).kept (w' := w1) (row := none) ⟨hb1.os, hb1.tape, hb1.output, hb1.size, fun i hi _ => hb1.block i hi⟩ (by simp))
  clear HO hb1
  cases h1 : Maps.has D (klO t 1)
  case true =>
    have G1 := hide h1
    go_wp2_with fail
    go_ret
    exact ⟨⟨true, rfl, ⟨fun _ => (unhide HK).2 (Or.inl ((unhide H1).1 (unhide G1))), fun _ => rfl⟩⟩, bel1⟩
  have G1 := hide h1
  go_wp2_with fail
  refine (has_any bo bs xs.length D t 2 _ (unhide HO1) ht (by decide)).mono ?_
  rintro e w2 ⟨rfl, hb2⟩
  have bel2 := bel1.trans (hb2.mono bel1.size)
  have d0 : w2.cell? ⟨w.heap.size, 0, none⟩ = some (.map (some bo)) := (hb2.cell (p := ⟨w.heap.size, 0, none⟩) z1).trans c0
  have d1 : w2.cell? ⟨w.heap.size, 1, none⟩ = some (.map (some bs)) := (hb2.cell (p := ⟨w.heap.size, 1, none⟩) z1).trans c1
  have HO2 := hide ((unhide HO1).kept (w' := w2) (row := none) ⟨hb2.os, hb2.tape, hb2.output, hb2.size, fun i hi _ => hb2.block i hi⟩ (by simp))
  clear HO1 hb2 c0 c1
  cases h2 : Maps.has D (klO t 2)
  case true =>
    have G2 := hide h2
    go_wp2_with fail
    go_ret
    exact ⟨⟨true, rfl, ⟨fun _ => (unhide HK).2 (Or.inr (Or.inl ((unhide H2).1 (unhide G2)))), fun _ => rfl⟩⟩, bel2⟩
  have G2 := hide h2
  go_wp2_with fail
  refine (has_any bo bs xs.length D t 3 _ (unhide HO2) ht (by decide)).mono ?_
  rintro e w3 ⟨rfl, hb3⟩
  have bel3 := bel2.trans (hb3.mono bel2.size)
  clear h1 h2
  go_wp2_with fail
  go_ret
  refine ⟨⟨_, rfl, ?_⟩, bel3⟩
  unfold Says
  rw [unhide HK, ← unhide H1, ← unhide H2, ← unhide H3, unhide G1, unhide G2]
  simp
end Go.Proofs.Ytokabkhnidlcnab
