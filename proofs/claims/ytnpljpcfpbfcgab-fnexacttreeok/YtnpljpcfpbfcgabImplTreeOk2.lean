/-
  Walks: the program's TreeOk.
-/
import Derived.Test.YtnpljpcfpbfcgabImplTreeOk
import Derived.Test.YtnpljpcfpbfcgabImplTree2
import Derived.Test.YtnpljpcfpbfcgabSpecTreeOk2
namespace Go.Proofs.Ytnpljpcfpbfcgab
set_option maxRecDepth 100000
set_option linter.unusedSimpArgs false
set_option linter.unusedVariables false
open Go.RowKit Go.Maps

theorem opKd_zero {k : Int} : (opKd k != 0) = decide (3 ≤ k ∧ k ≤ 5) := by
  unfold opKd
  split
  · rename_i h
    simp [h]
    omega
  · rename_i h
    simp
    omega

set_option maxHeartbeats 2000000 in
theorem knowsAll_any (bo bs bn offn cn : Nat) (xs : List OpR) (ns : List NodeR) (w : World) (hmn : ns.length ≤ 1048576) (hi : Idx w bo bs xs xs.length) (hc : IsCode xs 0) (hok : okTo xs xs.length) (hwn : OpsN w bn offn ns) (hsn : SizedN ns) (hBn : bn < w.heap.size) :
    Calls Try.prog 104 #[.agg #[.map (some bo), .map (some bs)], .agg #[.slice (some ⟨bn, offn, none⟩) ns.length cn]] w fun e w' => RetB e (Knows xs ns) ∧ Below w.heap.size w w' := by
  have HI := hide hi
  have HC := hide hc
  have HOK := hide hok
  have HWN := hide hwn
  have HZN := hide hsn
  have HCS := hide (show Cs [(w.heap.size, 0, .map (some bo)), (w.heap.size, 1, .map (some bs))] ((w.alloc (.cells #[.map (some bo), .map (some bs)] 85)).alloc (.cells #[.slice (some ⟨bn, offn, none⟩) ns.length cn] 58)) from fun p hp => by
    simp only [List.mem_cons, List.not_mem_nil, or_false] at hp
    rcases hp with rfl | rfl
    · simp [go_sem]
    · simp [go_sem])
  have bel0 : Below w.heap.size w ((w.alloc (.cells #[.map (some bo), .map (some bs)] 85)).alloc (.cells #[.slice (some ⟨bn, offn, none⟩) ns.length cn] 58)) := (below1 _ _).alloc (by simp) _
  clear hi hc hok hwn hsn
  go_enter Try.func104, Try.ntmps104
  go_wp2_with fail
  go_loopw [12] (fun iv wr => ∃ k : Nat, k ≤ ns.length ∧ iv = .int .i64 (k : Int) ∧ Hid (∀ i, i < k → isOpN (atN ns i) → fnd xs (atN ns i).t ((atN ns i).k - 2) ≠ none) ∧ Hid (Cs [(w.heap.size, 0, .map (some bo)), (w.heap.size, 1, .map (some bs))] wr) ∧ Below w.heap.size w wr) (fun iv _ => ns.length - (intOf iv).toNat)
  case atStart => exact ⟨0, Nat.zero_le _, rfl, hide (fun i hi => absurd hi (Nat.not_lt_zero i)), HCS, bel0⟩
  case round =>
    clear HCS bel0
    obtain ⟨k, hk, rfl, hkn, hcs, hbel⟩ := hrel
    have c0 := (unhide hcs) (w.heap.size, 0, .map (some bo)) (by simp)
    have c1 := (unhide hcs) (w.heap.size, 1, .map (some bs)) (by simp)
    simp only at c0 c1
    by_cases hlt : k < ns.length
    · have hltI : (k : Int) < (ns.length : Int) := by omega
      obtain ⟨a0, a1, a2, a3⟩ := ((unhide HWN) k hlt).below hbel hBn
      have HC1 := hide ((unhide hcs).below (below1 wr (.cells #[.int .i64 (atN ns k).k, .string (atN ns k).t, .int .i64 (atN ns k).a, .int .i64 (atN ns k).b] 115)))
      have d0 := (unhide HC1) (w.heap.size, 0, .map (some bo)) (by simp)
      have d1 := (unhide HC1) (w.heap.size, 1, .map (some bs)) (by simp)
      simp only at d0 d1
      have bel1 : Below w.heap.size w (wr.alloc (.cells #[.int .i64 (atN ns k).k, .string (atN ns k).t, .int .i64 (atN ns k).a, .int .i64 (atN ns k).b] 115)) := hbel.alloc hbel.size _
      go_wp2_with fail
      refine (opOf_any bo bs xs (atN ns k) _ ((unhide HI).kept bel1) (unhide HC) (unhide HOK) ((unhide HZN) k hlt)).mono ?_
      rintro e w3 ⟨⟨p, v, rfl, hp⟩, hb3⟩
      have HP := hide hp
      have HC3 := hide (((unhide HC1).below hb3).below (below1 w3 (.cells #[.string p.s, .int .i64 p.k, .int .i64 p.l, .int .i64 p.sd] 70)))
      have n0 : w3.cell? ⟨wr.heap.size, 0, none⟩ = some (.int .i64 (atN ns k).k) := (hb3.cell (p := ⟨wr.heap.size, 0, none⟩) (by simp)).trans (by simp [go_sem])
      have z3 : wr.heap.size < w3.heap.size := by have := hb3.size; simp at this; omega
      have n0' : (w3.alloc (.cells #[.string p.s, .int .i64 p.k, .int .i64 p.l, .int .i64 p.sd] 70)).cell? ⟨wr.heap.size, 0, none⟩ = some (.int .i64 (atN ns k).k) := ((below1 _ _).cell (p := ⟨wr.heap.size, 0, none⟩) z3).trans n0
      have bel3 : Below w.heap.size w (w3.alloc (.cells #[.string p.s, .int .i64 p.k, .int .i64 p.l, .int .i64 p.sd] 70)) := (bel1.trans (hb3.mono bel1.size)).alloc (bel1.trans (hb3.mono bel1.size)).size _
      clear hp hb3 c0 c1 d0 d1
      cases v
      · by_cases ho : isOpN (atN ns k)
        · have HF := hide (show fnd xs (atN ns k).t ((atN ns k).k - 2) = none by
            rcases unhide HP with ⟨j, _, _, h, _⟩ | ⟨h, _⟩
            · cases h
            · exact h ho)
          have HOP := hide ho
          have hz : (opKd (atN ns k).k != 0) = true := by rw [opKd_zero]; exact decide_eq_true ho
          clear ho
          go_wp2_with (go_at_call 132; refine (opKind_any _ _).mono ?_; rintro e w' ⟨rfl, hx⟩; obtain rfl := hx.symm)
          go_ret
          exact ⟨⟨_, rfl, says_false (fun h => h k hlt (unhide HOP) (unhide HF))⟩, bel3⟩
        · have HOP := hide ho
          have hz : (opKd (atN ns k).k != 0) = false := by rw [opKd_zero]; exact decide_eq_false ho
          clear ho
          go_wp2_with (go_at_call 132; refine (opKind_any _ _).mono ?_; rintro e w' ⟨rfl, hx⟩; obtain rfl := hx.symm)
          refine ⟨⟨k + 1, by omega, by go_num, hide (fun i hi hop => ?_), HC3, bel3⟩, by simp [intOf]; omega⟩
          by_cases e : i = k
          · subst e; exact absurd hop (unhide HOP)
          · exact (unhide hkn) i (by omega) hop
      · have HF := hide (show fnd xs (atN ns k).t ((atN ns k).k - 2) ≠ none by
          rcases unhide HP with ⟨j, _, h, _, _⟩ | ⟨_, h⟩
          · rw [h]; simp
          · cases h)
        go_wp2_with fail
        refine ⟨⟨k + 1, by omega, by go_num, hide (fun i hi hop => ?_), HC3, bel3⟩, by simp [intOf]; omega⟩
        by_cases e : i = k
        · subst e; exact unhide HF
        · exact (unhide hkn) i (by omega) hop
    · have hkx : k = ns.length := by omega
      go_wp2_with fail
      go_ret
      exact ⟨⟨_, rfl, says_true (fun i hi hop => (unhide hkn) i (by omega) hop)⟩, hbel⟩
end Go.Proofs.Ytnpljpcfpbfcgab
