import Derived.Test.YtfboipappaonhaaGreatU18
import Derived.Test.YtfboipappaonhaaGreatU39
import Derived.Test.YtfboipappaonhaaGreatU40

/-
  Walks: the program's TreeOk.
-/
namespace Go.Proofs.YtfboipappaonhaaGreat
set_option maxRecDepth 100000
set_option linter.unusedSimpArgs false
set_option linter.unusedVariables false
open Go.RowKit Go.Maps

theorem opKd_zero {k : Int} : (opKd k != 0) = decide (3 ≤ k ∧ k ≤ 5) := by
  unfold opKd
  split
  · rename_i h
    simp [h]
    omega
  · rename_i h
    simp
    omega

set_option maxHeartbeats 2000000 in
theorem knowsAll_any (bo bs bn offn cn : Nat) (xs : List OpR) (ns : List NodeR) (w : World) (hmn : ns.length ≤ 1048576) (hi : Idx w bo bs xs xs.length) (hc : IsCode xs 0) (hok : okTo xs xs.length) (hwn : OpsN w bn offn ns) (hsn : SizedN ns) (hBn : bn < w.heap.size) :
    Calls Tryz.prog 87 #[.agg #[.map (some bo), .map (some bs)], .agg #[.slice (some ⟨bn, offn, none⟩) ns.length cn]] w fun e w' => RetB e (Knows xs ns) ∧ Below w.heap.size w w' := by
  have HI := hide hi
  have HC := hide hc
  have HOK := hide hok
  have HWN := hide hwn
  have HZN := hide hsn
  have HCS := hide (show Cs [(w.heap.size, 0, .map (some bo)), (w.heap.size, 1, .map (some bs))] ((w.alloc (.cells #[.map (some bo), .map (some bs)] 69)).alloc (.cells #[.slice (some ⟨bn, offn, none⟩) ns.length cn] 28)) from fun p hp => by
    simp only [List.mem_cons, List.not_mem_nil, or_false] at hp
    rcases hp with rfl | rfl
    · simp [go_sem]
    · simp [go_sem])
  have bel0 : Below w.heap.size w ((w.alloc (.cells #[.map (some bo), .map (some bs)] 69)).alloc (.cells #[.slice (some ⟨bn, offn, none⟩) ns.length cn] 28)) := (below1 _ _).alloc (by simp) _
  clear hi hc hok hwn hsn
  go_enter Tryz.func87, Tryz.ntmps87
  go_wp2_with fail
  go_loopw [12] (fun iv wr => ∃ k : Nat, k ≤ ns.length ∧ iv = .int .i64 (k : Int) ∧ Hid (∀ i, i < k → isOpN (atN ns i) → fnd xs (atN ns i).t ((atN ns i).k - 2) ≠ none) ∧ Hid (Cs [(w.heap.size, 0, .map (some bo)), (w.heap.size, 1, .map (some bs))] wr) ∧ Below w.heap.size w wr) (fun iv _ => ns.length - (intOf iv).toNat)
  case atStart => exact ⟨0, Nat.zero_le _, rfl, hide (fun i hi => absurd hi (Nat.not_lt_zero i)), HCS, bel0⟩
  case round =>
    clear HCS bel0
    obtain ⟨k, hk, rfl, hkn, hcs, hbel⟩ := hrel
    have c0 := (unhide hcs) (w.heap.size, 0, .map (some bo)) (by simp)
    have c1 := (unhide hcs) (w.heap.size, 1, .map (some bs)) (by simp)
    simp only at c0 c1
    by_cases hlt : k < ns.length
    · have hltI : (k : Int) < (ns.length : Int) := by omega
      obtain ⟨a0, a1, a2, a3⟩ := ((unhide HWN) k hlt).below hbel hBn
      have HC1 := hide ((unhide hcs).below (below1 wr (.cells #[.int .i64 (atN ns k).k, .string (atN ns k).t, .int .i64 (atN ns k).a, .int .i64 (atN ns k).b] 81)))
      have d0 := (unhide HC1) (w.heap.size, 0, .map (some bo)) (by simp)
      have d1 := (unhide HC1) (w.heap.size, 1, .map (some bs)) (by simp)
      simp only at d0 d1
      have bel1 : Below w.heap.size w (wr.alloc (.cells #[.int .i64 (atN ns k).k, .string (atN ns k).t, .int .i64 (atN ns k).a, .int .i64 (atN ns k).b] 81)) := hbel.alloc hbel.size _
      go_wp2_with fail
      refine (opOf_any bo bs xs (atN ns k) _ ((unhide HI).kept bel1) (unhide HC) (unhide HOK) ((unhide HZN) k hlt)).mono ?_
      rintro e w3 ⟨⟨p, v, rfl, hp⟩, hb3⟩
      have HP := hide hp
      have HC3 := hide (((unhide HC1).below hb3).below (below1 w3 (.cells #[.string p.s, .int .i64 p.k, .int .i64 p.l, .int .i64 p.sd] 123)))
      have n0 : w3.cell? ⟨wr.heap.size, 0, none⟩ = some (.int .i64 (atN ns k).k) := (hb3.cell (p := ⟨wr.heap.size, 0, none⟩) (by simp)).trans (by simp [go_sem])
      have z3 : wr.heap.size < w3.heap.size := by have := hb3.size; simp at this; omega
      have n0' : (w3.alloc (.cells #[.string p.s, .int .i64 p.k, .int .i64 p.l, .int .i64 p.sd] 123)).cell? ⟨wr.heap.size, 0, none⟩ = some (.int .i64 (atN ns k).k) := ((below1 _ _).cell (p := ⟨wr.heap.size, 0, none⟩) z3).trans n0
      have bel3 : Below w.heap.size w (w3.alloc (.cells #[.string p.s, .int .i64 p.k, .int .i64 p.l, .int .i64 p.sd] 123)) := (bel1.trans (hb3.mono bel1.size)).alloc (bel1.trans (hb3.mono bel1.size)).size _
      clear hp hb3 c0 c1 d0 d1
      cases v
      · by_cases ho : isOpN (atN ns k)
        · have HF := hide (show fnd xs (atN ns k).t ((atN ns k).k - 2) = none by
            rcases unhide HP with ⟨j, _, _, h, _⟩ | ⟨h, _⟩
            · cases h
            · exact h ho)
          have HOP := hide ho
          have hz : (opKd (atN ns k).k != 0) = true := by rw [opKd_zero]; exact decide_eq_true ho
          clear ho
          go_wp2_with (go_at_call 137; refine (opKind_any _ _).mono ?_; rintro e w' ⟨rfl, hx⟩; obtain rfl := hx.symm)
          go_ret
          exact ⟨⟨_, rfl, says_false (fun h => h k hlt (unhide HOP) (unhide HF))⟩, bel3⟩
        · have HOP := hide ho
          have hz : (opKd (atN ns k).k != 0) = false := by rw [opKd_zero]; exact decide_eq_false ho
          clear ho
          go_wp2_with (go_at_call 137; refine (opKind_any _ _).mono ?_; rintro e w' ⟨rfl, hx⟩; obtain rfl := hx.symm)
          refine ⟨⟨k + 1, by omega, by go_num, hide (fun i hi hop => ?_), HC3, bel3⟩, by simp [intOf]; omega⟩
          by_cases e : i = k
          · subst e; exact absurd hop (unhide HOP)
          · exact (unhide hkn) i (by omega) hop
      · have HF := hide (show fnd xs (atN ns k).t ((atN ns k).k - 2) ≠ none by
          rcases unhide HP with ⟨j, _, h, _, _⟩ | ⟨_, h⟩
          · rw [h]; simp
          · cases h)
        go_wp2_with fail
        refine ⟨⟨k + 1, by omega, by go_num, hide (fun i hi hop => ?_), HC3, bel3⟩, by simp [intOf]; omega⟩
        by_cases e : i = k
        · subst e; exact unhide HF
        · exact (unhide hkn) i (by omega) hop
    · have hkx : k = ns.length := by omega
      go_wp2_with fail
      go_ret
      exact ⟨⟨_, rfl, says_true (fun i hi hop => (unhide hkn) i (by omega) hop)⟩, hbel⟩
end Go.Proofs.YtfboipappaonhaaGreat

/-
  Walk: the level of a node (levelOf).
-/
namespace Go.Proofs.YtfboipappaonhaaGreat
set_option maxRecDepth 100000
set_option linter.unusedSimpArgs false
set_option linter.unusedVariables false
open Go.RowKit Go.Maps

set_option maxHeartbeats 1000000 in
theorem levelOf_any (bo bs : Nat) (xs : List OpR) (o : NodeR) (w : World) (hi : Idx w bo bs xs xs.length) (hc : IsCode xs 0) (hok : okTo xs xs.length) (ht : o.t.size ≤ maxLen) :
    Calls Tryz.prog 89 #[.agg #[.map (some bo), .map (some bs)], .agg #[.int .i64 o.k, .string o.t, .int .i64 o.a, .int .i64 o.b]] w fun e w' => e = .returned (.int .i64 (levN xs o)) ∧ Below w.heap.size w w' := by
  have HI := hide (fun o1 o2 => (hi.kept (below1 w o1)).kept (below1 _ o2))
  have HC := hide hc
  have HOK := hide hok
  clear hi hc hok
  go_enter Tryz.func89, Tryz.ntmps89
  go_wp2_with fail
  refine (opOf_any bo bs xs o _ ((unhide HI) _ _) (unhide HC) (unhide HOK) ht).mono ?_
  rintro e w1 ⟨⟨p, v, rfl, hp⟩, hb1⟩
  have HL := hide (found_lev hp)
  have bel1 : Below w.heap.size w w1 := ((below1 _ _).alloc (by simp) _).trans (hb1.mono (by simp; omega))
  clear hp hb1
  cases v
  · go_wp2_with fail
    go_ret
    exact ⟨ret_int (by rw [unhide HL]; simp), bel1.alloc bel1.size _⟩
  · go_wp2_with fail
    go_ret
    exact ⟨ret_int (by rw [unhide HL]; simp), bel1.alloc bel1.size _⟩
end Go.Proofs.YtfboipappaonhaaGreat

/-
  Walks: the program's TreeOk, the whole of it.
-/
namespace Go.Proofs.YtfboipappaonhaaGreat
set_option maxRecDepth 100000
set_option linter.unusedSimpArgs false
set_option linter.unusedVariables false
open Go.RowKit Go.Maps

theorem levN_nonneg {xs : List OpR} (hok : okTo xs xs.length) (o : NodeR) : 0 ≤ levN xs o := by
  unfold levN
  split
  · cases h : fnd xs o.t (o.k - 2) with
    | none => simp
    | some j =>
      have := (ok_shape _ _ _ _ (hok j (fnd_some h).1)).1
      simp only
      omega
  · omega

theorem hole_one {xs : List OpR} {o : NodeR} {j : Nat} (hf : fnd xs o.t (o.k - 2) = some j) (ho : isOpN o) (hk : kids o.k = 1) : holeO xs j true = 0 := by
  have hkj := (fnd_some hf).2.2
  have hk4 : o.k ≠ 4 := fun e => by rw [e] at hk; simp [kids] at hk
  unfold holeO holeI
  split
  · rfl
  · rw [if_neg (by omega), if_pos rfl]

set_option maxHeartbeats 1500000 in
theorem admits_any (bo bs bn offn cn : Nat) (xs : List OpR) (ns : List NodeR) (w : World) (hmn : ns.length ≤ 1048576) (hi : Idx w bo bs xs xs.length) (hc : IsCode xs 0) (hok : okTo xs xs.length) (hsz : Sized xs) (hwn : OpsN w bn offn ns) (hsn : SizedN ns) (hBn : bn < w.heap.size) (hord : InOrd ns) :
    Calls Tryz.prog 45 #[.agg #[.map (some bo), .map (some bs)], .agg #[.slice (some ⟨bn, offn, none⟩) ns.length cn]] w fun e w' => RetB e (∀ i, i < ns.length → FitN xs ns i) ∧ Below w.heap.size w w' := by
  have HI := hide hi
  have HC := hide hc
  have HOK := hide hok
  have HWN := hide hwn
  have HZN := hide hsn
  have HZ := hide hsz
  have HORD := hide hord
  have HCS := hide (show Cs [(w.heap.size, 0, .map (some bo)), (w.heap.size, 1, .map (some bs)), (w.heap.size + 1, 0, .slice (some ⟨bn, offn, none⟩) ns.length cn)] ((w.alloc (.cells #[.map (some bo), .map (some bs)] 69)).alloc (.cells #[.slice (some ⟨bn, offn, none⟩) ns.length cn] 28)) from fun p hp => by
    simp only [List.mem_cons, List.not_mem_nil, or_false] at hp
    rcases hp with rfl | rfl | rfl
    · simp [go_sem]
    · simp [go_sem]
    · simp [go_sem])
  have bel0 : Below w.heap.size w ((w.alloc (.cells #[.map (some bo), .map (some bs)] 69)).alloc (.cells #[.slice (some ⟨bn, offn, none⟩) ns.length cn] 28)) := (below1 _ _).alloc (by simp) _
  clear hi hc hok hwn hsn hsz hord
  go_enter Tryz.func45, Tryz.ntmps45
  go_wp2_with fail
  go_loopw [14] (fun iv wr => ∃ k : Nat, k ≤ ns.length ∧ iv = .int .i64 (k : Int) ∧ Hid (∀ i, i < k → FitN xs ns i) ∧ Hid (Cs [(w.heap.size, 0, .map (some bo)), (w.heap.size, 1, .map (some bs)), (w.heap.size + 1, 0, .slice (some ⟨bn, offn, none⟩) ns.length cn)] wr) ∧ Below w.heap.size w wr) (fun iv _ => ns.length - (intOf iv).toNat)
  case atStart => exact ⟨0, Nat.zero_le _, rfl, hide (fun i hi => absurd hi (Nat.not_lt_zero i)), HCS, bel0⟩
  case round =>
    clear HCS bel0
    obtain ⟨k, hk, rfl, hkn, hcs, hbel⟩ := hrel
    have c0 := (unhide hcs) (w.heap.size, 0, .map (some bo)) (by simp)
    have c1 := (unhide hcs) (w.heap.size, 1, .map (some bs)) (by simp)
    simp only at c0 c1
    by_cases hlt : k < ns.length
    · have hltI : (k : Int) < (ns.length : Int) := by omega
      obtain ⟨a0, a1, a2, a3⟩ := ((unhide HWN) k hlt).below hbel hBn
      have HND := hide (show ∀ i, i < k + 1 → (i = k → FitN xs ns k) → FitN xs ns i from fun i hi h => by
        by_cases e : i = k
        · subst e; exact h rfl
        · exact (unhide hkn) i (by omega))
      by_cases hkids : kids (atN ns k).k = 0
      · have HNOP := hide (show ¬ isOpN (atN ns k) from fun h => by
          unfold isOpN at h
          unfold kids at hkids
          split at hkids
          · omega
          · split at hkids <;> omega)
        have HC1 := hide ((unhide hcs).below (below1 wr (.cells #[.int .i64 (atN ns k).k, .string (atN ns k).t, .int .i64 (atN ns k).a, .int .i64 (atN ns k).b] 81)))
        have d0 := (unhide HC1) (w.heap.size, 0, .map (some bo)) (by simp)
        have d1 := (unhide HC1) (w.heap.size, 1, .map (some bs)) (by simp)
        simp only at d0 d1
        have bel1 : Below w.heap.size w (wr.alloc (.cells #[.int .i64 (atN ns k).k, .string (atN ns k).t, .int .i64 (atN ns k).a, .int .i64 (atN ns k).b] 81)) := hbel.alloc hbel.size _
        go_wp2_with fail
        refine (opOf_any bo bs xs (atN ns k) _ ((unhide HI).kept bel1) (unhide HC) (unhide HOK) ((unhide HZN) k hlt)).mono ?_
        rintro e w3 ⟨⟨p, v, rfl, hp⟩, hb3⟩
        obtain rfl : v = false := by
          rcases hp with ⟨j, h, _⟩ | ⟨_, h⟩
          · exact absurd h (unhide HNOP)
          · exact h
        have HC3 := hide (((unhide HC1).below hb3).below (below1 w3 (.cells #[.string p.s, .int .i64 p.k, .int .i64 p.l, .int .i64 p.sd] 123)))
        have bel3 : Below w.heap.size w (w3.alloc (.cells #[.string p.s, .int .i64 p.k, .int .i64 p.l, .int .i64 p.sd] 123)) := (bel1.trans (hb3.mono bel1.size)).alloc (bel1.trans (hb3.mono bel1.size)).size _
        clear hp hb3 c0 c1 d0 d1
        go_wp2_with fail
        exact ⟨⟨k + 1, by omega, by go_num, hide (fun i hi => (unhide HND) i hi (fun _ => FitN_not (unhide HNOP))), HC3, bel3⟩, by simp [intOf]; omega⟩
      · obtain ⟨ka, kb, hka, hkb, hkal, hkbl⟩ : ∃ ka kb : Nat, (atN ns k).a = (ka : Int) ∧ (atN ns k).b = (kb : Int) ∧ ka < ns.length ∧ kb < ns.length := by
          rcases (unhide HORD).kidsAt hlt with ⟨h0, _⟩ | ⟨h1, h2, ha, hb⟩ | ⟨h1, h2, hb, ha0, ha1⟩
          · exact absurd h0 hkids
          · exact ⟨k - 1, 0, by omega, by omega, by omega, by omega⟩
          · exact ⟨(atN ns k).a.toNat, k - 1, by omega, by omega, by omega, by omega⟩
        have HAB := hide (And.intro hka hkb)
        rw [hka] at a2
        rw [hkb] at a3
        have hkaI : (ka : Int) < (ns.length : Int) := by omega
        have hkbI : (kb : Int) < (ns.length : Int) := by omega
        have HC1 := hide ((unhide hcs).below (below1 wr (.cells #[.int .i64 (atN ns k).k, .string (atN ns k).t, .int .i64 (ka : Int), .int .i64 (kb : Int)] 81)))
        have d0 := (unhide HC1) (w.heap.size, 0, .map (some bo)) (by simp)
        have d1 := (unhide HC1) (w.heap.size, 1, .map (some bs)) (by simp)
        simp only at d0 d1
        have bel1 : Below w.heap.size w (wr.alloc (.cells #[.int .i64 (atN ns k).k, .string (atN ns k).t, .int .i64 (ka : Int), .int .i64 (kb : Int)] 81)) := hbel.alloc hbel.size _
        clear hkids hka hkb
        go_wp2_with fail
        refine (opOf_any bo bs xs ⟨(atN ns k).k, (atN ns k).t, (ka : Int), (kb : Int)⟩ _ ((unhide HI).kept bel1) (unhide HC) (unhide HOK) ((unhide HZN) k hlt)).mono ?_
        rintro e w3 ⟨⟨p, v, rfl, hp⟩, hb3⟩
        have HP := hide hp
        have HC3 := hide (((unhide HC1).below hb3).below (below1 w3 (.cells #[.string p.s, .int .i64 p.k, .int .i64 p.l, .int .i64 p.sd] 123)))
        have bel3 : Below w.heap.size w (w3.alloc (.cells #[.string p.s, .int .i64 p.k, .int .i64 p.l, .int .i64 p.sd] 123)) := (bel1.trans (hb3.mono bel1.size)).alloc (bel1.trans (hb3.mono bel1.size)).size _
        have m2 : w3.cell? ⟨wr.heap.size, 2, none⟩ = some (.int .i64 (ka : Int)) := (hb3.cell (p := ⟨wr.heap.size, 2, none⟩) (by simp)).trans (by simp [go_sem])
        have m3 : w3.cell? ⟨wr.heap.size, 3, none⟩ = some (.int .i64 (kb : Int)) := (hb3.cell (p := ⟨wr.heap.size, 3, none⟩) (by simp)).trans (by simp [go_sem])
        have z3 : wr.heap.size < w3.heap.size := by have := hb3.size; simp at this; omega
        clear hp hb3 c0 c1 d0 d1
        cases v
        · have HFN := hide (show FitN xs ns k from fun j ho hf => by
            rcases unhide HP with ⟨_, _, _, h, _⟩ | ⟨h, _⟩
            · cases h
            · have := h ho
              rw [hf] at this
              cases this)
          go_wp2_with fail
          exact ⟨⟨k + 1, by omega, by go_num, hide (fun i hi => (unhide HND) i hi (fun _ => unhide HFN)), HC3, bel3⟩, by simp [intOf]; omega⟩
        · obtain ⟨j, hop, hf, hpj⟩ : ∃ j, isOpN (atN ns k) ∧ fnd xs (atN ns k).t ((atN ns k).k - 2) = some j ∧ p = atO xs j := by
            rcases unhide HP with ⟨j, h1, h2, _, h4⟩ | ⟨_, h⟩
            · exact ⟨j, h1, h2, h4⟩
            · cases h
          subst hpj
          have hj := (fnd_some hf).1
          have HSJ := hide ((unhide HZ) j hj)
          have HTA := hide ((unhide HZN) ka hkal)
          have HTB := hide ((unhide HZN) kb hkbl)
          have HIF := hide (show FitN xs ns k ↔ holeO xs j false ≤ levN xs (atN ns ka) ∧ holeO xs j true ≤ levN xs (atN ns kb) by
            rw [FitN_iff hop hf, (unhide HAB).1, (unhide HAB).2]
            simp only [Int.toNat_natCast]
            constructor
            · rintro ⟨h1, h2 | h2⟩
              · refine ⟨h1, ?_⟩
                rw [hole_one hf hop h2]
                exact levN_nonneg (unhide HOK) _
              · exact ⟨h1, h2⟩
            · rintro ⟨h1, h2⟩; exact ⟨h1, Or.inr h2⟩)
          have HSC := hide (show Cs [(w.heap.size, 0, .map (some bo)), (w.heap.size, 1, .map (some bs)), (w.heap.size + 1, 0, .slice (some ⟨bn, offn, none⟩) ns.length cn), (wr.heap.size, 2, .int .i64 (ka : Int)), (wr.heap.size, 3, .int .i64 (kb : Int)), (w3.heap.size, 0, .string (atO xs j).s), (w3.heap.size, 1, .int .i64 (atO xs j).k), (w3.heap.size, 2, .int .i64 (atO xs j).l), (w3.heap.size, 3, .int .i64 (atO xs j).sd), (bn, offn + ka * 4, .int .i64 (atN ns ka).k), (bn, offn + ka * 4 + 1, .string (atN ns ka).t), (bn, offn + ka * 4 + 2, .int .i64 (atN ns ka).a), (bn, offn + ka * 4 + 3, .int .i64 (atN ns ka).b), (bn, offn + kb * 4, .int .i64 (atN ns kb).k), (bn, offn + kb * 4 + 1, .string (atN ns kb).t), (bn, offn + kb * 4 + 2, .int .i64 (atN ns kb).a), (bn, offn + kb * 4 + 3, .int .i64 (atN ns kb).b)] (w3.alloc (.cells #[.string (atO xs j).s, .int .i64 (atO xs j).k, .int .i64 (atO xs j).l, .int .i64 (atO xs j).sd] 123)).drew from fun q hq => by
            simp only [List.mem_cons, List.not_mem_nil, or_false] at hq
            have hold : Cs [(w.heap.size, 0, .map (some bo)), (w.heap.size, 1, .map (some bs)), (w.heap.size + 1, 0, .slice (some ⟨bn, offn, none⟩) ns.length cn)] (w3.alloc (.cells #[.string (atO xs j).s, .int .i64 (atO xs j).k, .int .i64 (atO xs j).l, .int .i64 (atO xs j).sd] 123)).drew := (unhide HC3).below (Below.refl _ _).drew
            have hna := ((unhide HWN) ka hkal).below bel3.drew hBn
            have hnb := ((unhide HWN) kb hkbl).below bel3.drew hBn
            rcases hq with rfl | rfl | rfl | rfl | rfl | rfl | rfl | rfl | rfl | rfl | rfl | rfl | rfl | rfl | rfl | rfl | rfl
            · exact hold _ (by simp)
            · exact hold _ (by simp)
            · exact hold _ (by simp)
            · exact ((below1 w3 (.cells #[.string (atO xs j).s, .int .i64 (atO xs j).k, .int .i64 (atO xs j).l, .int .i64 (atO xs j).sd] 123)).cell (p := ⟨wr.heap.size, 2, none⟩) z3).trans m2
            · exact ((below1 w3 (.cells #[.string (atO xs j).s, .int .i64 (atO xs j).k, .int .i64 (atO xs j).l, .int .i64 (atO xs j).sd] 123)).cell (p := ⟨wr.heap.size, 3, none⟩) z3).trans m3
            · exact (show (w3.alloc (.cells #[.string (atO xs j).s, .int .i64 (atO xs j).k, .int .i64 (atO xs j).l, .int .i64 (atO xs j).sd] 123)).cell? _ = _ by simp [go_sem])
            · exact (show (w3.alloc (.cells #[.string (atO xs j).s, .int .i64 (atO xs j).k, .int .i64 (atO xs j).l, .int .i64 (atO xs j).sd] 123)).cell? _ = _ by simp [go_sem])
            · exact (show (w3.alloc (.cells #[.string (atO xs j).s, .int .i64 (atO xs j).k, .int .i64 (atO xs j).l, .int .i64 (atO xs j).sd] 123)).cell? _ = _ by simp [go_sem])
            · exact (show (w3.alloc (.cells #[.string (atO xs j).s, .int .i64 (atO xs j).k, .int .i64 (atO xs j).l, .int .i64 (atO xs j).sd] 123)).cell? _ = _ by simp [go_sem])
            · exact hna.1
            · exact hna.2.1
            · exact hna.2.2.1
            · exact hna.2.2.2
            · exact hnb.1
            · exact hnb.2.1
            · exact hnb.2.2.1
            · exact hnb.2.2.2)
          have HBC := hide bel3.drew
          have HHF := hide (show holeO xs j false = holeI (atO xs j).s (atO xs j).k (atO xs j).l (atO xs j).sd false from rfl)
          have HHT := hide (show holeO xs j true = holeI (atO xs j).s (atO xs j).k (atO xs j).l (atO xs j).sd true from rfl)
          rw [unhide HHF, unhide HHT] at HIF
          clear HHF HHT HP HC3 bel3 bel1 HC1 hop hf hj m2 m3 hbel hcs
          generalize atN ns ka = na at HIF HSC HTA
          generalize atN ns kb = nb at HIF HSC HTB
          by_cases hA : levN xs na < holeI (atO xs j).s (atO xs j).k (atO xs j).l (atO xs j).sd false
          · have HN := hide (show ¬ (∀ i, i < ns.length → FitN xs ns i) from fun h => by have := ((unhide HIF).1 (h k hlt)).1; omega)
            clear HIF
            go_wp2_with fail
            go_region_held (fun w' => w'.cell? ⟨w.heap.size, 0, none⟩ = some (.map (some bo)) ∧ w'.cell? ⟨w.heap.size, 1, none⟩ = some (.map (some bs)) ∧ w'.cell? ⟨w.heap.size + 1, 0, none⟩ = some (.slice (some ⟨bn, offn, none⟩) ns.length cn) ∧ w'.cell? ⟨wr.heap.size, 2, none⟩ = some (.int .i64 (ka : Int)) ∧ w'.cell? ⟨wr.heap.size, 3, none⟩ = some (.int .i64 (kb : Int)) ∧ w'.cell? ⟨bn, offn + ka * 4, none⟩ = some (.int .i64 na.k) ∧ w'.cell? ⟨bn, offn + ka * 4 + 1, none⟩ = some (.string na.t) ∧ w'.cell? ⟨bn, offn + ka * 4 + 2, none⟩ = some (.int .i64 na.a) ∧ w'.cell? ⟨bn, offn + ka * 4 + 3, none⟩ = some (.int .i64 na.b) ∧ w'.cell? ⟨bn, offn + kb * 4, none⟩ = some (.int .i64 nb.k) ∧ w'.cell? ⟨bn, offn + kb * 4 + 1, none⟩ = some (.string nb.t) ∧ w'.cell? ⟨bn, offn + kb * 4 + 2, none⟩ = some (.int .i64 nb.a) ∧ w'.cell? ⟨bn, offn + kb * 4 + 3, none⟩ = some (.int .i64 nb.b)) (first | (go_keep; done) | exact ⟨(unhide HSC) (w.heap.size, 0, .map (some bo)) (by simp), (unhide HSC) (w.heap.size, 1, .map (some bs)) (by simp), (unhide HSC) (w.heap.size + 1, 0, .slice (some ⟨bn, offn, none⟩) ns.length cn) (by simp), (unhide HSC) (wr.heap.size, 2, .int .i64 (ka : Int)) (by simp), (unhide HSC) (wr.heap.size, 3, .int .i64 (kb : Int)) (by simp), (unhide HSC) (bn, offn + ka * 4, .int .i64 na.k) (by simp), (unhide HSC) (bn, offn + ka * 4 + 1, .string na.t) (by simp), (unhide HSC) (bn, offn + ka * 4 + 2, .int .i64 na.a) (by simp), (unhide HSC) (bn, offn + ka * 4 + 3, .int .i64 na.b) (by simp), (unhide HSC) (bn, offn + kb * 4, .int .i64 nb.k) (by simp), (unhide HSC) (bn, offn + kb * 4 + 1, .string nb.t) (by simp), (unhide HSC) (bn, offn + kb * 4 + 2, .int .i64 nb.a) (by simp), (unhide HSC) (bn, offn + kb * 4 + 3, .int .i64 nb.b) (by simp)⟩)
              (first | (go_at_call 89; have HX := levelOf_any bo bs xs na _ ((unhide HI).kept (unhide HBC)) (unhide HC) (unhide HOK) (unhide HTA); with_reducible refine HX.mono ?_; clear HX; rintro e w5 ⟨rfl, hb5⟩; replace HSC := hide ((unhide HSC).below hb5); replace HBC := hide ((unhide HBC).trans (hb5.mono (unhide HBC).size)); clear hb5) | (go_at_call 89; have HX := levelOf_any bo bs xs nb _ ((unhide HI).kept (unhide HBC)) (unhide HC) (unhide HOK) (unhide HTB); with_reducible refine HX.mono ?_; clear HX; rintro e w5 ⟨rfl, hb5⟩; replace HSC := hide ((unhide HSC).below hb5); replace HBC := hide ((unhide HBC).trans (hb5.mono (unhide HBC).size)); clear hb5))
            have o0 := (unhide HSC) (w3.heap.size, 0, .string (atO xs j).s) (by simp)
            have o1 := (unhide HSC) (w3.heap.size, 1, .int .i64 (atO xs j).k) (by simp)
            have o2 := (unhide HSC) (w3.heap.size, 2, .int .i64 (atO xs j).l) (by simp)
            have o3 := (unhide HSC) (w3.heap.size, 3, .int .i64 (atO xs j).sd) (by simp)
            simp only at o0 o1 o2 o3
            go_wp2_with (go_at_call 90; with_reducible refine (implHole_any (atO xs j).s (atO xs j).k (atO xs j).l (atO xs j).sd false _ (unhide HSJ)).mono ?_; rintro e w6 ⟨rfl, hb6⟩; replace HSC := hide ((unhide HSC).below hb6); replace HBC := hide ((unhide HBC).trans (hb6.mono (unhide HBC).size)); clear hb6)
            go_ret
            exact ⟨⟨_, rfl, says_false (unhide HN)⟩, unhide HBC⟩
          · by_cases hBt : levN xs nb < holeI (atO xs j).s (atO xs j).k (atO xs j).l (atO xs j).sd true
            · have HN := hide (show ¬ (∀ i, i < ns.length → FitN xs ns i) from fun h => by have := ((unhide HIF).1 (h k hlt)).2; omega)
              clear HIF
              go_wp2_with fail
              go_region_held (fun w' => w'.cell? ⟨w.heap.size, 0, none⟩ = some (.map (some bo)) ∧ w'.cell? ⟨w.heap.size, 1, none⟩ = some (.map (some bs)) ∧ w'.cell? ⟨w.heap.size + 1, 0, none⟩ = some (.slice (some ⟨bn, offn, none⟩) ns.length cn) ∧ w'.cell? ⟨wr.heap.size, 2, none⟩ = some (.int .i64 (ka : Int)) ∧ w'.cell? ⟨wr.heap.size, 3, none⟩ = some (.int .i64 (kb : Int)) ∧ w'.cell? ⟨bn, offn + ka * 4, none⟩ = some (.int .i64 na.k) ∧ w'.cell? ⟨bn, offn + ka * 4 + 1, none⟩ = some (.string na.t) ∧ w'.cell? ⟨bn, offn + ka * 4 + 2, none⟩ = some (.int .i64 na.a) ∧ w'.cell? ⟨bn, offn + ka * 4 + 3, none⟩ = some (.int .i64 na.b) ∧ w'.cell? ⟨bn, offn + kb * 4, none⟩ = some (.int .i64 nb.k) ∧ w'.cell? ⟨bn, offn + kb * 4 + 1, none⟩ = some (.string nb.t) ∧ w'.cell? ⟨bn, offn + kb * 4 + 2, none⟩ = some (.int .i64 nb.a) ∧ w'.cell? ⟨bn, offn + kb * 4 + 3, none⟩ = some (.int .i64 nb.b)) (first | (go_keep; done) | exact ⟨(unhide HSC) (w.heap.size, 0, .map (some bo)) (by simp), (unhide HSC) (w.heap.size, 1, .map (some bs)) (by simp), (unhide HSC) (w.heap.size + 1, 0, .slice (some ⟨bn, offn, none⟩) ns.length cn) (by simp), (unhide HSC) (wr.heap.size, 2, .int .i64 (ka : Int)) (by simp), (unhide HSC) (wr.heap.size, 3, .int .i64 (kb : Int)) (by simp), (unhide HSC) (bn, offn + ka * 4, .int .i64 na.k) (by simp), (unhide HSC) (bn, offn + ka * 4 + 1, .string na.t) (by simp), (unhide HSC) (bn, offn + ka * 4 + 2, .int .i64 na.a) (by simp), (unhide HSC) (bn, offn + ka * 4 + 3, .int .i64 na.b) (by simp), (unhide HSC) (bn, offn + kb * 4, .int .i64 nb.k) (by simp), (unhide HSC) (bn, offn + kb * 4 + 1, .string nb.t) (by simp), (unhide HSC) (bn, offn + kb * 4 + 2, .int .i64 nb.a) (by simp), (unhide HSC) (bn, offn + kb * 4 + 3, .int .i64 nb.b) (by simp)⟩)
                (first | (go_at_call 89; have HX := levelOf_any bo bs xs na _ ((unhide HI).kept (unhide HBC)) (unhide HC) (unhide HOK) (unhide HTA); with_reducible refine HX.mono ?_; clear HX; rintro e w5 ⟨rfl, hb5⟩; replace HSC := hide ((unhide HSC).below hb5); replace HBC := hide ((unhide HBC).trans (hb5.mono (unhide HBC).size)); clear hb5) | (go_at_call 89; have HX := levelOf_any bo bs xs nb _ ((unhide HI).kept (unhide HBC)) (unhide HC) (unhide HOK) (unhide HTB); with_reducible refine HX.mono ?_; clear HX; rintro e w5 ⟨rfl, hb5⟩; replace HSC := hide ((unhide HSC).below hb5); replace HBC := hide ((unhide HBC).trans (hb5.mono (unhide HBC).size)); clear hb5))
              have o0 := (unhide HSC) (w3.heap.size, 0, .string (atO xs j).s) (by simp)
              have o1 := (unhide HSC) (w3.heap.size, 1, .int .i64 (atO xs j).k) (by simp)
              have o2 := (unhide HSC) (w3.heap.size, 2, .int .i64 (atO xs j).l) (by simp)
              have o3 := (unhide HSC) (w3.heap.size, 3, .int .i64 (atO xs j).sd) (by simp)
              simp only at o0 o1 o2 o3
              go_wp2_with fail
              refine (implHole_any (atO xs j).s (atO xs j).k (atO xs j).l (atO xs j).sd false _ (unhide HSJ)).mono ?_
              rintro e w6 ⟨rfl, hb6⟩
              replace HSC := hide ((unhide HSC).below hb6)
              replace HBC := hide ((unhide HBC).trans (hb6.mono (unhide HBC).size))
              clear hb6 o0 o1 o2 o3
              have r0 := (unhide HSC) (w3.heap.size, 0, .string (atO xs j).s) (by simp)
              have r1 := (unhide HSC) (w3.heap.size, 1, .int .i64 (atO xs j).k) (by simp)
              have r2 := (unhide HSC) (w3.heap.size, 2, .int .i64 (atO xs j).l) (by simp)
              have r3 := (unhide HSC) (w3.heap.size, 3, .int .i64 (atO xs j).sd) (by simp)
              simp only at r0 r1 r2 r3
              go_wp2_with fail
              refine (implHole_any (atO xs j).s (atO xs j).k (atO xs j).l (atO xs j).sd true _ (unhide HSJ)).mono ?_
              rintro e w7 ⟨rfl, hb7⟩
              replace HSC := hide ((unhide HSC).below hb7)
              replace HBC := hide ((unhide HBC).trans (hb7.mono (unhide HBC).size))
              clear hb7 r0 r1 r2 r3
              go_wp2_with fail
              go_ret
              exact ⟨⟨_, rfl, says_false (unhide HN)⟩, unhide HBC⟩
            · have HY := hide (show FitN xs ns k from (unhide HIF).2 ⟨by omega, by omega⟩)
              clear HIF
              go_wp2_with fail
              go_region_held (fun w' => w'.cell? ⟨w.heap.size, 0, none⟩ = some (.map (some bo)) ∧ w'.cell? ⟨w.heap.size, 1, none⟩ = some (.map (some bs)) ∧ w'.cell? ⟨w.heap.size + 1, 0, none⟩ = some (.slice (some ⟨bn, offn, none⟩) ns.length cn) ∧ w'.cell? ⟨wr.heap.size, 2, none⟩ = some (.int .i64 (ka : Int)) ∧ w'.cell? ⟨wr.heap.size, 3, none⟩ = some (.int .i64 (kb : Int)) ∧ w'.cell? ⟨bn, offn + ka * 4, none⟩ = some (.int .i64 na.k) ∧ w'.cell? ⟨bn, offn + ka * 4 + 1, none⟩ = some (.string na.t) ∧ w'.cell? ⟨bn, offn + ka * 4 + 2, none⟩ = some (.int .i64 na.a) ∧ w'.cell? ⟨bn, offn + ka * 4 + 3, none⟩ = some (.int .i64 na.b) ∧ w'.cell? ⟨bn, offn + kb * 4, none⟩ = some (.int .i64 nb.k) ∧ w'.cell? ⟨bn, offn + kb * 4 + 1, none⟩ = some (.string nb.t) ∧ w'.cell? ⟨bn, offn + kb * 4 + 2, none⟩ = some (.int .i64 nb.a) ∧ w'.cell? ⟨bn, offn + kb * 4 + 3, none⟩ = some (.int .i64 nb.b)) (first | (go_keep; done) | exact ⟨(unhide HSC) (w.heap.size, 0, .map (some bo)) (by simp), (unhide HSC) (w.heap.size, 1, .map (some bs)) (by simp), (unhide HSC) (w.heap.size + 1, 0, .slice (some ⟨bn, offn, none⟩) ns.length cn) (by simp), (unhide HSC) (wr.heap.size, 2, .int .i64 (ka : Int)) (by simp), (unhide HSC) (wr.heap.size, 3, .int .i64 (kb : Int)) (by simp), (unhide HSC) (bn, offn + ka * 4, .int .i64 na.k) (by simp), (unhide HSC) (bn, offn + ka * 4 + 1, .string na.t) (by simp), (unhide HSC) (bn, offn + ka * 4 + 2, .int .i64 na.a) (by simp), (unhide HSC) (bn, offn + ka * 4 + 3, .int .i64 na.b) (by simp), (unhide HSC) (bn, offn + kb * 4, .int .i64 nb.k) (by simp), (unhide HSC) (bn, offn + kb * 4 + 1, .string nb.t) (by simp), (unhide HSC) (bn, offn + kb * 4 + 2, .int .i64 nb.a) (by simp), (unhide HSC) (bn, offn + kb * 4 + 3, .int .i64 nb.b) (by simp)⟩)
                (first | (go_at_call 89; have HX := levelOf_any bo bs xs na _ ((unhide HI).kept (unhide HBC)) (unhide HC) (unhide HOK) (unhide HTA); with_reducible refine HX.mono ?_; clear HX; rintro e w5 ⟨rfl, hb5⟩; replace HSC := hide ((unhide HSC).below hb5); replace HBC := hide ((unhide HBC).trans (hb5.mono (unhide HBC).size)); clear hb5) | (go_at_call 89; have HX := levelOf_any bo bs xs nb _ ((unhide HI).kept (unhide HBC)) (unhide HC) (unhide HOK) (unhide HTB); with_reducible refine HX.mono ?_; clear HX; rintro e w5 ⟨rfl, hb5⟩; replace HSC := hide ((unhide HSC).below hb5); replace HBC := hide ((unhide HBC).trans (hb5.mono (unhide HBC).size)); clear hb5))
              have o0 := (unhide HSC) (w3.heap.size, 0, .string (atO xs j).s) (by simp)
              have o1 := (unhide HSC) (w3.heap.size, 1, .int .i64 (atO xs j).k) (by simp)
              have o2 := (unhide HSC) (w3.heap.size, 2, .int .i64 (atO xs j).l) (by simp)
              have o3 := (unhide HSC) (w3.heap.size, 3, .int .i64 (atO xs j).sd) (by simp)
              simp only at o0 o1 o2 o3
              go_wp2_with fail
              refine (implHole_any (atO xs j).s (atO xs j).k (atO xs j).l (atO xs j).sd false _ (unhide HSJ)).mono ?_
              rintro e w6 ⟨rfl, hb6⟩
              replace HSC := hide ((unhide HSC).below hb6)
              replace HBC := hide ((unhide HBC).trans (hb6.mono (unhide HBC).size))
              clear hb6 o0 o1 o2 o3
              have r0 := (unhide HSC) (w3.heap.size, 0, .string (atO xs j).s) (by simp)
              have r1 := (unhide HSC) (w3.heap.size, 1, .int .i64 (atO xs j).k) (by simp)
              have r2 := (unhide HSC) (w3.heap.size, 2, .int .i64 (atO xs j).l) (by simp)
              have r3 := (unhide HSC) (w3.heap.size, 3, .int .i64 (atO xs j).sd) (by simp)
              simp only at r0 r1 r2 r3
              go_wp2_with fail
              refine (implHole_any (atO xs j).s (atO xs j).k (atO xs j).l (atO xs j).sd true _ (unhide HSJ)).mono ?_
              rintro e w7 ⟨rfl, hb7⟩
              replace HSC := hide ((unhide HSC).below hb7)
              replace HBC := hide ((unhide HBC).trans (hb7.mono (unhide HBC).size))
              clear hb7 r0 r1 r2 r3
              go_wp2_with fail
              exact ⟨⟨k + 1, by omega, by go_num, hide (fun i hi => (unhide HND) i hi (fun _ => unhide HY)), hide (fun q hq => (unhide HSC) q (by simp only [List.mem_cons, List.not_mem_nil, or_false] at hq ⊢; rcases hq with h | h | h <;> simp [h])), unhide HBC⟩, by simp [intOf]; omega⟩
    · have hkx : k = ns.length := by omega
      go_wp2_with fail
      go_ret
      exact ⟨⟨_, rfl, says_true (fun i hi => (unhide hkn) i (by omega))⟩, hbel⟩
end Go.Proofs.YtfboipappaonhaaGreat
