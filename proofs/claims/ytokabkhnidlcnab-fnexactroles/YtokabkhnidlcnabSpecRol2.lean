/-
  Walks: the specification's Roles: one role.
-/
import Derived.Test.YtokabkhnidlcnabSpecRol
namespace Go.Proofs.Ytokabkhnidlcnab
set_option maxRecDepth 100000
set_option linter.unusedSimpArgs false
open Go.RowKit

set_option maxHeartbeats 4000000 in
theorem l2Role_any (b off cap b' off' cap' i : Nat) (bh : Bool) (xs : List OpR) (ts : List TokR) (w : World) (hmx : xs.length ≤ 1048576) (hm : ts.length ≤ 1048576) (hi : i < ts.length) (hw : Ops w b off xs) (hB : b < w.heap.size) (hw' : OpsT w b' off' ts) (hB' : b' < w.heap.size) :
    Calls Try.prog 62 #[.agg #[.slice (some ⟨b, off, none⟩) xs.length cap], .slice (some ⟨b', off', none⟩) ts.length cap', .int .i64 (i : Int), .bool bh] w fun e w' => e = .returned (.int .i64 (roleS xs ts i bh)) ∧ Below w.heap.size w w' := by
  have HW := hide (hw.below (below1 w (.cells #[.slice (some ⟨b, off, none⟩) xs.length cap] 28)) hB)
  have HT := hide (hw'.below (below1 w (.cells #[.slice (some ⟨b, off, none⟩) xs.length cap] 28)) hB')
  have c0 : (w.alloc (.cells #[.slice (some ⟨b, off, none⟩) xs.length cap] 28)).cell? ⟨w.heap.size, 0, none⟩ = some (.slice (some ⟨b, off, none⟩) xs.length cap) := by simp [go_sem]
  obtain ⟨a0, a1, a2⟩ := (hw' i hi).below (below1 w (.cells #[.slice (some ⟨b, off, none⟩) xs.length cap] 28)) hB'
  clear hw hw'
  have hltI : (i : Int) < (ts.length : Int) := by omega
  have bel0 := below1 w (.cells #[.slice (some ⟨b, off, none⟩) xs.length cap] 28)
  have z0 : w.heap.size + 1 = (w.alloc (.cells #[.slice (some ⟨b, off, none⟩) xs.length cap] 28)).heap.size := by simp
  have hk : (atT ts i).k = 1 ∨ (atT ts i).k = 2 ∨ (atT ts i).k = 4 ∨ (atT ts i).k = 3 ∨ (atT ts i).k = 5 ∨ (atT ts i).k = 7 ∨ ((atT ts i).k ≠ 1 ∧ (atT ts i).k ≠ 2 ∧ (atT ts i).k ≠ 4 ∧ (atT ts i).k ≠ 3 ∧ (atT ts i).k ≠ 5 ∧ (atT ts i).k ≠ 7) := by omega
  have LB0 : b < (w.alloc (.cells #[.slice (some ⟨b, off, none⟩) xs.length cap] 28)).heap.size := by simp; omega
  have LW0 : w.heap.size < (w.alloc (.cells #[.slice (some ⟨b, off, none⟩) xs.length cap] 28)).heap.size := by simp
  have LT0 : b' < (w.alloc (.cells #[.slice (some ⟨b, off, none⟩) xs.length cap] 28)).heap.size := by simp; omega
  have HT1 := hide (fun n => (unhide HT).below (below_drewN _ n) LT0)
  have HT2 := hide (fun n m => ((unhide HT).below (below_drewN _ n) LT0).below (below_drewN _ m) LT0)
  cases bh
  case false =>
    rcases hk with hk | hk | hk | hk | hk | hk | hk
    · have hk' := hide hk
      have g1 : ((atT ts i).k == 1) = true := by simp; omega
      have g2 : ((atT ts i).k == 2) = false := by simp; omega
      have g4 : ((atT ts i).k == 4) = false := by simp; omega
      have g3 : ((atT ts i).k == 3) = false := by simp; omega
      have g5 : ((atT ts i).k == 5) = false := by simp; omega
      have g7 : ((atT ts i).k == 7) = false := by simp; omega
      clear hk
      go_enter Try.func62, Try.ntmps62
      go_wp2_with fail
      go_ret
      exact ⟨ret_int (by simp [roleS, unhide hk']), bel0⟩
    · have hk' := hide hk
      have g1 : ((atT ts i).k == 1) = false := by simp; omega
      have g2 : ((atT ts i).k == 2) = true := by simp; omega
      have g4 : ((atT ts i).k == 4) = false := by simp; omega
      have g3 : ((atT ts i).k == 3) = false := by simp; omega
      have g5 : ((atT ts i).k == 5) = false := by simp; omega
      have g7 : ((atT ts i).k == 7) = false := by simp; omega
      clear hk
      go_enter Try.func62, Try.ntmps62
      go_wp2_with fail
      go_ret
      exact ⟨ret_int (by simp [roleS, unhide hk']), bel0⟩
    · have hk' := hide hk
      have g1 : ((atT ts i).k == 1) = false := by simp; omega
      have g2 : ((atT ts i).k == 2) = false := by simp; omega
      have g4 : ((atT ts i).k == 4) = true := by simp; omega
      have g3 : ((atT ts i).k == 3) = false := by simp; omega
      have g5 : ((atT ts i).k == 5) = false := by simp; omega
      have g7 : ((atT ts i).k == 7) = false := by simp; omega
      clear hk
      go_enter Try.func62, Try.ntmps62
      go_wp2_with fail
      go_ret
      exact ⟨ret_int (by simp [roleS, unhide hk']), bel0⟩
    · have hk' := hide hk
      have g1 : ((atT ts i).k == 1) = false := by simp; omega
      have g2 : ((atT ts i).k == 2) = false := by simp; omega
      have g4 : ((atT ts i).k == 4) = false := by simp; omega
      have g3 : ((atT ts i).k == 3) = true := by simp; omega
      have g5 : ((atT ts i).k == 5) = false := by simp; omega
      have g7 : ((atT ts i).k == 7) = false := by simp; omega
      clear hk
      go_enter Try.func62, Try.ntmps62
      go_wp2_with fail
      go_region_held (fun w' => w'.cell? ⟨w.heap.size, 0, none⟩ = some (.slice (some ⟨b, off, none⟩) xs.length cap) ∧ w'.cell? ⟨b', off' + i * 3 + 2, none⟩ = some (.string (atT ts i).t)) (go_keep) (first | (go_at_call 94; refine (l2Find_any b off cap xs (atT ts i).t 1 _ hmx ((unhide HW).below (Below.refl _ _).drew LB0) LB0).mono ?_; rintro e w1 ⟨⟨r1, rfl, hr1⟩, hb1⟩; have HR1 := hide hr1; have HB1 := hide hb1; have c1 := (hb1.cell (p := ⟨w.heap.size, 0, none⟩) LW0).trans (show (w.alloc (.cells #[.slice (some ⟨b, off, none⟩) xs.length cap] 28)).drew.cell? ⟨w.heap.size, 0, none⟩ = _ from c0); have d1 := (hb1.cell (p := ⟨b', off' + i * 3 + 2, none⟩) LT0).trans (show (w.alloc (.cells #[.slice (some ⟨b, off, none⟩) xs.length cap] 28)).drew.cell? ⟨b', off' + i * 3 + 2, none⟩ = _ from a2); clear hr1 hb1))
      by_cases p1 : 0 ≤ r1
      · have hp : hasB xs (atT ts i).t 1 = true := (hasB_iff _ _ _).2 ((unhide HR1).1 p1)
        have HP := hide hp
        clear hp
        go_wp2_with fail
        go_ret
        exact ⟨ret_int (by simp [roleS, unhide hk', unhide HP]), bel0.trans (((Below.refl _ _).drew.trans (unhide HB1)).mono (Nat.le_of_lt LW0))⟩
      · have hp : hasB xs (atT ts i).t 1 = false := by
          cases h : hasB xs (atT ts i).t 1
          · rfl
          · exact absurd ((unhide HR1).2 ((hasB_iff _ _ _).1 h)) p1
        have HP := hide hp
        clear hp
        have p1' : decide (0 ≤ r1) = false := decide_eq_false p1
        go_wp2_with fail
        go_ret
        exact ⟨ret_int (by simp [roleS, unhide hk', unhide HP]), bel0.trans (((Below.refl _ _).drew.trans (unhide HB1)).mono (Nat.le_of_lt LW0))⟩
    · have hk' := hide hk
      have g1 : ((atT ts i).k == 1) = false := by simp; omega
      have g2 : ((atT ts i).k == 2) = false := by simp; omega
      have g4 : ((atT ts i).k == 4) = false := by simp; omega
      have g3 : ((atT ts i).k == 3) = false := by simp; omega
      have g5 : ((atT ts i).k == 5) = true := by simp; omega
      have g7 : ((atT ts i).k == 7) = false := by simp; omega
      clear hk
      go_enter Try.func62, Try.ntmps62
      go_wp2_with fail
      go_quiet (fail)
      go_wp2_with fail
      go_ret
      exact ⟨ret_int (by have := unhide hk'; simp [roleS, this]), ⟨bel0.os, bel0.tape, bel0.output, bel0.size, bel0.block⟩⟩
    · have hk' := hide hk
      have g1 : ((atT ts i).k == 1) = false := by simp; omega
      have g2 : ((atT ts i).k == 2) = false := by simp; omega
      have g4 : ((atT ts i).k == 4) = false := by simp; omega
      have g3 : ((atT ts i).k == 3) = false := by simp; omega
      have g5 : ((atT ts i).k == 5) = false := by simp; omega
      have g7 : ((atT ts i).k == 7) = true := by simp; omega
      clear hk
      go_enter Try.func62, Try.ntmps62
      go_wp2_with fail
      go_quiet (fail)
      go_wp2_with fail
      go_ret
      exact ⟨ret_int (by have := unhide hk'; simp [roleS, this]), ⟨bel0.os, bel0.tape, bel0.output, bel0.size, bel0.block⟩⟩
    · have hk' := hide hk
      have g1 : ((atT ts i).k == 1) = false := by simp; omega
      have g2 : ((atT ts i).k == 2) = false := by simp; omega
      have g4 : ((atT ts i).k == 4) = false := by simp; omega
      have g3 : ((atT ts i).k == 3) = false := by simp; omega
      have g5 : ((atT ts i).k == 5) = false := by simp; omega
      have g7 : ((atT ts i).k == 7) = false := by simp; omega
      clear hk
      go_enter Try.func62, Try.ntmps62
      go_wp2_with fail
      go_quiet (fail)
      go_wp2_with fail
      go_ret
      exact ⟨ret_int (by have := unhide hk'; simp [roleS, this]), ⟨bel0.os, bel0.tape, bel0.output, bel0.size, bel0.block⟩⟩
  case true =>
    rcases hk with hk | hk | hk | hk | hk | hk | hk
    · have hk' := hide hk
      have g1 : ((atT ts i).k == 1) = true := by simp; omega
      have g2 : ((atT ts i).k == 2) = false := by simp; omega
      have g4 : ((atT ts i).k == 4) = false := by simp; omega
      have g3 : ((atT ts i).k == 3) = false := by simp; omega
      have g5 : ((atT ts i).k == 5) = false := by simp; omega
      have g7 : ((atT ts i).k == 7) = false := by simp; omega
      clear hk
      go_enter Try.func62, Try.ntmps62
      go_wp2_with fail
      go_quiet (fail)
      go_wp2_with fail
      go_quiet (fail)
      go_wp2_with fail
      go_ret
      exact ⟨ret_int (by have := unhide hk'; simp [roleS, this]), ⟨bel0.os, bel0.tape, bel0.output, bel0.size, bel0.block⟩⟩
    · have hk' := hide hk
      have g1 : ((atT ts i).k == 1) = false := by simp; omega
      have g2 : ((atT ts i).k == 2) = true := by simp; omega
      have g4 : ((atT ts i).k == 4) = false := by simp; omega
      have g3 : ((atT ts i).k == 3) = false := by simp; omega
      have g5 : ((atT ts i).k == 5) = false := by simp; omega
      have g7 : ((atT ts i).k == 7) = false := by simp; omega
      clear hk
      go_enter Try.func62, Try.ntmps62
      go_wp2_with fail
      go_quiet (fail)
      go_wp2_with fail
      go_quiet (fail)
      go_wp2_with fail
      go_ret
      exact ⟨ret_int (by have := unhide hk'; simp [roleS, this]), ⟨bel0.os, bel0.tape, bel0.output, bel0.size, bel0.block⟩⟩
    · have hk' := hide hk
      have g1 : ((atT ts i).k == 1) = false := by simp; omega
      have g2 : ((atT ts i).k == 2) = false := by simp; omega
      have g4 : ((atT ts i).k == 4) = true := by simp; omega
      have g3 : ((atT ts i).k == 3) = false := by simp; omega
      have g5 : ((atT ts i).k == 5) = false := by simp; omega
      have g7 : ((atT ts i).k == 7) = false := by simp; omega
      clear hk
      go_enter Try.func62, Try.ntmps62
      go_wp2_with fail
      go_quiet (fail)
      go_wp2_with fail
      go_quiet (fail)
      go_wp2_with fail
      go_ret
      exact ⟨ret_int (by have := unhide hk'; simp [roleS, this]), ⟨bel0.os, bel0.tape, bel0.output, bel0.size, bel0.block⟩⟩
    · have hk' := hide hk
      have g1 : ((atT ts i).k == 1) = false := by simp; omega
      have g2 : ((atT ts i).k == 2) = false := by simp; omega
      have g4 : ((atT ts i).k == 4) = false := by simp; omega
      have g3 : ((atT ts i).k == 3) = true := by simp; omega
      have g5 : ((atT ts i).k == 5) = false := by simp; omega
      have g7 : ((atT ts i).k == 7) = false := by simp; omega
      clear hk
      go_enter Try.func62, Try.ntmps62
      go_wp2_with fail
      go_region_held (fun w' => w'.cell? ⟨w.heap.size, 0, none⟩ = some (.slice (some ⟨b, off, none⟩) xs.length cap) ∧ w'.cell? ⟨b', off' + i * 3 + 2, none⟩ = some (.string (atT ts i).t)) (go_keep) (first | (go_at_call 94; refine (l2Find_any b off cap xs (atT ts i).t 2 _ hmx ((unhide HW).below (Below.refl _ _).drew LB0) LB0).mono ?_; rintro e w1 ⟨⟨r1, rfl, hr1⟩, hb1⟩; have HR1 := hide hr1; have HB1 := hide hb1; have c1 := (hb1.cell (p := ⟨w.heap.size, 0, none⟩) LW0).trans (show (w.alloc (.cells #[.slice (some ⟨b, off, none⟩) xs.length cap] 28)).drew.cell? ⟨w.heap.size, 0, none⟩ = _ from c0); have d1 := (hb1.cell (p := ⟨b', off' + i * 3 + 2, none⟩) LT0).trans (show (w.alloc (.cells #[.slice (some ⟨b, off, none⟩) xs.length cap] 28)).drew.cell? ⟨b', off' + i * 3 + 2, none⟩ = _ from a2); clear hr1 hb1))
      have LB1 : b < w1.heap.size := Nat.lt_of_lt_of_le LB0 (unhide HB1).size
      have LW1 : w.heap.size < w1.heap.size := Nat.lt_of_lt_of_le LW0 (unhide HB1).size
      have LT1 : b' < w1.heap.size := Nat.lt_of_lt_of_le LT0 (unhide HB1).size
      have bel1 := bel0.trans (((Below.refl _ _).drew.trans (unhide HB1)).mono (Nat.le_of_lt LW0))
      by_cases p1 : 0 ≤ r1
      · have HP := hide (show hasB xs (atT ts i).t 2 = true from (hasB_iff _ _ _).2 ((unhide HR1).1 p1))
        go_wp2_with fail
        go_ret
        exact ⟨ret_int (by simp [roleS, unhide hk', unhide HP]), bel1⟩
      · have HP := hide (show hasB xs (atT ts i).t 2 = false by
          cases h : hasB xs (atT ts i).t 2
          · rfl
          · exact absurd ((unhide HR1).2 ((hasB_iff _ _ _).1 h)) p1)
        have p1' : decide (0 ≤ r1) = false := decide_eq_false p1
        go_wp2_with fail
        go_region_held (fun w' => w'.cell? ⟨w.heap.size, 0, none⟩ = some (.slice (some ⟨b, off, none⟩) xs.length cap) ∧ w'.cell? ⟨b', off' + i * 3 + 2, none⟩ = some (.string (atT ts i).t)) (go_keep) (first | (go_at_call 94; refine (l2Find_any b off cap xs (atT ts i).t 3 _ hmx (((unhide HW).below ((Below.refl _ _).drew.trans (unhide HB1)) LB0).below (Below.refl _ _).drew LB1) LB1).mono ?_; rintro e w2 ⟨⟨r2, rfl, hr2⟩, hb2⟩; have HR2 := hide hr2; have HB2 := hide hb2; have c2 := (hb2.cell (p := ⟨w.heap.size, 0, none⟩) LW1).trans (show w1.drew.cell? ⟨w.heap.size, 0, none⟩ = _ from c1); have d2 := (hb2.cell (p := ⟨b', off' + i * 3 + 2, none⟩) LT1).trans (show w1.drew.cell? ⟨b', off' + i * 3 + 2, none⟩ = _ from d1); clear hr2 hb2))
        have bel2 := bel1.trans (((Below.refl _ _).drew.trans (unhide HB2)).mono (Nat.le_of_lt LW1))
        by_cases p2 : 0 ≤ r2
        · have HP2 := hide (show hasB xs (atT ts i).t 3 = true from (hasB_iff _ _ _).2 ((unhide HR2).1 p2))
          go_wp2_with fail
          go_ret
          exact ⟨ret_int (by simp [roleS, unhide hk', unhide HP, unhide HP2]), bel2⟩
        · have HP2 := hide (show hasB xs (atT ts i).t 3 = false by
            cases h : hasB xs (atT ts i).t 3
            · rfl
            · exact absurd ((unhide HR2).2 ((hasB_iff _ _ _).1 h)) p2)
          have p2' : decide (0 ≤ r2) = false := decide_eq_false p2
          go_wp2_with fail
          go_ret
          exact ⟨ret_int (by simp [roleS, unhide hk', unhide HP, unhide HP2]), bel2⟩
    · have hk' := hide hk
      have g1 : ((atT ts i).k == 1) = false := by simp; omega
      have g2 : ((atT ts i).k == 2) = false := by simp; omega
      have g4 : ((atT ts i).k == 4) = false := by simp; omega
      have g3 : ((atT ts i).k == 3) = false := by simp; omega
      have g5 : ((atT ts i).k == 5) = true := by simp; omega
      have g7 : ((atT ts i).k == 7) = false := by simp; omega
      clear hk
      by_cases ho : 0 < opI ts i
      · have HO := hide ho
        go_enter Try.func62, Try.ntmps62
        go_wp2_with fail
        go_quiet (fail)
        go_wp2_with fail
        go_quiet (fail)
        go_wp2_with (go_at_call 95; refine (l2Open_any b' off' cap' i ts _ hm (Nat.le_of_lt hi) (by first | exact (unhide HT2) _ _ | exact (unhide HT1) _)).mono ?_; rintro e w3 ⟨rfl, hx⟩; obtain rfl := hx.symm)
        go_ret
        exact ⟨ret_int (by simp [roleS, unhide hk', unhide HO]), ⟨bel0.os, bel0.tape, bel0.output, bel0.size, bel0.block⟩⟩
      · have HO := hide ho
        have ho' : decide (0 < opI ts i) = false := decide_eq_false ho
        go_enter Try.func62, Try.ntmps62
        go_wp2_with fail
        go_quiet (fail)
        go_wp2_with fail
        go_quiet (fail)
        go_wp2_with (go_at_call 95; refine (l2Open_any b' off' cap' i ts _ hm (Nat.le_of_lt hi) (by first | exact (unhide HT2) _ _ | exact (unhide HT1) _)).mono ?_; rintro e w3 ⟨rfl, hx⟩; obtain rfl := hx.symm)
        go_ret
        exact ⟨ret_int (by simp [roleS, unhide hk', unhide HO]), ⟨bel0.os, bel0.tape, bel0.output, bel0.size, bel0.block⟩⟩
    · have hk' := hide hk
      have g1 : ((atT ts i).k == 1) = false := by simp; omega
      have g2 : ((atT ts i).k == 2) = false := by simp; omega
      have g4 : ((atT ts i).k == 4) = false := by simp; omega
      have g3 : ((atT ts i).k == 3) = false := by simp; omega
      have g5 : ((atT ts i).k == 5) = false := by simp; omega
      have g7 : ((atT ts i).k == 7) = true := by simp; omega
      clear hk
      by_cases ho : opI ts i = 0
      · have HO := hide ho
        have ho' : (opI ts i == 0) = true := by simpa using ho
        by_cases hl : i + 1 = ts.length
        · have HL := hide hl
          have hl' : ((i : Int) == (ts.length : Int) - 1) = true := by simp; omega
          go_enter Try.func62, Try.ntmps62
          go_wp2_with fail
          go_quiet (fail)
          go_wp2_with fail
          go_quiet (fail)
          go_wp2_with (go_at_call 95; refine (l2Open_any b' off' cap' i ts _ hm (Nat.le_of_lt hi) (by first | exact (unhide HT2) _ _ | exact (unhide HT1) _)).mono ?_; rintro e w3 ⟨rfl, hx⟩; obtain rfl := hx.symm)
          go_ret
          exact ⟨ret_int (by simp [roleS, unhide hk', unhide HO, unhide HL]), ⟨bel0.os, bel0.tape, bel0.output, bel0.size, bel0.block⟩⟩
        · have HL := hide hl
          have hl' : ((i : Int) == (ts.length : Int) - 1) = false := by simp; omega
          go_enter Try.func62, Try.ntmps62
          go_wp2_with fail
          go_quiet (fail)
          go_wp2_with fail
          go_quiet (fail)
          go_wp2_with (go_at_call 95; refine (l2Open_any b' off' cap' i ts _ hm (Nat.le_of_lt hi) (by first | exact (unhide HT2) _ _ | exact (unhide HT1) _)).mono ?_; rintro e w3 ⟨rfl, hx⟩; obtain rfl := hx.symm)
          go_ret
          exact ⟨ret_int (by simp [roleS, unhide hk', unhide HO, unhide HL]), ⟨bel0.os, bel0.tape, bel0.output, bel0.size, bel0.block⟩⟩
      · have HO := hide ho
        have ho' : (opI ts i == 0) = false := by simpa using ho
        go_enter Try.func62, Try.ntmps62
        go_wp2_with fail
        go_quiet (fail)
        go_wp2_with fail
        go_quiet (fail)
        go_wp2_with (go_at_call 95; refine (l2Open_any b' off' cap' i ts _ hm (Nat.le_of_lt hi) (by first | exact (unhide HT2) _ _ | exact (unhide HT1) _)).mono ?_; rintro e w3 ⟨rfl, hx⟩; obtain rfl := hx.symm)
        go_ret
        exact ⟨ret_int (by simp [roleS, unhide hk', unhide HO]), ⟨bel0.os, bel0.tape, bel0.output, bel0.size, bel0.block⟩⟩
    · have hk' := hide hk
      have g1 : ((atT ts i).k == 1) = false := by simp; omega
      have g2 : ((atT ts i).k == 2) = false := by simp; omega
      have g4 : ((atT ts i).k == 4) = false := by simp; omega
      have g3 : ((atT ts i).k == 3) = false := by simp; omega
      have g5 : ((atT ts i).k == 5) = false := by simp; omega
      have g7 : ((atT ts i).k == 7) = false := by simp; omega
      clear hk
      go_enter Try.func62, Try.ntmps62
      go_wp2_with fail
      go_quiet (fail)
      go_wp2_with fail
      go_quiet (fail)
      go_wp2_with fail
      go_ret
      exact ⟨ret_int (by have := unhide hk'; simp [roleS, this]), ⟨bel0.os, bel0.tape, bel0.output, bel0.size, bel0.block⟩⟩
end Go.Proofs.Ytokabkhnidlcnab
