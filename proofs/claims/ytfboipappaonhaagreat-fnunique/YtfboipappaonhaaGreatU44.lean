import Derived.Deep.QuietTactic
import Derived.BigQuiet
import Derived.Deep.AppendLies
import Derived.Test.YtfboipappaonhaaGreatU21
import Derived.Test.YtfboipappaonhaaGreatU22
import Derived.Test.YtfboipappaonhaaGreatU25

/-
  Walks: the specification's Roles.
-/
namespace Go.Proofs.YtfboipappaonhaaGreat
set_option maxRecDepth 100000
set_option linter.unusedSimpArgs false
open Go.RowKit

theorem opI_range (ts : List TokR) : ∀ i : Nat, -(i : Int) ≤ opI ts i ∧ opI ts i ≤ (i : Int)
  | 0 => by simp [opI]
  | i + 1 => by
    have := opI_range ts i
    simp only [opI]
    split <;> split <;> omega

set_option maxHeartbeats 1000000 in
theorem l2Open_any (b off cap n : Nat) (ts : List TokR) (w : World) (hm : ts.length ≤ 1048576) (hn : n ≤ ts.length) (hw : OpsT w b off ts) :
    Calls Tryz.prog 148 #[.slice (some ⟨b, off, none⟩) ts.length cap, .int .i64 (n : Int)] w fun e w' => e = .returned (.int .i64 (opI ts n)) ∧ w' = w := by
  have HW := hide hw
  clear hw
  go_enter Tryz.func148, Tryz.ntmps148
  go_wp2
  go_loop [5, 6] (fun o i => ∃ k : Nat, k ≤ n ∧ i = .int .i64 (k : Int) ∧ o = .int .i64 (opI ts k)) (fun _ i => n - (intOf i).toNat)
  case atStart => exact ⟨0, Nat.zero_le _, rfl, rfl⟩
  case round =>
    obtain ⟨k, hk, rfl, rfl⟩ := hrel
    have hr := opI_range ts k
    by_cases hlt : k < n
    · obtain ⟨a0, a1, a2⟩ := (unhide HW) k (by omega)
      have hlt2 : k < ts.length := by omega
      have HS := hide (show opI ts (k + 1) = opI ts k + (if (atT ts k).k = 4 then 1 else 0) - (if (atT ts k).k = 5 then 1 else 0) from rfl)
      go_wp2
      all_goals
        refine ⟨⟨k + 1, by omega, by go_num, ?_⟩, by simp [intOf]; omega⟩
        rw [unhide HS]
        go_light
        simp only [beq_iff_eq, beq_eq_false_iff_ne, ne_eq] at *
        first | (congr 1; split <;> split <;> omega) | simp [*] | (simp_all; omega)
    · have HX := hide (show k = n by omega)
      go_wp2
      go_ret
      exact ⟨ret_int (by rw [unhide HX]), rfl⟩

/-- The first k states. -/
def stsTo (xs : List OpR) (ts : List TokR) (k : Nat) : List Bool := (List.range (k + 1)).map (stTo xs ts)
def cellsBo (l : List Bool) : List Value := l.map fun b => .bool b
theorem cellsBo_one (l : List Bool) : ∀ u ∈ cellsBo l, u.oneCell' = true := by
  intro u hu
  simp only [cellsBo, List.mem_map] at hu
  obtain ⟨b, _, rfl⟩ := hu
  rfl
theorem stsTo_len (xs : List OpR) (ts : List TokR) (k : Nat) : (stsTo xs ts k).length = k + 1 := by simp [stsTo]
theorem stsTo_succ (xs : List OpR) (ts : List TokR) (k : Nat) : cellsBo (stsTo xs ts (k + 1)) = cellsBo (stsTo xs ts k) ++ [.bool (stTo xs ts (k + 1))] := by
  simp [stsTo, cellsBo, List.range_succ (n := k + 1)]
theorem stsTo_at (xs : List OpR) (ts : List TokR) (k i : Nat) (h : i ≤ k) : (cellsBo (stsTo xs ts k))[i]? = some (.bool (stTo xs ts i)) := by
  have : i < k + 1 := by omega
  simp [cellsBo, stsTo, this]

theorem infoBool : (Tryz.prog.info? 4).map (fun i => (i.zero, i.size, i.bytes)) = some (some (.bool false), 1, 1) := by kernel_rfl

theorem grown_drewN (w : World) (n : Nat) : w.grownBy (w.drewN n) none := ⟨rfl, rfl, rfl, Nat.le_refl _, fun _ _ _ => rfl⟩
theorem below_drewN (w : World) (n : Nat) : Below w.heap.size w (w.drewN n) := ⟨rfl, rfl, rfl, Nat.le_refl _, fun _ _ => rfl⟩

theorem new_newsB (w : World) (v : Bool) : ∀ j u, ([Value.bool v])[j]? = some u → (w.alloc (.cells #[.bool v] 4)).cell? ((⟨w.heap.size, 0, none⟩ : Addr).add j) = some u := by
  intro j u hj
  rw [Addr.add_mid]
  have := World.rangeAt_of_block (w := w.alloc (.cells #[.bool v] 4)) (b := w.heap.size) (heap_alloc_new w _) 0 1
  exact this j u (by simpa using hj)

set_option maxHeartbeats 4000000 in
theorem l2States_any (b off cap b' off' cap' : Nat) (xs : List OpR) (ts : List TokR) (w : World) (hmx : xs.length ≤ 1048576) (hm : ts.length ≤ 1048576) (hw : Ops w b off xs) (hB : b < w.heap.size) (hw' : OpsT w b' off' ts) (hB' : b' < w.heap.size) :
    Calls Tryz.prog 107 #[.agg #[.slice (some ⟨b, off, none⟩) xs.length cap], .slice (some ⟨b', off', none⟩) ts.length cap'] w fun e w' => (∃ g c, e = .returned (.slice (some ⟨g, 0, none⟩) (ts.length + 1) c) ∧ w.heap.size ≤ g ∧ g < w'.heap.size ∧ ∀ i, i ≤ ts.length → w'.cell? ⟨g, i, none⟩ = some (.bool (stTo xs ts i))) ∧ Below w.heap.size w w' := by
  obtain ⟨i0, hi, hz0, hz1, hz2⟩ := info_parts infoBool
  have HI := hide hi
  have HZ := hide (And.intro hz0 (And.intro hz1 hz2))
  have HW := hide hw
  have HT := hide hw'
  clear hi hz0 hz1 hz2 hw hw'
  have HO := hide (show ((w.alloc (.cells #[.slice (some ⟨b, off, none⟩) xs.length cap] 25)).alloc (.cells #[.bool false] 4)).ownsRow (w.heap.size + 1) 4 1 (.slice (some ⟨w.heap.size + 1, 0, none⟩) 1 1) 1 (cellsBo (stsTo xs ts 0)) by
    have h0 := World.ownsRow_lit (base := w.heap.size + 1) (e := 4) (size := 1) (w.alloc (.cells #[.slice (some ⟨b, off, none⟩) xs.length cap] 25)) #[.bool false] 1 (by simp) (by decide) rfl
    simpa [cellsBo, stsTo, stTo] using h0)
  go_enter Tryz.func107, Tryz.ntmps107
  go_wp2_with fail
  go_loopw [5, 6] (fun out i wr => ∃ (k g c : Nat), k ≤ ts.length ∧ i = .int .i64 (k : Int) ∧ out = .slice (some ⟨g, 0, none⟩) (k + 1) c ∧ Hid (wr.ownsRow (w.heap.size + 1) 4 1 (.slice (some ⟨g, 0, none⟩) (k + 1) c) (k + 1) (cellsBo (stsTo xs ts k))) ∧ Below (w.heap.size + 1) (w.alloc (.cells #[.slice (some ⟨b, off, none⟩) xs.length cap] 25)) wr) (fun _ i _ => ts.length - (intOf i).toNat)
  case atStart => exact ⟨0, w.heap.size + 1, 1, Nat.zero_le _, rfl, rfl, HO, (below1 _ _).mono (by simp)⟩
  case round =>
    clear HO
    obtain ⟨k, g, c, hk, rfl, rfl, hown, hbel⟩ := hrel
    have hbw : Below w.heap.size w wr := (below1 _ _).trans (hbel.mono (by omega))
    have zw : w.heap.size < wr.heap.size := by have := hbel.size; simp at this; omega
    have c0 : wr.cell? ⟨w.heap.size, 0, none⟩ = some (.slice (some ⟨b, off, none⟩) xs.length cap) := by
      rw [hbel.cell (p := ⟨w.heap.size, 0, none⟩) (show w.heap.size < _ by omega)]; simp [go_sem]
    by_cases hlt : k < ts.length
    · obtain ⟨a0, a1, a2⟩ := ((unhide HT) k hlt).below hbw hB'
      have s0 : wr.cell? ⟨g, k, none⟩ = some (.bool (stTo xs ts k)) := ((unhide hown).cellAt k (by omega)).trans (stsTo_at xs ts k k (Nat.le_refl _))
      have hltI : (k : Int) < (ts.length : Int) := by omega
      have hk1 : (k : Int) < ((k + 1 : Nat) : Int) := by omega
      have hk1' : (k : Int) < (k : Int) + 1 := by omega
      by_cases h3 : (atT ts k).k = 3
      case pos =>
        have g1 : ((atT ts k).k == 1) = false := by simp; omega
        have g2 : ((atT ts k).k == 2) = false := by simp; omega
        have g5 : ((atT ts k).k == 5) = false := by simp; omega
        have g3 : ((atT ts k).k == 3) = true := by simpa using h3
        cases hst : stTo xs ts k
        · rw [hst] at s0
          have HV := hide (show stTo xs ts (k + 1) = false by simp [stTo, endsOf, hst, h3])
          clear h3
          go_wp2_with fail
          go_quiet (fail)
          go_wp2_with (at_builtin; refine wpList_append_own _ rfl (.tmp 49) (.tmp 51) 92 rfl (w.heap.size + 1) 4 i0 _ 1 1 Tryz.underlying92 (unhide HI) (unhide HZ).1 (unhide HZ).2.1 (unhide HZ).2.2 rfl (by decide) _ (k + 1) (cellsBo (stsTo xs ts k)) rfl (((unhide hown).kept (grown_drewN wr nq) (Or.inr (by simp [Value.ownBlock]))).alloc _) ⟨(wr.drewN nq).heap.size, 0, none⟩ 1 1 [.bool false] rfl rfl (new_newsB (wr.drewN nq) false) (by simp [Value.oneCell']) ?b1 ?b2 ?b3 ?next)
          case b1 => unfold maxLen; omega
          case b2 => omega
          case b3 => have := (hbel.trans ((below_drewN wr nq).mono zw)).size; simp at this; simp; omega
          case next =>
            intro v4 w4 hown4 hgrow4 hnil4
            have hgo := ((unhide hown).kept (grown_drewN wr nq) (Or.inr (by simp [Value.ownBlock]))).lt g rfl
            have hbel4 : Below (w.heap.size + 1) (w.alloc (.cells #[.slice (some ⟨b, off, none⟩) xs.length cap] 25)) w4 := ((hbel.trans ((below_drewN wr nq).mono zw)).alloc (by have := (hbel.trans ((below_drewN wr nq).mono zw)).size; simp at this; omega) _).grown hgrow4 (by have := (hbel.trans ((below_drewN wr nq).mono zw)).size; simp at this; simp; omega) (fun q hq => by simp [Value.ownBlock] at hq; omega)
            obtain ⟨g4, c4, rfl⟩ := owns_bval hown4 (by simp [hnil4])
            rw [show [Value.bool false] = [.bool (stTo xs ts (k + 1))] by rw [unhide HV], ← stsTo_succ] at hown4
            have HW4 := hide hown4
            clear hown4 hgrow4 hnil4
            go_wp2
            exact ⟨⟨k + 1, g4, c4, by omega, by go_num, rfl, HW4, hbel4⟩, by simp [intOf]; omega⟩
        · rw [hst] at s0
          have HST := hide hst
          have H3 := hide h3
          have zb : b < wr.heap.size := by omega
          have zg := (unhide hown).lt g rfl
          clear h3
          go_wp2_with fail
          go_region_held (fun w' => w'.cell? ⟨w.heap.size, 0, none⟩ = some (.slice (some ⟨b, off, none⟩) xs.length cap) ∧ w'.cell? ⟨g, k, none⟩ = some (.bool true) ∧ w'.cell? ⟨b', off' + k * 3 + 2, none⟩ = some (.string (atT ts k).t)) (go_keep) (first | (go_at_call 97; refine (l2Find_any b off cap xs (atT ts k).t 3 _ hmx ((unhide HW).below hbw.drew hB) zb).mono ?_; rintro e w2 ⟨⟨r, rfl, hr⟩, hb2⟩; have HR := hide hr; have HB2 := hide hb2; have q0 := (hb2.cell (p := ⟨w.heap.size, 0, none⟩) zw).trans (show wr.drew.cell? ⟨w.heap.size, 0, none⟩ = _ from c0); have q1 := (hb2.cell (p := ⟨g, k, none⟩) zg.2).trans (show wr.drew.cell? ⟨g, k, none⟩ = _ from s0); have q2 := (hb2.cell (p := ⟨b', off' + k * 3 + 2, none⟩) (Nat.lt_of_lt_of_le hB' (Nat.le_of_lt zw))).trans (show wr.drew.cell? ⟨b', off' + k * 3 + 2, none⟩ = _ from a2); clear hr hb2))
          have hbel2 := hbel.drew.trans ((unhide HB2).mono zw)
          have HOW2 := hide ((unhide hown).drew.kept (grown_bel (unhide HB2) none) (Or.inr (by simp [Value.ownBlock])))
          by_cases hr0 : 0 ≤ r
          · have HV := hide (show stTo xs ts (k + 1) = true by
              have := (hasB_iff xs (atT ts k).t 3).2 ((unhide HR).1 hr0)
              simp [stTo, endsOf, unhide HST, unhide H3, this])
            go_wp2_with (at_builtin; refine wpList_append_own _ rfl (.tmp 49) (.tmp 51) 92 rfl (w.heap.size + 1) 4 i0 _ 1 1 Tryz.underlying92 (unhide HI) (unhide HZ).1 (unhide HZ).2.1 (unhide HZ).2.2 rfl (by decide) _ (k + 1) (cellsBo (stsTo xs ts k)) rfl ((unhide HOW2).alloc _) ⟨(w2).heap.size, 0, none⟩ 1 1 [.bool true] rfl rfl (new_newsB (w2) true) (by simp [Value.oneCell']) ?b1 ?b2 ?b3 ?next)
            case b1 => unfold maxLen; omega
            case b2 => omega
            case b3 => have := (hbel2).size; simp at this; simp; omega
            case next =>
              intro v4 w4 hown4 hgrow4 hnil4
              have hgo := (unhide HOW2).lt g rfl
              have hbel4 : Below (w.heap.size + 1) (w.alloc (.cells #[.slice (some ⟨b, off, none⟩) xs.length cap] 25)) w4 := ((hbel2).alloc (by have := (hbel2).size; simp at this; omega) _).grown hgrow4 (by have := (hbel2).size; simp at this; simp; omega) (fun q hq => by simp [Value.ownBlock] at hq; omega)
              obtain ⟨g4, c4, rfl⟩ := owns_bval hown4 (by simp [hnil4])
              rw [show [Value.bool true] = [.bool (stTo xs ts (k + 1))] by rw [unhide HV], ← stsTo_succ] at hown4
              have HW4 := hide hown4
              clear hown4 hgrow4 hnil4
              go_wp2
              exact ⟨⟨k + 1, g4, c4, by omega, by go_num, rfl, HW4, hbel4⟩, by simp [intOf]; omega⟩
          · have HV := hide (show stTo xs ts (k + 1) = false by
              have : hasB xs (atT ts k).t 3 = false := by
                cases h : hasB xs (atT ts k).t 3
                · rfl
                · exact absurd ((unhide HR).2 ((hasB_iff xs (atT ts k).t 3).1 h)) hr0
              simp [stTo, endsOf, unhide HST, unhide H3, this])
            have hr0' : decide (0 ≤ r) = false := decide_eq_false hr0
            go_wp2_with (at_builtin; refine wpList_append_own _ rfl (.tmp 49) (.tmp 51) 92 rfl (w.heap.size + 1) 4 i0 _ 1 1 Tryz.underlying92 (unhide HI) (unhide HZ).1 (unhide HZ).2.1 (unhide HZ).2.2 rfl (by decide) _ (k + 1) (cellsBo (stsTo xs ts k)) rfl ((unhide HOW2).alloc _) ⟨(w2).heap.size, 0, none⟩ 1 1 [.bool false] rfl rfl (new_newsB (w2) false) (by simp [Value.oneCell']) ?b1 ?b2 ?b3 ?next)
            case b1 => unfold maxLen; omega
            case b2 => omega
            case b3 => have := (hbel2).size; simp at this; simp; omega
            case next =>
              intro v4 w4 hown4 hgrow4 hnil4
              have hgo := (unhide HOW2).lt g rfl
              have hbel4 : Below (w.heap.size + 1) (w.alloc (.cells #[.slice (some ⟨b, off, none⟩) xs.length cap] 25)) w4 := ((hbel2).alloc (by have := (hbel2).size; simp at this; omega) _).grown hgrow4 (by have := (hbel2).size; simp at this; simp; omega) (fun q hq => by simp [Value.ownBlock] at hq; omega)
              obtain ⟨g4, c4, rfl⟩ := owns_bval hown4 (by simp [hnil4])
              rw [show [Value.bool false] = [.bool (stTo xs ts (k + 1))] by rw [unhide HV], ← stsTo_succ] at hown4
              have HW4 := hide hown4
              clear hown4 hgrow4 hnil4
              go_wp2
              exact ⟨⟨k + 1, g4, c4, by omega, by go_num, rfl, HW4, hbel4⟩, by simp [intOf]; omega⟩
      have h1 : (atT ts k).k = 1 ∨ (atT ts k).k = 2 ∨ (atT ts k).k = 5 ∨ ((atT ts k).k ≠ 1 ∧ (atT ts k).k ≠ 2 ∧ (atT ts k).k ≠ 5) := by omega
      rcases h1 with h1 | h1 | h1 | h1
      · have g1 : ((atT ts k).k == 1) = true := by simp; omega
        have g2 : ((atT ts k).k == 2) = false := by simp; omega
        have g5 : ((atT ts k).k == 5) = false := by simp; omega
        have g3 : ((atT ts k).k == 3) = false := by simp; omega
        have HV := hide (show stTo xs ts (k + 1) = true by simp [stTo, endsOf, h3]; omega)
        clear h3
        go_wp2_with fail
        go_quiet (fail)
        go_wp2_with (at_builtin; refine wpList_append_own _ rfl (.tmp 49) (.tmp 51) 92 rfl (w.heap.size + 1) 4 i0 _ 1 1 Tryz.underlying92 (unhide HI) (unhide HZ).1 (unhide HZ).2.1 (unhide HZ).2.2 rfl (by decide) _ (k + 1) (cellsBo (stsTo xs ts k)) rfl (((unhide hown).kept (grown_drewN wr nq) (Or.inr (by simp [Value.ownBlock]))).alloc _) ⟨(wr.drewN nq).heap.size, 0, none⟩ 1 1 [.bool true] rfl rfl (new_newsB (wr.drewN nq) true) (by simp [Value.oneCell']) ?b1 ?b2 ?b3 ?next)
        case b1 => unfold maxLen; omega
        case b2 => omega
        case b3 => have := (hbel.trans ((below_drewN wr nq).mono zw)).size; simp at this; simp; omega
        case next =>
          intro v4 w4 hown4 hgrow4 hnil4
          have hgo := ((unhide hown).kept (grown_drewN wr nq) (Or.inr (by simp [Value.ownBlock]))).lt g rfl
          have hbel4 : Below (w.heap.size + 1) (w.alloc (.cells #[.slice (some ⟨b, off, none⟩) xs.length cap] 25)) w4 := ((hbel.trans ((below_drewN wr nq).mono zw)).alloc (by have := (hbel.trans ((below_drewN wr nq).mono zw)).size; simp at this; omega) _).grown hgrow4 (by have := (hbel.trans ((below_drewN wr nq).mono zw)).size; simp at this; simp; omega) (fun q hq => by simp [Value.ownBlock] at hq; omega)
          obtain ⟨g4, c4, rfl⟩ := owns_bval hown4 (by simp [hnil4])
          rw [show [Value.bool true] = [.bool (stTo xs ts (k + 1))] by rw [unhide HV], ← stsTo_succ] at hown4
          have HW4 := hide hown4
          clear hown4 hgrow4 hnil4
          go_wp2
          exact ⟨⟨k + 1, g4, c4, by omega, by go_num, rfl, HW4, hbel4⟩, by simp [intOf]; omega⟩
      · have g1 : ((atT ts k).k == 1) = false := by simp; omega
        have g2 : ((atT ts k).k == 2) = true := by simp; omega
        have g5 : ((atT ts k).k == 5) = false := by simp; omega
        have g3 : ((atT ts k).k == 3) = false := by simp; omega
        have HV := hide (show stTo xs ts (k + 1) = true by simp [stTo, endsOf, h3]; omega)
        clear h3
        go_wp2_with fail
        go_quiet (fail)
        go_wp2_with (at_builtin; refine wpList_append_own _ rfl (.tmp 49) (.tmp 51) 92 rfl (w.heap.size + 1) 4 i0 _ 1 1 Tryz.underlying92 (unhide HI) (unhide HZ).1 (unhide HZ).2.1 (unhide HZ).2.2 rfl (by decide) _ (k + 1) (cellsBo (stsTo xs ts k)) rfl (((unhide hown).kept (grown_drewN wr nq) (Or.inr (by simp [Value.ownBlock]))).alloc _) ⟨(wr.drewN nq).heap.size, 0, none⟩ 1 1 [.bool true] rfl rfl (new_newsB (wr.drewN nq) true) (by simp [Value.oneCell']) ?b1 ?b2 ?b3 ?next)
        case b1 => unfold maxLen; omega
        case b2 => omega
        case b3 => have := (hbel.trans ((below_drewN wr nq).mono zw)).size; simp at this; simp; omega
        case next =>
          intro v4 w4 hown4 hgrow4 hnil4
          have hgo := ((unhide hown).kept (grown_drewN wr nq) (Or.inr (by simp [Value.ownBlock]))).lt g rfl
          have hbel4 : Below (w.heap.size + 1) (w.alloc (.cells #[.slice (some ⟨b, off, none⟩) xs.length cap] 25)) w4 := ((hbel.trans ((below_drewN wr nq).mono zw)).alloc (by have := (hbel.trans ((below_drewN wr nq).mono zw)).size; simp at this; omega) _).grown hgrow4 (by have := (hbel.trans ((below_drewN wr nq).mono zw)).size; simp at this; simp; omega) (fun q hq => by simp [Value.ownBlock] at hq; omega)
          obtain ⟨g4, c4, rfl⟩ := owns_bval hown4 (by simp [hnil4])
          rw [show [Value.bool true] = [.bool (stTo xs ts (k + 1))] by rw [unhide HV], ← stsTo_succ] at hown4
          have HW4 := hide hown4
          clear hown4 hgrow4 hnil4
          go_wp2
          exact ⟨⟨k + 1, g4, c4, by omega, by go_num, rfl, HW4, hbel4⟩, by simp [intOf]; omega⟩
      · have g1 : ((atT ts k).k == 1) = false := by simp; omega
        have g2 : ((atT ts k).k == 2) = false := by simp; omega
        have g5 : ((atT ts k).k == 5) = true := by simp; omega
        have g3 : ((atT ts k).k == 3) = false := by simp; omega
        have HV := hide (show stTo xs ts (k + 1) = true by simp [stTo, endsOf, h3]; omega)
        clear h3
        go_wp2_with fail
        go_quiet (fail)
        go_wp2_with (at_builtin; refine wpList_append_own _ rfl (.tmp 49) (.tmp 51) 92 rfl (w.heap.size + 1) 4 i0 _ 1 1 Tryz.underlying92 (unhide HI) (unhide HZ).1 (unhide HZ).2.1 (unhide HZ).2.2 rfl (by decide) _ (k + 1) (cellsBo (stsTo xs ts k)) rfl (((unhide hown).kept (grown_drewN wr nq) (Or.inr (by simp [Value.ownBlock]))).alloc _) ⟨(wr.drewN nq).heap.size, 0, none⟩ 1 1 [.bool true] rfl rfl (new_newsB (wr.drewN nq) true) (by simp [Value.oneCell']) ?b1 ?b2 ?b3 ?next)
        case b1 => unfold maxLen; omega
        case b2 => omega
        case b3 => have := (hbel.trans ((below_drewN wr nq).mono zw)).size; simp at this; simp; omega
        case next =>
          intro v4 w4 hown4 hgrow4 hnil4
          have hgo := ((unhide hown).kept (grown_drewN wr nq) (Or.inr (by simp [Value.ownBlock]))).lt g rfl
          have hbel4 : Below (w.heap.size + 1) (w.alloc (.cells #[.slice (some ⟨b, off, none⟩) xs.length cap] 25)) w4 := ((hbel.trans ((below_drewN wr nq).mono zw)).alloc (by have := (hbel.trans ((below_drewN wr nq).mono zw)).size; simp at this; omega) _).grown hgrow4 (by have := (hbel.trans ((below_drewN wr nq).mono zw)).size; simp at this; simp; omega) (fun q hq => by simp [Value.ownBlock] at hq; omega)
          obtain ⟨g4, c4, rfl⟩ := owns_bval hown4 (by simp [hnil4])
          rw [show [Value.bool true] = [.bool (stTo xs ts (k + 1))] by rw [unhide HV], ← stsTo_succ] at hown4
          have HW4 := hide hown4
          clear hown4 hgrow4 hnil4
          go_wp2
          exact ⟨⟨k + 1, g4, c4, by omega, by go_num, rfl, HW4, hbel4⟩, by simp [intOf]; omega⟩
      · have g1 : ((atT ts k).k == 1) = false := by simp; omega
        have g2 : ((atT ts k).k == 2) = false := by simp; omega
        have g5 : ((atT ts k).k == 5) = false := by simp; omega
        have g3 : ((atT ts k).k == 3) = false := by simp; omega
        have HV := hide (show stTo xs ts (k + 1) = false by simp [stTo, endsOf, h3]; omega)
        clear h3
        go_wp2_with fail
        go_quiet (fail)
        go_wp2_with (at_builtin; refine wpList_append_own _ rfl (.tmp 49) (.tmp 51) 92 rfl (w.heap.size + 1) 4 i0 _ 1 1 Tryz.underlying92 (unhide HI) (unhide HZ).1 (unhide HZ).2.1 (unhide HZ).2.2 rfl (by decide) _ (k + 1) (cellsBo (stsTo xs ts k)) rfl (((unhide hown).kept (grown_drewN wr nq) (Or.inr (by simp [Value.ownBlock]))).alloc _) ⟨(wr.drewN nq).heap.size, 0, none⟩ 1 1 [.bool false] rfl rfl (new_newsB (wr.drewN nq) false) (by simp [Value.oneCell']) ?b1 ?b2 ?b3 ?next)
        case b1 => unfold maxLen; omega
        case b2 => omega
        case b3 => have := (hbel.trans ((below_drewN wr nq).mono zw)).size; simp at this; simp; omega
        case next =>
          intro v4 w4 hown4 hgrow4 hnil4
          have hgo := ((unhide hown).kept (grown_drewN wr nq) (Or.inr (by simp [Value.ownBlock]))).lt g rfl
          have hbel4 : Below (w.heap.size + 1) (w.alloc (.cells #[.slice (some ⟨b, off, none⟩) xs.length cap] 25)) w4 := ((hbel.trans ((below_drewN wr nq).mono zw)).alloc (by have := (hbel.trans ((below_drewN wr nq).mono zw)).size; simp at this; omega) _).grown hgrow4 (by have := (hbel.trans ((below_drewN wr nq).mono zw)).size; simp at this; simp; omega) (fun q hq => by simp [Value.ownBlock] at hq; omega)
          obtain ⟨g4, c4, rfl⟩ := owns_bval hown4 (by simp [hnil4])
          rw [show [Value.bool false] = [.bool (stTo xs ts (k + 1))] by rw [unhide HV], ← stsTo_succ] at hown4
          have HW4 := hide hown4
          clear hown4 hgrow4 hnil4
          go_wp2
          exact ⟨⟨k + 1, g4, c4, by omega, by go_num, rfl, HW4, hbel4⟩, by simp [intOf]; omega⟩
    · have HX := hide (show k = ts.length by omega)
      have hg := (unhide hown).lt g rfl
      have hcs := hide (fun i (hi : i ≤ k) => ((unhide hown).cellAt i (by omega)).trans (stsTo_at xs ts k i hi))
      go_wp2
      go_ret
      have e := unhide HX
      subst e
      exact ⟨⟨g, c, rfl, by omega, hg.2, fun i hi => (unhide hcs) i hi⟩, hbw⟩
end Go.Proofs.YtfboipappaonhaaGreat

/-
  Walks: the specification's Roles: one role.
-/
namespace Go.Proofs.YtfboipappaonhaaGreat
set_option maxRecDepth 100000
set_option linter.unusedSimpArgs false
open Go.RowKit

set_option maxHeartbeats 4000000 in
theorem l2Role_any (b off cap b' off' cap' i : Nat) (bh : Bool) (xs : List OpR) (ts : List TokR) (w : World) (hmx : xs.length ≤ 1048576) (hm : ts.length ≤ 1048576) (hi : i < ts.length) (hw : Ops w b off xs) (hB : b < w.heap.size) (hw' : OpsT w b' off' ts) (hB' : b' < w.heap.size) :
    Calls Tryz.prog 108 #[.agg #[.slice (some ⟨b, off, none⟩) xs.length cap], .slice (some ⟨b', off', none⟩) ts.length cap', .int .i64 (i : Int), .bool bh] w fun e w' => e = .returned (.int .i64 (roleS xs ts i bh)) ∧ Below w.heap.size w w' := by
  have HW := hide (hw.below (below1 w (.cells #[.slice (some ⟨b, off, none⟩) xs.length cap] 25)) hB)
  have HT := hide (hw'.below (below1 w (.cells #[.slice (some ⟨b, off, none⟩) xs.length cap] 25)) hB')
  have c0 : (w.alloc (.cells #[.slice (some ⟨b, off, none⟩) xs.length cap] 25)).cell? ⟨w.heap.size, 0, none⟩ = some (.slice (some ⟨b, off, none⟩) xs.length cap) := by simp [go_sem]
  obtain ⟨a0, a1, a2⟩ := (hw' i hi).below (below1 w (.cells #[.slice (some ⟨b, off, none⟩) xs.length cap] 25)) hB'
  clear hw hw'
  have hltI : (i : Int) < (ts.length : Int) := by omega
  have bel0 := below1 w (.cells #[.slice (some ⟨b, off, none⟩) xs.length cap] 25)
  have z0 : w.heap.size + 1 = (w.alloc (.cells #[.slice (some ⟨b, off, none⟩) xs.length cap] 25)).heap.size := by simp
  have hk : (atT ts i).k = 1 ∨ (atT ts i).k = 2 ∨ (atT ts i).k = 4 ∨ (atT ts i).k = 3 ∨ (atT ts i).k = 5 ∨ (atT ts i).k = 7 ∨ ((atT ts i).k ≠ 1 ∧ (atT ts i).k ≠ 2 ∧ (atT ts i).k ≠ 4 ∧ (atT ts i).k ≠ 3 ∧ (atT ts i).k ≠ 5 ∧ (atT ts i).k ≠ 7) := by omega
  have LB0 : b < (w.alloc (.cells #[.slice (some ⟨b, off, none⟩) xs.length cap] 25)).heap.size := by simp; omega
  have LW0 : w.heap.size < (w.alloc (.cells #[.slice (some ⟨b, off, none⟩) xs.length cap] 25)).heap.size := by simp
  have LT0 : b' < (w.alloc (.cells #[.slice (some ⟨b, off, none⟩) xs.length cap] 25)).heap.size := by simp; omega
  have HT1 := hide (fun n => (unhide HT).below (below_drewN _ n) LT0)
  have HT2 := hide (fun n m => ((unhide HT).below (below_drewN _ n) LT0).below (below_drewN _ m) LT0)
  cases bh
  case false =>
    rcases hk with hk | hk | hk | hk | hk | hk | hk
    · have hk' := hide hk
      have g1 : ((atT ts i).k == 1) = true := by simp; omega
      have g2 : ((atT ts i).k == 2) = false := by simp; omega
      have g4 : ((atT ts i).k == 4) = false := by simp; omega
      have g3 : ((atT ts i).k == 3) = false := by simp; omega
      have g5 : ((atT ts i).k == 5) = false := by simp; omega
      have g7 : ((atT ts i).k == 7) = false := by simp; omega
      clear hk
      go_enter Tryz.func108, Tryz.ntmps108
      go_wp2_with fail
      go_ret
      exact ⟨ret_int (by simp [roleS, unhide hk']), bel0⟩
    · have hk' := hide hk
      have g1 : ((atT ts i).k == 1) = false := by simp; omega
      have g2 : ((atT ts i).k == 2) = true := by simp; omega
      have g4 : ((atT ts i).k == 4) = false := by simp; omega
      have g3 : ((atT ts i).k == 3) = false := by simp; omega
      have g5 : ((atT ts i).k == 5) = false := by simp; omega
      have g7 : ((atT ts i).k == 7) = false := by simp; omega
      clear hk
      go_enter Tryz.func108, Tryz.ntmps108
      go_wp2_with fail
      go_ret
      exact ⟨ret_int (by simp [roleS, unhide hk']), bel0⟩
    · have hk' := hide hk
      have g1 : ((atT ts i).k == 1) = false := by simp; omega
      have g2 : ((atT ts i).k == 2) = false := by simp; omega
      have g4 : ((atT ts i).k == 4) = true := by simp; omega
      have g3 : ((atT ts i).k == 3) = false := by simp; omega
      have g5 : ((atT ts i).k == 5) = false := by simp; omega
      have g7 : ((atT ts i).k == 7) = false := by simp; omega
      clear hk
      go_enter Tryz.func108, Tryz.ntmps108
      go_wp2_with fail
      go_ret
      exact ⟨ret_int (by simp [roleS, unhide hk']), bel0⟩
    · have hk' := hide hk
      have g1 : ((atT ts i).k == 1) = false := by simp; omega
      have g2 : ((atT ts i).k == 2) = false := by simp; omega
      have g4 : ((atT ts i).k == 4) = false := by simp; omega
      have g3 : ((atT ts i).k == 3) = true := by simp; omega
      have g5 : ((atT ts i).k == 5) = false := by simp; omega
      have g7 : ((atT ts i).k == 7) = false := by simp; omega
      clear hk
      go_enter Tryz.func108, Tryz.ntmps108
      go_wp2_with fail
      go_region_held (fun w' => w'.cell? ⟨w.heap.size, 0, none⟩ = some (.slice (some ⟨b, off, none⟩) xs.length cap) ∧ w'.cell? ⟨b', off' + i * 3 + 2, none⟩ = some (.string (atT ts i).t)) (go_keep) (first | (go_at_call 97; refine (l2Find_any b off cap xs (atT ts i).t 1 _ hmx ((unhide HW).below (Below.refl _ _).drew LB0) LB0).mono ?_; rintro e w1 ⟨⟨r1, rfl, hr1⟩, hb1⟩; have HR1 := hide hr1; have HB1 := hide hb1; have c1 := (hb1.cell (p := ⟨w.heap.size, 0, none⟩) LW0).trans (show (w.alloc (.cells #[.slice (some ⟨b, off, none⟩) xs.length cap] 25)).drew.cell? ⟨w.heap.size, 0, none⟩ = _ from c0); have d1 := (hb1.cell (p := ⟨b', off' + i * 3 + 2, none⟩) LT0).trans (show (w.alloc (.cells #[.slice (some ⟨b, off, none⟩) xs.length cap] 25)).drew.cell? ⟨b', off' + i * 3 + 2, none⟩ = _ from a2); clear hr1 hb1))
      by_cases p1 : 0 ≤ r1
      · have hp : hasB xs (atT ts i).t 1 = true := (hasB_iff _ _ _).2 ((unhide HR1).1 p1)
        have HP := hide hp
        clear hp
        go_wp2_with fail
        go_ret
        exact ⟨ret_int (by simp [roleS, unhide hk', unhide HP]), bel0.trans (((Below.refl _ _).drew.trans (unhide HB1)).mono (Nat.le_of_lt LW0))⟩
      · have hp : hasB xs (atT ts i).t 1 = false := by
          cases h : hasB xs (atT ts i).t 1
          · rfl
          · exact absurd ((unhide HR1).2 ((hasB_iff _ _ _).1 h)) p1
        have HP := hide hp
        clear hp
        have p1' : decide (0 ≤ r1) = false := decide_eq_false p1
        go_wp2_with fail
        go_ret
        exact ⟨ret_int (by simp [roleS, unhide hk', unhide HP]), bel0.trans (((Below.refl _ _).drew.trans (unhide HB1)).mono (Nat.le_of_lt LW0))⟩
    · have hk' := hide hk
      have g1 : ((atT ts i).k == 1) = false := by simp; omega
      have g2 : ((atT ts i).k == 2) = false := by simp; omega
      have g4 : ((atT ts i).k == 4) = false := by simp; omega
      have g3 : ((atT ts i).k == 3) = false := by simp; omega
      have g5 : ((atT ts i).k == 5) = true := by simp; omega
      have g7 : ((atT ts i).k == 7) = false := by simp; omega
      clear hk
      go_enter Tryz.func108, Tryz.ntmps108
      go_wp2_with fail
      go_quiet (fail)
      go_wp2_with fail
      go_ret
      exact ⟨ret_int (by have := unhide hk'; simp [roleS, this]), ⟨bel0.os, bel0.tape, bel0.output, bel0.size, bel0.block⟩⟩
    · have hk' := hide hk
      have g1 : ((atT ts i).k == 1) = false := by simp; omega
      have g2 : ((atT ts i).k == 2) = false := by simp; omega
      have g4 : ((atT ts i).k == 4) = false := by simp; omega
      have g3 : ((atT ts i).k == 3) = false := by simp; omega
      have g5 : ((atT ts i).k == 5) = false := by simp; omega
      have g7 : ((atT ts i).k == 7) = true := by simp; omega
      clear hk
      go_enter Tryz.func108, Tryz.ntmps108
      go_wp2_with fail
      go_quiet (fail)
      go_wp2_with fail
      go_ret
      exact ⟨ret_int (by have := unhide hk'; simp [roleS, this]), ⟨bel0.os, bel0.tape, bel0.output, bel0.size, bel0.block⟩⟩
    · have hk' := hide hk
      have g1 : ((atT ts i).k == 1) = false := by simp; omega
      have g2 : ((atT ts i).k == 2) = false := by simp; omega
      have g4 : ((atT ts i).k == 4) = false := by simp; omega
      have g3 : ((atT ts i).k == 3) = false := by simp; omega
      have g5 : ((atT ts i).k == 5) = false := by simp; omega
      have g7 : ((atT ts i).k == 7) = false := by simp; omega
      clear hk
      go_enter Tryz.func108, Tryz.ntmps108
      go_wp2_with fail
      go_quiet (fail)
      go_wp2_with fail
      go_ret
      exact ⟨ret_int (by have := unhide hk'; simp [roleS, this]), ⟨bel0.os, bel0.tape, bel0.output, bel0.size, bel0.block⟩⟩
  case true =>
    rcases hk with hk | hk | hk | hk | hk | hk | hk
    · have hk' := hide hk
      have g1 : ((atT ts i).k == 1) = true := by simp; omega
      have g2 : ((atT ts i).k == 2) = false := by simp; omega
      have g4 : ((atT ts i).k == 4) = false := by simp; omega
      have g3 : ((atT ts i).k == 3) = false := by simp; omega
      have g5 : ((atT ts i).k == 5) = false := by simp; omega
      have g7 : ((atT ts i).k == 7) = false := by simp; omega
      clear hk
      go_enter Tryz.func108, Tryz.ntmps108
      go_wp2_with fail
      go_quiet (fail)
      go_wp2_with fail
      go_quiet (fail)
      go_wp2_with fail
      go_ret
      exact ⟨ret_int (by have := unhide hk'; simp [roleS, this]), ⟨bel0.os, bel0.tape, bel0.output, bel0.size, bel0.block⟩⟩
    · have hk' := hide hk
      have g1 : ((atT ts i).k == 1) = false := by simp; omega
      have g2 : ((atT ts i).k == 2) = true := by simp; omega
      have g4 : ((atT ts i).k == 4) = false := by simp; omega
      have g3 : ((atT ts i).k == 3) = false := by simp; omega
      have g5 : ((atT ts i).k == 5) = false := by simp; omega
      have g7 : ((atT ts i).k == 7) = false := by simp; omega
      clear hk
      go_enter Tryz.func108, Tryz.ntmps108
      go_wp2_with fail
      go_quiet (fail)
      go_wp2_with fail
      go_quiet (fail)
      go_wp2_with fail
      go_ret
      exact ⟨ret_int (by have := unhide hk'; simp [roleS, this]), ⟨bel0.os, bel0.tape, bel0.output, bel0.size, bel0.block⟩⟩
    · have hk' := hide hk
      have g1 : ((atT ts i).k == 1) = false := by simp; omega
      have g2 : ((atT ts i).k == 2) = false := by simp; omega
      have g4 : ((atT ts i).k == 4) = true := by simp; omega
      have g3 : ((atT ts i).k == 3) = false := by simp; omega
      have g5 : ((atT ts i).k == 5) = false := by simp; omega
      have g7 : ((atT ts i).k == 7) = false := by simp; omega
      clear hk
      go_enter Tryz.func108, Tryz.ntmps108
      go_wp2_with fail
      go_quiet (fail)
      go_wp2_with fail
      go_quiet (fail)
      go_wp2_with fail
      go_ret
      exact ⟨ret_int (by have := unhide hk'; simp [roleS, this]), ⟨bel0.os, bel0.tape, bel0.output, bel0.size, bel0.block⟩⟩
    · have hk' := hide hk
      have g1 : ((atT ts i).k == 1) = false := by simp; omega
      have g2 : ((atT ts i).k == 2) = false := by simp; omega
      have g4 : ((atT ts i).k == 4) = false := by simp; omega
      have g3 : ((atT ts i).k == 3) = true := by simp; omega
      have g5 : ((atT ts i).k == 5) = false := by simp; omega
      have g7 : ((atT ts i).k == 7) = false := by simp; omega
      clear hk
      go_enter Tryz.func108, Tryz.ntmps108
      go_wp2_with fail
      go_region_held (fun w' => w'.cell? ⟨w.heap.size, 0, none⟩ = some (.slice (some ⟨b, off, none⟩) xs.length cap) ∧ w'.cell? ⟨b', off' + i * 3 + 2, none⟩ = some (.string (atT ts i).t)) (go_keep) (first | (go_at_call 97; refine (l2Find_any b off cap xs (atT ts i).t 2 _ hmx ((unhide HW).below (Below.refl _ _).drew LB0) LB0).mono ?_; rintro e w1 ⟨⟨r1, rfl, hr1⟩, hb1⟩; have HR1 := hide hr1; have HB1 := hide hb1; have c1 := (hb1.cell (p := ⟨w.heap.size, 0, none⟩) LW0).trans (show (w.alloc (.cells #[.slice (some ⟨b, off, none⟩) xs.length cap] 25)).drew.cell? ⟨w.heap.size, 0, none⟩ = _ from c0); have d1 := (hb1.cell (p := ⟨b', off' + i * 3 + 2, none⟩) LT0).trans (show (w.alloc (.cells #[.slice (some ⟨b, off, none⟩) xs.length cap] 25)).drew.cell? ⟨b', off' + i * 3 + 2, none⟩ = _ from a2); clear hr1 hb1))
      have LB1 : b < w1.heap.size := Nat.lt_of_lt_of_le LB0 (unhide HB1).size
      have LW1 : w.heap.size < w1.heap.size := Nat.lt_of_lt_of_le LW0 (unhide HB1).size
      have LT1 : b' < w1.heap.size := Nat.lt_of_lt_of_le LT0 (unhide HB1).size
      have bel1 := bel0.trans (((Below.refl _ _).drew.trans (unhide HB1)).mono (Nat.le_of_lt LW0))
      by_cases p1 : 0 ≤ r1
      · have HP := hide (show hasB xs (atT ts i).t 2 = true from (hasB_iff _ _ _).2 ((unhide HR1).1 p1))
        go_wp2_with fail
        go_ret
        exact ⟨ret_int (by simp [roleS, unhide hk', unhide HP]), bel1⟩
      · have HP := hide (show hasB xs (atT ts i).t 2 = false by
          cases h : hasB xs (atT ts i).t 2
          · rfl
          · exact absurd ((unhide HR1).2 ((hasB_iff _ _ _).1 h)) p1)
        have p1' : decide (0 ≤ r1) = false := decide_eq_false p1
        go_wp2_with fail
        go_region_held (fun w' => w'.cell? ⟨w.heap.size, 0, none⟩ = some (.slice (some ⟨b, off, none⟩) xs.length cap) ∧ w'.cell? ⟨b', off' + i * 3 + 2, none⟩ = some (.string (atT ts i).t)) (go_keep) (first | (go_at_call 97; refine (l2Find_any b off cap xs (atT ts i).t 3 _ hmx (((unhide HW).below ((Below.refl _ _).drew.trans (unhide HB1)) LB0).below (Below.refl _ _).drew LB1) LB1).mono ?_; rintro e w2 ⟨⟨r2, rfl, hr2⟩, hb2⟩; have HR2 := hide hr2; have HB2 := hide hb2; have c2 := (hb2.cell (p := ⟨w.heap.size, 0, none⟩) LW1).trans (show w1.drew.cell? ⟨w.heap.size, 0, none⟩ = _ from c1); have d2 := (hb2.cell (p := ⟨b', off' + i * 3 + 2, none⟩) LT1).trans (show w1.drew.cell? ⟨b', off' + i * 3 + 2, none⟩ = _ from d1); clear hr2 hb2))
        have bel2 := bel1.trans (((Below.refl _ _).drew.trans (unhide HB2)).mono (Nat.le_of_lt LW1))
        by_cases p2 : 0 ≤ r2
        · have HP2 := hide (show hasB xs (atT ts i).t 3 = true from (hasB_iff _ _ _).2 ((unhide HR2).1 p2))
          go_wp2_with fail
          go_ret
          exact ⟨ret_int (by simp [roleS, unhide hk', unhide HP, unhide HP2]), bel2⟩
        · have HP2 := hide (show hasB xs (atT ts i).t 3 = false by
            cases h : hasB xs (atT ts i).t 3
            · rfl
            · exact absurd ((unhide HR2).2 ((hasB_iff _ _ _).1 h)) p2)
          have p2' : decide (0 ≤ r2) = false := decide_eq_false p2
          go_wp2_with fail
          go_ret
          exact ⟨ret_int (by simp [roleS, unhide hk', unhide HP, unhide HP2]), bel2⟩
    · have hk' := hide hk
      have g1 : ((atT ts i).k == 1) = false := by simp; omega
      have g2 : ((atT ts i).k == 2) = false := by simp; omega
      have g4 : ((atT ts i).k == 4) = false := by simp; omega
      have g3 : ((atT ts i).k == 3) = false := by simp; omega
      have g5 : ((atT ts i).k == 5) = true := by simp; omega
      have g7 : ((atT ts i).k == 7) = false := by simp; omega
      clear hk
      by_cases ho : 0 < opI ts i
      · have HO := hide ho
        go_enter Tryz.func108, Tryz.ntmps108
        go_wp2_with fail
        go_quiet (fail)
        go_wp2_with fail
        go_quiet (fail)
        go_wp2_with (go_at_call 148; refine (l2Open_any b' off' cap' i ts _ hm (Nat.le_of_lt hi) (by first | exact (unhide HT2) _ _ | exact (unhide HT1) _)).mono ?_; rintro e w3 ⟨rfl, hx⟩; obtain rfl := hx.symm)
        go_ret
        exact ⟨ret_int (by simp [roleS, unhide hk', unhide HO]), ⟨bel0.os, bel0.tape, bel0.output, bel0.size, bel0.block⟩⟩
      · have HO := hide ho
        have ho' : decide (0 < opI ts i) = false := decide_eq_false ho
        go_enter Tryz.func108, Tryz.ntmps108
        go_wp2_with fail
        go_quiet (fail)
        go_wp2_with fail
        go_quiet (fail)
        go_wp2_with (go_at_call 148; refine (l2Open_any b' off' cap' i ts _ hm (Nat.le_of_lt hi) (by first | exact (unhide HT2) _ _ | exact (unhide HT1) _)).mono ?_; rintro e w3 ⟨rfl, hx⟩; obtain rfl := hx.symm)
        go_ret
        exact ⟨ret_int (by simp [roleS, unhide hk', unhide HO]), ⟨bel0.os, bel0.tape, bel0.output, bel0.size, bel0.block⟩⟩
    · have hk' := hide hk
      have g1 : ((atT ts i).k == 1) = false := by simp; omega
      have g2 : ((atT ts i).k == 2) = false := by simp; omega
      have g4 : ((atT ts i).k == 4) = false := by simp; omega
      have g3 : ((atT ts i).k == 3) = false := by simp; omega
      have g5 : ((atT ts i).k == 5) = false := by simp; omega
      have g7 : ((atT ts i).k == 7) = true := by simp; omega
      clear hk
      by_cases ho : opI ts i = 0
      · have HO := hide ho
        have ho' : (opI ts i == 0) = true := by simpa using ho
        by_cases hl : i + 1 = ts.length
        · have HL := hide hl
          have hl' : ((i : Int) == (ts.length : Int) - 1) = true := by simp; omega
          go_enter Tryz.func108, Tryz.ntmps108
          go_wp2_with fail
          go_quiet (fail)
          go_wp2_with fail
          go_quiet (fail)
          go_wp2_with (go_at_call 148; refine (l2Open_any b' off' cap' i ts _ hm (Nat.le_of_lt hi) (by first | exact (unhide HT2) _ _ | exact (unhide HT1) _)).mono ?_; rintro e w3 ⟨rfl, hx⟩; obtain rfl := hx.symm)
          go_ret
          exact ⟨ret_int (by simp [roleS, unhide hk', unhide HO, unhide HL]), ⟨bel0.os, bel0.tape, bel0.output, bel0.size, bel0.block⟩⟩
        · have HL := hide hl
          have hl' : ((i : Int) == (ts.length : Int) - 1) = false := by simp; omega
          go_enter Tryz.func108, Tryz.ntmps108
          go_wp2_with fail
          go_quiet (fail)
          go_wp2_with fail
          go_quiet (fail)
          go_wp2_with (go_at_call 148; refine (l2Open_any b' off' cap' i ts _ hm (Nat.le_of_lt hi) (by first | exact (unhide HT2) _ _ | exact (unhide HT1) _)).mono ?_; rintro e w3 ⟨rfl, hx⟩; obtain rfl := hx.symm)
          go_ret
          exact ⟨ret_int (by simp [roleS, unhide hk', unhide HO, unhide HL]), ⟨bel0.os, bel0.tape, bel0.output, bel0.size, bel0.block⟩⟩
      · have HO := hide ho
        have ho' : (opI ts i == 0) = false := by simpa using ho
        go_enter Tryz.func108, Tryz.ntmps108
        go_wp2_with fail
        go_quiet (fail)
        go_wp2_with fail
        go_quiet (fail)
        go_wp2_with (go_at_call 148; refine (l2Open_any b' off' cap' i ts _ hm (Nat.le_of_lt hi) (by first | exact (unhide HT2) _ _ | exact (unhide HT1) _)).mono ?_; rintro e w3 ⟨rfl, hx⟩; obtain rfl := hx.symm)
        go_ret
        exact ⟨ret_int (by simp [roleS, unhide hk', unhide HO]), ⟨bel0.os, bel0.tape, bel0.output, bel0.size, bel0.block⟩⟩
    · have hk' := hide hk
      have g1 : ((atT ts i).k == 1) = false := by simp; omega
      have g2 : ((atT ts i).k == 2) = false := by simp; omega
      have g4 : ((atT ts i).k == 4) = false := by simp; omega
      have g3 : ((atT ts i).k == 3) = false := by simp; omega
      have g5 : ((atT ts i).k == 5) = false := by simp; omega
      have g7 : ((atT ts i).k == 7) = false := by simp; omega
      clear hk
      go_enter Tryz.func108, Tryz.ntmps108
      go_wp2_with fail
      go_quiet (fail)
      go_wp2_with fail
      go_quiet (fail)
      go_wp2_with fail
      go_ret
      exact ⟨ret_int (by have := unhide hk'; simp [roleS, this]), ⟨bel0.os, bel0.tape, bel0.output, bel0.size, bel0.block⟩⟩
end Go.Proofs.YtfboipappaonhaaGreat

/-
  Walk: the specification's Roles.
-/
namespace Go.Proofs.YtfboipappaonhaaGreat
set_option maxRecDepth 100000
set_option linter.unusedSimpArgs false
open Go.RowKit

theorem infoInt' : (Tryz.prog.info? 3).map (fun i => (i.zero, i.size, i.bytes)) = some (some (.int .i64 0), 1, 8) := by kernel_rfl

theorem new_newsI' (w : World) (v : Int) : ∀ j u, (cellsI [v])[j]? = some u → (w.alloc (.cells #[.int .i64 v] 3)).cell? ((⟨w.heap.size, 0, none⟩ : Addr).add j) = some u := by
  intro j u hj
  rw [Addr.add_mid]
  have := World.rangeAt_of_block (w := w.alloc (.cells #[.int .i64 v] 3)) (b := w.heap.size) (heap_alloc_new w _) 0 1
  exact this j u (by simpa [cellsI] using hj)

theorem filledI_nil {w : World} {g : Nat} (h : g < w.heap.size) : FilledI w g [] 0 := ⟨h, fun j hj => absurd hj (Nat.not_lt_zero j), fun i hi => absurd hi (Nat.not_lt_zero i)⟩

theorem code_apart {xs : List OpR} (h : IsCode xs 0) : Apart23 xs := by
  apply apart_of
  rcases h with ⟨h, _⟩ | ⟨_, ⟨h, _⟩ | ⟨_, ⟨h, _⟩ | ⟨h, _⟩⟩⟩
  · exact absurd h (by decide)
  · exact absurd h (by decide)
  · exact absurd h (by decide)
  · exact h

set_option maxHeartbeats 4000000 in
theorem specRoles_any (b off cap b' off' cap' : Nat) (xs : List OpR) (ts : List TokR) (w : World) (hmx : xs.length ≤ 1048576) (hm : ts.length ≤ 1048576) (hw : Ops w b off xs) (hsz : Sized xs) (hB : b < w.heap.size) (hw' : OpsT w b' off' ts) (hB' : b' < w.heap.size) :
    Calls Tryz.prog 58 #[.agg #[.slice (some ⟨b, off, none⟩) xs.length cap], .slice (some ⟨b', off', none⟩) ts.length cap'] w fun e w' => (∃ (g c : Nat) (us : List Int) (v : Int), e = .returned (.tuple #[.slice (some ⟨g, 0, none⟩) us.length c, .int .i64 v]) ∧ w.heap.size ≤ g ∧ FilledI w' g us us.length ∧ RolesIs xs (IsCode xs 0) ts us v) ∧ Below w.heap.size w w' := by
  have HW := hide hw
  have HS := hide hsz
  have HT := hide hw'
  clear hw hsz hw'
  go_enter Tryz.func58, Tryz.ntmps58
  go_wp2_with fail
  refine (specTableOk_any b off cap xs _ hmx ((unhide HW).below ((below1 _ _).alloc (by simp) _) hB) (unhide HS) (by simp; omega)).mono ?_
  rintro e w1 ⟨⟨c, rfl, hc⟩, hb1⟩
  have HC := hide hc
  have z1 : w.heap.size + 2 ≤ w1.heap.size := by have := hb1.size; simp at this; omega
  have bel1 : Below w.heap.size w w1 := ((below1 _ _).alloc (by simp) _).trans (hb1.mono (by simp; omega))
  have HO := hide (show w1.ownsRow (w.heap.size + 1) 3 1 (.slice (some ⟨w.heap.size + 1, 0, none⟩) 0 0) 0 (cellsI []) by
    have h0 := World.ownsRow_lit (base := w.heap.size + 1) (e := 3) (size := 1) (w.alloc (.cells #[.slice (some ⟨b, off, none⟩) xs.length cap] 25)) #[] 0 (by simp) (Nat.zero_le _) rfl
    have h1 := h0.kept (grown_bel hb1 none) (Or.inr (by simp [Value.ownBlock]))
    simpa [cellsI] using h1)
  have c1 : w1.cell? ⟨w.heap.size, 0, none⟩ = some (.slice (some ⟨b, off, none⟩) xs.length cap) := by rw [hb1.cell (p := ⟨w.heap.size, 0, none⟩) (by simp; omega)]; simp [go_sem]
  clear hb1 hc
  by_cases hc0 : c = 0
  case neg =>
    have hc0' : (c != 0) = true := by simpa using hc0
    have HN := hide (show ¬ IsCode xs 0 from fun h => hc0 (IsCode_one (unhide HC) h))
    clear hc0
    go_wp2_with fail
    go_ret2
    exact ⟨⟨w.heap.size + 1, 0, [], 0, rfl, by omega, filledI_nil (by omega), Or.inl ⟨unhide HN, rfl, rfl⟩⟩, bel1⟩
  subst hc0
  have HAP := hide (code_apart (unhide HC))
  go_wp2_with fail
  refine (l2States_any b off cap b' off' cap' xs ts _ hmx hm ((unhide HW).below bel1 hB) (by omega) ((unhide HT).below bel1 hB') (by omega)).mono ?_
  rintro e w2 ⟨⟨gs, cst, rfl, hgsl, hgs, hst⟩, hb2⟩
  have HSS := hide hst
  have bel2 := bel1.trans (hb2.mono bel1.size)
  have HO2 := hide ((unhide HO).kept (grown_bel hb2 none) (Or.inr (by simp [Value.ownBlock])))
  have c2 := (hb2.cell (p := ⟨w.heap.size, 0, none⟩) (show w.heap.size < w1.heap.size by omega)).trans c1
  have z2 : w.heap.size + 2 ≤ w2.heap.size := Nat.le_trans z1 hb2.size
  have HGS := hide (show w1.heap.size ≤ gs from hgsl)
  clear hst hb2 HO c1
  obtain ⟨i0, hi0, hz0, hz1, hz2⟩ := info_parts infoInt'
  have HI0 := hide hi0
  have HZ0 := hide (And.intro hz0 (And.intro hz1 hz2))
  clear hi0 hz0 hz1 hz2
  go_wp2_with fail
  go_loopw [6, 8] (fun ov iv wr => ∃ (k g c : Nat), k ≤ ts.length ∧ iv = .int .i64 (k : Int) ∧ ov = .slice (some ⟨g, 0, none⟩) k c ∧ Hid (FitTo xs ts k) ∧ Hid (wr.ownsRow (w.heap.size + 1) 3 1 (.slice (some ⟨g, 0, none⟩) k c) k (cellsI (rolesTo xs ts k))) ∧ Hid (wr.cell? ⟨w.heap.size, 0, none⟩ = some (.slice (some ⟨b, off, none⟩) xs.length cap)) ∧ Hid (∀ i, i ≤ ts.length → wr.cell? ⟨gs, i, none⟩ = some (.bool (stTo xs ts i))) ∧ gs < wr.heap.size ∧ w.heap.size + 2 ≤ wr.heap.size ∧ Hid (Below w.heap.size w wr) ∧ Hid (g ≠ gs)) (fun _ iv _ => ts.length - (intOf iv).toNat)
  case atStart => exact ⟨0, w.heap.size + 1, 0, Nat.zero_le _, rfl, rfl, hide (fun i hi => by omega), HO2, hide c2, HSS, hgs, z2, hide bel2, hide (by have := unhide HGS; omega)⟩
  case round =>
    clear HO2 HSS c2 z2 bel2 hgs
    obtain ⟨k, g, c, hk, rfl, rfl, hfit, hown, hc0, hss, hgs, hz, hbl, hgg⟩ := hrel
    have e0 := unhide hc0
    by_cases hlt : k < ts.length
    · have hltI : (k : Int) < (ts.length : Int) := by omega
      have hltI' : (k : Int) < ((ts.length + 1 : Nat) : Int) := by omega
      have hltI2 : (k : Int) < (ts.length : Int) + 1 := by omega
      have s0 := (unhide hss) k (by omega)
      have hB2 : b < wr.heap.size := by omega
      have hB2' : b' < wr.heap.size := by omega
      have zw : w.heap.size < wr.heap.size := by omega
      go_wp2_with fail
      go_region_held (fun w' => w'.cell? ⟨w.heap.size, 0, none⟩ = some (.slice (some ⟨b, off, none⟩) xs.length cap) ∧ w'.cell? ⟨gs, k, none⟩ = some (.bool (stTo xs ts k))) (go_keep) (first | (go_at_call 108; refine (l2Role_any b off cap b' off' cap' k (stTo xs ts k) xs ts _ hmx hm hlt ((unhide HW).below (unhide hbl).drew hB) hB2 ((unhide HT).below (unhide hbl).drew hB') hB2').mono ?_; rintro e w3 ⟨rfl, hb3⟩; have q0 := (hb3.cell (p := ⟨w.heap.size, 0, none⟩) zw).trans (show wr.drew.cell? ⟨w.heap.size, 0, none⟩ = _ from e0); have q1 := (hb3.cell (p := ⟨gs, k, none⟩) hgs).trans (show wr.drew.cell? ⟨gs, k, none⟩ = _ from s0); have HB3 := hide hb3; clear hb3))
      have hre := role_eq (unhide HAP) k hlt (unhide hfit)
      rw [hre]
      have hbd : Below wr.heap.size wr w3 := (Below.refl _ _).drew.trans (unhide HB3)
      have HO3 := hide ((unhide hown).kept (grown_bel hbd none) (Or.inr (by simp [Value.ownBlock])))
      have HB4 := hide ((unhide hbl).trans (hbd.mono (unhide hbl).size))
      have HS4 := hide (fun i (hi : i ≤ ts.length) => (hbd.cell (p := ⟨gs, i, none⟩) hgs).trans ((unhide hss) i hi))
      have z3 : wr.heap.size ≤ w3.heap.size := hbd.size
      clear hbd hown hbl hss hre HB3 e0 s0 hc0
      by_cases hr : roleTo xs ts k < 0
      · have HR := hide hr
        go_wp2_with fail
        go_ret2
        exact ⟨⟨w3.heap.size, 0, [], (k : Int), rfl, by omega, filledI_nil (by simp), Or.inr ⟨unhide HC, Or.inl ⟨k, hlt, unhide hfit, unhide HR, rfl, rfl⟩⟩⟩, (unhide HB4).alloc (by omega) _⟩
      have hr0 : 0 ≤ roleTo xs ts k := by omega
      have HFI := hide (show FitTo xs ts (k + 1) from fun i hi => by
        by_cases e : i = k
        · subst e; exact hr0
        · exact (unhide hfit) i (by omega))
      have hgl := (unhide HO3).lt g rfl
      go_wp2_with (at_builtin; refine wpList_append_lies _ rfl (.tmp 36) (.tmp 38) 79 rfl (w.heap.size + 1) 3 i0 _ 1 8 Tryz.underlying79 (unhide HI0) (unhide HZ0).1 (unhide HZ0).2.1 (unhide HZ0).2.2 rfl (by decide) _ k (cellsI (rolesTo xs ts k)) rfl ((unhide HO3).alloc _) ⟨w3.heap.size, 0, none⟩ 1 1 (cellsI [roleTo xs ts k]) rfl rfl (new_newsI' w3 (roleTo xs ts k)) (cellsI_one _) (by decide) ?b1 ?b2 ?b3 _ rfl ?next)
      case b1 => unfold maxLen; omega
      case b2 => omega
      case b3 => first | omega | (simp; omega)
      case next =>
        intro g4 c4 w4 hown4 hgrow4 hor4 hlt4
        have hbel4 : Below w.heap.size w w4 := ((unhide HB4).alloc (by omega) _).grown hgrow4 (by simp; omega) (fun q hq => by simp [Value.ownBlock] at hq; omega)
        have hfar : ∀ bb, bb < w3.heap.size → bb ≠ g → w4.heap[bb]? = w3.heap[bb]? := fun bb h1 h2 => (hgrow4.block bb (by simp; omega) (by simp [Value.ownBlock]; omega)).trans ((below1 w3 _).block bb h1)
        have q4 : w4.cell? ⟨w.heap.size, 0, none⟩ = some (.slice (some ⟨b, off, none⟩) xs.length cap) := (World.cell?_of_block (hfar w.heap.size (by omega) (by omega))).trans q0
        have hgne := unhide hgg
        have HS5 := hide (fun i (hi : i ≤ ts.length) => (World.cell?_of_block (w := w3) (a := ⟨gs, i, none⟩) (hfar gs (by omega) (fun e => hgne e.symm))).trans ((unhide HS4) i hi))
        have hg4 : g4 ≠ gs := by
          rcases hor4 with h | h
          · simp [Value.ownBlock] at h; omega
          · first | omega | (simp at h; omega)
        rw [← cellsI_append, ← rolesTo_succ] at hown4
        have HO4 := hide hown4
        have hz4 : w3.heap.size ≤ w4.heap.size := by have := hgrow4.size; simp at this; omega
        have HBB := hide hbel4
        have HQ4 := hide q4
        clear hown4 hgrow4 hor4 hfar hbel4 HO3 HB4 HS4 q4 q0 q1 hgg
        go_wp2
        exact ⟨⟨k + 1, g4, c4, by omega, by go_num, rfl, HFI, HO4, HQ4, HS5, by omega, by omega, HBB, hide hg4⟩, by simp [intOf]; omega⟩
    · obtain rfl : k = ts.length := by omega
      by_cases hn : ts.length = 0
      · have hn' : ((ts.length : Int) == 0) = true := beq_iff_eq.2 (by omega)
        have HN := hide hn
        clear hn
        go_wp2_with fail
        go_ret2
        refine ⟨⟨wr.heap.size, 0, [], (ts.length : Int), rfl, by omega, filledI_nil (by simp), Or.inr ⟨unhide HC, Or.inr ⟨unhide hfit, Or.inr ⟨fun h => by have := unhide HN; omega, rfl, rfl⟩⟩⟩⟩, ?_⟩
        first
          | exact (unhide hbl).alloc (by omega) _
          | (have hb := (unhide hbl).alloc (by omega : w.heap.size ≤ wr.heap.size) (.cells #[] 3); exact ⟨hb.os, hb.tape, hb.output, hb.size, hb.block⟩)
      · have hn' : ((ts.length : Int) == 0) = false := beq_eq_false_iff_ne.2 (by omega)
        obtain ⟨a0, a1, a2⟩ := ((unhide HT) (ts.length - 1) (by omega)).below (unhide hbl) hB'
        have hi1 : (ts.length : Int) - 1 = ((ts.length - 1 : Nat) : Int) := by omega
        have hi2 : ((ts.length - 1 : Nat) : Int) < (ts.length : Int) := by omega
        have hi3 : ((ts.length : Int) - 1).toNat = ts.length - 1 := by omega
        have hi4 : (ts.length : Int) - 1 < (ts.length : Int) := by omega
        have hi5 : (0 : Int) ≤ (ts.length : Int) - 1 := by omega
        by_cases h7 : (atT ts (ts.length - 1)).k = 7
        · have h7' : ((atT ts (ts.length - 1)).k != 7) = false := by simpa using h7
          have H7 := hide h7
          clear h7
          go_wp2_with fail
          go_ret2
          have ho := unhide hown
          have hlen : (rolesTo xs ts ts.length).length = ts.length := rolesTo_len _ _ _
          obtain ⟨hg, hf⟩ := owns_filledI (zs := rolesTo xs ts ts.length) (by rw [hlen]; exact ho)
          exact ⟨⟨g, c, rolesTo xs ts ts.length, -1, by rw [hlen]; rfl, by omega, hf, Or.inr ⟨unhide HC, Or.inr ⟨unhide hfit, Or.inl ⟨⟨by omega, unhide H7⟩, rfl, rfl⟩⟩⟩⟩, unhide hbl⟩
        · have h7' : ((atT ts (ts.length - 1)).k != 7) = true := by simpa using h7
          have H7 := hide h7
          clear h7
          go_wp2_with fail
          go_ret2
          exact ⟨⟨wr.heap.size, 0, [], (ts.length : Int), rfl, by omega, filledI_nil (by simp), Or.inr ⟨unhide HC, Or.inr ⟨unhide hfit, Or.inr ⟨fun h => (unhide H7) h.2, rfl, rfl⟩⟩⟩⟩, (unhide hbl).alloc (by omega) _⟩
end Go.Proofs.YtfboipappaonhaaGreat
