/-
  Walk: the operator that words declare, in the specification (l5OpOf).
-/
import Derived.Test.YtokabkhnidlcnabDoorOpwM
import Derived.Deep.DeepCutAuto
import Derived.Deep.RegionHeld
namespace Go.Proofs.YtokabkhnidlcnabDoor
set_option maxRecDepth 100000
set_option linter.unusedSimpArgs false
set_option linter.unusedVariables false
open Go.RowKit

set_option maxHeartbeats 4000000 in
theorem l5OpOf_few (a : Option Addr) (c n : Nat) (w : World) (hn : n < 3) :
    Calls Tryd.prog 11 #[.slice a n c] w fun e w' => (∃ o : OpR, e = .returned (.tuple #[.agg #[.string o.s, .int .i64 o.k, .int .i64 o.l, .int .i64 o.sd], .bool false])) ∧ Below w.heap.size w w' := by
  have hnI : (n : Int) < 3 := by omega
  go_enter Tryd.func11, Tryd.ntmps11
  go_wp2
  refine bodyPost_ret (v := .tuple #[.agg #[.string ⟨#[]⟩, .int .i64 0, .int .i64 0, .int .i64 0], .bool false]) ?res rfl ⟨⟨OpR.zero, rfl⟩, ?_⟩
  case res => simp [results, Tryd.results11, go_sem]
  exact below1 _ _

set_option maxHeartbeats 8000000 in
theorem l5OpOf_core (g c n : Nat) (k t l sd : ByteArray) (w : World) (hn : 3 ≤ n) (hsl : l.size ≤ maxLen) (c0 : w.cell? ⟨g, 0, none⟩ = some (.string k)) (c1 : w.cell? ⟨g, 1, none⟩ = some (.string t)) (c2 : w.cell? ⟨g, 2, none⟩ = some (.string l)) (c3 : 4 ≤ n → w.cell? ⟨g, 3, none⟩ = some (.string sd)) :
    Calls Tryd.prog 11 #[.slice (some ⟨g, 0, none⟩) n c] w (OpwPost w n k t l sd) := by
  have hg : g < w.heap.size := World.block_lt_of_cell? _ _ c0
  have hg2 : g ≠ w.heap.size := by omega
  have hnI : ¬ (n : Int) < 3 := by omega
  have hnI0 : (0 : Int) < (n : Int) := by omega
  have hnI1 : (1 : Int) < (n : Int) := by omega
  have hnI2 : (2 : Int) < (n : Int) := by omega
  have HC3 := hide c3
  clear c3
  cases hl : levB l
  · have HL := hide (show levI l = -1 by unfold levI; rw [hl]; rfl)
    have HA := hide (ans_none (n := n) (k := k) (t := t) (sd := sd) hl)
    clear hl
    go_enter Tryd.func11, Tryd.ntmps11
    go_wp2_with (go_at_call 22; refine (l5Level_any l _ hsl).mono ?_; rw [unhide HL]; rintro e w1 ⟨rfl, hx⟩; obtain rfl := hx.symm; clear hx)
    refine bodyPost_ret (v := .tuple #[.agg #[.string ⟨#[]⟩, .int .i64 0, .int .i64 0, .int .i64 0], .bool false]) ?res rfl ⟨OpR.zero, false, rfl, Or.inr ⟨rfl, unhide HA⟩, ?_⟩
    case res => simp [results, Tryd.results11, go_sem]
    exact below1 _ _
  obtain ⟨V, hV⟩ : ∃ V : Nat, V = valTo l l.size := ⟨_, rfl⟩
  have HL := hide (show levI l = (V : Int) by unfold levI; rw [hl, hV]; rfl)
  have HLB := hide hl
  have HX := hide (show ∀ W : World, Calls Tryd.prog 22 #[.string l] W fun e w' => e = .returned (.int .i64 (V : Int)) ∧ w' = W from fun W => by have h := l5Level_any l W hsl; rw [unhide HL] at h; exact h)
  have HV := hide hV
  clear hl hV
  go_enter Tryd.func11, Tryd.ntmps11
  go_wp2_with (go_at_call 22; refine (l5Level_any l _ hsl).mono ?_; rw [unhide HL]; rintro e w1 ⟨rfl, hx⟩; obtain rfl := hx.symm; clear hx)
  go_cut [4] (fun s4 wc => ∃ b4 : Nat, s4 = .pointer (some ⟨b4, 0, none⟩) ∧ w.heap.size < b4 ∧ b4 < wc.heap.size ∧ Hid (OpCells wc b4 ⟨t, 0, (V : Int), 0⟩) ∧ Hid (OpCells wc w.heap.size OpR.zero) ∧ Hid (Below w.heap.size w wc))
  case first =>
    go_region_held (fun w' => w'.cell? ⟨g, 1, none⟩ = some (.string t) ∧ w'.cell? ⟨g, 2, none⟩ = some (.string l)) (go_keep)
      (first | (go_at_call 22; have HX1 := (unhide HX); (with_reducible refine (HX1 _).mono ?_); rintro e w1 ⟨rfl, hx⟩; obtain rfl := hx.symm; clear hx HX1))
    all_goals
      go_wp2_with fail
      go_meet
      case rel =>
        go_light
        exact ⟨w.heap.size + 1, rfl, by omega, by simp, hide ⟨⟨by simp [go_sem], by simp [go_sem], by simp [go_sem], by simp [go_sem]⟩, by simp [go_sem], by simp [go_sem], by simp [go_sem], by simp [go_sem]⟩, hide ⟨⟨by simp [go_sem, OpR.zero], by simp [go_sem, OpR.zero], by simp [go_sem, OpR.zero], by simp [go_sem, OpR.zero]⟩, by simp [go_sem], by simp [go_sem], by simp [go_sem], by simp [go_sem]⟩, hide (((below1 _ _).alloc (by simp) _).drew)⟩
  case rest =>
    obtain ⟨b4, rfl, hb4, hb4l, HB4, HB0, HBW⟩ := hcut
    have HS := hide (fun W : World => l5Side_any sd W)
    obtain ⟨⟨p0, p1, p2, p3⟩, f0, f1, f2, f3⟩ := unhide HB4
    obtain ⟨⟨r0, r1, r2, r3⟩, z0, z1, z2, z3⟩ := unhide HB0
    simp only [OpR.zero] at p0 p1 p2 p3 r0 r1 r2 r3
    have k0 : wc.cell? ⟨g, 0, none⟩ = some (.string k) := ((unhide HBW).cell (p := ⟨g, 0, none⟩) hg).trans c0
    have e1 : b4 ≠ w.heap.size := by omega
    have e2 : w.heap.size ≠ b4 := by omega
    have e3 : b4 ≠ g := by omega
    have e4 : g ≠ b4 := by omega
    have HK3 := hide (show 4 ≤ n → wc.cell? ⟨g, 3, none⟩ = some (.string sd) from fun h => ((unhide HBW).cell (p := ⟨g, 3, none⟩) hg).trans ((unhide HC3) h))
    clear HB4 HB0 HC3 c0 c1 c2 HX HL
    cases q1 : (k.toList == [112, 114, 101, 102, 105, 120])
    case true =>
      have q2 : (k.toList == [112, 111, 115, 116, 102, 105, 120]) = false := lit_no (by rw [lit_true q1]; decide)
      have q3 : (k.toList == [105, 110, 102, 105, 120]) = false := lit_no (by rw [lit_true q1]; decide)
      have HA0 := hide (ans_prefix (n := n) (t := t) (sd := sd) (unhide HLB) (lit_true q1))
      by_cases h3 : n = 3
      · have HA := hide (show opAns n k t l sd = some ⟨t, 1, (V : Int), 0⟩ by rw [unhide HA0, if_pos h3, unhide HV])
        have h3I : ((n : Int) == 3) = true := by simp; omega
        clear h3 HA0
        go_wp2
        refine bodyPost_ret (v := .tuple #[.agg #[.string t, .int .i64 1, .int .i64 (V : Int), .int .i64 0], .bool true]) ?res rfl ⟨⟨t, 1, (V : Int), 0⟩, true, rfl, Or.inl ⟨rfl, unhide HA⟩, ?_⟩
        case res => simp [results, Tryd.results11, go_sem, r0, r1, r2, r3, e1, e2, e3, e4]
        first
          | exact below_setCells (Nat.le_refl _) [.string t, .int .i64 1, .int .i64 (V : Int), .int .i64 0] 0 _ ((unhide HBW).setCell (p := ⟨b4, 1, none⟩) (by show w.heap.size ≤ b4; omega) _)
          | exact below_setCells (Nat.le_refl _) [.string t, .int .i64 1, .int .i64 (V : Int), .int .i64 0] 0 _ (((unhide HBW).setCell (p := ⟨b4, 1, none⟩) (by show w.heap.size ≤ b4; omega) _).setCell (p := ⟨b4, 3, none⟩) (by show w.heap.size ≤ b4; omega) _)
      · have HA := hide (show opAns n k t l sd = none by rw [unhide HA0, if_neg h3])
        have h3I : ((n : Int) == 3) = false := by simp; omega
        clear h3 HA0
        go_wp2_with (first | (go_at_call 23; (with_reducible refine ((unhide HS) _).mono ?_); rintro e w1 ⟨rfl, hx⟩; obtain rfl := hx.symm; clear hx))
        refine bodyPost_ret (v := .tuple #[.agg #[.string ⟨#[]⟩, .int .i64 0, .int .i64 0, .int .i64 0], .bool false]) ?res rfl ⟨OpR.zero, false, rfl, Or.inr ⟨rfl, unhide HA⟩, ?_⟩
        case res => simp [results, Tryd.results11, go_sem, r0, r1, r2, r3]
        first
          | exact unhide HBW
          | exact below_setCells (Nat.le_refl _) [.string ⟨#[]⟩, .int .i64 0, .int .i64 0, .int .i64 0] 0 _ (unhide HBW)
    cases q2 : (k.toList == [112, 111, 115, 116, 102, 105, 120])
    case true =>
      have q3 : (k.toList == [105, 110, 102, 105, 120]) = false := lit_no (by rw [lit_true q2]; decide)
      have HA0 := hide (ans_postfix (n := n) (t := t) (sd := sd) (unhide HLB) (lit_true q2))
      by_cases h3 : n = 3
      · have HA := hide (show opAns n k t l sd = some ⟨t, 3, (V : Int), 0⟩ by rw [unhide HA0, if_pos h3, unhide HV])
        have h3I : ((n : Int) == 3) = true := by simp; omega
        clear h3 HA0
        go_wp2
        refine bodyPost_ret (v := .tuple #[.agg #[.string t, .int .i64 3, .int .i64 (V : Int), .int .i64 0], .bool true]) ?res rfl ⟨⟨t, 3, (V : Int), 0⟩, true, rfl, Or.inl ⟨rfl, unhide HA⟩, ?_⟩
        case res => simp [results, Tryd.results11, go_sem, r0, r1, r2, r3, e1, e2, e3, e4]
        first
          | exact below_setCells (Nat.le_refl _) [.string t, .int .i64 3, .int .i64 (V : Int), .int .i64 0] 0 _ ((unhide HBW).setCell (p := ⟨b4, 1, none⟩) (by show w.heap.size ≤ b4; omega) _)
          | exact below_setCells (Nat.le_refl _) [.string t, .int .i64 3, .int .i64 (V : Int), .int .i64 0] 0 _ (((unhide HBW).setCell (p := ⟨b4, 1, none⟩) (by show w.heap.size ≤ b4; omega) _).setCell (p := ⟨b4, 3, none⟩) (by show w.heap.size ≤ b4; omega) _)
      · have HA := hide (show opAns n k t l sd = none by rw [unhide HA0, if_neg h3])
        have h3I : ((n : Int) == 3) = false := by simp; omega
        clear h3 HA0
        go_wp2_with (first | (go_at_call 23; (with_reducible refine ((unhide HS) _).mono ?_); rintro e w1 ⟨rfl, hx⟩; obtain rfl := hx.symm; clear hx))
        refine bodyPost_ret (v := .tuple #[.agg #[.string ⟨#[]⟩, .int .i64 0, .int .i64 0, .int .i64 0], .bool false]) ?res rfl ⟨OpR.zero, false, rfl, Or.inr ⟨rfl, unhide HA⟩, ?_⟩
        case res => simp [results, Tryd.results11, go_sem, r0, r1, r2, r3]
        first
          | exact unhide HBW
          | exact below_setCells (Nat.le_refl _) [.string ⟨#[]⟩, .int .i64 0, .int .i64 0, .int .i64 0] 0 _ (unhide HBW)
    cases q3 : (k.toList == [105, 110, 102, 105, 120])
    case true =>
      have HA0 := hide (ans_infix (n := n) (t := t) (sd := sd) (unhide HLB) (lit_true q3))
      by_cases h4 : n = 4
      · have h4I : ((n : Int) == 4) = true := by simp; omega
        have h4J : (3 : Int) < (n : Int) := by omega
        have k3 := (unhide HK3) (by omega)
        obtain ⟨S, hS⟩ : ∃ S : Int, S = sideW sd := ⟨_, rfl⟩
        have HSS := hide hS
        have HSC := side_cases sd
        rw [← hS] at HSC HS
        by_cases hs0 : S = 0
        · have HA := hide (show opAns n k t l sd = none by rw [unhide HA0, if_neg (fun x => x.2 (hS.symm.trans hs0))])
          have hsI : ¬ (0 : Int) < S := by omega
          clear hs0 HA0 hS HSC h4
          go_wp2_with (first | (go_at_call 23; (with_reducible refine ((unhide HS) _).mono ?_); rintro e w1 ⟨rfl, hx⟩; obtain rfl := hx.symm; clear hx))
          refine bodyPost_ret (v := .tuple #[.agg #[.string ⟨#[]⟩, .int .i64 0, .int .i64 0, .int .i64 0], .bool false]) ?res rfl ⟨OpR.zero, false, rfl, Or.inr ⟨rfl, unhide HA⟩, ?_⟩
          case res => simp [results, Tryd.results11, go_sem, r0, r1, r2, r3]
          first
            | exact unhide HBW
            | exact below_setCells (Nat.le_refl _) [.string ⟨#[]⟩, .int .i64 0, .int .i64 0, .int .i64 0] 0 _ (unhide HBW)
        · have HA := hide (show opAns n k t l sd = some ⟨t, 2, (V : Int), S⟩ by rw [unhide HA0, if_pos ⟨h4, fun x => hs0 (hS.trans x)⟩, unhide HV, hS])
          have hsI : (0 : Int) < S := by omega
          clear hs0 HA0 hS HSC h4
          go_wp2_with (first | (go_at_call 23; (with_reducible refine ((unhide HS) _).mono ?_); rintro e w1 ⟨rfl, hx⟩; obtain rfl := hx.symm; clear hx))
          refine bodyPost_ret (v := .tuple #[.agg #[.string t, .int .i64 2, .int .i64 (V : Int), .int .i64 S], .bool true]) ?res rfl ⟨⟨t, 2, (V : Int), S⟩, true, rfl, Or.inl ⟨rfl, unhide HA⟩, ?_⟩
          case res => simp [results, Tryd.results11, go_sem, r0, r1, r2, r3, e1, e2, e3, e4]
          exact below_setCells (Nat.le_refl _) [.string t, .int .i64 2, .int .i64 (V : Int), .int .i64 S] 0 _ (((unhide HBW).setCell (p := ⟨b4, 1, none⟩) (by show w.heap.size ≤ b4; omega) _).setCell (p := ⟨b4, 3, none⟩) (by show w.heap.size ≤ b4; omega) _)
      · have HA := hide (show opAns n k t l sd = none by rw [unhide HA0, if_neg (fun x => h4 x.1)])
        have h4I : ((n : Int) == 4) = false := by simp; omega
        clear h4 HA0
        go_wp2_with (first | (go_at_call 23; (with_reducible refine ((unhide HS) _).mono ?_); rintro e w1 ⟨rfl, hx⟩; obtain rfl := hx.symm; clear hx))
        refine bodyPost_ret (v := .tuple #[.agg #[.string ⟨#[]⟩, .int .i64 0, .int .i64 0, .int .i64 0], .bool false]) ?res rfl ⟨OpR.zero, false, rfl, Or.inr ⟨rfl, unhide HA⟩, ?_⟩
        case res => simp [results, Tryd.results11, go_sem, r0, r1, r2, r3]
        first
          | exact unhide HBW
          | exact below_setCells (Nat.le_refl _) [.string ⟨#[]⟩, .int .i64 0, .int .i64 0, .int .i64 0] 0 _ (unhide HBW)
    have HA := hide (ans_other (n := n) (t := t) (l := l) (sd := sd) (lit_false q1) (lit_false q2) (lit_false q3))
    go_wp2_with (first | (go_at_call 23; (with_reducible refine ((unhide HS) _).mono ?_); rintro e w1 ⟨rfl, hx⟩; obtain rfl := hx.symm; clear hx))
    refine bodyPost_ret (v := .tuple #[.agg #[.string ⟨#[]⟩, .int .i64 0, .int .i64 0, .int .i64 0], .bool false]) ?res rfl ⟨OpR.zero, false, rfl, Or.inr ⟨rfl, unhide HA⟩, ?_⟩
    case res => simp [results, Tryd.results11, go_sem, r0, r1, r2, r3]
    first
      | exact unhide HBW
      | exact below_setCells (Nat.le_refl _) [.string ⟨#[]⟩, .int .i64 0, .int .i64 0, .int .i64 0] 0 _ (unhide HBW)
end Go.Proofs.YtokabkhnidlcnabDoor
