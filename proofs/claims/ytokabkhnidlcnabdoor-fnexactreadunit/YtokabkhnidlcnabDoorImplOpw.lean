/-
  Walk: the operator that words declare, in the program (declaredOp).
-/
import Derived.Test.YtokabkhnidlcnabDoorOpwM
import Derived.Test.YtokabkhnidlcnabDoorLibUnit
import Derived.Deep.DeepCutAuto
import Derived.Deep.RegionHeld
namespace Go.Proofs.YtokabkhnidlcnabDoor
set_option maxRecDepth 100000
set_option linter.unusedSimpArgs false
set_option linter.unusedVariables false
open Go.RowKit

set_option maxHeartbeats 4000000 in
theorem declaredOp_few (a : Option Addr) (c n : Nat) (w : World) (hn : n < 3) :
    Calls Tryd.prog 26 #[.slice a n c] w fun e w' => (∃ o : OpR, e = .returned (.tuple #[.agg #[.string o.s, .int .i64 o.k, .int .i64 o.l, .int .i64 o.sd], .bool false])) ∧ Below w.heap.size w w' := by
  have hnI : (n : Int) < 3 := by omega
  go_enter Tryd.func26, Tryd.ntmps26
  go_wp2
  refine bodyPost_ret (v := .tuple #[.agg #[.string ⟨#[]⟩, .int .i64 0, .int .i64 0, .int .i64 0], .bool false]) ?res rfl ⟨⟨OpR.zero, rfl⟩, ?_⟩
  case res => simp [results, Tryd.results26, go_sem]
  exact below1 _ _

theorem kind_is {k : ByteArray} : (kindW k = 1 ∧ k = wPrefix) ∨ (kindW k = 2 ∧ k = wInfix) ∨ (kindW k = 3 ∧ k = wPostfix) ∨ (kindW k = 0 ∧ k ≠ wPrefix ∧ k ≠ wInfix ∧ k ≠ wPostfix) := by
  unfold kindW
  by_cases h1 : k = wPrefix
  · rw [if_pos h1]; exact Or.inl ⟨rfl, h1⟩
  by_cases h2 : k = wInfix
  · rw [if_neg h1, if_pos h2]; exact Or.inr (Or.inl ⟨rfl, h2⟩)
  by_cases h3 : k = wPostfix
  · rw [if_neg h1, if_neg h2, if_pos h3]; exact Or.inr (Or.inr (Or.inl ⟨rfl, h3⟩))
  · rw [if_neg h1, if_neg h2, if_neg h3]; exact Or.inr (Or.inr (Or.inr ⟨rfl, h1, h2, h3⟩))

set_option maxHeartbeats 8000000 in
theorem declaredOp_core (g c n : Nat) (k t l sd : ByteArray) (w : World) (hn : 3 ≤ n) (hsl : l.size ≤ maxLen) (c0 : w.cell? ⟨g, 0, none⟩ = some (.string k)) (c1 : w.cell? ⟨g, 1, none⟩ = some (.string t)) (c2 : w.cell? ⟨g, 2, none⟩ = some (.string l)) (c3 : 4 ≤ n → w.cell? ⟨g, 3, none⟩ = some (.string sd)) :
    Calls Tryd.prog 26 #[.slice (some ⟨g, 0, none⟩) n c] w (OpwPost w n k t l sd) := by
  have hg : g < w.heap.size := World.block_lt_of_cell? _ _ c0
  have hg2 : g ≠ w.heap.size := by omega
  have hnI : ¬ (n : Int) < 3 := by omega
  have hnI0 : (0 : Int) < (n : Int) := by omega
  have hnI1 : (1 : Int) < (n : Int) := by omega
  have hnI2 : (2 : Int) < (n : Int) := by omega
  have HC3 := hide c3
  clear c3
  cases hl : levB l
  · have HX := hide (show ∀ W : World, Calls Tryd.prog 32 #[.string l] W fun e w' => e = .returned (.bool false) ∧ w' = W from fun W => by have h := isLevelWord_any l W hsl; rw [hl] at h; exact h)
    have HA := hide (ans_none (n := n) (k := k) (t := t) (sd := sd) hl)
    clear hl
    go_enter Tryd.func26, Tryd.ntmps26
    go_wp2_with (go_at_call 32; (with_reducible refine ((unhide HX) _).mono ?_); rintro e w1 ⟨rfl, hx⟩; obtain rfl := hx.symm; clear hx)
    refine bodyPost_ret (v := .tuple #[.agg #[.string ⟨#[]⟩, .int .i64 0, .int .i64 0, .int .i64 0], .bool false]) ?res rfl ⟨OpR.zero, false, rfl, Or.inr ⟨rfl, unhide HA⟩, ?_⟩
    case res => simp [results, Tryd.results26, go_sem]
    exact below1 _ _
  obtain ⟨V, hV⟩ : ∃ V : Nat, V = valTo l l.size := ⟨_, rfl⟩
  have HX := hide (show ∀ W : World, Calls Tryd.prog 32 #[.string l] W fun e w' => e = .returned (.bool true) ∧ w' = W from fun W => by have h := isLevelWord_any l W hsl; rw [hl] at h; exact h)
  have HT := hide (show ∀ W : World, Calls Tryd.prog 33 #[.string l] W fun e w' => e = .returned (.tuple #[.int .i64 (V : Int), .nilIface]) ∧ Below W.heap.size W w' from fun W => by have h := atoi_at l hl W; rw [← hV] at h; exact h)
  have HLB := hide hl
  have HV := hide hV
  clear hl hV
  obtain ⟨KI, hKI⟩ : ∃ KI : Int, KI = kindW k := ⟨_, rfl⟩
  have HK := hide (show ∀ W : World, Calls Tryd.prog 34 #[.string k] W fun e w' => e = .returned (.int .i64 KI) ∧ w' = W from fun W => by rw [hKI]; exact kindOfWord_any k W)
  have HKI := hide hKI
  clear hKI
  have HZ := hide (show OpCells (w.alloc (.cells #[.string ⟨#[]⟩, .int .i64 0, .int .i64 0, .int .i64 0] 37)) w.heap.size OpR.zero from ⟨⟨by simp [go_sem, OpR.zero], by simp [go_sem, OpR.zero], by simp [go_sem, OpR.zero], by simp [go_sem, OpR.zero]⟩, by simp [go_sem], by simp [go_sem], by simp [go_sem], by simp [go_sem]⟩)
  go_enter Tryd.func26, Tryd.ntmps26
  go_wp2_with (first | (go_at_call 32; (with_reducible refine ((unhide HX) _).mono ?_); rintro e w1 ⟨rfl, hx⟩; obtain rfl := hx.symm; clear hx) | (go_at_call 33; (with_reducible refine ((unhide HT) _).mono ?_); rintro e w1 ⟨rfl, hb1⟩; have HB1 := hide ((below1 w _).trans (hb1.mono (by simp))); have HZ1 := hide ((unhide HZ).below hb1 (by simp)); have z1 : w.heap.size + 1 ≤ w1.heap.size := (by have := hb1.size; simp at this; omega); clear hb1))
  have d0 : w1.cell? ⟨g, 0, none⟩ = some (.string k) := ((unhide HB1).cell (p := ⟨g, 0, none⟩) hg).trans c0
  have d1 : w1.cell? ⟨g, 1, none⟩ = some (.string t) := ((unhide HB1).cell (p := ⟨g, 1, none⟩) hg).trans c1
  have HK3 := hide (show 4 ≤ n → w1.cell? ⟨g, 3, none⟩ = some (.string sd) from fun h => ((unhide HB1).cell (p := ⟨g, 3, none⟩) hg).trans ((unhide HC3) h))
  clear c0 c1 c2 HC3 HZ HX HT
  go_cut [6] (fun s4 wc => ∃ b4 : Nat, s4 = .pointer (some ⟨b4, 0, none⟩) ∧ w.heap.size < b4 ∧ b4 < wc.heap.size ∧ Hid (OpCells wc b4 ⟨t, KI, (V : Int), 0⟩) ∧ Hid (Below w1.heap.size w1 wc))
  case first =>
    have hg3 : g < w1.heap.size := by omega
    go_region_held (fun w' => w'.cell? ⟨g, 0, none⟩ = some (.string k) ∧ w'.cell? ⟨g, 1, none⟩ = some (.string t)) (go_keep)
      (first | (go_at_call 34; have HX1 := (unhide HK); (with_reducible refine (HX1 _).mono ?_); rintro e w2 ⟨rfl, hx⟩; obtain rfl := hx.symm; clear hx HX1))
    all_goals
      go_wp2_with fail
      go_meet
      case rel =>
        go_light
        exact ⟨w1.heap.size, rfl, by omega, by simp, hide ⟨⟨by simp [go_sem], by simp [go_sem], by simp [go_sem], by simp [go_sem]⟩, by simp [go_sem], by simp [go_sem], by simp [go_sem], by simp [go_sem]⟩, hide ((below1 _ _).drew)⟩
  case rest =>
    obtain ⟨b4, rfl, hb4, hb4l, HB4, HBC⟩ := hcut
    have HBW := hide ((unhide HB1).trans ((unhide HBC).mono (by omega)))
    have HB0 := hide ((unhide HZ1).below (unhide HBC) (by omega))
    obtain ⟨⟨p0, p1, p2, p3⟩, f0, f1, f2, f3⟩ := unhide HB4
    obtain ⟨⟨r0, r1, r2, r3⟩, z0, z1', z2, z3⟩ := unhide HB0
    simp only [OpR.zero] at p0 p1 p2 p3 r0 r1 r2 r3
    have e1 : b4 ≠ w.heap.size := by omega
    have e2 : w.heap.size ≠ b4 := by omega
    have e3 : b4 ≠ g := by omega
    have e4 : g ≠ b4 := by omega
    have HK4 := hide (show 4 ≤ n → wc.cell? ⟨g, 3, none⟩ = some (.string sd) from fun h => ((unhide HBC).cell (p := ⟨g, 3, none⟩) (by show g < w1.heap.size; omega)).trans ((unhide HK3) h))
    clear HB4 HB0 HK3 d0 d1 HK HZ1 HBC HB1
    rcases kind_is (k := k) with ⟨hk, hkw⟩ | ⟨hk, hkw⟩ | ⟨hk, hkw⟩ | ⟨hk, hk1, hk2, hk3⟩
    · have HA0 := hide (ans_prefix (n := n) (t := t) (sd := sd) (unhide HLB) hkw)
      obtain rfl : KI = 1 := (unhide HKI).trans hk
      by_cases h3 : n = 3
      · have HA := hide (show opAns n k t l sd = some ⟨t, 1, (V : Int), 0⟩ by rw [unhide HA0, if_pos h3, unhide HV])
        have h3I : ((n : Int) == 3) = true := by simp; omega
        clear h3 HA0 hk hkw HKI
        go_wp2
        refine bodyPost_ret (v := .tuple #[.agg #[.string t, .int .i64 1, .int .i64 (V : Int), .int .i64 0], .bool true]) ?res rfl ⟨⟨t, 1, (V : Int), 0⟩, true, rfl, Or.inl ⟨rfl, unhide HA⟩, ?_⟩
        case res => simp [results, Tryd.results26, go_sem, r0, r1, r2, r3, e1, e2, e3, e4]
        exact below_setCells (Nat.le_refl _) [.string t, .int .i64 1, .int .i64 (V : Int), .int .i64 0] 0 _ (unhide HBW)
      · have HA := hide (show opAns n k t l sd = none by rw [unhide HA0, if_neg h3])
        have h3I : ((n : Int) == 3) = false := by simp; omega
        clear h3 HA0 hk hkw HKI
        go_wp2
        refine bodyPost_ret (v := .tuple #[.agg #[.string t, .int .i64 1, .int .i64 (V : Int), .int .i64 0], .bool false]) ?res rfl ⟨⟨t, 1, (V : Int), 0⟩, false, rfl, Or.inr ⟨rfl, unhide HA⟩, ?_⟩
        case res => simp [results, Tryd.results26, go_sem, r0, r1, r2, r3, e1, e2, e3, e4]
        exact below_setCells (Nat.le_refl _) [.string t, .int .i64 1, .int .i64 (V : Int), .int .i64 0] 0 _ (unhide HBW)
    · have HA0 := hide (ans_infix (n := n) (t := t) (sd := sd) (unhide HLB) hkw)
      obtain rfl : KI = 2 := (unhide HKI).trans hk
      by_cases h4 : n = 4
      · have h4I : ((n : Int) == 4) = true := by simp; omega
        have h4J : (3 : Int) < (n : Int) := by omega
        have k3 := (unhide HK4) (by omega)
        obtain ⟨S, hS⟩ : ∃ S : Int, S = sideW sd := ⟨_, rfl⟩
        have HS := hide (show ∀ W : World, Calls Tryd.prog 35 #[.string sd] W fun e w' => e = .returned (.int .i64 S) ∧ w' = W from fun W => by rw [hS]; exact sideOfWord_any sd W)
        have HA := hide (show ∀ v : Bool, v = (S != 0) → (v = true ∧ opAns n k t l sd = some ⟨t, 2, (V : Int), S⟩) ∨ (v = false ∧ opAns n k t l sd = none) from fun v hv => by
          rw [unhide HA0]
          by_cases hs0 : S = 0
          · right
            exact ⟨by rw [hv]; simp [hs0], by rw [if_neg (fun x => x.2 (hS.symm.trans hs0))]⟩
          · left
            exact ⟨by rw [hv]; simp [hs0], by rw [if_pos ⟨h4, fun x => hs0 (hS.trans x)⟩, unhide HV, hS]⟩)
        clear HA0 hS h4 hk hkw HKI
        go_wp2_with (first | (go_at_call 35; (with_reducible refine ((unhide HS) _).mono ?_); rintro e w2 ⟨rfl, hx⟩; obtain rfl := hx.symm; clear hx))
        go_region
        go_wp2
        refine bodyPost_ret (v := .tuple #[.agg #[.string t, .int .i64 2, .int .i64 (V : Int), .int .i64 S], .bool (S != 0)]) ?res rfl ⟨⟨t, 2, (V : Int), S⟩, (S != 0), rfl, (unhide HA) _ rfl, ?_⟩
        case res => simp [results, Tryd.results26, go_sem, r0, r1, r2, r3, e1, e2, e3, e4]
        exact below_setCells (Nat.le_refl _) [.string t, .int .i64 2, .int .i64 (V : Int), .int .i64 S] 0 _ ((unhide HBW).setCell (p := ⟨b4, 3, none⟩) (by show w.heap.size ≤ b4; omega) _).drew
      · have HA := hide (show opAns n k t l sd = none by rw [unhide HA0, if_neg (fun x => h4 x.1)])
        have h4I : ((n : Int) == 4) = false := by simp; omega
        clear h4 HA0 hk hkw HKI
        go_wp2
        refine bodyPost_ret (v := .tuple #[.agg #[.string ⟨#[]⟩, .int .i64 0, .int .i64 0, .int .i64 0], .bool false]) ?res rfl ⟨OpR.zero, false, rfl, Or.inr ⟨rfl, unhide HA⟩, ?_⟩
        case res => simp [results, Tryd.results26, go_sem, r0, r1, r2, r3]
        first
          | exact unhide HBW
          | exact below_setCells (Nat.le_refl _) [.string ⟨#[]⟩, .int .i64 0, .int .i64 0, .int .i64 0] 0 _ (unhide HBW)
    · have HA0 := hide (ans_postfix (n := n) (t := t) (sd := sd) (unhide HLB) hkw)
      obtain rfl : KI = 3 := (unhide HKI).trans hk
      by_cases h3 : n = 3
      · have HA := hide (show opAns n k t l sd = some ⟨t, 3, (V : Int), 0⟩ by rw [unhide HA0, if_pos h3, unhide HV])
        have h3I : ((n : Int) == 3) = true := by simp; omega
        clear h3 HA0 hk hkw HKI
        go_wp2
        refine bodyPost_ret (v := .tuple #[.agg #[.string t, .int .i64 3, .int .i64 (V : Int), .int .i64 0], .bool true]) ?res rfl ⟨⟨t, 3, (V : Int), 0⟩, true, rfl, Or.inl ⟨rfl, unhide HA⟩, ?_⟩
        case res => simp [results, Tryd.results26, go_sem, r0, r1, r2, r3, e1, e2, e3, e4]
        exact below_setCells (Nat.le_refl _) [.string t, .int .i64 3, .int .i64 (V : Int), .int .i64 0] 0 _ (unhide HBW)
      · have HA := hide (show opAns n k t l sd = none by rw [unhide HA0, if_neg h3])
        have h3I : ((n : Int) == 3) = false := by simp; omega
        clear h3 HA0 hk hkw HKI
        go_wp2
        refine bodyPost_ret (v := .tuple #[.agg #[.string t, .int .i64 3, .int .i64 (V : Int), .int .i64 0], .bool false]) ?res rfl ⟨⟨t, 3, (V : Int), 0⟩, false, rfl, Or.inr ⟨rfl, unhide HA⟩, ?_⟩
        case res => simp [results, Tryd.results26, go_sem, r0, r1, r2, r3, e1, e2, e3, e4]
        exact below_setCells (Nat.le_refl _) [.string t, .int .i64 3, .int .i64 (V : Int), .int .i64 0] 0 _ (unhide HBW)
    · have HA := hide (ans_other (n := n) (t := t) (l := l) (sd := sd) hk1 hk3 hk2)
      obtain rfl : KI = 0 := (unhide HKI).trans hk
      clear hk hk1 hk2 hk3 HKI
      go_wp2
      refine bodyPost_ret (v := .tuple #[.agg #[.string ⟨#[]⟩, .int .i64 0, .int .i64 0, .int .i64 0], .bool false]) ?res rfl ⟨OpR.zero, false, rfl, Or.inr ⟨rfl, unhide HA⟩, ?_⟩
      case res => simp [results, Tryd.results26, go_sem, r0, r1, r2, r3]
      first
        | exact unhide HBW
        | exact below_setCells (Nat.le_refl _) [.string ⟨#[]⟩, .int .i64 0, .int .i64 0, .int .i64 0] 0 _ (unhide HBW)
end Go.Proofs.YtokabkhnidlcnabDoor
