import Derived.Deep.DeepCutAuto
import Derived.Deep.RegionHeld
import Derived.Deep.AppendLies
import Derived.Test.YtokabkhnidlcnabGreatDoorL09
import Derived.Test.YtokabkhnidlcnabGreatDoorL10
import Derived.Test.YtokabkhnidlcnabGreatDoorL21

/-
  Walk: the operator that words declare, in the program (declaredOp).
-/
namespace Go.Proofs.YtokabkhnidlcnabGreatDoor
set_option maxRecDepth 100000
set_option linter.unusedSimpArgs false
set_option linter.unusedVariables false
open Go.RowKit

set_option maxHeartbeats 4000000 in
theorem declaredOp_few (a : Option Addr) (c n : Nat) (w : World) (hn : n < 3) :
    Calls Tryz.prog 71 #[.slice a n c] w fun e w' => (∃ o : OpR, e = .returned (.tuple #[.agg #[.string o.s, .int .i64 o.k, .int .i64 o.l, .int .i64 o.sd], .bool false])) ∧ Below w.heap.size w w' := by
  have hnI : (n : Int) < 3 := by omega
  go_enter Tryz.func71, Tryz.ntmps71
  go_wp2
  refine bodyPost_ret (v := .tuple #[.agg #[.string ⟨#[]⟩, .int .i64 0, .int .i64 0, .int .i64 0], .bool false]) ?res rfl ⟨⟨OpR.zero, rfl⟩, ?_⟩
  case res => simp [results, Tryz.results71, go_sem]
  exact below1 _ _

theorem kind_is {k : ByteArray} : (kindW k = 1 ∧ k = wPrefix) ∨ (kindW k = 2 ∧ k = wInfix) ∨ (kindW k = 3 ∧ k = wPostfix) ∨ (kindW k = 0 ∧ k ≠ wPrefix ∧ k ≠ wInfix ∧ k ≠ wPostfix) := by
  unfold kindW
  by_cases h1 : k = wPrefix
  · rw [if_pos h1]; exact Or.inl ⟨rfl, h1⟩
  by_cases h2 : k = wInfix
  · rw [if_neg h1, if_pos h2]; exact Or.inr (Or.inl ⟨rfl, h2⟩)
  by_cases h3 : k = wPostfix
  · rw [if_neg h1, if_neg h2, if_pos h3]; exact Or.inr (Or.inr (Or.inl ⟨rfl, h3⟩))
  · rw [if_neg h1, if_neg h2, if_neg h3]; exact Or.inr (Or.inr (Or.inr ⟨rfl, h1, h2, h3⟩))

set_option maxHeartbeats 8000000 in
theorem declaredOp_core (g c n : Nat) (k t l sd : ByteArray) (w : World) (hn : 3 ≤ n) (hsl : l.size ≤ maxLen) (c0 : w.cell? ⟨g, 0, none⟩ = some (.string k)) (c1 : w.cell? ⟨g, 1, none⟩ = some (.string t)) (c2 : w.cell? ⟨g, 2, none⟩ = some (.string l)) (c3 : 4 ≤ n → w.cell? ⟨g, 3, none⟩ = some (.string sd)) :
    Calls Tryz.prog 71 #[.slice (some ⟨g, 0, none⟩) n c] w (OpwPost w n k t l sd) := by
  have hg : g < w.heap.size := World.block_lt_of_cell? _ _ c0
  have hg2 : g ≠ w.heap.size := by omega
  have hnI : ¬ (n : Int) < 3 := by omega
  have hnI0 : (0 : Int) < (n : Int) := by omega
  have hnI1 : (1 : Int) < (n : Int) := by omega
  have hnI2 : (2 : Int) < (n : Int) := by omega
  have HC3 := hide c3
  clear c3
  cases hl : levB l
  · have HX := hide (show ∀ W : World, Calls Tryz.prog 79 #[.string l] W fun e w' => e = .returned (.bool false) ∧ w' = W from fun W => by have h := isLevelWord_any l W hsl; rw [hl] at h; exact h)
    have HA := hide (ans_none (n := n) (k := k) (t := t) (sd := sd) hl)
    clear hl
    go_enter Tryz.func71, Tryz.ntmps71
    go_wp2_with (go_at_call 79; (with_reducible refine ((unhide HX) _).mono ?_); rintro e w1 ⟨rfl, hx⟩; obtain rfl := hx.symm; clear hx)
    refine bodyPost_ret (v := .tuple #[.agg #[.string ⟨#[]⟩, .int .i64 0, .int .i64 0, .int .i64 0], .bool false]) ?res rfl ⟨OpR.zero, false, rfl, Or.inr ⟨rfl, unhide HA⟩, ?_⟩
    case res => simp [results, Tryz.results71, go_sem]
    exact below1 _ _
  obtain ⟨V, hV⟩ : ∃ V : Nat, V = valTo l l.size := ⟨_, rfl⟩
  have HX := hide (show ∀ W : World, Calls Tryz.prog 79 #[.string l] W fun e w' => e = .returned (.bool true) ∧ w' = W from fun W => by have h := isLevelWord_any l W hsl; rw [hl] at h; exact h)
  have HT := hide (show ∀ W : World, Calls Tryz.prog 80 #[.string l] W fun e w' => e = .returned (.tuple #[.int .i64 (V : Int), .nilIface]) ∧ Below W.heap.size W w' from fun W => by have h := atoi_at l hl W; rw [← hV] at h; exact h)
  have HLB := hide hl
  have HV := hide hV
  clear hl hV
  obtain ⟨KI, hKI⟩ : ∃ KI : Int, KI = kindW k := ⟨_, rfl⟩
  have HK := hide (show ∀ W : World, Calls Tryz.prog 81 #[.string k] W fun e w' => e = .returned (.int .i64 KI) ∧ w' = W from fun W => by rw [hKI]; exact kindOfWord_any k W)
  have HKI := hide hKI
  clear hKI
  have HZ := hide (show OpCells (w.alloc (.cells #[.string ⟨#[]⟩, .int .i64 0, .int .i64 0, .int .i64 0] 70)) w.heap.size OpR.zero from ⟨⟨by simp [go_sem, OpR.zero], by simp [go_sem, OpR.zero], by simp [go_sem, OpR.zero], by simp [go_sem, OpR.zero]⟩, by simp [go_sem], by simp [go_sem], by simp [go_sem], by simp [go_sem]⟩)
  go_enter Tryz.func71, Tryz.ntmps71
  go_wp2_with (first | (go_at_call 79; (with_reducible refine ((unhide HX) _).mono ?_); rintro e w1 ⟨rfl, hx⟩; obtain rfl := hx.symm; clear hx) | (go_at_call 80; (with_reducible refine ((unhide HT) _).mono ?_); rintro e w1 ⟨rfl, hb1⟩; have HB1 := hide ((below1 w _).trans (hb1.mono (by simp))); have HZ1 := hide ((unhide HZ).below hb1 (by simp)); have z1 : w.heap.size + 1 ≤ w1.heap.size := (by have := hb1.size; simp at this; omega); clear hb1))
  have d0 : w1.cell? ⟨g, 0, none⟩ = some (.string k) := ((unhide HB1).cell (p := ⟨g, 0, none⟩) hg).trans c0
  have d1 : w1.cell? ⟨g, 1, none⟩ = some (.string t) := ((unhide HB1).cell (p := ⟨g, 1, none⟩) hg).trans c1
  have HK3 := hide (show 4 ≤ n → w1.cell? ⟨g, 3, none⟩ = some (.string sd) from fun h => ((unhide HB1).cell (p := ⟨g, 3, none⟩) hg).trans ((unhide HC3) h))
  clear c0 c1 c2 HC3 HZ HX HT
  go_cut [6] (fun s4 wc => ∃ b4 : Nat, s4 = .pointer (some ⟨b4, 0, none⟩) ∧ w.heap.size < b4 ∧ b4 < wc.heap.size ∧ Hid (OpCells wc b4 ⟨t, KI, (V : Int), 0⟩) ∧ Hid (Below w1.heap.size w1 wc))
  case first =>
    have hg3 : g < w1.heap.size := by omega
    go_region_held (fun w' => w'.cell? ⟨g, 0, none⟩ = some (.string k) ∧ w'.cell? ⟨g, 1, none⟩ = some (.string t)) (go_keep)
      (first | (go_at_call 81; have HX1 := (unhide HK); (with_reducible refine (HX1 _).mono ?_); rintro e w2 ⟨rfl, hx⟩; obtain rfl := hx.symm; clear hx HX1))
    all_goals
      go_wp2_with fail
      go_meet
      case rel =>
        go_light
        exact ⟨w1.heap.size, rfl, by omega, by simp, hide ⟨⟨by simp [go_sem], by simp [go_sem], by simp [go_sem], by simp [go_sem]⟩, by simp [go_sem], by simp [go_sem], by simp [go_sem], by simp [go_sem]⟩, hide ((below1 _ _).drew)⟩
  case rest =>
    obtain ⟨b4, rfl, hb4, hb4l, HB4, HBC⟩ := hcut
    have HBW := hide ((unhide HB1).trans ((unhide HBC).mono (by omega)))
    have HB0 := hide ((unhide HZ1).below (unhide HBC) (by omega))
    obtain ⟨⟨p0, p1, p2, p3⟩, f0, f1, f2, f3⟩ := unhide HB4
    obtain ⟨⟨r0, r1, r2, r3⟩, z0, z1', z2, z3⟩ := unhide HB0
    simp only [OpR.zero] at p0 p1 p2 p3 r0 r1 r2 r3
    have e1 : b4 ≠ w.heap.size := by omega
    have e2 : w.heap.size ≠ b4 := by omega
    have e3 : b4 ≠ g := by omega
    have e4 : g ≠ b4 := by omega
    have HK4 := hide (show 4 ≤ n → wc.cell? ⟨g, 3, none⟩ = some (.string sd) from fun h => ((unhide HBC).cell (p := ⟨g, 3, none⟩) (by show g < w1.heap.size; omega)).trans ((unhide HK3) h))
    clear HB4 HB0 HK3 d0 d1 HK HZ1 HBC HB1
    rcases kind_is (k := k) with ⟨hk, hkw⟩ | ⟨hk, hkw⟩ | ⟨hk, hkw⟩ | ⟨hk, hk1, hk2, hk3⟩
    · have HA0 := hide (ans_prefix (n := n) (t := t) (sd := sd) (unhide HLB) hkw)
      obtain rfl : KI = 1 := (unhide HKI).trans hk
      by_cases h3 : n = 3
      · have HA := hide (show opAns n k t l sd = some ⟨t, 1, (V : Int), 0⟩ by rw [unhide HA0, if_pos h3, unhide HV])
        have h3I : ((n : Int) == 3) = true := by simp; omega
        clear h3 HA0 hk hkw HKI
        go_wp2
        refine bodyPost_ret (v := .tuple #[.agg #[.string t, .int .i64 1, .int .i64 (V : Int), .int .i64 0], .bool true]) ?res rfl ⟨⟨t, 1, (V : Int), 0⟩, true, rfl, Or.inl ⟨rfl, unhide HA⟩, ?_⟩
        case res => simp [results, Tryz.results71, go_sem, r0, r1, r2, r3, e1, e2, e3, e4]
        exact below_setCells (Nat.le_refl _) [.string t, .int .i64 1, .int .i64 (V : Int), .int .i64 0] 0 _ (unhide HBW)
      · have HA := hide (show opAns n k t l sd = none by rw [unhide HA0, if_neg h3])
        have h3I : ((n : Int) == 3) = false := by simp; omega
        clear h3 HA0 hk hkw HKI
        go_wp2
        refine bodyPost_ret (v := .tuple #[.agg #[.string t, .int .i64 1, .int .i64 (V : Int), .int .i64 0], .bool false]) ?res rfl ⟨⟨t, 1, (V : Int), 0⟩, false, rfl, Or.inr ⟨rfl, unhide HA⟩, ?_⟩
        case res => simp [results, Tryz.results71, go_sem, r0, r1, r2, r3, e1, e2, e3, e4]
        exact below_setCells (Nat.le_refl _) [.string t, .int .i64 1, .int .i64 (V : Int), .int .i64 0] 0 _ (unhide HBW)
    · have HA0 := hide (ans_infix (n := n) (t := t) (sd := sd) (unhide HLB) hkw)
      obtain rfl : KI = 2 := (unhide HKI).trans hk
      by_cases h4 : n = 4
      · have h4I : ((n : Int) == 4) = true := by simp; omega
        have h4J : (3 : Int) < (n : Int) := by omega
        have k3 := (unhide HK4) (by omega)
        obtain ⟨S, hS⟩ : ∃ S : Int, S = sideW sd := ⟨_, rfl⟩
        have HS := hide (show ∀ W : World, Calls Tryz.prog 82 #[.string sd] W fun e w' => e = .returned (.int .i64 S) ∧ w' = W from fun W => by rw [hS]; exact sideOfWord_any sd W)
        have HA := hide (show ∀ v : Bool, v = (S != 0) → (v = true ∧ opAns n k t l sd = some ⟨t, 2, (V : Int), S⟩) ∨ (v = false ∧ opAns n k t l sd = none) from fun v hv => by
          rw [unhide HA0]
          by_cases hs0 : S = 0
          · right
            exact ⟨by rw [hv]; simp [hs0], by rw [if_neg (fun x => x.2 (hS.symm.trans hs0))]⟩
          · left
            exact ⟨by rw [hv]; simp [hs0], by rw [if_pos ⟨h4, fun x => hs0 (hS.trans x)⟩, unhide HV, hS]⟩)
        clear HA0 hS h4 hk hkw HKI
        go_wp2_with (first | (go_at_call 82; (with_reducible refine ((unhide HS) _).mono ?_); rintro e w2 ⟨rfl, hx⟩; obtain rfl := hx.symm; clear hx))
        go_region
        go_wp2
        refine bodyPost_ret (v := .tuple #[.agg #[.string t, .int .i64 2, .int .i64 (V : Int), .int .i64 S], .bool (S != 0)]) ?res rfl ⟨⟨t, 2, (V : Int), S⟩, (S != 0), rfl, (unhide HA) _ rfl, ?_⟩
        case res => simp [results, Tryz.results71, go_sem, r0, r1, r2, r3, e1, e2, e3, e4]
        exact below_setCells (Nat.le_refl _) [.string t, .int .i64 2, .int .i64 (V : Int), .int .i64 S] 0 _ ((unhide HBW).setCell (p := ⟨b4, 3, none⟩) (by show w.heap.size ≤ b4; omega) _).drew
      · have HA := hide (show opAns n k t l sd = none by rw [unhide HA0, if_neg (fun x => h4 x.1)])
        have h4I : ((n : Int) == 4) = false := by simp; omega
        clear h4 HA0 hk hkw HKI
        go_wp2
        refine bodyPost_ret (v := .tuple #[.agg #[.string ⟨#[]⟩, .int .i64 0, .int .i64 0, .int .i64 0], .bool false]) ?res rfl ⟨OpR.zero, false, rfl, Or.inr ⟨rfl, unhide HA⟩, ?_⟩
        case res => simp [results, Tryz.results71, go_sem, r0, r1, r2, r3]
        first
          | exact unhide HBW
          | exact below_setCells (Nat.le_refl _) [.string ⟨#[]⟩, .int .i64 0, .int .i64 0, .int .i64 0] 0 _ (unhide HBW)
    · have HA0 := hide (ans_postfix (n := n) (t := t) (sd := sd) (unhide HLB) hkw)
      obtain rfl : KI = 3 := (unhide HKI).trans hk
      by_cases h3 : n = 3
      · have HA := hide (show opAns n k t l sd = some ⟨t, 3, (V : Int), 0⟩ by rw [unhide HA0, if_pos h3, unhide HV])
        have h3I : ((n : Int) == 3) = true := by simp; omega
        clear h3 HA0 hk hkw HKI
        go_wp2
        refine bodyPost_ret (v := .tuple #[.agg #[.string t, .int .i64 3, .int .i64 (V : Int), .int .i64 0], .bool true]) ?res rfl ⟨⟨t, 3, (V : Int), 0⟩, true, rfl, Or.inl ⟨rfl, unhide HA⟩, ?_⟩
        case res => simp [results, Tryz.results71, go_sem, r0, r1, r2, r3, e1, e2, e3, e4]
        exact below_setCells (Nat.le_refl _) [.string t, .int .i64 3, .int .i64 (V : Int), .int .i64 0] 0 _ (unhide HBW)
      · have HA := hide (show opAns n k t l sd = none by rw [unhide HA0, if_neg h3])
        have h3I : ((n : Int) == 3) = false := by simp; omega
        clear h3 HA0 hk hkw HKI
        go_wp2
        refine bodyPost_ret (v := .tuple #[.agg #[.string t, .int .i64 3, .int .i64 (V : Int), .int .i64 0], .bool false]) ?res rfl ⟨⟨t, 3, (V : Int), 0⟩, false, rfl, Or.inr ⟨rfl, unhide HA⟩, ?_⟩
        case res => simp [results, Tryz.results71, go_sem, r0, r1, r2, r3, e1, e2, e3, e4]
        exact below_setCells (Nat.le_refl _) [.string t, .int .i64 3, .int .i64 (V : Int), .int .i64 0] 0 _ (unhide HBW)
    · have HA := hide (ans_other (n := n) (t := t) (l := l) (sd := sd) hk1 hk3 hk2)
      obtain rfl : KI = 0 := (unhide HKI).trans hk
      clear hk hk1 hk2 hk3 HKI
      go_wp2
      refine bodyPost_ret (v := .tuple #[.agg #[.string ⟨#[]⟩, .int .i64 0, .int .i64 0, .int .i64 0], .bool false]) ?res rfl ⟨OpR.zero, false, rfl, Or.inr ⟨rfl, unhide HA⟩, ?_⟩
      case res => simp [results, Tryz.results71, go_sem, r0, r1, r2, r3]
      first
        | exact unhide HBW
        | exact below_setCells (Nat.le_refl _) [.string ⟨#[]⟩, .int .i64 0, .int .i64 0, .int .i64 0] 0 _ (unhide HBW)
end Go.Proofs.YtokabkhnidlcnabGreatDoor

/-
  Walk: a line of a header is taken ((*Unit).take).
-/
namespace Go.Proofs.YtokabkhnidlcnabGreatDoor
set_option maxRecDepth 100000
set_option linter.unusedSimpArgs false
set_option linter.unusedVariables false
open Go.RowKit

theorem declaredOp_any (v : Value) (ws : List ByteArray) (w : World) (hs : StrsAt w v ws) (hz : ∀ x ∈ ws, x.size ≤ maxLen) :
    Calls Tryz.prog 71 #[v] w (OpwAns w ws) :=
  opw_any 71 v ws w hs hz (fun a c n w h => declaredOp_few a c n w h) (fun g c n k t l sd w h1 h2 h3 h4 h5 h6 => declaredOp_core g c n k t l sd w h1 h2 h3 h4 h5 h6)

/-- What take answers. -/
def TakePostU (w : World) (B U : Nat) (us : List ByteArray) (os : List OpR) (b : ByteArray) (ws : List ByteArray) (e : Ending) (w' : World) : Prop :=
  ∃ ok : Bool, e = .returned (.bool ok) ∧ ((ok = true ∧ ∃ us' os' vu' vo', LineIs ws us os us' os' ∧ UnM w' B U vu' vo' us' os' b ∧ us'.length ≤ us.length + 1 ∧ os'.length ≤ os.length + 1) ∨ (ok = false ∧ ∀ us' os', ¬ LineIs ws us os us' os')) ∧ Below B w w'

theorem not_line {ws us : List ByteArray} {os : List OpR} (h0 : ws ≠ []) (h2 : ∀ x, ws ≠ [wUse, x]) (ho : ∀ o, ¬ OpW ws o) : ∀ us' os', ¬ LineIs ws us os us' os' := by
  rintro us' os' (⟨e, _⟩ | ⟨x, e, _⟩ | ⟨o, e, _⟩)
  · exact h0 e
  · exact h2 x e
  · exact ho o e

/-- What the call of declaredOp does to the rest of take, and that rest. -/
theorem take_op (B U : Nat) (vu vo : Value) (us : List ByteArray) (os : List OpR) (b : ByteArray) (ws : List ByteArray) (o : OpR) {w w1 w4 : World} {g4 c4 : Nat} (h : UnM w B U vu vo us os b) (ho : OpW ws o) (hb : Below w.heap.size w w1)
    (hown : w4.ownsRow B 70 4 (.slice (some ⟨g4, 0, none⟩) (os.length + 1) c4) (os.length + 1) (cellsL os ++ cellsL [o])) (hg : w1.grownBy w4 vo.ownBlock) (hat : vo.ownBlock = some g4 ∨ g4 = w1.heap.size) :
    TakePostU w B U us os b ws (.returned (.bool true)) (w4.setCell ⟨U, 1, none⟩ (.slice (some ⟨g4, 0, none⟩) (os.length + 1) c4)) := by
  have hr : RowO w4 B (.slice (some ⟨g4, 0, none⟩) (os.length + 1) c4) (os ++ [o]) := by
    unfold RowO
    rw [cellsL_append, List.length_append]
    exact hown
  obtain ⟨h1, h2⟩ := h.putO hb hg hr (hat.imp (fun e => e.symm) (fun e => ⟨g4, rfl, by omega⟩))
  exact ⟨true, rfl, Or.inl ⟨rfl, us, os ++ [o], _, _, Or.inr (Or.inr ⟨o, ho, rfl, rfl⟩), h1, by omega, by simp⟩, h2⟩

theorem take_use (B U : Nat) (vu vo : Value) (us : List ByteArray) (os : List OpR) (b x : ByteArray) {w w1 w4 : World} {g4 c4 : Nat} (h : UnM w B U vu vo us os b) (hb : Below w.heap.size w w1)
    (hown : w4.ownsRow B 9 1 (.slice (some ⟨g4, 0, none⟩) (us.length + 1) c4) (us.length + 1) (cellsS us ++ cellsS [x])) (hg : w1.grownBy w4 vu.ownBlock) (hat : vu.ownBlock = some g4 ∨ g4 = w1.heap.size) :
    TakePostU w B U us os b [wUse, x] (.returned (.bool true)) (w4.setCell ⟨U, 0, none⟩ (.slice (some ⟨g4, 0, none⟩) (us.length + 1) c4)) := by
  have hr : RowS w4 B (.slice (some ⟨g4, 0, none⟩) (us.length + 1) c4) (us ++ [x]) := by
    unfold RowS
    rw [cellsS_append, List.length_append]
    exact hown
  obtain ⟨h1, h2⟩ := h.putU hb hg hr (hat.imp (fun e => e.symm) (fun e => ⟨g4, rfl, by omega⟩))
  exact ⟨true, rfl, Or.inl ⟨rfl, us ++ [x], os, _, _, Or.inr (Or.inl ⟨x, rfl, rfl, rfl⟩), h1, by simp, by omega⟩, h2⟩

set_option maxHeartbeats 8000000 in
theorem take_anyU (B U : Nat) (vu vo v : Value) (us : List ByteArray) (os : List OpR) (b : ByteArray) (ws : List ByteArray) (w : World) (h : UnM w B U vu vo us os b) (hs : StrsAt w v ws) (hz : ∀ x ∈ ws, x.size ≤ maxLen) (hne : ∀ g, v.ownBlock = some g → g ≠ U ∧ vu.ownBlock ≠ some g) (hlu : us.length ≤ 20001) (hlo : os.length ≤ 20001) (hwl : ws.length ≤ 20001) :
    Calls Tryz.prog 64 #[.pointer (some ⟨U, 0, none⟩), v] w (TakePostU w B U us os b ws) := by
  have hl := h.lt
  have hBU := h.hB
  have HU := hide h
  by_cases h0 : ws.length = 0
  · have e0 : ws = [] := List.length_eq_zero_iff.1 h0
    obtain ⟨a, c, rfl, _⟩ := hs
    rw [h0]
    have HP := hide (show TakePostU w B U us os b ws (.returned (.bool true)) w from ⟨true, rfl, Or.inl ⟨rfl, us, os, vu, vo, Or.inl ⟨e0, rfl, rfl⟩, h, by omega, by omega⟩, Below.refl _ _⟩)
    clear h e0 h0
    go_enter Tryz.func64, Tryz.ntmps64
    go_wp2
    go_ret
    exact unhide HP
  by_cases huse : ∃ x, ws = [wUse, x]
  · obtain ⟨x, rfl⟩ := huse
    obtain ⟨gw, c, rfl, hgw, hc⟩ := hs.lt (by simp)
    have k0 : w.cell? ⟨gw, 0, none⟩ = some (.string ⟨#[117, 115, 101]⟩) := hc 0 _ rfl
    have k1 : w.cell? ⟨gw, 1, none⟩ = some (.string x) := hc 1 _ rfl
    have hl2 : [wUse, x].length = 2 := rfl
    rw [hl2]
    obtain ⟨i0, hi0, hz0, hz1, hz2⟩ := info_parts' infoStr
    have HI := hide hi0
    have HZ := hide (And.intro hz0 (And.intro hz1 hz2))
    clear hi0 hz0 hz1 hz2
    have u0 := h.c0
    have f0 := h.fz 0
    obtain ⟨au, cu, rfl⟩ := rowS_slice h.ru
    have HNW := hide (hne gw rfl).2
    have hgU : gw ≠ U := (hne gw rfl).1
    have HKEEP := hide (fun (w1 w4 : World) (hb : Below w.heap.size w w1) (hg : w1.grownBy w4 (Value.slice au us.length cu).ownBlock) => h.keep hb (Or.inl rfl) hg)
    have HFIN := hide (fun (w1 w4 : World) (g4 c4 : Nat) => @take_use B U (.slice au us.length cu) vo us os b x w w1 w4 g4 c4 h)
    have HRU := hide h.ru
    clear h hc hz hs hne
    go_enter Tryz.func64, Tryz.ntmps64
    go_wp2_with fail
    have k6 : ∀ o, (w.alloc o).drew.cell? ⟨U, 0, none⟩ = some (.slice au us.length cu) := fun o => ((below1 w o).cell (p := ⟨U, 0, none⟩) hl).trans u0
    have hS0 : (fun W : World => W.cell? ⟨gw, 1, none⟩ = some (.string x) ∧ True) w.drew := ⟨k1, trivial⟩
    have HS1 := hide (show (fun W : World => W.cell? ⟨gw, 1, none⟩ = some (.string x) ∧ True) (w.alloc (.cells #[.string x] 9)).drew from ⟨((below1 w _).cell (p := ⟨gw, 1, none⟩) hgw).trans k1, trivial⟩)
    refine wp_region_held_drew (S := fun W : World => W.cell? ⟨gw, 1, none⟩ = some (.string x) ∧ True) (by kernel_rfl) hS0 (fun _ => ?_)
    refine wpAnyH_take (i := 0) (v := ?_) rfl (by kernel_rfl) (by kernel_rfl) (by kernel_rfl) (fun _ _ _ h => h) (Or.inl ⟨by rfl, ?_⟩) hS0 ?_
    rotate_left
    · intro W hW; obtain ⟨s1, _⟩ := hW; simp only [List.getElem_toArray, List.getElem_cons_succ, List.getElem_cons_zero]; go_simp; first | done | (with_reducible rfl)
    simp only [List.getElem_toArray, List.getElem_cons_succ, List.getElem_cons_zero]
    simp only [Act.put, List.setIfInBounds_toArray, List.set_cons_zero, List.set_cons_succ]
    refine wpAnyH_take (i := 1) (v := ?_) rfl (by kernel_rfl) (by kernel_rfl) (by kernel_rfl) (fun _ _ _ h => h) (Or.inl ⟨by rfl, ?_⟩) hS0 ?_
    rotate_left
    · intro W hW; obtain ⟨s1, _⟩ := hW; simp only [List.getElem_toArray, List.getElem_cons_succ, List.getElem_cons_zero]; go_simp; first | done | (with_reducible rfl)
    simp only [List.getElem_toArray, List.getElem_cons_succ, List.getElem_cons_zero]
    simp only [Act.put, List.setIfInBounds_toArray, List.set_cons_zero, List.set_cons_succ]
    refine wpAnyH_take (i := 2) (v := ?_) rfl (by kernel_rfl) (by kernel_rfl) (by kernel_rfl) (fun _ _ _ h => h) (Or.inl ⟨by rfl, ?_⟩) hS0 ?_
    rotate_left
    · intro W hW; obtain ⟨s1, _⟩ := hW; simp only [List.getElem_toArray, List.getElem_cons_succ, List.getElem_cons_zero]; go_simp; first | done | (with_reducible rfl)
    simp only [List.getElem_toArray, List.getElem_cons_succ, List.getElem_cons_zero]
    simp only [Act.put, List.setIfInBounds_toArray, List.set_cons_zero, List.set_cons_succ]
    refine wpAnyH_take (i := 3) (v := ?_) rfl (by kernel_rfl) (by kernel_rfl) (by kernel_rfl) (fun _ _ _ h => h) (Or.inl ⟨by rfl, ?_⟩) hS0 ?_
    rotate_left
    · intro W hW; obtain ⟨s1, _⟩ := hW; simp only [List.getElem_toArray, List.getElem_cons_succ, List.getElem_cons_zero]; go_simp; first | done | (with_reducible rfl)
    simp only [List.getElem_toArray, List.getElem_cons_succ, List.getElem_cons_zero]
    simp only [Act.put, List.setIfInBounds_toArray, List.set_cons_zero, List.set_cons_succ]
    refine wpAnyH_take (i := 5) (v := ?_) rfl (by kernel_rfl) (by kernel_rfl) (by kernel_rfl) (fun _ _ _ h => h) (Or.inl ⟨by rfl, ?_⟩) hS0 ?_
    rotate_left
    · intro W hW; obtain ⟨s1, _⟩ := hW; simp only [List.getElem_toArray, List.getElem_cons_succ, List.getElem_cons_zero]; go_simp; first | done | (with_reducible rfl)
    simp only [List.getElem_toArray, List.getElem_cons_succ, List.getElem_cons_zero]
    simp only [Act.put, List.setIfInBounds_toArray, List.set_cons_zero, List.set_cons_succ]
    refine wpAnyH_take (i := 6) (v := ?_) rfl (by kernel_rfl) (by kernel_rfl) (by kernel_rfl) (fun _ _ _ h => h) (Or.inl ⟨by rfl, ?_⟩) hS0 ?_
    rotate_left
    · intro W hW; obtain ⟨s1, _⟩ := hW; simp only [List.getElem_toArray, List.getElem_cons_succ, List.getElem_cons_zero]; go_simp; first | done | (with_reducible rfl)
    simp only [List.getElem_toArray, List.getElem_cons_succ, List.getElem_cons_zero]
    simp only [Act.put, List.setIfInBounds_toArray, List.set_cons_zero, List.set_cons_succ]
    refine wpAnyH_take (i := 7) (v := ?_) rfl (by kernel_rfl) (by kernel_rfl) (by kernel_rfl) (fun _ _ _ h => h) (Or.inl ⟨by rfl, ?_⟩) hS0 ?_
    rotate_left
    · intro W hW; obtain ⟨s1, _⟩ := hW; simp only [List.getElem_toArray, List.getElem_cons_succ, List.getElem_cons_zero]; go_simp; first | done | (with_reducible rfl)
    simp only [List.getElem_toArray, List.getElem_cons_succ, List.getElem_cons_zero]
    simp only [Act.put, List.setIfInBounds_toArray, List.set_cons_zero, List.set_cons_succ]
    refine wpAnyH_ready (rs := [4, 8]) (by kernel_rfl) (by simp) ?_
    refine AllReadyH.cons rfl (fun K hK => ?_) (AllReadyH.cons rfl (fun K hK => ?_) AllReadyH.nil)
    · simp only [List.getElem_toArray, List.getElem_cons_succ, List.getElem_cons_zero]
      go_simp
      refine hK.out _ _ hS0 (fun _ => ?_)
      clear hK
      refine wpAnyH_ready (rs := [8]) (by kernel_rfl) (by simp) ?_
      refine AllReadyH.cons rfl (fun K hK => ?_) AllReadyH.nil
      simp only [List.getElem_toArray, List.getElem_cons_succ, List.getElem_cons_zero]
      go_simp
      refine hK.out _ _ (unhide HS1) (fun _ => ?_)
      clear hK
      refine wpAnyH_ready (rs := [9]) (by kernel_rfl) (by simp) ?_
      refine AllReadyH.cons rfl (fun K hK => ?_) AllReadyH.nil
      refine step_append_lies _ (by rfl) (.tmp 23) (.tmp 27) 37 (by rfl) B 9 i0 _ 1 16 Tryz.underlying37 (unhide HI) (unhide HZ).1 (unhide HZ).2.1 (unhide HZ).2.2 rfl (by decide) _ us.length (cellsS us) (by rfl) ((unhide HRU).below ((below1 _ _).drew)) ⟨w.heap.size, 0, none⟩ 1 1 (cellsS [x]) (by rfl) rfl (fun j u hj => new_newsS w x j u hj) (cellsS_one' _) (by decide) (by unfold maxLen; omega) (by omega) (by simp; omega) _ rfl ?_
      intro g4 c4 w4 hown4 hgrow4 hat4 hlt4
      have hbd : Below w.heap.size w (w.alloc (.cells #[.string x] 9)).drew := (below1 _ _).drew
      obtain ⟨kc, kf⟩ := (unhide HKEEP) _ _ hbd hgrow4
      have m0 := (kc 0).trans u0
      have g0 := kf 0
      have m1 : w4.cell? ⟨gw, 1, none⟩ = some (.string x) := (grown_cell hgrow4 (by simp; omega) (unhide HNW) 1).trans ((hbd.cell (p := ⟨gw, 1, none⟩) hgw).trans k1)
      have HF4 := hide ((unhide HFIN) _ _ _ _ hbd hown4 hgrow4 hat4)
      clear hown4 hgrow4 hat4 hlt4 kc kf hbd
      refine hK.out _ _ ⟨m1, trivial⟩ (fun hS4 => ?_)
      clear hK
      simp only [List.getElem_toArray, List.getElem_cons_succ, List.getElem_cons_zero]
      simp only [Act.put, List.setIfInBounds_toArray, List.set_cons_zero, List.set_cons_succ]
      refine wpAnyH_take (i := 10) (v := ?_) rfl (by kernel_rfl) (by kernel_rfl) (by kernel_rfl) (fun _ _ _ h => h) (Or.inl ⟨by rfl, ?_⟩) hS4 ?_
      rotate_left
      · intro W hW; obtain ⟨s1, _⟩ := hW; simp only [List.getElem_toArray, List.getElem_cons_succ, List.getElem_cons_zero]; go_simp; first | done | (with_reducible rfl)
      simp only [List.getElem_toArray, List.getElem_cons_succ, List.getElem_cons_zero]
      simp only [Act.put, List.setIfInBounds_toArray, List.set_cons_zero, List.set_cons_succ]
      refine wpAnyH_take (i := 11) (v := ?_) rfl (by kernel_rfl) (by kernel_rfl) (by kernel_rfl) (fun _ _ _ h => h) (Or.inl ⟨by rfl, ?_⟩) hS4 ?_
      rotate_left
      · intro W hW; obtain ⟨s1, _⟩ := hW; simp only [List.getElem_toArray, List.getElem_cons_succ, List.getElem_cons_zero]; go_simp; first | done | (with_reducible rfl)
      simp only [List.getElem_toArray, List.getElem_cons_succ, List.getElem_cons_zero]
      simp only [Act.put, List.setIfInBounds_toArray, List.set_cons_zero, List.set_cons_succ]
      refine wpAnyH_ready (rs := [12]) (by kernel_rfl) (by simp) ?_
      refine AllReadyH.cons rfl (fun K hK => ?_) AllReadyH.nil
      simp only [List.getElem_toArray, List.getElem_cons_succ, List.getElem_cons_zero]
      go_simp
      refine hK.out _ _ ⟨by rw [World.cell?_setCell_other _ _ _ _ (by simp [hgU])]; exact m1, trivial⟩ (fun hS5 => ?_)
      clear hK
      refine wpAnyH_done (by kernel_rfl) ?_ _
      clear hS4 hS5
      go_wp2_with fail
      go_ret
      exact unhide HF4
    · simp only [List.getElem_toArray, List.getElem_cons_succ, List.getElem_cons_zero]
      go_simp
      refine hK.out _ _ (unhide HS1) (fun _ => ?_)
      clear hK
      refine wpAnyH_ready (rs := [4]) (by kernel_rfl) (by simp) ?_
      refine AllReadyH.cons rfl (fun K hK => ?_) AllReadyH.nil
      simp only [List.getElem_toArray, List.getElem_cons_succ, List.getElem_cons_zero]
      go_simp
      refine hK.out _ _ (unhide HS1) (fun _ => ?_)
      clear hK
      refine wpAnyH_ready (rs := [9]) (by kernel_rfl) (by simp) ?_
      refine AllReadyH.cons rfl (fun K hK => ?_) AllReadyH.nil
      refine step_append_lies _ (by rfl) (.tmp 23) (.tmp 27) 37 (by rfl) B 9 i0 _ 1 16 Tryz.underlying37 (unhide HI) (unhide HZ).1 (unhide HZ).2.1 (unhide HZ).2.2 rfl (by decide) _ us.length (cellsS us) (by rfl) ((unhide HRU).below ((below1 _ _).drew)) ⟨w.heap.size, 0, none⟩ 1 1 (cellsS [x]) (by rfl) rfl (fun j u hj => new_newsS w x j u hj) (cellsS_one' _) (by decide) (by unfold maxLen; omega) (by omega) (by simp; omega) _ rfl ?_
      intro g4 c4 w4 hown4 hgrow4 hat4 hlt4
      have hbd : Below w.heap.size w (w.alloc (.cells #[.string x] 9)).drew := (below1 _ _).drew
      obtain ⟨kc, kf⟩ := (unhide HKEEP) _ _ hbd hgrow4
      have m0 := (kc 0).trans u0
      have g0 := kf 0
      have m1 : w4.cell? ⟨gw, 1, none⟩ = some (.string x) := (grown_cell hgrow4 (by simp; omega) (unhide HNW) 1).trans ((hbd.cell (p := ⟨gw, 1, none⟩) hgw).trans k1)
      have HF4 := hide ((unhide HFIN) _ _ _ _ hbd hown4 hgrow4 hat4)
      clear hown4 hgrow4 hat4 hlt4 kc kf hbd
      refine hK.out _ _ ⟨m1, trivial⟩ (fun hS4 => ?_)
      clear hK
      simp only [List.getElem_toArray, List.getElem_cons_succ, List.getElem_cons_zero]
      simp only [Act.put, List.setIfInBounds_toArray, List.set_cons_zero, List.set_cons_succ]
      refine wpAnyH_take (i := 10) (v := ?_) rfl (by kernel_rfl) (by kernel_rfl) (by kernel_rfl) (fun _ _ _ h => h) (Or.inl ⟨by rfl, ?_⟩) hS4 ?_
      rotate_left
      · intro W hW; obtain ⟨s1, _⟩ := hW; simp only [List.getElem_toArray, List.getElem_cons_succ, List.getElem_cons_zero]; go_simp; first | done | (with_reducible rfl)
      simp only [List.getElem_toArray, List.getElem_cons_succ, List.getElem_cons_zero]
      simp only [Act.put, List.setIfInBounds_toArray, List.set_cons_zero, List.set_cons_succ]
      refine wpAnyH_take (i := 11) (v := ?_) rfl (by kernel_rfl) (by kernel_rfl) (by kernel_rfl) (fun _ _ _ h => h) (Or.inl ⟨by rfl, ?_⟩) hS4 ?_
      rotate_left
      · intro W hW; obtain ⟨s1, _⟩ := hW; simp only [List.getElem_toArray, List.getElem_cons_succ, List.getElem_cons_zero]; go_simp; first | done | (with_reducible rfl)
      simp only [List.getElem_toArray, List.getElem_cons_succ, List.getElem_cons_zero]
      simp only [Act.put, List.setIfInBounds_toArray, List.set_cons_zero, List.set_cons_succ]
      refine wpAnyH_ready (rs := [12]) (by kernel_rfl) (by simp) ?_
      refine AllReadyH.cons rfl (fun K hK => ?_) AllReadyH.nil
      simp only [List.getElem_toArray, List.getElem_cons_succ, List.getElem_cons_zero]
      go_simp
      refine hK.out _ _ ⟨by rw [World.cell?_setCell_other _ _ _ _ (by simp [hgU])]; exact m1, trivial⟩ (fun hS5 => ?_)
      clear hK
      refine wpAnyH_done (by kernel_rfl) ?_ _
      clear hS4 hS5
      go_wp2_with fail
      go_ret
      exact unhide HF4
  have h0' : ws ≠ [] := fun e => h0 (by rw [e]; rfl)
  have h2' : ∀ x, ws ≠ [wUse, x] := fun x e => huse ⟨x, e⟩
  obtain ⟨gw, c, rfl, hgw, hc⟩ := hs.lt (by omega)
  have HD := hide (declaredOp_any _ ws w hs hz)
  obtain ⟨k, hk⟩ : ∃ k, ws[0]? = some k := ⟨_, List.getElem?_eq_getElem (by omega)⟩
  have k0 := hc 0 k hk
  have hcond : ((ws.length : Int) == 2) = false ∨ (((ws.length : Int) == 2) = true ∧ (k.toList == [117, 115, 101]) = false) := by
    by_cases e : ws.length = 2
    · right
      refine ⟨by simp; omega, lit_no (fun ek => ?_)⟩
      match ws, e, hk with
      | [p, q], _, hk =>
        simp at hk
        exact huse ⟨q, by rw [hk, ek]; rfl⟩
    · left; simp; omega
  have hn0 : ((ws.length : Int) == 0) = false := by simp; omega
  have hn00 : (0 : Int) < (ws.length : Int) := by omega
  obtain ⟨iO, hiO, hzO0, hzO1, hzO2⟩ := info_parts' infoOp'
  have HI := hide hiO
  have HZ := hide (And.intro hzO0 (And.intro hzO1 hzO2))
  clear hiO hzO0 hzO1 hzO2
  have u1 := h.c1
  have f1 := h.fz 1
  obtain ⟨ao, co, rfl⟩ : ∃ a c, vo = .slice a os.length c := rowS_slice h.ro
  have HKEEP := hide (fun (w1 w4 : World) (hb : Below w.heap.size w w1) (hg : w1.grownBy w4 (Value.slice ao os.length co).ownBlock) => h.keep hb (Or.inr rfl) hg)
  have HFIN := hide (fun (o : OpR) (ho : OpW ws o) (w1 w4 : World) (g4 c4 : Nat) => @take_op B U vu (.slice ao os.length co) us os b ws o w w1 w4 g4 c4 h ho)
  have HRO := hide h.ro
  have HNOT := hide (fun (ho : ∀ o, ¬ OpW ws o) => not_line (us := us) (os := os) h0' h2' ho)
  clear h hc hz hs hne huse h0' h2' h0 hk
  rcases hcond with hc2 | ⟨hc2, hc3⟩
  all_goals
    go_enter Tryz.func64, Tryz.ntmps64
    go_wp2_with fail
    (with_reducible refine (unhide HD).mono ?_)
    rintro e w1 ⟨o, ok, rfl, hcase, hb1⟩
    have HB1 := hide hb1
    have z1 := hb1.size
    have v1 : w1.cell? ⟨U, 1, none⟩ = some (.slice ao os.length co) := (hb1.cell (p := ⟨U, 1, none⟩) hl).trans u1
    clear HD hb1 u1 f1 k0
    rcases hcase with ⟨rfl, ho⟩ | ⟨rfl, ho⟩
    · have HO := hide ho
      clear ho
      go_wp2_with fail
      have hl1 : U < w1.heap.size := by omega
      have hUw : w1.heap.size ≠ U := by omega
      have v2 : (w1.alloc (.cells #[.string o.s, .int .i64 o.k, .int .i64 o.l, .int .i64 o.sd] 70)).cell? ⟨U, 1, none⟩ = some (.slice ao os.length co) := ((below1 w1 _).cell (p := ⟨U, 1, none⟩) hl1).trans v1
      have k6 : ∀ o', ((w1.alloc (.cells #[.string o.s, .int .i64 o.k, .int .i64 o.l, .int .i64 o.sd] 70)).alloc o').drew.cell? ⟨U, 1, none⟩ = some (.slice ao os.length co) := fun o' => ((below1 (w1.alloc (.cells #[.string o.s, .int .i64 o.k, .int .i64 o.l, .int .i64 o.sd] 70)) o').cell (p := ⟨U, 1, none⟩) (by simp; omega)).trans v2
      have hS0 : (fun W : World => W.cell? ⟨w1.heap.size, 0, none⟩ = some (.string o.s) ∧ W.cell? ⟨w1.heap.size, 1, none⟩ = some (.int .i64 o.k) ∧ W.cell? ⟨w1.heap.size, 2, none⟩ = some (.int .i64 o.l) ∧ W.cell? ⟨w1.heap.size, 3, none⟩ = some (.int .i64 o.sd)) (w1.alloc (.cells #[.string o.s, .int .i64 o.k, .int .i64 o.l, .int .i64 o.sd] 70)).drew := ⟨by simp [go_sem], by simp [go_sem], by simp [go_sem], by simp [go_sem]⟩
      have HS1 := hide (show (fun W : World => W.cell? ⟨w1.heap.size, 0, none⟩ = some (.string o.s) ∧ W.cell? ⟨w1.heap.size, 1, none⟩ = some (.int .i64 o.k) ∧ W.cell? ⟨w1.heap.size, 2, none⟩ = some (.int .i64 o.l) ∧ W.cell? ⟨w1.heap.size, 3, none⟩ = some (.int .i64 o.sd)) ((w1.alloc (.cells #[.string o.s, .int .i64 o.k, .int .i64 o.l, .int .i64 o.sd] 70)).alloc (.cells #[.string o.s, .int .i64 o.k, .int .i64 o.l, .int .i64 o.sd] 70)).drew from ⟨by simp [go_sem], by simp [go_sem], by simp [go_sem], by simp [go_sem]⟩)
      refine wp_region_held_drew (S := fun W : World => W.cell? ⟨w1.heap.size, 0, none⟩ = some (.string o.s) ∧ W.cell? ⟨w1.heap.size, 1, none⟩ = some (.int .i64 o.k) ∧ W.cell? ⟨w1.heap.size, 2, none⟩ = some (.int .i64 o.l) ∧ W.cell? ⟨w1.heap.size, 3, none⟩ = some (.int .i64 o.sd)) (by kernel_rfl) hS0 (fun _ => ?_)
      refine wpAnyH_take (i := 0) (v := ?_) rfl (by kernel_rfl) (by kernel_rfl) (by kernel_rfl) (fun _ _ _ h => h) (Or.inl ⟨by rfl, ?_⟩) hS0 ?_
      rotate_left
      · intro W hW; obtain ⟨s0, s1, s2, s3⟩ := hW; simp only [List.getElem_toArray, List.getElem_cons_succ, List.getElem_cons_zero]; go_simp; first | done | (with_reducible rfl)
      simp only [List.getElem_toArray, List.getElem_cons_succ, List.getElem_cons_zero]
      simp only [Act.put, List.setIfInBounds_toArray, List.set_cons_zero, List.set_cons_succ]
      refine wpAnyH_take (i := 1) (v := ?_) rfl (by kernel_rfl) (by kernel_rfl) (by kernel_rfl) (fun _ _ _ h => h) (Or.inl ⟨by rfl, ?_⟩) hS0 ?_
      rotate_left
      · intro W hW; obtain ⟨s0, s1, s2, s3⟩ := hW; simp only [List.getElem_toArray, List.getElem_cons_succ, List.getElem_cons_zero]; go_simp; first | done | (with_reducible rfl)
      simp only [List.getElem_toArray, List.getElem_cons_succ, List.getElem_cons_zero]
      simp only [Act.put, List.setIfInBounds_toArray, List.set_cons_zero, List.set_cons_succ]
      refine wpAnyH_take (i := 2) (v := ?_) rfl (by kernel_rfl) (by kernel_rfl) (by kernel_rfl) (fun _ _ _ h => h) (Or.inl ⟨by rfl, ?_⟩) hS0 ?_
      rotate_left
      · intro W hW; obtain ⟨s0, s1, s2, s3⟩ := hW; simp only [List.getElem_toArray, List.getElem_cons_succ, List.getElem_cons_zero]; go_simp; first | done | (with_reducible rfl)
      simp only [List.getElem_toArray, List.getElem_cons_succ, List.getElem_cons_zero]
      simp only [Act.put, List.setIfInBounds_toArray, List.set_cons_zero, List.set_cons_succ]
      refine wpAnyH_take (i := 3) (v := ?_) rfl (by kernel_rfl) (by kernel_rfl) (by kernel_rfl) (fun _ _ _ h => h) (Or.inl ⟨by rfl, ?_⟩) hS0 ?_
      rotate_left
      · intro W hW; obtain ⟨s0, s1, s2, s3⟩ := hW; simp only [List.getElem_toArray, List.getElem_cons_succ, List.getElem_cons_zero]; go_simp; first | done | (with_reducible rfl)
      simp only [List.getElem_toArray, List.getElem_cons_succ, List.getElem_cons_zero]
      simp only [Act.put, List.setIfInBounds_toArray, List.set_cons_zero, List.set_cons_succ]
      refine wpAnyH_take (i := 5) (v := ?_) rfl (by kernel_rfl) (by kernel_rfl) (by kernel_rfl) (fun _ _ _ h => h) (Or.inl ⟨by rfl, ?_⟩) hS0 ?_
      rotate_left
      · intro W hW; obtain ⟨s0, s1, s2, s3⟩ := hW; simp only [List.getElem_toArray, List.getElem_cons_succ, List.getElem_cons_zero]; go_simp; first | done | (with_reducible rfl)
      simp only [List.getElem_toArray, List.getElem_cons_succ, List.getElem_cons_zero]
      simp only [Act.put, List.setIfInBounds_toArray, List.set_cons_zero, List.set_cons_succ]
      refine wpAnyH_ready (rs := [4, 6]) (by kernel_rfl) (by simp) ?_
      refine AllReadyH.cons rfl (fun K hK => ?_) (AllReadyH.cons rfl (fun K hK => ?_) AllReadyH.nil)
      · simp only [List.getElem_toArray, List.getElem_cons_succ, List.getElem_cons_zero]
        go_simp
        refine hK.out _ _ hS0 (fun _ => ?_)
        clear hK
        refine wpAnyH_ready (rs := [6]) (by kernel_rfl) (by simp) ?_
        refine AllReadyH.cons rfl (fun K hK => ?_) AllReadyH.nil
        simp only [List.getElem_toArray, List.getElem_cons_succ, List.getElem_cons_zero]
        go_simp
        refine hK.out _ _ (unhide HS1) (fun _ => ?_)
        clear hK
        refine wpAnyH_ready (rs := [7]) (by kernel_rfl) (by simp) ?_
        refine AllReadyH.cons rfl (fun K hK => ?_) AllReadyH.nil
        refine step_append_lies _ (by rfl) (.tmp 41) (.tmp 43) 38 (by rfl) B 70 iO _ 4 40 Tryz.underlying38 (unhide HI) (unhide HZ).1 (unhide HZ).2.1 (unhide HZ).2.2 rfl (by decide) _ os.length (cellsL os) (by rfl) ((unhide HRO).below (((unhide HB1).alloc z1 _).alloc (by simp; omega) _).drew) ⟨w1.heap.size + 1, 0, none⟩ 1 1 (cellsL [o]) (by rfl) rfl (fun j u hj => (by simpa using new_news (w1.alloc (.cells #[.string o.s, .int .i64 o.k, .int .i64 o.l, .int .i64 o.sd] 70)) o j u hj)) (cellsL_one' _) (by decide) (by unfold maxLen; omega) (by omega) (by simp; omega) _ rfl ?_
        intro g4 c4 w4 hown4 hgrow4 hat4 hlt4
        have hbd : Below w.heap.size w ((w1.alloc (.cells #[.string o.s, .int .i64 o.k, .int .i64 o.l, .int .i64 o.sd] 70)).alloc (.cells #[.string o.s, .int .i64 o.k, .int .i64 o.l, .int .i64 o.sd] 70)).drew := (((unhide HB1).alloc z1 _).alloc (by simp; omega) _).drew
        obtain ⟨kc, kf⟩ := (unhide HKEEP) _ _ hbd hgrow4
        have m0 : w4.cell? ⟨U, 1, none⟩ = some (.slice ao os.length co) := (kc 1).trans (((unhide HB1).cell (p := ⟨U, 1, none⟩) hl).symm.trans v1)
        have g1 := kf 1
        have hnx : (Value.slice ao os.length co).ownBlock ≠ some w1.heap.size := fun e => by have := ((unhide HRO).lt _ e).2; omega
        have ec := fun j => grown_cell hgrow4 (b := w1.heap.size) (by simp; omega) hnx j
        have m1 : w4.cell? ⟨w1.heap.size, 0, none⟩ = some (.string o.s) := (ec 0).trans (unhide HS1).1
        have m2 : w4.cell? ⟨w1.heap.size, 1, none⟩ = some (.int .i64 o.k) := (ec 1).trans (unhide HS1).2.1
        have m3 : w4.cell? ⟨w1.heap.size, 2, none⟩ = some (.int .i64 o.l) := (ec 2).trans (unhide HS1).2.2.1
        have m4 : w4.cell? ⟨w1.heap.size, 3, none⟩ = some (.int .i64 o.sd) := (ec 3).trans (unhide HS1).2.2.2
        have HF4 := hide ((unhide HFIN) o (unhide HO) _ _ _ _ hbd hown4 hgrow4 hat4)
        clear hown4 hgrow4 hat4 hlt4 kc kf hbd hnx ec
        refine hK.out _ _ ⟨m1, m2, m3, m4⟩ (fun hS4 => ?_)
        clear hK
        simp only [List.getElem_toArray, List.getElem_cons_succ, List.getElem_cons_zero]
        simp only [Act.put, List.setIfInBounds_toArray, List.set_cons_zero, List.set_cons_succ]
        refine wpAnyH_take (i := 8) (v := ?_) rfl (by kernel_rfl) (by kernel_rfl) (by kernel_rfl) (fun _ _ _ h => h) (Or.inl ⟨by rfl, ?_⟩) hS4 ?_
        rotate_left
        · intro W hW; obtain ⟨s0, s1, s2, s3⟩ := hW; simp only [List.getElem_toArray, List.getElem_cons_succ, List.getElem_cons_zero]; go_simp; first | done | (with_reducible rfl)
        simp only [List.getElem_toArray, List.getElem_cons_succ, List.getElem_cons_zero]
        simp only [Act.put, List.setIfInBounds_toArray, List.set_cons_zero, List.set_cons_succ]
        refine wpAnyH_take (i := 9) (v := ?_) rfl (by kernel_rfl) (by kernel_rfl) (by kernel_rfl) (fun _ _ _ h => h) (Or.inl ⟨by rfl, ?_⟩) hS4 ?_
        rotate_left
        · intro W hW; obtain ⟨s0, s1, s2, s3⟩ := hW; simp only [List.getElem_toArray, List.getElem_cons_succ, List.getElem_cons_zero]; go_simp; first | done | (with_reducible rfl)
        simp only [List.getElem_toArray, List.getElem_cons_succ, List.getElem_cons_zero]
        simp only [Act.put, List.setIfInBounds_toArray, List.set_cons_zero, List.set_cons_succ]
        refine wpAnyH_ready (rs := [10]) (by kernel_rfl) (by simp) ?_
        refine AllReadyH.cons rfl (fun K hK => ?_) AllReadyH.nil
        simp only [List.getElem_toArray, List.getElem_cons_succ, List.getElem_cons_zero]
        go_simp
        refine hK.out _ _ ⟨by rw [World.cell?_setCell_other _ _ _ _ (by simp [hUw])]; exact m1, by rw [World.cell?_setCell_other _ _ _ _ (by simp [hUw])]; exact m2, by rw [World.cell?_setCell_other _ _ _ _ (by simp [hUw])]; exact m3, by rw [World.cell?_setCell_other _ _ _ _ (by simp [hUw])]; exact m4⟩ (fun hS5 => ?_)
        clear hK
        refine wpAnyH_done (by kernel_rfl) ?_ _
        clear hS4 hS5
        go_wp2_with fail
        go_ret
        exact unhide HF4
      · simp only [List.getElem_toArray, List.getElem_cons_succ, List.getElem_cons_zero]
        go_simp
        refine hK.out _ _ (unhide HS1) (fun _ => ?_)
        clear hK
        refine wpAnyH_ready (rs := [4]) (by kernel_rfl) (by simp) ?_
        refine AllReadyH.cons rfl (fun K hK => ?_) AllReadyH.nil
        simp only [List.getElem_toArray, List.getElem_cons_succ, List.getElem_cons_zero]
        go_simp
        refine hK.out _ _ (unhide HS1) (fun _ => ?_)
        clear hK
        refine wpAnyH_ready (rs := [7]) (by kernel_rfl) (by simp) ?_
        refine AllReadyH.cons rfl (fun K hK => ?_) AllReadyH.nil
        refine step_append_lies _ (by rfl) (.tmp 41) (.tmp 43) 38 (by rfl) B 70 iO _ 4 40 Tryz.underlying38 (unhide HI) (unhide HZ).1 (unhide HZ).2.1 (unhide HZ).2.2 rfl (by decide) _ os.length (cellsL os) (by rfl) ((unhide HRO).below (((unhide HB1).alloc z1 _).alloc (by simp; omega) _).drew) ⟨w1.heap.size + 1, 0, none⟩ 1 1 (cellsL [o]) (by rfl) rfl (fun j u hj => (by simpa using new_news (w1.alloc (.cells #[.string o.s, .int .i64 o.k, .int .i64 o.l, .int .i64 o.sd] 70)) o j u hj)) (cellsL_one' _) (by decide) (by unfold maxLen; omega) (by omega) (by simp; omega) _ rfl ?_
        intro g4 c4 w4 hown4 hgrow4 hat4 hlt4
        have hbd : Below w.heap.size w ((w1.alloc (.cells #[.string o.s, .int .i64 o.k, .int .i64 o.l, .int .i64 o.sd] 70)).alloc (.cells #[.string o.s, .int .i64 o.k, .int .i64 o.l, .int .i64 o.sd] 70)).drew := (((unhide HB1).alloc z1 _).alloc (by simp; omega) _).drew
        obtain ⟨kc, kf⟩ := (unhide HKEEP) _ _ hbd hgrow4
        have m0 : w4.cell? ⟨U, 1, none⟩ = some (.slice ao os.length co) := (kc 1).trans (((unhide HB1).cell (p := ⟨U, 1, none⟩) hl).symm.trans v1)
        have g1 := kf 1
        have hnx : (Value.slice ao os.length co).ownBlock ≠ some w1.heap.size := fun e => by have := ((unhide HRO).lt _ e).2; omega
        have ec := fun j => grown_cell hgrow4 (b := w1.heap.size) (by simp; omega) hnx j
        have m1 : w4.cell? ⟨w1.heap.size, 0, none⟩ = some (.string o.s) := (ec 0).trans (unhide HS1).1
        have m2 : w4.cell? ⟨w1.heap.size, 1, none⟩ = some (.int .i64 o.k) := (ec 1).trans (unhide HS1).2.1
        have m3 : w4.cell? ⟨w1.heap.size, 2, none⟩ = some (.int .i64 o.l) := (ec 2).trans (unhide HS1).2.2.1
        have m4 : w4.cell? ⟨w1.heap.size, 3, none⟩ = some (.int .i64 o.sd) := (ec 3).trans (unhide HS1).2.2.2
        have HF4 := hide ((unhide HFIN) o (unhide HO) _ _ _ _ hbd hown4 hgrow4 hat4)
        clear hown4 hgrow4 hat4 hlt4 kc kf hbd hnx ec
        refine hK.out _ _ ⟨m1, m2, m3, m4⟩ (fun hS4 => ?_)
        clear hK
        simp only [List.getElem_toArray, List.getElem_cons_succ, List.getElem_cons_zero]
        simp only [Act.put, List.setIfInBounds_toArray, List.set_cons_zero, List.set_cons_succ]
        refine wpAnyH_take (i := 8) (v := ?_) rfl (by kernel_rfl) (by kernel_rfl) (by kernel_rfl) (fun _ _ _ h => h) (Or.inl ⟨by rfl, ?_⟩) hS4 ?_
        rotate_left
        · intro W hW; obtain ⟨s0, s1, s2, s3⟩ := hW; simp only [List.getElem_toArray, List.getElem_cons_succ, List.getElem_cons_zero]; go_simp; first | done | (with_reducible rfl)
        simp only [List.getElem_toArray, List.getElem_cons_succ, List.getElem_cons_zero]
        simp only [Act.put, List.setIfInBounds_toArray, List.set_cons_zero, List.set_cons_succ]
        refine wpAnyH_take (i := 9) (v := ?_) rfl (by kernel_rfl) (by kernel_rfl) (by kernel_rfl) (fun _ _ _ h => h) (Or.inl ⟨by rfl, ?_⟩) hS4 ?_
        rotate_left
        · intro W hW; obtain ⟨s0, s1, s2, s3⟩ := hW; simp only [List.getElem_toArray, List.getElem_cons_succ, List.getElem_cons_zero]; go_simp; first | done | (with_reducible rfl)
        simp only [List.getElem_toArray, List.getElem_cons_succ, List.getElem_cons_zero]
        simp only [Act.put, List.setIfInBounds_toArray, List.set_cons_zero, List.set_cons_succ]
        refine wpAnyH_ready (rs := [10]) (by kernel_rfl) (by simp) ?_
        refine AllReadyH.cons rfl (fun K hK => ?_) AllReadyH.nil
        simp only [List.getElem_toArray, List.getElem_cons_succ, List.getElem_cons_zero]
        go_simp
        refine hK.out _ _ ⟨by rw [World.cell?_setCell_other _ _ _ _ (by simp [hUw])]; exact m1, by rw [World.cell?_setCell_other _ _ _ _ (by simp [hUw])]; exact m2, by rw [World.cell?_setCell_other _ _ _ _ (by simp [hUw])]; exact m3, by rw [World.cell?_setCell_other _ _ _ _ (by simp [hUw])]; exact m4⟩ (fun hS5 => ?_)
        clear hK
        refine wpAnyH_done (by kernel_rfl) ?_ _
        clear hS4 hS5
        go_wp2_with fail
        go_ret
        exact unhide HF4
    · have HN := hide ((unhide HNOT) ho)
      clear ho
      go_wp2_with fail
      go_ret
      exact ⟨false, rfl, Or.inr ⟨rfl, unhide HN⟩, ((unhide HB1).mono (by omega)).alloc (by omega) _⟩
end Go.Proofs.YtokabkhnidlcnabGreatDoor

/-
  Walk: the words of a line, in the program (wordsOf).
-/
namespace Go.Proofs.YtokabkhnidlcnabGreatDoor
set_option maxRecDepth 100000
set_option linter.unusedSimpArgs false
set_option linter.unusedVariables false
open Go.RowKit

theorem RowS.mono {w : World} {B B' : Nat} {v : Value} {ws : List ByteArray} (h : RowS w B v ws) (hb : B' ≤ B) : RowS w B' v ws := by
  obtain ⟨h1, h2 | ⟨g, cap, cur, hv, hg, h3⟩⟩ := h
  · exact ⟨h1, Or.inl h2⟩
  · exact ⟨h1, Or.inr ⟨g, cap, cur, hv, Nat.le_trans hb hg, h3⟩⟩

theorem row_cells (w : World) (ps : List ByteArray) (k : Nat) (p : ByteArray) (h : ps[k]? = some p) : (w.alloc (.cells (ps.map Value.string).toArray 9)).cell? ⟨w.heap.size, k, none⟩ = some (.string p) := by
  have := World.rangeAt_of_block (w := w.alloc (.cells (ps.map Value.string).toArray 9)) (b := w.heap.size) (heap_alloc_new w _) 0 ps.length
  have h2 := this k (.string p) (by simp [List.getElem?_take, h, (List.getElem?_eq_some_iff.1 h).1]; exact (List.getElem?_eq_some_iff.1 h).2)
  simpa using h2

set_option maxHeartbeats 2000000 in
theorem wordsOf_any (s : ByteArray) (w : World) (hs : s.size ≤ 20000) (hm : MaxL w) :
    Calls Tryz.prog 63 #[.string s] w (WdsPost w s) := by
  obtain ⟨i0, hi0, hz0, hz1, hz2⟩ := info_parts' infoStr
  have HI := hide hi0
  have HZ := hide (And.intro hz0 (And.intro hz1 hz2))
  clear hi0 hz0 hz1 hz2
  go_enter Tryz.func63, Tryz.ntmps63
  go_wp2_with (go_at_call 70; refine (split_at' s hs w hm).mono ?_; rintro e w1 ⟨ps, HF, hpl, rfl, hw1⟩; have HC := hide (show ∀ k p, ps[k]? = some p → w1.cell? ⟨w.heap.size, k, none⟩ = some (.string p) from fun k p hk => (by rw [hw1]; exact row_cells w ps k p hk)); have HB0 := hide (show Below w.heap.size w w1 from (by rw [hw1]; exact below1 _ _)); have hz1 : w.heap.size + 1 ≤ w1.heap.size := (by rw [hw1]; simp); clear hw1)
  go_loopw [3, 9] (fun out i wr => ∃ (k : Nat) (us : List ByteArray) (v : Value), k ≤ ps.length ∧ i = .int .i64 (k : Int) ∧ out = v ∧ us.length ≤ k ∧ Hid (us = full (ps.take k)) ∧ Hid (RowS wr w1.heap.size v us) ∧ Below w1.heap.size w1 wr) (fun _ i _ => ps.length - (intOf i).toNat)
  case atStart => exact ⟨0, [], _, Nat.zero_le _, rfl, rfl, Nat.zero_le _, hide rfl, hide (World.ownsRow_nil _ _ _ _), Below.refl _ _⟩
  case round =>
    obtain ⟨k, us, v, hk, rfl, rfl, hul, HU, HR, hbel⟩ := hrel
    by_cases hlt : k < ps.length
    · have hltI : (k : Int) < (ps.length : Int) := by omega
      obtain ⟨p, hp⟩ : ∃ p, ps[k]? = some p := ⟨_, List.getElem?_eq_getElem hlt⟩
      have hc : wr.cell? ⟨w.heap.size, k, none⟩ = some (.string p) := (hbel.cell (p := ⟨w.heap.size, k, none⟩) (by show w.heap.size < w1.heap.size; omega)).trans ((unhide HC) k p hp)
      have HT := hide (full_take ps k p hp)
      by_cases h0 : 0 < p.size
      · have hne := not_empty (t := p) (by omega)
        have HT2 := hide (show full (ps.take (k + 1)) = us ++ [p] by rw [unhide HT, if_pos h0, unhide HU])
        clear hp HT h0
        go_wp2_with (at_builtin; refine wpList_append_own_at _ rfl (.tmp 15) (.tmp 17) 37 rfl w1.heap.size 9 i0 _ 1 16 Tryz.underlying37 (unhide HI) (unhide HZ).1 (unhide HZ).2.1 (unhide HZ).2.2 rfl (by decide) _ us.length (cellsS us) rfl ((unhide HR).below (below1 _ _)) ⟨wr.heap.size, 0, none⟩ 1 1 (cellsS [p]) rfl rfl (by simpa using new_newsS wr p) (cellsS_one' _) ?b1 ?b2 ?b3 ?next)
        case b1 => unfold maxLen; omega
        case b2 => omega
        case b3 => have := hbel.size; simp; omega
        case next =>
          intro v4 w4 hown4 hgrow4 hnil4 hat4
          have HO := hide (show RowS w4 w1.heap.size v4 (us ++ [p]) by
            unfold RowS
            rw [cellsS_append, List.length_append]
            exact hown4)
          have hbel4 : Below w1.heap.size w1 w4 := (hbel.alloc hbel.size _).grown hgrow4 (by have := hbel.size; simp; omega) (fun q hq => ((unhide HR).lt q hq).1)
          clear hown4 hgrow4 hnil4 hat4
          go_wp2
          exact ⟨⟨k + 1, us ++ [p], _, by omega, by go_num, rfl, by simp; omega, hide (unhide HT2).symm, HO, hbel4⟩, by simp [intOf]; omega⟩
      · obtain rfl := bytes_nil (t := p) (by omega)
        have HT2 := hide (show full (ps.take (k + 1)) = us by rw [unhide HT, if_neg h0, unhide HU, List.append_nil])
        clear hp HT h0
        go_wp2
        exact ⟨⟨k + 1, us, _, by omega, by go_num, rfl, by omega, hide (unhide HT2).symm, HR, hbel⟩, by simp [intOf]; omega⟩
    · have hkz : k = ps.length := by omega
      have HE := hide (show us = wds s by rw [unhide HU, hkz, List.take_length, unhide HF])
      clear hkz
      go_wp2
      go_ret
      have e := unhide HE
      subst e
      exact ⟨_, rfl, (unhide HR).mono (by omega), by omega, (unhide HB0).trans (hbel.mono (by omega))⟩
end Go.Proofs.YtokabkhnidlcnabGreatDoor
