import Derived.Deep.DeepCutAuto
import Derived.Deep.RegionHeld
import Derived.Deep.AppendLies
import Derived.Test.YtokabkhnidlcnabGreatDoorL10
import Derived.Test.YtokabkhnidlcnabGreatDoorL11
import Derived.Test.YtokabkhnidlcnabGreatDoorL12

/-
  Walk: the operator that words declare, in the specification (l5OpOf).
-/
namespace Go.Proofs.YtokabkhnidlcnabGreatDoor
set_option maxRecDepth 100000
set_option linter.unusedSimpArgs false
set_option linter.unusedVariables false
open Go.RowKit

set_option maxHeartbeats 4000000 in
theorem l5OpOf_few (a : Option Addr) (c n : Nat) (w : World) (hn : n < 3) :
    Calls Tryz.prog 31 #[.slice a n c] w fun e w' => (∃ o : OpR, e = .returned (.tuple #[.agg #[.string o.s, .int .i64 o.k, .int .i64 o.l, .int .i64 o.sd], .bool false])) ∧ Below w.heap.size w w' := by
  have hnI : (n : Int) < 3 := by omega
  go_enter Tryz.func31, Tryz.ntmps31
  go_wp2
  refine bodyPost_ret (v := .tuple #[.agg #[.string ⟨#[]⟩, .int .i64 0, .int .i64 0, .int .i64 0], .bool false]) ?res rfl ⟨⟨OpR.zero, rfl⟩, ?_⟩
  case res => simp [results, Tryz.results31, go_sem]
  exact below1 _ _

set_option maxHeartbeats 8000000 in
theorem l5OpOf_core (g c n : Nat) (k t l sd : ByteArray) (w : World) (hn : 3 ≤ n) (hsl : l.size ≤ maxLen) (c0 : w.cell? ⟨g, 0, none⟩ = some (.string k)) (c1 : w.cell? ⟨g, 1, none⟩ = some (.string t)) (c2 : w.cell? ⟨g, 2, none⟩ = some (.string l)) (c3 : 4 ≤ n → w.cell? ⟨g, 3, none⟩ = some (.string sd)) :
    Calls Tryz.prog 31 #[.slice (some ⟨g, 0, none⟩) n c] w (OpwPost w n k t l sd) := by
  have hg : g < w.heap.size := World.block_lt_of_cell? _ _ c0
  have hg2 : g ≠ w.heap.size := by omega
  have hnI : ¬ (n : Int) < 3 := by omega
  have hnI0 : (0 : Int) < (n : Int) := by omega
  have hnI1 : (1 : Int) < (n : Int) := by omega
  have hnI2 : (2 : Int) < (n : Int) := by omega
  have HC3 := hide c3
  clear c3
  cases hl : levB l
  · have HL := hide (show levI l = -1 by unfold levI; rw [hl]; rfl)
    have HA := hide (ans_none (n := n) (k := k) (t := t) (sd := sd) hl)
    clear hl
    go_enter Tryz.func31, Tryz.ntmps31
    go_wp2_with (go_at_call 46; refine (l5Level_any l _ hsl).mono ?_; rw [unhide HL]; rintro e w1 ⟨rfl, hx⟩; obtain rfl := hx.symm; clear hx)
    refine bodyPost_ret (v := .tuple #[.agg #[.string ⟨#[]⟩, .int .i64 0, .int .i64 0, .int .i64 0], .bool false]) ?res rfl ⟨OpR.zero, false, rfl, Or.inr ⟨rfl, unhide HA⟩, ?_⟩
    case res => simp [results, Tryz.results31, go_sem]
    exact below1 _ _
  obtain ⟨V, hV⟩ : ∃ V : Nat, V = valTo l l.size := ⟨_, rfl⟩
  have HL := hide (show levI l = (V : Int) by unfold levI; rw [hl, hV]; rfl)
  have HLB := hide hl
  have HX := hide (show ∀ W : World, Calls Tryz.prog 46 #[.string l] W fun e w' => e = .returned (.int .i64 (V : Int)) ∧ w' = W from fun W => by have h := l5Level_any l W hsl; rw [unhide HL] at h; exact h)
  have HV := hide hV
  clear hl hV
  go_enter Tryz.func31, Tryz.ntmps31
  go_wp2_with (go_at_call 46; refine (l5Level_any l _ hsl).mono ?_; rw [unhide HL]; rintro e w1 ⟨rfl, hx⟩; obtain rfl := hx.symm; clear hx)
  go_cut [4] (fun s4 wc => ∃ b4 : Nat, s4 = .pointer (some ⟨b4, 0, none⟩) ∧ w.heap.size < b4 ∧ b4 < wc.heap.size ∧ Hid (OpCells wc b4 ⟨t, 0, (V : Int), 0⟩) ∧ Hid (OpCells wc w.heap.size OpR.zero) ∧ Hid (Below w.heap.size w wc))
  case first =>
    go_region_held (fun w' => w'.cell? ⟨g, 1, none⟩ = some (.string t) ∧ w'.cell? ⟨g, 2, none⟩ = some (.string l)) (go_keep)
      (first | (go_at_call 46; have HX1 := (unhide HX); (with_reducible refine (HX1 _).mono ?_); rintro e w1 ⟨rfl, hx⟩; obtain rfl := hx.symm; clear hx HX1))
    all_goals
      go_wp2_with fail
      go_meet
      case rel =>
        go_light
        exact ⟨w.heap.size + 1, rfl, by omega, by simp, hide ⟨⟨by simp [go_sem], by simp [go_sem], by simp [go_sem], by simp [go_sem]⟩, by simp [go_sem], by simp [go_sem], by simp [go_sem], by simp [go_sem]⟩, hide ⟨⟨by simp [go_sem, OpR.zero], by simp [go_sem, OpR.zero], by simp [go_sem, OpR.zero], by simp [go_sem, OpR.zero]⟩, by simp [go_sem], by simp [go_sem], by simp [go_sem], by simp [go_sem]⟩, hide (((below1 _ _).alloc (by simp) _).drew)⟩
  case rest =>
    obtain ⟨b4, rfl, hb4, hb4l, HB4, HB0, HBW⟩ := hcut
    have HS := hide (fun W : World => l5Side_any sd W)
    obtain ⟨⟨p0, p1, p2, p3⟩, f0, f1, f2, f3⟩ := unhide HB4
    obtain ⟨⟨r0, r1, r2, r3⟩, z0, z1, z2, z3⟩ := unhide HB0
    simp only [OpR.zero] at p0 p1 p2 p3 r0 r1 r2 r3
    have k0 : wc.cell? ⟨g, 0, none⟩ = some (.string k) := ((unhide HBW).cell (p := ⟨g, 0, none⟩) hg).trans c0
    have e1 : b4 ≠ w.heap.size := by omega
    have e2 : w.heap.size ≠ b4 := by omega
    have e3 : b4 ≠ g := by omega
    have e4 : g ≠ b4 := by omega
    have HK3 := hide (show 4 ≤ n → wc.cell? ⟨g, 3, none⟩ = some (.string sd) from fun h => ((unhide HBW).cell (p := ⟨g, 3, none⟩) hg).trans ((unhide HC3) h))
    clear HB4 HB0 HC3 c0 c1 c2 HX HL
    cases q1 : (k.toList == [112, 114, 101, 102, 105, 120])
    case true =>
      have q2 : (k.toList == [112, 111, 115, 116, 102, 105, 120]) = false := lit_no (by rw [lit_true q1]; decide)
      have q3 : (k.toList == [105, 110, 102, 105, 120]) = false := lit_no (by rw [lit_true q1]; decide)
      have HA0 := hide (ans_prefix (n := n) (t := t) (sd := sd) (unhide HLB) (lit_true q1))
      by_cases h3 : n = 3
      · have HA := hide (show opAns n k t l sd = some ⟨t, 1, (V : Int), 0⟩ by rw [unhide HA0, if_pos h3, unhide HV])
        have h3I : ((n : Int) == 3) = true := by simp; omega
        clear h3 HA0
        go_wp2
        refine bodyPost_ret (v := .tuple #[.agg #[.string t, .int .i64 1, .int .i64 (V : Int), .int .i64 0], .bool true]) ?res rfl ⟨⟨t, 1, (V : Int), 0⟩, true, rfl, Or.inl ⟨rfl, unhide HA⟩, ?_⟩
        case res => simp [results, Tryz.results31, go_sem, r0, r1, r2, r3, e1, e2, e3, e4]
        first
          | exact below_setCells (Nat.le_refl _) [.string t, .int .i64 1, .int .i64 (V : Int), .int .i64 0] 0 _ ((unhide HBW).setCell (p := ⟨b4, 1, none⟩) (by show w.heap.size ≤ b4; omega) _)
          | exact below_setCells (Nat.le_refl _) [.string t, .int .i64 1, .int .i64 (V : Int), .int .i64 0] 0 _ (((unhide HBW).setCell (p := ⟨b4, 1, none⟩) (by show w.heap.size ≤ b4; omega) _).setCell (p := ⟨b4, 3, none⟩) (by show w.heap.size ≤ b4; omega) _)
      · have HA := hide (show opAns n k t l sd = none by rw [unhide HA0, if_neg h3])
        have h3I : ((n : Int) == 3) = false := by simp; omega
        clear h3 HA0
        go_wp2_with (first | (go_at_call 47; (with_reducible refine ((unhide HS) _).mono ?_); rintro e w1 ⟨rfl, hx⟩; obtain rfl := hx.symm; clear hx))
        refine bodyPost_ret (v := .tuple #[.agg #[.string ⟨#[]⟩, .int .i64 0, .int .i64 0, .int .i64 0], .bool false]) ?res rfl ⟨OpR.zero, false, rfl, Or.inr ⟨rfl, unhide HA⟩, ?_⟩
        case res => simp [results, Tryz.results31, go_sem, r0, r1, r2, r3]
        first
          | exact unhide HBW
          | exact below_setCells (Nat.le_refl _) [.string ⟨#[]⟩, .int .i64 0, .int .i64 0, .int .i64 0] 0 _ (unhide HBW)
    cases q2 : (k.toList == [112, 111, 115, 116, 102, 105, 120])
    case true =>
      have q3 : (k.toList == [105, 110, 102, 105, 120]) = false := lit_no (by rw [lit_true q2]; decide)
      have HA0 := hide (ans_postfix (n := n) (t := t) (sd := sd) (unhide HLB) (lit_true q2))
      by_cases h3 : n = 3
      · have HA := hide (show opAns n k t l sd = some ⟨t, 3, (V : Int), 0⟩ by rw [unhide HA0, if_pos h3, unhide HV])
        have h3I : ((n : Int) == 3) = true := by simp; omega
        clear h3 HA0
        go_wp2
        refine bodyPost_ret (v := .tuple #[.agg #[.string t, .int .i64 3, .int .i64 (V : Int), .int .i64 0], .bool true]) ?res rfl ⟨⟨t, 3, (V : Int), 0⟩, true, rfl, Or.inl ⟨rfl, unhide HA⟩, ?_⟩
        case res => simp [results, Tryz.results31, go_sem, r0, r1, r2, r3, e1, e2, e3, e4]
        first
          | exact below_setCells (Nat.le_refl _) [.string t, .int .i64 3, .int .i64 (V : Int), .int .i64 0] 0 _ ((unhide HBW).setCell (p := ⟨b4, 1, none⟩) (by show w.heap.size ≤ b4; omega) _)
          | exact below_setCells (Nat.le_refl _) [.string t, .int .i64 3, .int .i64 (V : Int), .int .i64 0] 0 _ (((unhide HBW).setCell (p := ⟨b4, 1, none⟩) (by show w.heap.size ≤ b4; omega) _).setCell (p := ⟨b4, 3, none⟩) (by show w.heap.size ≤ b4; omega) _)
      · have HA := hide (show opAns n k t l sd = none by rw [unhide HA0, if_neg h3])
        have h3I : ((n : Int) == 3) = false := by simp; omega
        clear h3 HA0
        go_wp2_with (first | (go_at_call 47; (with_reducible refine ((unhide HS) _).mono ?_); rintro e w1 ⟨rfl, hx⟩; obtain rfl := hx.symm; clear hx))
        refine bodyPost_ret (v := .tuple #[.agg #[.string ⟨#[]⟩, .int .i64 0, .int .i64 0, .int .i64 0], .bool false]) ?res rfl ⟨OpR.zero, false, rfl, Or.inr ⟨rfl, unhide HA⟩, ?_⟩
        case res => simp [results, Tryz.results31, go_sem, r0, r1, r2, r3]
        first
          | exact unhide HBW
          | exact below_setCells (Nat.le_refl _) [.string ⟨#[]⟩, .int .i64 0, .int .i64 0, .int .i64 0] 0 _ (unhide HBW)
    cases q3 : (k.toList == [105, 110, 102, 105, 120])
    case true =>
      have HA0 := hide (ans_infix (n := n) (t := t) (sd := sd) (unhide HLB) (lit_true q3))
      by_cases h4 : n = 4
      · have h4I : ((n : Int) == 4) = true := by simp; omega
        have h4J : (3 : Int) < (n : Int) := by omega
        have k3 := (unhide HK3) (by omega)
        obtain ⟨S, hS⟩ : ∃ S : Int, S = sideW sd := ⟨_, rfl⟩
        have HSS := hide hS
        have HSC := side_cases sd
        rw [← hS] at HSC HS
        by_cases hs0 : S = 0
        · have HA := hide (show opAns n k t l sd = none by rw [unhide HA0, if_neg (fun x => x.2 (hS.symm.trans hs0))])
          have hsI : ¬ (0 : Int) < S := by omega
          clear hs0 HA0 hS HSC h4
          go_wp2_with (first | (go_at_call 47; (with_reducible refine ((unhide HS) _).mono ?_); rintro e w1 ⟨rfl, hx⟩; obtain rfl := hx.symm; clear hx))
          refine bodyPost_ret (v := .tuple #[.agg #[.string ⟨#[]⟩, .int .i64 0, .int .i64 0, .int .i64 0], .bool false]) ?res rfl ⟨OpR.zero, false, rfl, Or.inr ⟨rfl, unhide HA⟩, ?_⟩
          case res => simp [results, Tryz.results31, go_sem, r0, r1, r2, r3]
          first
            | exact unhide HBW
            | exact below_setCells (Nat.le_refl _) [.string ⟨#[]⟩, .int .i64 0, .int .i64 0, .int .i64 0] 0 _ (unhide HBW)
        · have HA := hide (show opAns n k t l sd = some ⟨t, 2, (V : Int), S⟩ by rw [unhide HA0, if_pos ⟨h4, fun x => hs0 (hS.trans x)⟩, unhide HV, hS])
          have hsI : (0 : Int) < S := by omega
          clear hs0 HA0 hS HSC h4
          go_wp2_with (first | (go_at_call 47; (with_reducible refine ((unhide HS) _).mono ?_); rintro e w1 ⟨rfl, hx⟩; obtain rfl := hx.symm; clear hx))
          refine bodyPost_ret (v := .tuple #[.agg #[.string t, .int .i64 2, .int .i64 (V : Int), .int .i64 S], .bool true]) ?res rfl ⟨⟨t, 2, (V : Int), S⟩, true, rfl, Or.inl ⟨rfl, unhide HA⟩, ?_⟩
          case res => simp [results, Tryz.results31, go_sem, r0, r1, r2, r3, e1, e2, e3, e4]
          exact below_setCells (Nat.le_refl _) [.string t, .int .i64 2, .int .i64 (V : Int), .int .i64 S] 0 _ (((unhide HBW).setCell (p := ⟨b4, 1, none⟩) (by show w.heap.size ≤ b4; omega) _).setCell (p := ⟨b4, 3, none⟩) (by show w.heap.size ≤ b4; omega) _)
      · have HA := hide (show opAns n k t l sd = none by rw [unhide HA0, if_neg (fun x => h4 x.1)])
        have h4I : ((n : Int) == 4) = false := by simp; omega
        clear h4 HA0
        go_wp2_with (first | (go_at_call 47; (with_reducible refine ((unhide HS) _).mono ?_); rintro e w1 ⟨rfl, hx⟩; obtain rfl := hx.symm; clear hx))
        refine bodyPost_ret (v := .tuple #[.agg #[.string ⟨#[]⟩, .int .i64 0, .int .i64 0, .int .i64 0], .bool false]) ?res rfl ⟨OpR.zero, false, rfl, Or.inr ⟨rfl, unhide HA⟩, ?_⟩
        case res => simp [results, Tryz.results31, go_sem, r0, r1, r2, r3]
        first
          | exact unhide HBW
          | exact below_setCells (Nat.le_refl _) [.string ⟨#[]⟩, .int .i64 0, .int .i64 0, .int .i64 0] 0 _ (unhide HBW)
    have HA := hide (ans_other (n := n) (t := t) (l := l) (sd := sd) (lit_false q1) (lit_false q2) (lit_false q3))
    go_wp2_with (first | (go_at_call 47; (with_reducible refine ((unhide HS) _).mono ?_); rintro e w1 ⟨rfl, hx⟩; obtain rfl := hx.symm; clear hx))
    refine bodyPost_ret (v := .tuple #[.agg #[.string ⟨#[]⟩, .int .i64 0, .int .i64 0, .int .i64 0], .bool false]) ?res rfl ⟨OpR.zero, false, rfl, Or.inr ⟨rfl, unhide HA⟩, ?_⟩
    case res => simp [results, Tryz.results31, go_sem, r0, r1, r2, r3]
    first
      | exact unhide HBW
      | exact below_setCells (Nat.le_refl _) [.string ⟨#[]⟩, .int .i64 0, .int .i64 0, .int .i64 0] 0 _ (unhide HBW)
end Go.Proofs.YtokabkhnidlcnabGreatDoor

/-
  Walk: the specification's ReadUnit.
-/
namespace Go.Proofs.YtokabkhnidlcnabGreatDoor
set_option maxRecDepth 100000
set_option linter.unusedSimpArgs false
set_option linter.unusedVariables false
open Go.RowKit

theorem l5OpOf_any (v : Value) (ws : List ByteArray) (w : World) (hs : StrsAt w v ws) (hz : ∀ x ∈ ws, x.size ≤ maxLen) :
    Calls Tryz.prog 31 #[v] w (OpwAns w ws) :=
  opw_any 31 v ws w hs hz (fun a c n w h => l5OpOf_few a c n w h) (fun g c n k t l sd w h1 h2 h3 h4 h5 h6 => l5OpOf_core g c n k t l sd w h1 h2 h3 h4 h5 h6)

theorem long_isS {s : ByteArray} (h : 20000 < s.size) : UnitIs s [] [] ByteArray.empty 1 0 := Or.inl ⟨h, rfl, rfl, rfl, rfl, rfl⟩

theorem pcs_le (c : UInt8) (s : ByteArray) : ∀ (n a : Nat), s.size - a < n → a ≤ s.size → ∀ p ∈ pcs c s a, p.1 ≤ p.2 ∧ p.2 ≤ s.size
  | 0, a, hn, ha => by omega
  | n + 1, a, hn, ha => by
    obtain ⟨g1, g2, g3, g4⟩ := nx_spec c s a ha
    rw [pcs_step c s a ha]
    intro p hp
    rcases List.mem_cons.1 hp with rfl | hp
    · exact ⟨g1, g2⟩
    · by_cases h : nx c s a < s.size
      · rw [if_pos h] at hp
        exact pcs_le c s n _ (by omega) (by omega) p hp
      · rw [if_neg h] at hp; cases hp

theorem plc_at {ls : List LnR} {k : Nat} (h : k < ls.length) : (plc ls).drop k = ((atL ls k).f, (atL ls k).t) :: (plc ls).drop (k + 1) := by
  have hl : k < (plc ls).length := by simpa [plc] using h
  rw [List.drop_eq_getElem_cons hl]
  congr 1
  simp [plc, atL, List.getD_eq_getElem?_getD, List.getElem?_eq_getElem h]

theorem line_ok_use {s : ByteArray} {ls : List LnR} {k : Nat} (h : k < ls.length) {us : List ByteArray} {os : List OpR} (ht : Then s ((plc ls).drop k) (k + 1) us os) (hn : wsL s ls k ≠ [wBegin]) : (∀ us' os', LineIs (wsL s ls k) us os us' os' → Then s ((plc ls).drop (k + 1)) (k + 1 + 1) us' os') ∧ ((∀ us' os', ¬ LineIs (wsL s ls k) us os us' os') → UnitIs s [] [] ByteArray.empty 2 ((k + 1 : Nat) : Int)) := by
  rw [plc_at h] at ht
  exact ⟨fun us' os' hl => ht.next hn hl, fun hl => ht.bad hn hl⟩

/-- One line more, a use. -/
theorem unit_use {B U : Nat} {vu vo : Value} {us : List ByteArray} {os : List OpR} {b x : ByteArray} {w w1 w4 : World} {g4 c4 : Nat} (h : UnM w B U vu vo us os b) (hb : Below w.heap.size w w1)
    (hown : w4.ownsRow B 9 1 (.slice (some ⟨g4, 0, none⟩) (us.length + 1) c4) (us.length + 1) (cellsS us ++ cellsS [x])) (hg : w1.grownBy w4 vu.ownBlock) (hat : vu.ownBlock = some g4 ∨ g4 = w1.heap.size) :
    UnM (w4.setCell ⟨U, 0, none⟩ (.slice (some ⟨g4, 0, none⟩) (us.length + 1) c4)) B U (.slice (some ⟨g4, 0, none⟩) (us.length + 1) c4) vo (us ++ [x]) os b ∧ Below B w (w4.setCell ⟨U, 0, none⟩ (.slice (some ⟨g4, 0, none⟩) (us.length + 1) c4)) := by
  have hr : RowS w4 B (.slice (some ⟨g4, 0, none⟩) (us.length + 1) c4) (us ++ [x]) := by
    unfold RowS
    rw [cellsS_append, List.length_append]
    exact hown
  exact h.putU hb hg hr (hat.imp (fun e => e.symm) (fun e => ⟨g4, rfl, by omega⟩))

set_option maxHeartbeats 16000000 in
theorem specReadUnit_any (s : ByteArray) (w : World) (hs : s.size ≤ maxLen) :
    Calls Tryz.prog 14 #[.string s] w (UnitAns w s) := by
  by_cases hlong : 20000 < s.size
  · have hlI : (20000 : Int) < (s.size : Int) := by omega
    have HP := hide (fun w' => unitAns_none (w := w) (w' := w') (long_isS hlong))
    unfold maxLen at hs
    clear hlong
    go_enter Tryz.func14, Tryz.ntmps14
    go_wp2
    refine bodyPost_ret (v := .tuple #[.agg #[.slice none 0 0, .slice none 0 0, .string ⟨#[]⟩], .int .i64 1, .int .i64 0]) ?res rfl ((unhide HP) _ ?_)
    case res => simp [results, Tryz.results14, go_sem]
    first
      | exact below1 _ _
      | exact below_setCells (Nat.le_refl _) [.slice none 0 0, .slice none 0 0, .string ⟨#[]⟩] 0 _ (below1 _ _)
  have hs2 : s.size ≤ 20000 := by omega
  have hlI : ¬ (20000 : Int) < (s.size : Int) := by omega
  clear hlong hs
  obtain ⟨iS, hiS, hzS0, hzS1, hzS2⟩ := info_parts' infoStr
  have HI := hide hiS
  have HZ := hide (And.intro hzS0 (And.intro hzS1 hzS2))
  obtain ⟨iO, hiO, hzO0, hzO1, hzO2⟩ := info_parts' infoOp'
  have HIO := hide hiO
  have HZO := hide (And.intro hzO0 (And.intro hzO1 hzO2))
  clear hiS hzS0 hzS1 hzS2 hiO hzO0 hzO1 hzO2
  have HL := hide (l5Lines_any s (w.alloc (.cells #[.slice none 0 0, .slice none 0 0, .string ⟨#[]⟩] 40)) hs2)
  have HZ0 := hide (show ZeroU (w.alloc (.cells #[.slice none 0 0, .slice none 0 0, .string ⟨#[]⟩] 40)) w.heap.size from ⟨by simp [go_sem], by simp [go_sem], by simp [go_sem], fun o => by simp [go_sem]⟩)
  go_enter Tryz.func14, Tryz.ntmps14
  go_wp2_with fail
  (with_reducible refine (unhide HL).mono ?_)
  rintro e w1 ⟨g, c, ls, rfl, hg, hgl, HOP, HST, HPL, hll, hb1⟩
  have HBW1 := hide (show Below w.heap.size w w1 from (below1 _ _).trans (hb1.mono (by simp)))
  have HZ1 := hide ((unhide HZ0).below hb1 (by simp))
  have z1 : w.heap.size + 1 ≤ w1.heap.size := by have := hb1.size; simp at this; omega
  have hg1 : w.heap.size + 1 ≤ g := by simpa using hg
  have HBG := hide (l5Begin_any s g c ls w1 (by omega) (unhide HOP) (unhide HST))
  clear hb1 HL HZ0 hg
  go_wp2_with fail
  (with_reducible refine (unhide HBG).mono ?_)
  rintro e w1' ⟨rb, rfl, hbeg, hx⟩
  obtain rfl := hx.symm
  clear hx HBG
  have HT0 := hide (show Then s ((plc ls).drop 0) (0 + 1) [] [] by rw [List.drop_zero, unhide HPL]; exact Then.start hs2)
  have HTL := hide (show ∀ i, i < ls.length → (atL ls i).t ≤ s.size from fun i hi => by
    have := pcs_le 10 s (s.size + 1) 0 (by omega) (Nat.zero_le _) ((atL ls i).f, (atL ls i).t) (by rw [← unhide HPL]; exact List.mem_map.2 ⟨atL ls i, atL_mem hi, rfl⟩)
    exact this.2)
  -- where the header ends
  have hend : ∃ E : Nat, E ≤ ls.length ∧ (∀ j, j < E → wsL s ls j ≠ [wBegin]) ∧ ((rb = -1 ∧ E = ls.length) ∨ (rb = (E : Int) ∧ E < ls.length ∧ wsL s ls E = [wBegin])) := by
    rcases hbeg with ⟨h1, h2⟩ | ⟨i, h1, h2, h3, h4⟩
    · exact ⟨ls.length, Nat.le_refl _, h2, Or.inl ⟨h1, rfl⟩⟩
    · exact ⟨i, by omega, h4, Or.inr ⟨h2, h1, h3⟩⟩
  obtain ⟨E, hE, hno, hrb⟩ := hend
  have HNO := hide hno
  have HW8 := hide (show Below w1.heap.size w1 (((w1.alloc (.cells #[] 9)).alloc (.cells #[] 70)).alloc (.cells #[.slice (some ⟨w1.heap.size, 0, none⟩) 0 0, .slice (some ⟨w1.heap.size + 1, 0, none⟩) 0 0, .string ⟨#[]⟩] 40)) from ((below1 _ _).alloc (by simp) _).alloc (by simp; omega) _)
  have HU8 := hide (show UnM (((w1.alloc (.cells #[] 9)).alloc (.cells #[] 70)).alloc (.cells #[.slice (some ⟨w1.heap.size, 0, none⟩) 0 0, .slice (some ⟨w1.heap.size + 1, 0, none⟩) 0 0, .string ⟨#[]⟩] 40)) w1.heap.size (w1.heap.size + 1 + 1) (.slice (some ⟨w1.heap.size, 0, none⟩) 0 0) (.slice (some ⟨w1.heap.size + 1, 0, none⟩) 0 0) [] [] ⟨#[]⟩ from
    ⟨by simp [go_sem], by simp [go_sem], by simp [go_sem], fun o => by simp [go_sem], by omega, by
      have := ((World.ownsRow_lit (base := w1.heap.size) (e := 9) (size := 1) w1 #[] 0 (Nat.le_refl _) (Nat.zero_le _) rfl).alloc (.cells #[] 70)).alloc (.cells #[.slice (some ⟨w1.heap.size, 0, none⟩) 0 0, .slice (some ⟨w1.heap.size + 1, 0, none⟩) 0 0, .string ⟨#[]⟩] 40)
      simpa [RowS, cellsS] using this, by
      have := (World.ownsRow_lit (base := w1.heap.size) (e := 70) (size := 4) (w1.alloc (.cells #[] 9)) #[] 0 (by simp) (Nat.zero_le _) rfl).alloc (.cells #[.slice (some ⟨w1.heap.size, 0, none⟩) 0 0, .slice (some ⟨w1.heap.size + 1, 0, none⟩) 0 0, .string ⟨#[]⟩] 40)
      simpa [RowO, cellsL] using this, (by simp [Value.ownBlock]; omega), (by simp [Value.ownBlock]), fun q e e2 => by simp [Value.ownBlock] at e e2; omega⟩)
  clear hbeg hno
  -- the loop's end in both cases
  rcases hrb with ⟨hr1, hE2⟩ | ⟨hr1, hE2, hE3⟩
  · subst hr1
    subst hE2
    go_wp2_with fail
    go_loopw [9] (fun i wr => ∃ (k : Nat) (us : List ByteArray) (os : List OpR) (vu vo : Value), k ≤ ls.length ∧ i = .int .i64 (k : Int) ∧ us.length ≤ k ∧ os.length ≤ k ∧ Hid (Then s ((plc ls).drop k) (k + 1) us os) ∧ Hid (UnM wr w1.heap.size (w1.heap.size + 1 + 1) vu vo us os ⟨#[]⟩) ∧ Below w1.heap.size w1 wr) (fun i _ => ls.length - (intOf i).toNat)
    case atStart => exact ⟨0, [], [], _, _, Nat.zero_le _, rfl, Nat.le_refl _, Nat.le_refl _, HT0, HU8, unhide HW8⟩
    case round =>
      clear HU8 HW8 HT0
      obtain ⟨k, us, os, vu, vo, hk, rfl, hus, hos, HT, HU, hbel⟩ := hrel
      have hzr := hbel.size
      have HBW := hide (show Below w.heap.size w wr from (unhide HBW1).trans (hbel.mono (by omega)))
      have hUl := (unhide HU).lt
      by_cases hlt : k < ls.length
      · have hltI : (k : Int) < (ls.length : Int) := by omega
        have hkl : k < ls.length := by omega
        have hklI : (k : Int) < (ls.length : Int) := by omega
        obtain ⟨o0, _, _⟩ := ((unhide HOP).below hbel hgl) k hkl
        obtain ⟨ws, hws⟩ : ∃ ws, ws = wsL s ls k := ⟨_, rfl⟩
        have hst : StrsAt wr (atL ls k).wv ws := by rw [hws]; exact ((unhide HST) _ (atL_mem hkl)).below hbel
        have hsz : ∀ x ∈ ws, x.size ≤ maxLen := fun x hx => by
          rw [hws] at hx
          have h1 := wds_size hx
          rw [size_ext] at h1
          unfold maxLen
          omega
        obtain ⟨hnx, hbad⟩ := line_ok_use hkl (unhide HT) ((unhide HNO) k hlt)
        rw [← hws] at hnx hbad
        have HNX := hide hnx
        have HBAD := hide hbad
        have HOW := hide (l5OpOf_any _ ws wr hst hsz)
        have hgw0 : ∀ q n c, (atL ls k).wv = .slice (some ⟨q, 0, none⟩) n c → n ≠ 0 → q < w1.heap.size := fun q n c e hn => by
          obtain ⟨a', c', hv', h'⟩ := (unhide HST) _ (atL_mem hkl)
          rw [e] at hv'
          simp only [Value.slice.injEq] at hv'
          obtain ⟨h1, h2, _⟩ := hv'
          rcases h' with h' | ⟨q', h3, h4, _⟩
          · omega
          · rw [h3] at h1
            simp only [Option.some.injEq, Addr.mk.injEq] at h1
            omega
        have HGW := hide hgw0
        have HSTR := hide hst
        obtain ⟨aw, cw, hv, _⟩ := hst
        rw [hv] at o0 HOW HSTR HGW
        have HWS := hide hws
        clear hws hsz hnx hbad hv HT hgw0
        go_wp2_with fail
        (with_reducible refine (unhide HOW).mono ?_)
        rintro e w2 ⟨o, ok, rfl, hcase, hb2⟩
        have HU2 := hide ((unhide HU).below hb2)
        have z2 := hb2.size
        have HB2 := hide (show Below w1.heap.size w1 w2 from hbel.trans (hb2.mono (by omega)))
        have HBW2 := hide (show Below w.heap.size w w2 from (unhide HBW).trans (hb2.mono (by omega)))
        have HSTR2 := hide ((unhide HSTR).below hb2)
        have hU2l := (unhide HU2).lt
        clear hb2 HOW HU HSTR HBW hbel o0 hUl
        rcases hcase with ⟨rfl, ho⟩ | ⟨rfl, ho⟩
        · have HO := hide ho
          obtain ⟨ao, co, rfl⟩ : ∃ a c, vo = .slice a os.length c := rowS_slice (unhide HU2).ro
          have u1 := (unhide HU2).c1
          clear ho HBAD
          go_wp2_with (at_builtin; refine wpList_append_own_at _ rfl (.tmp 46) (.tmp 48) 38 rfl w1.heap.size 70 iO _ 4 40 Tryz.underlying38 (unhide HIO) (unhide HZO).1 (unhide HZO).2.1 (unhide HZO).2.2 rfl (by decide) _ os.length (cellsL os) rfl ((unhide HU2).ro.below ((below1 _ _).alloc (by simp) _)) ⟨w2.heap.size + 1, 0, none⟩ 1 1 (cellsL [o]) rfl rfl (fun j u hj => (by simpa using new_news (w2.alloc (.cells #[.string o.s, .int .i64 o.k, .int .i64 o.l, .int .i64 o.sd] 70)) o j u hj)) (cellsL_one' _) ?b1 ?b2 ?b3 ?next)
          case b1 => unfold maxLen; omega
          case b2 => omega
          case b3 => simp; omega
          case next =>
            intro v4 w4 hown4 hgrow4 hnil4 hat4
            have hbd : Below w2.heap.size w2 ((w2.alloc (.cells #[.string o.s, .int .i64 o.k, .int .i64 o.l, .int .i64 o.sd] 70)).alloc (.cells #[.string o.s, .int .i64 o.k, .int .i64 o.l, .int .i64 o.sd] 70)) := (below1 _ _).alloc (by simp) _
            obtain ⟨kc, kf⟩ := (unhide HU2).keep hbd (Or.inr rfl) hgrow4
            have m0 := (kc 1).trans u1
            have g1 := kf 1
            have hr4 : RowO w4 w1.heap.size v4 (os ++ [o]) := by
              unfold RowO
              rw [cellsL_append, List.length_append]
              exact hown4
            obtain ⟨hun, hb4⟩ := (unhide HU2).putO hbd hgrow4 hr4 (hat4.imp id (fun e => ⟨_, e, by simp⟩))
            obtain ⟨g4, c4, rfl⟩ := owns_value hown4 (by simp [hnil4])
            have HUN := hide hun
            have HB4 := hide (show Below w1.heap.size w1 _ from (unhide HB2).trans hb4)
            clear hown4 hgrow4 hat4 hnil4 kc kf hbd hun hb4 hr4 u1
            go_wp2_with fail
            refine ⟨⟨k + 1, us, os ++ [o], _, _, by omega, by go_num, by omega, by simp; omega, hide ((unhide HNX) _ _ (Or.inr (Or.inr ⟨o, unhide HO, rfl, rfl⟩))), HUN, unhide HB4⟩, by simp [intOf]; omega⟩
        · have HNOO := hide ho
          clear ho
          by_cases huse : ∃ x, ws = [wUse, x]
          · obtain ⟨x, rfl⟩ := huse
            obtain ⟨gw, cw', hve, hgw2, hc⟩ := (unhide HSTR2).lt (by simp)
            simp only [Value.slice.injEq] at hve
            obtain ⟨rfl, _, rfl⟩ := hve
            have k0 : w2.cell? ⟨gw, 0, none⟩ = some (.string ⟨#[117, 115, 101]⟩) := hc 0 _ rfl
            have k1 : w2.cell? ⟨gw, 1, none⟩ = some (.string x) := hc 1 _ rfl
            have hgw1 : gw < w1.heap.size := (unhide HGW) gw _ _ rfl (by simp)
            have hgU : gw ≠ w1.heap.size + 1 + 1 := by omega
            have HNW := hide (show vu.ownBlock ≠ some gw from fun e => by have := ((unhide HU2).ru.lt gw e).1; omega)
            obtain ⟨au, cu, rfl⟩ := rowS_slice (unhide HU2).ru
            have u0 := (unhide HU2).c0
            have hl2 : [wUse, x].length = 2 := rfl
            rw [hl2]
            have hw0 : (w2.alloc (.cells #[.string o.s, .int .i64 o.k, .int .i64 o.l, .int .i64 o.sd] 70)).cell? ⟨w1.heap.size + 1 + 1, 0, none⟩ = some (.slice au us.length cu) := ((below1 w2 _).cell (p := ⟨w1.heap.size + 1 + 1, 0, none⟩) hU2l).trans u0
            have k6 : ∀ o', ((w2.alloc (.cells #[.string o.s, .int .i64 o.k, .int .i64 o.l, .int .i64 o.sd] 70)).alloc o').drew.cell? ⟨w1.heap.size + 1 + 1, 0, none⟩ = some (.slice au us.length cu) := fun o' => ((below1 (w2.alloc (.cells #[.string o.s, .int .i64 o.k, .int .i64 o.l, .int .i64 o.sd] 70)) o').cell (p := ⟨w1.heap.size + 1 + 1, 0, none⟩) (by simp; omega)).trans hw0
            have hS0 : (fun W : World => W.cell? ⟨gw, 1, none⟩ = some (.string x) ∧ True) (w2.alloc (.cells #[.string o.s, .int .i64 o.k, .int .i64 o.l, .int .i64 o.sd] 70)).drew := ⟨((below1 w2 _).cell (p := ⟨gw, 1, none⟩) hgw2).trans k1, trivial⟩
            have HS1 := hide (show (fun W : World => W.cell? ⟨gw, 1, none⟩ = some (.string x) ∧ True) ((w2.alloc (.cells #[.string o.s, .int .i64 o.k, .int .i64 o.l, .int .i64 o.sd] 70)).alloc (.cells #[.string x] 9)).drew from ⟨((below1 (w2.alloc (.cells #[.string o.s, .int .i64 o.k, .int .i64 o.l, .int .i64 o.sd] 70)) _).cell (p := ⟨gw, 1, none⟩) (by simp; omega)).trans (((below1 w2 _).cell (p := ⟨gw, 1, none⟩) hgw2).trans k1), trivial⟩)
            clear hc HNOO HBAD HSTR2 HGW
            go_wp2_with fail
            refine wp_region_held_drew (S := fun W : World => W.cell? ⟨gw, 1, none⟩ = some (.string x) ∧ True) (by kernel_rfl) hS0 (fun _ => ?_)
            refine wpAnyH_take (i := 0) (v := ?_) rfl (by kernel_rfl) (by kernel_rfl) (by kernel_rfl) (fun _ _ _ h => h) (Or.inl ⟨by rfl, ?_⟩) hS0 ?_
            rotate_left
            · intro W hW; obtain ⟨s1, _⟩ := hW; simp only [List.getElem_toArray, List.getElem_cons_succ, List.getElem_cons_zero]; go_simp; first | done | (with_reducible rfl)
            simp only [List.getElem_toArray, List.getElem_cons_succ, List.getElem_cons_zero]
            simp only [Act.put, List.setIfInBounds_toArray, List.set_cons_zero, List.set_cons_succ]
            refine wpAnyH_take (i := 2) (v := ?_) rfl (by kernel_rfl) (by kernel_rfl) (by kernel_rfl) (fun _ _ _ h => h) (Or.inl ⟨by rfl, ?_⟩) hS0 ?_
            rotate_left
            · intro W hW; obtain ⟨s1, _⟩ := hW; simp only [List.getElem_toArray, List.getElem_cons_succ, List.getElem_cons_zero]; go_simp; first | done | (with_reducible rfl)
            simp only [List.getElem_toArray, List.getElem_cons_succ, List.getElem_cons_zero]
            simp only [Act.put, List.setIfInBounds_toArray, List.set_cons_zero, List.set_cons_succ]
            refine wpAnyH_take (i := 3) (v := ?_) rfl (by kernel_rfl) (by kernel_rfl) (by kernel_rfl) (fun _ _ _ h => h) (Or.inl ⟨by rfl, ?_⟩) hS0 ?_
            rotate_left
            · intro W hW; obtain ⟨s1, _⟩ := hW; simp only [List.getElem_toArray, List.getElem_cons_succ, List.getElem_cons_zero]; go_simp; first | done | (with_reducible rfl)
            simp only [List.getElem_toArray, List.getElem_cons_succ, List.getElem_cons_zero]
            simp only [Act.put, List.setIfInBounds_toArray, List.set_cons_zero, List.set_cons_succ]
            refine wpAnyH_take (i := 4) (v := ?_) rfl (by kernel_rfl) (by kernel_rfl) (by kernel_rfl) (fun _ _ _ h => h) (Or.inl ⟨by rfl, ?_⟩) hS0 ?_
            rotate_left
            · intro W hW; obtain ⟨s1, _⟩ := hW; simp only [List.getElem_toArray, List.getElem_cons_succ, List.getElem_cons_zero]; go_simp; first | done | (with_reducible rfl)
            simp only [List.getElem_toArray, List.getElem_cons_succ, List.getElem_cons_zero]
            simp only [Act.put, List.setIfInBounds_toArray, List.set_cons_zero, List.set_cons_succ]
            refine wpAnyH_ready (rs := [1, 5]) (by kernel_rfl) (by simp) ?_
            refine AllReadyH.cons rfl (fun K hK => ?_) (AllReadyH.cons rfl (fun K hK => ?_) AllReadyH.nil)
            · simp only [List.getElem_toArray, List.getElem_cons_succ, List.getElem_cons_zero]
              go_simp
              refine hK.out _ _ hS0 (fun _ => ?_)
              clear hK
              refine wpAnyH_ready (rs := [5]) (by kernel_rfl) (by simp) ?_
              refine AllReadyH.cons rfl (fun K hK => ?_) AllReadyH.nil
              simp only [List.getElem_toArray, List.getElem_cons_succ, List.getElem_cons_zero]
              go_simp
              refine hK.out _ _ (unhide HS1) (fun _ => ?_)
              clear hK
              refine wpAnyH_ready (rs := [6]) (by kernel_rfl) (by simp) ?_
              refine AllReadyH.cons rfl (fun K hK => ?_) AllReadyH.nil
              refine step_append_lies _ (by rfl) (.tmp 61) (.tmp 65) 37 (by rfl) w1.heap.size 9 iS _ 1 16 Tryz.underlying37 (unhide HI) (unhide HZ).1 (unhide HZ).2.1 (unhide HZ).2.2 rfl (by decide) _ us.length (cellsS us) (by rfl) ((unhide HU2).ru.below (((below1 _ _).alloc (by simp) _).drew)) ⟨w2.heap.size + 1, 0, none⟩ 1 1 (cellsS [x]) (by rfl) rfl (fun j u hj => (by simpa using new_newsS (w2.alloc (.cells #[.string o.s, .int .i64 o.k, .int .i64 o.l, .int .i64 o.sd] 70)) x j u hj)) (cellsS_one' _) (by decide) (by unfold maxLen; omega) (by omega) (by simp; omega) _ rfl ?_
              intro g4 c4 w4 hown4 hgrow4 hat4 hlt4
              have hbd : Below w2.heap.size w2 ((w2.alloc (.cells #[.string o.s, .int .i64 o.k, .int .i64 o.l, .int .i64 o.sd] 70)).alloc (.cells #[.string x] 9)).drew := ((below1 _ _).alloc (by simp) _).drew
              obtain ⟨kc, kf⟩ := (unhide HU2).keep hbd (Or.inl rfl) hgrow4
              have m0 := (kc 0).trans u0
              have g0 := kf 0
              have m1 : w4.cell? ⟨gw, 1, none⟩ = some (.string x) := (grown_cell hgrow4 (by simp; omega) (unhide HNW) 1).trans ((hbd.cell (p := ⟨gw, 1, none⟩) hgw2).trans k1)
              obtain ⟨hun, hb4⟩ := unit_use (unhide HU2) hbd hown4 hgrow4 hat4
              have HUN := hide hun
              have HB4 := hide (show Below w1.heap.size w1 _ from (unhide HB2).trans hb4)
              clear hown4 hgrow4 hat4 hlt4 kc kf hbd hun hb4
              refine hK.out _ _ ⟨m1, trivial⟩ (fun hS4 => ?_)
              clear hK
              simp only [List.getElem_toArray, List.getElem_cons_succ, List.getElem_cons_zero]
              simp only [Act.put, List.setIfInBounds_toArray, List.set_cons_zero, List.set_cons_succ]
              refine wpAnyH_take (i := 7) (v := ?_) rfl (by kernel_rfl) (by kernel_rfl) (by kernel_rfl) (fun _ _ _ h => h) (Or.inl ⟨by rfl, ?_⟩) hS4 ?_
              rotate_left
              · intro W hW; obtain ⟨s1, _⟩ := hW; simp only [List.getElem_toArray, List.getElem_cons_succ, List.getElem_cons_zero]; go_simp; first | done | (with_reducible rfl)
              simp only [List.getElem_toArray, List.getElem_cons_succ, List.getElem_cons_zero]
              simp only [Act.put, List.setIfInBounds_toArray, List.set_cons_zero, List.set_cons_succ]
              refine wpAnyH_ready (rs := [8]) (by kernel_rfl) (by simp) ?_
              refine AllReadyH.cons rfl (fun K hK => ?_) AllReadyH.nil
              simp only [List.getElem_toArray, List.getElem_cons_succ, List.getElem_cons_zero]
              go_simp
              refine hK.out _ _ ⟨by rw [World.cell?_setCell_other _ _ _ _ (by simp [hgU])]; exact m1, trivial⟩ (fun hS5 => ?_)
              clear hK
              refine wpAnyH_done (by kernel_rfl) ?_ _
              clear hS4 hS5
              go_wp2_with fail
              refine ⟨⟨k + 1, us ++ [x], os, _, _, by omega, by go_num, by simp; omega, by omega, hide ((unhide HNX) _ _ (Or.inr (Or.inl ⟨x, rfl, rfl, rfl⟩))), HUN, unhide HB4⟩, by simp [intOf]; omega⟩
            · simp only [List.getElem_toArray, List.getElem_cons_succ, List.getElem_cons_zero]
              go_simp
              refine hK.out _ _ (unhide HS1) (fun _ => ?_)
              clear hK
              refine wpAnyH_ready (rs := [1]) (by kernel_rfl) (by simp) ?_
              refine AllReadyH.cons rfl (fun K hK => ?_) AllReadyH.nil
              simp only [List.getElem_toArray, List.getElem_cons_succ, List.getElem_cons_zero]
              go_simp
              refine hK.out _ _ (unhide HS1) (fun _ => ?_)
              clear hK
              refine wpAnyH_ready (rs := [6]) (by kernel_rfl) (by simp) ?_
              refine AllReadyH.cons rfl (fun K hK => ?_) AllReadyH.nil
              refine step_append_lies _ (by rfl) (.tmp 61) (.tmp 65) 37 (by rfl) w1.heap.size 9 iS _ 1 16 Tryz.underlying37 (unhide HI) (unhide HZ).1 (unhide HZ).2.1 (unhide HZ).2.2 rfl (by decide) _ us.length (cellsS us) (by rfl) ((unhide HU2).ru.below (((below1 _ _).alloc (by simp) _).drew)) ⟨w2.heap.size + 1, 0, none⟩ 1 1 (cellsS [x]) (by rfl) rfl (fun j u hj => (by simpa using new_newsS (w2.alloc (.cells #[.string o.s, .int .i64 o.k, .int .i64 o.l, .int .i64 o.sd] 70)) x j u hj)) (cellsS_one' _) (by decide) (by unfold maxLen; omega) (by omega) (by simp; omega) _ rfl ?_
              intro g4 c4 w4 hown4 hgrow4 hat4 hlt4
              have hbd : Below w2.heap.size w2 ((w2.alloc (.cells #[.string o.s, .int .i64 o.k, .int .i64 o.l, .int .i64 o.sd] 70)).alloc (.cells #[.string x] 9)).drew := ((below1 _ _).alloc (by simp) _).drew
              obtain ⟨kc, kf⟩ := (unhide HU2).keep hbd (Or.inl rfl) hgrow4
              have m0 := (kc 0).trans u0
              have g0 := kf 0
              have m1 : w4.cell? ⟨gw, 1, none⟩ = some (.string x) := (grown_cell hgrow4 (by simp; omega) (unhide HNW) 1).trans ((hbd.cell (p := ⟨gw, 1, none⟩) hgw2).trans k1)
              obtain ⟨hun, hb4⟩ := unit_use (unhide HU2) hbd hown4 hgrow4 hat4
              have HUN := hide hun
              have HB4 := hide (show Below w1.heap.size w1 _ from (unhide HB2).trans hb4)
              clear hown4 hgrow4 hat4 hlt4 kc kf hbd hun hb4
              refine hK.out _ _ ⟨m1, trivial⟩ (fun hS4 => ?_)
              clear hK
              simp only [List.getElem_toArray, List.getElem_cons_succ, List.getElem_cons_zero]
              simp only [Act.put, List.setIfInBounds_toArray, List.set_cons_zero, List.set_cons_succ]
              refine wpAnyH_take (i := 7) (v := ?_) rfl (by kernel_rfl) (by kernel_rfl) (by kernel_rfl) (fun _ _ _ h => h) (Or.inl ⟨by rfl, ?_⟩) hS4 ?_
              rotate_left
              · intro W hW; obtain ⟨s1, _⟩ := hW; simp only [List.getElem_toArray, List.getElem_cons_succ, List.getElem_cons_zero]; go_simp; first | done | (with_reducible rfl)
              simp only [List.getElem_toArray, List.getElem_cons_succ, List.getElem_cons_zero]
              simp only [Act.put, List.setIfInBounds_toArray, List.set_cons_zero, List.set_cons_succ]
              refine wpAnyH_ready (rs := [8]) (by kernel_rfl) (by simp) ?_
              refine AllReadyH.cons rfl (fun K hK => ?_) AllReadyH.nil
              simp only [List.getElem_toArray, List.getElem_cons_succ, List.getElem_cons_zero]
              go_simp
              refine hK.out _ _ ⟨by rw [World.cell?_setCell_other _ _ _ _ (by simp [hgU])]; exact m1, trivial⟩ (fun hS5 => ?_)
              clear hK
              refine wpAnyH_done (by kernel_rfl) ?_ _
              clear hS4 hS5
              go_wp2_with fail
              refine ⟨⟨k + 1, us ++ [x], os, _, _, by omega, by go_num, by simp; omega, by omega, hide ((unhide HNX) _ _ (Or.inr (Or.inl ⟨x, rfl, rfl, rfl⟩))), HUN, unhide HB4⟩, by simp [intOf]; omega⟩
          · have hnot : ws.length ≠ 0 → ∀ us' os', ¬ LineIs ws us os us' os' := fun h0 us' os' hl => by
              rcases hl with ⟨e, _⟩ | ⟨x, e, _⟩ | ⟨o', e, _⟩
              · exact h0 (by rw [e]; rfl)
              · exact huse ⟨x, e⟩
              · exact (unhide HNOO) o' e
            by_cases h0 : ws.length = 0
            · have e0 : ws = [] := List.length_eq_zero_iff.1 h0
              have HT2 := hide ((unhide HNX) us os (Or.inl ⟨e0, rfl, rfl⟩))
              rw [h0]
              clear hnot e0 h0 huse HNX HBAD HNOO HSTR2 HGW
              go_wp2_with fail
              exact ⟨⟨k + 1, us, os, vu, vo, by omega, by go_num, by omega, by omega, HT2, hide ((unhide HU2).below (below1 _ _)), (unhide HB2).alloc (by omega) _⟩, by simp [intOf]; omega⟩
            · have HIS := hide ((unhide HBAD) (hnot h0))
              obtain ⟨gw, cw', hve, hgw2, hc⟩ := (unhide HSTR2).lt (by omega)
              simp only [Value.slice.injEq] at hve
              obtain ⟨rfl, _, rfl⟩ := hve
              obtain ⟨q, hq⟩ : ∃ q, ws[0]? = some q := ⟨_, List.getElem?_eq_getElem (by omega)⟩
              have k0 := hc 0 q hq
              have hcond : ((ws.length : Int) == 2) = false ∨ (((ws.length : Int) == 2) = true ∧ (q.toList == [117, 115, 101]) = false) := by
                by_cases e : ws.length = 2
                · right
                  refine ⟨by simp; omega, lit_no (fun ek => ?_)⟩
                  match ws, e, hq with
                  | [p1, p2], _, hq =>
                    simp at hq
                    exact huse ⟨p2, by rw [hq, ek]; rfl⟩
                · left; simp; omega
              have hn00 : (0 : Int) < (ws.length : Int) := by omega
              have HP := hide (fun w' => unitAns_none (w := w) (w' := w') (unhide HIS))
              obtain ⟨x0, x1, x2, x3⟩ : ZeroU (w2.alloc (.cells #[.string o.s, .int .i64 o.k, .int .i64 o.l, .int .i64 o.sd] 70)) w.heap.size := ((unhide HZ1).below (unhide HB2) (by omega)).below (below1 w2 _) (by omega)
              have x30 := x3 0
              have x31 := x3 1
              have x32 := x3 2
              clear hnot h0 huse HNX HBAD HNOO HSTR2 HGW hc hq x3
              rcases hcond with hc1 | ⟨hc1, hc2⟩
              all_goals
                go_wp2_with fail
                refine bodyPost_ret (v := .tuple #[.agg #[.slice none 0 0, .slice none 0 0, .string ⟨#[]⟩], .int .i64 2, .int .i64 ((k + 1 : Nat) : Int)]) ?res rfl ((unhide HP) _ ?_)
                case res => simp [results, Tryz.results14, go_sem, x0, x1, x2]
                first
                  | exact (unhide HBW2).alloc (by omega) _
                  | exact below_setCells (Nat.le_refl _) [.slice none 0 0, .slice none 0 0, .string ⟨#[]⟩] 0 _ ((unhide HBW2).alloc (by omega) _)
      · have hkE : k = ls.length := by omega
        obtain ⟨x0, x1, x2, x3⟩ : ZeroU wr w.heap.size := (unhide HZ1).below hbel (by omega)
        have x30 := x3 0
        have x31 := x3 1
        have x32 := x3 2
        have HIS := hide (show UnitIs s [] [] ByteArray.empty 3 0 by
          have h := unhide HT
          rw [hkE, List.drop_eq_nil_of_le (by simp [plc])] at h
          exact h.fin)
        have HP := hide (fun w' => unitAns_none (w := w) (w' := w') (unhide HIS))
        clear x3 hkE
        go_wp2_with fail
        refine bodyPost_ret (v := .tuple #[.agg #[.slice none 0 0, .slice none 0 0, .string ⟨#[]⟩], .int .i64 3, .int .i64 0]) ?res rfl ((unhide HP) _ ?_)
        case res => simp [results, Tryz.results14, go_sem, x0, x1, x2]
        first
          | exact unhide HBW
          | exact below_setCells (Nat.le_refl _) [.slice none 0 0, .slice none 0 0, .string ⟨#[]⟩] 0 _ (unhide HBW)
  · subst hr1
    have hEn : ¬ (E : Int) < 0 := by omega
    have hEI : (E : Int) < (ls.length : Int) := by omega
    have HE3 := hide hE3
    clear hE3
    go_wp2_with fail
    go_loopw [9] (fun i wr => ∃ (k : Nat) (us : List ByteArray) (os : List OpR) (vu vo : Value), k ≤ E ∧ i = .int .i64 (k : Int) ∧ us.length ≤ k ∧ os.length ≤ k ∧ Hid (Then s ((plc ls).drop k) (k + 1) us os) ∧ Hid (UnM wr w1.heap.size (w1.heap.size + 1 + 1) vu vo us os ⟨#[]⟩) ∧ Below w1.heap.size w1 wr) (fun i _ => E - (intOf i).toNat)
    case atStart => exact ⟨0, [], [], _, _, Nat.zero_le _, rfl, Nat.le_refl _, Nat.le_refl _, HT0, HU8, unhide HW8⟩
    case round =>
      clear HU8 HW8 HT0
      obtain ⟨k, us, os, vu, vo, hk, rfl, hus, hos, HT, HU, hbel⟩ := hrel
      have hzr := hbel.size
      have HBW := hide (show Below w.heap.size w wr from (unhide HBW1).trans (hbel.mono (by omega)))
      have hUl := (unhide HU).lt
      by_cases hlt : k < E
      · have hltI : (k : Int) < (E : Int) := by omega
        have hkl : k < ls.length := by omega
        have hklI : (k : Int) < (ls.length : Int) := by omega
        obtain ⟨o0, _, _⟩ := ((unhide HOP).below hbel hgl) k hkl
        obtain ⟨ws, hws⟩ : ∃ ws, ws = wsL s ls k := ⟨_, rfl⟩
        have hst : StrsAt wr (atL ls k).wv ws := by rw [hws]; exact ((unhide HST) _ (atL_mem hkl)).below hbel
        have hsz : ∀ x ∈ ws, x.size ≤ maxLen := fun x hx => by
          rw [hws] at hx
          have h1 := wds_size hx
          rw [size_ext] at h1
          unfold maxLen
          omega
        obtain ⟨hnx, hbad⟩ := line_ok_use hkl (unhide HT) ((unhide HNO) k hlt)
        rw [← hws] at hnx hbad
        have HNX := hide hnx
        have HBAD := hide hbad
        have HOW := hide (l5OpOf_any _ ws wr hst hsz)
        have hgw0 : ∀ q n c, (atL ls k).wv = .slice (some ⟨q, 0, none⟩) n c → n ≠ 0 → q < w1.heap.size := fun q n c e hn => by
          obtain ⟨a', c', hv', h'⟩ := (unhide HST) _ (atL_mem hkl)
          rw [e] at hv'
          simp only [Value.slice.injEq] at hv'
          obtain ⟨h1, h2, _⟩ := hv'
          rcases h' with h' | ⟨q', h3, h4, _⟩
          · omega
          · rw [h3] at h1
            simp only [Option.some.injEq, Addr.mk.injEq] at h1
            omega
        have HGW := hide hgw0
        have HSTR := hide hst
        obtain ⟨aw, cw, hv, _⟩ := hst
        rw [hv] at o0 HOW HSTR HGW
        have HWS := hide hws
        clear hws hsz hnx hbad hv HT hgw0
        go_wp2_with fail
        (with_reducible refine (unhide HOW).mono ?_)
        rintro e w2 ⟨o, ok, rfl, hcase, hb2⟩
        have HU2 := hide ((unhide HU).below hb2)
        have z2 := hb2.size
        have HB2 := hide (show Below w1.heap.size w1 w2 from hbel.trans (hb2.mono (by omega)))
        have HBW2 := hide (show Below w.heap.size w w2 from (unhide HBW).trans (hb2.mono (by omega)))
        have HSTR2 := hide ((unhide HSTR).below hb2)
        have hU2l := (unhide HU2).lt
        clear hb2 HOW HU HSTR HBW hbel o0 hUl
        rcases hcase with ⟨rfl, ho⟩ | ⟨rfl, ho⟩
        · have HO := hide ho
          obtain ⟨ao, co, rfl⟩ : ∃ a c, vo = .slice a os.length c := rowS_slice (unhide HU2).ro
          have u1 := (unhide HU2).c1
          clear ho HBAD
          go_wp2_with (at_builtin; refine wpList_append_own_at _ rfl (.tmp 46) (.tmp 48) 38 rfl w1.heap.size 70 iO _ 4 40 Tryz.underlying38 (unhide HIO) (unhide HZO).1 (unhide HZO).2.1 (unhide HZO).2.2 rfl (by decide) _ os.length (cellsL os) rfl ((unhide HU2).ro.below ((below1 _ _).alloc (by simp) _)) ⟨w2.heap.size + 1, 0, none⟩ 1 1 (cellsL [o]) rfl rfl (fun j u hj => (by simpa using new_news (w2.alloc (.cells #[.string o.s, .int .i64 o.k, .int .i64 o.l, .int .i64 o.sd] 70)) o j u hj)) (cellsL_one' _) ?b1 ?b2 ?b3 ?next)
          case b1 => unfold maxLen; omega
          case b2 => omega
          case b3 => simp; omega
          case next =>
            intro v4 w4 hown4 hgrow4 hnil4 hat4
            have hbd : Below w2.heap.size w2 ((w2.alloc (.cells #[.string o.s, .int .i64 o.k, .int .i64 o.l, .int .i64 o.sd] 70)).alloc (.cells #[.string o.s, .int .i64 o.k, .int .i64 o.l, .int .i64 o.sd] 70)) := (below1 _ _).alloc (by simp) _
            obtain ⟨kc, kf⟩ := (unhide HU2).keep hbd (Or.inr rfl) hgrow4
            have m0 := (kc 1).trans u1
            have g1 := kf 1
            have hr4 : RowO w4 w1.heap.size v4 (os ++ [o]) := by
              unfold RowO
              rw [cellsL_append, List.length_append]
              exact hown4
            obtain ⟨hun, hb4⟩ := (unhide HU2).putO hbd hgrow4 hr4 (hat4.imp id (fun e => ⟨_, e, by simp⟩))
            obtain ⟨g4, c4, rfl⟩ := owns_value hown4 (by simp [hnil4])
            have HUN := hide hun
            have HB4 := hide (show Below w1.heap.size w1 _ from (unhide HB2).trans hb4)
            clear hown4 hgrow4 hat4 hnil4 kc kf hbd hun hb4 hr4 u1
            go_wp2_with fail
            refine ⟨⟨k + 1, us, os ++ [o], _, _, by omega, by go_num, by omega, by simp; omega, hide ((unhide HNX) _ _ (Or.inr (Or.inr ⟨o, unhide HO, rfl, rfl⟩))), HUN, unhide HB4⟩, by simp [intOf]; omega⟩
        · have HNOO := hide ho
          clear ho
          by_cases huse : ∃ x, ws = [wUse, x]
          · obtain ⟨x, rfl⟩ := huse
            obtain ⟨gw, cw', hve, hgw2, hc⟩ := (unhide HSTR2).lt (by simp)
            simp only [Value.slice.injEq] at hve
            obtain ⟨rfl, _, rfl⟩ := hve
            have k0 : w2.cell? ⟨gw, 0, none⟩ = some (.string ⟨#[117, 115, 101]⟩) := hc 0 _ rfl
            have k1 : w2.cell? ⟨gw, 1, none⟩ = some (.string x) := hc 1 _ rfl
            have hgw1 : gw < w1.heap.size := (unhide HGW) gw _ _ rfl (by simp)
            have hgU : gw ≠ w1.heap.size + 1 + 1 := by omega
            have HNW := hide (show vu.ownBlock ≠ some gw from fun e => by have := ((unhide HU2).ru.lt gw e).1; omega)
            obtain ⟨au, cu, rfl⟩ := rowS_slice (unhide HU2).ru
            have u0 := (unhide HU2).c0
            have hl2 : [wUse, x].length = 2 := rfl
            rw [hl2]
            have hw0 : (w2.alloc (.cells #[.string o.s, .int .i64 o.k, .int .i64 o.l, .int .i64 o.sd] 70)).cell? ⟨w1.heap.size + 1 + 1, 0, none⟩ = some (.slice au us.length cu) := ((below1 w2 _).cell (p := ⟨w1.heap.size + 1 + 1, 0, none⟩) hU2l).trans u0
            have k6 : ∀ o', ((w2.alloc (.cells #[.string o.s, .int .i64 o.k, .int .i64 o.l, .int .i64 o.sd] 70)).alloc o').drew.cell? ⟨w1.heap.size + 1 + 1, 0, none⟩ = some (.slice au us.length cu) := fun o' => ((below1 (w2.alloc (.cells #[.string o.s, .int .i64 o.k, .int .i64 o.l, .int .i64 o.sd] 70)) o').cell (p := ⟨w1.heap.size + 1 + 1, 0, none⟩) (by simp; omega)).trans hw0
            have hS0 : (fun W : World => W.cell? ⟨gw, 1, none⟩ = some (.string x) ∧ True) (w2.alloc (.cells #[.string o.s, .int .i64 o.k, .int .i64 o.l, .int .i64 o.sd] 70)).drew := ⟨((below1 w2 _).cell (p := ⟨gw, 1, none⟩) hgw2).trans k1, trivial⟩
            have HS1 := hide (show (fun W : World => W.cell? ⟨gw, 1, none⟩ = some (.string x) ∧ True) ((w2.alloc (.cells #[.string o.s, .int .i64 o.k, .int .i64 o.l, .int .i64 o.sd] 70)).alloc (.cells #[.string x] 9)).drew from ⟨((below1 (w2.alloc (.cells #[.string o.s, .int .i64 o.k, .int .i64 o.l, .int .i64 o.sd] 70)) _).cell (p := ⟨gw, 1, none⟩) (by simp; omega)).trans (((below1 w2 _).cell (p := ⟨gw, 1, none⟩) hgw2).trans k1), trivial⟩)
            clear hc HNOO HBAD HSTR2 HGW
            go_wp2_with fail
            refine wp_region_held_drew (S := fun W : World => W.cell? ⟨gw, 1, none⟩ = some (.string x) ∧ True) (by kernel_rfl) hS0 (fun _ => ?_)
            refine wpAnyH_take (i := 0) (v := ?_) rfl (by kernel_rfl) (by kernel_rfl) (by kernel_rfl) (fun _ _ _ h => h) (Or.inl ⟨by rfl, ?_⟩) hS0 ?_
            rotate_left
            · intro W hW; obtain ⟨s1, _⟩ := hW; simp only [List.getElem_toArray, List.getElem_cons_succ, List.getElem_cons_zero]; go_simp; first | done | (with_reducible rfl)
            simp only [List.getElem_toArray, List.getElem_cons_succ, List.getElem_cons_zero]
            simp only [Act.put, List.setIfInBounds_toArray, List.set_cons_zero, List.set_cons_succ]
            refine wpAnyH_take (i := 2) (v := ?_) rfl (by kernel_rfl) (by kernel_rfl) (by kernel_rfl) (fun _ _ _ h => h) (Or.inl ⟨by rfl, ?_⟩) hS0 ?_
            rotate_left
            · intro W hW; obtain ⟨s1, _⟩ := hW; simp only [List.getElem_toArray, List.getElem_cons_succ, List.getElem_cons_zero]; go_simp; first | done | (with_reducible rfl)
            simp only [List.getElem_toArray, List.getElem_cons_succ, List.getElem_cons_zero]
            simp only [Act.put, List.setIfInBounds_toArray, List.set_cons_zero, List.set_cons_succ]
            refine wpAnyH_take (i := 3) (v := ?_) rfl (by kernel_rfl) (by kernel_rfl) (by kernel_rfl) (fun _ _ _ h => h) (Or.inl ⟨by rfl, ?_⟩) hS0 ?_
            rotate_left
            · intro W hW; obtain ⟨s1, _⟩ := hW; simp only [List.getElem_toArray, List.getElem_cons_succ, List.getElem_cons_zero]; go_simp; first | done | (with_reducible rfl)
            simp only [List.getElem_toArray, List.getElem_cons_succ, List.getElem_cons_zero]
            simp only [Act.put, List.setIfInBounds_toArray, List.set_cons_zero, List.set_cons_succ]
            refine wpAnyH_take (i := 4) (v := ?_) rfl (by kernel_rfl) (by kernel_rfl) (by kernel_rfl) (fun _ _ _ h => h) (Or.inl ⟨by rfl, ?_⟩) hS0 ?_
            rotate_left
            · intro W hW; obtain ⟨s1, _⟩ := hW; simp only [List.getElem_toArray, List.getElem_cons_succ, List.getElem_cons_zero]; go_simp; first | done | (with_reducible rfl)
            simp only [List.getElem_toArray, List.getElem_cons_succ, List.getElem_cons_zero]
            simp only [Act.put, List.setIfInBounds_toArray, List.set_cons_zero, List.set_cons_succ]
            refine wpAnyH_ready (rs := [1, 5]) (by kernel_rfl) (by simp) ?_
            refine AllReadyH.cons rfl (fun K hK => ?_) (AllReadyH.cons rfl (fun K hK => ?_) AllReadyH.nil)
            · simp only [List.getElem_toArray, List.getElem_cons_succ, List.getElem_cons_zero]
              go_simp
              refine hK.out _ _ hS0 (fun _ => ?_)
              clear hK
              refine wpAnyH_ready (rs := [5]) (by kernel_rfl) (by simp) ?_
              refine AllReadyH.cons rfl (fun K hK => ?_) AllReadyH.nil
              simp only [List.getElem_toArray, List.getElem_cons_succ, List.getElem_cons_zero]
              go_simp
              refine hK.out _ _ (unhide HS1) (fun _ => ?_)
              clear hK
              refine wpAnyH_ready (rs := [6]) (by kernel_rfl) (by simp) ?_
              refine AllReadyH.cons rfl (fun K hK => ?_) AllReadyH.nil
              refine step_append_lies _ (by rfl) (.tmp 61) (.tmp 65) 37 (by rfl) w1.heap.size 9 iS _ 1 16 Tryz.underlying37 (unhide HI) (unhide HZ).1 (unhide HZ).2.1 (unhide HZ).2.2 rfl (by decide) _ us.length (cellsS us) (by rfl) ((unhide HU2).ru.below (((below1 _ _).alloc (by simp) _).drew)) ⟨w2.heap.size + 1, 0, none⟩ 1 1 (cellsS [x]) (by rfl) rfl (fun j u hj => (by simpa using new_newsS (w2.alloc (.cells #[.string o.s, .int .i64 o.k, .int .i64 o.l, .int .i64 o.sd] 70)) x j u hj)) (cellsS_one' _) (by decide) (by unfold maxLen; omega) (by omega) (by simp; omega) _ rfl ?_
              intro g4 c4 w4 hown4 hgrow4 hat4 hlt4
              have hbd : Below w2.heap.size w2 ((w2.alloc (.cells #[.string o.s, .int .i64 o.k, .int .i64 o.l, .int .i64 o.sd] 70)).alloc (.cells #[.string x] 9)).drew := ((below1 _ _).alloc (by simp) _).drew
              obtain ⟨kc, kf⟩ := (unhide HU2).keep hbd (Or.inl rfl) hgrow4
              have m0 := (kc 0).trans u0
              have g0 := kf 0
              have m1 : w4.cell? ⟨gw, 1, none⟩ = some (.string x) := (grown_cell hgrow4 (by simp; omega) (unhide HNW) 1).trans ((hbd.cell (p := ⟨gw, 1, none⟩) hgw2).trans k1)
              obtain ⟨hun, hb4⟩ := unit_use (unhide HU2) hbd hown4 hgrow4 hat4
              have HUN := hide hun
              have HB4 := hide (show Below w1.heap.size w1 _ from (unhide HB2).trans hb4)
              clear hown4 hgrow4 hat4 hlt4 kc kf hbd hun hb4
              refine hK.out _ _ ⟨m1, trivial⟩ (fun hS4 => ?_)
              clear hK
              simp only [List.getElem_toArray, List.getElem_cons_succ, List.getElem_cons_zero]
              simp only [Act.put, List.setIfInBounds_toArray, List.set_cons_zero, List.set_cons_succ]
              refine wpAnyH_take (i := 7) (v := ?_) rfl (by kernel_rfl) (by kernel_rfl) (by kernel_rfl) (fun _ _ _ h => h) (Or.inl ⟨by rfl, ?_⟩) hS4 ?_
              rotate_left
              · intro W hW; obtain ⟨s1, _⟩ := hW; simp only [List.getElem_toArray, List.getElem_cons_succ, List.getElem_cons_zero]; go_simp; first | done | (with_reducible rfl)
              simp only [List.getElem_toArray, List.getElem_cons_succ, List.getElem_cons_zero]
              simp only [Act.put, List.setIfInBounds_toArray, List.set_cons_zero, List.set_cons_succ]
              refine wpAnyH_ready (rs := [8]) (by kernel_rfl) (by simp) ?_
              refine AllReadyH.cons rfl (fun K hK => ?_) AllReadyH.nil
              simp only [List.getElem_toArray, List.getElem_cons_succ, List.getElem_cons_zero]
              go_simp
              refine hK.out _ _ ⟨by rw [World.cell?_setCell_other _ _ _ _ (by simp [hgU])]; exact m1, trivial⟩ (fun hS5 => ?_)
              clear hK
              refine wpAnyH_done (by kernel_rfl) ?_ _
              clear hS4 hS5
              go_wp2_with fail
              refine ⟨⟨k + 1, us ++ [x], os, _, _, by omega, by go_num, by simp; omega, by omega, hide ((unhide HNX) _ _ (Or.inr (Or.inl ⟨x, rfl, rfl, rfl⟩))), HUN, unhide HB4⟩, by simp [intOf]; omega⟩
            · simp only [List.getElem_toArray, List.getElem_cons_succ, List.getElem_cons_zero]
              go_simp
              refine hK.out _ _ (unhide HS1) (fun _ => ?_)
              clear hK
              refine wpAnyH_ready (rs := [1]) (by kernel_rfl) (by simp) ?_
              refine AllReadyH.cons rfl (fun K hK => ?_) AllReadyH.nil
              simp only [List.getElem_toArray, List.getElem_cons_succ, List.getElem_cons_zero]
              go_simp
              refine hK.out _ _ (unhide HS1) (fun _ => ?_)
              clear hK
              refine wpAnyH_ready (rs := [6]) (by kernel_rfl) (by simp) ?_
              refine AllReadyH.cons rfl (fun K hK => ?_) AllReadyH.nil
              refine step_append_lies _ (by rfl) (.tmp 61) (.tmp 65) 37 (by rfl) w1.heap.size 9 iS _ 1 16 Tryz.underlying37 (unhide HI) (unhide HZ).1 (unhide HZ).2.1 (unhide HZ).2.2 rfl (by decide) _ us.length (cellsS us) (by rfl) ((unhide HU2).ru.below (((below1 _ _).alloc (by simp) _).drew)) ⟨w2.heap.size + 1, 0, none⟩ 1 1 (cellsS [x]) (by rfl) rfl (fun j u hj => (by simpa using new_newsS (w2.alloc (.cells #[.string o.s, .int .i64 o.k, .int .i64 o.l, .int .i64 o.sd] 70)) x j u hj)) (cellsS_one' _) (by decide) (by unfold maxLen; omega) (by omega) (by simp; omega) _ rfl ?_
              intro g4 c4 w4 hown4 hgrow4 hat4 hlt4
              have hbd : Below w2.heap.size w2 ((w2.alloc (.cells #[.string o.s, .int .i64 o.k, .int .i64 o.l, .int .i64 o.sd] 70)).alloc (.cells #[.string x] 9)).drew := ((below1 _ _).alloc (by simp) _).drew
              obtain ⟨kc, kf⟩ := (unhide HU2).keep hbd (Or.inl rfl) hgrow4
              have m0 := (kc 0).trans u0
              have g0 := kf 0
              have m1 : w4.cell? ⟨gw, 1, none⟩ = some (.string x) := (grown_cell hgrow4 (by simp; omega) (unhide HNW) 1).trans ((hbd.cell (p := ⟨gw, 1, none⟩) hgw2).trans k1)
              obtain ⟨hun, hb4⟩ := unit_use (unhide HU2) hbd hown4 hgrow4 hat4
              have HUN := hide hun
              have HB4 := hide (show Below w1.heap.size w1 _ from (unhide HB2).trans hb4)
              clear hown4 hgrow4 hat4 hlt4 kc kf hbd hun hb4
              refine hK.out _ _ ⟨m1, trivial⟩ (fun hS4 => ?_)
              clear hK
              simp only [List.getElem_toArray, List.getElem_cons_succ, List.getElem_cons_zero]
              simp only [Act.put, List.setIfInBounds_toArray, List.set_cons_zero, List.set_cons_succ]
              refine wpAnyH_take (i := 7) (v := ?_) rfl (by kernel_rfl) (by kernel_rfl) (by kernel_rfl) (fun _ _ _ h => h) (Or.inl ⟨by rfl, ?_⟩) hS4 ?_
              rotate_left
              · intro W hW; obtain ⟨s1, _⟩ := hW; simp only [List.getElem_toArray, List.getElem_cons_succ, List.getElem_cons_zero]; go_simp; first | done | (with_reducible rfl)
              simp only [List.getElem_toArray, List.getElem_cons_succ, List.getElem_cons_zero]
              simp only [Act.put, List.setIfInBounds_toArray, List.set_cons_zero, List.set_cons_succ]
              refine wpAnyH_ready (rs := [8]) (by kernel_rfl) (by simp) ?_
              refine AllReadyH.cons rfl (fun K hK => ?_) AllReadyH.nil
              simp only [List.getElem_toArray, List.getElem_cons_succ, List.getElem_cons_zero]
              go_simp
              refine hK.out _ _ ⟨by rw [World.cell?_setCell_other _ _ _ _ (by simp [hgU])]; exact m1, trivial⟩ (fun hS5 => ?_)
              clear hK
              refine wpAnyH_done (by kernel_rfl) ?_ _
              clear hS4 hS5
              go_wp2_with fail
              refine ⟨⟨k + 1, us ++ [x], os, _, _, by omega, by go_num, by simp; omega, by omega, hide ((unhide HNX) _ _ (Or.inr (Or.inl ⟨x, rfl, rfl, rfl⟩))), HUN, unhide HB4⟩, by simp [intOf]; omega⟩
          · have hnot : ws.length ≠ 0 → ∀ us' os', ¬ LineIs ws us os us' os' := fun h0 us' os' hl => by
              rcases hl with ⟨e, _⟩ | ⟨x, e, _⟩ | ⟨o', e, _⟩
              · exact h0 (by rw [e]; rfl)
              · exact huse ⟨x, e⟩
              · exact (unhide HNOO) o' e
            by_cases h0 : ws.length = 0
            · have e0 : ws = [] := List.length_eq_zero_iff.1 h0
              have HT2 := hide ((unhide HNX) us os (Or.inl ⟨e0, rfl, rfl⟩))
              rw [h0]
              clear hnot e0 h0 huse HNX HBAD HNOO HSTR2 HGW
              go_wp2_with fail
              exact ⟨⟨k + 1, us, os, vu, vo, by omega, by go_num, by omega, by omega, HT2, hide ((unhide HU2).below (below1 _ _)), (unhide HB2).alloc (by omega) _⟩, by simp [intOf]; omega⟩
            · have HIS := hide ((unhide HBAD) (hnot h0))
              obtain ⟨gw, cw', hve, hgw2, hc⟩ := (unhide HSTR2).lt (by omega)
              simp only [Value.slice.injEq] at hve
              obtain ⟨rfl, _, rfl⟩ := hve
              obtain ⟨q, hq⟩ : ∃ q, ws[0]? = some q := ⟨_, List.getElem?_eq_getElem (by omega)⟩
              have k0 := hc 0 q hq
              have hcond : ((ws.length : Int) == 2) = false ∨ (((ws.length : Int) == 2) = true ∧ (q.toList == [117, 115, 101]) = false) := by
                by_cases e : ws.length = 2
                · right
                  refine ⟨by simp; omega, lit_no (fun ek => ?_)⟩
                  match ws, e, hq with
                  | [p1, p2], _, hq =>
                    simp at hq
                    exact huse ⟨p2, by rw [hq, ek]; rfl⟩
                · left; simp; omega
              have hn00 : (0 : Int) < (ws.length : Int) := by omega
              have HP := hide (fun w' => unitAns_none (w := w) (w' := w') (unhide HIS))
              obtain ⟨x0, x1, x2, x3⟩ : ZeroU (w2.alloc (.cells #[.string o.s, .int .i64 o.k, .int .i64 o.l, .int .i64 o.sd] 70)) w.heap.size := ((unhide HZ1).below (unhide HB2) (by omega)).below (below1 w2 _) (by omega)
              have x30 := x3 0
              have x31 := x3 1
              have x32 := x3 2
              clear hnot h0 huse HNX HBAD HNOO HSTR2 HGW hc hq x3
              rcases hcond with hc1 | ⟨hc1, hc2⟩
              all_goals
                go_wp2_with fail
                refine bodyPost_ret (v := .tuple #[.agg #[.slice none 0 0, .slice none 0 0, .string ⟨#[]⟩], .int .i64 2, .int .i64 ((k + 1 : Nat) : Int)]) ?res rfl ((unhide HP) _ ?_)
                case res => simp [results, Tryz.results14, go_sem, x0, x1, x2]
                first
                  | exact (unhide HBW2).alloc (by omega) _
                  | exact below_setCells (Nat.le_refl _) [.slice none 0 0, .slice none 0 0, .string ⟨#[]⟩] 0 _ ((unhide HBW2).alloc (by omega) _)
      · have hkE : k = E := by omega
        obtain ⟨x0, x1, x2, x3⟩ : ZeroU wr w.heap.size := (unhide HZ1).below hbel (by omega)
        have x30 := x3 0
        have x31 := x3 1
        have x32 := x3 2
        obtain ⟨T, hT⟩ : ∃ T, T = (atL ls E).t := ⟨_, rfl⟩
        have hTs : T ≤ s.size := by rw [hT]; exact (unhide HTL) E hE2
        have HIS := hide (show UnitIs s us os (bodyB s T) 0 0 by
          have h := unhide HT
          rw [hkE, plc_at hE2] at h
          have h2 := h.begin (unhide HE3)
          rw [hT]
          exact h2)
        obtain ⟨_, _, o2⟩ := ((unhide HOP).below hbel hgl) E hE2
        rw [← hT] at o2
        obtain ⟨au, cu, rfl⟩ := rowS_slice (unhide HU).ru
        obtain ⟨ao, co, rfl⟩ : ∃ a c, vo = .slice a os.length c := rowS_slice (unhide HU).ro
        have u0 := (unhide HU).c0
        have u1 := (unhide HU).c1
        have u2 := (unhide HU).c2
        have f2 := (unhide HU).fz 2
        obtain ⟨ans1, ans2⟩ := unitAns_some (b' := bodyB s T) (by omega) (unhide HU) (unhide HBW) (unhide HIS) (by omega) (by omega)
        have e1 : w1.heap.size + 1 + 1 ≠ w.heap.size := by omega
        have e2 : w.heap.size ≠ w1.heap.size + 1 + 1 := by omega
        by_cases hTl : T < s.size
        · have hTI : (T : Int) < (s.size : Int) := by omega
          have hTJ : (T : Int) + 1 ≤ (s.size : Int) := by omega
          have hbb : bodyB s T = s.extract (T + 1) s.size := by unfold bodyB; rw [if_pos hTl]
          rw [hbb] at ans1
          have HANS := hide ans1
          clear ans1 ans2 hbb x3 hkE HIS hT hTl
          go_wp2_with fail
          refine bodyPost_ret (v := .tuple #[.agg #[.slice au us.length cu, .slice ao os.length co, .string (s.extract (T + 1) s.size)], .int .i64 0, .int .i64 0]) ?res rfl (unhide HANS)
          case res => simp [results, Tryz.results14, go_sem, x0, x1, x2, e1, e2, u0, u1, u2]
        · have hTI : ¬ (T : Int) < (s.size : Int) := by omega
          have hbb : bodyB s T = ⟨#[]⟩ := by unfold bodyB; rw [if_neg hTl]; rfl
          rw [hbb] at ans2
          have HANS := hide ans2
          clear ans1 ans2 hbb x3 hkE HIS hT hTl
          go_wp2_with fail
          refine bodyPost_ret (v := .tuple #[.agg #[.slice au us.length cu, .slice ao os.length co, .string ⟨#[]⟩], .int .i64 0, .int .i64 0]) ?res rfl (unhide HANS)
          case res => simp [results, Tryz.results14, go_sem, x0, x1, x2, e1, e2, u0, u1, u2]
end Go.Proofs.YtokabkhnidlcnabGreatDoor

/-
  Walk: all modules are read, in the specification (l5Units).
-/
namespace Go.Proofs.YtokabkhnidlcnabGreatDoor
set_option maxRecDepth 100000
set_option linter.unusedSimpArgs false
set_option linter.unusedVariables false
open Go.RowKit

theorem empty_rowV (w : World) : RowV3 (w.alloc (.cells #[] 40)) w.heap.size (.slice (some ⟨w.heap.size, 0, none⟩) 0 0) [] := by
  have := World.ownsRow_lit (base := w.heap.size) (e := 40) (size := 3) w #[] 0 (Nat.le_refl _) (Nat.zero_le _) rfl
  simpa [RowV3, cellsV] using this

/-- What l5Units answers. -/
def UnsPost (w : World) (ms : List ModR) (e : Ending) (w' : World) : Prop := ∃ (g c : Nat) (vs : List UvR) (U : List UnR), e = .returned (.slice (some ⟨g, 0, none⟩) vs.length c) ∧ w.heap.size ≤ g ∧ g < w'.heap.size ∧ vs.length = ms.length ∧ Hid (OpsV w' g vs) ∧ Hid (UnsAt w' w'.heap.size vs U) ∧ Hid (UnitsOf ms U) ∧ Below w.heap.size w w'

/-- The modules so far. -/
def UnTo (ms : List ModR) (U : List UnR) (k : Nat) : Prop := U.length = k ∧ ∀ i, i < k → UnitIs (atM ms i).t (atU U i).us (atU U i).os (atU U i).b 0 0

set_option maxHeartbeats 4000000 in
theorem l5Units_any (a : Option Addr) (c0 : Nat) (ms : List ModR) (w : World) (hn : ms.length ≤ 100) (hM : ArgM w a ms) (hz : SizedM ms) (hgood : ∀ i, i < ms.length → ¬ B2 ms i) :
    Calls Tryz.prog 17 #[.slice a ms.length c0] w (UnsPost w ms) := by
  obtain ⟨i0, hi0, hz0, hz1, hz2⟩ := info_parts' infoUn
  have HI := hide hi0
  have HZ := hide (And.intro hz0 (And.intro hz1 hz2))
  have HM := hide hM
  have HG := hide hgood
  have HSZ := hide hz
  clear hi0 hz0 hz1 hz2 hM hgood hz
  have HE := hide (empty_rowV w)
  go_enter Tryz.func17, Tryz.ntmps17
  go_wp2
  go_loopw [3, 4] (fun out i wr => ∃ (k g c : Nat) (vs : List UvR) (U : List UnR), k ≤ ms.length ∧ i = .int .i64 (k : Int) ∧ out = .slice (some ⟨g, 0, none⟩) vs.length c ∧ vs.length ≤ k ∧ Hid (vs.length = k) ∧ Hid (UnTo ms U k) ∧ Hid (RowV3 wr w.heap.size (.slice (some ⟨g, 0, none⟩) vs.length c) vs) ∧ Hid (UnsOk wr (.slice (some ⟨g, 0, none⟩) vs.length c) vs U) ∧ Below w.heap.size w wr) (fun _ i _ => ms.length - (intOf i).toNat)
  case atStart => exact ⟨0, w.heap.size, 0, [], [], Nat.zero_le _, rfl, rfl, Nat.le_refl _, hide rfl, hide ⟨rfl, fun i hi => by omega⟩, HE, hide ⟨rfl, fun i hi => absurd hi (Nat.not_lt_zero i)⟩, below1 _ _⟩
  case round =>
    clear HE
    obtain ⟨k, g, c, vs, U, hk, rfl, rfl, hvl, HVK, HUT, HR, HUO, hbel⟩ := hrel
    by_cases hlt : k < ms.length
    · have hltI : (k : Int) < (ms.length : Int) := by omega
      rcases unhide HM with h | ⟨b, off, rfl, hops, hB⟩
      · omega
      obtain ⟨m0, m1⟩ := (hops k hlt).below hbel hB
      have hg := ((unhide HR).lt g rfl).2
      have HRD := hide (specReadUnit_any (atM ms k).t wr ((unhide HSZ) k hlt).2)
      clear hops
      go_wp2_with fail
      (with_reducible refine (unhide HRD).mono ?_)
      rintro e w1 ⟨vu, vo, us, os, b', c', l', rfl, hi1, ru1, ro1, hne1, hlu, hlo, hb1⟩
      obtain ⟨rfl, rfl, _, _⟩ := not_B2 ((unhide HG) k hlt) hi1
      obtain ⟨a1, c1, rfl⟩ := rowS_slice ru1
      obtain ⟨a2, c2, rfl⟩ : ∃ a c, vo = .slice a os.length c := rowS_slice ro1
      have z1 := hb1.size
      have HB1 := hide hb1
      have HS1 := hide ru1.strs
      have HO1 := hide ro1.ops
      have HLU := hide (fun q e => ru1.lt q e)
      have HLO := hide (fun q e => ro1.lt q e)
      have HUN := hide hi1
      clear hi1 ru1 ro1 hne1 hb1 HRD m0 m1
      go_wp2_with (at_builtin; refine wpList_append_own_at _ rfl (.tmp 25) (.tmp 27) 46 rfl w.heap.size 40 i0 _ 3 64 Tryz.underlying46 (unhide HI) (unhide HZ).1 (unhide HZ).2.1 (unhide HZ).2.2 rfl (by decide) _ vs.length (cellsV vs) rfl (((unhide HR).below (unhide HB1)).below ((below1 _ _).alloc (by simp) _)) ⟨w1.heap.size + 1, 0, none⟩ 1 1 (cellsV [⟨.slice a1 us.length c1, .slice a2 os.length c2, b'⟩]) rfl rfl (fun j u hj => (by simpa using new_newsV (w1.alloc (.cells #[.slice a1 us.length c1, .slice a2 os.length c2, .string b'] 40)) ⟨.slice a1 us.length c1, .slice a2 os.length c2, b'⟩ j u hj)) (fun u hu => by simp [cellsV] at hu; rcases hu with rfl | rfl | rfl <;> rfl) ?b1 ?b2 ?b3 ?next)
      case b1 => unfold maxLen; omega
      case b2 => omega
      case b3 => have := hbel.size; simp; omega
      case next =>
        intro v4 w4 hown4 hgrow4 hnil4 hat4
        have hbd : Below w1.heap.size w1 ((w1.alloc (.cells #[.slice a1 us.length c1, .slice a2 os.length c2, .string b'] 40)).alloc (.cells #[.slice a1 us.length c1, .slice a2 os.length c2, .string b'] 40)) := (below1 _ _).alloc (by simp) _
        have HO := hide (show RowV3 w4 w.heap.size v4 (vs ++ [⟨.slice a1 us.length c1, .slice a2 os.length c2, b'⟩]) by
          unfold RowV3
          rw [cellsV_append, List.length_append]
          exact hown4)
        have HU4 := hide (UnsOk.step (x := ⟨.slice a1 us.length c1, .slice a2 os.length c2, b'⟩) (y := ⟨us, os, b'⟩) (unhide HUO) ((unhide HB1).trans (hbd.mono z1)) (fun q e => by have e' : g = q := (by simpa [Value.ownBlock] using e); omega) ((unhide HS1).below hbd) ((unhide HO1).below hbd) rfl (fun q e => by have := (unhide HLU) q e; simp; omega) (fun q e => by have := (unhide HLO) q e; simp; omega) hgrow4 (hat4.imp id (fun h => ⟨_, h, by simp⟩)))
        have hbel4 : Below w.heap.size w w4 := (hbel.trans (((unhide HB1).trans (hbd.mono z1)).mono hbel.size)).grown hgrow4 (by have := hbel.size; simp; omega) (fun q hq => ((unhide HR).lt q hq).1)
        obtain ⟨g4, c4, rfl⟩ : ∃ g4 c4, v4 = .slice (some ⟨g4, 0, none⟩) (vs ++ [(⟨.slice a1 us.length c1, .slice a2 os.length c2, b'⟩ : UvR)]).length c4 := by
          obtain ⟨_, ⟨_, h2⟩ | ⟨g', cap, cur, h1, _⟩⟩ := unhide HO
          · simp at h2
          · exact ⟨g', cap, h1⟩
        have HUT4 := hide (show UnTo ms (U ++ [⟨us, os, b'⟩]) (k + 1) by
          obtain ⟨t1, t2⟩ := unhide HUT
          refine ⟨by simp [t1], fun i hi => ?_⟩
          by_cases e : i < k
          · rw [atU_left (by omega)]; exact t2 i e
          · have e1 : i = U.length := by omega
            have e2 : atU (U ++ [⟨us, os, b'⟩]) i = ⟨us, os, b'⟩ := by rw [e1]; exact atU_last
            rw [e2]
            have e3 : i = k := by omega
            rw [e3]
            exact unhide HUN)
        obtain ⟨vs4, HLS⟩ : ∃ vs4, Hid (vs4 = vs ++ [(⟨.slice a1 us.length c1, .slice a2 os.length c2, b'⟩ : UvR)]) := ⟨_, hide rfl⟩
        have e4 := unhide HLS
        rw [← e4] at HO HU4
        rw [← e4]
        clear e4 hown4 hgrow4 hnil4 hat4 HS1 HO1 HLU HLO HB1 HR HUO HUT hbd
        go_wp2
        refine ⟨⟨k + 1, g4, c4, vs4, U ++ [⟨us, os, b'⟩], by omega, by go_num, rfl, ?_, hide ?_, HUT4, HO, HU4, hbel4⟩, by simp [intOf]; omega⟩
        · rw [unhide HLS]; simp; omega
        · have := unhide HVK; rw [unhide HLS]; simp; omega
    · have hkn : k = ms.length := by omega
      have HF := hide (show UnitsOf ms U by
        obtain ⟨t1, t2⟩ := unhide HUT
        exact ⟨by omega, fun i hi => t2 i (by omega)⟩)
      have HVN := hide (show vs.length = ms.length by have := unhide HVK; omega)
      clear hkn
      go_wp2
      go_ret
      have hg := (unhide HR).lt g rfl
      exact ⟨g, c, vs, U, rfl, hg.1, hg.2, unhide HVN, hide (unhide HR).ops, hide (unhide HUO).at, HF, hbel⟩
end Go.Proofs.YtokabkhnidlcnabGreatDoor
