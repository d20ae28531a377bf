import Derived.OwnWalk
import Derived.Laws.OwnMore
import Derived.Test.YtfboipappaonhaaGreatU01
import Derived.Test.YtfboipappaonhaaGreatU02
import Derived.Test.YtfboipappaonhaaGreatU10

/-
  Walks: operators that are drawn.
-/
namespace Go.Proofs.YtfboipappaonhaaGreat
set_option maxRecDepth 100000
set_option linter.unusedSimpArgs false
set_option linter.unusedVariables false
open Go.RowKit

/-- The texts that are drawn. -/
def txL : List ByteArray := [⟨#[43]⟩, ⟨#[45]⟩, ⟨#[43, 43]⟩, ⟨#[42]⟩, ⟨#[33]⟩, ⟨#[61, 61]⟩, ⟨#[43, 43, 43]⟩, ⟨#[33, 61]⟩, ⟨#[45, 45]⟩, ⟨#[94]⟩, ⟨#[61, 62]⟩, ⟨#[63, 58]⟩]
def txN (k : Nat) : ByteArray := txL.getD (k % 12) ⟨#[]⟩

theorem txN_at {k j : Nat} (h : k % 12 = j) : txN k = txL.getD j ⟨#[]⟩ := by rw [txN, h]
theorem txN_size (k : Nat) : (txN k).size ≤ 3 := by
  have h : k % 12 < 12 := Nat.mod_lt _ (by decide)
  have : ∀ j : Fin 12, (txL.getD j.val ⟨#[]⟩).size ≤ 3 := by decide
  exact this ⟨k % 12, h⟩

set_option maxHeartbeats 1000000 in
theorem l1Text_any (k : Nat) (w : World) (hk : k < 1000000) :
    Calls Tryz.prog 150 #[.int .i64 (k : Int)] w fun e w' => e = .returned (.string (txN k)) ∧ w' = w := by
  go_enter Tryz.func150, Tryz.ntmps150
  go_wp2
  all_goals
    go_ret
    refine ⟨ret_str ?_, rfl⟩
    go_light
    simp only [beq_iff_eq, beq_eq_false_iff_ne, ne_eq] at *
    first
      | (refine Eq.trans ?_ (txN_at (j := 0) ?_).symm
         · rfl
         · omega)
      | (refine Eq.trans ?_ (txN_at (j := 1) ?_).symm
         · rfl
         · omega)
      | (refine Eq.trans ?_ (txN_at (j := 2) ?_).symm
         · rfl
         · omega)
      | (refine Eq.trans ?_ (txN_at (j := 3) ?_).symm
         · rfl
         · omega)
      | (refine Eq.trans ?_ (txN_at (j := 4) ?_).symm
         · rfl
         · omega)
      | (refine Eq.trans ?_ (txN_at (j := 5) ?_).symm
         · rfl
         · omega)
      | (refine Eq.trans ?_ (txN_at (j := 6) ?_).symm
         · rfl
         · omega)
      | (refine Eq.trans ?_ (txN_at (j := 7) ?_).symm
         · rfl
         · omega)
      | (refine Eq.trans ?_ (txN_at (j := 8) ?_).symm
         · rfl
         · omega)
      | (refine Eq.trans ?_ (txN_at (j := 9) ?_).symm
         · rfl
         · omega)
      | (refine Eq.trans ?_ (txN_at (j := 10) ?_).symm
         · rfl
         · omega)
      | (refine Eq.trans ?_ (txN_at (j := 11) ?_).symm
         · rfl
         · omega)

/-- The operator that two numbers make. -/
def drKind (k : Nat) : Int := if k % 8 < 2 then 1 else if k % 8 = 2 then 3 else 2
def drSide (k : Nat) : Int := if k % 8 < 2 then 0 else if k % 8 = 2 then 0 else 1 + ((k / 8 % 3 : Nat) : Int)
def drLevel (k v : Nat) (tidy : Bool) : Int :=
  if 250 ≤ k then 997 + srt (drKind k) (drSide k) else if tidy = true then 3 * ((v / 12 % 4 : Nat) : Int) + srt (drKind k) (drSide k) else 1 + ((v / 12 % 6 : Nat) : Int)
def drOp (k v : Nat) (tidy : Bool) : OpR := ⟨txN v, drKind k, drLevel k v tidy, drSide k⟩

theorem RdS.set {w : World} {rp cap p : Nat} {a : Option Addr} {bs : List UInt8} (h : RdS w rp a cap bs p) (b o : Nat) (v : Value) (hb : rp < b) : RdS (w.setCell ⟨b, o, none⟩ v) rp a cap bs p :=
  h.kept (fun i hi => Below.heap_setCell _ _ _ _ (by simp; omega))
theorem Kept1.setNew {w w1 : World} {g b : Nat} (h : Kept1 w w1 g) (o : Nat) (v : Value) (hb : w.heap.size ≤ b) : Kept1 w (w1.setCell ⟨b, o, none⟩ v) g :=
  ⟨h.os, h.tape, h.output, by simpa [World.setCell] using h.size, fun i hi hg => (Below.heap_setCell _ _ _ _ (by simp; omega)).trans (h.block i hi hg)⟩
theorem Kept1.belowN {w w1 w2 : World} {g : Nat} (h : Kept1 w w1 g) (hb : Below w1.heap.size w1 w2) : Kept1 w w2 g := h.trans (Kept1.of_below hb)

theorem drOp_Afb {k v : Nat} (hc : k % 8 < 2) (hb : 250 ≤ k) (hk : k < 256) (hv : v < 256) : (⟨txN v, 1, wrap64 (997 + srt 1 (0)), 0⟩ : OpR) = drOp k v false := by
  have e1 : drKind k = 1 := by simp [drKind]; omega
  have e2 : drSide k = 0 := by simp [drSide]; omega
  unfold drOp drLevel
  rw [e1, e2]
  simp [hb, srt, wrap64]
  try omega
theorem drOp_Afs {k v : Nat} (hc : k % 8 < 2) (hb : ¬ 250 ≤ k) (hk : k < 256) (hv : v < 256) : (⟨txN v, 1, 1 + (v : Int) / 12 % 6, 0⟩ : OpR) = drOp k v false := by
  have e1 : drKind k = 1 := by simp [drKind]; omega
  have e2 : drSide k = 0 := by simp [drSide]; omega
  unfold drOp drLevel
  rw [e1, e2]
  simp [hb, srt, wrap64]
  try omega
theorem drOp_Atb {k v : Nat} (hc : k % 8 < 2) (hb : 250 ≤ k) (hk : k < 256) (hv : v < 256) : (⟨txN v, 1, wrap64 (997 + srt 1 (0)), 0⟩ : OpR) = drOp k v true := by
  have e1 : drKind k = 1 := by simp [drKind]; omega
  have e2 : drSide k = 0 := by simp [drSide]; omega
  unfold drOp drLevel
  rw [e1, e2]
  simp [hb, srt, wrap64]
  try omega
theorem drOp_Ats {k v : Nat} (hc : k % 8 < 2) (hb : ¬ 250 ≤ k) (hk : k < 256) (hv : v < 256) : (⟨txN v, 1, wrap64 (3 * ((v : Int) / 12 % 4) + srt 1 (0)), 0⟩ : OpR) = drOp k v true := by
  have e1 : drKind k = 1 := by simp [drKind]; omega
  have e2 : drSide k = 0 := by simp [drSide]; omega
  unfold drOp drLevel
  rw [e1, e2]
  simp [hb, srt, wrap64]
  try omega
theorem drOp_Bfb {k v : Nat} (hc : k % 8 = 2) (hb : 250 ≤ k) (hk : k < 256) (hv : v < 256) : (⟨txN v, 3, wrap64 (997 + srt 3 (0)), 0⟩ : OpR) = drOp k v false := by
  have e1 : drKind k = 3 := by simp [drKind]; omega
  have e2 : drSide k = 0 := by simp [drSide]; omega
  unfold drOp drLevel
  rw [e1, e2]
  simp [hb, srt, wrap64]
  try omega
theorem drOp_Bfs {k v : Nat} (hc : k % 8 = 2) (hb : ¬ 250 ≤ k) (hk : k < 256) (hv : v < 256) : (⟨txN v, 3, 1 + (v : Int) / 12 % 6, 0⟩ : OpR) = drOp k v false := by
  have e1 : drKind k = 3 := by simp [drKind]; omega
  have e2 : drSide k = 0 := by simp [drSide]; omega
  unfold drOp drLevel
  rw [e1, e2]
  simp [hb, srt, wrap64]
  try omega
theorem drOp_Btb {k v : Nat} (hc : k % 8 = 2) (hb : 250 ≤ k) (hk : k < 256) (hv : v < 256) : (⟨txN v, 3, wrap64 (997 + srt 3 (0)), 0⟩ : OpR) = drOp k v true := by
  have e1 : drKind k = 3 := by simp [drKind]; omega
  have e2 : drSide k = 0 := by simp [drSide]; omega
  unfold drOp drLevel
  rw [e1, e2]
  simp [hb, srt, wrap64]
  try omega
theorem drOp_Bts {k v : Nat} (hc : k % 8 = 2) (hb : ¬ 250 ≤ k) (hk : k < 256) (hv : v < 256) : (⟨txN v, 3, wrap64 (3 * ((v : Int) / 12 % 4) + srt 3 (0)), 0⟩ : OpR) = drOp k v true := by
  have e1 : drKind k = 3 := by simp [drKind]; omega
  have e2 : drSide k = 0 := by simp [drSide]; omega
  unfold drOp drLevel
  rw [e1, e2]
  simp [hb, srt, wrap64]
  try omega
theorem drOp_Cfb {k v : Nat} (hc : 2 < k % 8) (hb : 250 ≤ k) (hk : k < 256) (hv : v < 256) : (⟨txN v, 2, wrap64 (997 + srt 2 (1 + (k : Int) / 8 % 3)), 1 + (k : Int) / 8 % 3⟩ : OpR) = drOp k v false := by
  have e1 : drKind k = 2 := by simp [drKind]; omega
  have e2 : drSide k = 1 + (k : Int) / 8 % 3 := by simp [drSide]; omega
  unfold drOp drLevel
  rw [e1, e2]
  simp [hb, srt, wrap64]
  try omega
theorem drOp_Cfs {k v : Nat} (hc : 2 < k % 8) (hb : ¬ 250 ≤ k) (hk : k < 256) (hv : v < 256) : (⟨txN v, 2, 1 + (v : Int) / 12 % 6, 1 + (k : Int) / 8 % 3⟩ : OpR) = drOp k v false := by
  have e1 : drKind k = 2 := by simp [drKind]; omega
  have e2 : drSide k = 1 + (k : Int) / 8 % 3 := by simp [drSide]; omega
  unfold drOp drLevel
  rw [e1, e2]
  simp [hb, srt, wrap64]
  try omega
theorem drOp_Ctb {k v : Nat} (hc : 2 < k % 8) (hb : 250 ≤ k) (hk : k < 256) (hv : v < 256) : (⟨txN v, 2, wrap64 (997 + srt 2 (1 + (k : Int) / 8 % 3)), 1 + (k : Int) / 8 % 3⟩ : OpR) = drOp k v true := by
  have e1 : drKind k = 2 := by simp [drKind]; omega
  have e2 : drSide k = 1 + (k : Int) / 8 % 3 := by simp [drSide]; omega
  unfold drOp drLevel
  rw [e1, e2]
  simp [hb, srt, wrap64]
  try omega
theorem drOp_Cts {k v : Nat} (hc : 2 < k % 8) (hb : ¬ 250 ≤ k) (hk : k < 256) (hv : v < 256) : (⟨txN v, 2, wrap64 (3 * ((v : Int) / 12 % 4) + srt 2 (1 + (k : Int) / 8 % 3)), 1 + (k : Int) / 8 % 3⟩ : OpR) = drOp k v true := by
  have e1 : drKind k = 2 := by simp [drKind]; omega
  have e2 : drSide k = 1 + (k : Int) / 8 % 3 := by simp [drSide]; omega
  unfold drOp drLevel
  rw [e1, e2]
  simp [hb, srt, wrap64]
  try omega

set_option maxHeartbeats 4000000 in
theorem l1DrawOp_any (rp cap p : Nat) (tidy : Bool) (a : Option Addr) (bs : List UInt8) (w : World) (h : RdS w rp a cap bs p) (hl : bs.length ≤ 1200) :
    Calls Tryz.prog 110 #[.pointer (some ⟨rp, 0, none⟩), .bool tidy] w fun e w' => (∃ o : OpR, e = .returned (.agg #[.string o.s, .int .i64 o.k, .int .i64 o.l, .int .i64 o.sd]) ∧ Hid (o = drOp (nxt bs p) (nxt bs (adv bs p)) tidy)) ∧ Hid (RdS w' rp a cap bs (adv bs (adv bs p))) ∧ Hid (Kept1 w w' rp) := by
  have hrpw := h.lt
  have H := hide h
  clear h
  go_enter Tryz.func110, Tryz.ntmps110
  go_wp2_with fail
  refine (next_at rp cap p a bs _ ((unhide H).below (below1 _ _)) hl).mono ?_
  rintro e w1 ⟨⟨k, rfl, hk, HK⟩, H1, HP1⟩
  go_wp2_with fail
  refine (next_at rp cap _ a bs _ (unhide H1) hl).mono ?_
  rintro e w2 ⟨⟨v, rfl, hv, HV⟩, H2, HP2⟩
  have HP := hide ((unhide HP1).trans (unhide HP2))
  clear H H1 HP1 HP2
  have zw : w.heap.size < w2.heap.size := by have := (unhide HP).size; simp at this; omega
  have hrp := (unhide H2).lt
  have r0 : w2.cell? ⟨w.heap.size, 0, none⟩ = some (.string ⟨#[]⟩) ∧ w2.cell? ⟨w.heap.size, 1, none⟩ = some (.int .i64 0) ∧ w2.cell? ⟨w.heap.size, 2, none⟩ = some (.int .i64 0) ∧ w2.cell? ⟨w.heap.size, 3, none⟩ = some (.int .i64 0) := by
    have e := fun o => (unhide HP).cell (b := w.heap.size) (by simp) (by have := hrpw; omega) o
    refine ⟨(e _).trans ?_, (e _).trans ?_, (e _).trans ?_, (e _).trans ?_⟩ <;> simp [go_sem]
  obtain ⟨r0, r1, r2, r3⟩ := r0
  have f0 : ∀ o, w2.frozen? ⟨w.heap.size, o, none⟩ = false := fun o => ((unhide HP).frozen (b := w.heap.size) (by simp) (by have := hrpw; omega) o).trans (by simp [go_sem])
  have HPW := hide (show Kept1 w w2 rp from (Kept1.of_below (below1 _ _)).trans (unhide HP))
  clear HP
  have hcs : k % 8 < 2 ∨ k % 8 = 2 ∨ 2 < k % 8 := by omega
  rcases hcs with hc | hc | hc
  · have HCK := hide hc
    have hk8I : (k : Int) % 8 < 2 := by omega
    clear hc
    cases tidy
    · skip
      go_wp2_with (first | (go_at_call 150; refine (l1Text_any _ _ (by omega)).mono ?_; rintro e w3 ⟨rfl, hx⟩; obtain rfl := hx.symm) | (go_at_call 143; refine (l1Sort_any _ _ _ _ _).mono ?_; rintro e w3 ⟨rfl, hb3⟩; have hA3 := fun o => hb3.cell (p := ⟨w.heap.size, o, none⟩) (by simp; omega); have hB3 := fun o => hb3.cell (p := ⟨w2.heap.size, o, none⟩) (by first | (simp; done) | (simp; omega)); have hE3 := fun o => hb3.frozen (p := ⟨w.heap.size, o, none⟩) (by simp; omega); have hF3 := fun o => hb3.frozen (p := ⟨w2.heap.size, o, none⟩) (by first | (simp; done) | (simp; omega)); have hz3 : w2.heap.size + 1 ≤ w3.heap.size := (by have := hb3.size; simp at this; omega)))
      · refine bodyPost_ret (v := .agg #[.string (txN v), .int .i64 1, .int .i64 (1 + (v : Int) / 12 % 6), .int .i64 (0)]) ?res rfl ⟨⟨⟨txN v, 1, 1 + (v : Int) / 12 % 6, 0⟩, rfl, hide ?_⟩, hide ?_, hide ?_⟩
        case res => simp [results, Tryz.results110, go_sem, *]
        · rw [← unhide HV, ← unhide HK]
          exact drOp_Afs (unhide HCK) (by omega) hk hv
        · repeat (first | exact unhide H2 | refine RdS.set ?_ _ _ _ (by omega) | refine RdS.below ?_ (below1 _ _) | refine RdS.below ?_ (by assumption))
        · repeat (first | exact unhide HPW | refine Kept1.setNew ?_ _ _ (by omega) | refine Kept1.belowN ?_ (below1 _ _) | refine Kept1.belowN ?_ (by assumption))
    · skip
      go_wp2_with (first | (go_at_call 150; refine (l1Text_any _ _ (by omega)).mono ?_; rintro e w3 ⟨rfl, hx⟩; obtain rfl := hx.symm) | (go_at_call 143; refine (l1Sort_any _ _ _ _ _).mono ?_; rintro e w3 ⟨rfl, hb3⟩; have hA3 := fun o => hb3.cell (p := ⟨w.heap.size, o, none⟩) (by simp; omega); have hB3 := fun o => hb3.cell (p := ⟨w2.heap.size, o, none⟩) (by first | (simp; done) | (simp; omega)); have hE3 := fun o => hb3.frozen (p := ⟨w.heap.size, o, none⟩) (by simp; omega); have hF3 := fun o => hb3.frozen (p := ⟨w2.heap.size, o, none⟩) (by first | (simp; done) | (simp; omega)); have hz3 : w2.heap.size + 1 ≤ w3.heap.size := (by have := hb3.size; simp at this; omega)))
      · refine bodyPost_ret (v := .agg #[.string (txN v), .int .i64 1, .int .i64 (wrap64 (3 * ((v : Int) / 12 % 4) + srt 1 (0))), .int .i64 (0)]) ?res rfl ⟨⟨⟨txN v, 1, wrap64 (3 * ((v : Int) / 12 % 4) + srt 1 (0)), 0⟩, rfl, hide ?_⟩, hide ?_, hide ?_⟩
        case res => simp [results, Tryz.results110, go_sem, *]
        · rw [← unhide HV, ← unhide HK]
          exact drOp_Ats (unhide HCK) (by omega) hk hv
        · repeat (first | exact unhide H2 | refine RdS.set ?_ _ _ _ (by omega) | refine RdS.below ?_ (below1 _ _) | refine RdS.below ?_ (by assumption))
        · repeat (first | exact unhide HPW | refine Kept1.setNew ?_ _ _ (by omega) | refine Kept1.belowN ?_ (below1 _ _) | refine Kept1.belowN ?_ (by assumption))
  · have HCK := hide hc
    have hk8I : ¬ (k : Int) % 8 < 2 := by omega
    have hk8J : ((k : Int) % 8 == 2) = true := by simp; omega
    clear hc
    cases tidy
    · skip
      go_wp2_with (first | (go_at_call 150; refine (l1Text_any _ _ (by omega)).mono ?_; rintro e w3 ⟨rfl, hx⟩; obtain rfl := hx.symm) | (go_at_call 143; refine (l1Sort_any _ _ _ _ _).mono ?_; rintro e w3 ⟨rfl, hb3⟩; have hA3 := fun o => hb3.cell (p := ⟨w.heap.size, o, none⟩) (by simp; omega); have hB3 := fun o => hb3.cell (p := ⟨w2.heap.size, o, none⟩) (by first | (simp; done) | (simp; omega)); have hE3 := fun o => hb3.frozen (p := ⟨w.heap.size, o, none⟩) (by simp; omega); have hF3 := fun o => hb3.frozen (p := ⟨w2.heap.size, o, none⟩) (by first | (simp; done) | (simp; omega)); have hz3 : w2.heap.size + 1 ≤ w3.heap.size := (by have := hb3.size; simp at this; omega)))
      · refine bodyPost_ret (v := .agg #[.string (txN v), .int .i64 3, .int .i64 (wrap64 (997 + srt 3 (0))), .int .i64 (0)]) ?res rfl ⟨⟨⟨txN v, 3, wrap64 (997 + srt 3 (0)), 0⟩, rfl, hide ?_⟩, hide ?_, hide ?_⟩
        case res => simp [results, Tryz.results110, go_sem, *]
        · rw [← unhide HV, ← unhide HK]
          exact drOp_Bfb (unhide HCK) (by omega) hk hv
        · repeat (first | exact unhide H2 | refine RdS.set ?_ _ _ _ (by omega) | refine RdS.below ?_ (below1 _ _) | refine RdS.below ?_ (by assumption))
        · repeat (first | exact unhide HPW | refine Kept1.setNew ?_ _ _ (by omega) | refine Kept1.belowN ?_ (below1 _ _) | refine Kept1.belowN ?_ (by assumption))
      · refine bodyPost_ret (v := .agg #[.string (txN v), .int .i64 3, .int .i64 (1 + (v : Int) / 12 % 6), .int .i64 (0)]) ?res rfl ⟨⟨⟨txN v, 3, 1 + (v : Int) / 12 % 6, 0⟩, rfl, hide ?_⟩, hide ?_, hide ?_⟩
        case res => simp [results, Tryz.results110, go_sem, *]
        · rw [← unhide HV, ← unhide HK]
          exact drOp_Bfs (unhide HCK) (by omega) hk hv
        · repeat (first | exact unhide H2 | refine RdS.set ?_ _ _ _ (by omega) | refine RdS.below ?_ (below1 _ _) | refine RdS.below ?_ (by assumption))
        · repeat (first | exact unhide HPW | refine Kept1.setNew ?_ _ _ (by omega) | refine Kept1.belowN ?_ (below1 _ _) | refine Kept1.belowN ?_ (by assumption))
    · skip
      go_wp2_with (first | (go_at_call 150; refine (l1Text_any _ _ (by omega)).mono ?_; rintro e w3 ⟨rfl, hx⟩; obtain rfl := hx.symm) | (go_at_call 143; refine (l1Sort_any _ _ _ _ _).mono ?_; rintro e w3 ⟨rfl, hb3⟩; have hA3 := fun o => hb3.cell (p := ⟨w.heap.size, o, none⟩) (by simp; omega); have hB3 := fun o => hb3.cell (p := ⟨w2.heap.size, o, none⟩) (by first | (simp; done) | (simp; omega)); have hE3 := fun o => hb3.frozen (p := ⟨w.heap.size, o, none⟩) (by simp; omega); have hF3 := fun o => hb3.frozen (p := ⟨w2.heap.size, o, none⟩) (by first | (simp; done) | (simp; omega)); have hz3 : w2.heap.size + 1 ≤ w3.heap.size := (by have := hb3.size; simp at this; omega)))
      · refine bodyPost_ret (v := .agg #[.string (txN v), .int .i64 3, .int .i64 (wrap64 (997 + srt 3 (0))), .int .i64 (0)]) ?res rfl ⟨⟨⟨txN v, 3, wrap64 (997 + srt 3 (0)), 0⟩, rfl, hide ?_⟩, hide ?_, hide ?_⟩
        case res => simp [results, Tryz.results110, go_sem, *]
        · rw [← unhide HV, ← unhide HK]
          exact drOp_Btb (unhide HCK) (by omega) hk hv
        · repeat (first | exact unhide H2 | refine RdS.set ?_ _ _ _ (by omega) | refine RdS.below ?_ (below1 _ _) | refine RdS.below ?_ (by assumption))
        · repeat (first | exact unhide HPW | refine Kept1.setNew ?_ _ _ (by omega) | refine Kept1.belowN ?_ (below1 _ _) | refine Kept1.belowN ?_ (by assumption))
      · refine bodyPost_ret (v := .agg #[.string (txN v), .int .i64 3, .int .i64 (wrap64 (3 * ((v : Int) / 12 % 4) + srt 3 (0))), .int .i64 (0)]) ?res rfl ⟨⟨⟨txN v, 3, wrap64 (3 * ((v : Int) / 12 % 4) + srt 3 (0)), 0⟩, rfl, hide ?_⟩, hide ?_, hide ?_⟩
        case res => simp [results, Tryz.results110, go_sem, *]
        · rw [← unhide HV, ← unhide HK]
          exact drOp_Bts (unhide HCK) (by omega) hk hv
        · repeat (first | exact unhide H2 | refine RdS.set ?_ _ _ _ (by omega) | refine RdS.below ?_ (below1 _ _) | refine RdS.below ?_ (by assumption))
        · repeat (first | exact unhide HPW | refine Kept1.setNew ?_ _ _ (by omega) | refine Kept1.belowN ?_ (below1 _ _) | refine Kept1.belowN ?_ (by assumption))
  · have HCK := hide hc
    have hk8I : ¬ (k : Int) % 8 < 2 := by omega
    have hk8J : ((k : Int) % 8 == 2) = false := by simp; omega
    clear hc
    cases tidy
    · skip
      go_wp2_with (first | (go_at_call 150; refine (l1Text_any _ _ (by omega)).mono ?_; rintro e w3 ⟨rfl, hx⟩; obtain rfl := hx.symm) | (go_at_call 143; refine (l1Sort_any _ _ _ _ _).mono ?_; rintro e w3 ⟨rfl, hb3⟩; have hA3 := fun o => hb3.cell (p := ⟨w.heap.size, o, none⟩) (by simp; omega); have hB3 := fun o => hb3.cell (p := ⟨w2.heap.size, o, none⟩) (by first | (simp; done) | (simp; omega)); have hE3 := fun o => hb3.frozen (p := ⟨w.heap.size, o, none⟩) (by simp; omega); have hF3 := fun o => hb3.frozen (p := ⟨w2.heap.size, o, none⟩) (by first | (simp; done) | (simp; omega)); have hz3 : w2.heap.size + 1 ≤ w3.heap.size := (by have := hb3.size; simp at this; omega)))
      · refine bodyPost_ret (v := .agg #[.string (txN v), .int .i64 2, .int .i64 (wrap64 (997 + srt 2 (1 + (k : Int) / 8 % 3))), .int .i64 (1 + (k : Int) / 8 % 3)]) ?res rfl ⟨⟨⟨txN v, 2, wrap64 (997 + srt 2 (1 + (k : Int) / 8 % 3)), 1 + (k : Int) / 8 % 3⟩, rfl, hide ?_⟩, hide ?_, hide ?_⟩
        case res => simp [results, Tryz.results110, go_sem, *]
        · rw [← unhide HV, ← unhide HK]
          exact drOp_Cfb (unhide HCK) (by omega) hk hv
        · repeat (first | exact unhide H2 | refine RdS.set ?_ _ _ _ (by omega) | refine RdS.below ?_ (below1 _ _) | refine RdS.below ?_ (by assumption))
        · repeat (first | exact unhide HPW | refine Kept1.setNew ?_ _ _ (by omega) | refine Kept1.belowN ?_ (below1 _ _) | refine Kept1.belowN ?_ (by assumption))
      · refine bodyPost_ret (v := .agg #[.string (txN v), .int .i64 2, .int .i64 (1 + (v : Int) / 12 % 6), .int .i64 (1 + (k : Int) / 8 % 3)]) ?res rfl ⟨⟨⟨txN v, 2, 1 + (v : Int) / 12 % 6, 1 + (k : Int) / 8 % 3⟩, rfl, hide ?_⟩, hide ?_, hide ?_⟩
        case res => simp [results, Tryz.results110, go_sem, *]
        · rw [← unhide HV, ← unhide HK]
          exact drOp_Cfs (unhide HCK) (by omega) hk hv
        · repeat (first | exact unhide H2 | refine RdS.set ?_ _ _ _ (by omega) | refine RdS.below ?_ (below1 _ _) | refine RdS.below ?_ (by assumption))
        · repeat (first | exact unhide HPW | refine Kept1.setNew ?_ _ _ (by omega) | refine Kept1.belowN ?_ (below1 _ _) | refine Kept1.belowN ?_ (by assumption))
    · skip
      go_wp2_with (first | (go_at_call 150; refine (l1Text_any _ _ (by omega)).mono ?_; rintro e w3 ⟨rfl, hx⟩; obtain rfl := hx.symm) | (go_at_call 143; refine (l1Sort_any _ _ _ _ _).mono ?_; rintro e w3 ⟨rfl, hb3⟩; have hA3 := fun o => hb3.cell (p := ⟨w.heap.size, o, none⟩) (by simp; omega); have hB3 := fun o => hb3.cell (p := ⟨w2.heap.size, o, none⟩) (by first | (simp; done) | (simp; omega)); have hE3 := fun o => hb3.frozen (p := ⟨w.heap.size, o, none⟩) (by simp; omega); have hF3 := fun o => hb3.frozen (p := ⟨w2.heap.size, o, none⟩) (by first | (simp; done) | (simp; omega)); have hz3 : w2.heap.size + 1 ≤ w3.heap.size := (by have := hb3.size; simp at this; omega)))
      · refine bodyPost_ret (v := .agg #[.string (txN v), .int .i64 2, .int .i64 (wrap64 (997 + srt 2 (1 + (k : Int) / 8 % 3))), .int .i64 (1 + (k : Int) / 8 % 3)]) ?res rfl ⟨⟨⟨txN v, 2, wrap64 (997 + srt 2 (1 + (k : Int) / 8 % 3)), 1 + (k : Int) / 8 % 3⟩, rfl, hide ?_⟩, hide ?_, hide ?_⟩
        case res => simp [results, Tryz.results110, go_sem, *]
        · rw [← unhide HV, ← unhide HK]
          exact drOp_Ctb (unhide HCK) (by omega) hk hv
        · repeat (first | exact unhide H2 | refine RdS.set ?_ _ _ _ (by omega) | refine RdS.below ?_ (below1 _ _) | refine RdS.below ?_ (by assumption))
        · repeat (first | exact unhide HPW | refine Kept1.setNew ?_ _ _ (by omega) | refine Kept1.belowN ?_ (below1 _ _) | refine Kept1.belowN ?_ (by assumption))
      · refine bodyPost_ret (v := .agg #[.string (txN v), .int .i64 2, .int .i64 (wrap64 (3 * ((v : Int) / 12 % 4) + srt 2 (1 + (k : Int) / 8 % 3))), .int .i64 (1 + (k : Int) / 8 % 3)]) ?res rfl ⟨⟨⟨txN v, 2, wrap64 (3 * ((v : Int) / 12 % 4) + srt 2 (1 + (k : Int) / 8 % 3)), 1 + (k : Int) / 8 % 3⟩, rfl, hide ?_⟩, hide ?_, hide ?_⟩
        case res => simp [results, Tryz.results110, go_sem, *]
        · rw [← unhide HV, ← unhide HK]
          exact drOp_Cts (unhide HCK) (by omega) hk hv
        · repeat (first | exact unhide H2 | refine RdS.set ?_ _ _ _ (by omega) | refine RdS.below ?_ (below1 _ _) | refine RdS.below ?_ (by assumption))
        · repeat (first | exact unhide HPW | refine Kept1.setNew ?_ _ _ (by omega) | refine Kept1.belowN ?_ (below1 _ _) | refine Kept1.belowN ?_ (by assumption))
end Go.Proofs.YtfboipappaonhaaGreat

/-
  Rows of operators by append.
-/
namespace Go.Proofs.YtfboipappaonhaaGreat
set_option maxRecDepth 100000
open Go.RowKit

/-- The cells of a list of operators. -/
def cellsL (zs : List OpR) : List Value := zs.flatMap fun o => [.string o.s, .int .i64 o.k, .int .i64 o.l, .int .i64 o.sd]

theorem cellsL_nil : cellsL [] = [] := rfl
theorem cellsL_append (xs ys : List OpR) : cellsL (xs ++ ys) = cellsL xs ++ cellsL ys := by simp [cellsL]
theorem cellsL_one (o : OpR) : cellsL [o] = [.string o.s, .int .i64 o.k, .int .i64 o.l, .int .i64 o.sd] := rfl
theorem cellsL_len : ∀ zs : List OpR, (cellsL zs).length = zs.length * 4
  | [] => rfl
  | o :: r => by
    have := cellsL_len r
    simp only [cellsL, List.flatMap_cons, List.length_append, List.length_cons, List.length_nil] at *
    omega

theorem cellsL_at : ∀ (zs : List OpR) (i : Nat), i < zs.length → (cellsL zs)[i * 4]? = some (.string (atO zs i).s) ∧ (cellsL zs)[i * 4 + 1]? = some (.int .i64 (atO zs i).k) ∧ (cellsL zs)[i * 4 + 2]? = some (.int .i64 (atO zs i).l) ∧ (cellsL zs)[i * 4 + 3]? = some (.int .i64 (atO zs i).sd)
  | [], i, h => absurd h (Nat.not_lt_zero i)
  | o :: r, 0, _ => ⟨rfl, rfl, rfl, rfl⟩
  | o :: r, i + 1, h => by
    have ih := cellsL_at r i (by simpa using h)
    have e : ∀ j, (cellsL (o :: r))[(i + 1) * 4 + j]? = (cellsL r)[i * 4 + j]? := fun j => by
      have : (i + 1) * 4 + j = (i * 4 + j) + 4 := by omega
      rw [this]
      rfl
    exact ⟨(e 0).trans ih.1, (e 1).trans ih.2.1, (e 2).trans ih.2.2.1, (e 3).trans ih.2.2.2⟩

theorem cellsL_one' (zs : List OpR) : ∀ u ∈ cellsL zs, u.oneCell' = true := by
  intro u hu
  simp only [cellsL, List.mem_flatMap] at hu
  obtain ⟨o, _, ho⟩ := hu
  simp at ho
  rcases ho with rfl | rfl | rfl | rfl <;> rfl

/-- The cells of a row, by number. -/
theorem ops_news {w : World} {b off : Nat} {xs : List OpR} (h : Ops w b off xs) : ∀ j u, (cellsL xs)[j]? = some u → w.cell? ((⟨b, off, none⟩ : Addr).add j) = some u := by
  intro j u hj
  have hlt : j < xs.length * 4 := by
    rw [← cellsL_len]
    exact (List.getElem?_eq_some_iff.1 hj).1
  rw [Addr.add_mid]
  have hi : j / 4 < xs.length := by omega
  obtain ⟨a0, a1, a2, a3⟩ := h (j / 4) hi
  obtain ⟨c0, c1, c2, c3⟩ := cellsL_at xs (j / 4) hi
  have hr : j % 4 = 0 ∨ j % 4 = 1 ∨ j % 4 = 2 ∨ j % 4 = 3 := by omega
  rcases hr with e | e | e | e
  · have ej : j = j / 4 * 4 := by omega
    rw [ej] at hj ⊢
    rw [c0] at hj
    rw [← hj]
    exact a0
  · have ej : j = j / 4 * 4 + 1 := by omega
    rw [ej] at hj ⊢
    rw [c1] at hj
    rw [← hj]
    exact a1
  · have ej : j = j / 4 * 4 + 2 := by omega
    rw [ej] at hj ⊢
    rw [c2] at hj
    rw [← hj]
    exact a2
  · have ej : j = j / 4 * 4 + 3 := by omega
    rw [ej] at hj ⊢
    rw [c3] at hj
    rw [← hj]
    exact a3

/-- A row that the call owns, as a filled one. -/
theorem owns_filled {w : World} {base g cap : Nat} {e : TypeId} {zs : List OpR} (h : w.ownsRow base e 4 (.slice (some ⟨g, 0, none⟩) zs.length cap) zs.length (cellsL zs)) : base ≤ g ∧ Filled w g zs zs.length := by
  have hlt := h.lt g rfl
  refine ⟨hlt.1, hlt.2, fun j hj => ⟨?_, h.frozenAt _⟩, fun i hi => ?_⟩
  · rw [h.cellAt (0 + j) (by omega)]
    have : 0 + j < (cellsL zs).length := by rw [cellsL_len]; omega
    rw [List.getElem?_eq_getElem this]
    rfl
  · obtain ⟨c0, c1, c2, c3⟩ := cellsL_at zs i hi
    have e := fun j (hj : j < 4) => h.cellAt (i * 4 + j) (by omega)
    exact ⟨by simpa using (e 0 (by omega)).trans c0, by simpa using (e 1 (by omega)).trans c1, by simpa using (e 2 (by omega)).trans c2, by simpa using (e 3 (by omega)).trans c3⟩

/-- What an owned row's value is, where it is not nil. -/
theorem owns_value {w : World} {base n size : Nat} {e : TypeId} {v : Value} {xs : List Value} (h : w.ownsRow base e size v n xs) (hv : v ≠ .slice none 0 0) : ∃ g cap, v = .slice (some ⟨g, 0, none⟩) n cap := by
  obtain ⟨_, h | ⟨g, cap, cur, hv', _⟩⟩ := h
  · exact absurd h.1 hv
  · exact ⟨g, cap, hv'⟩

theorem infoOp' : (Tryz.prog.info? 123).map (fun i => (i.zero, i.size, i.bytes)) = some (some (.agg #[.string ⟨#[]⟩, .int .i64 0, .int .i64 0, .int .i64 0]), 4, 40) := by kernel_rfl

theorem below_grown {B : Nat} {w w' : World} {row : Option Nat} (hg : w.grownBy w' row) (hB : B ≤ w.heap.size) (hr : ∀ k, row = some k → B ≤ k) : Below B w w' :=
  (Below.refl B w).grown hg hB hr

theorem owns_cap {w : World} {base n size g cap : Nat} {e : TypeId} {xs : List Value} (h : w.ownsRow base e size (.slice (some ⟨g, 0, none⟩) n cap) n xs) : n ≤ cap ∧ cap ≤ maxLen := by
  obtain ⟨_, h | ⟨g', cap', cur, hv', _, _, h1, h2, _⟩⟩ := h
  · simp at h
  · simp only [Value.slice.injEq, Option.some.injEq] at hv'
    obtain ⟨_, _, rfl⟩ := hv'
    exact ⟨h1, h2⟩

theorem new_owned (w : World) (o : OpR) : (w.alloc (.cells #[.string o.s, .int .i64 o.k, .int .i64 o.l, .int .i64 o.sd] 123)).rangeAt w.heap.size 0 [.string o.s, .int .i64 o.k, .int .i64 o.l, .int .i64 o.sd] := by
  have := World.rangeAt_of_block (w := w.alloc (.cells #[.string o.s, .int .i64 o.k, .int .i64 o.l, .int .i64 o.sd] 123)) (b := w.heap.size) (heap_alloc_new w _) 0 4
  simpa using this

theorem new_news (w : World) (o : OpR) : ∀ j u, (cellsL [o])[j]? = some u → (w.alloc (.cells #[.string o.s, .int .i64 o.k, .int .i64 o.l, .int .i64 o.sd] 123)).cell? ((⟨w.heap.size, 0, none⟩ : Addr).add j) = some u := by
  intro j u hj
  rw [Addr.add_mid]
  exact new_owned w o j u hj
end Go.Proofs.YtfboipappaonhaaGreat

/-
  Rows of operators that a call makes by append.
-/
namespace Go.Proofs.YtfboipappaonhaaGreat
set_option maxRecDepth 100000
open Go.RowKit


end Go.Proofs.YtfboipappaonhaaGreat
