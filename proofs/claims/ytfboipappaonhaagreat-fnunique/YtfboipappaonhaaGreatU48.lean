import Derived.OpenShut
import Derived.ProofKit
import Derived.Lib.SmallJoins
import Derived.ChangeSlices
import Derived.Deep.Slices
import Derived.ShutString
import Derived.ChangeOld
import Derived.Below
import Derived.Test.YtfboipappaonhaaGreatU02
import Derived.Test.YtfboipappaonhaaGreatU20
import Derived.Test.YtfboipappaonhaaGreatU30
import Derived.Test.YtfboipappaonhaaGreatU36
import Derived.Test.YtfboipappaonhaaGreatU37
import Derived.Test.YtfboipappaonhaaGreatU38
import Derived.Test.YtfboipappaonhaaGreatU39
import Derived.Test.YtfboipappaonhaaGreatU42
import Derived.Test.YtfboipappaonhaaGreatU45
import Derived.Test.YtfboipappaonhaaGreatU46
import Derived.Test.YtfboipappaonhaaGreatU47

/-
  Walk: the program's Parse.
-/
namespace Go.Proofs.YtfboipappaonhaaGreat
set_option maxRecDepth 100000
set_option linter.unusedSimpArgs false
set_option linter.unusedVariables false
open Go.RowKit Go.Maps

/-- What Parse hands back. -/
def ParPost (xs : List OpR) (s : ByteArray) (w : World) (e : Ending) (w' : World) : Prop :=
  (∃ (a : Option Addr) (cc : Nat) (us : List NodeR) (c p : Int), e = .returned (.tuple #[.agg #[.slice a us.length cc], .int .i64 c, .int .i64 p]) ∧ Hid (OwnedN w' w.heap.size a us) ∧ Hid (ParseIs xs s us c p)) ∧ Below w.heap.size w w'

theorem ParPost.empty {xs : List OpR} {s : ByteArray} {w w' : World} {c p : Int} (h : ParseIs xs s [] c p) (hb : Below w.heap.size w w') : ParPost xs s w (.returned (.tuple #[.agg #[.slice none 0 0], .int .i64 c, .int .i64 p])) w' :=
  ⟨⟨none, 0, [], c, p, rfl, hide (show OwnedN w' w.heap.size none [] from Or.inl ⟨rfl, rfl⟩), hide h⟩, hb⟩

/-- Parse's own variables, untouched. -/
def ParF (N M bo bs : Nat) (W : World) : Prop :=
  (W.cell? ⟨N + 1, 0, none⟩ = some (.slice none 0 0) ∧ W.frozen? ⟨N + 1, 0, none⟩ = false) ∧ (W.cell? ⟨N + 1 + 1, 0, none⟩ = some (.int .i64 0) ∧ W.frozen? ⟨N + 1 + 1, 0, none⟩ = false) ∧ (W.cell? ⟨N + 1 + 1 + 1, 0, none⟩ = some (.int .i64 0) ∧ W.frozen? ⟨N + 1 + 1 + 1, 0, none⟩ = false) ∧
  W.cell? ⟨M, 0, none⟩ = some (.map (some bo)) ∧ W.cell? ⟨M, 1, none⟩ = some (.map (some bs))

theorem ParF.keptO {N M bo bs p : Nat} {W W' : World} (h : ParF N M bo bs W) (hk : Kept1 W W' p) (h1 : N + 4 ≤ p) (h2 : M ≠ p) : ParF N M bo bs W' := by
  obtain ⟨⟨a1, b1⟩, ⟨a2, b2⟩, ⟨a3, b3⟩, i0, i1⟩ := h
  have l1 : N + 1 < W.heap.size := block_lt_of_cell a1
  have l2 : N + 1 + 1 < W.heap.size := block_lt_of_cell a2
  have l3 : N + 1 + 1 + 1 < W.heap.size := block_lt_of_cell a3
  have lm : M < W.heap.size := block_lt_of_cell i0
  exact ⟨⟨(hk.cell l1 (by omega) 0).trans a1, (hk.frozen l1 (by omega) 0).trans b1⟩, ⟨(hk.cell l2 (by omega) 0).trans a2, (hk.frozen l2 (by omega) 0).trans b2⟩, ⟨(hk.cell l3 (by omega) 0).trans a3, (hk.frozen l3 (by omega) 0).trans b3⟩, (hk.cell lm h2 0).trans i0, (hk.cell lm h2 1).trans i1⟩

theorem ParF.below {N M bo bs : Nat} {W W' : World} (h : ParF N M bo bs W) (hb : Below W.heap.size W W') : ParF N M bo bs W' := by
  have lm : M < W.heap.size := block_lt_of_cell h.2.2.2.1
  have l3 : N + 1 + 1 + 1 < W.heap.size := block_lt_of_cell h.2.2.1.1
  exact h.keptO (Kept1.of_below (g := W.heap.size) hb) (by omega) (by omega)

/-- A refusal goes through the deferred answer. -/
theorem par_raise {tmps : Array Value} {R : Ending → World → Prop} {N M bo bs : Nat} {code place : Int} {W : World} (hF : ParF N M bo bs W)
    (hres : ∀ W', W'.cell? ⟨N + 1, 0, none⟩ = some (.slice none 0 0) → W'.cell? ⟨N + 1 + 1, 0, none⟩ = some (.int .i64 code) → W'.cell? ⟨N + 1 + 1 + 1, 0, none⟩ = some (.int .i64 place) → (results Tryz.f13 tmps).run Tryz.prog W' = .ok (.tuple #[.agg #[.slice none 0 0], .int .i64 code, .int .i64 place]) W')
    (hR : ∀ W', Below N W W' → R (.returned (.tuple #[.agg #[.slice none 0 0], .int .i64 code, .int .i64 place])) W') :
    Leaves Tryz.prog Tryz.f13 tmps R [{ target := .fn (.func 36) #[.pointer (some ⟨N + 1 + 1, 0, none⟩), .pointer (some ⟨N + 1 + 1 + 1, 0, none⟩)], args := #[] }] (.panicking [{ v := .iface 146 (.agg #[.int .i64 code, .int .i64 place]), recovered := false }]) W := by
  obtain ⟨⟨a1, b1⟩, ⟨a2, b2⟩, ⟨a3, b3⟩, _, _⟩ := hF
  have l1 : N + 1 < W.heap.size := block_lt_of_cell a1
  have l2 : N + 1 + 1 < W.heap.size := block_lt_of_cell a2
  have l3 : N + 1 + 1 + 1 < W.heap.size := block_lt_of_cell a3
  refine leaves_cons (f := 36) (args := #[.pointer (some ⟨N + 1 + 1, 0, none⟩), .pointer (some ⟨N + 1 + 1 + 1, 0, none⟩)]) (by simp) (by simp [go_sem]) ?_
  refine (catch_panicking _ _ 0 0 code place _ a2 b2 a3 b3 (by omega)).mono ?_
  rintro e u' w'' ⟨rfl, rfl, wz, hbz, rfl⟩
  have y1 := (hbz.cell (p := ⟨N + 1, 0, none⟩) l1).trans a1
  have y2 := (hbz.cell (p := ⟨N + 1 + 1, 0, none⟩) l2).trans a2
  have y3 := (hbz.cell (p := ⟨N + 1 + 1 + 1, 0, none⟩) l3).trans a3
  refine ⟨_, hres _ ?_ ?_ ?_, hR _ ?_⟩
  · rw [World.cell?_setCell_other _ _ _ _ (fun e => by injection e with e; omega), World.cell?_setCell_other _ _ _ _ (fun e => by injection e with e; omega)]
    exact y1
  · rw [World.cell?_setCell_other _ _ _ _ (fun e => by injection e with e; omega)]
    exact World.cell?_setCell_same _ _ _ y2
  · have y4 := (World.cell?_setCell_other wz ⟨N + 1 + 1, 0, none⟩ ⟨N + 1 + 1 + 1, 0, none⟩ (.int .i64 code) (fun e => by injection e with e; omega)).trans y3
    exact World.cell?_setCell_same _ _ _ y4
  · exact ((hbz.mono (by omega)).setCell (by simp only; omega) _).setCell (by simp only; omega) _

/-- An answer. -/
theorem par_ret {tmps : Array Value} {R : Ending → World → Prop} {N : Nat} {v : Value} {W : World}
    (hres : (results Tryz.f13 tmps).run Tryz.prog W = .ok v W) (hR : R (.returned v) W) :
    Leaves Tryz.prog Tryz.f13 tmps R [{ target := .fn (.func 36) #[.pointer (some ⟨N + 1 + 1, 0, none⟩), .pointer (some ⟨N + 1 + 1 + 1, 0, none⟩)], args := #[] }] .returning W := by
  refine leaves_cons (f := 36) (args := #[.pointer (some ⟨N + 1 + 1, 0, none⟩), .pointer (some ⟨N + 1 + 1 + 1, 0, none⟩)]) (by simp) (by simp [go_sem]) ?_
  refine (catch_idle _ _ _).mono ?_
  rintro e u' w'' ⟨rfl, rfl, rfl⟩
  exact ⟨v, hres, hR⟩

/-- What indexTable leaves. -/
def IxPost (xs : List OpR) (w : World) (e : Ending) (w' : World) : Prop := (∃ (x y : Option Nat) (c : Int), e = .returned (.tuple #[.agg #[.map x, .map y], .int .i64 c]) ∧ IsCode xs c ∧ (c = 0 → ∃ bo bs, x = some bo ∧ y = some bs ∧ Idx w' bo bs xs xs.length)) ∧ Below w.heap.size w w'

set_option maxHeartbeats 4000000 in
theorem implParse_ix (a : Option Addr) (cap : Nat) (xs : List OpR) (s : ByteArray) (w : World) (hmx : xs.length ≤ 1048576) (hI : ∀ W, Below w.heap.size w W → Calls Tryz.prog 38 #[.agg #[.slice a xs.length cap]] W (IxPost xs W)) (hsz : Sized xs) (hs : s.size ≤ 1048576) :
    Calls Tryz.prog 13 #[.agg #[.slice a xs.length cap], .string s] w (ParPost xs s w) := by
  have hmf : ∀ (fn : Fn) (first cap : Array Value) (w : World), (Instr.makeFunc fn first cap).run Tryz.prog w = .ok (.func fn first cap) w := fun _ _ _ _ => rfl
  have HS := hide hsz
  clear hsz
  have bel0 : Below w.heap.size w ((((w.alloc (.cells #[.slice a xs.length cap] 25)).alloc (.cells #[.slice none 0 0] 28)).alloc (.cells #[.int .i64 0] 3)).alloc (.cells #[.int .i64 0] 3)) := (((below1 _ _).alloc (by simp) _).alloc (by simp; omega) _).alloc (by simp; omega) _
  have HX := hI _ bel0
  clear hI
  have HB0 := hide bel0
  clear bel0
  go_enter_defers Tryz.func13, Tryz.ntmps13
  go_wp2_with fail
  refine HX.mono ?_
  clear HX
  rintro e w1 ⟨⟨x, y, c, rfl, hc, hix⟩, hb1⟩
  have HC := hide hc
  have HIX := hide hix
  have z1 : w.heap.size + 4 ≤ w1.heap.size := by have := hb1.size; simp at this; omega
  have bel1 : Below w.heap.size w w1 := (unhide HB0).trans (hb1.mono (by simp; omega))
  have t1 : w1.cell? ⟨w.heap.size + 1, 0, none⟩ = some (.slice none 0 0) := (hb1.cell (p := ⟨w.heap.size + 1, 0, none⟩) (by simp)).trans (by simp [go_sem])
  have u1 : w1.frozen? ⟨w.heap.size + 1, 0, none⟩ = false := (hb1.frozen (p := ⟨w.heap.size + 1, 0, none⟩) (by simp)).trans (by simp [go_sem])
  have t2 : w1.cell? ⟨w.heap.size + 1 + 1, 0, none⟩ = some (.int .i64 0) := (hb1.cell (p := ⟨w.heap.size + 1 + 1, 0, none⟩) (by simp)).trans (by simp [go_sem])
  have u2 : w1.frozen? ⟨w.heap.size + 1 + 1, 0, none⟩ = false := (hb1.frozen (p := ⟨w.heap.size + 1 + 1, 0, none⟩) (by simp)).trans (by simp [go_sem])
  have t3 : w1.cell? ⟨w.heap.size + 1 + 1 + 1, 0, none⟩ = some (.int .i64 0) := (hb1.cell (p := ⟨w.heap.size + 1 + 1 + 1, 0, none⟩) (by simp)).trans (by simp [go_sem])
  have u3 : w1.frozen? ⟨w.heap.size + 1 + 1 + 1, 0, none⟩ = false := (hb1.frozen (p := ⟨w.heap.size + 1 + 1 + 1, 0, none⟩) (by simp)).trans (by simp [go_sem])
  have bel2 : Below w.heap.size w (w1.alloc (.cells #[.map x, .map y] 69)) := bel1.alloc bel1.size _
  have hb2 := below1 w1 (.cells #[.map x, .map y] 69)
  replace t1 := (hb2.cell (p := ⟨w.heap.size + 1, 0, none⟩) (by simp only; omega)).trans t1
  replace u1 := (hb2.frozen (p := ⟨w.heap.size + 1, 0, none⟩) (by simp only; omega)).trans u1
  replace t2 := (hb2.cell (p := ⟨w.heap.size + 1 + 1, 0, none⟩) (by simp only; omega)).trans t2
  replace u2 := (hb2.frozen (p := ⟨w.heap.size + 1 + 1, 0, none⟩) (by simp only; omega)).trans u2
  replace t3 := (hb2.cell (p := ⟨w.heap.size + 1 + 1 + 1, 0, none⟩) (by simp only; omega)).trans t3
  replace u3 := (hb2.frozen (p := ⟨w.heap.size + 1 + 1 + 1, 0, none⟩) (by simp only; omega)).trans u3
  clear hc hix hb1 HB0
  by_cases hc0 : c = 0
  case neg =>
    have hc0' : (c != 0) = true := by simpa using hc0
    have HN := hide (show ¬ IsCode xs 0 from fun h => hc0 (IsCode_one (unhide HC) h))
    clear hc0
    go_wp2_with fail
    refine par_ret (v := .tuple #[.agg #[.slice none 0 0], .int .i64 1, .int .i64 0]) ?_ ?_
    · simp [results, Tryz.results13, go_sem, t1, t2, t3]
    · exact ParPost.empty (Or.inl ⟨unhide HN, rfl, rfl, rfl⟩) (((bel2.setCell (by simp only; omega) _).setCell (by simp only; omega) _).setCell (by simp only; omega) _)
  subst hc0
  obtain ⟨bo, bs, rfl, rfl, hidx⟩ := (unhide HIX) rfl
  by_cases hlen : 20000 < s.size
  · have hlI : (20000 : Int) < (s.size : Int) := by omega
    have HN := hide hlen
    clear HIX hidx hlen
    go_wp2_with fail
    refine par_ret (v := .tuple #[.agg #[.slice none 0 0], .int .i64 2, .int .i64 0]) ?_ ?_
    · simp [results, Tryz.results13, go_sem, t1, t2, t3]
    · exact ParPost.empty (Or.inr ⟨unhide HC, Or.inl ⟨unhide HN, rfl, rfl, rfl⟩⟩) (((bel2.setCell (by simp only; omega) _).setCell (by simp only; omega) _).setCell (by simp only; omega) _)
  have h20 : s.size ≤ 20000 := by omega
  have hlI : (s.size : Int) ≤ 20000 := by omega
  have HF := hide (show ParF w.heap.size w1.heap.size bo bs (w1.alloc (.cells #[.map (some bo), .map (some bs)] 69)) from ⟨⟨t1, u1⟩, ⟨t2, u2⟩, ⟨t3, u3⟩, by simp [go_sem], by simp [go_sem]⟩)
  have HID := hide (hidx.kept hb2)
  have HX := cut_any bo bs xs s _ (unhide HID) (unhide HC) (unhide HS) h20
  clear HIX hidx hb2 t1 t2 t3 u1 u2 u3 hlen
  go_wp2_with fail
  refine HX.mono ?_
  clear HX
  rintro e w3 ⟨⟨g, cp, ts, rfl, ⟨hg, hcp, hcpm⟩, hfil, hlex⟩, hb3⟩
  have bel3 := bel2.trans (hb3.mono bel2.size)
  replace HF := hide ((unhide HF).below hb3)
  replace HID := hide ((unhide HID).kept hb3)
  have hgw : w.heap.size ≤ g := by simp at hg; omega
  have hg3 : g < w3.heap.size := (unhide hfil).1
  have HT := hide (show OpsT w3 g 0 ts from (unhide hfil).2.2)
  have HR := hide (lexed_all (unhide hlex))
  have HZ := hide (lexed_size ts 0 (unhide hlex))
  have hm3 : ts.length + totToT ts ts.length ≤ 1048576 := by have := unhide HR; omega
  have hms : w1.heap.size + 1 ≤ w3.heap.size := by have := hb3.size; simp at this; omega
  have HX := refuseBad_any g 0 cp ts w3 hm3 hcp hcpm (unhide HT) hg3 (fun i hi => by have := ((unhide HZ) i hi).1; omega)
  clear hb3 hfil HR hg bel2
  go_wp2_with fail
  refine HX.mono ?_
  clear HX
  rintro e w4 ⟨⟨i, hi, h6, hno, rfl⟩ | ⟨hno, rfl⟩, hb4⟩
  · refine par_raise (unhide (hide ((unhide HF).below hb4))) (fun W' a b c => by simp [results, Tryz.results13, go_sem, a, b, c]) (fun W' hb => ParPost.empty (Or.inr ⟨unhide HC, Or.inr ⟨h20, ts, unhide hlex, Or.inl ⟨i, hi, h6, hno, rfl, rfl, rfl⟩⟩⟩) ((bel3.trans (hb4.mono bel3.size)).trans hb))
  replace HF := hide ((unhide HF).below hb4)
  replace HID := hide ((unhide HID).kept hb4)
  have bel4 := bel3.trans (hb4.mono bel3.size)
  replace HT := hide ((unhide HT).below hb4 hg3)
  have hg4 : g < w4.heap.size := Nat.lt_of_lt_of_le hg3 hb4.size
  have hms4 := Nat.le_trans hms hb4.size
  have HNO := hide hno
  have HX := refuseMisfit_any bo bs g 0 cp xs ts w4 hm3 hcp hcpm (unhide HID) (unhide HC) (unhide HT) (fun i hi => by have := (unhide HZ) i hi; unfold maxLen; omega) hg4 (fun i hi => by have := ((unhide HZ) i hi).1; omega) (lexed_last ts 0 (unhide hlex))
  obtain ⟨⟨t1, u1⟩, ⟨t2, u2⟩, ⟨t3, u3⟩, i0, i1⟩ := unhide HF
  clear hb4 bel3 hno hg3 hms
  go_wp2_with fail
  refine HX.mono ?_
  clear HX t1 t2 t3 u1 u2 u3 i0 i1
  rintro e w5 ⟨⟨i, hi, hfi, hro, rfl⟩ | ⟨hfit, rfl⟩, hb5⟩
  · refine par_raise (unhide (hide ((unhide HF).below hb5))) (fun W' a b c => by simp [results, Tryz.results13, go_sem, a, b, c]) (fun W' hb => ParPost.empty (Or.inr ⟨unhide HC, Or.inr ⟨h20, ts, unhide hlex, Or.inr ⟨unhide HNO, Or.inl ⟨i, hi, hfi, hro, rfl, rfl, rfl⟩⟩⟩⟩) ((bel4.trans (hb5.mono bel4.size)).trans hb))
  replace HF := hide ((unhide HF).below hb5)
  replace HID := hide ((unhide HID).kept hb5)
  have bel5 := bel4.trans (hb5.mono bel4.size)
  replace HT := hide ((unhide HT).below hb5 hg4)
  have hg5 : g < w5.heap.size := Nat.lt_of_lt_of_le hg4 hb5.size
  have hms5 := Nat.le_trans hms4 hb5.size
  have HFIT := hide hfit
  have HX := newParser_any bo bs g 0 cp xs ts w5 (unhide HID) (unhide HC) (unhide HS) hmx (unhide HT) hg5
  obtain ⟨⟨t1, u1⟩, ⟨t2, u2⟩, ⟨t3, u3⟩, i0, i1⟩ := unhide HF
  clear hb5 bel4 hfit hg4 hms4
  go_wp2_with fail
  refine HX.mono ?_
  clear HX t1 t2 t3 u1 u2 u3 i0 i1
  rintro e w6 ⟨⟨p, bf, bb, rfl, hp, hpc, hpr⟩, hb6⟩
  replace HF := hide ((unhide HF).below hb6)
  have bel6 := bel5.trans (hb6.mono bel5.size)
  have HFS := hide (fits_of (unhide HC) (code_ok (unhide HC)) h20 (unhide hlex) (unhide HFIT))
  have HSG := hide (show FitE xs (false, 0) (sgs xs ts 0 ts.length) by have := (unhide HFS).all 0 (lexed_last ts 0 (unhide hlex)).1; rw [Nat.sub_zero] at this; exact this)
  obtain ⟨res, hres⟩ : ∃ res, res = RD xs 0 none (sgs xs ts 0 ts.length) := ⟨_, rfl⟩
  have HX := parseM_any (unhide HFS) w6 (unhide HSG) (unhide hpc) (unhide hpr) res hres
  have HRES := hide hres
  have hz6 := hb6.size
  have hl5 : w.heap.size + 4 ≤ w5.heap.size := by omega
  clear hb6 hres HSG HFS hpc hpr
  go_wp2_with fail
  refine HX.mono ?_
  clear HX
  rintro e w7 ⟨hk7, ⟨hn, rfl⟩ | ⟨T, r, hsome, hgd, ⟨hhi, rfl⟩ | ⟨hlo, g', c', rfl, hg', hfil⟩⟩⟩
  · have HF7 := hide ((unhide HF).keptO (unhide hk7) (by omega) (by omega))
    have bel7 := bel6.trans ((unhide hk7).below bel6.size (by omega))
    refine par_raise (unhide HF7) (fun W' a b c => by simp [results, Tryz.results13, go_sem, a, b, c]) (fun W' hb => ParPost.empty (Or.inr ⟨unhide HC, Or.inr ⟨h20, ts, unhide hlex, Or.inr ⟨unhide HNO, Or.inr ⟨unhide HFIT, Or.inl ⟨(unhide HRES).symm.trans hn, rfl, rfl, rfl⟩⟩⟩⟩⟩) (bel7.trans hb))
  · have HF7 := hide ((unhide HF).keptO (unhide hk7) (by omega) (by omega))
    have bel7 := bel6.trans ((unhide hk7).below bel6.size (by omega))
    refine par_raise (unhide HF7) (fun W' a b c => by simp [results, Tryz.results13, go_sem, a, b, c]) (fun W' hb => ParPost.empty (Or.inr ⟨unhide HC, Or.inr ⟨h20, ts, unhide hlex, Or.inr ⟨unhide HNO, Or.inr ⟨unhide HFIT, Or.inr ⟨T, r, (unhide HRES).symm.trans hsome, Or.inl ⟨hhi, rfl, rfl, rfl⟩⟩⟩⟩⟩⟩) (bel7.trans hb))
  have HF7 := hide ((unhide HF).keptO (unhide hk7) (by omega) (by omega))
  have bel7 := bel6.trans ((unhide hk7).below bel6.size (by omega))
  obtain ⟨us, hus⟩ : ∃ us, us = nd T 0 := ⟨_, rfl⟩
  rw [← hus] at hfil
  rw [← hus]
  have HOUT := hide (show ParseIs xs s us 0 0 from Or.inr ⟨unhide HC, Or.inr ⟨h20, ts, unhide hlex, Or.inr ⟨unhide HNO, Or.inr ⟨unhide HFIT, Or.inr ⟨T, r, (unhide HRES).symm.trans hsome, Or.inr ⟨hlo, hus, rfl, rfl⟩⟩⟩⟩⟩⟩)
  obtain ⟨⟨t1, u1⟩, ⟨t2, u2⟩, ⟨t3, u3⟩, i0, i1⟩ := unhide HF7
  clear hus hsome hlo HRES HF hk7 bel6 HNO HFIT HT HID i0 i1 hgd
  go_wp2_with fail
  refine par_ret (v := .tuple #[.agg #[.slice (some ⟨g', 0, none⟩) us.length c'], .int .i64 0, .int .i64 0]) ?_ ?_
  · simp [results, Tryz.results13, go_sem, t1, t2, t3]
  · refine ⟨⟨some ⟨g', 0, none⟩, c', us, 0, 0, rfl, hide (Or.inr ⟨g', rfl, by omega, ?_⟩), HOUT⟩, ((bel7.setCell (by simp only; omega) _).setCell (by simp only; omega) _).setCell (by simp only; omega) _⟩
    exact (((unhide hfil).setCell _ _ _ (by omega)).setCell _ _ _ (by omega)).setCell _ _ _ (by omega)

theorem implParse_any (b off cap : Nat) (xs : List OpR) (s : ByteArray) (w : World) (hmx : xs.length ≤ 1048576) (hw : Ops w b off xs) (hsz : Sized xs) (hB : b < w.heap.size) (hs : s.size ≤ 1048576) :
    Calls Tryz.prog 13 #[.agg #[.slice (some ⟨b, off, none⟩) xs.length cap], .string s] w (ParPost xs s w) :=
  implParse_ix _ cap xs s w hmx (fun W hb => indexTable_any b off cap xs W hmx (hw.below hb hB) hsz (Nat.lt_of_lt_of_le hB hb.size)) hsz hs
end Go.Proofs.YtfboipappaonhaaGreat

/-
  Walk: the law FnUnique.
-/
namespace Go.Proofs.YtfboipappaonhaaGreat
set_option maxRecDepth 100000
set_option linter.unusedSimpArgs false
set_option linter.unusedVariables false
open Go.RowKit

theorem Filled.lt1 {w : World} {g k : Nat} {xs : List OpR} (h : Filled w g xs k) : g < w.heap.size := h.1
theorem FilledN.lt1 {w : World} {g k : Nat} {xs : List NodeR} (h : FilledN w g xs k) : g < w.heap.size := h.1

/-- What FnUnique asks of a tree that is well formed. -/
structure UqT (ns : List OpR) (us : List NodeR) (c0 : Int) (T : ET) : Prop where
  w : WellT ns T
  x : us = nd T 0
  z : us.length = tsz T
  l : us.length ≤ 20000
  l1 : 1 ≤ us.length
  tx : TxB T
  par : ∀ vs c p, (yTx (ySy T)).size ≤ 20000 → hT T ≤ 1000 → ParseIs ns (yTx (ySy T)) vs c p → (c0 = 0 → c = 0 ∧ vs = us) ∧ (c0 = 3 → c = 0 → vs ≠ us)

theorem uq_of {ns : List OpR} {us : List NodeR} {c0 : Int} (h : TreeOkIs ns us c0) (h1 : c0 ≠ 1) (h2 : c0 ≠ 2) : ∃ T, UqT ns us c0 T := by
  have ho : InOrd us := by
    rcases h with ⟨_, h⟩ | ⟨_, ⟨_, h⟩ | ⟨⟨ho, _⟩, _⟩⟩
    · exact absurd h h1
    · exact absurd h h2
    · exact ho
  obtain ⟨T, hw, hx, hz, _, _, hg, hp⟩ := uniq h h1 h2
  have hl : Lies us T 0 := by rw [hx]; exact lies_self T
  refine ⟨T, hw, hx, hz.symm, ho.2.1, ho.1, txB_lies ho.2.2.2 T 0 hl (by omega), fun vs c p hs hh hpi => ?_⟩
  obtain ⟨a, b⟩ := hp vs c p hs hpi
  refine ⟨fun e => a (hg.1 e) hh, fun e hc => ?_⟩
  rcases b (fun g => by have := hg.2 g; omega) with h | h
  · exact absurd hc h
  · exact h

theorem TreeOkIs.cases {ns : List OpR} {us : List NodeR} {c : Int} (h : TreeOkIs ns us c) : c = 1 ∨ c = 2 ∨ c = 3 ∨ c = 0 := by
  rcases h with ⟨_, h⟩ | ⟨_, ⟨_, h⟩ | ⟨_, ⟨_, h⟩ | ⟨_, h⟩⟩⟩
  · exact Or.inl h
  · exact Or.inr (Or.inl h)
  · exact Or.inr (Or.inr (Or.inl h))
  · exact Or.inr (Or.inr (Or.inr h))

set_option maxHeartbeats 8000000 in
theorem lawUnique (a : Option Addr) (cap : Nat) (l : List UInt8) (w : World) (hm : l.length ≤ maxLen) (hcap : l.length ≤ cap) (h : ArgY w a l) :
    Calls Tryz.prog 5 #[.slice a l.length cap] w fun e w' => e = .returned (.bool true) ∧ Below w.heap.size w w' := by
  have HA := hide h
  clear h
  by_cases hl : l.length ≤ 1048576
  case neg =>
    have hlI : (1048576 : Int) < (l.length : Int) := by omega
    unfold maxLen at hm
    go_enter Tryz.func5, Tryz.ntmps5
    go_wp2_with fail
    go_ret
    exact ⟨rfl, Below.refl _ _⟩
  have hlI : ¬ (1048576 : Int) < (l.length : Int) := by omega
  go_enter Tryz.func5, Tryz.ntmps5
  go_wp2_with fail
  (with_reducible refine (drawTreeOk_any a cap l _ hl hcap (unhide HA)).mono ?_)
  rintro e w1 ⟨⟨gt, ct, gn, cn, ns, us, rfl, hgt, hgn, hF1, hN1, hD1⟩, hb1⟩
  obtain ⟨hnl, hns, hul, hus⟩ := (unhide hD1).sized
  have HNS := hide hns
  have HUS := hide hus
  have HW1 := hide (show Below w1.heap.size w1 ((w1.alloc (.cells #[.slice (some ⟨gt, 0, none⟩) ns.length ct] 25)).alloc (.cells #[.slice (some ⟨gn, 0, none⟩) us.length cn] 28)) from (below1 _ _).alloc (by simp) _)
  have HF1 := hide ((unhide hF1).below (unhide HW1) (unhide hF1).1)
  have HN1 := hide ((unhide hN1).below (unhide HW1) (unhide hN1).1)
  have bel1 := hide (hb1.trans ((unhide HW1).mono hb1.size))
  clear hb1 hns hus hF1 hN1 HW1
  go_wp2_with fail
  (with_reducible refine (specTreeOk_any gt 0 ct gn 0 cn ns us _ hnl (by omega) (unhide HF1).ops (unhide HNS) (unhide HF1).lt1 (unhide HN1).ops (unhide HUS) (unhide HN1).lt1).mono ?_)
  rintro e w2 ⟨⟨c0, rfl, hok⟩, hb2⟩
  have HOK := hide hok
  have HN2 := hide ((unhide HN1).below hb2 (unhide HN1).1)
  have u2 : w2.cell? ⟨w1.heap.size + 1, 0, none⟩ = some (.slice (some ⟨gn, 0, none⟩) us.length cn) := (hb2.cell (p := ⟨w1.heap.size + 1, 0, none⟩) (by simp)).trans (by simp [go_sem])
  have bel2 := hide ((unhide bel1).trans (hb2.mono (unhide bel1).size))
  clear hb2 hok HF1 HN1 bel1
  go_wp2_with fail
  (with_reducible refine (drawTreeOk_any a cap l _ hl hcap ((unhide HA).step ((unhide bel2)))).mono ?_)
  rintro e w3 ⟨⟨gt', ct', gn', cn', ns', us', rfl, hgt', hgn', hF3, hN3, hD3⟩, hb3⟩
  obtain ⟨rfl, rfl⟩ := (unhide hD3).one (unhide hD1)
  have HW3 := hide (show Below w3.heap.size w3 ((w3.alloc (.cells #[.slice (some ⟨gt', 0, none⟩) ns'.length ct'] 25)).alloc (.cells #[.slice (some ⟨gn', 0, none⟩) us'.length cn'] 28)) from (below1 _ _).alloc (by simp) _)
  have HF3 := hide ((unhide hF3).below (unhide HW3) (unhide hF3).1)
  have HT3 := hide ((unhide hN3).below (unhide HW3) (unhide hN3).1)
  have HN3 := hide (((unhide HN2).below hb3 (unhide HN2).1).below (unhide HW3) (by have := (unhide HN2).1; have := hb3.size; omega))
  have l2 : w1.heap.size + 1 < w2.heap.size := block_lt_of_cell u2
  have u3 := ((unhide HW3).cell (p := ⟨w1.heap.size + 1, 0, none⟩) (by show w1.heap.size + 1 < w3.heap.size; have := hb3.size; omega)).trans ((hb3.cell (p := ⟨w1.heap.size + 1, 0, none⟩) l2).trans u2)
  have bel3 := hide (((unhide bel2).trans (hb3.mono (unhide bel2).size)).trans ((unhide HW3).mono (by have := hb3.size; have := (unhide bel2).size; omega)))
  clear hb3 hF3 hN3 hD3 hD1 HW3 u2 HN2 bel2 l2
  go_wp2_with fail
  (with_reducible refine (implTreeOk_any gt' 0 ct' gn' 0 cn' ns' us' _ hnl (by omega) (unhide HF3).ops (unhide HNS) (unhide HF3).lt1 (unhide HT3).ops (unhide HUS) (unhide HT3).lt1).mono ?_)
  rintro e w4 ⟨⟨c1, rfl, hok'⟩, hb4⟩
  obtain rfl := hok'.one (unhide HOK)
  have hne : (c1 != c1) = false := by simp
  have HF4 := hide ((unhide HF3).below hb4 (unhide HF3).1)
  have HN4 := hide ((unhide HN3).below hb4 (unhide HN3).1)
  have u4 := (hb4.cell (p := ⟨w1.heap.size + 1, 0, none⟩) (block_lt_of_cell u3)).trans u3
  have t4 : w4.cell? ⟨w3.heap.size, 0, none⟩ = some (.slice (some ⟨gt', 0, none⟩) ns'.length ct') := (hb4.cell (p := ⟨w3.heap.size, 0, none⟩) (by simp; omega)).trans (by simp [go_sem])
  have bel4 := hide ((unhide bel3).trans (hb4.mono (unhide bel3).size))
  clear hb4 hok' HF3 HT3 HN3 u3 bel3
  by_cases h12 : c1 = 1 ∨ c1 = 2
  · rcases h12 with rfl | rfl
    · go_wp2_with fail
      go_ret
      exact ⟨rfl, unhide bel4⟩
    · go_wp2_with fail
      go_ret
      exact ⟨rfl, unhide bel4⟩
  have k1 : ¬ c1 = 1 := fun e => h12 (Or.inl e)
  have k2 : ¬ c1 = 2 := fun e => h12 (Or.inr e)
  have k1' : (c1 == 1) = false := beq_eq_false_iff_ne.2 k1
  have k2' : (c1 == 2) = false := beq_eq_false_iff_ne.2 k2
  obtain ⟨T, hU⟩ := uq_of (unhide HOK) k1 k2
  have HC := hide (unhide HOK).cases
  have HU := hide hU
  obtain ⟨s, HS⟩ : ∃ s, Hid (s = yTx (ySy T)) := ⟨_, hide rfl⟩
  have HY := hide (yieldText_any gn 0 cn ns' us' T w4 hU.w (by rw [hU.x]; exact lies_self T) hU.z hU.l hU.tx (unhide HN4).ops (unhide HN4).1)
  rw [← unhide HS] at HY
  clear hU HOK h12
  go_wp2_with fail
  (with_reducible refine (unhide HY).mono ?_)
  rintro e w5 ⟨rfl, hb5⟩
  have HF5 := hide ((unhide HF4).below hb5 (unhide HF4).1)
  have HN5 := hide ((unhide HN4).below hb5 (unhide HN4).1)
  have u5 := (hb5.cell (p := ⟨w1.heap.size + 1, 0, none⟩) (block_lt_of_cell u4)).trans u4
  have t5 := (hb5.cell (p := ⟨w3.heap.size, 0, none⟩) (block_lt_of_cell t4)).trans t4
  have bel5 := hide ((unhide bel4).trans (hb5.mono (unhide bel4).size))
  clear hb5 HY HF4 HN4 u4 t4 bel4
  by_cases hs : s.size ≤ 20000
  case neg =>
    have hsI : (20000 : Int) < (s.size : Int) := by omega
    go_wp2_with fail
    go_ret
    exact ⟨rfl, unhide bel5⟩
  have hsI : ¬ (20000 : Int) < (s.size : Int) := by omega
  obtain ⟨hh, HH⟩ : ∃ hh, Hid (hh = hT T) := ⟨_, hide rfl⟩
  have HZ := hide (height_any gn cn us' T w5 (unhide HU).w.sh (unhide HU).x (by omega) (unhide HN5).ops (unhide HN5).1)
  rw [← unhide HH] at HZ
  go_wp2_with fail
  (with_reducible refine (unhide HZ).mono ?_)
  rintro e w6 ⟨rfl, hb6⟩
  have HF6 := hide ((unhide HF5).below hb6 (unhide HF5).1)
  have HN6 := hide ((unhide HN5).below hb6 (unhide HN5).1)
  have u6 := (hb6.cell (p := ⟨w1.heap.size + 1, 0, none⟩) (block_lt_of_cell u5)).trans u5
  have t6 := (hb6.cell (p := ⟨w3.heap.size, 0, none⟩) (block_lt_of_cell t5)).trans t5
  have bel6 := hide ((unhide bel5).trans (hb6.mono (unhide bel5).size))
  clear hb6 HZ HF5 HN5 u5 t5 bel5
  by_cases hh1 : hh ≤ 1000
  case neg =>
    have hhI : (1000 : Int) < (hh : Int) := by omega
    go_wp2_with fail
    go_ret
    exact ⟨rfl, unhide bel6⟩
  have hhI : ¬ (1000 : Int) < (hh : Int) := by omega
  go_wp2_with fail
  (with_reducible refine (implParse_any gt' 0 ct' ns' s _ hnl (unhide HF6).ops (unhide HNS) (unhide HF6).lt1 (by omega)).mono ?_)
  rintro e w7 ⟨⟨a7, c7, vs, c, p, rfl, hO7, hP7⟩, hb7⟩
  have HN7 := hide ((unhide HN6).below hb7 (unhide HN6).1)
  have HB7 := hide (below1 w7 (.cells #[.slice a7 vs.length c7] 28))
  have HO7 := hide (OwnedN.arg ((unhide hO7).step (unhide HB7)))
  have HM7 := hide (FilledN.arg ((unhide HN7).below (unhide HB7) (unhide HN7).1))
  have u7 := (hb7.cell (p := ⟨w1.heap.size + 1, 0, none⟩) (block_lt_of_cell u6)).trans u6
  have l7 : w1.heap.size + 1 < w7.heap.size := block_lt_of_cell u7
  have n7 : ¬ w1.heap.size + 1 = w7.heap.size := by omega
  have bel7 := hide (((unhide bel6).trans (hb7.mono (unhide bel6).size)).trans ((unhide HB7).mono (by have := (unhide bel6).size; have := hb7.size; omega)))
  have HPP := hide ((unhide HU).par vs c p (by rw [← unhide HS]; exact hs) (by rw [← unhide HH]; exact hh1) (by rw [← unhide HS]; exact unhide hP7))
  have hP7c := hP7
  clear hb7 hO7 HF6 HN6 u6 t6 bel6 HU
  rcases unhide HC with h | h | h | h
  · exact absurd h k1
  · exact absurd h k2
  · subst h
    by_cases hc : c = 0
    · subst hc
      have hvl := (parse_tree (unhide hP7c)).2.1
      have hdiff := (unhide HPP).2 rfl rfl
      clear k1 k2 k1' k2' hne
      go_wp2_with fail
      (with_reducible refine (lwSameTree_any a7 (some ⟨gn, 0, none⟩) c7 cn vs us' _ (by omega) (by omega) (unhide HO7) (unhide HM7)).mono ?_)
      rintro e w8 ⟨⟨v, rfl, hv⟩, hb8⟩
      have hvf : v = false := by
        cases v with
        | false => rfl
        | true => exact absurd (hv.1 rfl) hdiff
      subst hvf
      have bel8 := hide ((unhide bel7).trans (hb8.mono (unhide bel7).size))
      clear hb8
      go_wp2_with fail
      go_ret
      exact ⟨rfl, unhide bel8⟩
    · have hcb : (c != 0) = true := by simp [hc]
      have hcc : (c == 0) = false := beq_eq_false_iff_ne.2 hc
      clear k1 k2 k1' k2' hne
      go_wp2_with fail
      go_ret
      exact ⟨rfl, unhide bel7⟩
  · subst h
    obtain ⟨rfl, rfl⟩ := (unhide HPP).1 rfl
    clear k1 k2 k1' k2' hne
    go_wp2_with fail
    (with_reducible refine (lwSameTree_any a7 (some ⟨gn, 0, none⟩) c7 cn vs vs _ (by omega) (by omega) (unhide HO7) (unhide HM7)).mono ?_)
    rintro e w8 ⟨⟨v, rfl, hv⟩, hb8⟩
    have hvt : v = true := hv.2 rfl
    subst hvt
    have bel8 := hide ((unhide bel7).trans (hb8.mono (unhide bel7).size))
    clear hb8
    go_wp2_with fail
    go_ret
    exact ⟨rfl, unhide bel8⟩
end Go.Proofs.YtfboipappaonhaaGreat

/-
  Rows of bytes that come in.
-/
namespace Go.Proofs.YtfboipappaonhaaGreat
set_option maxRecDepth 100000
open Go.ChangeShapes Go.WideShapes Go.ChangeAt Go.RowKit Go.Joins
set_option linter.unusedVariables false

theorem ByP.own : ownKnob Tryz.prog.godebug = none := by kernel_rfl
theorem ByP.laidOut : laidOutB Tryz.prog = true := by kernel_rfl

theorem ByP.cellsB : Tryz.prog.cellsOf 5 = 1 := by kernel_rfl

theorem addr_spotY {W : World} {x : Addr} {v : Value} (h : W.cell? (x.add 0) = some v) : x = ⟨x.block, x.off, none⟩ := by
  obtain ⟨b, off, spot⟩ := x
  have hs : spot = none := by
    have := World.cell?_spot h
    simpa [Addr.add] using this
  subst hs
  rfl

theorem getD_map_take (zs : List Int) (len i : Nat) (hi : i < len) (hz : len ≤ zs.length) : ((zs.take len).map fun n => UInt8.ofNat n.toNat).getD i 0 = UInt8.ofNat (zs.getD i 0).toNat := by
  have h1 : i < zs.length := by omega
  simp [List.getD, hi, h1]

theorem open_bytesY {H : Type} {enc : TypeId × Value → H} {W : World} {held : Bool} {fuel : Nat} {cs : List Value} {x : DataW H × List MemPlace} (h : DataW.trod enc Tryz.prog W 0 (fun _ => true) held fuel 22 cs = some x) :
    ∃ (a : Option Addr) (cap : Nat) (l : List UInt8), cs = [.slice a l.length cap] ∧ l.length ≤ maxLen ∧ l.length ≤ cap ∧ ArgY W a l := by
  rcases open_ints Tryz.underlying22 Tryz.underlying5 ByP.cellsB h with ⟨rfl, _⟩ | ⟨a, len, cap, zs, rfl, _, hl, hm, hz, _, hcell, hwz⟩
  · exact ⟨none, 0, [], rfl, Nat.zero_le _, Nat.zero_le _, Or.inl rfl⟩
  simp only [if_true] at hz
  have hll : ((zs.take len).map fun n => UInt8.ofNat n.toNat).length = len := by simp; omega
  refine ⟨some a, cap, (zs.take len).map fun n => UInt8.ofNat n.toNat, by rw [hll], by rw [hll]; omega, by rw [hll]; exact hl, ?_⟩
  by_cases h0 : len = 0
  · exact Or.inl (by rw [hll]; exact h0)
  · have c0 := hcell 0 (by omega)
    have hs := addr_spotY c0
    refine Or.inr ⟨a.block, a.off, by rw [← hs], ?_, fun i hi => ?_⟩
    · have := block_lt_of_cell c0
      simpa [Addr.add] using this
    · rw [hll] at hi
      have hc := hcell i (by omega)
      rw [hs, Addr.add_mid] at hc
      have hb := range_u8 hwz i
      have e : zs.getD i 0 = zs[i]?.getD 0 := rfl
      rw [hc, getD_map_take zs len i hi (by omega), e]
      obtain ⟨z, hz⟩ : ∃ z : Int, z = zs[i]?.getD 0 := ⟨_, rfl⟩
      rw [← hz] at hb ⊢
      congr 2
      have : (UInt8.ofNat z.toNat).toNat = z.toNat := by
        rw [UInt8.toNat_ofNat']
        omega
      rw [this]
      omega
end Go.Proofs.YtfboipappaonhaaGreat
