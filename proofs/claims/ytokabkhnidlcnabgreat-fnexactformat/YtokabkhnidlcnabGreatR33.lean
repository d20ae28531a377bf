import Derived.Test.YtokabkhnidlcnabGreatR00
import Derived.Test.YtokabkhnidlcnabGreatR22
import Derived.Test.YtokabkhnidlcnabGreatR23
import Derived.Test.YtokabkhnidlcnabGreatR27
import Derived.Test.YtokabkhnidlcnabGreatR30
import Derived.Test.YtokabkhnidlcnabGreatR31
import Derived.Test.YtokabkhnidlcnabGreatR32

/-
  Walk: the program's Parse.
-/
namespace Go.Proofs.YtokabkhnidlcnabGreat
set_option maxRecDepth 100000
set_option linter.unusedSimpArgs false
set_option linter.unusedVariables false
open Go.RowKit Go.Maps

/-- What Parse hands back. -/
def ParPost (xs : List OpR) (s : ByteArray) (w : World) (e : Ending) (w' : World) : Prop :=
  (∃ (a : Option Addr) (cc : Nat) (us : List NodeR) (c p : Int), e = .returned (.tuple #[.agg #[.slice a us.length cc], .int .i64 c, .int .i64 p]) ∧ Hid (OwnedN w' w.heap.size a us) ∧ Hid (ParseIs xs s us c p)) ∧ Below w.heap.size w w'

theorem ParPost.empty {xs : List OpR} {s : ByteArray} {w w' : World} {c p : Int} (h : ParseIs xs s [] c p) (hb : Below w.heap.size w w') : ParPost xs s w (.returned (.tuple #[.agg #[.slice none 0 0], .int .i64 c, .int .i64 p])) w' :=
  ⟨⟨none, 0, [], c, p, rfl, hide (show OwnedN w' w.heap.size none [] from Or.inl ⟨rfl, rfl⟩), hide h⟩, hb⟩

/-- Parse's own variables, untouched. -/
def ParF (N M bo bs : Nat) (W : World) : Prop :=
  (W.cell? ⟨N + 1, 0, none⟩ = some (.slice none 0 0) ∧ W.frozen? ⟨N + 1, 0, none⟩ = false) ∧ (W.cell? ⟨N + 1 + 1, 0, none⟩ = some (.int .i64 0) ∧ W.frozen? ⟨N + 1 + 1, 0, none⟩ = false) ∧ (W.cell? ⟨N + 1 + 1 + 1, 0, none⟩ = some (.int .i64 0) ∧ W.frozen? ⟨N + 1 + 1 + 1, 0, none⟩ = false) ∧
  W.cell? ⟨M, 0, none⟩ = some (.map (some bo)) ∧ W.cell? ⟨M, 1, none⟩ = some (.map (some bs))

theorem ParF.keptO {N M bo bs p : Nat} {W W' : World} (h : ParF N M bo bs W) (hk : Kept1 W W' p) (h1 : N + 4 ≤ p) (h2 : M ≠ p) : ParF N M bo bs W' := by
  obtain ⟨⟨a1, b1⟩, ⟨a2, b2⟩, ⟨a3, b3⟩, i0, i1⟩ := h
  have l1 : N + 1 < W.heap.size := block_lt_of_cell a1
  have l2 : N + 1 + 1 < W.heap.size := block_lt_of_cell a2
  have l3 : N + 1 + 1 + 1 < W.heap.size := block_lt_of_cell a3
  have lm : M < W.heap.size := block_lt_of_cell i0
  exact ⟨⟨(hk.cell l1 (by omega) 0).trans a1, (hk.frozen l1 (by omega) 0).trans b1⟩, ⟨(hk.cell l2 (by omega) 0).trans a2, (hk.frozen l2 (by omega) 0).trans b2⟩, ⟨(hk.cell l3 (by omega) 0).trans a3, (hk.frozen l3 (by omega) 0).trans b3⟩, (hk.cell lm h2 0).trans i0, (hk.cell lm h2 1).trans i1⟩

theorem ParF.below {N M bo bs : Nat} {W W' : World} (h : ParF N M bo bs W) (hb : Below W.heap.size W W') : ParF N M bo bs W' := by
  have lm : M < W.heap.size := block_lt_of_cell h.2.2.2.1
  have l3 : N + 1 + 1 + 1 < W.heap.size := block_lt_of_cell h.2.2.1.1
  exact h.keptO (Kept1.of_below (g := W.heap.size) hb) (by omega) (by omega)

/-- A refusal goes through the deferred answer. -/
theorem par_raise {tmps : Array Value} {R : Ending → World → Prop} {N M bo bs : Nat} {code place : Int} {W : World} (hF : ParF N M bo bs W)
    (hres : ∀ W', W'.cell? ⟨N + 1, 0, none⟩ = some (.slice none 0 0) → W'.cell? ⟨N + 1 + 1, 0, none⟩ = some (.int .i64 code) → W'.cell? ⟨N + 1 + 1 + 1, 0, none⟩ = some (.int .i64 place) → (results Tryz.f9 tmps).run Tryz.prog W' = .ok (.tuple #[.agg #[.slice none 0 0], .int .i64 code, .int .i64 place]) W')
    (hR : ∀ W', Below N W W' → R (.returned (.tuple #[.agg #[.slice none 0 0], .int .i64 code, .int .i64 place])) W') :
    Leaves Tryz.prog Tryz.f9 tmps R [{ target := .fn (.func 29) #[.pointer (some ⟨N + 1 + 1, 0, none⟩), .pointer (some ⟨N + 1 + 1 + 1, 0, none⟩)], args := #[] }] (.panicking [{ v := .iface 120 (.agg #[.int .i64 code, .int .i64 place]), recovered := false }]) W := by
  obtain ⟨⟨a1, b1⟩, ⟨a2, b2⟩, ⟨a3, b3⟩, _, _⟩ := hF
  have l1 : N + 1 < W.heap.size := block_lt_of_cell a1
  have l2 : N + 1 + 1 < W.heap.size := block_lt_of_cell a2
  have l3 : N + 1 + 1 + 1 < W.heap.size := block_lt_of_cell a3
  refine leaves_cons (f := 29) (args := #[.pointer (some ⟨N + 1 + 1, 0, none⟩), .pointer (some ⟨N + 1 + 1 + 1, 0, none⟩)]) (by simp) (by simp [go_sem]) ?_
  refine (catch_panicking _ _ 0 0 code place _ a2 b2 a3 b3 (by omega)).mono ?_
  rintro e u' w'' ⟨rfl, rfl, wz, hbz, rfl⟩
  have y1 := (hbz.cell (p := ⟨N + 1, 0, none⟩) l1).trans a1
  have y2 := (hbz.cell (p := ⟨N + 1 + 1, 0, none⟩) l2).trans a2
  have y3 := (hbz.cell (p := ⟨N + 1 + 1 + 1, 0, none⟩) l3).trans a3
  refine ⟨_, hres _ ?_ ?_ ?_, hR _ ?_⟩
  · rw [World.cell?_setCell_other _ _ _ _ (fun e => by injection e with e; omega), World.cell?_setCell_other _ _ _ _ (fun e => by injection e with e; omega)]
    exact y1
  · rw [World.cell?_setCell_other _ _ _ _ (fun e => by injection e with e; omega)]
    exact World.cell?_setCell_same _ _ _ y2
  · have y4 := (World.cell?_setCell_other wz ⟨N + 1 + 1, 0, none⟩ ⟨N + 1 + 1 + 1, 0, none⟩ (.int .i64 code) (fun e => by injection e with e; omega)).trans y3
    exact World.cell?_setCell_same _ _ _ y4
  · exact ((hbz.mono (by omega)).setCell (by simp only; omega) _).setCell (by simp only; omega) _

/-- An answer. -/
theorem par_ret {tmps : Array Value} {R : Ending → World → Prop} {N : Nat} {v : Value} {W : World}
    (hres : (results Tryz.f9 tmps).run Tryz.prog W = .ok v W) (hR : R (.returned v) W) :
    Leaves Tryz.prog Tryz.f9 tmps R [{ target := .fn (.func 29) #[.pointer (some ⟨N + 1 + 1, 0, none⟩), .pointer (some ⟨N + 1 + 1 + 1, 0, none⟩)], args := #[] }] .returning W := by
  refine leaves_cons (f := 29) (args := #[.pointer (some ⟨N + 1 + 1, 0, none⟩), .pointer (some ⟨N + 1 + 1 + 1, 0, none⟩)]) (by simp) (by simp [go_sem]) ?_
  refine (catch_idle _ _ _).mono ?_
  rintro e u' w'' ⟨rfl, rfl, rfl⟩
  exact ⟨v, hres, hR⟩

set_option maxHeartbeats 4000000 in
theorem implParse_any (b off cap : Nat) (xs : List OpR) (s : ByteArray) (w : World) (hmx : xs.length ≤ 1048576) (hw : Ops w b off xs) (hsz : Sized xs) (hB : b < w.heap.size) (hs : s.size ≤ 1048576) :
    Calls Tryz.prog 9 #[.agg #[.slice (some ⟨b, off, none⟩) xs.length cap], .string s] w (ParPost xs s w) := by
  have hmf : ∀ (fn : Fn) (first cap : Array Value) (w : World), (Instr.makeFunc fn first cap).run Tryz.prog w = .ok (.func fn first cap) w := fun _ _ _ _ => rfl
  have HW := hide hw
  have HS := hide hsz
  clear hw hsz
  have bel0 : Below w.heap.size w ((((w.alloc (.cells #[.slice (some ⟨b, off, none⟩) xs.length cap] 33)).alloc (.cells #[.slice none 0 0] 28)).alloc (.cells #[.int .i64 0] 3)).alloc (.cells #[.int .i64 0] 3)) := (((below1 _ _).alloc (by simp) _).alloc (by simp; omega) _).alloc (by simp; omega) _
  have HX := indexTable_any b off cap xs _ hmx ((unhide HW).below bel0 hB) (unhide HS) (by have := bel0.size; omega)
  have HB0 := hide bel0
  clear bel0
  go_enter_defers Tryz.func9, Tryz.ntmps9
  go_wp2_with fail
  refine HX.mono ?_
  clear HX
  rintro e w1 ⟨⟨x, y, c, rfl, hc, hix⟩, hb1⟩
  have HC := hide hc
  have HIX := hide hix
  have z1 : w.heap.size + 4 ≤ w1.heap.size := by have := hb1.size; simp at this; omega
  have bel1 : Below w.heap.size w w1 := (unhide HB0).trans (hb1.mono (by simp; omega))
  have t1 : w1.cell? ⟨w.heap.size + 1, 0, none⟩ = some (.slice none 0 0) := (hb1.cell (p := ⟨w.heap.size + 1, 0, none⟩) (by simp)).trans (by simp [go_sem])
  have u1 : w1.frozen? ⟨w.heap.size + 1, 0, none⟩ = false := (hb1.frozen (p := ⟨w.heap.size + 1, 0, none⟩) (by simp)).trans (by simp [go_sem])
  have t2 : w1.cell? ⟨w.heap.size + 1 + 1, 0, none⟩ = some (.int .i64 0) := (hb1.cell (p := ⟨w.heap.size + 1 + 1, 0, none⟩) (by simp)).trans (by simp [go_sem])
  have u2 : w1.frozen? ⟨w.heap.size + 1 + 1, 0, none⟩ = false := (hb1.frozen (p := ⟨w.heap.size + 1 + 1, 0, none⟩) (by simp)).trans (by simp [go_sem])
  have t3 : w1.cell? ⟨w.heap.size + 1 + 1 + 1, 0, none⟩ = some (.int .i64 0) := (hb1.cell (p := ⟨w.heap.size + 1 + 1 + 1, 0, none⟩) (by simp)).trans (by simp [go_sem])
  have u3 : w1.frozen? ⟨w.heap.size + 1 + 1 + 1, 0, none⟩ = false := (hb1.frozen (p := ⟨w.heap.size + 1 + 1 + 1, 0, none⟩) (by simp)).trans (by simp [go_sem])
  have bel2 : Below w.heap.size w (w1.alloc (.cells #[.map x, .map y] 70)) := bel1.alloc bel1.size _
  have hb2 := below1 w1 (.cells #[.map x, .map y] 70)
  replace t1 := (hb2.cell (p := ⟨w.heap.size + 1, 0, none⟩) (by simp only; omega)).trans t1
  replace u1 := (hb2.frozen (p := ⟨w.heap.size + 1, 0, none⟩) (by simp only; omega)).trans u1
  replace t2 := (hb2.cell (p := ⟨w.heap.size + 1 + 1, 0, none⟩) (by simp only; omega)).trans t2
  replace u2 := (hb2.frozen (p := ⟨w.heap.size + 1 + 1, 0, none⟩) (by simp only; omega)).trans u2
  replace t3 := (hb2.cell (p := ⟨w.heap.size + 1 + 1 + 1, 0, none⟩) (by simp only; omega)).trans t3
  replace u3 := (hb2.frozen (p := ⟨w.heap.size + 1 + 1 + 1, 0, none⟩) (by simp only; omega)).trans u3
  clear hc hix hb1 HB0
  by_cases hc0 : c = 0
  case neg =>
    have hc0' : (c != 0) = true := by simpa using hc0
    have HN := hide (show ¬ IsCode xs 0 from fun h => hc0 (IsCode_one (unhide HC) h))
    clear hc0
    go_wp2_with fail
    refine par_ret (v := .tuple #[.agg #[.slice none 0 0], .int .i64 1, .int .i64 0]) ?_ ?_
    · simp [results, Tryz.results9, go_sem, t1, t2, t3]
    · exact ParPost.empty (Or.inl ⟨unhide HN, rfl, rfl, rfl⟩) (((bel2.setCell (by simp only; omega) _).setCell (by simp only; omega) _).setCell (by simp only; omega) _)
  subst hc0
  obtain ⟨bo, bs, rfl, rfl, hidx⟩ := (unhide HIX) rfl
  by_cases hlen : 20000 < s.size
  · have hlI : (20000 : Int) < (s.size : Int) := by omega
    have HN := hide hlen
    clear HIX hidx hlen
    go_wp2_with fail
    refine par_ret (v := .tuple #[.agg #[.slice none 0 0], .int .i64 2, .int .i64 0]) ?_ ?_
    · simp [results, Tryz.results9, go_sem, t1, t2, t3]
    · exact ParPost.empty (Or.inr ⟨unhide HC, Or.inl ⟨unhide HN, rfl, rfl, rfl⟩⟩) (((bel2.setCell (by simp only; omega) _).setCell (by simp only; omega) _).setCell (by simp only; omega) _)
  have h20 : s.size ≤ 20000 := by omega
  have hlI : (s.size : Int) ≤ 20000 := by omega
  have HF := hide (show ParF w.heap.size w1.heap.size bo bs (w1.alloc (.cells #[.map (some bo), .map (some bs)] 70)) from ⟨⟨t1, u1⟩, ⟨t2, u2⟩, ⟨t3, u3⟩, by simp [go_sem], by simp [go_sem]⟩)
  have HID := hide (hidx.kept hb2)
  have HX := cut_any bo bs xs s _ (unhide HID) (unhide HC) (unhide HS) h20
  clear HIX hidx hb2 t1 t2 t3 u1 u2 u3 hlen
  go_wp2_with fail
  refine HX.mono ?_
  clear HX
  rintro e w3 ⟨⟨g, cp, ts, rfl, ⟨hg, hcp, hcpm⟩, hfil, hlex⟩, hb3⟩
  have bel3 := bel2.trans (hb3.mono bel2.size)
  replace HF := hide ((unhide HF).below hb3)
  replace HID := hide ((unhide HID).kept hb3)
  have hgw : w.heap.size ≤ g := by simp at hg; omega
  have hg3 : g < w3.heap.size := (unhide hfil).1
  have HT := hide (show OpsT w3 g 0 ts from (unhide hfil).2.2)
  have HR := hide (lexed_all (unhide hlex))
  have HZ := hide (lexed_size ts 0 (unhide hlex))
  have hm3 : ts.length + totToT ts ts.length ≤ 1048576 := by have := unhide HR; omega
  have hms : w1.heap.size + 1 ≤ w3.heap.size := by have := hb3.size; simp at this; omega
  have HX := refuseBad_any g 0 cp ts w3 hm3 hcp hcpm (unhide HT) hg3 (fun i hi => by have := ((unhide HZ) i hi).1; omega)
  clear hb3 hfil HR hg bel2
  go_wp2_with fail
  refine HX.mono ?_
  clear HX
  rintro e w4 ⟨⟨i, hi, h6, hno, rfl⟩ | ⟨hno, rfl⟩, hb4⟩
  · refine par_raise (unhide (hide ((unhide HF).below hb4))) (fun W' a b c => by simp [results, Tryz.results9, go_sem, a, b, c]) (fun W' hb => ParPost.empty (Or.inr ⟨unhide HC, Or.inr ⟨h20, ts, unhide hlex, Or.inl ⟨i, hi, h6, hno, rfl, rfl, rfl⟩⟩⟩) ((bel3.trans (hb4.mono bel3.size)).trans hb))
  replace HF := hide ((unhide HF).below hb4)
  replace HID := hide ((unhide HID).kept hb4)
  have bel4 := bel3.trans (hb4.mono bel3.size)
  replace HT := hide ((unhide HT).below hb4 hg3)
  have hg4 : g < w4.heap.size := Nat.lt_of_lt_of_le hg3 hb4.size
  have hms4 := Nat.le_trans hms hb4.size
  have HNO := hide hno
  have HX := refuseMisfit_any bo bs g 0 cp xs ts w4 hm3 hcp hcpm (unhide HID) (unhide HC) (unhide HT) (fun i hi => by have := (unhide HZ) i hi; unfold maxLen; omega) hg4 (fun i hi => by have := ((unhide HZ) i hi).1; omega) (lexed_last ts 0 (unhide hlex))
  obtain ⟨⟨t1, u1⟩, ⟨t2, u2⟩, ⟨t3, u3⟩, i0, i1⟩ := unhide HF
  clear hb4 bel3 hno hg3 hms
  go_wp2_with fail
  refine HX.mono ?_
  clear HX t1 t2 t3 u1 u2 u3 i0 i1
  rintro e w5 ⟨⟨i, hi, hfi, hro, rfl⟩ | ⟨hfit, rfl⟩, hb5⟩
  · refine par_raise (unhide (hide ((unhide HF).below hb5))) (fun W' a b c => by simp [results, Tryz.results9, go_sem, a, b, c]) (fun W' hb => ParPost.empty (Or.inr ⟨unhide HC, Or.inr ⟨h20, ts, unhide hlex, Or.inr ⟨unhide HNO, Or.inl ⟨i, hi, hfi, hro, rfl, rfl, rfl⟩⟩⟩⟩) ((bel4.trans (hb5.mono bel4.size)).trans hb))
  replace HF := hide ((unhide HF).below hb5)
  replace HID := hide ((unhide HID).kept hb5)
  have bel5 := bel4.trans (hb5.mono bel4.size)
  replace HT := hide ((unhide HT).below hb5 hg4)
  have hg5 : g < w5.heap.size := Nat.lt_of_lt_of_le hg4 hb5.size
  have hms5 := Nat.le_trans hms4 hb5.size
  have HFIT := hide hfit
  have HX := newParser_any bo bs g 0 cp xs ts w5 (unhide HID) (unhide HC) (unhide HS) hmx (unhide HT) hg5
  obtain ⟨⟨t1, u1⟩, ⟨t2, u2⟩, ⟨t3, u3⟩, i0, i1⟩ := unhide HF
  clear hb5 bel4 hfit hg4 hms4
  go_wp2_with fail
  refine HX.mono ?_
  clear HX t1 t2 t3 u1 u2 u3 i0 i1
  rintro e w6 ⟨⟨p, bf, bb, rfl, hp, hpc, hpr⟩, hb6⟩
  replace HF := hide ((unhide HF).below hb6)
  have bel6 := bel5.trans (hb6.mono bel5.size)
  have HFS := hide (fits_of (unhide HC) (code_ok (unhide HC)) h20 (unhide hlex) (unhide HFIT))
  have HSG := hide (show FitE xs (false, 0) (sgs xs ts 0 ts.length) by have := (unhide HFS).all 0 (lexed_last ts 0 (unhide hlex)).1; rw [Nat.sub_zero] at this; exact this)
  obtain ⟨res, hres⟩ : ∃ res, res = RD xs 0 none (sgs xs ts 0 ts.length) := ⟨_, rfl⟩
  have HX := parseM_any (unhide HFS) w6 (unhide HSG) (unhide hpc) (unhide hpr) res hres
  have HRES := hide hres
  have hz6 := hb6.size
  have hl5 : w.heap.size + 4 ≤ w5.heap.size := by omega
  clear hb6 hres HSG HFS hpc hpr
  go_wp2_with fail
  refine HX.mono ?_
  clear HX
  rintro e w7 ⟨hk7, ⟨hn, rfl⟩ | ⟨T, r, hsome, hgd, ⟨hhi, rfl⟩ | ⟨hlo, g', c', rfl, hg', hfil⟩⟩⟩
  · have HF7 := hide ((unhide HF).keptO (unhide hk7) (by omega) (by omega))
    have bel7 := bel6.trans ((unhide hk7).below bel6.size (by omega))
    refine par_raise (unhide HF7) (fun W' a b c => by simp [results, Tryz.results9, go_sem, a, b, c]) (fun W' hb => ParPost.empty (Or.inr ⟨unhide HC, Or.inr ⟨h20, ts, unhide hlex, Or.inr ⟨unhide HNO, Or.inr ⟨unhide HFIT, Or.inl ⟨(unhide HRES).symm.trans hn, rfl, rfl, rfl⟩⟩⟩⟩⟩) (bel7.trans hb))
  · have HF7 := hide ((unhide HF).keptO (unhide hk7) (by omega) (by omega))
    have bel7 := bel6.trans ((unhide hk7).below bel6.size (by omega))
    refine par_raise (unhide HF7) (fun W' a b c => by simp [results, Tryz.results9, go_sem, a, b, c]) (fun W' hb => ParPost.empty (Or.inr ⟨unhide HC, Or.inr ⟨h20, ts, unhide hlex, Or.inr ⟨unhide HNO, Or.inr ⟨unhide HFIT, Or.inr ⟨T, r, (unhide HRES).symm.trans hsome, Or.inl ⟨hhi, rfl, rfl, rfl⟩⟩⟩⟩⟩⟩) (bel7.trans hb))
  have HF7 := hide ((unhide HF).keptO (unhide hk7) (by omega) (by omega))
  have bel7 := bel6.trans ((unhide hk7).below bel6.size (by omega))
  obtain ⟨us, hus⟩ : ∃ us, us = nd T 0 := ⟨_, rfl⟩
  rw [← hus] at hfil
  rw [← hus]
  have HOUT := hide (show ParseIs xs s us 0 0 from Or.inr ⟨unhide HC, Or.inr ⟨h20, ts, unhide hlex, Or.inr ⟨unhide HNO, Or.inr ⟨unhide HFIT, Or.inr ⟨T, r, (unhide HRES).symm.trans hsome, Or.inr ⟨hlo, hus, rfl, rfl⟩⟩⟩⟩⟩⟩)
  obtain ⟨⟨t1, u1⟩, ⟨t2, u2⟩, ⟨t3, u3⟩, i0, i1⟩ := unhide HF7
  clear hus hsome hlo HRES HF hk7 bel6 HNO HFIT HT HID i0 i1 hgd
  go_wp2_with fail
  refine par_ret (v := .tuple #[.agg #[.slice (some ⟨g', 0, none⟩) us.length c'], .int .i64 0, .int .i64 0]) ?_ ?_
  · simp [results, Tryz.results9, go_sem, t1, t2, t3]
  · refine ⟨⟨some ⟨g', 0, none⟩, c', us, 0, 0, rfl, hide (Or.inr ⟨g', rfl, by omega, ?_⟩), HOUT⟩, ((bel7.setCell (by simp only; omega) _).setCell (by simp only; omega) _).setCell (by simp only; omega) _⟩
    exact (((unhide hfil).setCell _ _ _ (by omega)).setCell _ _ _ (by omega)).setCell _ _ _ (by omega)
end Go.Proofs.YtokabkhnidlcnabGreat

/-
  Walk: the specification's Parse.
-/
namespace Go.Proofs.YtokabkhnidlcnabGreat
set_option maxRecDepth 100000
set_option linter.unusedSimpArgs false
set_option linter.unusedVariables false
open Go.RowKit

theorem hL_bd : ∀ (T : ET) (x : Int), x ∈ hL T → 0 ≤ x ∧ x ≤ (tsz T : Int)
  | .nil, x, h => by simp [hL] at h
  | .node b o t l r, x, h => by
    simp only [hL, List.mem_append, List.mem_singleton] at h
    simp only [tsz]
    rcases h with (h | h) | h
    · have := hL_bd l x h; omega
    · have := hL_bd r x h; omega
    · have := hT_le l
      have := hT_le r
      subst h
      omega
theorem hL_bdAt (T : ET) {i : Nat} (h : i < tsz T) : 0 ≤ atI (hL T) i ∧ atI (hL T) i ≤ (tsz T : Int) := by
  have hl := hL_len T
  refine hL_bd T _ ?_
  unfold atI
  rw [List.getD_eq_getElem?_getD, List.getElem?_eq_getElem (by omega)]
  exact List.getElem_mem _

/-- Parse's own variables. -/
def SpF (N b off n cap : Nat) (W : World) : Prop :=
  W.cell? ⟨N, 0, none⟩ = some (.slice (some ⟨b, off, none⟩) n cap) ∧ W.cell? ⟨N + 1, 0, none⟩ = some (.slice none 0 0) ∧ W.frozen? ⟨N + 1, 0, none⟩ = false
theorem SpF.grown {N b off n cap : Nat} {W W' : World} {row : Option Nat} (h : SpF N b off n cap W) (hg : W.grownBy W' row) (hr : ∀ k, row = some k → N + 2 ≤ k) : SpF N b off n cap W' := by
  obtain ⟨h0, h1, h2⟩ := h
  have l0 : N < W.heap.size := block_lt_of_cell h0
  have l1 : N + 1 < W.heap.size := block_lt_of_cell h1
  exact ⟨(grown_cell hg l0 (fun e => by have := hr _ e; omega) 0).trans h0, (grown_cell hg l1 (fun e => by have := hr _ e; omega) 0).trans h1, (World.frozen?_of_block (w := W) (hg.block (N + 1) l1 (fun e => by have := hr _ e.symm; omega))).trans h2⟩
theorem SpF.below {N b off n cap : Nat} {W W' : World} (h : SpF N b off n cap W) (hb : Below W.heap.size W W') : SpF N b off n cap W' := h.grown (grown_belN hb none) (fun k hk => by cases hk)

/-- What the tree of tokens that fit is, by both. -/
theorem read_bld {ns : List OpR} {ts : List TokR} (hv : IsCode ns 0) (hf : FitTo ns ts ts.length) (hl : 0 < ts.length ∧ (atT ts (ts.length - 1)).k = 7) {n : Nat} (hn : ts.length ≤ n) :
    (∀ T, bld ns n (sgs ns ts 0 (ts.length - 1)) = some T → RD ns 0 none (sgs ns ts 0 ts.length) = some (T, [eoS])) ∧ (bld ns n (sgs ns ts 0 (ts.length - 1)) = none → RD ns 0 none (sgs ns ts 0 ts.length) = none) := by
  obtain ⟨hseg, hend⟩ := fit_end hf hl.1 hl.2
  have hb := fun T => bld_rd hv hseg (n := n) (by rw [sgs_len]; omega) T
  rw [hend]
  refine ⟨fun T h => (hb T).1 h, fun h => ?_⟩
  cases hr : RD ns 0 none (sgs ns ts 0 (ts.length - 1) ++ [eoS]) with
  | none => rfl
  | some y =>
    obtain ⟨T, r⟩ := y
    have hre := rd_end hv hseg hr
    simp only at hre
    rw [hre] at hr
    have := (hb T).2 hr
    rw [h] at this
    cases this

theorem TF.of {ns : List OpR} {ts : List TokR} {s : ByteArray} (hv : IsCode ns 0) (hs : s.size ≤ 20000) (hx : Lexed ns s 0 ts) (hf : FitTo ns ts ts.length) (hno : ∀ j, j < ts.length → (atT ts j).k ≠ 6) : TF ns ts (rolesTo ns ts ts.length) where
  len := by have := (lexed_all hx).2.1; omega
  us := rfl
  all := fun i hi => by
    refine ⟨tkF_of (hf i hi), ?_⟩
    rcases toks_ok (signTexts_of (code_ok hv)) ts 0 hx i hi with h | h | h | h | h | h
    · have := h.1; exact ⟨by omega, by omega, hno i hi⟩
    · have := h.1; exact ⟨by omega, by omega, hno i hi⟩
    · have := h.1; exact ⟨by omega, by omega, hno i hi⟩
    · have := h.1; exact ⟨by omega, by omega, hno i hi⟩
    · exact absurd h (hno i hi)
    · have := h.1; exact ⟨by omega, by omega, hno i hi⟩

set_option maxHeartbeats 4000000 in
theorem specParse_any (b off cap : Nat) (xs : List OpR) (s : ByteArray) (w : World) (hmx : xs.length ≤ 1048576) (hw : Ops w b off xs) (hsz : Sized xs) (hB : b < w.heap.size) (hs : s.size ≤ 1048576) :
    Calls Tryz.prog 7 #[.agg #[.slice (some ⟨b, off, none⟩) xs.length cap], .string s] w (ParPost xs s w) := by
  have HW := hide hw
  have HS := hide hsz
  clear hw hsz
  have bel0 : Below w.heap.size w ((w.alloc (.cells #[.slice (some ⟨b, off, none⟩) xs.length cap] 33)).alloc (.cells #[.slice none 0 0] 28)) := (below1 _ _).alloc (by simp) _
  have HX := specTableOk_any b off cap xs _ hmx ((unhide HW).below bel0 hB) (unhide HS) (by have := bel0.size; omega)
  go_enter Tryz.func7, Tryz.ntmps7
  go_wp2_with fail
  refine HX.mono ?_
  clear HX
  rintro e w1 ⟨⟨c, rfl, hc⟩, hb1⟩
  have HC := hide hc
  have z1 : w.heap.size + 2 ≤ w1.heap.size := by have := hb1.size; simp at this; omega
  have bel1 : Below w.heap.size w w1 := bel0.trans (hb1.mono bel0.size)
  have HF := hide (show SpF w.heap.size b off xs.length cap w1 from SpF.below ⟨by simp [go_sem], by simp [go_sem], by simp [go_sem]⟩ hb1)
  obtain ⟨t0, t1, u1⟩ := unhide HF
  clear hc hb1 bel0
  by_cases hc0 : c = 0
  case neg =>
    have hc0' : (c != 0) = true := by simpa using hc0
    have HN := hide (show ¬ IsCode xs 0 from fun h => hc0 (IsCode_one (unhide HC) h))
    clear hc0
    go_wp2_with fail
    refine bodyPost_ret (v := .tuple #[.agg #[.slice none 0 0], .int .i64 1, .int .i64 0]) ?_ rfl (ParPost.empty (Or.inl ⟨unhide HN, rfl, rfl, rfl⟩) (bel1.setCell (by simp only; omega) _))
    simp [results, Tryz.results7, go_sem, t1]
  subst hc0
  have HX := specLexC_any b off cap xs s w1 hmx ((unhide HW).below bel1 hB) (unhide HS) (Nat.lt_of_lt_of_le hB bel1.size) (by unfold maxLen; omega)
  go_wp2_with fail
  refine HX.mono ?_
  clear HX t0 t1 u1
  rintro e w2 ⟨⟨g, ct, ts, v, rfl, ⟨hg, hct, hcm⟩, hfil, hlex⟩, hb2⟩
  have bel2 := bel1.trans (hb2.mono bel1.size)
  replace HF := hide ((unhide HF).below hb2)
  have hgw : w.heap.size ≤ g := by omega
  obtain ⟨t0, t1, u1⟩ := unhide HF
  rcases hlex with ⟨⟨_, h20⟩, rfl, hlex⟩ | ⟨hno, rfl, _⟩
  case inr =>
    have HN := hide (show 20000 < s.size by
      rcases Nat.lt_or_ge 20000 s.size with h | h
      · exact h
      · exact absurd ⟨unhide HC, h⟩ hno)
    clear hno hfil
    go_wp2_with fail
    refine bodyPost_ret (v := .tuple #[.agg #[.slice none 0 0], .int .i64 2, .int .i64 0]) ?_ rfl (ParPost.empty (Or.inr ⟨unhide HC, Or.inl ⟨unhide HN, rfl, rfl, rfl⟩⟩) (bel2.setCell (by simp only; omega) _))
    simp [results, Tryz.results7, go_sem, t1]
  have HLX := hide hlex
  have hg2 : g < w2.heap.size := hfil.1
  have HT := hide (show OpsT w2 g 0 ts from hfil.2.2)
  have HR := hide (lexed_all hlex)
  have HZ := hide (lexed_size ts 0 hlex)
  have hm3 : ts.length + totToT ts ts.length ≤ 1048576 := by have := unhide HR; omega
  have hln : ts.length ≤ 20001 := by have := unhide HR; omega
  have hla := lexed_last ts 0 hlex
  have h1l := hla.1
  have HLA := hide hla
  clear hfil hlex hb2 hla
  go_wp2_with fail
  go_loop [9] (fun iv => ∃ k : Nat, k ≤ ts.length ∧ iv = .int .i64 (k : Int) ∧ Hid (∀ j, j < k → (atT ts j).k ≠ 6)) (fun iv => ts.length - (intOf iv).toNat)
  case atStart => exact ⟨0, Nat.zero_le _, rfl, hide (fun j hj => absurd hj (Nat.not_lt_zero j))⟩
  case round =>
    obtain ⟨k, hk, rfl, hno⟩ := hrel
    by_cases hlt : k < ts.length
    · have hltI : (k : Int) < (ts.length : Int) := by omega
      obtain ⟨k0, k1, k2⟩ := (unhide HT) k hlt
      rw [Nat.zero_add] at k0 k1 k2
      by_cases h6 : (atT ts k).k = 6
      · have e6 : ((atT ts k).k == 6) = true := by rw [h6]; rfl
        have H6 := hide h6
        have HX := l3Offset_any g 0 ct k ts w2 hm3 hlt hct hcm (unhide HT) hg2 (by have := ((unhide HZ) k hlt).1; omega)
        clear h6
        go_wp2_with fail
        refine HX.mono ?_
        clear HX
        rintro e w3 ⟨rfl, hb3⟩
        have bel3 := bel2.trans (hb3.mono bel2.size)
        obtain ⟨s0, s1, s2⟩ := (unhide HF).below hb3
        go_wp2_with fail
        refine bodyPost_ret (v := .tuple #[.agg #[.slice none 0 0], .int .i64 3, .int .i64 (offT ts k : Int)]) ?_ rfl (ParPost.empty (Or.inr ⟨unhide HC, Or.inr ⟨h20, ts, unhide HLX, Or.inl ⟨k, hlt, unhide H6, unhide hno, rfl, rfl, rfl⟩⟩⟩) (bel3.setCell (by simp only; omega) _))
        simp [results, Tryz.results7, go_sem, s1]
      · have e6 : ((atT ts k).k == 6) = false := by simpa using h6
        have HNX := hide (show ∀ j, j < k + 1 → (atT ts j).k ≠ 6 from fun j hj => by
          by_cases e : j = k
          · subst e; exact h6
          · exact (unhide hno) j (by omega))
        clear h6
        go_wp2_with fail
        exact ⟨⟨k + 1, by omega, by go_num, HNX⟩, by simp [intOf]; omega⟩
    · have hltI : ¬ (k : Int) < (ts.length : Int) := by omega
      have e : k = ts.length := by omega
      subst e
      have HX := specRoles_any b off cap g 0 ct xs ts w2 hmx (by omega) ((unhide HW).below bel2 hB) (unhide HS) (Nat.lt_of_lt_of_le hB bel2.size) (unhide HT) hg2
      go_wp2_with fail
      refine HX.mono ?_
      clear HX t0 t1 u1
      rintro e w3 ⟨⟨gr, cr, us, at_, rfl, hgr, hfr, hroles⟩, hb3⟩
      have bel3 := bel2.trans (hb3.mono bel2.size)
      replace HF := hide ((unhide HF).below hb3)
      replace HT := hide ((unhide HT).below hb3 hg2)
      have hg3 : g < w3.heap.size := Nat.lt_of_lt_of_le hg2 hb3.size
      obtain ⟨t0, t1, u1⟩ := unhide HF
      rcases hroles with ⟨hnc, _⟩ | ⟨_, ⟨i, hi, hfi, hro, _, rfl⟩ | ⟨hfit, ⟨_, hus, rfl⟩ | ⟨hnl, _⟩⟩⟩
      · exact absurd (unhide HC) hnc
      · have eA : decide ((i : Int) ≥ 0) = true := by simp
        have HFI := hide hfi
        have HRO := hide hro
        have HX := l3Offset_any g 0 ct i ts w3 hm3 hi hct hcm (unhide HT) hg3 (by have := ((unhide HZ) i hi).1; omega)
        clear hfi hro hfr
        go_wp2_with fail
        refine HX.mono ?_
        clear HX
        rintro e w4 ⟨rfl, hb4⟩
        have bel4 := bel3.trans (hb4.mono bel3.size)
        obtain ⟨s0, s1, s2⟩ := (unhide HF).below hb4
        go_wp2_with fail
        refine bodyPost_ret (v := .tuple #[.agg #[.slice none 0 0], .int .i64 4, .int .i64 (offT ts i : Int)]) ?_ rfl (ParPost.empty (Or.inr ⟨unhide HC, Or.inr ⟨h20, ts, unhide HLX, Or.inr ⟨unhide hno, Or.inl ⟨i, hi, unhide HFI, unhide HRO, rfl, rfl, rfl⟩⟩⟩⟩) (bel4.setCell (by simp only; omega) _))
        simp [results, Tryz.results7, go_sem, s1]
      case inr.inr.inr => exact absurd (unhide HLA) hnl
      have HFT := hide hfit
      have HTF := hide (show TF xs ts us by rw [hus]; exact TF.of (unhide HC) h20 (unhide HLX) hfit (unhide hno))
      have hgr3 : gr < w3.heap.size := hfr.1
      have hBE : BE w3 w3.heap.size b off g 0 gr xs ts us := ⟨(unhide HW).below bel3 hB, Nat.lt_of_lt_of_le hB bel3.size, unhide HT, hg3, ⟨hfr.1, hfr.2.2⟩, hgr3, Nat.le_refl _⟩
      have HBE := hide (hBE.below (below1 w3 (.cells #[] 115)))
      have HROW := hide (show RowV (w3.alloc (.cells #[] 115)) w3.heap.size (.slice (some ⟨w3.heap.size, 0, none⟩) 0 0) [] by
        have h0 := World.ownsRow_lit (base := w3.heap.size) (e := 115) (size := 4) w3 #[] 0 (Nat.le_refl _) (Nat.zero_le _) rfl
        simpa [RowV, cellsN] using h0)
      have HSG := hide (fit_end hfit h1l (unhide HLA).2).1
      have HX := l3Build_any (cap := cap) (ct := ct) (cr := cr) (unhide HC) hmx (unhide HS) (unhide HTF) ts.length 0 (ts.length - 1) (.slice (some ⟨w3.heap.size, 0, none⟩) 0 0) [] _ (Nat.zero_le _) (by omega) (by omega) (by rw [Nat.sub_zero]; exact unhide HSG) (unhide HBE) (unhide HROW) (by simp; omega)
      rw [Nat.sub_zero, show ((0 : Nat) : Int) = 0 from rfl, show ((ts.length - 1 : Nat) : Int) = (ts.length : Int) - 1 by omega] at HX
      have HRB := hide (read_bld (unhide HC) hfit (unhide HLA) (n := ts.length) (Nat.le_refl _))
      have HGD := hide (show ∀ T, bld xs ts.length (sgs xs ts 0 (ts.length - 1)) = some T → GoodT xs T from fun T h => (bld_sound (unhide HC) _ _ _ (unhide HSG) h).1)
      obtain ⟨bl, hbl⟩ : ∃ bl, bl = bld xs ts.length (sgs xs ts 0 (ts.length - 1)) := ⟨_, rfl⟩
      rw [← hbl] at HX HRB HGD
      have z3 : w.heap.size + 2 ≤ w3.heap.size := by have := hb3.size; omega
      clear hfit hus hfr hBE HROW HSG HTF hbl hb3
      go_wp2_with fail
      refine HX.mono ?_
      clear HX t0 t1 u1
      rintro e w4 ⟨u4, vs, ok, rfl, HR4, HG4, HA4, hl4, HO4⟩
      have HG := hide (grown_below (below1 w3 (.cells #[] 115)) (unhide HG4))
      have HB4 := hide (show Below w.heap.size w w4 from bel3.grown (unhide HG) bel3.size (fun q hq => by simp [Value.ownBlock] at hq; omega))
      replace HF := hide ((unhide HF).grown (unhide HG) (fun q hq => by simp [Value.ownBlock] at hq; omega))
      have z4 := (unhide HG).size
      obtain ⟨t0, t1, u1⟩ := unhide HF
      rcases unhide HO4 with ⟨T, hbT, rfl, hvs⟩ | ⟨hbN, rfl⟩
      case inr =>
        have HRN := hide ((unhide HRB).2 hbN)
        clear hbN HO4 HRB HGD
        go_wp2_with fail
        refine bodyPost_ret (v := .tuple #[.agg #[.slice none 0 0], .int .i64 5, .int .i64 0]) ?_ rfl (ParPost.empty (Or.inr ⟨unhide HC, Or.inr ⟨h20, ts, unhide HLX, Or.inr ⟨unhide hno, Or.inr ⟨unhide HFT, Or.inl ⟨unhide HRN, rfl, rfl, rfl⟩⟩⟩⟩⟩) ((unhide HB4).setCell (by simp only; omega) _))
        simp [results, Tryz.results7, go_sem, t1]
      rw [List.nil_append, List.length_nil] at hvs
      have HGT := hide ((unhide HGD) T hbT)
      have HRS := hide ((unhide HRB).1 T hbT)
      have hv1 : 1 ≤ vs.length := by rw [hvs, nd_len]; exact Sh.pos (unhide HGT).sh
      obtain ⟨g4, c4, rfl, hg4, hfl⟩ := rowV_owned (unhide HR4) hv1
      rw [List.length_nil, Nat.zero_add] at hl4
      have htz : tsz T = vs.length := by rw [hvs, nd_len]
      have hb5 := below1 w4 (.cells #[.slice (some ⟨g4, 0, none⟩) vs.length c4] 28)
      have HFL := hide hfl
      have HX := l3Height_any g4 c4 vs (hL T) _ (hfl.below hb5 hfl.1).2.2 (by have := hb5.size; have := hfl.1; omega) (by omega) hv1 (by rw [hL_len, htz]) (fun i hi => by rw [hvs]; exact hL_at T (unhide HGT).sh 0 i (by omega)) (fun i hi => by have := hL_bdAt T (i := i) (by omega); omega)
      have hlast : atI (hL T) (vs.length - 1) = (hT T : Int) := by rw [← htz]; exact hL_last (unhide HGT).sh
      rw [hlast] at HX
      have HVS := hide hvs
      obtain ⟨hh, hhe⟩ : ∃ hh, hh = hT T := ⟨_, rfl⟩
      rw [← hhe] at HX
      have HHE := hide hhe
      clear hvs hbT HO4 HRB HGD htz hfl hlast hhe HR4 HG4 HA4 HG
      go_wp2_with fail
      refine HX.mono ?_
      clear HX
      rintro e w5 ⟨rfl, hb6⟩
      have HB5 := hide (((unhide HB4).trans (hb5.mono (unhide HB4).size)).trans (hb6.mono (by have := (unhide HB4).size; simp; omega)))
      have HF5 := hide (((unhide HF).below hb5).below hb6)
      have HFL5 := hide (((unhide HFL).below hb5 (unhide HFL).1).below hb6 (by have := hb5.size; have := (unhide HFL).1; omega))
      have tr5 : w5.cell? ⟨w4.heap.size, 0, none⟩ = some (.slice (some ⟨g4, 0, none⟩) vs.length c4) := (hb6.cell (p := ⟨w4.heap.size, 0, none⟩) (by simp)).trans (by simp [go_sem])
      obtain ⟨s0, s1, s2⟩ := unhide HF5
      clear t0 t1 u1 hb5 hb6 HF HFL
      by_cases hgt : 1000 < hh
      · have hgI : (1000 : Int) < (hh : Int) := by omega
        have HHT := hide (show 1000 < hT T by rw [← unhide HHE]; exact hgt)
        clear hgt
        go_wp2_with fail
        refine bodyPost_ret (v := .tuple #[.agg #[.slice none 0 0], .int .i64 6, .int .i64 0]) ?_ rfl (ParPost.empty (Or.inr ⟨unhide HC, Or.inr ⟨h20, ts, unhide HLX, Or.inr ⟨unhide hno, Or.inr ⟨unhide HFT, Or.inr ⟨T, _, unhide HRS, Or.inl ⟨unhide HHT, rfl, rfl, rfl⟩⟩⟩⟩⟩⟩) ((unhide HB5).setCell (by simp only; omega) _))
        simp [results, Tryz.results7, go_sem, s1]
      · have hgI : ¬ (1000 : Int) < (hh : Int) := by omega
        have HHT := hide (show hT T ≤ 1000 by rw [← unhide HHE]; omega)
        clear hgt
        go_wp2_with fail
        refine bodyPost_ret (v := .tuple #[.agg #[.slice (some ⟨g4, 0, none⟩) vs.length c4], .int .i64 0, .int .i64 0]) ?_ rfl ⟨⟨some ⟨g4, 0, none⟩, c4, vs, 0, 0, rfl, hide (Or.inr ⟨g4, rfl, by omega, ?_⟩), hide (Or.inr ⟨unhide HC, Or.inr ⟨h20, ts, unhide HLX, Or.inr ⟨unhide hno, Or.inr ⟨unhide HFT, Or.inr ⟨T, _, unhide HRS, Or.inr ⟨unhide HHT, unhide HVS, rfl, rfl⟩⟩⟩⟩⟩⟩)⟩, (unhide HB5).setCell (by simp only; omega) _⟩
        · simp [results, Tryz.results7, go_sem, s1]
        · exact (unhide HFL5).setCell _ _ _ (by omega)
end Go.Proofs.YtokabkhnidlcnabGreat

/-
  Walks: marks. What markText gives is a function of its number.
-/
namespace Go.Proofs.YtokabkhnidlcnabGreat
set_option maxRecDepth 100000
open Go.RowKit

/-- The digits of k ahead of what is there already; f: fuel. -/
def digs : Nat → Nat → List UInt8 → List UInt8
  | 0, _, out => out
  | f + 1, k, out => if k = 0 then out else digs f (k / 10) ((48 + UInt8.ofNat (k % 10)) :: out)

/-- The text of a mark. -/
def MT (k : Nat) : ByteArray := ⟨(109 :: digs 20 k []).toArray⟩

theorem digs_len : ∀ (f k : Nat) (out : List UInt8), (digs f k out).length ≤ out.length + f
  | 0, _, _ => Nat.le_refl _
  | f + 1, k, out => by
    unfold digs
    split
    · omega
    · have := digs_len f (k / 10) ((48 + UInt8.ofNat (k % 10)) :: out)
      simp only [List.length_cons] at this
      omega

theorem MT_size (k : Nat) : (MT k).size ≤ 21 := by
  have := digs_len 20 k []
  show (109 :: digs 20 k []).toArray.size ≤ 21
  simp at *
  omega

theorem MT_max (k : Nat) : (MT k).size ≤ maxLen := by
  have := MT_size k
  unfold maxLen
  omega

theorem conv1 (W : World) (c : Int) : (convert 87 9 (.slice (some ⟨W.heap.size, 0, none⟩) 1 1)).run Tryz.prog (W.alloc (.cells #[.int .u8 c] 5)) = .ok (.string ⟨#[UInt8.ofNat c.toNat]⟩) (W.alloc (.cells #[.int .u8 c] 5)) := by
  rw [run_convert_bytes_string _ 87 9 5 _ _ _ Tryz.underlying87 Tryz.underlying5 Tryz.underlying9]
  have hl : (loadCells ⟨W.heap.size, 0, none⟩ 1).run Tryz.prog (W.alloc (.cells #[.int .u8 c] 5)) = .ok ([c].map (Value.int .u8)).toArray (W.alloc (.cells #[.int .u8 c] 5)) :=
    run_loadCells_list (P := Tryz.prog) _ ⟨W.heap.size, 0, none⟩ [.int .u8 c] (fun j v hv => by
      match j, hv with
      | 0, hv => simp at hv; subst hv; simp [Addr.add, go_sem])
  rw [run_bytesToString _ ⟨W.heap.size, 0, none⟩ 1 1 [c] hl]
  rfl

theorem cat_bytes (l l' : List UInt8) : (ByteArray.mk l.toArray ++ ByteArray.mk l'.toArray) = ByteArray.mk (l ++ l').toArray := by
  apply ByteArray.ext
  simp

set_option maxRecDepth 100000 in
set_option maxHeartbeats 1000000 in
theorem markText_any (k : Nat) (w : World) (h0 : 1 ≤ k) (h1 : k ≤ 1000000000) :
    Calls Tryz.prog 77 #[.int .i64 (k : Int)] w fun e w' => e = .returned (.string (MT k)) ∧ Below w.heap.size w w' := by
  have hk0 : (0 : Int) < (k : Int) := by omega
  go_enter Tryz.func77, Tryz.ntmps77
  go_wp2
  go_loopw [0, 3] (fun kk out wr => ∃ (n f : Nat) (l : List UInt8), kk = .int .i64 (n : Int) ∧ out = .string ⟨l.toArray⟩ ∧ n ≤ 1000000000 ∧ l.length + f ≤ 20 ∧ Hid (n < 10 ^ f) ∧ Hid (digs f n l = digs 20 k []) ∧ Below w.heap.size w wr) (fun kk _ _ => (intOf kk).toNat)
  case atStart => exact ⟨k, 20, [], rfl, rfl, h1, by simp, hide (by omega), hide rfl, Below.refl _ _⟩
  case round =>
    obtain ⟨n, f, l, rfl, rfl, hn, hlf, hnf, hd, hbel⟩ := hrel
    by_cases hn0 : 0 < n
    · have hn0' : (0 : Int) < (n : Int) := by omega
      obtain ⟨f', rfl⟩ : ∃ f', f = f' + 1 := by
        cases f with
        | zero => exact absurd (unhide hnf) (by simp; omega)
        | succ f' => exact ⟨f', rfl⟩
      have hcv := fun W c => conv1 W c
      go_wp2
      refine ⟨⟨n / 10, f', (48 + UInt8.ofNat (n % 10)) :: l, by simp, ?_, by omega, by simp; omega, hide ?_, hide ?_, hbel.alloc hbel.size _⟩, by simp [intOf]; omega⟩
      · show Value.string (ByteArray.mk [48 + UInt8.ofNat (n % 10)].toArray ++ ByteArray.mk l.toArray) = _
        rw [cat_bytes]
        rfl
      · have := unhide hnf
        rw [Nat.pow_succ] at this
        omega
      · have := unhide hd
        unfold digs at this
        rw [if_neg (by omega)] at this
        exact this
    · have hn00 : n = 0 := by omega
      go_wp2
      go_ret
      refine ⟨?_, hbel⟩
      have e : l = digs 20 k [] := by
        rw [← unhide hd, hn00]
        cases f <;> simp [digs]
      show Ending.returned (.string (ByteArray.mk [109].toArray ++ ByteArray.mk l.toArray)) = _
      rw [cat_bytes, e]
      rfl

theorem markText_int (x : Int) (k : Nat) (w : World) (hx : x = (k : Int)) (h0 : 1 ≤ k) (h1 : k ≤ 1000000000) :
    Calls Tryz.prog 77 #[.int .i64 x] w fun e w' => e = .returned (.string (MT k)) ∧ Below w.heap.size w w' := by
  subst hx
  exact markText_any k w h0 h1
end Go.Proofs.YtokabkhnidlcnabGreat
