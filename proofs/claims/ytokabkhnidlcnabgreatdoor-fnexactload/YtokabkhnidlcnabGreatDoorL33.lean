import Derived.ProofKit
import Derived.Lib.SmallJoins
import Derived.Deep.Slices
import Derived.Deep.Strs
import Derived.Test.YtokabkhnidlcnabGreatDoorTie
import Derived.Test.YtokabkhnidlcnabGreatDoorCards
import Derived.OpenShut
import Derived.LaidMore
import Derived.Lay
import Derived.SevenTiedAt
import Derived.Stop.Joined
import Derived.ShutString
import Derived.ChangeOld
import Derived.Below
import Derived.Shelf.Vars
import Derived.Test.YtokabkhnidlcnabGreatDoorL17
import Derived.Test.YtokabkhnidlcnabGreatDoorL32

/-
  The law of Load.
-/
namespace Go.Proofs.YtokabkhnidlcnabGreatDoor
set_option maxRecDepth 100000
set_option linter.unusedSimpArgs false
set_option linter.unusedVariables false
open Go.RowKit

theorem mkK_sum (k : Nat) (out : List (List OpR)) (h : ∀ o ∈ out, o.length ≤ 500) : ∀ i, i ≤ out.length → mkK k out i ≤ k + 2000 * i
  | 0, _ => Nat.le_refl _
  | i + 1, hi => by
    have h1 := mkK_sum k out h i (by omega)
    have h2 : (atS2 out i).length ≤ 500 := h _ (by unfold atS2; simp [show i < out.length by omega])
    show mkK k out i + 4 * (atS2 out i).length ≤ _
    omega

theorem FilledM.arg {w : World} {g : Nat} {xs : List ModR} (h : FilledM w g xs xs.length) : ArgM w (some ⟨g, 0, none⟩) xs := Or.inr ⟨g, 0, rfl, h.2.2, h.1⟩

theorem KeptM.belowB {w w' : World} {g B : Nat} (h : KeptM w w' g) (hB : B ≤ g) (hz : B ≤ w.heap.size) : Below B w w' := ⟨h.os, h.tape, h.output, h.size, fun i hi => h.block i (by omega) (by omega)⟩

theorem TabsAt.belowB {w w' : World} {v : Value} {out : List (List OpR)} (h : TabsAt w v out) (hb : Below w.heap.size w w') : TabsAt w' v out := h.below hb

set_option maxHeartbeats 2000000 in
/-- The marks over what Load hands back. -/
theorem markTableS_r (v : Value) (B k : Nat) (out : List (List OpR)) (w : World) (hn : out.length ≤ 1048576) (hm : ∀ o ∈ out, o.length ≤ 1048576) (h1 : 1 ≤ k) (hk : mkK k out out.length ≤ 10000000) (hB : B ≤ w.heap.size) (h : TabsR w B v out) :
    Calls Tryz.prog 11 #[v, .int .i64 (k : Int)] w fun e w' => e = .returned (.int .i64 ((mkK k out out.length : Nat) : Int)) ∧ MarkT w' v k out ∧ Below B w w' := by
  obtain ⟨⟨a, c, rfl⟩, h0 | ⟨g, c', tf, hg, e, h⟩⟩ := h
  · obtain rfl := List.eq_nil_of_length_eq_zero h0
    clear h0 hn hm hk
    go_enter Tryz.func11, Tryz.ntmps11
    go_wp2
    refine wp_loop_rounds 1 ?_
    rw [rounds_succ]
    go_wp2
    go_ret
    exact ⟨rfl, ⟨_, _, rfl, Or.inl rfl⟩, Below.refl _ _⟩
  · injection e with e1 e2 e3
    subst e1
    exact markTableS_own g c B k tf out w hn hm h1 hk hB h

set_option maxHeartbeats 8000000 in
theorem lawLoad (a : Option Addr) (cap : Nat) (ms : List ModR) (w : World) (hl : ms.length ≤ maxLen) (hA : ArgM w a ms) (hs : SizedM ms) (hm : MaxL w) :
    Calls Tryz.prog 3 #[.slice a ms.length cap] w fun e w' => e = .returned (.bool true) ∧ Below w.heap.size w w' := by
  have HA := hide hA
  have HM := hide hm
  have HZ := hide hs
  have HS1 := hide (szMS_any a cap ms 1048576 w hl hA hs (by decide) (by decide))
  clear hA hm hs
  go_enter Tryz.func3, Tryz.ntmps3
  go_wp2_with fail
  (with_reducible refine (unhide HS1).mono ?_)
  rintro e w1 ⟨⟨r, rfl, hr⟩, hb1⟩
  have HB1 := hide hb1
  clear hb1 HS1
  by_cases hr0 : r < 0
  · go_wp2_with fail
    go_ret
    exact ⟨rfl, unhide HB1⟩
  have hnx : ms.length ≤ 1048576 := by unfold LeftM at hr; omega
  have HT2 := hide (toMS_any a cap ms w1 hnx ((unhide HA).below (unhide HB1)))
  clear hr
  go_wp2_with fail
  (with_reducible refine (unhide HT2).mono ?_)
  rintro e w2 ⟨⟨g2, rfl, hg2, hf2⟩, hb2⟩
  have HB2 := hide ((unhide HB1).trans (hb2.mono (unhide HB1).size))
  have HSP := hide (specLoad_any _ ms.length ms w2 hnx hf2.arg (unhide HZ))
  clear hb2 hg2 hf2 HT2
  go_wp2_with fail
  (with_reducible refine (unhide HSP).mono ?_)
  rintro e w3 ⟨v3, out, c, who, rfl, HL, HT3, hm3, hb3⟩
  have HB3 := hide ((unhide HB2).trans (hb3.mono (unhide HB2).size))
  have HT4 := hide (toMS_any a cap ms w3 hnx ((unhide HA).below (unhide HB3)))
  have HM3 := hide (fun o ho => (hm3 o ho).1)
  clear hb3 hm3 HSP
  go_wp2_with fail
  (with_reducible refine (unhide HT4).mono ?_)
  rintro e w4 ⟨⟨gx, rfl, hgx, hf4⟩, hb4⟩
  have HB4 := hide ((unhide HB3).trans (hb4.mono (unhide HB3).size))
  have HC4 := hide (show Below w3.heap.size w3 w4 from hb4)
  have HF4 := hide hf4
  have hgl := hf4.1
  have HIM := hide (implLoad_any (some ⟨gx, 0, none⟩) ms.length ms w4 (fun hn => ⟨hn, hf4.arg, unhide HZ, (unhide HM).below (unhide HB4)⟩) (unhide HL))
  clear hb4 hf4 HT4
  go_wp2_with fail
  (with_reducible refine (unhide HIM).mono ?_)
  rintro e w5 ⟨v5, rfl, HT5, hb5⟩
  obtain ⟨ho1, ho2⟩ := (unhide HL).small
  have HO2 := hide ho2
  have z5 := hb5.size
  have HB5 := hide ((unhide HB4).trans (hb5.mono (unhide HB4).size))
  have HC5 := hide ((unhide HC4).trans (hb5.mono (unhide HC4).size))
  have HF5 := hide ((unhide HF4).below hb5 hgl)
  have HEQ := hide (eqTableS_at v5 v3 out w5 (by omega) (unhide HM3) (unhide HT5).at' ((unhide HT3).tabs.below (unhide HC5)))
  clear hb5 HIM ho2 HF4
  go_wp2_with fail
  (with_reducible refine (unhide HEQ).mono ?_)
  rintro e w6 ⟨rfl, hb6⟩
  have z6 := hb6.size
  have HB6 := hide ((unhide HB5).trans (hb6.mono (unhide HB5).size))
  have HC6 := hide ((unhide HC5).trans (hb6.mono (unhide HC5).size))
  have HF6 := hide ((unhide HF5).below hb6 (unhide HF5).1)
  have HT6 := hide ((unhide HT5).grown (grown_belN hb6 none) (fun q e => by cases e))
  have HT7 := hide (toMS_any a cap ms w6 hnx ((unhide HA).below (unhide HB6)))
  clear hb6 HEQ HF5 HT5
  go_wp2_with fail
  (with_reducible refine (unhide HT7).mono ?_)
  rintro e w7 ⟨⟨g7, rfl, hg7, hf7⟩, hb7⟩
  have z7 := hb7.size
  have HB7 := hide ((unhide HB6).trans (hb7.mono (unhide HB6).size))
  have HC7 := hide ((unhide HC6).trans (hb7.mono (unhide HC6).size))
  have HF7 := hide ((unhide HF6).below hb7 (unhide HF6).1)
  have HTT7 := hide ((unhide HT6).grown (grown_belN hb7 none) (fun q e => by cases e))
  have HEQ := hide (eqMS_arg _ _ ms.length ms.length ms w7 hnx (unhide HF7).arg hf7.arg)
  clear hb7 HT7 HF6 HT6 hf7 hg7
  go_wp2_with fail
  (with_reducible refine (unhide HEQ).mono ?_)
  rintro e w8 ⟨rfl, hb8⟩
  have z8 := hb8.size
  have HB8 := hide ((unhide HB7).trans (hb8.mono (unhide HB7).size))
  have HC8 := hide ((unhide HC7).trans (hb8.mono (unhide HC7).size))
  have HF8 := hide ((unhide HF7).below hb8 (unhide HF7).1)
  have HT8 := hide ((unhide HTT7).grown (grown_belN hb8 none) (fun q e => by cases e))
  have HMK := hide (show Calls Tryz.prog 10 #[.slice (some ⟨gx, 0, none⟩) ms.length ms.length, .int .i64 1] w8 _ from markMS_any gx ms.length 1 ms w8 hnx (by omega) (by omega) (unhide HF8))
  clear hb8 HEQ HF7 HTT7
  go_wp2_with fail
  (with_reducible refine (unhide HMK).mono ?_)
  rintro e w9 ⟨⟨k9, rfl, hk9⟩, _, hkp⟩
  have z9 := (unhide hkp).size
  have hk0 : ¬ (k9 : Int) < 0 := by omega
  have hbk := (unhide hkp).belowB (B := w3.heap.size) hgx (unhide HC8).size
  have HB9 := hide ((unhide HB8).trans (hbk.mono (unhide HB3).size))
  have HC9 := hide ((unhide HC8).trans hbk)
  have HT9 := hide ((unhide HT8).grown (unhide hkp).grown (fun q e => by injection e with e; omega))
  have HEQ := hide (eqTableS_at v5 v3 out w9 (by omega) (unhide HM3) (unhide HT9).at' ((unhide HT3).tabs.below (unhide HC9)))
  clear hk9 hkp hbk HT8 HF8 HMK
  go_wp2_with fail
  (with_reducible refine (unhide HEQ).mono ?_)
  rintro e w10 ⟨rfl, hb10⟩
  have z10 := hb10.size
  have HB10 := hide ((unhide HB9).trans (hb10.mono (unhide HB9).size))
  have HC10 := hide ((unhide HC9).trans (hb10.mono (unhide HC9).size))
  have HT10 := hide ((unhide HT9).grown (grown_belN hb10 none) (fun q e => by cases e))
  have hks := mkK_sum 1 out (unhide HO2) out.length (Nat.le_refl _)
  have hkm : mkK 1 out out.length ≤ 10000000 := by omega
  have HMK := hide (show Calls Tryz.prog 11 #[v5, .int .i64 1] w10 _ from markTableS_r v5 w4.heap.size 1 out w10 (by omega) (unhide HM3) (by omega) hkm (by omega) (unhide HT10))
  have hk1 : 1 ≤ mkK 1 out out.length := mkK_le 1 out 0 _ (by omega)
  have HK := hide (And.intro hkm hk1)
  obtain ⟨M, hM⟩ : ∃ M, M = mkK 1 out out.length := ⟨_, rfl⟩
  have HM0 := hide hM
  rw [← hM] at HMK hks
  have hM1 : ¬ (M : Int) < 0 := by omega
  clear hb10 HT9 HEQ hkm hk1 hM
  go_wp2_with fail
  (with_reducible refine (unhide HMK).mono ?_)
  rintro e w11 ⟨rfl, hmt, hb11⟩
  have z11 := hb11.size
  have HB11 := hide ((unhide HB10).trans (hb11.mono (unhide HB4).size))
  have HC11 := hide ((unhide HC10).trans (hb11.mono (unhide HC4).size))
  have HT11 := hide hmt
  have HHD := hide (show Calls Tryz.prog 12 #[v5, .int .i64 1] w11 _ from heldTableS_any v5 1 out w11 (by omega) (unhide HM3) (by omega) (unhide HK).1 hmt)
  rw [← unhide HM0] at HHD
  clear hb11 HT10 HMK hmt
  go_wp2_with fail
  (with_reducible refine (unhide HHD).mono ?_)
  rintro e w12 ⟨rfl, hb12⟩
  have HB12 := hide ((unhide HB11).trans (hb12.mono (unhide HB11).size))
  have HC12 := hide ((unhide HC11).trans (hb12.mono (unhide HC11).size))
  have HT12 := hide ((unhide HT11).below hb12)
  have HTO := hide (toMS_any a cap ms w12 hnx ((unhide HA).below (unhide HB12)))
  clear hb12 HHD HT11
  go_wp2_with fail
  (with_reducible refine (unhide HTO).mono ?_)
  rintro e w13 ⟨⟨g13, rfl, hg13, hf13⟩, hb13⟩
  have HB13 := hide ((unhide HB12).trans (hb13.mono (unhide HB12).size))
  have HC13 := hide ((unhide HC12).trans (hb13.mono (unhide HC12).size))
  have HT13 := hide ((unhide HT12).below hb13)
  have HIM := hide (implLoad_any (some ⟨g13, 0, none⟩) ms.length ms w13 (fun hn => ⟨hn, hf13.arg, unhide HZ, (unhide HM).below (unhide HB13)⟩) (unhide HL))
  clear hb13 hf13 hg13 HTO HT12
  go_wp2_with fail
  (with_reducible refine (unhide HIM).mono ?_)
  rintro e w14 ⟨v14, rfl, HT14, hb14⟩
  have HB14 := hide ((unhide HB13).trans (hb14.mono (unhide HB13).size))
  have HC14 := hide ((unhide HC13).trans (hb14.mono (unhide HC13).size))
  have HQ14 := hide ((unhide HT13).below hb14)
  have HEQ := hide (eqTableS_at v14 v3 out w14 (by omega) (unhide HM3) (unhide HT14).at' ((unhide HT3).tabs.below (unhide HC14)))
  clear hb14 HIM HT13
  go_wp2_with fail
  (with_reducible refine (unhide HEQ).mono ?_)
  rintro e w15 ⟨rfl, hb15⟩
  have HB15 := hide ((unhide HB14).trans (hb15.mono (unhide HB14).size))
  have HHD := hide (show Calls Tryz.prog 12 #[v5, .int .i64 1] w15 _ from heldTableS_any v5 1 out w15 (by omega) (unhide HM3) (by omega) (unhide HK).1 ((unhide HQ14).below hb15))
  rw [← unhide HM0] at HHD
  clear hb15 HEQ HQ14
  go_wp2_with fail
  (with_reducible refine (unhide HHD).mono ?_)
  rintro e w16 ⟨rfl, hb16⟩
  have HB16 := hide ((unhide HB15).trans (hb16.mono (unhide HB15).size))
  clear hb16 HHD
  go_wp2
  go_ret
  exact ⟨rfl, unhide HB16⟩
end Go.Proofs.YtokabkhnidlcnabGreatDoor

/-
  A list of Module that comes in, opened. Written by wip/shape.py.
-/
namespace Go.Proofs.YtokabkhnidlcnabGreatDoor
set_option maxRecDepth 100000
open Go.ChangeShapes Go.WideShapes Go.ChangeAt Go.RowKit Go.Joins
open Go.Deep (trod_struct3)

theorem OpnM.cells9 : Tryz.prog.cellsOf 9 = 1 := by kernel_rfl
theorem OpnM.cells3 : Tryz.prog.cellsOf 3 = 1 := by kernel_rfl
theorem OpnM.cellsE : Tryz.prog.cellsOf 36 = 2 := by kernel_rfl

/-- The fields fit their types. -/
def FineM (o : ModR) : Prop := o.n.size ≤ maxLen ∧ o.t.size ≤ maxLen
def AllFineM (xs : List ModR) : Prop := ∀ i, i < xs.length → FineM (atM xs i)
theorem AllFineM.sized {xs : List ModR} (h : AllFineM xs) : SizedM xs := fun i hi => ⟨(h i hi).1, (h i hi).2⟩

section
variable {H : Type} {enc : TypeId × Value → H} {W : World} {base : Nat} {spare : Nat → Bool} {held : Bool}

set_option maxRecDepth 100000 in
theorem open_elM {n : Nat} {cs : List Value} {x : DataW H × List MemPlace} (h : DataW.trod enc Tryz.prog W base spare held n 36 cs = some x) :
    ∃ o : ModR, cs = [.string o.n, .string o.t] ∧ FineM o := by
  obtain ⟨y0, y1, m, _, hlen, g0, g1⟩ := trod_struct2 Tryz.underlying36 h
  rw [OpnM.cellsE] at hlen
  match cs, hlen with
  | [c0, c1], _ =>
    simp only [OpnM.cells9] at g0 g1
    obtain ⟨v0, e0, _, w0⟩ := DataW.trod_string Tryz.underlying9 g0
    obtain ⟨v1, e1, _, w1⟩ := DataW.trod_string Tryz.underlying9 g1
    simp at e0 e1
    subst e0 e1
    exact ⟨⟨v0, v1⟩, rfl, w0, w1⟩

theorem addr_spotM {x : Addr} {v : Value} (h : W.cell? (x.add 0) = some v) : x = ⟨x.block, x.off, none⟩ := by
  obtain ⟨b, off, spot⟩ := x
  have hs : spot = none := by
    have := World.cell?_spot h
    simpa [Addr.add] using this
  subst hs
  rfl

theorem open_listM {fuel : Nat} {cs : List Value} {x : DataW H × List MemPlace} (h : DataW.trod enc Tryz.prog W 0 (fun _ => true) held fuel 22 cs = some x) :
    ∃ (a : Option Addr) (cap : Nat) (xs : List ModR), cs = [.slice a xs.length cap] ∧ xs.length ≤ maxLen ∧ ArgM W a xs ∧ AllFineM xs := by
  rcases Go.Deep.open_slice Tryz.underlying22 h with ⟨rfl, _⟩ | ⟨a, len, cap, m, n, D, Pl, rfl, _, hl, hm, hmm, _, hx⟩
  · exact ⟨none, 0, [], rfl, Nat.zero_le _, Or.inl rfl, fun i hi => absurd hi (Nat.not_lt_zero i)⟩
  have hlm : len ≤ m := by rw [hmm]; simpa using hl
  rw [OpnM.cellsE] at hx
  have each : ∀ i, i < len → ∃ o : ModR, (W.cell? (a.add (i * 2)) = some (.string o.n) ∧ W.cell? (a.add (i * 2 + 1)) = some (.string o.t)) ∧ FineM o := by
    intro i hi
    obtain ⟨cs', h1, h2⟩ := hx i (by omega)
    obtain ⟨_, hlen, hcell⟩ := World.cells?_some h1
    obtain ⟨o, rfl, ho⟩ := open_elM h2
    have e0 := hcell 0 (by omega)
    have e1 := hcell 1 (by omega)
    rw [Go.Deep.add_add] at e0 e1
    exact ⟨o, ⟨by simpa using e0, by simpa using e1⟩, ho⟩
  obtain ⟨f, hf⟩ := @Go.Deep.choose_lt ModR ⟨ModR.zero⟩ len _ each
  have hlx : ((List.range len).map f).length = len := by simp
  have hat : ∀ i, i < len → atM ((List.range len).map f) i = f i := fun i hi => by simp [atM, hi]
  refine ⟨some a, cap, (List.range len).map f, by rw [hlx], by rw [hlx]; omega, ?_, fun i hi => by rw [hlx] at hi; rw [hat i hi]; exact (hf i hi).2⟩
  by_cases h0 : len = 0
  · exact Or.inl (by rw [hlx]; exact h0)
  · have hs := addr_spotM (show W.cell? (a.add 0) = _ from (hf 0 (by omega)).1.1)
    refine Or.inr ⟨a.block, a.off, by rw [← hs], fun i hi => ?_, ?_⟩
    · rw [hlx] at hi
      obtain ⟨⟨e0, e1⟩, _⟩ := hf i hi
      rw [hs, Addr.add_mid] at e0 e1
      unfold CellsM
      rw [hat i hi]
      exact ⟨e0, by simpa [Nat.add_assoc] using e1⟩
    · have := block_lt_of_cell (show W.cell? (a.add 0) = _ from (hf 0 (by omega)).1.1)
      simpa [Addr.add] using this
end
end Go.Proofs.YtokabkhnidlcnabGreatDoor

/-
  FnExactLoad: the statement, out of the walk 'lawLoad'; its card.
-/
namespace Go.Proofs.YtokabkhnidlcnabGreatDoor
set_option maxRecDepth 100000
open Go Go.ChangeShapes Go.WideShapes Go.ChangeAt Go.RowKit Go.Joins
set_option linter.unusedVariables false

theorem LdP.own : ownKnob Tryz.prog.godebug = none := by kernel_rfl
theorem LdP.laidOut : laidOutB Tryz.prog = true := by kernel_rfl

theorem maxL_of {W : World} (h : W.ShapedOpen Tryz.prog) : MaxL W :=
  cell_of_shapedOpen_int (g := 0) (t := 3) (zero := #[.int .i64 0]) h (of_decide_eq_true (by kernel_rfl)) (by kernel_rfl) rfl (by kernel_rfl) (by kernel_rfl) Tryz.underlying3

set_option maxRecDepth 100000 in
theorem LdP.lifted (os : Os) (started : os.Started) (H : Type) (enc : TypeId × Value → H) :
    ReturnsInHanded {} Tryz.checked os 3 .any (fun w args => (Rows.fnExactLoadSpec.pre enc Tryz.prog Tryz.f3 Rows.fnExactLoadRow.domain false w args ∧ laidMetH Tryz.prog Rows.fnExactLoadRow.laid w) ∧ sizedMet enc Tryz.prog Tryz.f3 (OpenSpec.ofChange Rows.fnExactLoadSpec) false w args)
      (Rows.fnExactLoadSpec.post enc Tryz.prog Tryz.f3 false true false false) := by
  refine returnsInHanded_of_calls (C := Tryz.checked) LdP.own started (by kernel_rfl)
    (ChangeSpec.witness_shaped (enc := enc) (C := Tryz.checked) (os := os) (X := fun w _ => laidMetH Tryz.prog Rows.fnExactLoadRow.laid w) false (World.laidAll Tryz.prog os Rows.fnExactLoadRow.laid) #[.slice none 0 0] 8 (World.laidAll_os _ _ _)
      (World.shaped_of_ZipB (by kernel_rfl) (by kernel_rfl)) (by kernel_rfl) (by kernel_rfl) (by kernel_rfl)
      (by rw [MakeChecks.laidMetH_plain _ _ _ (by kernel_rfl)]; exact laidMet_laidAll _ (by kernel_rfl) (by kernel_rfl))) ?_
  intro w tape i _ hsh _ hok hpre _
  obtain ⟨_, _, _, fn', hfn', _, _, _, _, hval0⟩ := hok
  obtain rfl : fn' = Tryz.f3 := Option.some.inj (hfn'.symm.trans Tryz.func3)
  obtain ⟨⟨⟨ds, gs, before, hw, _⟩, _⟩, _⟩ := hpre
  have hW := DataW.Whole.of_heap (w' := w.forCall tape i) (by rfl) hw
  suffices hc : Calls Tryz.prog 3 i.args (w.forCall tape i) fun e W' => ∃ v, e = .returned v ∧ Rows.fnExactLoadSpec.post enc Tryz.prog Tryz.f3 false true false false (w.forCall tape i) i.args v W' from
    hc.mono fun e W' ⟨v, he, hp⟩ => by
      subst he
      exact ChangeSpec.post_blind hp
  generalize w.forCall tape i = W at *
  generalize i.args = args at *
  have hval : ∀ (j : Nat) t v, Tryz.f3.params[j]? = some t → args[j]? = some v → Value.okWide Tryz.prog W .any w.heap.size t v := hval0
  have hW' := hW
  obtain ⟨p, q, hA0, hV, rfl, hfz, hnd⟩ := hW
  have hA : DataW.TrodAll enc Tryz.prog W 0 (fun _ => true) true Tryz.f3.params.toList args.toList ds p := hA0
  rw [Tryz.params3] at hA hval
  obtain ⟨v0, vs0, d0, ds0, p0, q0, hargs, rfl, rfl, h0, r0⟩ := trodAll_cons hA
  obtain ⟨rfl, rfl, rfl⟩ := trodAll_nil r0
  obtain rfl : args = #[v0] := by cases args; simp_all
  obtain ⟨rfl, rfl⟩ := trodVars_none hV
  have k0 := h0
  have lt0 : ∀ x ∈ p0, x.block < W.heap.size := by obtain ⟨m, hm⟩ := k0; exact DataW.trod_lt m _ _ _ hm
  obtain ⟨a, len, cap, rfl⟩ := okWide_slice Tryz.underlying22 (hval 0 22 v0 rfl rfl)
  obtain ⟨a', cap', ms, e, h1, h2, h3⟩ : ∃ (a' : Option Addr) (cap' : Nat) (ms : List ModR), [Value.slice a len cap] = [.slice a' ms.length cap'] ∧ ms.length ≤ maxLen ∧ ArgM W a' ms ∧ AllFineM ms := by
    obtain ⟨fuel, hf⟩ := h0
    exact open_listM hf
  simp at e
  obtain ⟨rfl, rfl, rfl⟩ := e
  clear hA0 hval0
  refine (lawLoad a cap ms W h1 h2 h3.sized (maxL_of hsh)).mono fun e W' ⟨he, bel⟩ => ?_
  subst he
  exact ⟨_, rfl, _, _, _, [], _, [], hW', trodAll_mk1 (shut_bool Tryz.underlying4 _), (trodAll_cons_mk (Below.trod LdP.laidOut (by kernel_rfl) (of_decide_eq_true (by kernel_rfl)) k0 bel lt0) trodAll_mk0), rfl, bel.frame _, fun h => by cases h⟩

theorem load_row : Rows.FnExactLoadSaid :=
  OpenClaim.holds_of_wide 3 Tryz.f3 rfl rfl rfl rfl rfl rfl rfl ⟨rfl, rfl, rfl, rfl, rfl⟩ rfl rfl rfl rfl rfl (by kernel_rfl) Tryz.func3 (by kernel_rfl)
    (of_decide_eq_true (by kernel_rfl)) (by unfold Func.isWrapper; first | (rw [if_pos (by decide +kernel)]; kernel_rfl) | (rw [if_neg (by decide +kernel)]; exact ⟨rfl, rfl⟩))
    (fun os started H enc _ => LdP.lifted os started H enc)

theorem load_holds : Rows.FnExactLoadCardSaid :=
  Claim7.holds_tied_plain_at .later [] [.data, .data, .data, .data, .sentinel, .sentinel, .pinned] true Rows.fnExactLoadCard.stood.harness true
    load_row (fun _ h => by cases h) (by kernel_rfl) (fun _ h => by cases h) fnExactLoad_row_tie rfl ⟨rfl, rfl⟩ (by kernel_rfl) rfl
    (fun f fn hf hfn => by
      obtain rfl : f = 3 := Option.some.inj ((show Tryz.prog.funcNamed "loop.example/s0059/laws.FnExactLoad" = some 3 by kernel_rfl).symm.trans hf) |>.symm
      obtain rfl : fn = Tryz.f3 := (Option.some.inj (Tryz.func3.symm.trans hfn)).symm
      exact ⟨by kernel_rfl, fun j t ht => by
        rw [Tryz.params3] at ht
        have hm : t ∈ [22] := by simpa using Array.mem_of_getElem? ht
        have hall : ([22].all fun u => !Tryz.prog.wantsStandIn u) = true := by kernel_rfl
        exact (show Tryz.prog.wantsStandIn t = false by simpa using List.all_eq_true.1 hall t hm)⟩)
    (by kernel_rfl)

#print axioms load_holds
end Go.Proofs.YtokabkhnidlcnabGreatDoor
