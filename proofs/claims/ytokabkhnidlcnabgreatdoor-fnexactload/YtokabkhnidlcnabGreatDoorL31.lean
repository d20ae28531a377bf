import Derived.Test.YtokabkhnidlcnabGreatDoorL17
import Derived.Test.YtokabkhnidlcnabGreatDoorL28
import Derived.Test.YtokabkhnidlcnabGreatDoorL30

/-
  The laws' helpers over rows of tables: are the marks held?
-/
namespace Go.Proofs.YtokabkhnidlcnabGreatDoor
set_option maxRecDepth 100000
set_option linter.unusedSimpArgs false
set_option linter.unusedVariables false
open Go.RowKit

/-- The number that stands ahead of the table at a place. -/
def mkK (k : Nat) (out : List (List OpR)) : Nat → Nat
  | 0 => k
  | i + 1 => mkK k out i + 4 * (atS2 out i).length

theorem mkK_le (k : Nat) (out : List (List OpR)) : ∀ i j, i ≤ j → mkK k out i ≤ mkK k out j
  | i, 0, h => by obtain rfl : i = 0 := by omega
                  exact Nat.le_refl _
  | i, j + 1, h => by
    by_cases e : i = j + 1
    · rw [e]; exact Nat.le_refl _
    · have := mkK_le k out i j (by omega)
      show _ ≤ mkK k out j + _
      omega

/-- A row of tables whose operators are marked. -/
def MarkT (w : World) (v : Value) (k : Nat) (out : List (List OpR)) : Prop := ∃ a c, v = .slice a out.length c ∧ (out.length = 0 ∨ ∃ g, a = some ⟨g, 0, none⟩ ∧ g < w.heap.size ∧ ∀ i, i < out.length → ∃ t, w.cell? ⟨g, i, none⟩ = some t ∧ MarkO w t (mkK k out i) (atS2 out i).length)

theorem MarkT.below {w w' : World} {v : Value} {k : Nat} {out : List (List OpR)} (h : MarkT w v k out) (hb : Below w.heap.size w w') : MarkT w' v k out := by
  obtain ⟨a, c, rfl, h⟩ := h
  refine ⟨a, c, rfl, h.imp id ?_⟩
  rintro ⟨g, rfl, hg, hc⟩
  refine ⟨g, rfl, Nat.lt_of_lt_of_le hg hb.size, fun i hi => ?_⟩
  obtain ⟨t, t0, ht⟩ := hc i hi
  exact ⟨t, (hb.cell (p := ⟨g, i, none⟩) hg).trans t0, ht.below hb⟩

set_option maxHeartbeats 2000000 in
theorem heldTableS_any (v : Value) (k : Nat) (out : List (List OpR)) (w : World) (hn : out.length ≤ 1048576) (hm : ∀ o ∈ out, o.length ≤ 1048576) (h1 : 1 ≤ k) (hk : mkK k out out.length ≤ 10000000) (h : MarkT w v k out) :
    Calls Tryz.prog 12 #[v, .int .i64 (k : Int)] w fun e w' => e = .returned (.int .i64 ((mkK k out out.length : Nat) : Int)) ∧ Below w.heap.size w w' := by
  have HT := hide h
  have HM := hide hm
  obtain ⟨a, c, rfl, _⟩ := h
  clear hm
  go_enter Tryz.func12, Tryz.ntmps12
  go_wp2_with fail
  go_loopw [1, 5] (fun z x wr => ∃ i : Nat, i ≤ out.length ∧ x = .int .i64 (i : Int) ∧ z = .int .i64 ((mkK k out i : Nat) : Int) ∧ Below w.heap.size w wr) (fun _ x _ => out.length - (intOf x).toNat)
  case atStart => exact ⟨0, Nat.zero_le _, rfl, rfl, Below.refl _ _⟩
  case round =>
    obtain ⟨i, hi, rfl, rfl, hbel⟩ := hrel
    by_cases hlt : i < out.length
    · have hltI : (i : Int) < (out.length : Int) := by omega
      obtain ⟨a1, c1, e1, t1⟩ := (unhide HT).below hbel
      obtain ⟨rfl, rfl⟩ : a = a1 ∧ c = c1 := by injection e1 with x _ y; exact ⟨x, y⟩
      rcases t1 with t1 | ⟨g, rfl, hg, hc⟩
      · omega
      obtain ⟨x, x0, hx⟩ := hc i hlt
      have hle := mkK_le k out (i + 1) out.length (by omega)
      have hge := mkK_le k out 0 i (by omega)
      have hge' : k ≤ mkK k out i := hge
      have hst : mkK k out (i + 1) = mkK k out i + 4 * (atS2 out i).length := rfl
      obtain ⟨z, hz⟩ : ∃ z, z = mkK k out i := ⟨_, rfl⟩
      have HX := hide (heldOps_any x (mkK k out i) (atS2 out i).length wr ((unhide HM) _ (by unfold atS2; simp [hlt])) (by omega) (by omega) hx)
      rw [← hst, ← hz] at HX
      obtain ⟨z', hz'⟩ : ∃ z', z' = mkK k out (i + 1) := ⟨_, rfl⟩
      rw [← hz'] at HX
      rw [← hz]
      have HZ := hide hz'
      have hzn : ¬ (z' : Int) < 0 := by omega
      obtain ⟨ax, cx, rfl, _⟩ := hx
      clear e1 hc hle hge hge' hst hz hz'
      go_wp2_with (first | (go_at_call 28; (with_reducible refine (unhide HX).mono ?_); rintro e w1 ⟨rfl, hb1⟩; have HB1 := hide (show Below w.heap.size w w1 from hbel.trans (hb1.mono hbel.size)); clear hb1))
      exact ⟨⟨i + 1, by omega, by go_num, by rw [unhide HZ], unhide HB1⟩, by simp [intOf]; omega⟩
    · obtain rfl : i = out.length := by omega
      go_wp2
      go_ret
      exact ⟨rfl, hbel⟩
end Go.Proofs.YtokabkhnidlcnabGreatDoor

/-
  The laws' helpers over rows of tables: the marks.
-/
namespace Go.Proofs.YtokabkhnidlcnabGreatDoor
set_option maxRecDepth 100000
set_option linter.unusedSimpArgs false
set_option linter.unusedVariables false
open Go.RowKit

theorem MarkO.same {w w' : World} {v : Value} {k n : Nat} (h : MarkO w v k n) (hz : w.heap.size ≤ w'.heap.size) (hs : ∀ g, v.ownBlock = some g → w'.heap[g]? = w.heap[g]?) : MarkO w' v k n := by
  obtain ⟨a, c, rfl, h⟩ := h
  refine ⟨a, c, rfl, h.imp id ?_⟩
  rintro ⟨g, rfl, h1, h2, h3⟩
  have hb := hs g rfl
  have e : ∀ o, w'.cell? ⟨g, o, none⟩ = w.cell? ⟨g, o, none⟩ := fun o => World.cell?_of_block (w := w) hb
  have f : ∀ o, w'.frozen? ⟨g, o, none⟩ = w.frozen? ⟨g, o, none⟩ := fun o => World.frozen?_of_block (w := w) hb
  refine ⟨g, rfl, Nat.lt_of_lt_of_le h1 hz, fun j hj => ?_, fun i hi => ?_⟩
  · have := h2 j hj
    exact ⟨by rw [e]; exact this.1, by rw [f]; exact this.2⟩
  · obtain ⟨q0, q1, q2, q3⟩ := h3 i hi
    exact ⟨(e _).trans q0, (e _).trans q1, (e _).trans q2, (e _).trans q3⟩

/-- A row of tables whose rows are one's own and apart. -/
structure TabsO (w : World) (B g : Nat) (tf : Nat → Value) (out : List (List OpR)) : Prop where
  hg : g < w.heap.size
  ce : ∀ i, i < out.length → w.cell? ⟨g, i, none⟩ = some (tf i)
  ro : ∀ i, i < out.length → RowO w B (tf i) (atS2 out i)
  ng : ∀ i, i < out.length → (tf i).ownBlock ≠ some g
  ap : ∀ i j, i < out.length → j < out.length → i ≠ j → ∀ q, (tf i).ownBlock = some q → (tf j).ownBlock ≠ some q

/-- The first i of them are marked. -/
structure TabsM (w wr : World) (B g k : Nat) (tf : Nat → Value) (out : List (List OpR)) (i : Nat) : Prop where
  hz : w.heap.size ≤ wr.heap.size
  ce : ∀ j, j < out.length → wr.cell? ⟨g, j, none⟩ = some (tf j)
  ma : ∀ j, j < i → MarkO wr (tf j) (mkK k out j) (atS2 out j).length
  ro : ∀ j, j < out.length → i ≤ j → RowO wr B (tf j) (atS2 out j)
  be : Below B w wr

theorem TabsM.step {w wr w' : World} {B g k i : Nat} {tf : Nat → Value} {out : List (List OpR)} (h0 : TabsO w B g tf out) (h : TabsM w wr B g k tf out i) (hi : i < out.length) (hB : B ≤ w.heap.size) (hm : MarkO w' (tf i) (mkK k out i) (atS2 out i).length) (hg : wr.grownBy w' (tf i).ownBlock) : TabsM w w' B g k tf out (i + 1) := by
  have hz := hg.size
  have hz0 := h.hz
  have hgl := h0.hg
  have lo : ∀ q, (tf i).ownBlock = some q → B ≤ q := fun q e => ((h.ro i hi (Nat.le_refl _)).lt q e).1
  refine ⟨by omega, fun j hj => (grown_cell hg (b := g) (by omega) (h0.ng i hi) j).trans (h.ce j hj), fun j hj => ?_, fun j hj hij => ?_, ?_⟩
  · by_cases e : j = i
    · rw [e]; exact hm
    · refine (h.ma j (by omega)).same hz (fun q eq => hg.block q ?_ (fun x => h0.ap j i (by omega) hi e q eq x.symm))
      have := ((h0.ro j (by omega)).lt q eq).2
      omega
  · exact (h.ro j hj (by omega)).grown hg (fun q eq x => h0.ap j i hj hi (by omega) q eq x)
  · exact h.be.grown hg (by omega) lo
set_option maxHeartbeats 2000000 in
theorem markTableS_own (g c B k : Nat) (tf : Nat → Value) (out : List (List OpR)) (w : World) (hn : out.length ≤ 1048576) (hm : ∀ o ∈ out, o.length ≤ 1048576) (h1 : 1 ≤ k) (hk : mkK k out out.length ≤ 10000000) (hB : B ≤ w.heap.size) (h : TabsO w B g tf out) :
    Calls Tryz.prog 11 #[.slice (some ⟨g, 0, none⟩) out.length c, .int .i64 (k : Int)] w fun e w' => e = .returned (.int .i64 ((mkK k out out.length : Nat) : Int)) ∧ MarkT w' (.slice (some ⟨g, 0, none⟩) out.length c) k out ∧ Below B w w' := by
  have H0 := hide h
  have HM := hide hm
  have HT := hide (show TabsM w w B g k tf out 0 from ⟨Nat.le_refl _, h.ce, fun j hj => by omega, fun j hj _ => h.ro j hj, Below.refl _ _⟩)
  clear hm h
  go_enter Tryz.func11, Tryz.ntmps11
  go_wp2_with fail
  go_loopw [1, 5] (fun z x wr => ∃ i : Nat, i ≤ out.length ∧ x = .int .i64 (i : Int) ∧ z = .int .i64 ((mkK k out i : Nat) : Int) ∧ Hid (TabsM w wr B g k tf out i)) (fun _ x _ => out.length - (intOf x).toNat)
  case atStart => exact ⟨0, Nat.zero_le _, rfl, rfl, HT⟩
  case round =>
    clear HT
    obtain ⟨i, hi, rfl, rfl, HT⟩ := hrel
    by_cases hlt : i < out.length
    · have hltI : (i : Int) < (out.length : Int) := by omega
      have x0 := (unhide HT).ce i hlt
      have hr := (unhide HT).ro i hlt (Nat.le_refl _)
      have hle := mkK_le k out (i + 1) out.length (by omega)
      have hge' : k ≤ mkK k out i := mkK_le k out 0 i (by omega)
      have hst : mkK k out (i + 1) = mkK k out i + 4 * (atS2 out i).length := rfl
      have HX := hide (markOps_own (tf i) B (mkK k out i) (atS2 out i) wr ((unhide HM) _ (by unfold atS2; simp [hlt])) (by omega) (by omega) hr)
      have HS := hide (fun w' hm hg => (unhide HT).step (w' := w') (unhide H0) hlt hB hm hg)
      obtain ⟨z, hz⟩ : ∃ z, z = mkK k out i := ⟨_, rfl⟩
      obtain ⟨z', hz'⟩ : ∃ z', z' = mkK k out (i + 1) := ⟨_, rfl⟩
      rw [← hst, ← hz, ← hz'] at HX
      rw [← hz] at HS
      rw [← hz]
      have HZ := hide hz'
      obtain ⟨ax, cx, hax⟩ : ∃ a c, tf i = .slice a (atS2 out i).length c := rowS_slice hr
      rw [hax] at x0 HX HS
      clear hle hge' hst hz hz' hr hax
      go_wp2_with (first | (go_at_call 27; (with_reducible refine (unhide HX).mono ?_); rintro e w1 ⟨rfl, hm1, hg1⟩; have HN := hide ((unhide HS) w1 hm1 hg1); clear hm1 hg1))
      exact ⟨⟨i + 1, by omega, by go_num, by rw [unhide HZ], HN⟩, by simp [intOf]; omega⟩
    · obtain rfl : i = out.length := by omega
      have HE := hide (show MarkT wr (.slice (some ⟨g, 0, none⟩) out.length c) k out ∧ Below B w wr from ⟨⟨_, c, rfl, Or.inr ⟨g, rfl, Nat.lt_of_lt_of_le (unhide H0).hg (unhide HT).hz, fun j hj => ⟨tf j, (unhide HT).ce j hj, (unhide HT).ma j hj⟩⟩⟩, (unhide HT).be⟩)
      go_wp2
      go_ret
      exact ⟨rfl, unhide HE⟩
end Go.Proofs.YtokabkhnidlcnabGreatDoor

/-
  Load of the program: what a round over the modules keeps.
-/
namespace Go.Proofs.YtokabkhnidlcnabGreatDoor
set_option maxRecDepth 100000
set_option linter.unusedSimpArgs false
set_option linter.unusedVariables false
open Go.RowKit Go.Maps

theorem infoTabL : (Tryz.prog.info? 54).map (fun i => (i.zero, i.size, i.bytes)) = some (some (.agg #[.slice none 0 0]), 1, 24) := by kernel_rfl

/-- A row of tables. -/
def RowT (w : World) (B : Nat) (v : Value) (tv : List Value) : Prop := w.ownsRow B 54 1 v tv.length tv

structure LoI (w1 wr : World) (C bs : Nat) (ms : List ModR) (T : Nat → List OpR) (vv : Value) (tv : List Value) (G' : ByteArray → Option Value) : Prop where
  gr : w1.grownBy wr (some bs)
  sc : ScM wr C bs ms T G'
  row : RowT wr w1.heap.size vv tv
  dj : ∀ j, j < ms.length → ∀ x, G' (atM ms j).n = some (.agg #[x]) → ∀ g, x.ownBlock = some g → vv.ownBlock ≠ some g
  tb : ∀ j, j < tv.length → ∃ x, tv[j]? = some x ∧ G' (atM ms j).n = some (.agg #[x])

theorem ScM.gr {w w' : World} {C bs : Nat} {ms : List ModR} {T : Nat → List OpR} {G : ByteArray → Option Value} {row : Option Nat} (h : ScM w C bs ms T G) (hg : w.grownBy w' row) (hb : row ≠ some bs) (hd : ∀ j, j < ms.length → ∀ x, G (atM ms j).n = some (.agg #[x]) → ∀ g, x.ownBlock = some g → row ≠ some g) : ScM w' C bs ms T G := by
  refine ⟨?_, fun j hj x hx => ?_, h.apt⟩
  · obtain ⟨m, M, hm, hM⟩ := h.mp
    exact ⟨m, M, hm.kept hg (fun e => hb e.symm), hM⟩
  · obtain ⟨v, rfl, hv, hb'⟩ := h.at' j hj x hx
    have hz := hg.size
    exact ⟨v, rfl, hv.grown hg (fun g e => hd j hj v hx g e), fun g e => ⟨(hb' g e).1, by have := (hb' g e).2; omega⟩⟩

theorem LoI.step {w1 wr W w6 Wn w4 : World} {C bs : Nat} {ms : List ModR} {T : Nat → List OpR} {vv v v4 : Value} {tv : List Value} {G' G'' : ByteArray → Option Value} (h : LoI w1 wr C bs ms T vv tv G') (hbs : bs < w1.heap.size) (hbC : bs < C) (hk : tv.length < ms.length) (hW : Below wr.heap.size wr W)
    (g1 : G'' (atM ms tv.length).n = some (.agg #[v])) (g2 : ScM w6 C bs ms T G'') (g3 : W.grownBy w6 (some bs)) (gp : ∀ j, j < ms.length → ∀ x, G' (atM ms j).n = some x → G'' (atM ms j).n = some x) (g5 : ∀ j, j < ms.length → ∀ x, G'' (atM ms j).n = some (.agg #[x]) → G' (atM ms j).n = some (.agg #[x]) ∨ ∀ g, x.ownBlock = some g → W.heap.size ≤ g)
    (hn : Below w6.heap.size w6 Wn) (hg : Wn.grownBy w4 vv.ownBlock) (hr : RowT w4 w1.heap.size v4 (tv ++ [v])) (hat : v4.ownBlock = vv.ownBlock ∨ ∃ q, v4.ownBlock = some q ∧ Wn.heap.size ≤ q) : LoI w1 w4 C bs ms T v4 (tv ++ [v]) G'' := by
  have z1 := h.gr.size
  have z2 := hW.size
  have z3 := g3.size
  have z4 := hn.size
  have z5 := hg.size
  have vl := h.row
  have hvl : ∀ g, vv.ownBlock = some g → w1.heap.size ≤ g ∧ g < wr.heap.size := fun g e => World.ownsRow.lt h.row g e
  have d6 : ∀ j, j < ms.length → ∀ x, G'' (atM ms j).n = some (.agg #[x]) → ∀ g, x.ownBlock = some g → vv.ownBlock ≠ some g := fun j hj x hx g e e2 => by
    rcases g5 j hj x hx with h1 | h1
    · exact h.dj j hj x h1 g e e2
    · have := h1 g e; have := (hvl g e2).2; omega
  have n4 : ∀ g, g < Wn.heap.size → vv.ownBlock ≠ some g → v4.ownBlock ≠ some g := fun g h1 h2 e => by
    rcases hat with h3 | ⟨q, h3, h4⟩
    · exact h2 (h3.symm.trans e)
    · rw [h3] at e; injection e with e; omega
  have hs4 := (g2.below hn).gr hg (fun e => by have := (hvl bs e).1; omega) d6
  refine ⟨⟨hg.os.trans (hn.os.trans (g3.os.trans (hW.os.trans h.gr.os))), hg.tape.trans (hn.tape.trans (g3.tape.trans (hW.tape.trans h.gr.tape))), hg.output.trans (hn.output.trans (g3.output.trans (hW.output.trans h.gr.output))), by omega, fun q hq hne => (hg.block q (by omega) (fun e => by have := (hvl q e.symm).1; omega)).trans ((hn.block q (by omega)).trans ((g3.block q (by omega) hne).trans ((hW.block q (by omega)).trans (h.gr.block q hq hne))))⟩, hs4, hr, ?_, ?_⟩
  · intro j hj x hx g e
    obtain ⟨x', e1, _, hb'⟩ := g2.at' j hj _ hx
    have e2 : x = x' := by simpa using e1
    subst e2
    exact n4 g (by have := (hb' g e).2; omega) (d6 j hj x hx g e)
  · intro j hj
    by_cases e : j < tv.length
    · obtain ⟨x, hx, ho⟩ := h.tb j e
      exact ⟨x, by rw [List.getElem?_append_left e]; exact hx, gp j (by omega) _ ho⟩
    · have e1 : j = tv.length := by simp at hj; omega
      subst e1
      exact ⟨v, by rw [List.getElem?_concat_length], g1⟩

theorem LoI.at' {w1 wr : World} {C bs : Nat} {ms : List ModR} {T : Nat → List OpR} {vv : Value} {tv : List Value} {G' : ByteArray → Option Value} (h : LoI w1 wr C bs ms T vv tv G') (hk : tv.length = ms.length) {j : Nat} (hj : j < ms.length) : ∃ x, tv[j]? = some x ∧ G' (atM ms j).n = some (.agg #[x]) ∧ RowO wr C x (T j) := by
  obtain ⟨x, h1, h2⟩ := h.tb j (by omega)
  obtain ⟨x', e, h3, _⟩ := h.sc.at' j hj _ h2
  have e2 : x = x' := by simpa using e
  subst e2
  exact ⟨x, h1, h2, h3⟩

/-- The tables that Load hands back: where there are any, owned and apart. -/
def TabsR (w : World) (B : Nat) (v : Value) (out : List (List OpR)) : Prop := (∃ a c, v = .slice a out.length c) ∧ (out.length = 0 ∨ ∃ g c tf, B ≤ g ∧ v = .slice (some ⟨g, 0, none⟩) out.length c ∧ TabsO w B g tf out)

theorem TabsR.at' {w : World} {B : Nat} {v : Value} {out : List (List OpR)} (h : TabsR w B v out) : TabsAt w v out := by
  obtain ⟨⟨a, c, rfl⟩, h0 | ⟨g, c', tf, _, e, h⟩⟩ := h
  · exact ⟨a, c, rfl, Or.inl h0⟩
  · injection e with e1 e2 e3
    subst e1
    exact ⟨_, c, rfl, Or.inr ⟨g, rfl, h.hg, fun i hi => ⟨tf i, h.ce i hi, (h.ro i hi).ops⟩⟩⟩

theorem TabsR.grown {w w' : World} {B : Nat} {v : Value} {out : List (List OpR)} {row : Option Nat} (h : TabsR w B v out) (hg : w.grownBy w' row) (hr : ∀ q, row = some q → q < B) : TabsR w' B v out := by
  obtain ⟨h1, h2⟩ := h
  refine ⟨h1, h2.imp id ?_⟩
  rintro ⟨g, c, tf, hB, e, h⟩
  have hz := hg.size
  have hgl := h.hg
  exact ⟨g, c, tf, hB, e, ⟨by omega, fun i hi => (grown_cell hg (b := g) hgl (fun x => by have := hr g x; omega) i).trans (h.ce i hi), fun i hi => (h.ro i hi).grown hg (fun q eq x => by have := hr q x; have := ((h.ro i hi).lt q eq).1; omega), h.ng, h.ap⟩⟩

theorem LoI.own {w1 wr : World} {C bs B : Nat} {ms : List ModR} {T : Nat → List OpR} {vv : Value} {tv : List Value} {G' : ByteArray → Option Value} (h : LoI w1 wr C bs ms T vv tv G') (hk : tv.length = ms.length) (hB : B ≤ C) (hC : C ≤ w1.heap.size) (h0 : ms.length ≠ 0) : ∃ g c tf, B ≤ g ∧ vv = .slice (some ⟨g, 0, none⟩) ((List.range ms.length).map T).length c ∧ TabsO wr B g tf ((List.range ms.length).map T) := by
  have hrow := h.row
  have hl : ((List.range ms.length).map T).length = ms.length := by simp
  obtain ⟨a, c, rfl⟩ : ∃ a c, vv = .slice a tv.length c := rowS_slice h.row
  obtain ⟨_, ⟨h1, h2⟩ | ⟨g, cap, cur, h1, h2, h3, h4⟩⟩ := id h.row
  · exfalso
    have h0' : tv.length = 0 := by first | exact h2 | (simp at h2; omega) | (simp at h2; simp [h2]) | exact h1
    omega
  · have ha : a = some ⟨g, 0, none⟩ := by injection h1
    subst ha
    have get : ∀ i, i < ms.length → ∃ x, tv.getD i (.slice none 0 0) = x ∧ tv[i]? = some x ∧ G' (atM ms i).n = some (.agg #[x]) ∧ RowO wr C x (T i) := fun i hi => by
      obtain ⟨x, e1, e2, e3⟩ := h.at' hk hi
      exact ⟨x, by simp [List.getD_eq_getElem?_getD, e1], e1, e2, e3⟩
    refine ⟨g, c, fun i => tv.getD i (.slice none 0 0), by have := (World.ownsRow.lt hrow g rfl).1; omega, by rw [hl, hk], ⟨(World.ownsRow.lt hrow g rfl).2, fun i hi => ?_, fun i hi => ?_, fun i hi => ?_, fun i j hi hj hij q e => ?_⟩⟩
    · rw [hl] at hi
      obtain ⟨x, e0, e1, _, _⟩ := get i hi
      have := World.ownsRow.cellAt hrow i (by omega)
      rw [e0]
      simpa [e1] using this
    · rw [hl] at hi
      obtain ⟨x, e0, e1, _, e3⟩ := get i hi
      rw [atS2_map hi, e0]
      exact e3.base hB
    · rw [hl] at hi
      obtain ⟨x, e0, e1, e2, e3⟩ := get i hi
      rw [e0]
      intro e
      exact h.dj i hi x e2 g e rfl
    · rw [hl] at hi hj
      obtain ⟨x, e0, e1, e2, e3⟩ := get i hi
      obtain ⟨y, f0, f1, f2, f3⟩ := get j hj
      rw [f0]
      rw [e0] at e
      exact h.sc.apt i j hi hj hij x y e2 f2 q e

theorem LoI.res {w1 wr : World} {C bs B : Nat} {ms : List ModR} {T : Nat → List OpR} {vv : Value} {tv : List Value} {G' : ByteArray → Option Value} (h : LoI w1 wr C bs ms T vv tv G') (hk : tv.length = ms.length) (hB : B ≤ C) (hC : C ≤ w1.heap.size) : TabsR wr B vv ((List.range ms.length).map T) := by
  obtain ⟨a, c, rfl⟩ : ∃ a c, vv = .slice a tv.length c := rowS_slice h.row
  refine ⟨⟨a, c, by simp [hk]⟩, ?_⟩
  by_cases h0 : ms.length = 0
  · exact Or.inl (by simp [h0])
  · exact Or.inr (h.own hk hB hC h0)
end Go.Proofs.YtokabkhnidlcnabGreatDoor
