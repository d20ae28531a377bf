import Derived.Laws.AppendOwnNone
import Derived.Deep.RegionHeld
import Derived.Test.YtokabkhnidlcnabGreatDoorL11
import Derived.Test.YtokabkhnidlcnabGreatDoorL14

/-
  Walk: the specification's Union, where a table may hold nothing at all.
-/
namespace Go.Proofs.YtokabkhnidlcnabGreatDoor
set_option maxRecDepth 100000
set_option linter.unusedSimpArgs false
set_option linter.unusedVariables false
open Go.RowKit

/-- 'append(all, t.Ops...)', where the row is the call's own. -/
theorem app_ops {w : World} {ops : Array Oper} {rest : List Oper} {o : Oper} {a : Act} {Q : Exit → Act → World → Prop} (hgd : o.guard = none) (s x : Operand) (ho : o.op = .call { callee := .builtin .append, args := #[s, x], argTypes := #[38, 38] })
    (base g c : Nat) (xs ys : List OpR) (v2 : Value) (hs : a.eval s = .slice (some ⟨g, 0, none⟩) xs.length c) (hown : w.ownsRow base 70 4 (.slice (some ⟨g, 0, none⟩) xs.length c) xs.length (cellsL xs)) (hx : a.eval x = v2) (h2 : OpsAt w v2 ys) (hm : xs.length + ys.length ≤ 1048576) (hbase : base ≤ w.heap.size)
    (h : ∀ g' c' w', w'.ownsRow base 70 4 (.slice (some ⟨g', 0, none⟩) (xs ++ ys).length c') (xs ++ ys).length (cellsL (xs ++ ys)) → w.grownBy w' (some g) → wpList Tryz.prog ops Q rest (a.put o.dst (.slice (some ⟨g', 0, none⟩) (xs ++ ys).length c')) w') : wpList Tryz.prog ops Q (o :: rest) a w := by
  obtain ⟨i0, hi, hz0, hz1, hz2⟩ := info_parts' infoOp'
  obtain ⟨a2, c2, rfl, ⟨h0, rfl, rfl⟩ | ⟨g2, rfl, hg2, hops⟩⟩ := h2
  · have hy : ys = [] := List.length_eq_zero_iff.1 h0
    subst hy
    refine wpList_append_own_none hgd s x 38 ho base 70 i0 4 Tryz.underlying38 hi _ xs.length (cellsL xs) hs hown hx ?_
    have := h g c w (by simpa using hown) (grown_belN (Below.refl _ _) _)
    simpa using this
  · refine wpList_append_own w hgd s x 38 ho base 70 i0 _ 4 40 Tryz.underlying38 hi hz0 hz1 hz2 rfl (by decide) _ xs.length (cellsL xs) hs hown ⟨g2, 0, none⟩ ys.length c2 (cellsL ys) hx (cellsL_len ys) (ops_news hops) (cellsL_one' ys) (by unfold maxLen; omega) (by omega) hbase ?_
    intro v' w' hown' hg' hnil
    obtain ⟨g', c', rfl⟩ := owns_value hown' (by simp [hnil])
    rw [← cellsL_append, ← List.length_append] at hown'
    have := h g' c' w' hown' (by simpa [Value.ownBlock] using hg')
    rw [← List.length_append]
    exact this

set_option maxRecDepth 100000 in
set_option maxHeartbeats 4000000 in
theorem specUnion_at (v v' : Value) (xs ys zs : List OpR) (HZS : Hid (zs = xs ++ ys)) (w : World) (hm : xs.length + ys.length ≤ 1048576) (hx : OpsAt w v xs) (hy : OpsAt w v' ys) :
    Calls Tryz.prog 34 #[.agg #[v], .agg #[v']] w fun e w' => (∃ h cap, e = .returned (.agg #[.slice (some ⟨h, 0, none⟩) (uniTo zs zs.length).length cap]) ∧ w.heap.size ≤ h ∧ Filled w' h (uniTo zs zs.length) (uniTo zs zs.length).length) ∧ Below w.heap.size w w' := by
  obtain ⟨i0, hi, hz0, hz1, hz2⟩ := info_parts' infoOp'
  have ho0 := empty_owned w
  have HX := hide (show ∀ o1 o2 o3 o4, OpsAt ((((w.alloc o1).alloc o2).alloc o3).alloc o4) v xs from fun o1 o2 o3 o4 => hx.grown (row := none) (grown_belN ((((below1 w o1).alloc (by simp) o2).alloc (by simp; omega) o3).alloc (by simp; omega) o4) none) (fun g _ e => by cases e))
  have HO := hide ho0
  have HY := hide hy
  have HI := hide hi
  have HZ := hide (And.intro hz0 (And.intro hz1 hz2))
  have hxv := hx
  have hyv := hy
  obtain ⟨a1, c1, rfl, _⟩ := hxv
  obtain ⟨a2, c2, rfl, _⟩ := hyv
  clear ho0 hx hy hi hz0 hz1 hz2
  go_enter Tryz.func34, Tryz.ntmps34
  go_wp2_with (at_builtin; refine app_ops rfl (.tmp 9) (.tmp 11) rfl (w.heap.size + 3) _ _ [] xs _ rfl (unhide HO _ _ _) rfl (unhide HX _ _ _ _) (by simp; omega) (by simp) ?next)
  case next =>
    intro ga ca w1 hown1 hgrow1
    try simp only [List.nil_append] at hown1
    try simp only [List.nil_append]
    have hb1 : Below (w.heap.size + 3) _ w1 := below_grown hgrow1 (by simp) (fun k hk => by simp at hk; omega)
    have hbw : Below w.heap.size w w1 := ((((below1 _ _).alloc (by simp) _).alloc (by simp; omega) _).alloc (by simp; omega) _).trans (hb1.mono (by omega))
    have d1 : w1.cell? ⟨w.heap.size + 1, 0, none⟩ = some (.slice a2 ys.length c2) := by rw [hb1.cell (p := ⟨w.heap.size + 1, 0, none⟩) (show w.heap.size + 1 < _ by omega)]; simp [go_sem]
    have d2 : w1.cell? ⟨w.heap.size + 1 + 1, 0, none⟩ = some (.slice none 0 0) := by rw [hb1.cell (p := ⟨w.heap.size + 1 + 1, 0, none⟩) (show w.heap.size + 1 + 1 < _ by omega)]; simp [go_sem]
    have d3 : w1.frozen? ⟨w.heap.size + 1 + 1, 0, none⟩ = false := by rw [hb1.frozen (p := ⟨w.heap.size + 1 + 1, 0, none⟩) (show w.heap.size + 1 + 1 < _ by omega)]; simp [go_sem]
    have z1 : w.heap.size + 3 ≤ w1.heap.size := by have := hb1.size; simp at this; omega
    have hga := (hown1.lt ga rfl).1
    have HOW := hide hown1
    have HY1 := hide ((unhide HY).grown (row := none) (grown_belN hbw none) (fun g _ e => by cases e))
    clear hown1 hgrow1 hb1 HY HX HO
    go_wp2_with (at_builtin; refine app_ops rfl (.tmp 13) (.tmp 15) rfl (w.heap.size + 3) ga ca xs ys _ rfl (unhide HOW) rfl (unhide HY1) hm z1 ?next)
    case next =>
      intro gb cb w2 hown2 hgrow2
      have hb2 : Below (w.heap.size + 3) w1 w2 := below_grown hgrow2 z1 (fun k hk => by injection hk with hk; omega)
      have hbw2 : Below w.heap.size w w2 := hbw.trans (hb2.mono (by omega))
      have e2 : w2.cell? ⟨w.heap.size + 1 + 1, 0, none⟩ = some (.slice none 0 0) := (hb2.cell (p := ⟨w.heap.size + 1 + 1, 0, none⟩) (show w.heap.size + 1 + 1 < _ by omega)).trans d2
      have e3 : w2.frozen? ⟨w.heap.size + 1 + 1, 0, none⟩ = false := (hb2.frozen (p := ⟨w.heap.size + 1 + 1, 0, none⟩) (show w.heap.size + 1 + 1 < _ by omega)).trans d3
      have z2 : w.heap.size + 3 ≤ w2.heap.size := Nat.le_trans z1 hb2.size
      have hzl : zs.length ≤ 1048576 := by rw [unhide HZS]; simp; omega
      have hlen : xs.length + ys.length = zs.length := by rw [unhide HZS]; simp
      rw [hlen]
      rw [← unhide HZS, hlen] at hown2
      clear hlen
      obtain ⟨hgb, hfil⟩ := owns_filled hown2
      obtain ⟨hcap, hcap2⟩ := owns_cap hown2
      have HF := hide hfil
      have hgbl := hfil.1
      have ho2 : (w2.alloc (.cells #[] 70)).ownsRow w2.heap.size 70 4 (.slice (some ⟨w2.heap.size, 0, none⟩) 0 0) 0 (cellsL []) := by
        rw [cellsL_nil]
        simpa using World.ownsRow_lit (base := w2.heap.size) (e := 70) (size := 4) w2 #[] 0 (Nat.le_refl _) (Nat.zero_le _) rfl
      have HO2 := hide ho2
      clear hown2 hgrow2 hb2 HOW HY1 d1 d2 d3 hga hm hfil ho2 hbw z1
      go_wp2_with fail
      go_loopw [6, 7] (fun out i wr => ∃ (k go co : Nat), k ≤ zs.length ∧ i = .int .i64 (k : Int) ∧ out = .slice (some ⟨go, 0, none⟩) (uniTo zs k).length co ∧ Hid (wr.ownsRow w2.heap.size 70 4 (.slice (some ⟨go, 0, none⟩) (uniTo zs k).length co) (uniTo zs k).length (cellsL (uniTo zs k))) ∧ Below w2.heap.size w2 wr) (fun _ i _ => zs.length - (intOf i).toNat)
      case atStart => exact ⟨0, w2.heap.size, 0, Nat.zero_le _, rfl, rfl, HO2, below1 _ _⟩
      case round =>
        clear HO2
        obtain ⟨k, go, co, hk, rfl, rfl, hown, hbel⟩ := hrel
        by_cases hlt : k < zs.length
        · have hops := (unhide HF).ops.below hbel (unhide HF).1
          obtain ⟨a0, a1, a2, a3⟩ := hops k hlt
          simp only [Nat.zero_add] at a0 a1 a2 a3
          have hltI : (k : Int) < (zs.length : Int) := by omega
          have hkcb : (k : Int) ≤ (cb : Int) := by omega
          have zgb : gb < wr.heap.size := Nat.lt_of_lt_of_le hgbl hbel.size
          have HOPS := hide hops
          clear hops
          go_wp2_with fail
          go_region_held (fun w' => w'.cell? ⟨gb, k * 4, none⟩ = some (.string (atO zs k).s) ∧ w'.cell? ⟨gb, k * 4 + 1, none⟩ = some (.int .i64 (atO zs k).k) ∧ w'.cell? ⟨gb, k * 4 + 2, none⟩ = some (.int .i64 (atO zs k).l) ∧ w'.cell? ⟨gb, k * 4 + 3, none⟩ = some (.int .i64 (atO zs k).sd)) (go_keep)
            (first | (go_at_call 48; refine (l1Has_any gb _ k zs (atO zs k) _ hzl (by omega) (show Ops wr.drew gb 0 zs from unhide HOPS) zgb).mono ?_; rintro e w3 ⟨⟨v, rfl, hv⟩, hb3⟩; have HV := hide hv; have HB3 := hide ((Below.refl wr.heap.size wr).drew.trans hb3); have q0 := (hb3.cell (p := ⟨gb, k * 4, none⟩) zgb).trans (show wr.drew.cell? ⟨gb, k * 4, none⟩ = _ from a0); have q1 := (hb3.cell (p := ⟨gb, k * 4 + 1, none⟩) zgb).trans (show wr.drew.cell? ⟨gb, k * 4 + 1, none⟩ = _ from a1); have q2 := (hb3.cell (p := ⟨gb, k * 4 + 2, none⟩) zgb).trans (show wr.drew.cell? ⟨gb, k * 4 + 2, none⟩ = _ from a2); have q3 := (hb3.cell (p := ⟨gb, k * 4 + 3, none⟩) zgb).trans (show wr.drew.cell? ⟨gb, k * 4 + 3, none⟩ = _ from a3); clear hv hb3))
          have hbel3 := hbel.trans ((unhide HB3).mono hbel.size)
          have hown3 := hide ((unhide hown).kept (w' := w3) (row := none) ⟨(unhide HB3).os, (unhide HB3).tape, (unhide HB3).output, (unhide HB3).size, fun i hi _ => (unhide HB3).block i hi⟩ (Or.inr (by simp [Value.ownBlock])))
          have hul := uni_len zs k
          clear hown HB3 hbel a0 a1 a2 a3
          cases v
          · have hmi := hide (uni_miss (fun h => Bool.false_ne_true ((unhide HV).2 h)))
            clear HV
            go_wp2_with (at_builtin; refine wpList_append_own _ rfl (.tmp 33) (.tmp 38) 38 rfl w2.heap.size 70 i0 _ 4 40 Tryz.underlying38 (unhide HI) (unhide HZ).1 (unhide HZ).2.1 (unhide HZ).2.2 rfl (by decide) _ (uniTo zs k).length (cellsL (uniTo zs k)) rfl ((unhide hown3).alloc _) ⟨w3.heap.size, 0, none⟩ 1 1 (cellsL [atO zs k]) rfl rfl (new_news w3 (atO zs k)) (cellsL_one' _) ?b1 ?b2 ?b3 ?next)
            case b1 => unfold maxLen; omega
            case b2 => omega
            case b3 => have := hbel3.size; simp; omega
            case next =>
              intro v4 w4 hown4 hgrow4 hnil4
              have hgo := (unhide hown3).lt go rfl
              have hbel4 : Below w2.heap.size w2 w4 := (hbel3.alloc hbel3.size _).grown hgrow4 (by have := hbel3.size; simp; omega) (fun q hq => by simp [Value.ownBlock] at hq; omega)
              obtain ⟨g4, c4, rfl⟩ := owns_value hown4 (by simp [hnil4])
              have hlen4 : (uniTo zs (k + 1)).length = (uniTo zs k).length + 1 := by rw [unhide hmi]; simp
              rw [← cellsL_append, ← unhide hmi, ← hlen4] at hown4
              have HW4 := hide hown4
              rw [← hlen4]
              clear hown4 hgrow4 hnil4 hown3 hlen4 hmi
              go_wp2
              exact ⟨⟨k + 1, g4, c4, by omega, by go_num, rfl, HW4, hbel4⟩, by simp [intOf]; omega⟩
          · have hhi := hide (uni_hit ((unhide HV).1 rfl))
            clear HV
            go_wp2
            refine ⟨⟨k + 1, go, co, by omega, by go_num, ?_, ?_, hbel3⟩, by simp [intOf]; omega⟩
            · rw [unhide hhi]
            · rw [unhide hhi]; exact hown3
        · have hkz : k = zs.length := by omega
          have c2 : wr.cell? ⟨w.heap.size + 1 + 1, 0, none⟩ = some (.slice none 0 0) := (hbel.cell (p := ⟨w.heap.size + 1 + 1, 0, none⟩) (show w.heap.size + 1 + 1 < _ by omega)).trans e2
          have c3 : wr.frozen? ⟨w.heap.size + 1 + 1, 0, none⟩ = false := (hbel.frozen (p := ⟨w.heap.size + 1 + 1, 0, none⟩) (show w.heap.size + 1 + 1 < _ by omega)).trans e3
          obtain ⟨hgo, hfo⟩ := owns_filled (unhide hown)
          have HFO := hide hfo
          have HKZ := hide hkz
          clear hfo hown hkz e2 e3
          go_wp2
          have hkz := unhide HKZ
          subst hkz
          refine bodyPost_ret (v := .agg #[.slice (some ⟨go, 0, none⟩) (uniTo zs zs.length).length co]) (by simp [results, Tryz.results34, go_sem, c2]) rfl ⟨⟨go, co, rfl, by omega, ?_⟩, ?_⟩
          · exact (unhide HFO).setCell _ _ (by simp; omega)
          · exact (hbw2.trans (hbel.mono (by omega))).setCell (by simp; omega) _
end Go.Proofs.YtokabkhnidlcnabGreatDoor

/-
  The scopes while they are made: memory and meaning.
-/
namespace Go.Proofs.YtokabkhnidlcnabGreatDoor
set_option maxRecDepth 100000
set_option linter.unusedSimpArgs false
set_option linter.unusedVariables false
open Go.RowKit

def upB (d : Nat → Bool) (i : Nat) : Nat → Bool := fun j => if j = i then true else d j
def upT (T : Nat → List OpR) (i : Nat) (x : List OpR) : Nat → List OpR := fun j => if j = i then x else T j

/-- A row of operators that has a place. -/
def OpsS (w : World) (v : Value) (os : List OpR) : Prop := ∃ g c, v = .slice (some ⟨g, 0, none⟩) os.length c ∧ g < w.heap.size ∧ Ops w g 0 os

theorem OpsS.at' {w : World} {v : Value} {os : List OpR} (h : OpsS w v os) : OpsAt w v os := by
  obtain ⟨g, c, rfl, h1, h2⟩ := h
  exact ⟨_, c, rfl, Or.inr ⟨g, rfl, h1, h2⟩⟩

theorem OpsS.of {w : World} {v : Value} {os : List OpR} (h : OpsAt w v os) (hq : ∃ q, v.ownBlock = some q) : OpsS w v os := by
  obtain ⟨a, c, rfl, ⟨_, rfl, _⟩ | ⟨g, rfl, h1, h2⟩⟩ := h
  · obtain ⟨q, hq⟩ := hq
    cases hq
  · exact ⟨g, c, rfl, h1, h2⟩

theorem OpsS.blk {w : World} {v : Value} {os : List OpR} (h : OpsS w v os) : ∃ q, v.ownBlock = some q := by
  obtain ⟨g, c, rfl, _⟩ := h
  exact ⟨g, rfl⟩

theorem OpsS.below {w w' : World} {v : Value} {os : List OpR} (h : OpsS w v os) (hb : Below w.heap.size w w') : OpsS w' v os := OpsS.of (h.at'.below hb) h.blk

/-- Where the scopes and their marks lie. -/
structure ScSt (w : World) (n O D : Nat) (d : Nat → Bool) (T : Nat → List OpR) (wr : World) : Prop where
  dn : BRow wr D n d
  cs : ∀ i, i < n → ∃ v, wr.cell? ⟨O, i, none⟩ = some v ∧ wr.frozen? ⟨O, i, none⟩ = false ∧ (d i = true → OpsS wr v (T i) ∧ ∀ g, v.ownBlock = some g → g ≠ O ∧ g ≠ D)
  bel : Below w.heap.size w wr
  hO : w.heap.size ≤ O
  hD : w.heap.size ≤ D
  hOl : O < wr.heap.size
  hOD : O ≠ D

theorem ScSt.below {w wr wr' : World} {n O D : Nat} {d : Nat → Bool} {T : Nat → List OpR} (h : ScSt w n O D d T wr) (hb : Below wr.heap.size wr wr') : ScSt w n O D d T wr' :=
  ⟨h.dn.below hb, fun i hi => by
    obtain ⟨v, h1, h2, h3⟩ := h.cs i hi
    exact ⟨v, (hb.cell (p := ⟨O, i, none⟩) h.hOl).trans h1, (hb.frozen (p := ⟨O, i, none⟩) h.hOl).trans h2, fun e => ⟨(h3 e).1.below hb, (h3 e).2⟩⟩, h.bel.trans (hb.mono h.bel.size), h.hO, h.hD, Nat.lt_of_lt_of_le h.hOl hb.size, h.hOD⟩

theorem OpsS.set {w : World} {v : Value} {os : List OpR} (h : OpsS w v os) (p o : Nat) (x : Value) (hne : ∀ g, v.ownBlock = some g → g ≠ p) : OpsS (w.setCell ⟨p, o, none⟩ x) v os :=
  OpsS.of (h.at'.grown (set_grown w p o x) (fun g e x => by injection x with x; exact hne g e x.symm)) h.blk

theorem OpsAt.set {w : World} {v : Value} {os : List OpR} (h : OpsAt w v os) (p o : Nat) (x : Value) (hne : ∀ g, v.ownBlock = some g → g ≠ p) : OpsAt (w.setCell ⟨p, o, none⟩ x) v os :=
  h.grown (set_grown w p o x) (fun g e x => by injection x with x; exact hne g e x.symm)

/-- One scope more. -/
theorem ScSt.done {w wr : World} {n O D i : Nat} {d : Nat → Bool} {T : Nat → List OpR} {v : Value} {X : List OpR} (h : ScSt w n O D d T wr) (hi : i < n) (hv : OpsS wr v X) (hne : ∀ g, v.ownBlock = some g → g ≠ O ∧ g ≠ D) :
    ScSt w n O D (upB d i) (upT T i X) ((wr.setCell ⟨O, i, none⟩ v).setCell ⟨D, i, none⟩ (.bool true)) := by
  have hOD := h.hOD
  refine ⟨?_, fun j hj => ?_, (h.bel.setCell (p := ⟨O, i, none⟩) h.hO _).setCell (p := ⟨D, i, none⟩) h.hD _, h.hO, h.hD, by simpa [World.setCell] using h.hOl, hOD⟩
  · exact ((h.dn.grown (set_grown wr O i v) (fun x => hOD (by injection x))).set hi true).congr (fun j _ => rfl)
  · obtain ⟨u, h1, h2, h3⟩ := h.cs j hj
    have hc : ∀ (W : World), (W.setCell ⟨D, i, none⟩ (.bool true)).cell? ⟨O, j, none⟩ = W.cell? ⟨O, j, none⟩ := fun W => World.cell?_setCell_other _ _ _ _ (by first | (simp; done) | (simp; intro e; exact absurd e.symm hOD) | (intro x; injection x with x; exact hOD x.symm))
    have hf : ((wr.setCell ⟨O, i, none⟩ v).setCell ⟨D, i, none⟩ (.bool true)).frozen? ⟨O, j, none⟩ = false := by
      rw [World.frozen?_setCell, World.frozen?_setCell]; exact h2
    by_cases e : j = i
    · subst e
      refine ⟨v, by rw [hc]; exact World.cell?_setCell_same _ _ _ h1, hf, fun _ => ⟨?_, hne⟩⟩
      simp only [upT, if_true]
      exact (hv.set O j v (fun g e => (hne g e).1)).set D j _ (fun g e => (hne g e).2)
    · refine ⟨u, by rw [hc, World.cell?_setCell_other _ _ _ _ (by first | (simp; done) | (simp; omega) | (intro x; injection x with _ x; omega))]; exact h1, hf, fun hd => ?_⟩
      simp only [upB, e, if_false] at hd
      simp only [upT, e, if_false]
      obtain ⟨h4, h5⟩ := h3 hd
      exact ⟨(h4.set O i v (fun g e => (h5 g e).1)).set D i _ (fun g e => (h5 g e).2), h5⟩

/-- What the scopes that are made mean. -/
def DoneEq (ms : List ModR) (U : List UnR) (d : Nat → Bool) (T : Nat → List OpR) : Prop := ∀ i, i < ms.length → d i = true → (∀ u ∈ (atU U i).us, d (nmF ms u) = true) ∧ T i = scAcc (nmF ms) T (insAll [] (atU U i).os) (atU U i).us ∧ (T i).Nodup ∧ ∀ o ∈ T i, o ∈ allOps U

theorem DoneEq.step {ms : List ModR} {U : List UnR} {d : Nat → Bool} {T : Nat → List OpR} {i : Nat} {X : List OpR} (h : DoneEq ms U d T) (hU : U.length = ms.length) (hi : i < ms.length) (hn : d i = false) (hin : ∀ u ∈ (atU U i).us, nmF ms u < ms.length) (hu : ∀ u ∈ (atU U i).us, d (nmF ms u) = true) (hX : X = scAcc (nmF ms) T (insAll [] (atU U i).os) (atU U i).us) : DoneEq ms U (upB d i) (upT T i X) := by
  have hne : ∀ k, d k = true → k ≠ i := fun k hk e => by rw [e, hn] at hk; cases hk
  have hT : ∀ (us : List ByteArray) (acc : List OpR), (∀ u ∈ us, d (nmF ms u) = true) → scAcc (nmF ms) T acc us = scAcc (nmF ms) (upT T i X) acc us := fun us acc hd => scAcc_congr us acc (fun u hu => by
    simp only [upT, hne _ (hd u hu), if_false])
  intro j hj hd
  by_cases e : j = i
  · subst e
    refine ⟨fun u hu' => by simp only [upB]; rw [hu u hu']; split <;> rfl, ?_, ?_, ?_⟩
    · simp only [upT, if_true]
      rw [hX]
      exact (hT _ _ hu).trans (by rw [← hX])
    · simp only [upT, if_true]
      rw [hX]
      exact scAcc_nd _ _ _ _ (nd_insAll _ _ (by simp))
    · simp only [upT, if_true]
      intro o ho
      rw [hX, scAcc_mem, mem_insAll] at ho
      rcases ho with (ho | ho) | ⟨u, hu', ho⟩
      · cases ho
      · exact List.mem_flatMap.2 ⟨atU U j, atU_mem (by omega), ho⟩
      · exact (h _ (hin u hu') (hu u hu')).2.2.2 o ho
  · simp only [upB, e, if_false] at hd
    obtain ⟨h1, h2, h3, h4⟩ := h j hj hd
    have eT : upT T i X j = T j := by simp only [upT, e, if_false]
    rw [eT]
    refine ⟨fun u hu' => by simp only [upB]; rw [h1 u hu']; split <;> rfl, ?_, h3, h4⟩
    rw [← hT _ _ h1]
    exact h2

/-- Ready so far. -/
def rdy (ms : List ModR) (d : Nat → Bool) (i : Nat) (us : List ByteArray) (k : Nat) : Bool := !d i && (us.take k).all (fun u => d (nmF ms u))

theorem rdy_step {ms : List ModR} {d : Nat → Bool} {i k : Nat} {us : List ByteArray} {u : ByteArray} (h : us[k]? = some u) : rdy ms d i us (k + 1) = (rdy ms d i us k && d (nmF ms u)) := by
  unfold rdy
  rw [List.take_add_one, h, List.all_append]
  simp [Bool.and_assoc]

theorem scAcc_take {nm : ByteArray → Nat} {T : Nat → List OpR} {acc : List OpR} {us : List ByteArray} {k : Nat} {u : ByteArray} (h : us[k]? = some u) : scAcc nm T acc (us.take (k + 1)) = insAll (scAcc nm T acc (us.take k)) (T (nm u)) := by
  rw [List.take_add_one, h]
  exact scAcc_snoc nm T acc (us.take k) u

/-- What is done in a round. -/
def RndInv (n : Nat) (rk : Nat → Nat) (d : Nat → Bool) (r i : Nat) : Prop := ∀ j, j < n → (rk j < r ∨ (rk j = r ∧ j < i)) → d j = true

theorem RndInv.up {n : Nat} {rk : Nat → Nat} {d : Nat → Bool} {r i k : Nat} (h : RndInv n rk d r i) : RndInv n rk (upB d k) r i := fun j hj hr => by
  simp only [upB]; rw [h j hj hr]; split <;> rfl

theorem RndInv.next {n : Nat} {rk : Nat → Nat} {d : Nat → Bool} {r i : Nat} (h : RndInv n rk d r i) (hi : rk i = r → d i = true) : RndInv n rk d r (i + 1) := fun j hj hr => by
  by_cases e : j = i
  · subst e
    rcases hr with hr | ⟨hr, _⟩
    · exact h j hj (Or.inl hr)
    · exact hi hr
  · exact h j hj (by omega)

theorem RndInv.round {n : Nat} {rk : Nat → Nat} {d : Nat → Bool} {r : Nat} (h : RndInv n rk d r n) : RndInv n rk d (r + 1) 0 := fun j hj hr => h j hj (by omega)
end Go.Proofs.YtokabkhnidlcnabGreatDoor

/-
  Walk: the scopes, in the specification (l5Scopes).
-/
namespace Go.Proofs.YtokabkhnidlcnabGreatDoor
set_option maxRecDepth 100000
set_option linter.unusedSimpArgs false
set_option linter.unusedVariables false
open Go.RowKit

theorem infoTab : (Tryz.prog.info? 54).map (fun i => (i.zero, i.size, i.bytes)) = some (some (.agg #[.slice none 0 0]), 1, 24) := by kernel_rfl

/-- What l5Scopes answers. -/
def ScpPost (w : World) (ms : List ModR) (U : List UnR) (e : Ending) (w' : World) : Prop := ∃ (g : Nat) (S : Nat → List OpR), e = .returned (.slice (some ⟨g, 0, none⟩) ms.length ms.length) ∧ w.heap.size ≤ g ∧ g < w'.heap.size ∧ Hid (ScE ms U S) ∧ Hid (∀ i, i < ms.length → (∀ o ∈ S i, o ∈ allOps U) ∧ ∃ v, w'.cell? ⟨g, i, none⟩ = some v ∧ OpsS w' v (S i)) ∧ Below w.heap.size w w'

theorem made_tab (w : World) (n : Nat) (j : Nat) (hj : j < n) : (w.alloc (.cells (madeCells #[.slice none 0 0] n) 54)).cell? ⟨w.heap.size, j, none⟩ = some (.slice none 0 0) := by
  have h := World.rangeAt_of_block (w := w.alloc (.cells (madeCells #[.slice none 0 0] n) 54)) (b := w.heap.size) (heap_alloc_new w _) 0 n
  have h1 := h j (.slice none 0 0) (by
    simp only [madeCells]
    simp [hj, Nat.mod_one])
  simpa using h1

set_option maxHeartbeats 16000000 in
theorem l5Scopes_any (a : Option Addr) (c0 gU cU : Nat) (ms : List ModR) (vs : List UvR) (U : List UnR) (w : World) (rk : Nat → Nat) (hn : ms.length ≤ 100) (hM : ArgM w a ms) (hOV : OpsV w gU vs) (hgU : gU < w.heap.size) (hUA : UnsAt w w.heap.size vs U) (hUO : UnitsOf ms U) (hvl : vs.length = ms.length) (h4 : ∀ i, i < ms.length → ¬ B4 ms U i)
    (hrk1 : ∀ i, i < ms.length → ∀ u ∈ (atU U i).us, rk (nmF ms u) < rk i) (hrk2 : ∀ i, i < ms.length → rk i < ms.length) :
    Calls Tryz.prog 19 #[.slice a ms.length c0, .slice (some ⟨gU, 0, none⟩) ms.length cU] w (ScpPost w ms U) := by
  obtain ⟨n, hnn⟩ : ∃ n, n = ms.length := ⟨_, rfl⟩
  have hmk1 : ∀ W : World, (Instr.makeSlice 24 (.int .i64 (n : Int)) (.int .i64 (n : Int))).run Tryz.prog W = .ok (.slice (some ⟨W.heap.size, 0, none⟩) n n) (W.alloc (.cells (madeCells #[.slice none 0 0] n) 54)) := by
    obtain ⟨inf, hi, hz⟩ := Option.map_eq_some_iff.1 infoTab
    simp only [Prod.mk.injEq] at hz
    obtain ⟨hz, hsz, hby⟩ := hz
    intro W
    have := run_make (P := Tryz.prog) W 24 54 inf _ Tryz.underlying24 hi hz .i64 .i64 n n (by omega) (by omega) (by rw [hby]; omega) (by omega)
    simpa [hsz, Value.cells] using this
  have hmk2 : ∀ W : World, (Instr.makeSlice 50 (.int .i64 (n : Int)) (.int .i64 (n : Int))).run Tryz.prog W = .ok (.slice (some ⟨W.heap.size, 0, none⟩) n n) (W.alloc (.cells (madeCells #[.bool false] n) 4)) := by
    obtain ⟨inf, hi, hz⟩ := Option.map_eq_some_iff.1 infoBoolL
    simp only [Prod.mk.injEq] at hz
    obtain ⟨hz, hsz, hby⟩ := hz
    intro W
    have := run_make (P := Tryz.prog) W 50 4 inf _ Tryz.underlying50 hi hz .i64 .i64 n n (by omega) (by omega) (by rw [hby]; omega) (by omega)
    simpa [hsz, Value.cells] using this
  have HALL := hide (show (allOps U).length ≤ 400000 from hUO.all hn)
  have HM := hide hM
  have HOV := hide hOV
  have HUA := hide hUA
  have HVL := hide hvl
  have HNM := hide (fun u => l5Named_any a c0 ms u)
  have HIN := hide (show ∀ i, i < ms.length → ∀ u ∈ (atU U i).us, nmF ms u < ms.length from fun i hi u hu => by
    have hle := nmF_le ms u
    by_cases e : nmF ms u < ms.length
    · exact e
    · refine absurd ⟨u, hu, fun j hj => ?_⟩ (h4 i hi)
      exact (nmF_spec ms u).2 j (by omega))
  have HUL := hide (show ∀ i, i < ms.length → (atU U i).us.length ≤ 20001 ∧ (atU U i).os.length ≤ 4000 from fun i hi => ⟨(unit_uses (hUO.2 i hi)).1, (unit_ops (hUO.2 i hi)).1⟩)
  have HK1 := hide hrk1
  have HK2 := hide hrk2
  have HULN := hide hUO.1
  rw [← hnn] at HNM HIN HUL HVL HK1 HK2 HULN hn ⊢
  have HNN := hide hnn
  clear hM hOV hUA hUO hvl h4 hnn hrk1 hrk2
  have hm1 := hmk1 w
  have hm2 := hmk2 (w.alloc (.cells (madeCells #[.slice none 0 0] n) 54))
  clear hmk1 hmk2
  go_enter Tryz.func19, Tryz.ntmps19
  go_wp2_with fail
  clear hm1 hm2
  obtain ⟨W0, hW0⟩ : ∃ W0, W0 = (w.alloc (.cells (madeCells #[.slice none 0 0] n) 54)).alloc (.cells (madeCells #[.bool false] n) 4) := ⟨_, rfl⟩
  obtain ⟨O, hO⟩ : ∃ O, O = w.heap.size := ⟨_, rfl⟩
  obtain ⟨D, hD⟩ : ∃ D, D = w.heap.size + 1 := ⟨_, rfl⟩
  have HS0 := hide (show ScSt w n O D (fun _ => false) (fun _ => []) W0 by
    rw [hW0, hO, hD]
    refine ⟨?_, fun i hi => ⟨.slice none 0 0, ?_, ?_, fun e => by cases e⟩, (below1 _ _).alloc (by simp) _, Nat.le_refl _, by omega, by simp; omega, by omega⟩
    · have := made_brow (w.alloc (.cells (madeCells #[.slice none 0 0] n) 54)) n
      simpa using this
    · exact ((below1 (w.alloc (.cells (madeCells #[.slice none 0 0] n) 54)) _).cell (p := ⟨w.heap.size, i, none⟩) (by simp)).trans (made_tab w n i hi)
    · simp [go_sem])
  rw [← hW0, ← hD, ← hO]
  clear hW0
  have hO' : w.heap.size ≤ O := by omega
  have hOD : O ≠ D := by omega
  clear hO hD
  go_loopw [8] (fun ir wr => ∃ (r : Nat) (d : Nat → Bool) (T : Nat → List OpR), r ≤ n ∧ ir = .int .i64 (r : Int) ∧ Hid (ScSt w n O D d T wr) ∧ Hid (DoneEq ms U d T) ∧ Hid (RndInv n rk d r 0)) (fun ir _ => n - (intOf ir).toNat)
  case atStart => exact ⟨0, fun _ => false, fun _ => [], Nat.zero_le _, rfl, HS0, hide (fun i hi e => by cases e), hide (fun j hj h => by omega)⟩
  case round =>
    clear HS0
    obtain ⟨r, d0, T0, hr, rfl, HS, HE, HRI⟩ := hrel
    obtain ⟨wo, rfl⟩ : ∃ wo, wo = wr := ⟨_, rfl⟩
    by_cases hrlt : r < n
    · have hrI : (r : Int) < (n : Int) := by omega
      go_wp2_with fail
      go_loopw [9] (fun ii wr => ∃ (k : Nat) (d : Nat → Bool) (T : Nat → List OpR), k ≤ n ∧ ii = .int .i64 (k : Int) ∧ Hid (ScSt w n O D d T wr) ∧ Hid (DoneEq ms U d T) ∧ Hid (RndInv n rk d r k)) (fun ii _ => n - (intOf ii).toNat)
      case atStart => exact ⟨0, d0, T0, Nat.zero_le _, rfl, HS, HE, HRI⟩
      case round =>
        clear HS HE HRI
        obtain ⟨k, d, T, hk, rfl, HS, HE, HRI⟩ := hrel
        obtain ⟨wi, rfl⟩ : ∃ wi, wi = wr := ⟨_, rfl⟩
        by_cases hklt : k < n
        · have hkI : (k : Int) < (n : Int) := by omega
          have hzi := (unhide HS).bel.size
          have hOl := (unhide HS).hOl
          have hDl := (unhide HS).dn.1
          obtain ⟨us, hus⟩ : ∃ us, us = (atU U k).us := ⟨_, rfl⟩
          obtain ⟨os, hos⟩ : ∃ os, os = (atU U k).os := ⟨_, rfl⟩
          have hul : us.length ≤ 20001 := by rw [hus]; exact ((unhide HUL) k hklt).1
          have hol : os.length ≤ 4000 := by rw [hos]; exact ((unhide HUL) k hklt).2
          have HINk := hide (show ∀ u ∈ us, nmF ms u < n by rw [hus]; exact (unhide HIN) k hklt)
          have HK1k := hide (show ∀ u ∈ us, rk (nmF ms u) < rk k by rw [hus]; exact (unhide HK1) k hklt)
          have HUS := hide hus
          have HOS := hide hos
          clear hus hos
          have hvk : k < vs.length := by rw [unhide HVL]; exact hklt
          have HFAC := hide (show ∀ W : World, Below w.heap.size w W → W.cell? ⟨gU, k * 3, none⟩ = some (atV vs k).vu ∧ W.cell? ⟨gU, k * 3 + 1, none⟩ = some (atV vs k).vo ∧ StrsAt W (atV vs k).vu us ∧ OpsAt W (atV vs k).vo os ∧ (∀ g, (atV vs k).vu.ownBlock = some g → g < w.heap.size) from fun W hb => by
            obtain ⟨v0, v1, _⟩ := ((unhide HOV).below hb hgU) k hvk
            have hx := (unhide HUA).belowB hb (Nat.le_refl _)
            obtain ⟨⟨q1, q2, _⟩, q3, _⟩ := hx.2 k hvk
            rw [← unhide HUS] at q1
            rw [← unhide HOS] at q2
            exact ⟨v0, v1, q1, q2, q3⟩)
          obtain ⟨b0, f0⟩ := (unhide HS).dn.2 k hklt
          obtain ⟨R0, hR0⟩ : ∃ R0 : Bool, R0 = !d k := ⟨_, rfl⟩
          have HR0 := hide (show rdy ms d k us 0 = !d k by simp [rdy])
          clear hR0 R0
          go_wp2_with fail
          go_loopw [10, 11] (fun rv ik wr => ∃ q : Nat, q ≤ us.length ∧ ik = .int .i64 (q : Int) ∧ rv = .bool (rdy ms d k us q) ∧ wr = wi) (fun _ ik _ => us.length - (intOf ik).toNat)
          case atStart => exact ⟨0, Nat.zero_le _, rfl, by rw [unhide HR0], rfl⟩
          case round =>
            obtain ⟨q, hq, rfl, rfl, rfl⟩ := hrel
            obtain ⟨v0, v1, hst, hop, hbl⟩ := (unhide HFAC) wr (unhide HS).bel
            by_cases hqlt : q < us.length
            · have hqI : (q : Int) < (us.length : Int) := by omega
              obtain ⟨gw, cw, hv, hgw, hc⟩ := hst.lt (by omega)
              rw [hv] at v0
              obtain ⟨u, hu⟩ : ∃ u, us[q]? = some u := ⟨_, List.getElem?_eq_getElem hqlt⟩
              have k0 := hc q u hu
              have hum : u ∈ us := List.mem_of_getElem? hu
              have HSTEP := hide (rdy_step (ms := ms) (d := d) (i := k) hu)
              obtain ⟨m, hm⟩ : ∃ m, m = nmF ms u := ⟨_, rfl⟩
              rw [← hm] at HSTEP
              have hmn : m < n := by rw [hm]; exact (unhide HINk) u hum
              have hmI : (m : Int) < (n : Int) := by omega
              obtain ⟨m0, _⟩ := (unhide HS).dn.2 m hmn
              cases hrd : rdy ms d k us q
              · rw [hrd] at HSTEP
                have HX := hide (show rdy ms d k us (q + 1) = false by rw [unhide HSTEP]; rfl)
                clear hc hst hu hum hm hv v1 hop hbl
                go_wp2_with fail
                exact ⟨⟨q + 1, by omega, by go_num, by rw [unhide HX], trivial⟩, by simp [intOf]; omega⟩
              · rw [hrd] at HSTEP
                have HX := hide (show rdy ms d k us (q + 1) = d m by rw [unhide HSTEP]; simp)
                have HCALL := hide ((unhide HNM) u wr (by omega) ((unhide HM).below (unhide HS).bel))
                have hnm : nmI ms u = (m : Int) := by
                  unfold nmI
                  rw [← hm, ← unhide HNN, if_pos hmn]
                rw [hnm] at HCALL
                clear hc hst hu hum hm hv v1 hop hbl hnm
                go_wp2_with (first | (go_at_call 16; (with_reducible refine (unhide HCALL).mono ?_); rintro e w2 ⟨rfl, hx⟩; obtain rfl := hx.symm; clear hx))
                exact ⟨⟨q + 1, by omega, by go_num, by rw [unhide HX], trivial⟩, by simp [intOf]; omega⟩
            · obtain ⟨aw, cw, hv, _⟩ := hst
              rw [hv] at v0
              have hqe : q = us.length := by omega
              obtain ⟨ao, co, hvo, _⟩ := hop
              rw [hvo] at v1
              have HOP := hide (show OpsAt wr (.slice ao os.length co) os from hvo ▸ ((unhide HFAC) wr (unhide HS).bel).2.2.2.1)
              cases hrd : rdy ms d k us q
              · -- it is done already, or a use is not
                have HRI2 := hide (show RndInv n rk d r (k + 1) from (unhide HRI).next (fun hrk => by
                  rw [hqe] at hrd
                  unfold rdy at hrd
                  rw [List.take_length] at hrd
                  cases hdk : d k
                  · rw [hdk] at hrd
                    have hall : us.all (fun u => d (nmF ms u)) = true := by
                      rw [List.all_eq_true]
                      intro u hu
                      exact (unhide HRI) _ ((unhide HINk) u hu) (Or.inl (by have := (unhide HK1k) u hu; omega))
                    rw [hall] at hrd
                    cases hrd
                  · rfl))
                clear hv hvo hqe HOP v1 hbl HRI
                go_wp2_with fail
                exact ⟨⟨k + 1, d, T, by omega, by go_num, HS, HE, HRI2⟩, by simp [intOf]; omega⟩
              · have hdk : d k = false := by
                  unfold rdy at hrd
                  cases h : d k
                  · rfl
                  · rw [h] at hrd; cases hrd
                have HALLU := hide (show ∀ u ∈ us, d (nmF ms u) = true from fun u hu => by
                  rw [hqe] at hrd
                  unfold rdy at hrd
                  rw [List.take_length, hdk] at hrd
                  exact List.all_eq_true.1 (by simpa using hrd) u hu)
                have HDK := hide hdk
                have HUN0 := hide (specUnion_at (.slice ao os.length co) (.slice none 0 0) os [] os (hide (by simp)) wr (by simp; omega) (unhide HOP) ⟨none, 0, rfl, Or.inl ⟨rfl, rfl, rfl⟩⟩)
                have huni : uniTo os os.length = insAll [] os := by rw [uni_ins _ _ (Nat.le_refl _), List.take_length]
                rw [huni] at HUN0
                obtain ⟨acc0, hacc0⟩ : ∃ acc0, acc0 = insAll [] os := ⟨_, rfl⟩
                rw [← hacc0] at HUN0
                have HACC0 := hide hacc0
                clear hv hvo hqe HOP hbl huni hacc0 hdk hrd b0 f0
                go_wp2_with fail
                (with_reducible refine (unhide HUN0).mono ?_)
                rintro e w1 ⟨⟨h1, c1, rfl, hh1, hf1⟩, hb1⟩
                have z1 := hb1.size
                obtain ⟨B12, hB12⟩ : ∃ B12, B12 = w1.heap.size := ⟨_, rfl⟩
                obtain ⟨W12, hW12⟩ : ∃ W12, W12 = w1.alloc (.cells #[.slice (some ⟨h1, 0, none⟩) acc0.length c1] 54) := ⟨_, rfl⟩
                have t0 : W12.cell? ⟨B12, 0, none⟩ = some (.slice (some ⟨h1, 0, none⟩) acc0.length c1) := by rw [hW12, hB12]; simp [go_sem]
                have t1 : W12.frozen? ⟨B12, 0, none⟩ = false := by rw [hW12, hB12]; simp [go_sem]
                have HO12 := hide (show OpsAt W12 (.slice (some ⟨h1, 0, none⟩) acc0.length c1) acc0 by rw [hW12]; exact ⟨_, _, rfl, Or.inr ⟨h1, rfl, by have := hf1.1; simp; omega, hf1.ops.below (below1 _ _) hf1.1⟩⟩)
                have z12 : B12 + 1 ≤ W12.heap.size := by rw [hW12, hB12]; simp
                have hwi : wr.heap.size ≤ B12 := by omega
                have hh12 : h1 < B12 := by rw [hB12]; exact hf1.1
                have hh11 : wr.heap.size ≤ h1 := hh1
                obtain ⟨wi', rfl⟩ : ∃ wi', wi' = wr := ⟨_, rfl⟩
                have HWW := hide hW12
                have HBI := hide (show Below wi'.heap.size wi' W12 by rw [hW12]; exact hb1.trans ((below1 _ _).mono z1))
                clear hf1 hb1 hh1 HUN0 v0 v1
                go_wp2_with fail
                rw [← unhide HWW, ← hB12]
                clear HWW hB12 z1
                go_loopw [13] (fun ik wr => ∃ (q h c : Nat) (acc : List OpR), q ≤ us.length ∧ ik = .int .i64 (q : Int) ∧ Hid (acc = scAcc (nmF ms) T acc0 (us.take q)) ∧ wr.cell? ⟨B12, 0, none⟩ = some (.slice (some ⟨h, 0, none⟩) acc.length c) ∧ wr.frozen? ⟨B12, 0, none⟩ = false ∧ Hid (OpsAt wr (.slice (some ⟨h, 0, none⟩) acc.length c) acc) ∧ (h ≠ B12 ∧ wi'.heap.size ≤ h) ∧ Below B12 W12 wr) (fun ik _ => us.length - (intOf ik).toNat)
                case atStart => exact ⟨0, h1, c1, acc0, Nat.zero_le _, rfl, hide (by simp [scAcc]), t0, t1, HO12, ⟨by omega, by omega⟩, Below.refl _ _⟩
                case round =>
                  clear t0 t1 HO12 hh12 hh11
                  obtain ⟨q, h, c, acc, hq, rfl, HACC, t0, t1, HOA, ⟨hhB, hhi⟩, hb12⟩ := hrel
                  have hBi := (unhide HBI).trans (hb12.mono hwi)
                  have z12' : B12 + 1 ≤ wr.heap.size := Nat.le_trans z12 hb12.size
                  have hbw : Below w.heap.size w wr := (unhide HS).bel.trans (hBi.mono hzi)
                  obtain ⟨v0, v1, hst, _, hbl⟩ := (unhide HFAC) wr hbw
                  have HSB := hide (show acc.Nodup ∧ acc.length ≤ 400000 by
                    have h1 : acc.Nodup := by rw [unhide HACC, unhide HACC0]; exact scAcc_nd _ _ _ _ (nd_insAll _ _ (by simp))
                    refine ⟨h1, Nat.le_trans (ndu_len acc (allOps U) h1 (fun o ho => ?_)) (unhide HALL)⟩
                    rw [unhide HACC, unhide HACC0, scAcc_mem, mem_insAll] at ho
                    rcases ho with (ho | ho) | ⟨u, hu, ho⟩
                    · cases ho
                    · exact List.mem_flatMap.2 ⟨atU U k, atU_mem (by rw [unhide HULN]; exact hklt), by rw [← unhide HOS]; exact ho⟩
                    · have hu' := List.mem_of_mem_take hu
                      exact ((unhide HE) _ (by rw [← unhide HNN]; exact (unhide HINk) u hu') ((unhide HALLU) u hu')).2.2.2 o ho)
                  by_cases hqlt : q < us.length
                  · have hqI : (q : Int) < (us.length : Int) := by omega
                    obtain ⟨gw, cw, hv, hgw, hc⟩ := hst.lt (by omega)
                    have hgw0 : gw < w.heap.size := hbl gw (by rw [hv]; rfl)
                    rw [hv] at v0
                    obtain ⟨u, hu⟩ : ∃ u, us[q]? = some u := ⟨_, List.getElem?_eq_getElem hqlt⟩
                    have k0 := hc q u hu
                    have hum : u ∈ us := List.mem_of_getElem? hu
                    obtain ⟨m, hm⟩ : ∃ m, m = nmF ms u := ⟨_, rfl⟩
                    have hmn : m < n := by rw [hm]; exact (unhide HINk) u hum
                    have hmI : (m : Int) < (n : Int) := by omega
                    have hdm : d m = true := by rw [hm]; exact (unhide HALLU) u hum
                    obtain ⟨vT, o0, _, o1⟩ := (unhide HS).cs m hmn
                    obtain ⟨hopT0, _⟩ := o1 hdm
                    have hopT := hopT0.at'
                    clear hopT0
                    have hopTr := hopT.below hBi
                    have hTm := (unhide HE) m (by rw [← unhide HNN]; exact hmn) hdm
                    have hTl : (T m).length ≤ 400000 := Nat.le_trans (ndu_len (T m) (allOps U) hTm.2.2.1 hTm.2.2.2) (unhide HALL)
                    obtain ⟨aT, cT, hvT, _⟩ := hopT
                    rw [hvT] at o0 hopTr
                    have o0' : wr.cell? ⟨O, m, none⟩ = some (.slice aT (T m).length cT) := (hBi.cell (p := ⟨O, m, none⟩) hOl).trans o0
                    have HCALL := hide ((unhide HNM) u wr.drew (by omega) ((unhide HM).below hbw.drew))
                    have hnm : nmI ms u = (m : Int) := by
                      unfold nmI
                      rw [← hm, ← unhide HNN, if_pos hmn]
                    rw [hnm] at HCALL
                    have HUNI := hide (specUnion_at (.slice (some ⟨h, 0, none⟩) acc.length c) (.slice aT (T m).length cT) acc (T m) (acc ++ T m) (hide rfl) wr.drew (by have := (unhide HSB).2; omega) ((unhide HOA).below (Below.refl _ _).drew) (hopTr.below (Below.refl _ _).drew))
                    rw [uni_two (unhide HSB).1] at HUNI
                    obtain ⟨acc', hacc'⟩ : ∃ acc', acc' = insAll acc (T m) := ⟨_, rfl⟩
                    rw [← hacc'] at HUNI
                    have HACC' := hide (show acc' = scAcc (nmF ms) T acc0 (us.take (q + 1)) by rw [scAcc_take hu, ← unhide HACC, hacc', hm])
                    have hS0 : (fun W : World => W.cell? ⟨gU, k * 3, none⟩ = some (.slice (some ⟨gw, 0, none⟩) us.length cw) ∧ W.cell? ⟨gw, q, none⟩ = some (.string u) ∧ W.cell? ⟨O, m, none⟩ = some (.slice aT (T m).length cT)) wr.drew := ⟨v0, k0, o0'⟩
                    have t0d : wr.drew.cell? ⟨B12, 0, none⟩ = some (.slice (some ⟨h, 0, none⟩) acc.length c) := t0
                    have hzi' : w.heap.size ≤ wi'.heap.size := hzi
                    clear hc hst hu hum hm hv v1 hbl hnm hdm o1 hopTr hTm hvT o0 hacc' hbw hBi HACC HOA HSB
                    go_wp2_with fail
                    refine wp_region_held_drew (S := fun W : World => W.cell? ⟨gU, k * 3, none⟩ = some (.slice (some ⟨gw, 0, none⟩) us.length cw) ∧ W.cell? ⟨gw, q, none⟩ = some (.string u) ∧ W.cell? ⟨O, m, none⟩ = some (.slice aT (T m).length cT)) (by kernel_rfl) hS0 (fun _ => ?_)
                    refine wpAnyH_take (i := 1) (v := ?_) rfl (by kernel_rfl) (by kernel_rfl) (by kernel_rfl) (fun _ _ _ h => h) (Or.inl ⟨by rfl, ?_⟩) hS0 ?_
                    rotate_left
                    · intro W hW; obtain ⟨s1, s2, s3⟩ := hW; simp only [List.getElem_toArray, List.getElem_cons_succ, List.getElem_cons_zero]; go_simp; first | done | (with_reducible rfl)
                    simp only [List.getElem_toArray, List.getElem_cons_succ, List.getElem_cons_zero]
                    simp only [Act.put, List.setIfInBounds_toArray, List.set_cons_zero, List.set_cons_succ]
                    refine wpAnyH_take (i := 2) (v := ?_) rfl (by kernel_rfl) (by kernel_rfl) (by kernel_rfl) (fun _ _ _ h => h) (Or.inl ⟨by rfl, ?_⟩) hS0 ?_
                    rotate_left
                    · intro W hW; obtain ⟨s1, s2, s3⟩ := hW; simp only [List.getElem_toArray, List.getElem_cons_succ, List.getElem_cons_zero]; go_simp; first | done | (with_reducible rfl)
                    simp only [List.getElem_toArray, List.getElem_cons_succ, List.getElem_cons_zero]
                    simp only [Act.put, List.setIfInBounds_toArray, List.set_cons_zero, List.set_cons_succ]
                    refine wpAnyH_take (i := 3) (v := ?_) rfl (by kernel_rfl) (by kernel_rfl) (by kernel_rfl) (fun _ _ _ h => h) (Or.inl ⟨by rfl, ?_⟩) hS0 ?_
                    rotate_left
                    · intro W hW; obtain ⟨s1, s2, s3⟩ := hW; simp only [List.getElem_toArray, List.getElem_cons_succ, List.getElem_cons_zero]; go_simp; first | done | (with_reducible rfl)
                    simp only [List.getElem_toArray, List.getElem_cons_succ, List.getElem_cons_zero]
                    simp only [Act.put, List.setIfInBounds_toArray, List.set_cons_zero, List.set_cons_succ]
                    refine wpAnyH_take (i := 4) (v := ?_) rfl (by kernel_rfl) (by kernel_rfl) (by kernel_rfl) (fun _ _ _ h => h) (Or.inl ⟨by rfl, ?_⟩) hS0 ?_
                    rotate_left
                    · intro W hW; obtain ⟨s1, s2, s3⟩ := hW; simp only [List.getElem_toArray, List.getElem_cons_succ, List.getElem_cons_zero]; go_simp; first | done | (with_reducible rfl)
                    simp only [List.getElem_toArray, List.getElem_cons_succ, List.getElem_cons_zero]
                    simp only [Act.put, List.setIfInBounds_toArray, List.set_cons_zero, List.set_cons_succ]
                    refine wpAnyH_take (i := 5) (v := ?_) rfl (by kernel_rfl) (by kernel_rfl) (by kernel_rfl) (fun _ _ _ h => h) (Or.inl ⟨by rfl, ?_⟩) hS0 ?_
                    rotate_left
                    · intro W hW; obtain ⟨s1, s2, s3⟩ := hW; simp only [List.getElem_toArray, List.getElem_cons_succ, List.getElem_cons_zero]; go_simp; first | done | (with_reducible rfl)
                    simp only [List.getElem_toArray, List.getElem_cons_succ, List.getElem_cons_zero]
                    simp only [Act.put, List.setIfInBounds_toArray, List.set_cons_zero, List.set_cons_succ]
                    refine wpAnyH_take (i := 6) (v := ?_) rfl (by kernel_rfl) (by kernel_rfl) (by kernel_rfl) (fun _ _ _ h => h) (Or.inl ⟨by rfl, ?_⟩) hS0 ?_
                    rotate_left
                    · intro W hW; obtain ⟨s1, s2, s3⟩ := hW; simp only [List.getElem_toArray, List.getElem_cons_succ, List.getElem_cons_zero]; go_simp; first | done | (with_reducible rfl)
                    simp only [List.getElem_toArray, List.getElem_cons_succ, List.getElem_cons_zero]
                    simp only [Act.put, List.setIfInBounds_toArray, List.set_cons_zero, List.set_cons_succ]
                    refine wpAnyH_take (i := 7) (v := ?_) rfl (by kernel_rfl) (by kernel_rfl) (by kernel_rfl) (fun _ _ _ h => h) (Or.inl ⟨by rfl, ?_⟩) hS0 ?_
                    rotate_left
                    · intro W hW; obtain ⟨s1, s2, s3⟩ := hW; simp only [List.getElem_toArray, List.getElem_cons_succ, List.getElem_cons_zero]; go_simp; first | done | (with_reducible rfl)
                    simp only [List.getElem_toArray, List.getElem_cons_succ, List.getElem_cons_zero]
                    simp only [Act.put, List.setIfInBounds_toArray, List.set_cons_zero, List.set_cons_succ]
                    refine wpAnyH_take (i := 8) (v := ?_) rfl (by kernel_rfl) (by kernel_rfl) (by kernel_rfl) (fun _ _ _ h => h) (Or.inl ⟨by rfl, ?_⟩) hS0 ?_
                    rotate_left
                    · intro W hW; obtain ⟨s1, s2, s3⟩ := hW; simp only [List.getElem_toArray, List.getElem_cons_succ, List.getElem_cons_zero]; go_simp; first | done | (with_reducible rfl)
                    simp only [List.getElem_toArray, List.getElem_cons_succ, List.getElem_cons_zero]
                    simp only [Act.put, List.setIfInBounds_toArray, List.set_cons_zero, List.set_cons_succ]
                    refine wpAnyH_take (i := 9) (v := ?_) rfl (by kernel_rfl) (by kernel_rfl) (by kernel_rfl) (fun _ _ _ h => h) (Or.inl ⟨by rfl, ?_⟩) hS0 ?_
                    rotate_left
                    · intro W hW; obtain ⟨s1, s2, s3⟩ := hW; simp only [List.getElem_toArray, List.getElem_cons_succ, List.getElem_cons_zero]; go_simp; first | done | (with_reducible rfl)
                    simp only [List.getElem_toArray, List.getElem_cons_succ, List.getElem_cons_zero]
                    simp only [Act.put, List.setIfInBounds_toArray, List.set_cons_zero, List.set_cons_succ]
                    refine wpAnyH_take (i := 10) (v := ?_) rfl (by kernel_rfl) (by kernel_rfl) (by kernel_rfl) (fun _ _ _ h => h) (Or.inl ⟨by rfl, ?_⟩) hS0 ?_
                    rotate_left
                    · intro W hW; obtain ⟨s1, s2, s3⟩ := hW; simp only [List.getElem_toArray, List.getElem_cons_succ, List.getElem_cons_zero]; go_simp; first | done | (with_reducible rfl)
                    simp only [List.getElem_toArray, List.getElem_cons_succ, List.getElem_cons_zero]
                    simp only [Act.put, List.setIfInBounds_toArray, List.set_cons_zero, List.set_cons_succ]
                    refine wpAnyH_ready (rs := [0, 11]) (by kernel_rfl) (by simp) ?_
                    refine AllReadyH.cons rfl (fun K hK => ?_) (AllReadyH.cons rfl (fun K hK => ?_) AllReadyH.nil)
                    · simp only [List.getElem_toArray, List.getElem_cons_succ, List.getElem_cons_zero]
                      go_simp
                      refine hK.out _ _ hS0 (fun _ => ?_)
                      clear hK
                      refine wpAnyH_ready (rs := [11]) (by kernel_rfl) (by simp) ?_
                      refine AllReadyH.cons rfl (fun K hK => ?_) AllReadyH.nil
                      simp only [List.getElem_toArray, List.getElem_cons_succ, List.getElem_cons_zero]
                      go_simp
                      go_wp2_with ((go_at_call 16; (with_reducible refine (unhide HCALL).mono ?_); rintro e w2 ⟨rfl, hx⟩; obtain rfl := hx.symm; clear hx))
                      refine hK.out _ _ hS0 (fun _ => ?_)
                      clear hK
                      refine wpAnyH_take (i := 12) (v := ?_) rfl (by kernel_rfl) (by kernel_rfl) (by kernel_rfl) (fun _ _ _ h => h) (Or.inl ⟨by rfl, ?_⟩) hS0 ?_
                      rotate_left
                      · intro W hW; obtain ⟨s1, s2, s3⟩ := hW; simp only [List.getElem_toArray, List.getElem_cons_succ, List.getElem_cons_zero]; go_simp; first | done | (with_reducible rfl)
                      simp only [List.getElem_toArray, List.getElem_cons_succ, List.getElem_cons_zero]
                      simp only [Act.put, List.setIfInBounds_toArray, List.set_cons_zero, List.set_cons_succ]
                      refine wpAnyH_take (i := 13) (v := ?_) rfl (by kernel_rfl) (by kernel_rfl) (by kernel_rfl) (fun _ _ _ h => h) (Or.inl ⟨by rfl, ?_⟩) hS0 ?_
                      rotate_left
                      · intro W hW; obtain ⟨s1, s2, s3⟩ := hW; simp only [List.getElem_toArray, List.getElem_cons_succ, List.getElem_cons_zero]; go_simp; first | done | (with_reducible rfl)
                      simp only [List.getElem_toArray, List.getElem_cons_succ, List.getElem_cons_zero]
                      simp only [Act.put, List.setIfInBounds_toArray, List.set_cons_zero, List.set_cons_succ]
                      refine wpAnyH_ready (rs := [14]) (by kernel_rfl) (by simp) ?_
                      refine AllReadyH.cons rfl (fun K hK => ?_) AllReadyH.nil
                      simp only [List.getElem_toArray, List.getElem_cons_succ, List.getElem_cons_zero]
                      go_simp
                      go_wp2_with ((go_at_call 34; (with_reducible refine (unhide HUNI).mono ?_); rintro e w3 ⟨⟨h3, c3, rfl, hh3, hf3⟩, hb3⟩; have z3 := hb3.size; have HF3 := hide hf3; have HB3 := hide hb3; have j1 := (hb3.cell (p := ⟨gU, k * 3, none⟩) (by show gU < wr.heap.size; omega)).trans hS0.1; have j2 := (hb3.cell (p := ⟨gw, q, none⟩) (by show gw < wr.heap.size; omega)).trans hS0.2.1; have j3 := (hb3.cell (p := ⟨O, m, none⟩) (by show O < wr.heap.size; omega)).trans hS0.2.2; have j4 := (hb3.cell (p := ⟨B12, 0, none⟩) (by show B12 < wr.heap.size; omega)).trans t0; have j5 := (hb3.frozen (p := ⟨B12, 0, none⟩) (by show B12 < wr.heap.size; omega)).trans t1; clear hf3 hb3))
                      refine hK.out _ _ ⟨j1, j2, j3⟩ (fun hS4 => ?_)
                      clear hK
                      refine wpAnyH_ready (rs := [15]) (by kernel_rfl) (by simp) ?_
                      refine AllReadyH.cons rfl (fun K hK => ?_) AllReadyH.nil
                      simp only [List.getElem_toArray, List.getElem_cons_succ, List.getElem_cons_zero]
                      go_simp
                      refine hK.out _ _ ⟨by rw [World.cell?_setCell_other _ _ _ _ (fun x => by injection x with x; omega)]; exact j1, by rw [World.cell?_setCell_other _ _ _ _ (fun x => by injection x with x; omega)]; exact j2, by rw [World.cell?_setCell_other _ _ _ _ (fun x => by injection x with x; omega)]; exact j3⟩ (fun _ => ?_)
                      clear hK
                      refine wpAnyH_done (by kernel_rfl) ?_ _
                      clear hS4
                      have HO3 := hide (show OpsAt (w3.setCell ⟨B12, 0, none⟩ (.slice (some ⟨h3, 0, none⟩) acc'.length c3)) (.slice (some ⟨h3, 0, none⟩) acc'.length c3) acc' from (show OpsAt w3 (.slice (some ⟨h3, 0, none⟩) acc'.length c3) acc' from ⟨_, _, rfl, Or.inr ⟨h3, rfl, (unhide HF3).1, (unhide HF3).ops⟩⟩).set B12 0 _ (fun g e => by have e' : h3 = g := (by simpa [Value.ownBlock] using e); simp at hh3; omega))
                      have n0 : (w3.setCell ⟨B12, 0, none⟩ (.slice (some ⟨h3, 0, none⟩) acc'.length c3)).cell? ⟨B12, 0, none⟩ = some (.slice (some ⟨h3, 0, none⟩) acc'.length c3) := World.cell?_setCell_same _ _ _ j4
                      have n1 : (w3.setCell ⟨B12, 0, none⟩ (.slice (some ⟨h3, 0, none⟩) acc'.length c3)).frozen? ⟨B12, 0, none⟩ = false := (World.frozen?_setCell _ _ _ _).trans j5
                      have hb3' : Below B12 W12 (w3.setCell ⟨B12, 0, none⟩ (.slice (some ⟨h3, 0, none⟩) acc'.length c3)) := (hb12.drew.trans ((unhide HB3).mono (by show B12 ≤ wr.heap.size; omega))).setCell (p := ⟨B12, 0, none⟩) (Nat.le_refl _) _
                      have hh3' : h3 ≠ B12 ∧ wi'.heap.size ≤ h3 := by simp at hh3; omega
                      clear j1 j2 j3 j4 j5 hS0 t0 t1 hh3
                      go_wp2_with fail
                      exact ⟨⟨q + 1, h3, c3, acc', by omega, by go_num, HACC', n0, n1, HO3, hh3', hb3'⟩, by simp [intOf]; omega⟩
                    · simp only [List.getElem_toArray, List.getElem_cons_succ, List.getElem_cons_zero]
                      go_simp
                      go_wp2_with ((go_at_call 16; (with_reducible refine (unhide HCALL).mono ?_); rintro e w2 ⟨rfl, hx⟩; obtain rfl := hx.symm; clear hx))
                      refine hK.out _ _ hS0 (fun _ => ?_)
                      clear hK
                      refine wpAnyH_take (i := 12) (v := ?_) rfl (by kernel_rfl) (by kernel_rfl) (by kernel_rfl) (fun _ _ _ h => h) (Or.inl ⟨by rfl, ?_⟩) hS0 ?_
                      rotate_left
                      · intro W hW; obtain ⟨s1, s2, s3⟩ := hW; simp only [List.getElem_toArray, List.getElem_cons_succ, List.getElem_cons_zero]; go_simp; first | done | (with_reducible rfl)
                      simp only [List.getElem_toArray, List.getElem_cons_succ, List.getElem_cons_zero]
                      simp only [Act.put, List.setIfInBounds_toArray, List.set_cons_zero, List.set_cons_succ]
                      refine wpAnyH_take (i := 13) (v := ?_) rfl (by kernel_rfl) (by kernel_rfl) (by kernel_rfl) (fun _ _ _ h => h) (Or.inl ⟨by rfl, ?_⟩) hS0 ?_
                      rotate_left
                      · intro W hW; obtain ⟨s1, s2, s3⟩ := hW; simp only [List.getElem_toArray, List.getElem_cons_succ, List.getElem_cons_zero]; go_simp; first | done | (with_reducible rfl)
                      simp only [List.getElem_toArray, List.getElem_cons_succ, List.getElem_cons_zero]
                      simp only [Act.put, List.setIfInBounds_toArray, List.set_cons_zero, List.set_cons_succ]
                      refine wpAnyH_ready (rs := [0]) (by kernel_rfl) (by simp) ?_
                      refine AllReadyH.cons rfl (fun K hK => ?_) AllReadyH.nil
                      simp only [List.getElem_toArray, List.getElem_cons_succ, List.getElem_cons_zero]
                      go_simp
                      refine hK.out _ _ hS0 (fun _ => ?_)
                      clear hK
                      refine wpAnyH_ready (rs := [14]) (by kernel_rfl) (by simp) ?_
                      refine AllReadyH.cons rfl (fun K hK => ?_) AllReadyH.nil
                      simp only [List.getElem_toArray, List.getElem_cons_succ, List.getElem_cons_zero]
                      go_simp
                      go_wp2_with ((go_at_call 34; (with_reducible refine (unhide HUNI).mono ?_); rintro e w3 ⟨⟨h3, c3, rfl, hh3, hf3⟩, hb3⟩; have z3 := hb3.size; have HF3 := hide hf3; have HB3 := hide hb3; have j1 := (hb3.cell (p := ⟨gU, k * 3, none⟩) (by show gU < wr.heap.size; omega)).trans hS0.1; have j2 := (hb3.cell (p := ⟨gw, q, none⟩) (by show gw < wr.heap.size; omega)).trans hS0.2.1; have j3 := (hb3.cell (p := ⟨O, m, none⟩) (by show O < wr.heap.size; omega)).trans hS0.2.2; have j4 := (hb3.cell (p := ⟨B12, 0, none⟩) (by show B12 < wr.heap.size; omega)).trans t0; have j5 := (hb3.frozen (p := ⟨B12, 0, none⟩) (by show B12 < wr.heap.size; omega)).trans t1; clear hf3 hb3))
                      refine hK.out _ _ ⟨j1, j2, j3⟩ (fun hS4 => ?_)
                      clear hK
                      refine wpAnyH_ready (rs := [15]) (by kernel_rfl) (by simp) ?_
                      refine AllReadyH.cons rfl (fun K hK => ?_) AllReadyH.nil
                      simp only [List.getElem_toArray, List.getElem_cons_succ, List.getElem_cons_zero]
                      go_simp
                      refine hK.out _ _ ⟨by rw [World.cell?_setCell_other _ _ _ _ (fun x => by injection x with x; omega)]; exact j1, by rw [World.cell?_setCell_other _ _ _ _ (fun x => by injection x with x; omega)]; exact j2, by rw [World.cell?_setCell_other _ _ _ _ (fun x => by injection x with x; omega)]; exact j3⟩ (fun _ => ?_)
                      clear hK
                      refine wpAnyH_done (by kernel_rfl) ?_ _
                      clear hS4
                      have HO3 := hide (show OpsAt (w3.setCell ⟨B12, 0, none⟩ (.slice (some ⟨h3, 0, none⟩) acc'.length c3)) (.slice (some ⟨h3, 0, none⟩) acc'.length c3) acc' from (show OpsAt w3 (.slice (some ⟨h3, 0, none⟩) acc'.length c3) acc' from ⟨_, _, rfl, Or.inr ⟨h3, rfl, (unhide HF3).1, (unhide HF3).ops⟩⟩).set B12 0 _ (fun g e => by have e' : h3 = g := (by simpa [Value.ownBlock] using e); simp at hh3; omega))
                      have n0 : (w3.setCell ⟨B12, 0, none⟩ (.slice (some ⟨h3, 0, none⟩) acc'.length c3)).cell? ⟨B12, 0, none⟩ = some (.slice (some ⟨h3, 0, none⟩) acc'.length c3) := World.cell?_setCell_same _ _ _ j4
                      have n1 : (w3.setCell ⟨B12, 0, none⟩ (.slice (some ⟨h3, 0, none⟩) acc'.length c3)).frozen? ⟨B12, 0, none⟩ = false := (World.frozen?_setCell _ _ _ _).trans j5
                      have hb3' : Below B12 W12 (w3.setCell ⟨B12, 0, none⟩ (.slice (some ⟨h3, 0, none⟩) acc'.length c3)) := (hb12.drew.trans ((unhide HB3).mono (by show B12 ≤ wr.heap.size; omega))).setCell (p := ⟨B12, 0, none⟩) (Nat.le_refl _) _
                      have hh3' : h3 ≠ B12 ∧ wi'.heap.size ≤ h3 := by simp at hh3; omega
                      clear j1 j2 j3 j4 j5 hS0 t0 t1 hh3
                      go_wp2_with fail
                      exact ⟨⟨q + 1, h3, c3, acc', by omega, by go_num, HACC', n0, n1, HO3, hh3', hb3'⟩, by simp [intOf]; omega⟩
                  · have hqe : q = us.length := by omega
                    obtain ⟨aw, cw, hv, _⟩ := hst
                    rw [hv] at v0
                    have HX := hide (show acc = scAcc (nmF ms) T (insAll [] (atU U k).os) (atU U k).us by
                      rw [unhide HACC, hqe, List.take_length, unhide HACC0, unhide HOS, unhide HUS])
                    have HSr := hide ((unhide HS).below hBi)
                    obtain ⟨vO, o0, o1, _⟩ := (unhide HSr).cs k hklt
                    obtain ⟨d0', d1'⟩ := (unhide HSr).dn.2 k hklt
                    have HND := hide ((unhide HSr).done hklt (OpsS.of (unhide HOA) ⟨h, rfl⟩) (fun g e => by have e' : h = g := (by simpa [Value.ownBlock] using e); omega))
                    have HNE := hide ((unhide HE).step (by rw [unhide HULN, unhide HNN]) (by rw [← unhide HNN]; exact hklt) (unhide HDK) (by rw [← unhide HUS, ← unhide HNN]; exact unhide HINk) (by rw [← unhide HUS]; exact unhide HALLU) (unhide HX))
                    have HNR := hide (show RndInv n rk (upB d k) r (k + 1) from (unhide HRI).up.next (fun _ => by simp [upB]))
                    have hOD' : D ≠ O := fun e => hOD e.symm
                    clear hqe hv v1 hbl HSr hBi hbw
                    go_wp2_with fail
                    exact ⟨⟨k + 1, upB d k, upT T k acc, by omega, by go_num, HND, HNE, HNR⟩, by simp [intOf]; omega⟩
        · have hkn : k = n := by omega
          have HR2 := hide (show RndInv n rk d (r + 1) 0 from (by rw [hkn] at HRI; exact (unhide HRI).round))
          clear hkn
          go_wp2_with fail
          exact ⟨⟨r + 1, d, T, by omega, by go_num, HS, HE, HR2⟩, by simp [intOf]; omega⟩
    · have hrn : r = n := by omega
      have HAD := hide (show ∀ i, i < n → d0 i = true from fun i hi => (unhide HRI) i hi (Or.inl (by have := (unhide HK2) i hi; omega)))
      have HF := hide (show ScE ms U T0 from fun i hi => ((unhide HE) i hi ((unhide HAD) i (by rw [unhide HNN]; exact hi))).2.1)
      have HC := hide (show ∀ i, i < n → (∀ o ∈ T0 i, o ∈ allOps U) ∧ ∃ v, wo.cell? ⟨O, i, none⟩ = some v ∧ OpsS wo v (T0 i) from fun i hi => by
        obtain ⟨v, h1, _, h3⟩ := (unhide HS).cs i hi
        exact ⟨((unhide HE) i (by rw [← unhide HNN]; exact hi) ((unhide HAD) i hi)).2.2.2, v, h1, (h3 ((unhide HAD) i hi)).1⟩)
      have hbe := (unhide HS).bel
      have hOl := (unhide HS).hOl
      clear hrn
      go_wp2_with fail
      go_ret
      have e := unhide HNN
      subst e
      exact ⟨O, T0, rfl, hO', hOl, HF, HC, hbe⟩
end Go.Proofs.YtokabkhnidlcnabGreatDoor
