import Derived.Test.YtokabkhnidlcnabGreatDoorL08
import Derived.Test.YtokabkhnidlcnabGreatDoorL11
import Derived.Test.YtokabkhnidlcnabGreatDoorL17
import Derived.Test.YtokabkhnidlcnabGreatDoorL21
import Derived.Test.YtokabkhnidlcnabGreatDoorL22

/-
  Walk: the program's ReadUnit.
-/
namespace Go.Proofs.YtokabkhnidlcnabGreatDoor
set_option maxRecDepth 100000
set_option linter.unusedSimpArgs false
set_option linter.unusedVariables false
open Go.RowKit

/-- What is left to read. -/
def mRest : Value → Value → Nat
  | .string r, .bool true => r.size + 1
  | _, _ => 0

theorem long_is {s : ByteArray} (h : 20000 < s.size) : UnitIs s [] [] ByteArray.empty 1 0 := Or.inl ⟨h, rfl, rfl, rfl, rfl, rfl⟩

set_option maxHeartbeats 16000000 in
theorem implReadUnit_any (s : ByteArray) (w : World) (hs : s.size ≤ maxLen) (hm : MaxL w) :
    Calls Tryz.prog 51 #[.string s] w (UnitAns w s) := by
  by_cases hlong : 20000 < s.size
  · have hlI : (20000 : Int) < (s.size : Int) := by omega
    have HP := hide (fun w' => unitAns_none (w := w) (w' := w') (long_is hlong))
    unfold maxLen at hs
    clear hlong
    go_enter Tryz.func51, Tryz.ntmps51
    go_wp2
    refine bodyPost_ret (v := .tuple #[.agg #[.slice none 0 0, .slice none 0 0, .string ⟨#[]⟩], .int .i64 1, .int .i64 0]) ?res rfl ((unhide HP) _ ?_)
    case res => simp [results, Tryz.results51, go_sem]
    first
      | exact below1 _ _
      | exact below_setCells (Nat.le_refl _) [.slice none 0 0, .slice none 0 0, .string ⟨#[]⟩] 0 _ (below1 _ _)
  have hs2 : s.size ≤ 20000 := by omega
  have hlI : ¬ (20000 : Int) < (s.size : Int) := by omega
  have HM := hide hm
  have hmg := hm.lt
  clear hm hlong hs
  go_enter Tryz.func51, Tryz.ntmps51
  go_wp2_with fail
  obtain ⟨W0, hW0⟩ : ∃ W0, W0 = (w.alloc (.cells #[.slice none 0 0, .slice none 0 0, .string ⟨#[]⟩] 40)).alloc (.cells #[.slice none 0 0, .slice none 0 0, .string ⟨#[]⟩] 40) := ⟨_, rfl⟩
  have HW0 := hide (show Below w.heap.size w W0 by rw [hW0]; exact (below1 _ _).alloc (by simp) _)
  have hz0 : w.heap.size + 2 ≤ W0.heap.size := by rw [hW0]; simp
  have HZ0 := hide (show ZeroU W0 w.heap.size by rw [hW0]; exact ⟨by simp [go_sem], by simp [go_sem], by simp [go_sem], fun o => by simp [go_sem]⟩)
  have HU0 := hide (show UnM W0 (w.heap.size + 1) (w.heap.size + 1) (.slice none 0 0) (.slice none 0 0) [] [] ⟨#[]⟩ by rw [hW0]; exact ⟨by simp [go_sem], by simp [go_sem], by simp [go_sem], fun o => by simp [go_sem], Nat.le_refl _, World.ownsRow_nil _ _ _ _, World.ownsRow_nil _ _ _ _, by simp [Value.ownBlock], by simp [Value.ownBlock], fun g e => by cases e⟩)
  rw [← hW0]
  clear hW0
  go_loopw [6, 7, 8] (fun rest more num wr => ∃ (r : ByteArray) (m : Bool) (n : Nat), rest = .string r ∧ more = .bool m ∧ num = .int .i64 (n : Int) ∧ n ≤ 20002 ∧ Below (w.heap.size + 1) W0 wr ∧ ((m = false ∧ Hid (UnitIs s [] [] ByteArray.empty 3 0)) ∨ (m = true ∧ ∃ (a : Nat) (us : List ByteArray) (os : List OpR) (vu vo : Value), a ≤ s.size ∧ n ≤ a + 1 ∧ us.length ≤ a ∧ os.length ≤ a ∧ Hid (r = s.extract a s.size) ∧ Hid (Then s (pcs 10 s a) n us os) ∧ Hid (UnM wr (w.heap.size + 1) (w.heap.size + 1) vu vo us os ⟨#[]⟩)))) (fun rest more _ _ => mRest rest more)
  case atStart => exact ⟨s, true, 1, rfl, rfl, rfl, by omega, Below.refl _ _, Or.inr ⟨rfl, 0, [], [], _, _, Nat.zero_le _, by omega, Nat.le_refl _, Nat.le_refl _, hide (ext_zero s).symm, hide (Then.start hs2), HU0⟩⟩
  case round =>
    clear HU0
    obtain ⟨r, m, n, rfl, rfl, rfl, hn, hbel, hcase⟩ := hrel
    have HBW := hide (show Below w.heap.size w wr from (unhide HW0).trans (hbel.mono (by omega)))
    have hzr : w.heap.size + 2 ≤ wr.heap.size := Nat.le_trans hz0 hbel.size
    obtain ⟨y0, y1, y2, y3⟩ := (unhide HZ0).below hbel (by omega)
    have HMr := hide ((unhide HM).below (unhide HBW))
    rcases hcase with ⟨rfl, HE⟩ | ⟨rfl, a, us, os, vu, vo, ha, hna, hua, hoa, HR, HT, HU⟩
    · have HP := hide (fun w' => unitAns_none (w := w) (w' := w') (unhide HE))
      have y30 := y3 0
      have y31 := y3 1
      have y32 := y3 2
      go_wp2
      refine bodyPost_ret (v := .tuple #[.agg #[.slice none 0 0, .slice none 0 0, .string ⟨#[]⟩], .int .i64 3, .int .i64 0]) ?res rfl ((unhide HP) _ ?_)
      case res => simp [results, Tryz.results51, go_sem, y0, y1, y2]
      first
        | exact unhide HBW
        | exact below_setCells (Nat.le_refl _) [.slice none 0 0, .slice none 0 0, .string ⟨#[]⟩] 0 _ (unhide HBW)
    · obtain ⟨z, hz⟩ : ∃ z, z = nx 10 s a := ⟨_, rfl⟩
      obtain ⟨g1, g2, g3, g4⟩ := nx_spec 10 s a ha
      rw [← hz] at g1 g2
      have HST := pcs_step 10 s a ha
      rw [← hz] at HST
      obtain ⟨t, ht⟩ : ∃ t, t = s.extract a z := ⟨_, rfl⟩
      have hts : t.size ≤ 20000 := by rw [ht, size_ext]; omega
      have HCUT := hide (cut_at s r a (unhide HR) ha hs2 wr (unhide HMr))
      rw [← hz, ← ht] at HCUT
      have HTT := hide (HST ▸ unhide HT)
      have hrs : r.size = s.size - a := by rw [unhide HR, size_ext, Nat.min_self]
      have HRS := hide hrs
      have HTE := hide ht
      obtain ⟨mo, hmo⟩ : ∃ mo, mo = decide (z < s.size) := ⟨_, rfl⟩
      rw [← hmo] at HCUT
      have HMO := hide hmo
      have HUL := (unhide HU).lt
      have HY3 := hide y3
      have y30 := y3 0
      have y31 := y3 1
      have y32 := y3 2
      clear hz g3 g4 HST ht hrs HT hmo HM HZ0 HR y3
      go_wp2_with fail
      (with_reducible refine (unhide HCUT).mono ?_)
      rintro e w1 ⟨rfl, hb1⟩
      have HB1 := hide hb1
      have z1 := hb1.size
      have HWO := hide (wordsOf_any t w1 hts ((unhide HMr).below hb1))
      clear hb1 HCUT HMr
      go_wp2_with fail
      (with_reducible refine (unhide HWO).mono ?_)
      rintro e w2 ⟨v, rfl, hr2, hl2, hb2⟩
      obtain ⟨ws, hws⟩ : ∃ ws, ws = wds t := ⟨_, rfl⟩
      rw [← hws] at hr2 hl2
      have HWS := hide hws
      have HB2 := hide ((unhide HB1).trans (hb2.mono z1))
      have z2 : wr.heap.size ≤ w2.heap.size := Nat.le_trans z1 hb2.size
      have HU2 := hide ((unhide HU).below (unhide HB2))
      have HBW2 := hide ((unhide HBW).trans ((unhide HB2).mono (by omega)))
      have HB02 := hide (show Below (w.heap.size + 1) W0 w2 from hbel.trans ((unhide HB2).mono (by omega)))
      have HST := hide hr2.strs
      have HNE := hide (show ∀ q, v.ownBlock = some q → q ≠ w.heap.size + 1 ∧ vu.ownBlock ≠ some q from fun q e => by
        have := (hr2.lt q e).1
        exact ⟨by omega, fun e2 => by have := ((unhide HU).ru.lt q e2).2; omega⟩)
      have HSZ := hide (show ∀ x ∈ ws, x.size ≤ maxLen from fun x hx => by
        have := wds_size (l := t) (by rw [← unhide HWS]; exact hx)
        unfold maxLen
        omega)
      obtain ⟨x0, x1, x2, x3⟩ : ZeroU w2 w.heap.size := ZeroU.below ⟨y0, y1, y2, fun o => (unhide HY3) o⟩ (unhide HB2) (by omega)
      have x30 := x3 0
      have x31 := x3 1
      have x32 := x3 2
      have hwl : ws.length ≤ 20001 := by omega
      by_cases hbeg : ws = [wBegin]
      · have HI := hide (show UnitIs s us os (bodyB s z) 0 0 from (unhide HTT).begin (by show wds (s.extract a z) = _; rw [← unhide HTE, ← unhide HWS]; exact hbeg))
        obtain ⟨gw, c, rfl, hgw, hc⟩ := (unhide HST).lt (by rw [hbeg]; simp)
        have k0 : w2.cell? ⟨gw, 0, none⟩ = some (.string ⟨#[98, 101, 103, 105, 110]⟩) := hc 0 _ (by rw [hbeg]; rfl)
        have hl1 : ws.length = 1 := by rw [hbeg]; rfl
        rw [hl1]
        obtain ⟨au, cu, rfl⟩ := rowS_slice (unhide HU2).ru
        obtain ⟨ao, co, rfl⟩ : ∃ a c, vo = .slice a os.length c := rowS_slice (unhide HU2).ro
        have u0 := (unhide HU2).c0
        have u1 := (unhide HU2).c1
        have u2 := (unhide HU2).c2
        have f2 := (unhide HU2).fz 2
        obtain ⟨ans, _⟩ := unitAns_some (b' := bodyB s z) (by omega) (unhide HU2) (unhide HBW2) (unhide HI) (by omega) (by omega)
        have HANS := hide ans
        have e1 : w.heap.size + 1 ≠ w.heap.size := by omega
        have e2 : w.heap.size ≠ w.heap.size + 1 := by omega
        clear ans hc hbeg hws hr2 hl2 hb2 x3 HST HNE HSZ HWO HWS hl1
        go_wp2_with fail
        refine bodyPost_ret (v := .tuple #[.agg #[.slice au us.length cu, .slice ao os.length co, .string (bodyB s z)], .int .i64 0, .int .i64 0]) ?res rfl (unhide HANS)
        case res => simp [results, Tryz.results51, go_sem, x0, x1, x2, e1, e2, u0, u1, u2]
      · have hnb : wds (s.extract a z) ≠ [wBegin] := by rw [← unhide HTE, ← unhide HWS]; exact hbeg
        have HTK := hide (take_anyU (w.heap.size + 1) (w.heap.size + 1) vu vo v us os ⟨#[]⟩ ws w2 (unhide HU2) (unhide HST) (unhide HSZ) (unhide HNE) (by omega) (by omega) hwl)
        have HBAD := hide (fun (hl : ∀ us' os', ¬ LineIs ws us os us' os') => (unhide HTT).bad hnb (by show ∀ us' os', ¬ LineIs (wds (s.extract a z)) us os us' os'; rw [← unhide HTE, ← unhide HWS]; exact hl))
        have HNXT := hide (fun us' os' (hl : LineIs ws us os us' os') => (unhide HTT).next hnb (us' := us') (os' := os') (by show LineIs (wds (s.extract a z)) us os us' os'; rw [← unhide HTE, ← unhide HWS]; exact hl))
        have hcond : ((ws.length : Int) == 1) = false ∨ (((ws.length : Int) == 1) = true ∧ ∃ gw c k, v = .slice (some ⟨gw, 0, none⟩) ws.length c ∧ w2.cell? ⟨gw, 0, none⟩ = some (.string k) ∧ (k.toList == [98, 101, 103, 105, 110]) = false) := by
          by_cases e : ws.length = 1
          · right
            obtain ⟨gw, c, hv, hgw, hc⟩ := (unhide HST).lt (by omega)
            match ws, e with
            | [k], _ => exact ⟨rfl, gw, c, k, hv, hc 0 k rfl, lit_no (fun ek => hbeg (by rw [ek]; rfl))⟩
          · left; simp; omega
        obtain ⟨av, cv, hv⟩ := rowS_slice hr2
        clear hbeg hnb hws hr2 hl2 hb2 x3 HNE HSZ HWO HWS HST
        rcases hcond with hc1 | ⟨hc1, gw, c, k, hv2, k0, hk⟩
        all_goals
          first
            | (subst hv2; clear hv; have hg00 : (0 : Int) < (ws.length : Int) := (by have := beq_iff_eq.1 hc1; omega))
            | subst hv
          go_wp2_with fail
          (with_reducible refine (unhide HTK).mono ?_)
          rintro e w3 ⟨ok, rfl, hcase, hb3⟩
          have HBW3 := hide ((unhide HBW2).trans (hb3.mono (by omega)))
          have HB03 := hide (show Below (w.heap.size + 1) W0 w3 from (unhide HB02).trans hb3)
          have q0 := (hb3.cell (p := ⟨w.heap.size, 0, none⟩) (Nat.lt_succ_self _)).trans x0
          have q1 := (hb3.cell (p := ⟨w.heap.size, 1, none⟩) (Nat.lt_succ_self _)).trans x1
          have q2 := (hb3.cell (p := ⟨w.heap.size, 2, none⟩) (Nat.lt_succ_self _)).trans x2
          have q30 := (hb3.frozen (p := ⟨w.heap.size, 0, none⟩) (Nat.lt_succ_self _)).trans x30
          have q31 := (hb3.frozen (p := ⟨w.heap.size, 1, none⟩) (Nat.lt_succ_self _)).trans x31
          have q32 := (hb3.frozen (p := ⟨w.heap.size, 2, none⟩) (Nat.lt_succ_self _)).trans x32
          clear hb3 HTK
          rcases hcase with ⟨rfl, us', os', vu', vo', hline, hun, hlu, hlo⟩ | ⟨rfl, hline⟩
          · have HTH := hide ((unhide HNXT) us' os' hline)
            have HUN := hide hun
            clear hline hun HBAD HNXT
            go_wp2_with fail
            refine ⟨⟨bodyB s z, mo, n + 1, rfl, rfl, by go_num, by omega, unhide HB03, ?_⟩, ?_⟩
            · have hmo := unhide HMO
              by_cases hzs : z < s.size
              · right
                refine ⟨by rw [hmo]; simpa using hzs, z + 1, us', os', vu', vo', by omega, by omega, by omega, by omega, hide ?_, hide ?_, HUN⟩
                · unfold bodyB; rw [if_pos hzs]
                · have := unhide HTH; rw [if_pos hzs] at this; exact this
              · left
                refine ⟨by rw [hmo]; simpa using hzs, hide ?_⟩
                have := unhide HTH
                rw [if_neg hzs] at this
                exact this.fin
            · have hmo := unhide HMO
              have hrs := unhide HRS
              by_cases hzs : z < s.size
              · have : mo = true := by rw [hmo]; simpa using hzs
                subst this
                simp only [mRest]
                unfold bodyB
                rw [if_pos hzs, size_ext]
                omega
              · have : mo = false := by rw [hmo]; simpa using hzs
                subst this
                simp only [mRest]
                omega
          · have HI := hide ((unhide HBAD) hline)
            have HP := hide (fun w' => unitAns_none (w := w) (w' := w') (unhide HI))
            clear hline HBAD HNXT
            go_wp2_with fail
            refine bodyPost_ret (v := .tuple #[.agg #[.slice none 0 0, .slice none 0 0, .string ⟨#[]⟩], .int .i64 2, .int .i64 (n : Int)]) ?res rfl ((unhide HP) _ ?_)
            case res => simp [results, Tryz.results51, go_sem, q0, q1, q2]
            first
              | exact unhide HBW3
              | exact below_setCells (Nat.le_refl _) [.slice none 0 0, .slice none 0 0, .string ⟨#[]⟩] 0 _ (unhide HBW3)
end Go.Proofs.YtokabkhnidlcnabGreatDoor

/-
  The program's record, as it lies in memory while its modules are read.
-/
namespace Go.Proofs.YtokabkhnidlcnabGreatDoor
set_option maxRecDepth 100000
set_option linter.unusedSimpArgs false
set_option linter.unusedVariables false
open Go.RowKit Go.Maps

/-- What the units point to lies from block B on. -/
def UnLo (B : Nat) (vs : List UvR) : Prop := ∀ i, i < vs.length → (∀ g, (atV vs i).vu.ownBlock = some g → B ≤ g) ∧ (∀ g, (atV vs i).vo.ownBlock = some g → B ≤ g)

theorem UnLo.step {B : Nat} {vs : List UvR} {x : UvR} (h : UnLo B vs) (hu : ∀ g, x.vu.ownBlock = some g → B ≤ g) (ho : ∀ g, x.vo.ownBlock = some g → B ≤ g) : UnLo B (vs ++ [x]) := fun i hi => by
  by_cases e : i < vs.length
  · rw [atV_left e]; exact h i e
  · have e1 : i = vs.length := by simp at hi; omega
    subst e1
    rw [atV_last]
    exact ⟨hu, ho⟩

/-- The record while its modules are read. -/
structure PgA (w : World) (B P bs : Nat) (am : Option Addr) (cm n : Nat) (v1 : Value) (vs : List UvR) (U : List UnR) : Prop where
  hP : P < B
  hbs : bs < B
  hne : bs ≠ P
  c0 : w.cell? ⟨P, 0, none⟩ = some (.slice am n cm)
  c1 : w.cell? ⟨P, 1, none⟩ = some v1
  c2 : w.cell? ⟨P, 2, none⟩ = some (.slice none 0 0)
  c3 : w.cell? ⟨P, 3, none⟩ = some (.map none)
  c4 : w.cell? ⟨P, 4, none⟩ = some (.map (some bs))
  fz : ∀ o, w.frozen? ⟨P, o, none⟩ = false
  row : RowV3 w B v1 vs
  uns : UnsOk w v1 vs U
  lo : UnLo B vs
  sm : SMap w bs 0 (fun _ => none)

theorem PgA.lt {w : World} {B P bs : Nat} {am : Option Addr} {cm n : Nat} {v1 : Value} {vs : List UvR} {U : List UnR} (h : PgA w B P bs am cm n v1 vs U) : P < w.heap.size := World.block_lt_of_cell? _ _ h.c0

/-- One unit more. -/
theorem PgA.step {w w1 w4 : World} {B P bs : Nat} {am : Option Addr} {cm n : Nat} {v1 v4 : Value} {vs : List UvR} {U : List UnR} {x : UvR} {y : UnR} (h : PgA w B P bs am cm n v1 vs U) (hB : B ≤ w.heap.size) (hb : Below w.heap.size w w1)
    (h1 : StrsAt w1 x.vu y.us) (h2 : OpsAt w1 x.vo y.os) (h3 : x.b = y.b) (hu : ∀ g, x.vu.ownBlock = some g → w.heap.size ≤ g ∧ g < w1.heap.size) (ho : ∀ g, x.vo.ownBlock = some g → w.heap.size ≤ g ∧ g < w1.heap.size)
    (hg : w1.grownBy w4 v1.ownBlock) (hr : RowV3 w4 B v4 (vs ++ [x])) (hat : v4.ownBlock = v1.ownBlock ∨ ∃ k, v4.ownBlock = some k ∧ w1.heap.size ≤ k) :
    PgA (w4.setCell ⟨P, 1, none⟩ v4) B P bs am cm n v4 (vs ++ [x]) (U ++ [y]) := by
  have hPl := h.lt
  have hz := hb.size
  have hz4 := hg.size
  have hPB := h.hP
  have hbsB := h.hbs
  have hv1 : ∀ g, v1.ownBlock = some g → B ≤ g ∧ g < w.heap.size := h.row.lt
  have nP : v1.ownBlock ≠ some P := fun e => by have := (hv1 P e).1; omega
  have nb : v1.ownBlock ≠ some bs := fun e => by have := (hv1 bs e).1; omega
  have kc := fun q => (grown_cell hg (b := P) (by omega) nP q).trans (hb.cell (p := ⟨P, q, none⟩) hPl)
  have kf := fun q => (frozen_grown hg (b := P) (by omega) nP q).trans (hb.frozen (p := ⟨P, q, none⟩) hPl)
  have n4 : v4.ownBlock ≠ some P := fun e => by
    rcases hat with h | ⟨k, h, hk⟩
    · exact nP (h.symm.trans e)
    · rw [h] at e; injection e with e; omega
  have hU := h.uns.step hb (fun g e => (hv1 g e).2) h1 h2 h3 hu ho hg hat
  have oth : ∀ (q : Nat), q ≠ 1 → (w4.setCell ⟨P, 1, none⟩ v4).cell? ⟨P, q, none⟩ = w.cell? ⟨P, q, none⟩ := fun q hq => (World.cell?_setCell_other _ _ _ _ (by first | (simp; omega) | (intro x; injection x with _ x; omega))).trans (kc q)
  have sg := set_grown w4 P 1 v4
  have hlo := h.lo.step (x := x) (fun g e => by have := (hu g e).1; omega) (fun g e => by have := (ho g e).1; omega)
  refine ⟨h.hP, h.hbs, h.hne, (oth 0 (by omega)).trans h.c0, World.cell?_setCell_same _ _ _ ((kc 1).trans h.c1), (oth 2 (by omega)).trans h.c2, (oth 3 (by omega)).trans h.c3, (oth 4 (by omega)).trans h.c4, fun o => (World.frozen?_setCell _ _ _ _).trans ((kf o).trans (h.fz o)), hr.grown sg (fun k e x => n4 (e.trans x.symm)), ⟨hU.1, fun i hi => ?_⟩, hlo, ((h.sm.kept (grown_belN hb none) (by simp)).kept hg (fun e => nb e.symm)).kept sg (fun e => h.hne (by injection e))⟩
  obtain ⟨⟨q1, q2, q3⟩, q4, q5⟩ := hU.2 i hi
  exact ⟨⟨q1.grown sg (fun g e x => by injection x with x; have := (hlo i hi).1 g e; omega), q2.grown sg (fun g e x => by injection x with x; have := (hlo i hi).2 g e; omega), q3⟩, fun g e => ⟨(q4 g e).1, by simpa [World.setCell] using (q4 g e).2⟩, fun g e => ⟨(q5 g e).1, by simpa [World.setCell] using (q5 g e).2⟩⟩
end Go.Proofs.YtokabkhnidlcnabGreatDoor

/-
  The program's record, as it lies in memory once its modules are read; what is read out of it.
-/
namespace Go.Proofs.YtokabkhnidlcnabGreatDoor
set_option maxRecDepth 100000
set_option linter.unusedSimpArgs false
set_option linter.unusedVariables false
open Go.RowKit Go.Maps

theorem row_same {w w' : World} {B e s : Nat} {v : Value} {n : Nat} {xs : List Value} (h : w.ownsRow B e s v n xs) (hs : ∀ g, v.ownBlock = some g → w'.heap[g]? = w.heap[g]?) : w'.ownsRow B e s v n xs := by
  obtain ⟨a, h1 | ⟨g, cap, cur, h1, h2, h3, h4⟩⟩ := h
  · exact ⟨a, Or.inl h1⟩
  · exact ⟨a, Or.inr ⟨g, cap, cur, h1, h2, (hs g (by rw [h1]; rfl)).trans h3, h4⟩⟩

theorem StrsAt.same {w w' : World} {v : Value} {us : List ByteArray} (h : StrsAt w v us) (hz : w.heap.size ≤ w'.heap.size) (hs : ∀ g, v.ownBlock = some g → w'.heap[g]? = w.heap[g]?) : StrsAt w' v us := by
  obtain ⟨a, c, rfl, h0 | ⟨g, rfl, hg, hc⟩⟩ := h
  · exact ⟨a, c, rfl, Or.inl h0⟩
  · exact ⟨_, c, rfl, Or.inr ⟨g, rfl, Nat.lt_of_lt_of_le hg hz, fun j x hj => (World.cell?_of_block (hs g rfl)).trans (hc j x hj)⟩⟩

theorem OpsAt.same {w w' : World} {v : Value} {us : List OpR} (h : OpsAt w v us) (hz : w.heap.size ≤ w'.heap.size) (hs : ∀ g, v.ownBlock = some g → w'.heap[g]? = w.heap[g]?) : OpsAt w' v us := by
  obtain ⟨a, c, rfl, h0 | ⟨g, rfl, hg, hc⟩⟩ := h
  · exact ⟨a, c, rfl, Or.inl h0⟩
  · refine ⟨_, c, rfl, Or.inr ⟨g, rfl, Nat.lt_of_lt_of_le hg hz, fun i hi => ?_⟩⟩
    have hk := fun q => (World.cell?_of_block (w := w) (w' := w') (a := ⟨g, q, none⟩) (hs g rfl))
    obtain ⟨h1, h2, h3, h4⟩ := hc i hi
    exact ⟨(hk _).trans h1, (hk _).trans h2, (hk _).trans h3, (hk _).trans h4⟩

/-- The record once its modules are read. -/
structure PgC (w : World) (B C P : Nat) (am : Option Addr) (cm n : Nat) (v1 : Value) (vs : List UvR) (U : List UnR) : Prop where
  c0 : w.cell? ⟨P, 0, none⟩ = some (.slice am n cm)
  c1 : w.cell? ⟨P, 1, none⟩ = some v1
  row : RowV3 w B v1 vs
  hv : ∀ g, v1.ownBlock = some g → g < C
  uns : UnsAt w C vs U
  lo : UnLo B vs
  ln : vs.length ≤ n ∧ n ≤ vs.length

theorem PgC.lt {w : World} {B C P : Nat} {am : Option Addr} {cm n : Nat} {v1 : Value} {vs : List UvR} {U : List UnR} (h : PgC w B C P am cm n v1 vs U) : P < w.heap.size := World.block_lt_of_cell? _ _ h.c0

theorem PgC.keep {w w' : World} {B C P : Nat} {am : Option Addr} {cm n : Nat} {v1 : Value} {vs : List UvR} {U : List UnR} (h : PgC w B C P am cm n v1 vs U) (hz : w.heap.size ≤ w'.heap.size) (hs : ∀ i, B ≤ i → i < C → w'.heap[i]? = w.heap[i]?) (h0 : w'.cell? ⟨P, 0, none⟩ = w.cell? ⟨P, 0, none⟩) (h1 : w'.cell? ⟨P, 1, none⟩ = w.cell? ⟨P, 1, none⟩) : PgC w' B C P am cm n v1 vs U := by
  refine ⟨h0.trans h.c0, h1.trans h.c1, row_same h.row (fun g e => hs g (h.row.lt g e).1 (h.hv g e)), h.hv, ⟨h.uns.1, fun i hi => ?_⟩, h.lo, h.ln⟩
  obtain ⟨⟨q1, q2, q3⟩, q4, q5⟩ := h.uns.2 i hi
  exact ⟨⟨q1.same hz (fun g e => hs g ((h.lo i hi).1 g e) (q4 g e)), q2.same hz (fun g e => hs g ((h.lo i hi).2 g e) (q5 g e)), q3⟩, q4, q5⟩

theorem PgC.below {w w' : World} {B C P : Nat} {am : Option Addr} {cm n : Nat} {v1 : Value} {vs : List UvR} {U : List UnR} (h : PgC w B C P am cm n v1 vs U) (hC : C ≤ w.heap.size) (hb : Below w.heap.size w w') : PgC w' B C P am cm n v1 vs U :=
  h.keep hb.size (fun i _ hi => hb.block i (by omega)) (hb.cell (p := ⟨P, 0, none⟩) h.lt) (hb.cell (p := ⟨P, 1, none⟩) h.lt)

/-- Where names alone are entered. -/
theorem PgC.eff {w w' : World} {B C P : Nat} {am : Option Addr} {cm n : Nat} {v1 : Value} {vs : List UvR} {U : List UnR} {kv : Value} {pv : Option Nat} (h : PgC w B C P am cm n v1 vs U) (hP : P < B) (hC : C ≤ w.heap.size) (he : Eff w w' P 2 kv pv) (hk : ∀ g, kv.ownBlock = some g → C ≤ g) (hp : ∀ g, pv = some g → C ≤ g) : PgC w' B C P am cm n v1 vs U :=
  h.keep he.size (fun i hB hi => he.blk i (by omega) (by omega) (fun e => by have := hk i e; omega) (fun e => by have := hp i e; omega)) (he.cel 0 (by omega) (by omega)).1 (he.cel 1 (by omega) (by omega)).1

/-- The three cells of the unit at a place. -/
theorem PgC.at {w : World} {B C P : Nat} {am : Option Addr} {cm n : Nat} {v1 : Value} {vs : List UvR} {U : List UnR} (h : PgC w B C P am cm n v1 vs U) {i : Nat} (hi : i < n) :
    ∃ g c, v1 = .slice (some ⟨g, 0, none⟩) vs.length c ∧ w.cell? ⟨g, i * 3, none⟩ = some (atV vs i).vu ∧ w.cell? ⟨g, i * 3 + 1, none⟩ = some (atV vs i).vo ∧ w.cell? ⟨g, i * 3 + 2, none⟩ = some (.string (atV vs i).b) := by
  have hl := h.ln
  have hr := h.row
  obtain ⟨a, h1 | ⟨g, cap, cur, h1, h2, h3, h4⟩⟩ := h.row
  · have := h1.2; simp at this; omega
  · subst h1
    obtain ⟨x, y, z⟩ := hr.ops i (by omega)
    exact ⟨g, cap, rfl, x, y, z⟩
end Go.Proofs.YtokabkhnidlcnabGreatDoor
