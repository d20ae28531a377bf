/-
  Walk: the program's ReadUnit.
-/
import Derived.Test.YtokabkhnidlcnabDoorUnitAns
import Derived.Test.YtokabkhnidlcnabDoorImplTake
import Derived.Test.YtokabkhnidlcnabDoorImplWds
namespace Go.Proofs.YtokabkhnidlcnabDoor
set_option maxRecDepth 100000
set_option linter.unusedSimpArgs false
set_option linter.unusedVariables false
open Go.RowKit

/-- What is left to read. -/
def mRest : Value → Value → Nat
  | .string r, .bool true => r.size + 1
  | _, _ => 0

theorem long_is {s : ByteArray} (h : 20000 < s.size) : UnitIs s [] [] ByteArray.empty 1 0 := Or.inl ⟨h, rfl, rfl, rfl, rfl, rfl⟩

set_option maxHeartbeats 16000000 in
theorem implReadUnit_any (s : ByteArray) (w : World) (hs : s.size ≤ maxLen) (hm : MaxL w) :
    Calls Tryd.prog 5 #[.string s] w (UnitAns w s) := by
  by_cases hlong : 20000 < s.size
  · have hlI : (20000 : Int) < (s.size : Int) := by omega
    have HP := hide (fun w' => unitAns_none (w := w) (w' := w') (long_is hlong))
    unfold maxLen at hs
    clear hlong
    go_enter Tryd.func5, Tryd.ntmps5
    go_wp2
    refine bodyPost_ret (v := .tuple #[.agg #[.slice none 0 0, .slice none 0 0, .string ⟨#[]⟩], .int .i64 1, .int .i64 0]) ?res rfl ((unhide HP) _ ?_)
    case res => simp [results, Tryd.results5, go_sem]
    first
      | exact below1 _ _
      | exact below_setCells (Nat.le_refl _) [.slice none 0 0, .slice none 0 0, .string ⟨#[]⟩] 0 _ (below1 _ _)
  have hs2 : s.size ≤ 20000 := by omega
  have hlI : ¬ (20000 : Int) < (s.size : Int) := by omega
  have HM := hide hm
  have hmg := hm.lt
  clear hm hlong hs
  go_enter Tryd.func5, Tryd.ntmps5
  go_wp2_with fail
  obtain ⟨W0, hW0⟩ : ∃ W0, W0 = (w.alloc (.cells #[.slice none 0 0, .slice none 0 0, .string ⟨#[]⟩] 25)).alloc (.cells #[.slice none 0 0, .slice none 0 0, .string ⟨#[]⟩] 25) := ⟨_, rfl⟩
  have HW0 := hide (show Below w.heap.size w W0 by rw [hW0]; exact (below1 _ _).alloc (by simp) _)
  have hz0 : w.heap.size + 2 ≤ W0.heap.size := by rw [hW0]; simp
  have HZ0 := hide (show ZeroU W0 w.heap.size by rw [hW0]; exact ⟨by simp [go_sem], by simp [go_sem], by simp [go_sem], fun o => by simp [go_sem]⟩)
  have HU0 := hide (show UnM W0 (w.heap.size + 1) (w.heap.size + 1) (.slice none 0 0) (.slice none 0 0) [] [] ⟨#[]⟩ by rw [hW0]; exact ⟨by simp [go_sem], by simp [go_sem], by simp [go_sem], fun o => by simp [go_sem], Nat.le_refl _, World.ownsRow_nil _ _ _ _, World.ownsRow_nil _ _ _ _, by simp [Value.ownBlock], by simp [Value.ownBlock], fun g e => by cases e⟩)
  rw [← hW0]
  clear hW0
  go_loopw [6, 7, 8] (fun rest more num wr => ∃ (r : ByteArray) (m : Bool) (n : Nat), rest = .string r ∧ more = .bool m ∧ num = .int .i64 (n : Int) ∧ n ≤ 20002 ∧ Below (w.heap.size + 1) W0 wr ∧ ((m = false ∧ Hid (UnitIs s [] [] ByteArray.empty 3 0)) ∨ (m = true ∧ ∃ (a : Nat) (us : List ByteArray) (os : List OpR) (vu vo : Value), a ≤ s.size ∧ n ≤ a + 1 ∧ us.length ≤ a ∧ os.length ≤ a ∧ Hid (r = s.extract a s.size) ∧ Hid (Then s (pcs 10 s a) n us os) ∧ Hid (UnM wr (w.heap.size + 1) (w.heap.size + 1) vu vo us os ⟨#[]⟩)))) (fun rest more _ _ => mRest rest more)
  case atStart => exact ⟨s, true, 1, rfl, rfl, rfl, by omega, Below.refl _ _, Or.inr ⟨rfl, 0, [], [], _, _, Nat.zero_le _, by omega, Nat.le_refl _, Nat.le_refl _, hide (ext_zero s).symm, hide (Then.start hs2), HU0⟩⟩
  case round =>
    clear HU0
    obtain ⟨r, m, n, rfl, rfl, rfl, hn, hbel, hcase⟩ := hrel
    have HBW := hide (show Below w.heap.size w wr from (unhide HW0).trans (hbel.mono (by omega)))
    have hzr : w.heap.size + 2 ≤ wr.heap.size := Nat.le_trans hz0 hbel.size
    obtain ⟨y0, y1, y2, y3⟩ := (unhide HZ0).below hbel (by omega)
    have HMr := hide ((unhide HM).below (unhide HBW))
    rcases hcase with ⟨rfl, HE⟩ | ⟨rfl, a, us, os, vu, vo, ha, hna, hua, hoa, HR, HT, HU⟩
    · have HP := hide (fun w' => unitAns_none (w := w) (w' := w') (unhide HE))
      have y30 := y3 0
      have y31 := y3 1
      have y32 := y3 2
      go_wp2
      refine bodyPost_ret (v := .tuple #[.agg #[.slice none 0 0, .slice none 0 0, .string ⟨#[]⟩], .int .i64 3, .int .i64 0]) ?res rfl ((unhide HP) _ ?_)
      case res => simp [results, Tryd.results5, go_sem, y0, y1, y2]
      first
        | exact unhide HBW
        | exact below_setCells (Nat.le_refl _) [.slice none 0 0, .slice none 0 0, .string ⟨#[]⟩] 0 _ (unhide HBW)
    · obtain ⟨z, hz⟩ : ∃ z, z = nx 10 s a := ⟨_, rfl⟩
      obtain ⟨g1, g2, g3, g4⟩ := nx_spec 10 s a ha
      rw [← hz] at g1 g2
      have HST := pcs_step 10 s a ha
      rw [← hz] at HST
      obtain ⟨t, ht⟩ : ∃ t, t = s.extract a z := ⟨_, rfl⟩
      have hts : t.size ≤ 20000 := by rw [ht, size_ext]; omega
      have HCUT := hide (cut_at s r a (unhide HR) ha hs2 wr (unhide HMr))
      rw [← hz, ← ht] at HCUT
      have HTT := hide (HST ▸ unhide HT)
      have hrs : r.size = s.size - a := by rw [unhide HR, size_ext, Nat.min_self]
      have HRS := hide hrs
      have HTE := hide ht
      obtain ⟨mo, hmo⟩ : ∃ mo, mo = decide (z < s.size) := ⟨_, rfl⟩
      rw [← hmo] at HCUT
      have HMO := hide hmo
      have HUL := (unhide HU).lt
      have HY3 := hide y3
      have y30 := y3 0
      have y31 := y3 1
      have y32 := y3 2
      clear hz g3 g4 HST ht hrs HT hmo HM HZ0 HR y3
      go_wp2_with fail
      (with_reducible refine (unhide HCUT).mono ?_)
      rintro e w1 ⟨rfl, hb1⟩
      have HB1 := hide hb1
      have z1 := hb1.size
      have HWO := hide (wordsOf_any t w1 hts ((unhide HMr).below hb1))
      clear hb1 HCUT HMr
      go_wp2_with fail
      (with_reducible refine (unhide HWO).mono ?_)
      rintro e w2 ⟨v, rfl, hr2, hl2, hb2⟩
      obtain ⟨ws, hws⟩ : ∃ ws, ws = wds t := ⟨_, rfl⟩
      rw [← hws] at hr2 hl2
      have HWS := hide hws
      have HB2 := hide ((unhide HB1).trans (hb2.mono z1))
      have z2 : wr.heap.size ≤ w2.heap.size := Nat.le_trans z1 hb2.size
      have HU2 := hide ((unhide HU).below (unhide HB2))
      have HBW2 := hide ((unhide HBW).trans ((unhide HB2).mono (by omega)))
      have HB02 := hide (show Below (w.heap.size + 1) W0 w2 from hbel.trans ((unhide HB2).mono (by omega)))
      have HST := hide hr2.strs
      have HNE := hide (show ∀ q, v.ownBlock = some q → q ≠ w.heap.size + 1 ∧ vu.ownBlock ≠ some q from fun q e => by
        have := (hr2.lt q e).1
        exact ⟨by omega, fun e2 => by have := ((unhide HU).ru.lt q e2).2; omega⟩)
      have HSZ := hide (show ∀ x ∈ ws, x.size ≤ maxLen from fun x hx => by
        have := wds_size (l := t) (by rw [← unhide HWS]; exact hx)
        unfold maxLen
        omega)
      obtain ⟨x0, x1, x2, x3⟩ : ZeroU w2 w.heap.size := ZeroU.below ⟨y0, y1, y2, fun o => (unhide HY3) o⟩ (unhide HB2) (by omega)
      have x30 := x3 0
      have x31 := x3 1
      have x32 := x3 2
      have hwl : ws.length ≤ 20001 := by omega
      by_cases hbeg : ws = [wBegin]
      · have HI := hide (show UnitIs s us os (bodyB s z) 0 0 from (unhide HTT).begin (by show wds (s.extract a z) = _; rw [← unhide HTE, ← unhide HWS]; exact hbeg))
        obtain ⟨gw, c, rfl, hgw, hc⟩ := (unhide HST).lt (by rw [hbeg]; simp)
        have k0 : w2.cell? ⟨gw, 0, none⟩ = some (.string ⟨#[98, 101, 103, 105, 110]⟩) := hc 0 _ (by rw [hbeg]; rfl)
        have hl1 : ws.length = 1 := by rw [hbeg]; rfl
        rw [hl1]
        obtain ⟨au, cu, rfl⟩ := rowS_slice (unhide HU2).ru
        obtain ⟨ao, co, rfl⟩ : ∃ a c, vo = .slice a os.length c := rowS_slice (unhide HU2).ro
        have u0 := (unhide HU2).c0
        have u1 := (unhide HU2).c1
        have u2 := (unhide HU2).c2
        have f2 := (unhide HU2).fz 2
        obtain ⟨ans, _⟩ := unitAns_some (b' := bodyB s z) (by omega) (unhide HU2) (unhide HBW2) (unhide HI) (by omega) (by omega)
        have HANS := hide ans
        have e1 : w.heap.size + 1 ≠ w.heap.size := by omega
        have e2 : w.heap.size ≠ w.heap.size + 1 := by omega
        clear ans hc hbeg hws hr2 hl2 hb2 x3 HST HNE HSZ HWO HWS hl1
        go_wp2_with fail
        refine bodyPost_ret (v := .tuple #[.agg #[.slice au us.length cu, .slice ao os.length co, .string (bodyB s z)], .int .i64 0, .int .i64 0]) ?res rfl (unhide HANS)
        case res => simp [results, Tryd.results5, go_sem, x0, x1, x2, e1, e2, u0, u1, u2]
      · have hnb : wds (s.extract a z) ≠ [wBegin] := by rw [← unhide HTE, ← unhide HWS]; exact hbeg
        have HTK := hide (take_any (w.heap.size + 1) (w.heap.size + 1) vu vo v us os ⟨#[]⟩ ws w2 (unhide HU2) (unhide HST) (unhide HSZ) (unhide HNE) (by omega) (by omega) hwl)
        have HBAD := hide (fun (hl : ∀ us' os', ¬ LineIs ws us os us' os') => (unhide HTT).bad hnb (by show ∀ us' os', ¬ LineIs (wds (s.extract a z)) us os us' os'; rw [← unhide HTE, ← unhide HWS]; exact hl))
        have HNXT := hide (fun us' os' (hl : LineIs ws us os us' os') => (unhide HTT).next hnb (us' := us') (os' := os') (by show LineIs (wds (s.extract a z)) us os us' os'; rw [← unhide HTE, ← unhide HWS]; exact hl))
        have hcond : ((ws.length : Int) == 1) = false ∨ (((ws.length : Int) == 1) = true ∧ ∃ gw c k, v = .slice (some ⟨gw, 0, none⟩) ws.length c ∧ w2.cell? ⟨gw, 0, none⟩ = some (.string k) ∧ (k.toList == [98, 101, 103, 105, 110]) = false) := by
          by_cases e : ws.length = 1
          · right
            obtain ⟨gw, c, hv, hgw, hc⟩ := (unhide HST).lt (by omega)
            match ws, e with
            | [k], _ => exact ⟨rfl, gw, c, k, hv, hc 0 k rfl, lit_no (fun ek => hbeg (by rw [ek]; rfl))⟩
          · left; simp; omega
        obtain ⟨av, cv, hv⟩ := rowS_slice hr2
        clear hbeg hnb hws hr2 hl2 hb2 x3 HNE HSZ HWO HWS HST
        rcases hcond with hc1 | ⟨hc1, gw, c, k, hv2, k0, hk⟩
        all_goals
          first
            | (subst hv2; clear hv; have hg00 : (0 : Int) < (ws.length : Int) := (by have := beq_iff_eq.1 hc1; omega))
            | subst hv
          go_wp2_with fail
          (with_reducible refine (unhide HTK).mono ?_)
          rintro e w3 ⟨ok, rfl, hcase, hb3⟩
          have HBW3 := hide ((unhide HBW2).trans (hb3.mono (by omega)))
          have HB03 := hide (show Below (w.heap.size + 1) W0 w3 from (unhide HB02).trans hb3)
          have q0 := (hb3.cell (p := ⟨w.heap.size, 0, none⟩) (Nat.lt_succ_self _)).trans x0
          have q1 := (hb3.cell (p := ⟨w.heap.size, 1, none⟩) (Nat.lt_succ_self _)).trans x1
          have q2 := (hb3.cell (p := ⟨w.heap.size, 2, none⟩) (Nat.lt_succ_self _)).trans x2
          have q30 := (hb3.frozen (p := ⟨w.heap.size, 0, none⟩) (Nat.lt_succ_self _)).trans x30
          have q31 := (hb3.frozen (p := ⟨w.heap.size, 1, none⟩) (Nat.lt_succ_self _)).trans x31
          have q32 := (hb3.frozen (p := ⟨w.heap.size, 2, none⟩) (Nat.lt_succ_self _)).trans x32
          clear hb3 HTK
          rcases hcase with ⟨rfl, us', os', vu', vo', hline, hun, hlu, hlo⟩ | ⟨rfl, hline⟩
          · have HTH := hide ((unhide HNXT) us' os' hline)
            have HUN := hide hun
            clear hline hun HBAD HNXT
            go_wp2_with fail
            refine ⟨⟨bodyB s z, mo, n + 1, rfl, rfl, by go_num, by omega, unhide HB03, ?_⟩, ?_⟩
            · have hmo := unhide HMO
              by_cases hzs : z < s.size
              · right
                refine ⟨by rw [hmo]; simpa using hzs, z + 1, us', os', vu', vo', by omega, by omega, by omega, by omega, hide ?_, hide ?_, HUN⟩
                · unfold bodyB; rw [if_pos hzs]
                · have := unhide HTH; rw [if_pos hzs] at this; exact this
              · left
                refine ⟨by rw [hmo]; simpa using hzs, hide ?_⟩
                have := unhide HTH
                rw [if_neg hzs] at this
                exact this.fin
            · have hmo := unhide HMO
              have hrs := unhide HRS
              by_cases hzs : z < s.size
              · have : mo = true := by rw [hmo]; simpa using hzs
                subst this
                simp only [mRest]
                unfold bodyB
                rw [if_pos hzs, size_ext]
                omega
              · have : mo = false := by rw [hmo]; simpa using hzs
                subst this
                simp only [mRest]
                omega
          · have HI := hide ((unhide HBAD) hline)
            have HP := hide (fun w' => unitAns_none (w := w) (w' := w') (unhide HI))
            clear hline HBAD HNXT
            go_wp2_with fail
            refine bodyPost_ret (v := .tuple #[.agg #[.slice none 0 0, .slice none 0 0, .string ⟨#[]⟩], .int .i64 2, .int .i64 (n : Int)]) ?res rfl ((unhide HP) _ ?_)
            case res => simp [results, Tryd.results5, go_sem, q0, q1, q2]
            first
              | exact unhide HBW3
              | exact below_setCells (Nat.le_refl _) [.slice none 0 0, .slice none 0 0, .string ⟨#[]⟩] 0 _ (unhide HBW3)
end Go.Proofs.YtokabkhnidlcnabDoor
