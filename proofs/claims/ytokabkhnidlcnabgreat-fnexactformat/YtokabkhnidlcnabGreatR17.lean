import Derived.Maps.AppendAt
import Derived.Test.YtokabkhnidlcnabGreatR09
import Derived.Test.YtokabkhnidlcnabGreatR10
import Derived.Test.YtokabkhnidlcnabGreatR12
import Derived.Test.YtokabkhnidlcnabGreatR13
import Derived.Test.YtokabkhnidlcnabGreatR14
import Derived.Test.YtokabkhnidlcnabGreatR15
import Derived.Test.YtokabkhnidlcnabGreatR16

/-
  Walks: the specification's offsets and the operators of tokens.
-/
namespace Go.Proofs.YtokabkhnidlcnabGreat
set_option maxRecDepth 100000
set_option linter.unusedSimpArgs false
set_option linter.unusedVariables false
open Go.RowKit

set_option maxHeartbeats 1000000 in
theorem l3Offset_any (g o c i : Nat) (ts : List TokR) (w : World) (hm : ts.length + totToT ts ts.length ≤ 1048576) (hi : i < ts.length) (hc : ts.length ≤ c) (hc2 : c ≤ maxLen) (hw : OpsT w g o ts) (hB : g < w.heap.size) (hz : (atT ts i).g.size ≤ 1048576) :
    Calls Tryz.prog 24 #[.slice (some ⟨g, o, none⟩) ts.length c, .int .i64 (i : Int)] w fun e w' => e = .returned (.int .i64 (offT ts i : Int)) ∧ Below w.heap.size w w' := by
  have htl : (ts.take i).length = i := by simp; omega
  have htm := tot_mono ts i ts.length (by omega)
  have hdr : Below w.heap.size w w.drew := (Below.refl _ _).drew
  have HX := specRender_any g o c (ts.take i) w.drew (by rw [htl, tot_take ts i i (Nat.le_refl _)]; omega) (fun j hj => by
    rw [htl] at hj
    have h := (hw j (by omega)).below hdr hB
    unfold CellsT at h ⊢
    rw [atT_take hj]
    exact h) hB
  rw [htl] at HX
  have e0 : (rendTo (ts.take i) i).length = totToT ts i := by rw [rend_len, tot_take ts i i (Nat.le_refl _)]
  obtain ⟨S, hS⟩ : ∃ S : ByteArray, S = ⟨(rendTo (ts.take i) i).toArray⟩ := ⟨_, rfl⟩
  rw [← hS] at HX
  have hSz : S.size = totToT ts i := by rw [hS, ← e0]; simp [ByteArray.size]
  obtain ⟨k0, k1, k2⟩ := hw i hi
  have hiI : (i : Int) < (ts.length : Int) := by omega
  have HS := hide hSz
  have HOFF := hide (show (offT ts i : Int) = (S.size : Int) + ((atT ts i).g.size : Int) by unfold offT; rw [hSz]; omega)
  have hb1 : S.size ≤ 1048576 := by omega
  clear hS e0 hSz htm htl hw hdr
  go_enter Tryz.func24, Tryz.ntmps24
  go_wp2_with fail
  have HBC := hide (show Below w.heap.size w w.drew from (Below.refl _ _).drew)
  go_region_held (fun w' => w'.cell? ⟨g, o + i * 3 + 1, none⟩ = some (.string (atT ts i).g)) (first | (go_keep; done) | exact ((unhide HBC).cell (p := ⟨g, o + i * 3 + 1, none⟩) hB).trans k1)
    (first | (go_at_call 55; refine HX.mono ?_; rintro x w1 ⟨rfl, hb⟩; replace HBC := hide ((unhide HBC).trans hb); clear HX hb))
  have hwr : IntKind.i64.wrap ((S.size : Int) + ((atT ts i).g.size : Int)) = (S.size : Int) + ((atT ts i).g.size : Int) := by rw [IntKind.wrap_i64]; omega
  rw [hwr, ← unhide HOFF]
  go_wp2_with fail
  go_ret
  exact ⟨rfl, unhide HBC⟩

set_option maxHeartbeats 2000000 in
theorem l3Op_any (b off cap gt ot ct gr cr i j : Nat) (xs : List OpR) (ts : List TokR) (us : List Int) (w : World) (hm : xs.length ≤ 1048576) (hw : Ops w b off xs) (hB : b < w.heap.size) (ht : OpsT w gt ot ts) (hBt : gt < w.heap.size) (hr : ∀ i, i < us.length → w.cell? ⟨gr, i, none⟩ = some (.int .i64 (atI us i))) (hi : i < ts.length) (hi2 : i < us.length) (hf : fnd xs (atT ts i).t (atI us i) = some j) :
    Calls Tryz.prog 99 #[.agg #[.slice (some ⟨b, off, none⟩) xs.length cap], .slice (some ⟨gt, ot, none⟩) ts.length ct, .slice (some ⟨gr, 0, none⟩) us.length cr, .int .i64 (i : Int)] w fun e w' => e = .returned (.agg #[.string (atO xs j).s, .int .i64 (atO xs j).k, .int .i64 (atO xs j).l, .int .i64 (atO xs j).sd]) ∧ Below w.heap.size w w' := by
  have hj := (fnd_some hf).1
  have hjI : (j : Int) < (xs.length : Int) := by omega
  have hiI : (i : Int) < (ts.length : Int) := by omega
  have hiI2 : (i : Int) < (us.length : Int) := by omega
  have HFI := hide (show fI (fnd xs (atT ts i).t (atI us i)) = (j : Int) by rw [hf]; rfl)
  have hgr : gr < w.heap.size := block_lt_of_cell (hr i hi2)
  obtain ⟨W, hW⟩ : ∃ W, W = (w.alloc (.cells #[.slice (some ⟨b, off, none⟩) xs.length cap] 33)).alloc (.cells #[.string ⟨#[]⟩, .int .i64 0, .int .i64 0, .int .i64 0] 104) := ⟨_, rfl⟩
  have hb0 : Below w.heap.size w W := by rw [hW]; exact (below1 _ _).alloc (by simp) _
  have HSZ := hide (show W.drew.heap.size = w.heap.size + 2 by rw [hW]; show ((w.alloc _).alloc _).heap.size = _; simp)
  have hW2 : W.heap.size = w.heap.size + 2 := unhide HSZ
  have HB0 := hide (show Below w.heap.size w W.drew from hb0.drew)
  have q0 : W.cell? ⟨w.heap.size, 0, none⟩ = some (.slice (some ⟨b, off, none⟩) xs.length cap) := by rw [hW]; simp [go_sem]
  have q1 : W.cell? ⟨gt, ot + i * 3 + 2, none⟩ = some (.string (atT ts i).t) := (hb0.cell (p := ⟨gt, ot + i * 3 + 2, none⟩) hBt).trans (ht i hi).2.2
  have q2 : W.cell? ⟨gr, i, none⟩ = some (.int .i64 (atI us i)) := (hb0.cell (p := ⟨gr, i, none⟩) hgr).trans (hr i hi2)
  obtain ⟨r0, r1, r2, r3⟩ := (hw j hj).below hb0 hB
  have t0 : W.cell? ⟨w.heap.size + 1, 0, none⟩ = some (.string ⟨#[]⟩) := by rw [hW]; simp [go_sem]
  have u0 : W.frozen? ⟨w.heap.size + 1, 0, none⟩ = false := by rw [hW]; simp [go_sem]
  have t1 : W.cell? ⟨w.heap.size + 1, 1, none⟩ = some (.int .i64 0) := by rw [hW]; simp [go_sem]
  have u1 : W.frozen? ⟨w.heap.size + 1, 1, none⟩ = false := by rw [hW]; simp [go_sem]
  have t2 : W.cell? ⟨w.heap.size + 1, 2, none⟩ = some (.int .i64 0) := by rw [hW]; simp [go_sem]
  have u2 : W.frozen? ⟨w.heap.size + 1, 2, none⟩ = false := by rw [hW]; simp [go_sem]
  have t3 : W.cell? ⟨w.heap.size + 1, 3, none⟩ = some (.int .i64 0) := by rw [hW]; simp [go_sem]
  have u3 : W.frozen? ⟨w.heap.size + 1, 3, none⟩ = false := by rw [hW]; simp [go_sem]
  have HX := l2Find_ix b off cap xs (atT ts i).t (atI us i) W.drew hm (hw.below (unhide HB0) hB) (by rw [unhide HSZ]; omega)
  rw [unhide HFI] at HX
  have n1 : b ≠ w.heap.size + 1 := by omega
  have n2 : w.heap.size + 1 ≠ b := by omega
  have n3 : gt ≠ w.heap.size + 1 := by omega
  have n4 : w.heap.size + 1 ≠ gt := by omega
  have n5 : gr ≠ w.heap.size + 1 := by omega
  have n6 : w.heap.size + 1 ≠ gr := by omega
  have HW := hide hW
  clear hW hf hw ht hr hb0 hW2
  go_enter Tryz.func99, Tryz.ntmps99
  go_wp2_with fail
  rw [← unhide HW]
  go_region_held (fun w' => w'.cell? ⟨w.heap.size, 0, none⟩ = some (.slice (some ⟨b, off, none⟩) xs.length cap) ∧ w'.cell? ⟨gt, ot + i * 3 + 2, none⟩ = some (.string (atT ts i).t) ∧ w'.cell? ⟨gr, i, none⟩ = some (.int .i64 (atI us i)) ∧ w'.cell? ⟨b, off + j * 4, none⟩ = some (.string (atO xs j).s) ∧ w'.cell? ⟨b, off + j * 4 + 1, none⟩ = some (.int .i64 (atO xs j).k) ∧ w'.cell? ⟨b, off + j * 4 + 2, none⟩ = some (.int .i64 (atO xs j).l) ∧ w'.cell? ⟨b, off + j * 4 + 3, none⟩ = some (.int .i64 (atO xs j).sd)) (first | (go_keep; done) | exact ⟨q0', q1', q2', r0', r1', r2', r3'⟩)
    (first | (go_at_call 97; refine HX.mono ?_; rintro e w2 ⟨rfl, hb2⟩; have q0' := (hb2.cell (p := ⟨w.heap.size, 0, none⟩) (by simp only [unhide HSZ]; omega)).trans (show W.drew.cell? _ = _ from q0); have q1' := (hb2.cell (p := ⟨gt, ot + i * 3 + 2, none⟩) (by simp only [unhide HSZ]; omega)).trans (show W.drew.cell? _ = _ from q1); have q2' := (hb2.cell (p := ⟨gr, i, none⟩) (by simp only [unhide HSZ]; omega)).trans (show W.drew.cell? _ = _ from q2); have r0' := (hb2.cell (p := ⟨b, off + j * 4, none⟩) (by simp only [unhide HSZ]; omega)).trans (show W.drew.cell? _ = _ from r0); have r1' := (hb2.cell (p := ⟨b, off + j * 4 + 1, none⟩) (by simp only [unhide HSZ]; omega)).trans (show W.drew.cell? _ = _ from r1); have r2' := (hb2.cell (p := ⟨b, off + j * 4 + 2, none⟩) (by simp only [unhide HSZ]; omega)).trans (show W.drew.cell? _ = _ from r2); have r3' := (hb2.cell (p := ⟨b, off + j * 4 + 3, none⟩) (by simp only [unhide HSZ]; omega)).trans (show W.drew.cell? _ = _ from r3); have t0' := (hb2.cell (p := ⟨w.heap.size + 1, 0, none⟩) (by simp only [unhide HSZ]; omega)).trans (show W.drew.cell? _ = _ from t0); have u0' := (hb2.frozen (p := ⟨w.heap.size + 1, 0, none⟩) (by simp only [unhide HSZ]; omega)).trans (show W.drew.frozen? _ = _ from u0); have t1' := (hb2.cell (p := ⟨w.heap.size + 1, 1, none⟩) (by simp only [unhide HSZ]; omega)).trans (show W.drew.cell? _ = _ from t1); have u1' := (hb2.frozen (p := ⟨w.heap.size + 1, 1, none⟩) (by simp only [unhide HSZ]; omega)).trans (show W.drew.frozen? _ = _ from u1); have t2' := (hb2.cell (p := ⟨w.heap.size + 1, 2, none⟩) (by simp only [unhide HSZ]; omega)).trans (show W.drew.cell? _ = _ from t2); have u2' := (hb2.frozen (p := ⟨w.heap.size + 1, 2, none⟩) (by simp only [unhide HSZ]; omega)).trans (show W.drew.frozen? _ = _ from u2); have t3' := (hb2.cell (p := ⟨w.heap.size + 1, 3, none⟩) (by simp only [unhide HSZ]; omega)).trans (show W.drew.cell? _ = _ from t3); have u3' := (hb2.frozen (p := ⟨w.heap.size + 1, 3, none⟩) (by simp only [unhide HSZ]; omega)).trans (show W.drew.frozen? _ = _ from u3); have B2 := hide ((unhide HB0).trans (hb2.mono (by rw [unhide HSZ]; omega))); clear hb2))
  go_wp2_with fail
  refine bodyPost_ret (v := .agg #[.string (atO xs j).s, .int .i64 (atO xs j).k, .int .i64 (atO xs j).l, .int .i64 (atO xs j).sd]) ?res rfl ⟨rfl, ?_⟩
  case res => simp [results, Tryz.results99, go_sem, t0', t1', t2', t3']
  exact below_setCells (show w.heap.size ≤ w.heap.size + 1 by omega) [.string (atO xs j).s, .int .i64 (atO xs j).k, .int .i64 (atO xs j).l, .int .i64 (atO xs j).sd] 0 w2 (unhide B2)
end Go.Proofs.YtokabkhnidlcnabGreat

/-
  Walk: the specification's root of a row of tokens.
-/
namespace Go.Proofs.YtokabkhnidlcnabGreat
set_option maxRecDepth 100000
set_option linter.unusedSimpArgs false
set_option linter.unusedVariables false
open Go.RowKit

/-- The roles of tokens in a row of numbers. -/
def RolR (w : World) (gr : Nat) (us : List Int) : Prop := gr < w.heap.size ∧ ∀ i, i < us.length → w.cell? ⟨gr, i, none⟩ = some (.int .i64 (atI us i))
theorem RolR.below {w w' : World} {gr B : Nat} {us : List Int} (h : RolR w gr us) (hb : Below B w w') (hB : gr < B) : RolR w' gr us := ⟨Nat.lt_of_lt_of_le h.1 hb.size, fun i hi => (hb.cell (p := ⟨gr, i, none⟩) hB).trans (h.2 i hi)⟩

theorem pick_none {ns : List OpR} {x : Nat × SyR} : pickS ns none x = some x := rfl
theorem pick_yes {ns : List OpR} {b x : Nat × SyR} (h : sLv ns x.2 < sLv ns b.2 ∨ (sLv ns x.2 = sLv ns b.2 ∧ sSo ns x.2 ≠ 2)) : pickS ns (some b) x = some x := if_pos h
theorem pick_no {ns : List OpR} {b x : Nat × SyR} (h : ¬ (sLv ns x.2 < sLv ns b.2 ∨ (sLv ns x.2 = sLv ns b.2 ∧ sSo ns x.2 ≠ 2))) : pickS ns (some b) x = some b := if_neg h

theorem cells5 {w w' : World} (hb : Below w.heap.size w w') {p0 p1 p2 p3 p4 : Addr} {v0 v1 v2 v3 v4 : Value} (h : w.cell? p0 = some v0 ∧ w.cell? p1 = some v1 ∧ w.cell? p2 = some v2 ∧ w.cell? p3 = some v3 ∧ w.cell? p4 = some v4) :
    w'.cell? p0 = some v0 ∧ w'.cell? p1 = some v1 ∧ w'.cell? p2 = some v2 ∧ w'.cell? p3 = some v3 ∧ w'.cell? p4 = some v4 :=
  ⟨(hb.cell (block_lt_of_cell h.1)).trans h.1, (hb.cell (block_lt_of_cell h.2.1)).trans h.2.1, (hb.cell (block_lt_of_cell h.2.2.1)).trans h.2.2.1, (hb.cell (block_lt_of_cell h.2.2.2.1)).trans h.2.2.2.1, (hb.cell (block_lt_of_cell h.2.2.2.2)).trans h.2.2.2.2⟩

set_option maxHeartbeats 8000000 in
theorem l3Root_any (b off cap gt ot ct gr cr lo hi : Nat) (xs : List OpR) (ts : List TokR) (us : List Int) (w : World) (hm : xs.length ≤ 1048576) (hw : Ops w b off xs) (hB : b < w.heap.size) (ht : OpsT w gt ot ts) (hBt : gt < w.heap.size) (hr : RolR w gr us) (hus : us = rolesTo xs ts ts.length) (hn : ts.length ≤ 100000) (hlo : lo ≤ hi) (hhi : hi ≤ ts.length)
    (hF : ∀ i, i < ts.length → TkF xs ts i ∧ 1 ≤ (atT ts i).k ∧ (atT ts i).k ≤ 7 ∧ (atT ts i).k ≠ 6) :
    Calls Tryz.prog 58 #[.agg #[.slice (some ⟨b, off, none⟩) xs.length cap], .slice (some ⟨gt, ot, none⟩) ts.length ct, .slice (some ⟨gr, 0, none⟩) us.length cr, .int .i64 (lo : Int), .int .i64 (hi : Int)] w fun e w' => e = .returned (.int .i64 (rootI (rtF xs (sgs xs ts lo (hi - lo)) lo 0 none))) ∧ Below w.heap.size w w' := by
  have hul1 : us.length ≤ ts.length := by rw [hus, rolesTo_len]; exact Nat.le_refl _
  have hul2 : ts.length ≤ us.length := by rw [hus, rolesTo_len]; exact Nat.le_refl _
  have HUS := hide (show ∀ i, i < ts.length → atI us i = roleTo xs ts i from fun i hi => by rw [hus]; exact atI_roles hi)
  have HW := hide hw
  have HT := hide ht
  have HR := hide hr
  have HF := hide hF
  have hgr := hr.1
  clear hw ht hr hF hus
  go_enter Tryz.func58, Tryz.ntmps58
  go_wp2_with fail
  go_loopw [11, 12, 13] (fun bv ov iv wr => ∃ n : Nat, n ≤ hi - lo ∧ iv = .int .i64 ((lo + n : Nat) : Int) ∧ bv = .int .i64 (rootI (rtF xs (sgs xs ts lo n) lo 0 none)) ∧ ov = .int .i64 (opL 0 (sgs xs ts lo n)) ∧ Hid (wr.cell? ⟨w.heap.size, 0, none⟩ = some (.slice (some ⟨b, off, none⟩) xs.length cap)) ∧ Hid (Below w.heap.size w wr)) (fun _ _ iv _ => hi - (intOf iv).toNat)
  case atStart => exact ⟨0, Nat.zero_le _, rfl, rfl, rfl, hide (by simp [go_sem]), hide (below1 _ _)⟩
  case round =>
    obtain ⟨n, hn', rfl, rfl, rfl, hcell, hbel⟩ := hrel
    by_cases hlt : n < hi - lo
    · have hltI : ((lo + n : Nat) : Int) < (hi : Int) := by omega
      obtain ⟨i, hie⟩ : ∃ i, i = lo + n := ⟨_, rfl⟩
      obtain ⟨B, hBe⟩ : ∃ B, B = rtF xs (sgs xs ts lo n) lo 0 none := ⟨_, rfl⟩
      obtain ⟨op, hope⟩ : ∃ op, op = opL 0 (sgs xs ts lo n) := ⟨_, rfl⟩
      have hit : i < ts.length := by omega
      have hitI : (i : Int) < (ts.length : Int) := by omega
      have hitU : (i : Int) < (us.length : Int) := by omega
      have hobd : -100000 ≤ op ∧ op ≤ 100000 := by
        have := opL_bd (sgs xs ts lo n) 0
        rw [sgs_len, ← hope] at this
        omega
      obtain ⟨hob1, hob2⟩ := hobd
      obtain ⟨htk, hk1, hk7, hk6⟩ := (unhide HF) i hit
      have HTK := hide htk
      have HO1 := hide (show opL 0 (sgs xs ts lo (n + 1)) = op + (if (atT ts i).k = 4 then 1 else 0) - (if (atT ts i).k = 5 then 1 else 0) by
        rw [op_step, ← hope, ← hie]; exact tk_opS htk ⟨hk1, hk7, hk6⟩ op)
      have HST := hide (show rtF xs (sgs xs ts lo (n + 1)) lo 0 none = (if opL 0 (sgs xs ts lo (n + 1)) ≠ 0 ∨ ¬ (3 ≤ (sgT xs ts i).1 ∧ (sgT xs ts i).1 ≤ 5) then B else pickS xs B (i, sgT xs ts i)) by
        rw [rt_step, ← op_step, ← hie, ← hBe])
      have HBS := hide (show ∀ x, B = some x → lo ≤ x.1 ∧ x.1 < i ∧ x.2 = sgT xs ts x.1 ∧ (3 ≤ x.2.1 ∧ x.2.1 ≤ 5) from fun x hx => by
        have := rt_some (hBe.symm.trans hx)
        rw [hie]; exact this)
      have c0 := ((unhide HT).below (unhide hbel) hBt i hit).1
      have ur := (((unhide HR).below (unhide hbel) hgr).2 i (by omega))
      rw [(unhide HUS) i hit] at ur
      have tc := unhide hcell
      have HIE := hide hie
      rw [← hBe, ← hope, ← hie]
      rw [← hie] at hltI
      clear hope hBe htk hie
      by_cases k4 : (atT ts i).k = 4
      · have HB1 := hide (show rtF xs (sgs xs ts lo (n + 1)) lo 0 none = B by
          rw [unhide HST]
          rcases unhide HTK with ⟨k3, _⟩ | ⟨_, _, hno⟩
          · omega
          · exact if_pos (Or.inr hno))
        have hro : roleTo xs ts i = 0 := by
          rcases unhide HTK with ⟨k3, _⟩ | ⟨_, h0, _⟩
          · omega
          · exact h0
        rw [if_pos k4, if_neg (by omega)] at HO1
        rw [k4] at c0
        rw [hro] at ur
        clear k4 hk1 hk7 hk6 HTK hro HST
        by_cases h0 : op + 1 = 0
        · have e0 : (op + 1 != 0) = false := by simpa using h0
          have HOV := hide (show op + 1 - 0 = op + 1 by omega)
          clear h0
          go_wp2_with fail
          refine ⟨⟨n + 1, by omega, ?_, by rw [unhide HB1], by rw [unhide HO1, unhide HOV], hcell, hbel⟩, ?_⟩
          · first | (rw [unhide HIE]; go_num) | (congr 1; have := unhide HIE; omega)
          · simp [intOf]; omega
        · have e0 : (op + 1 != 0) = true := by simpa using h0
          have HOV := hide (show op + 1 - 0 = op + 1 by omega)
          clear h0
          go_wp2_with fail
          refine ⟨⟨n + 1, by omega, ?_, by rw [unhide HB1], by rw [unhide HO1, unhide HOV], hcell, hbel⟩, ?_⟩
          · first | (rw [unhide HIE]; go_num) | (congr 1; have := unhide HIE; omega)
          · simp [intOf]; omega
      have e4 : ((atT ts i).k == 4) = false := by simpa using k4
      by_cases k5 : (atT ts i).k = 5
      · have HB1 := hide (show rtF xs (sgs xs ts lo (n + 1)) lo 0 none = B by
          rw [unhide HST]
          rcases unhide HTK with ⟨k3, _⟩ | ⟨_, _, hno⟩
          · omega
          · exact if_pos (Or.inr hno))
        have hro : roleTo xs ts i = 0 := by
          rcases unhide HTK with ⟨k3, _⟩ | ⟨_, h0, _⟩
          · omega
          · exact h0
        rw [if_neg k4, if_pos k5] at HO1
        rw [k5] at c0
        rw [hro] at ur
        have HOV := hide (show op + 0 - 1 = op - 1 by omega)
        clear k5 k4 hk1 hk7 hk6 HTK hro HST e4
        by_cases h0 : op - 1 = 0
        · have e0 : (op - 1 != 0) = false := by simpa using h0
          clear h0
          go_wp2_with fail
          refine ⟨⟨n + 1, by omega, ?_, by rw [unhide HB1], by rw [unhide HO1, unhide HOV], hcell, hbel⟩, ?_⟩
          · first | (rw [unhide HIE]; go_num) | (congr 1; have := unhide HIE; omega)
          · simp [intOf]; omega
        · have e0 : (op - 1 != 0) = true := by simpa using h0
          clear h0
          go_wp2_with fail
          refine ⟨⟨n + 1, by omega, ?_, by rw [unhide HB1], by rw [unhide HO1, unhide HOV], hcell, hbel⟩, ?_⟩
          · first | (rw [unhide HIE]; go_num) | (congr 1; have := unhide HIE; omega)
          · simp [intOf]; omega
      have e5 : ((atT ts i).k == 5) = false := by simpa using k5
      rw [if_neg k4, if_neg k5] at HO1
      have HOV := hide (show op + 0 - 0 = op by omega)
      rw [unhide HOV] at HO1
      by_cases h0 : op = 0
      case neg =>
        have HB1 := hide (show rtF xs (sgs xs ts lo (n + 1)) lo 0 none = B by
          rw [unhide HST]
          exact if_pos (Or.inl (by rw [unhide HO1]; exact h0)))
        have e0 : (op != 0) = true := by simpa using h0
        clear h0 k4 k5 hk1 hk7 hk6 HST HTK
        go_wp2_with fail
        refine ⟨⟨n + 1, by omega, ?_, by rw [unhide HB1], by rw [unhide HO1], hcell, hbel⟩, ?_⟩
        · first | (rw [unhide HIE]; go_num) | (congr 1; have := unhide HIE; omega)
        · simp [intOf]; omega
      subst h0
      rcases unhide HTK with ⟨k3, ⟨hr1, hr3⟩, hsg, j, hfj, hlv, hso⟩ | ⟨k3, hr0, hno⟩
      case inr =>
        have HB1 := hide (show rtF xs (sgs xs ts lo (n + 1)) lo 0 none = B by
          rw [unhide HST]
          exact if_pos (Or.inr hno))
        rw [hr0] at ur
        clear k3 k4 k5 hk1 hk7 hk6 HST HTK hr0 hno
        go_wp2_with fail
        refine ⟨⟨n + 1, by omega, ?_, by rw [unhide HB1], by rw [unhide HO1], hcell, hbel⟩, ?_⟩
        · first | (rw [unhide HIE]; go_num) | (congr 1; have := unhide HIE; omega)
        · simp [intOf]; omega
      have e0 : (roleTo xs ts i == 0) = false := by simp; omega
      have HST2 := hide (show rtF xs (sgs xs ts lo (n + 1)) lo 0 none = pickS xs B (i, sgT xs ts i) by
        rw [unhide HST]
        refine if_neg (fun h => ?_)
        rcases h with h | h
        · exact h (unhide HO1)
        · apply h
          rw [hsg]
          simp only
          omega)
      have HJ := hide (fnd_some hfj).1
      have HX := l3Op_any b off cap gt ot ct gr cr i j xs ts us wr hm ((unhide HW).below (unhide hbel) hB) (Nat.lt_of_lt_of_le hB (unhide hbel).size) ((unhide HT).below (unhide hbel) hBt) (Nat.lt_of_lt_of_le hBt (unhide hbel).size) ((unhide HR).below (unhide hbel) hgr).2 hit (by omega) (by rw [(unhide HUS) i hit]; exact hfj)
      have HLV := hide hlv
      have HSO := hide hso
      clear k3 k4 k5 hk1 hk7 hk6 HST HTK hr1 hr3 hsg hlv hso hfj
      go_wp2_with fail
      refine HX.mono ?_
      clear HX
      rintro e w2 ⟨rfl, hb2⟩
      have HBC := hide (show Below w.heap.size w (w2.alloc (.cells #[.string (atO xs j).s, .int .i64 (atO xs j).k, .int .i64 (atO xs j).l, .int .i64 (atO xs j).sd] 104)).drew from (((unhide hbel).trans (hb2.mono (unhide hbel).size)).alloc (Nat.le_trans (unhide hbel).size hb2.size) _).drew)
      have HSC := hide (show (w2.alloc (.cells #[.string (atO xs j).s, .int .i64 (atO xs j).k, .int .i64 (atO xs j).l, .int .i64 (atO xs j).sd] 104)).drew.cell? ⟨w.heap.size, 0, none⟩ = some (.slice (some ⟨b, off, none⟩) xs.length cap) ∧ (w2.alloc (.cells #[.string (atO xs j).s, .int .i64 (atO xs j).k, .int .i64 (atO xs j).l, .int .i64 (atO xs j).sd] 104)).drew.cell? ⟨w2.heap.size, 0, none⟩ = some (.string (atO xs j).s) ∧ (w2.alloc (.cells #[.string (atO xs j).s, .int .i64 (atO xs j).k, .int .i64 (atO xs j).l, .int .i64 (atO xs j).sd] 104)).drew.cell? ⟨w2.heap.size, 1, none⟩ = some (.int .i64 (atO xs j).k) ∧ (w2.alloc (.cells #[.string (atO xs j).s, .int .i64 (atO xs j).k, .int .i64 (atO xs j).l, .int .i64 (atO xs j).sd] 104)).drew.cell? ⟨w2.heap.size, 2, none⟩ = some (.int .i64 (atO xs j).l) ∧ (w2.alloc (.cells #[.string (atO xs j).s, .int .i64 (atO xs j).k, .int .i64 (atO xs j).l, .int .i64 (atO xs j).sd] 104)).drew.cell? ⟨w2.heap.size, 3, none⟩ = some (.int .i64 (atO xs j).sd) from
        ⟨((below1 w2 (.cells #[.string (atO xs j).s, .int .i64 (atO xs j).k, .int .i64 (atO xs j).l, .int .i64 (atO xs j).sd] 104)).drew.cell (p := ⟨w.heap.size, 0, none⟩) (Nat.lt_of_lt_of_le (block_lt_of_cell tc) hb2.size)).trans ((hb2.cell (p := ⟨w.heap.size, 0, none⟩) (block_lt_of_cell tc)).trans tc),
          show (w2.alloc _).cell? _ = _ by simp [go_sem], show (w2.alloc _).cell? _ = _ by simp [go_sem], show (w2.alloc _).cell? _ = _ by simp [go_sem], show (w2.alloc _).cell? _ = _ by simp [go_sem]⟩)
      clear hb2 tc c0 ur hcell hbel e0
      cases hB' : B with
      | none =>
        have HB1 := hide (show rtF xs (sgs xs ts lo (n + 1)) lo 0 none = some (i, sgT xs ts i) by rw [unhide HST2, hB']; rfl)
        have eR : rootI none = -1 := rfl
        rw [eR]
        clear HST2 HBS hB'
        obtain ⟨z0, z1, z2, z3, z4⟩ := unhide HSC
        go_wp2_with fail
        go_quiet (fail)
        go_wp2_with fail
        refine ⟨⟨n + 1, by omega, by first | (rw [unhide HIE]; go_num) | (congr 1; have := unhide HIE; omega), by rw [unhide HB1]; rfl, by rw [unhide HO1], hide (show _ = _ from (unhide HSC).1), hide (below_samS (unhide HBC) rfl rfl rfl rfl)⟩, by simp [intOf]; omega⟩
      | some x =>
        obtain ⟨x1, x2⟩ := x
        obtain ⟨g1, g2, g3, g4⟩ := (unhide HBS) _ hB'
        simp only at g1 g2 g3 g4
        have hx1 : x1 < ts.length := by omega
        obtain ⟨jb, hfb, hlb⟩ : ∃ jb, fnd xs (atT ts x1).t (roleTo xs ts x1) = some jb ∧ sLv xs (sgT xs ts x1) = (atO xs jb).l := by
          rcases ((unhide HF) x1 hx1).1 with ⟨_, _, _, j, h1, h2, _⟩ | ⟨_, _, hno⟩
          · exact ⟨j, h1, h2⟩
          · rw [← g3] at hno; exact absurd g4 hno
        have HL3 := hide (show ∀ W, Below w.heap.size w W → _ from fun W hW => l3Op_any b off cap gt ot ct gr cr x1 jb xs ts us W hm ((unhide HW).below hW hB) (Nat.lt_of_lt_of_le hB hW.size) ((unhide HT).below hW hBt) (Nat.lt_of_lt_of_le hBt hW.size) ((unhide HR).below hW hgr).2 hx1 (by omega) (by rw [(unhide HUS) x1 hx1]; exact hfb))
        have hfl : ∀ W : World, (Instr.field 104 (.agg #[.string (atO xs jb).s, .int .i64 (atO xs jb).k, .int .i64 (atO xs jb).l, .int .i64 (atO xs jb).sd]) 2).run Tryz.prog W = .ok (.int .i64 (atO xs jb).l) W := fun W => fieldLevel W _ _ _ _
        have eR : rootI (some (x1, x2)) = (x1 : Int) := rfl
        rw [eR]
        have eb : decide ((x1 : Int) < 0) = false := by rw [decide_eq_false_iff_not]; omega
        rw [g3] at hB'
        have HB2 := hide (show rtF xs (sgs xs ts lo (n + 1)) lo 0 none = pickS xs (some (x1, sgT xs ts x1)) (i, sgT xs ts i) by rw [unhide HST2, hB'])
        have HLB := hide hlb
        clear HST2 HBS hB' g3 g4 hfb hlb
        rcases (by omega : (atO xs j).l < (atO xs jb).l ∨ (atO xs j).l = (atO xs jb).l ∨ (atO xs jb).l < (atO xs j).l) with hl | hl | hl
        · have hld : decide ((atO xs j).l < (atO xs jb).l) = true := by simpa using hl
          have HB1 := hide (show rtF xs (sgs xs ts lo (n + 1)) lo 0 none = some (i, sgT xs ts i) by
            rw [unhide HB2]; exact pick_yes (Or.inl (by simp only; rw [unhide HLV, unhide HLB]; exact hl)))
          go_wp2_with fail
          refine wp_region_held_drew (S := (fun w' => w'.cell? ⟨w.heap.size, 0, none⟩ = some (.slice (some ⟨b, off, none⟩) xs.length cap) ∧ w'.cell? ⟨w2.heap.size, 0, none⟩ = some (.string (atO xs j).s) ∧ w'.cell? ⟨w2.heap.size, 1, none⟩ = some (.int .i64 (atO xs j).k) ∧ w'.cell? ⟨w2.heap.size, 2, none⟩ = some (.int .i64 (atO xs j).l) ∧ w'.cell? ⟨w2.heap.size, 3, none⟩ = some (.int .i64 (atO xs j).sd))) (by kernel_rfl) (unhide HSC) (fun hHeld => ?_)
          refine wpAnyH_take (i := 0) (oi := { dst := some 51, op := _, type := _, pos := _, after := _, guard := _ }) (v := .int .i64 (x1 : Int)) rfl (by kernel_rfl) (by kernel_rfl) (by kernel_rfl) (fun _ _ _ h => h) (Or.inl ⟨by rfl, ?_⟩) hHeld ?_
          · intro ww hSw; obtain ⟨s0, s1, s2, s3, s4⟩ := hSw; go_simp
          try simp only [Act.put, List.setIfInBounds_toArray, List.set_cons_zero, List.set_cons_succ]
          refine wpAnyH_take (i := 1) (oi := { dst := some 52, op := _, type := _, pos := _, after := _, guard := _ }) (v := .bool false) rfl (by kernel_rfl) (by kernel_rfl) (by kernel_rfl) (fun _ _ _ h => h) (Or.inl ⟨by rfl, ?_⟩) hHeld ?_
          · intro ww hSw; obtain ⟨s0, s1, s2, s3, s4⟩ := hSw; go_simp
          try simp only [Act.put, List.setIfInBounds_toArray, List.set_cons_zero, List.set_cons_succ]
          refine wpAnyH_take (i := 2) (oi := { dst := some 53, op := _, type := _, pos := _, after := _, guard := _ }) (v := .bool false) rfl (by kernel_rfl) (by kernel_rfl) (by kernel_rfl) (fun _ _ _ h => h) (Or.inl ⟨by rfl, ?_⟩) hHeld ?_
          · intro ww hSw; obtain ⟨s0, s1, s2, s3, s4⟩ := hSw; go_simp
          try simp only [Act.put, List.setIfInBounds_toArray, List.set_cons_zero, List.set_cons_succ]
          refine wpAnyH_take (i := 3) (oi := { dst := some 54, op := _, type := _, pos := _, after := _, guard := _ }) (v := .pointer (some ⟨w2.heap.size, 2, none⟩)) rfl (by kernel_rfl) (by kernel_rfl) (by kernel_rfl) (fun _ _ _ h => h) (Or.inl ⟨by rfl, ?_⟩) hHeld ?_
          · intro ww hSw; obtain ⟨s0, s1, s2, s3, s4⟩ := hSw; go_simp
          try simp only [Act.put, List.setIfInBounds_toArray, List.set_cons_zero, List.set_cons_succ]
          refine wpAnyH_take (i := 4) (oi := { dst := some 55, op := _, type := _, pos := _, after := _, guard := _ }) (v := .int .i64 (atO xs j).l) rfl (by kernel_rfl) (by kernel_rfl) (by kernel_rfl) (fun _ _ _ h => h) (Or.inl ⟨by rfl, ?_⟩) hHeld ?_
          · intro ww hSw; obtain ⟨s0, s1, s2, s3, s4⟩ := hSw; go_simp
          try simp only [Act.put, List.setIfInBounds_toArray, List.set_cons_zero, List.set_cons_succ]
          refine wpAnyH_take (i := 5) (oi := { dst := some 56, op := _, type := _, pos := _, after := _, guard := _ }) (v := .agg #[.slice (some ⟨b, off, none⟩) xs.length cap]) rfl (by kernel_rfl) (by kernel_rfl) (by kernel_rfl) (fun _ _ _ h => h) (Or.inl ⟨by rfl, ?_⟩) hHeld ?_
          · intro ww hSw; obtain ⟨s0, s1, s2, s3, s4⟩ := hSw; go_simp
          try simp only [Act.put, List.setIfInBounds_toArray, List.set_cons_zero, List.set_cons_succ]
          refine wpAnyH_take (i := 6) (oi := { dst := some 57, op := _, type := _, pos := _, after := _, guard := _ }) (v := .slice (some ⟨gt, ot, none⟩) ts.length ct) rfl (by kernel_rfl) (by kernel_rfl) (by kernel_rfl) (fun _ _ _ h => h) (Or.inl ⟨by rfl, ?_⟩) hHeld ?_
          · intro ww hSw; obtain ⟨s0, s1, s2, s3, s4⟩ := hSw; go_simp
          try simp only [Act.put, List.setIfInBounds_toArray, List.set_cons_zero, List.set_cons_succ]
          refine wpAnyH_take (i := 7) (oi := { dst := some 58, op := _, type := _, pos := _, after := _, guard := _ }) (v := .slice (some ⟨gr, 0, none⟩) us.length cr) rfl (by kernel_rfl) (by kernel_rfl) (by kernel_rfl) (fun _ _ _ h => h) (Or.inl ⟨by rfl, ?_⟩) hHeld ?_
          · intro ww hSw; obtain ⟨s0, s1, s2, s3, s4⟩ := hSw; go_simp
          try simp only [Act.put, List.setIfInBounds_toArray, List.set_cons_zero, List.set_cons_succ]
          refine wpAnyH_take (i := 8) (oi := { dst := some 59, op := _, type := _, pos := _, after := _, guard := _ }) (v := .int .i64 (x1 : Int)) rfl (by kernel_rfl) (by kernel_rfl) (by kernel_rfl) (fun _ _ _ h => h) (Or.inl ⟨by rfl, ?_⟩) hHeld ?_
          · intro ww hSw; obtain ⟨s0, s1, s2, s3, s4⟩ := hSw; go_simp
          try simp only [Act.put, List.setIfInBounds_toArray, List.set_cons_zero, List.set_cons_succ]
          refine wpAnyH_ready (rs := [9]) (by kernel_rfl) (by simp) ?_
          refine AllReadyH.cons rfl (fun K hK => ?_) AllReadyH.nil
          go_simp
          refine ((unhide HL3) _ (unhide HBC)).mono ?_
          rintro e w3 ⟨rfl, hb3⟩
          replace HBC := hide ((unhide HBC).trans (hb3.mono (unhide HBC).size))
          replace HSC := hide (cells5 hb3 (unhide HSC))
          clear hb3 hHeld
          refine hK.out _ _ (unhide HSC) (fun hHeld => ?_)
          clear hK
          try simp only [Act.put, List.setIfInBounds_toArray, List.set_cons_zero, List.set_cons_succ]
          refine wpAnyH_take (i := 10) (oi := { dst := some 61, op := _, type := _, pos := _, after := _, guard := _ }) (v := .int .i64 (atO xs jb).l) rfl (by kernel_rfl) (by kernel_rfl) (by kernel_rfl) (fun _ _ _ h => h) (Or.inl ⟨by rfl, ?_⟩) hHeld ?_
          · intro ww hSw; obtain ⟨s0, s1, s2, s3, s4⟩ := hSw; go_simp
          try simp only [Act.put, List.setIfInBounds_toArray, List.set_cons_zero, List.set_cons_succ]
          refine wpAnyH_take (i := 11) (oi := { dst := some 62, op := _, type := _, pos := _, after := _, guard := _ }) (v := .bool true) rfl (by kernel_rfl) (by kernel_rfl) (by kernel_rfl) (fun _ _ _ h => h) (Or.inl ⟨by rfl, ?_⟩) hHeld ?_
          · intro ww hSw; obtain ⟨s0, s1, s2, s3, s4⟩ := hSw; go_simp
          try simp only [Act.put, List.setIfInBounds_toArray, List.set_cons_zero, List.set_cons_succ]
          refine wpAnyH_take (i := 12) (oi := { dst := some 63, op := _, type := _, pos := _, after := _, guard := _ }) (v := .bool true) rfl (by kernel_rfl) (by kernel_rfl) (by kernel_rfl) (fun _ _ _ h => h) (Or.inl ⟨by rfl, ?_⟩) hHeld ?_
          · intro ww hSw; obtain ⟨s0, s1, s2, s3, s4⟩ := hSw; go_simp
          try simp only [Act.put, List.setIfInBounds_toArray, List.set_cons_zero, List.set_cons_succ]
          refine wpAnyH_take (i := 13) (oi := { dst := some 64, op := _, type := _, pos := _, after := _, guard := _ }) (v := .bool true) rfl (by kernel_rfl) (by kernel_rfl) (by kernel_rfl) (fun _ _ _ h => h) (Or.inl ⟨by rfl, ?_⟩) hHeld ?_
          · intro ww hSw; obtain ⟨s0, s1, s2, s3, s4⟩ := hSw; go_simp
          try simp only [Act.put, List.setIfInBounds_toArray, List.set_cons_zero, List.set_cons_succ]
          refine wpAnyH_take (i := 14) (oi := { dst := some 65, op := _, type := _, pos := _, after := _, guard := _ }) (v := undef) rfl (by kernel_rfl) (by kernel_rfl) (by kernel_rfl) (fun _ _ _ h => h) (Or.inr ⟨by rfl, rfl⟩) hHeld ?_
          try simp only [Act.put, List.setIfInBounds_toArray, List.set_cons_zero, List.set_cons_succ]
          refine wpAnyH_take (i := 15) (oi := { dst := some 66, op := _, type := _, pos := _, after := _, guard := _ }) (v := undef) rfl (by kernel_rfl) (by kernel_rfl) (by kernel_rfl) (fun _ _ _ h => h) (Or.inr ⟨by rfl, rfl⟩) hHeld ?_
          try simp only [Act.put, List.setIfInBounds_toArray, List.set_cons_zero, List.set_cons_succ]
          refine wpAnyH_take (i := 16) (oi := { dst := some 67, op := _, type := _, pos := _, after := _, guard := _ }) (v := undef) rfl (by kernel_rfl) (by kernel_rfl) (by kernel_rfl) (fun _ _ _ h => h) (Or.inr ⟨by rfl, rfl⟩) hHeld ?_
          try simp only [Act.put, List.setIfInBounds_toArray, List.set_cons_zero, List.set_cons_succ]
          refine wpAnyH_take (i := 17) (oi := { dst := some 68, op := _, type := _, pos := _, after := _, guard := _ }) (v := undef) rfl (by kernel_rfl) (by kernel_rfl) (by kernel_rfl) (fun _ _ _ h => h) (Or.inr ⟨by rfl, rfl⟩) hHeld ?_
          try simp only [Act.put, List.setIfInBounds_toArray, List.set_cons_zero, List.set_cons_succ]
          refine wpAnyH_take (i := 18) (oi := { dst := some 69, op := _, type := _, pos := _, after := _, guard := _ }) (v := undef) rfl (by kernel_rfl) (by kernel_rfl) (by kernel_rfl) (fun _ _ _ h => h) (Or.inr ⟨by rfl, rfl⟩) hHeld ?_
          try simp only [Act.put, List.setIfInBounds_toArray, List.set_cons_zero, List.set_cons_succ]
          refine wpAnyH_take (i := 19) (oi := { dst := some 70, op := _, type := _, pos := _, after := _, guard := _ }) (v := undef) rfl (by kernel_rfl) (by kernel_rfl) (by kernel_rfl) (fun _ _ _ h => h) (Or.inr ⟨by rfl, rfl⟩) hHeld ?_
          try simp only [Act.put, List.setIfInBounds_toArray, List.set_cons_zero, List.set_cons_succ]
          refine wpAnyH_take (i := 20) (oi := { dst := some 71, op := _, type := _, pos := _, after := _, guard := _ }) (v := undef) rfl (by kernel_rfl) (by kernel_rfl) (by kernel_rfl) (fun _ _ _ h => h) (Or.inr ⟨by rfl, rfl⟩) hHeld ?_
          try simp only [Act.put, List.setIfInBounds_toArray, List.set_cons_zero, List.set_cons_succ]
          refine wpAnyH_take (i := 21) (oi := { dst := some 72, op := _, type := _, pos := _, after := _, guard := _ }) (v := undef) rfl (by kernel_rfl) (by kernel_rfl) (by kernel_rfl) (fun _ _ _ h => h) (Or.inr ⟨by rfl, rfl⟩) hHeld ?_
          try simp only [Act.put, List.setIfInBounds_toArray, List.set_cons_zero, List.set_cons_succ]
          refine wpAnyH_take (i := 22) (oi := { dst := some 73, op := _, type := _, pos := _, after := _, guard := _ }) (v := undef) rfl (by kernel_rfl) (by kernel_rfl) (by kernel_rfl) (fun _ _ _ h => h) (Or.inr ⟨by rfl, rfl⟩) hHeld ?_
          try simp only [Act.put, List.setIfInBounds_toArray, List.set_cons_zero, List.set_cons_succ]
          refine wpAnyH_take (i := 23) (oi := { dst := some 74, op := _, type := _, pos := _, after := _, guard := _ }) (v := undef) rfl (by kernel_rfl) (by kernel_rfl) (by kernel_rfl) (fun _ _ _ h => h) (Or.inr ⟨by rfl, rfl⟩) hHeld ?_
          try simp only [Act.put, List.setIfInBounds_toArray, List.set_cons_zero, List.set_cons_succ]
          refine wpAnyH_take (i := 24) (oi := { dst := some 75, op := _, type := _, pos := _, after := _, guard := _ }) (v := undef) rfl (by kernel_rfl) (by kernel_rfl) (by kernel_rfl) (fun _ _ _ h => h) (Or.inr ⟨by rfl, rfl⟩) hHeld ?_
          try simp only [Act.put, List.setIfInBounds_toArray, List.set_cons_zero, List.set_cons_succ]
          refine wpAnyH_take (i := 25) (oi := { dst := some 76, op := _, type := _, pos := _, after := _, guard := _ }) (v := undef) rfl (by kernel_rfl) (by kernel_rfl) (by kernel_rfl) (fun _ _ _ h => h) (Or.inr ⟨by rfl, rfl⟩) hHeld ?_
          try simp only [Act.put, List.setIfInBounds_toArray, List.set_cons_zero, List.set_cons_succ]
          refine wpAnyH_take (i := 26) (oi := { dst := some 77, op := _, type := _, pos := _, after := _, guard := _ }) (v := undef) rfl (by kernel_rfl) (by kernel_rfl) (by kernel_rfl) (fun _ _ _ h => h) (Or.inr ⟨by rfl, rfl⟩) hHeld ?_
          try simp only [Act.put, List.setIfInBounds_toArray, List.set_cons_zero, List.set_cons_succ]
          refine wpAnyH_take (i := 27) (oi := { dst := some 78, op := _, type := _, pos := _, after := _, guard := _ }) (v := undef) rfl (by kernel_rfl) (by kernel_rfl) (by kernel_rfl) (fun _ _ _ h => h) (Or.inr ⟨by rfl, rfl⟩) hHeld ?_
          try simp only [Act.put, List.setIfInBounds_toArray, List.set_cons_zero, List.set_cons_succ]
          refine wpAnyH_take (i := 28) (oi := { dst := some 79, op := _, type := _, pos := _, after := _, guard := _ }) (v := .bool true) rfl (by kernel_rfl) (by kernel_rfl) (by kernel_rfl) (fun _ _ _ h => h) (Or.inl ⟨by rfl, ?_⟩) hHeld ?_
          · intro ww hSw; obtain ⟨s0, s1, s2, s3, s4⟩ := hSw; go_simp
          try simp only [Act.put, List.setIfInBounds_toArray, List.set_cons_zero, List.set_cons_succ]
          refine wpAnyH_done (by kernel_rfl) ?_ _
          all_goals go_wp2_with fail
          all_goals refine ⟨⟨n + 1, by omega, by first | (rw [unhide HIE]; go_num) | (congr 1; have := unhide HIE; omega), by rw [unhide HB1]; rfl, by rw [unhide HO1], hide (unhide HSC).1, HBC⟩, by simp [intOf]; omega⟩
        · have hl2 : ¬ (atO xs j).l < (atO xs jb).l := by omega
          have hld : decide ((atO xs j).l < (atO xs jb).l) = false := by rw [decide_eq_false_iff_not]; exact hl2
          have hle : ((atO xs j).l == (atO xs jb).l) = true := by simpa using hl
          by_cases hs2 : srt (atO xs j).k (atO xs j).sd = 2
          · have hsb : (srt (atO xs j).k (atO xs j).sd != 2) = false := by simpa using hs2
            have HB1 := hide (show rtF xs (sgs xs ts lo (n + 1)) lo 0 none = some (x1, sgT xs ts x1) by
              rw [unhide HB2]; exact pick_no (by simp only; rw [unhide HLV, unhide HLB, unhide HSO]; rintro (h | ⟨_, h⟩); exact hl2 h; exact h hs2))
            have HL2 := hide hl2
            clear hs2 hl hl2
            go_wp2_with fail
            go_region_held (fun w' => w'.cell? ⟨w.heap.size, 0, none⟩ = some (.slice (some ⟨b, off, none⟩) xs.length cap) ∧ w'.cell? ⟨w2.heap.size, 0, none⟩ = some (.string (atO xs j).s) ∧ w'.cell? ⟨w2.heap.size, 1, none⟩ = some (.int .i64 (atO xs j).k) ∧ w'.cell? ⟨w2.heap.size, 2, none⟩ = some (.int .i64 (atO xs j).l) ∧ w'.cell? ⟨w2.heap.size, 3, none⟩ = some (.int .i64 (atO xs j).sd)) (first | (go_keep; done) | exact unhide HSC)
              (first | (go_at_call 99; refine ((unhide HL3) _ (unhide HBC)).mono ?_; rintro e w3 ⟨rfl, hb3⟩; replace HBC := hide ((unhide HBC).trans (hb3.mono (unhide HBC).size)); replace HSC := hide (cells5 hb3 (unhide HSC)); clear hb3) | (go_at_call 92; refine (l1Sort_any _ _ _ _ _).mono ?_; rintro e w4 ⟨rfl, hb4⟩; replace HBC := hide ((unhide HBC).trans (hb4.mono (unhide HBC).size)); replace HSC := hide (cells5 hb4 (unhide HSC)); clear hb4))
            all_goals go_wp2_with fail
            all_goals refine ⟨⟨n + 1, by omega, by first | (rw [unhide HIE]; go_num) | (congr 1; have := unhide HIE; omega), by rw [unhide HB1]; rfl, by rw [unhide HO1], hide (unhide HSC).1, HBC⟩, by simp [intOf]; omega⟩
          · have hsb : (srt (atO xs j).k (atO xs j).sd != 2) = true := by simpa using hs2
            have HB1 := hide (show rtF xs (sgs xs ts lo (n + 1)) lo 0 none = some (i, sgT xs ts i) by
              rw [unhide HB2]; exact pick_yes (Or.inr (by simp only; rw [unhide HLV, unhide HLB, unhide HSO]; exact ⟨hl, hs2⟩)))
            have HL2 := hide hl2
            clear hs2 hl hl2
            go_wp2_with fail
            go_region_held (fun w' => w'.cell? ⟨w.heap.size, 0, none⟩ = some (.slice (some ⟨b, off, none⟩) xs.length cap) ∧ w'.cell? ⟨w2.heap.size, 0, none⟩ = some (.string (atO xs j).s) ∧ w'.cell? ⟨w2.heap.size, 1, none⟩ = some (.int .i64 (atO xs j).k) ∧ w'.cell? ⟨w2.heap.size, 2, none⟩ = some (.int .i64 (atO xs j).l) ∧ w'.cell? ⟨w2.heap.size, 3, none⟩ = some (.int .i64 (atO xs j).sd)) (first | (go_keep; done) | exact unhide HSC)
              (first | (go_at_call 99; refine ((unhide HL3) _ (unhide HBC)).mono ?_; rintro e w3 ⟨rfl, hb3⟩; replace HBC := hide ((unhide HBC).trans (hb3.mono (unhide HBC).size)); replace HSC := hide (cells5 hb3 (unhide HSC)); clear hb3) | (go_at_call 92; refine (l1Sort_any _ _ _ _ _).mono ?_; rintro e w4 ⟨rfl, hb4⟩; replace HBC := hide ((unhide HBC).trans (hb4.mono (unhide HBC).size)); replace HSC := hide (cells5 hb4 (unhide HSC)); clear hb4))
            all_goals go_wp2_with fail
            all_goals refine ⟨⟨n + 1, by omega, by first | (rw [unhide HIE]; go_num) | (congr 1; have := unhide HIE; omega), by rw [unhide HB1]; rfl, by rw [unhide HO1], hide (unhide HSC).1, HBC⟩, by simp [intOf]; omega⟩
        · have hl2 : ¬ (atO xs j).l < (atO xs jb).l := by omega
          have hld : decide ((atO xs j).l < (atO xs jb).l) = false := by rw [decide_eq_false_iff_not]; exact hl2
          have hle : ((atO xs j).l == (atO xs jb).l) = false := by simp; omega
          have HB1 := hide (show rtF xs (sgs xs ts lo (n + 1)) lo 0 none = some (x1, sgT xs ts x1) by
            rw [unhide HB2]; exact pick_no (by simp only; rw [unhide HLV, unhide HLB]; rintro (h | ⟨h, _⟩); exact hl2 h; omega))
          go_wp2_with fail
          refine wp_region_held_drew (S := (fun w' => w'.cell? ⟨w.heap.size, 0, none⟩ = some (.slice (some ⟨b, off, none⟩) xs.length cap) ∧ w'.cell? ⟨w2.heap.size, 0, none⟩ = some (.string (atO xs j).s) ∧ w'.cell? ⟨w2.heap.size, 1, none⟩ = some (.int .i64 (atO xs j).k) ∧ w'.cell? ⟨w2.heap.size, 2, none⟩ = some (.int .i64 (atO xs j).l) ∧ w'.cell? ⟨w2.heap.size, 3, none⟩ = some (.int .i64 (atO xs j).sd))) (by kernel_rfl) (unhide HSC) (fun hHeld => ?_)
          refine wpAnyH_take (i := 0) (oi := { dst := some 51, op := _, type := _, pos := _, after := _, guard := _ }) (v := .int .i64 (x1 : Int)) rfl (by kernel_rfl) (by kernel_rfl) (by kernel_rfl) (fun _ _ _ h => h) (Or.inl ⟨by rfl, ?_⟩) hHeld ?_
          · intro ww hSw; obtain ⟨s0, s1, s2, s3, s4⟩ := hSw; go_simp
          try simp only [Act.put, List.setIfInBounds_toArray, List.set_cons_zero, List.set_cons_succ]
          refine wpAnyH_take (i := 1) (oi := { dst := some 52, op := _, type := _, pos := _, after := _, guard := _ }) (v := .bool false) rfl (by kernel_rfl) (by kernel_rfl) (by kernel_rfl) (fun _ _ _ h => h) (Or.inl ⟨by rfl, ?_⟩) hHeld ?_
          · intro ww hSw; obtain ⟨s0, s1, s2, s3, s4⟩ := hSw; go_simp
          try simp only [Act.put, List.setIfInBounds_toArray, List.set_cons_zero, List.set_cons_succ]
          refine wpAnyH_take (i := 2) (oi := { dst := some 53, op := _, type := _, pos := _, after := _, guard := _ }) (v := .bool false) rfl (by kernel_rfl) (by kernel_rfl) (by kernel_rfl) (fun _ _ _ h => h) (Or.inl ⟨by rfl, ?_⟩) hHeld ?_
          · intro ww hSw; obtain ⟨s0, s1, s2, s3, s4⟩ := hSw; go_simp
          try simp only [Act.put, List.setIfInBounds_toArray, List.set_cons_zero, List.set_cons_succ]
          refine wpAnyH_take (i := 3) (oi := { dst := some 54, op := _, type := _, pos := _, after := _, guard := _ }) (v := .pointer (some ⟨w2.heap.size, 2, none⟩)) rfl (by kernel_rfl) (by kernel_rfl) (by kernel_rfl) (fun _ _ _ h => h) (Or.inl ⟨by rfl, ?_⟩) hHeld ?_
          · intro ww hSw; obtain ⟨s0, s1, s2, s3, s4⟩ := hSw; go_simp
          try simp only [Act.put, List.setIfInBounds_toArray, List.set_cons_zero, List.set_cons_succ]
          refine wpAnyH_take (i := 4) (oi := { dst := some 55, op := _, type := _, pos := _, after := _, guard := _ }) (v := .int .i64 (atO xs j).l) rfl (by kernel_rfl) (by kernel_rfl) (by kernel_rfl) (fun _ _ _ h => h) (Or.inl ⟨by rfl, ?_⟩) hHeld ?_
          · intro ww hSw; obtain ⟨s0, s1, s2, s3, s4⟩ := hSw; go_simp
          try simp only [Act.put, List.setIfInBounds_toArray, List.set_cons_zero, List.set_cons_succ]
          refine wpAnyH_take (i := 5) (oi := { dst := some 56, op := _, type := _, pos := _, after := _, guard := _ }) (v := .agg #[.slice (some ⟨b, off, none⟩) xs.length cap]) rfl (by kernel_rfl) (by kernel_rfl) (by kernel_rfl) (fun _ _ _ h => h) (Or.inl ⟨by rfl, ?_⟩) hHeld ?_
          · intro ww hSw; obtain ⟨s0, s1, s2, s3, s4⟩ := hSw; go_simp
          try simp only [Act.put, List.setIfInBounds_toArray, List.set_cons_zero, List.set_cons_succ]
          refine wpAnyH_take (i := 6) (oi := { dst := some 57, op := _, type := _, pos := _, after := _, guard := _ }) (v := .slice (some ⟨gt, ot, none⟩) ts.length ct) rfl (by kernel_rfl) (by kernel_rfl) (by kernel_rfl) (fun _ _ _ h => h) (Or.inl ⟨by rfl, ?_⟩) hHeld ?_
          · intro ww hSw; obtain ⟨s0, s1, s2, s3, s4⟩ := hSw; go_simp
          try simp only [Act.put, List.setIfInBounds_toArray, List.set_cons_zero, List.set_cons_succ]
          refine wpAnyH_take (i := 7) (oi := { dst := some 58, op := _, type := _, pos := _, after := _, guard := _ }) (v := .slice (some ⟨gr, 0, none⟩) us.length cr) rfl (by kernel_rfl) (by kernel_rfl) (by kernel_rfl) (fun _ _ _ h => h) (Or.inl ⟨by rfl, ?_⟩) hHeld ?_
          · intro ww hSw; obtain ⟨s0, s1, s2, s3, s4⟩ := hSw; go_simp
          try simp only [Act.put, List.setIfInBounds_toArray, List.set_cons_zero, List.set_cons_succ]
          refine wpAnyH_take (i := 8) (oi := { dst := some 59, op := _, type := _, pos := _, after := _, guard := _ }) (v := .int .i64 (x1 : Int)) rfl (by kernel_rfl) (by kernel_rfl) (by kernel_rfl) (fun _ _ _ h => h) (Or.inl ⟨by rfl, ?_⟩) hHeld ?_
          · intro ww hSw; obtain ⟨s0, s1, s2, s3, s4⟩ := hSw; go_simp
          try simp only [Act.put, List.setIfInBounds_toArray, List.set_cons_zero, List.set_cons_succ]
          refine wpAnyH_ready (rs := [9]) (by kernel_rfl) (by simp) ?_
          refine AllReadyH.cons rfl (fun K hK => ?_) AllReadyH.nil
          go_simp
          refine ((unhide HL3) _ (unhide HBC)).mono ?_
          rintro e w3 ⟨rfl, hb3⟩
          replace HBC := hide ((unhide HBC).trans (hb3.mono (unhide HBC).size))
          replace HSC := hide (cells5 hb3 (unhide HSC))
          clear hb3 hHeld
          refine hK.out _ _ (unhide HSC) (fun hHeld => ?_)
          clear hK
          try simp only [Act.put, List.setIfInBounds_toArray, List.set_cons_zero, List.set_cons_succ]
          refine wpAnyH_take (i := 10) (oi := { dst := some 61, op := _, type := _, pos := _, after := _, guard := _ }) (v := .int .i64 (atO xs jb).l) rfl (by kernel_rfl) (by kernel_rfl) (by kernel_rfl) (fun _ _ _ h => h) (Or.inl ⟨by rfl, ?_⟩) hHeld ?_
          · intro ww hSw; obtain ⟨s0, s1, s2, s3, s4⟩ := hSw; go_simp
          try simp only [Act.put, List.setIfInBounds_toArray, List.set_cons_zero, List.set_cons_succ]
          refine wpAnyH_take (i := 11) (oi := { dst := some 62, op := _, type := _, pos := _, after := _, guard := _ }) (v := .bool false) rfl (by kernel_rfl) (by kernel_rfl) (by kernel_rfl) (fun _ _ _ h => h) (Or.inl ⟨by rfl, ?_⟩) hHeld ?_
          · intro ww hSw; obtain ⟨s0, s1, s2, s3, s4⟩ := hSw; go_simp
          try simp only [Act.put, List.setIfInBounds_toArray, List.set_cons_zero, List.set_cons_succ]
          refine wpAnyH_take (i := 12) (oi := { dst := some 63, op := _, type := _, pos := _, after := _, guard := _ }) (v := .bool false) rfl (by kernel_rfl) (by kernel_rfl) (by kernel_rfl) (fun _ _ _ h => h) (Or.inl ⟨by rfl, ?_⟩) hHeld ?_
          · intro ww hSw; obtain ⟨s0, s1, s2, s3, s4⟩ := hSw; go_simp
          try simp only [Act.put, List.setIfInBounds_toArray, List.set_cons_zero, List.set_cons_succ]
          refine wpAnyH_take (i := 13) (oi := { dst := some 64, op := _, type := _, pos := _, after := _, guard := _ }) (v := .bool false) rfl (by kernel_rfl) (by kernel_rfl) (by kernel_rfl) (fun _ _ _ h => h) (Or.inl ⟨by rfl, ?_⟩) hHeld ?_
          · intro ww hSw; obtain ⟨s0, s1, s2, s3, s4⟩ := hSw; go_simp
          try simp only [Act.put, List.setIfInBounds_toArray, List.set_cons_zero, List.set_cons_succ]
          refine wpAnyH_take (i := 14) (oi := { dst := some 65, op := _, type := _, pos := _, after := _, guard := _ }) (v := .pointer (some ⟨w2.heap.size, 2, none⟩)) rfl (by kernel_rfl) (by kernel_rfl) (by kernel_rfl) (fun _ _ _ h => h) (Or.inl ⟨by rfl, ?_⟩) hHeld ?_
          · intro ww hSw; obtain ⟨s0, s1, s2, s3, s4⟩ := hSw; go_simp
          try simp only [Act.put, List.setIfInBounds_toArray, List.set_cons_zero, List.set_cons_succ]
          refine wpAnyH_take (i := 15) (oi := { dst := some 66, op := _, type := _, pos := _, after := _, guard := _ }) (v := .int .i64 (atO xs j).l) rfl (by kernel_rfl) (by kernel_rfl) (by kernel_rfl) (fun _ _ _ h => h) (Or.inl ⟨by rfl, ?_⟩) hHeld ?_
          · intro ww hSw; obtain ⟨s0, s1, s2, s3, s4⟩ := hSw; go_simp
          try simp only [Act.put, List.setIfInBounds_toArray, List.set_cons_zero, List.set_cons_succ]
          refine wpAnyH_take (i := 16) (oi := { dst := some 67, op := _, type := _, pos := _, after := _, guard := _ }) (v := .agg #[.slice (some ⟨b, off, none⟩) xs.length cap]) rfl (by kernel_rfl) (by kernel_rfl) (by kernel_rfl) (fun _ _ _ h => h) (Or.inl ⟨by rfl, ?_⟩) hHeld ?_
          · intro ww hSw; obtain ⟨s0, s1, s2, s3, s4⟩ := hSw; go_simp
          try simp only [Act.put, List.setIfInBounds_toArray, List.set_cons_zero, List.set_cons_succ]
          refine wpAnyH_take (i := 17) (oi := { dst := some 68, op := _, type := _, pos := _, after := _, guard := _ }) (v := .slice (some ⟨gt, ot, none⟩) ts.length ct) rfl (by kernel_rfl) (by kernel_rfl) (by kernel_rfl) (fun _ _ _ h => h) (Or.inl ⟨by rfl, ?_⟩) hHeld ?_
          · intro ww hSw; obtain ⟨s0, s1, s2, s3, s4⟩ := hSw; go_simp
          try simp only [Act.put, List.setIfInBounds_toArray, List.set_cons_zero, List.set_cons_succ]
          refine wpAnyH_take (i := 18) (oi := { dst := some 69, op := _, type := _, pos := _, after := _, guard := _ }) (v := .slice (some ⟨gr, 0, none⟩) us.length cr) rfl (by kernel_rfl) (by kernel_rfl) (by kernel_rfl) (fun _ _ _ h => h) (Or.inl ⟨by rfl, ?_⟩) hHeld ?_
          · intro ww hSw; obtain ⟨s0, s1, s2, s3, s4⟩ := hSw; go_simp
          try simp only [Act.put, List.setIfInBounds_toArray, List.set_cons_zero, List.set_cons_succ]
          refine wpAnyH_take (i := 19) (oi := { dst := some 70, op := _, type := _, pos := _, after := _, guard := _ }) (v := .int .i64 (x1 : Int)) rfl (by kernel_rfl) (by kernel_rfl) (by kernel_rfl) (fun _ _ _ h => h) (Or.inl ⟨by rfl, ?_⟩) hHeld ?_
          · intro ww hSw; obtain ⟨s0, s1, s2, s3, s4⟩ := hSw; go_simp
          try simp only [Act.put, List.setIfInBounds_toArray, List.set_cons_zero, List.set_cons_succ]
          refine wpAnyH_ready (rs := [20]) (by kernel_rfl) (by simp) ?_
          refine AllReadyH.cons rfl (fun K hK => ?_) AllReadyH.nil
          go_simp
          refine ((unhide HL3) _ (unhide HBC)).mono ?_
          rintro e w3 ⟨rfl, hb3⟩
          replace HBC := hide ((unhide HBC).trans (hb3.mono (unhide HBC).size))
          replace HSC := hide (cells5 hb3 (unhide HSC))
          clear hb3 hHeld
          refine hK.out _ _ (unhide HSC) (fun hHeld => ?_)
          clear hK
          try simp only [Act.put, List.setIfInBounds_toArray, List.set_cons_zero, List.set_cons_succ]
          refine wpAnyH_take (i := 21) (oi := { dst := some 72, op := _, type := _, pos := _, after := _, guard := _ }) (v := .int .i64 (atO xs jb).l) rfl (by kernel_rfl) (by kernel_rfl) (by kernel_rfl) (fun _ _ _ h => h) (Or.inl ⟨by rfl, ?_⟩) hHeld ?_
          · intro ww hSw; obtain ⟨s0, s1, s2, s3, s4⟩ := hSw; go_simp
          try simp only [Act.put, List.setIfInBounds_toArray, List.set_cons_zero, List.set_cons_succ]
          refine wpAnyH_take (i := 22) (oi := { dst := some 73, op := _, type := _, pos := _, after := _, guard := _ }) (v := .bool false) rfl (by kernel_rfl) (by kernel_rfl) (by kernel_rfl) (fun _ _ _ h => h) (Or.inl ⟨by rfl, ?_⟩) hHeld ?_
          · intro ww hSw; obtain ⟨s0, s1, s2, s3, s4⟩ := hSw; go_simp
          try simp only [Act.put, List.setIfInBounds_toArray, List.set_cons_zero, List.set_cons_succ]
          refine wpAnyH_take (i := 23) (oi := { dst := some 74, op := _, type := _, pos := _, after := _, guard := _ }) (v := .bool false) rfl (by kernel_rfl) (by kernel_rfl) (by kernel_rfl) (fun _ _ _ h => h) (Or.inl ⟨by rfl, ?_⟩) hHeld ?_
          · intro ww hSw; obtain ⟨s0, s1, s2, s3, s4⟩ := hSw; go_simp
          try simp only [Act.put, List.setIfInBounds_toArray, List.set_cons_zero, List.set_cons_succ]
          refine wpAnyH_take (i := 24) (oi := { dst := some 75, op := _, type := _, pos := _, after := _, guard := _ }) (v := undef) rfl (by kernel_rfl) (by kernel_rfl) (by kernel_rfl) (fun _ _ _ h => h) (Or.inr ⟨by rfl, rfl⟩) hHeld ?_
          try simp only [Act.put, List.setIfInBounds_toArray, List.set_cons_zero, List.set_cons_succ]
          refine wpAnyH_take (i := 25) (oi := { dst := some 76, op := _, type := _, pos := _, after := _, guard := _ }) (v := undef) rfl (by kernel_rfl) (by kernel_rfl) (by kernel_rfl) (fun _ _ _ h => h) (Or.inr ⟨by rfl, rfl⟩) hHeld ?_
          try simp only [Act.put, List.setIfInBounds_toArray, List.set_cons_zero, List.set_cons_succ]
          refine wpAnyH_take (i := 26) (oi := { dst := some 77, op := _, type := _, pos := _, after := _, guard := _ }) (v := undef) rfl (by kernel_rfl) (by kernel_rfl) (by kernel_rfl) (fun _ _ _ h => h) (Or.inr ⟨by rfl, rfl⟩) hHeld ?_
          try simp only [Act.put, List.setIfInBounds_toArray, List.set_cons_zero, List.set_cons_succ]
          refine wpAnyH_take (i := 27) (oi := { dst := some 78, op := _, type := _, pos := _, after := _, guard := _ }) (v := .bool false) rfl (by kernel_rfl) (by kernel_rfl) (by kernel_rfl) (fun _ _ _ h => h) (Or.inl ⟨by rfl, ?_⟩) hHeld ?_
          · intro ww hSw; obtain ⟨s0, s1, s2, s3, s4⟩ := hSw; go_simp
          try simp only [Act.put, List.setIfInBounds_toArray, List.set_cons_zero, List.set_cons_succ]
          refine wpAnyH_take (i := 28) (oi := { dst := some 79, op := _, type := _, pos := _, after := _, guard := _ }) (v := .bool false) rfl (by kernel_rfl) (by kernel_rfl) (by kernel_rfl) (fun _ _ _ h => h) (Or.inl ⟨by rfl, ?_⟩) hHeld ?_
          · intro ww hSw; obtain ⟨s0, s1, s2, s3, s4⟩ := hSw; go_simp
          try simp only [Act.put, List.setIfInBounds_toArray, List.set_cons_zero, List.set_cons_succ]
          refine wpAnyH_done (by kernel_rfl) ?_ _
          all_goals go_wp2_with fail
          all_goals refine ⟨⟨n + 1, by omega, by first | (rw [unhide HIE]; go_num) | (congr 1; have := unhide HIE; omega), by rw [unhide HB1]; rfl, by rw [unhide HO1], hide (unhide HSC).1, HBC⟩, by simp [intOf]; omega⟩
    · have hltI : ¬ ((lo + n : Nat) : Int) < (hi : Int) := by omega
      have e : n = hi - lo := by omega
      subst e
      go_wp2_with fail
      go_ret
      exact ⟨rfl, unhide hbel⟩
end Go.Proofs.YtokabkhnidlcnabGreat

/-
  Walks: the specification's trees without groups.
-/
namespace Go.Proofs.YtokabkhnidlcnabGreat
set_option maxRecDepth 100000
set_option linter.unusedVariables false
set_option linter.unusedSimpArgs false
open Go.RowKit

theorem Kept1.grownRow {w w1 w2 : World} {g : Nat} {row : Option Nat} (h : Kept1 w w1 g) (hg : w1.grownBy w2 row) (hr : ∀ k, row = some k → k = g ∨ w.heap.size ≤ k) : Kept1 w w2 g :=
  ⟨hg.os.trans h.os, hg.tape.trans h.tape, hg.output.trans h.output, Nat.le_trans h.size hg.size, fun i hi a => (hg.block i (Nat.lt_of_lt_of_le hi h.size) (fun e => by rcases hr i e.symm with h | h; exact a h; omega)).trans (h.block i hi a)⟩

theorem Kept1.setRow {w w1 : World} {g : Nat} (h : Kept1 w w1 g) (b o : Nat) (v : Value) (hb : b = g ∨ w.heap.size ≤ b) : Kept1 w (w1.setCell ⟨b, o, none⟩ v) g :=
  h.grownRow (row := some b) ⟨rfl, rfl, rfl, by simp [World.setCell], fun i _ hi => Below.heap_setCell _ _ _ _ (fun e => hi (by rw [e]))⟩ (fun k hk => by injection hk with hk; subst hk; exact hb)

theorem owns_set {w : World} {B e size n : Nat} {v : Value} {xs : List Value} (h : w.ownsRow B e size v n xs) (b o : Nat) (u : Value) (hb : v.ownBlock ≠ some b) : (w.setCell ⟨b, o, none⟩ u).ownsRow B e size v n xs :=
  h.kept (row := some b) ⟨rfl, rfl, rfl, by simp [World.setCell], fun i _ hi => Below.heap_setCell _ _ _ _ (fun e => hi (by rw [e]))⟩ (Or.inr hb)

/-- A row of nodes that belongs to the call. -/
def RowN (w : World) (B g c : Nat) (us : List NodeR) : Prop := w.ownsRow B 115 4 (.slice (some ⟨g, 0, none⟩) us.length c) us.length (cellsN us)

theorem RowN.kept {w w' : World} {B g c g' : Nat} {us : List NodeR} (h : RowN w B g c us) (hk : Kept1 w w' g') (hne : g' ≠ g) : RowN w' B g c us :=
  World.ownsRow.kept h (grown_kept1 hk) (Or.inr (by simp [Value.ownBlock]; omega))
theorem RowN.below {w w' : World} {B g c : Nat} {us : List NodeR} (h : RowN w B g c us) (hb : Below w.heap.size w w') : RowN w' B g c us :=
  World.ownsRow.kept h (grown_belN hb none) (Or.inr (by simp [Value.ownBlock]))
theorem RowN.set {w : World} {B g c : Nat} {us : List NodeR} (h : RowN w B g c us) (b o : Nat) (u : Value) (hb : b ≠ g) : RowN (w.setCell ⟨b, o, none⟩ u) B g c us :=
  owns_set h b o u (by simp [Value.ownBlock]; omega)
theorem RowN.lt {w : World} {B g c : Nat} {us : List NodeR} (h : RowN w B g c us) : B ≤ g ∧ g < w.heap.size := World.ownsRow.lt h g rfl

/-- A row with one node more. -/
theorem RowN.snoc {w : World} {B : Nat} {v : Value} {us vs : List NodeR} {o : NodeR} (h : w.ownsRow B 115 4 v (us.length + 1) (cellsN us ++ cellsN [o])) (hv : v ≠ .slice none 0 0) (e : vs = us ++ [o]) : ∃ g c, v = .slice (some ⟨g, 0, none⟩) vs.length c ∧ RowN w B g c vs := by
  subst e
  obtain ⟨g, c, rfl⟩ := owns_valueN h hv
  have hl : us.length + 1 = (us ++ [o]).length := by simp
  rw [← cellsN_append, hl] at h
  exact ⟨g, c, by rw [hl], h⟩

theorem new_newsAt (w : World) (n : Nat) (o : NodeR) (hn : w.heap.size = n) : ∀ j u, (cellsN [o])[j]? = some u → (w.alloc (.cells #[.int .i64 o.k, .string o.t, .int .i64 o.a, .int .i64 o.b] 115)).cell? ((⟨n, 0, none⟩ : Addr).add j) = some u := by
  subst hn
  exact new_newsN w o

theorem info_parts' {t : TypeId} {z : Value} {s b : Nat} (h : (Tryz.prog.info? t).map (fun i => (i.zero, i.size, i.bytes)) = some (some z, s, b)) : ∃ i, Tryz.prog.info? t = some i ∧ i.zero = some z ∧ i.size = s ∧ i.bytes = b := by
  obtain ⟨i, hi, hz⟩ := Option.map_eq_some_iff.1 h
  simp only [Prod.mk.injEq] at hz
  exact ⟨i, hi, hz.1, hz.2.1, hz.2.2⟩

set_option maxHeartbeats 8000000 in
theorem l3Erased_any (b off cap : Nat) (xs : List NodeR) (hm : xs.length ≤ 20000) : ∀ (n i f B g c : Nat) (us vs : List NodeR) (w : World), i < n → i < xs.length → Hid (frS xs i = some f) → Hid (us = er xs f) → Hid (vs = er xs (i + 1)) → OpsN w b off xs → b < B → B ≤ w.heap.size → RowN w B g c us →
    Calls Tryz.prog 120 #[.slice (some ⟨b, off, none⟩) xs.length cap, .int .i64 (i : Int), .slice (some ⟨g, 0, none⟩) us.length c] w fun e w' => (∃ g' c', e = .returned (.slice (some ⟨g', 0, none⟩) vs.length c') ∧ Hid (RowN w' B g' c' vs) ∧ (g' = g ∨ w.heap.size ≤ g')) ∧ Hid (Kept1 w w' g)
  | 0, _, _, _, _, _, _, _, _, h, _, _, _, _, _, _, _, _ => absurd h (Nat.not_lt_zero _)
  | n + 1, i, f, B, g, c, us, vs, w, hin, hi, hf, hus, hvs, hw, hb, hB, hrow => by
    obtain ⟨i0, hi0, hz0, hz1, hz2⟩ := info_parts' infoN
    have HI := hide hi0
    have HZ := hide (And.intro hz0 (And.intro hz1 hz2))
    clear hi0 hz0 hz1 hz2
    obtain ⟨h0, h1, h2, h3⟩ := hw i hi
    have IH := hide (l3Erased_any b off cap xs hm n)
    have HW := hide hw
    have HR := hide hrow
    have hg := hrow.lt
    have hiI : (i : Int) < (xs.length : Int) := by omega
    have hul : us.length ≤ 20000 := by
      have a1 := cnt_le xs f
      have a2 := frS_le (unhide hf)
      rw [unhide hus, er_len]; omega
    clear hw hrow
    rcases frS_some (unhide hf) with ⟨hk, ha, hbb, hfi⟩ | ⟨hk, h1i, ha, hbb, hf1⟩ | ⟨hk, h1i, hbb, f2, hf2, h2f, ha, hf1⟩
    · have HK := hide hk
      have h6 : ((atN xs i).k == 6) = false := by
        rw [beq_eq_false_iff_ne]; intro e; rw [e] at hk; simp [kids] at hk
      have HV := hide (show vs = us ++ [⟨(atN xs i).k, (atN xs i).t, 0, 0⟩] by
        rw [unhide hvs, unhide hus, hfi, er_other (by simpa using h6)]
        simp [erN, hk])
      clear hk ha hbb hfi
      go_enter Tryz.func120, Tryz.ntmps120
      go_wp2_with (first | (go_at_call 60; refine (l3Kids_is (unhide HK) 0 rfl _).mono ?_; rintro e w' ⟨rfl, rfl⟩) | (at_builtin; refine wpList_append_own_at _ rfl (.tmp 52) (.tmp 54) 26 rfl B 115 i0 _ 4 40 Tryz.underlying26 (unhide HI) (unhide HZ).1 (unhide HZ).2.1 (unhide HZ).2.2 rfl (by decide) _ us.length (cellsN us) rfl ((((unhide HR).below (below1 _ _)).below (below1 _ _)).below (below1 _ _)) ⟨w.heap.size + 1 + 1, 0, none⟩ 1 1 (cellsN [⟨(atN xs i).k, (atN xs i).t, 0, 0⟩]) rfl rfl (by simpa using new_newsN ((w.alloc _).alloc _) ⟨(atN xs i).k, (atN xs i).t, 0, 0⟩) (cellsN_one' _) ?b1 ?b2 ?b3 ?next))
      case b1 => unfold maxLen; omega
      case b2 => omega
      case b3 => simp; omega
      case next =>
        intro v4 w4 hown4 hgrow4 hnil4 hat4
        obtain ⟨g4, c4, rfl, hr4⟩ := RowN.snoc hown4 (by simp [hnil4]) (unhide HV)
        have HR4 := hide hr4
        have HKp := hide (((Kept1.of_below (g := g) (((below1 _ _).alloc (by simp) _).alloc (by simp; omega) _))).grownRow hgrow4 (fun k hk => by simp [Value.ownBlock] at hk; omega))
        have hgg : g4 = g ∨ w.heap.size ≤ g4 := by simp [Value.ownBlock] at hat4; omega
        clear hown4 hgrow4 hnil4 hr4 hat4
        go_wp2_with fail
        go_ret
        exact ⟨⟨g4, c4, rfl, HR4, hgg⟩, HKp⟩
    · have HK := hide hk
      have ei : (i : Int) - 1 = ((i - 1 : Nat) : Int) := by omega
      rw [ha, ei] at h2
      have hii : i - 1 + 1 = i := by omega
      by_cases h6 : (atN xs i).k = 6
      · have HVS := hide (show vs = er xs (i - 1 + 1) by rw [unhide hvs, er_group h6, hii])
        rw [h6] at h0
        clear hk ha hbb h6
        go_enter Tryz.func120, Tryz.ntmps120
        go_wp2_with fail
        refine ((unhide IH) (i - 1) f B g c us vs _ (by omega) (by omega) (hide hf1) hus HVS ((unhide HW).below (below1 _ _) (by omega)) hb (by simp; omega) ((unhide HR).below (below1 _ _))).mono ?_
        rintro e w1 ⟨⟨g1, c1, rfl, hr1, hg1⟩, hk1⟩
        have hk1' := hide ((Kept1.of_below (g := g) (below1 _ _)).trans (unhide hk1))
        have hg1' : g1 = g ∨ w.heap.size ≤ g1 := by simp at hg1; omega
        go_wp2_with fail
        go_ret
        exact ⟨⟨g1, c1, rfl, hr1, hg1'⟩, hk1'⟩
      · have h6' : ((atN xs i).k == 6) = false := by simpa using h6
        obtain ⟨us1, HU1⟩ : ∃ us1, Hid (us1 = er xs (i - 1 + 1)) := ⟨_, hide rfl⟩
        have hl1 : us1.length ≤ 20000 := by
          have := cnt_le xs (i - 1 + 1)
          rw [unhide HU1, er_len]; omega
        obtain ⟨nd, HND⟩ : ∃ nd : NodeR, Hid (nd = ⟨(atN xs i).k, (atN xs i).t, (us1.length : Int) - 1, 0⟩) := ⟨_, hide rfl⟩
        have HVS := hide (show vs = us1 ++ [nd] by
          rw [unhide hvs, er_other h6, unhide HND, unhide HU1, er_len, hii]
          congr 2
          unfold erN mvd
          rw [hk, ha]
          have : ((i : Int) - 1).toNat + 1 = i := by omega
          rw [this]
          simp)
        clear hk ha hbb h6
        go_enter Tryz.func120, Tryz.ntmps120
        go_wp2_with (go_at_call 60; refine (l3Kids_is (unhide HK) 1 rfl _).mono ?_; rintro e w' ⟨rfl, rfl⟩)
        refine ((unhide IH) (i - 1) f B g c us us1 _ (by omega) (by omega) (hide hf1) hus HU1 ((unhide HW).below ((below1 _ _).alloc (by simp) _) (by omega)) hb (by simp; omega) (((unhide HR).below (below1 _ _)).below (below1 _ _))).mono ?_
        rintro e w1 ⟨⟨g1, c1, rfl, hr1, hg1⟩, hk1⟩
        have hg1l := (unhide hr1).lt
        have hsz1 : w.heap.size + 2 ≤ w1.heap.size := by have := (unhide hk1).size; simp at this; omega
        have hg1' : g1 = g ∨ w.heap.size + 2 ≤ g1 := by simp at hg1; omega
        have p0 : w1.cell? ⟨w.heap.size, 0, none⟩ = some (.int .i64 (atN xs i).k) := ((unhide hk1).cell (b := w.heap.size) (by simp; omega) (by omega) 0).trans (by simp [go_sem])
        have q0 : w1.cell? ⟨w.heap.size + 1, 0, none⟩ = some (.int .i64 (atN xs i).k) := ((unhide hk1).cell (b := w.heap.size + 1) (by simp) (by omega) 0).trans (by simp [go_sem])
        have q1 : w1.cell? ⟨w.heap.size + 1, 1, none⟩ = some (.string (atN xs i).t) := ((unhide hk1).cell (b := w.heap.size + 1) (by simp) (by omega) 1).trans (by simp [go_sem])
        have q2 : w1.cell? ⟨w.heap.size + 1, 2, none⟩ = some (.int .i64 0) := ((unhide hk1).cell (b := w.heap.size + 1) (by simp) (by omega) 2).trans (by simp [go_sem])
        have q3 : w1.cell? ⟨w.heap.size + 1, 3, none⟩ = some (.int .i64 0) := ((unhide hk1).cell (b := w.heap.size + 1) (by simp) (by omega) 3).trans (by simp [go_sem])
        have r2 : w1.frozen? ⟨w.heap.size + 1, 2, none⟩ = false := ((unhide hk1).frozen (b := w.heap.size + 1) (by simp) (by omega) 2).trans (by simp [go_sem])
        have HKA := hide ((Kept1.of_below (g := g) ((below1 w _).alloc (by simp) _)).trans (unhide hk1))
        clear hk1
        have ST := hide (show RowN ((w1.setCell ⟨w.heap.size + 1, 2, none⟩ (.int .i64 ((us1.length : Int) - 1))).alloc (.cells #[.int .i64 nd.k, .string nd.t, .int .i64 nd.a, .int .i64 nd.b] 115)) B g1 c1 us1 from ((unhide hr1).set _ _ _ (by omega)).below (below1 _ _))
        have NW := hide (new_newsAt (w1.setCell ⟨w.heap.size + 1, 2, none⟩ (.int .i64 ((us1.length : Int) - 1))) w1.heap.size nd (by simp [World.setCell]))
        rw [unhide HND] at ST NW
        simp only at ST NW
        go_wp2_with (first | (go_at_call 60; refine (l3Kids_is (unhide HK) 1 rfl _).mono ?_; rintro e w' ⟨rfl, rfl⟩) | (at_builtin; refine wpList_append_own_at _ rfl (.tmp 52) (.tmp 54) 26 rfl B 115 i0 _ 4 40 Tryz.underlying26 (unhide HI) (unhide HZ).1 (unhide HZ).2.1 (unhide HZ).2.2 rfl (by decide) _ us1.length (cellsN us1) rfl (unhide ST) ⟨w1.heap.size, 0, none⟩ 1 1 (cellsN [nd]) rfl rfl (by rw [unhide HND]; exact unhide NW) (cellsN_one' _) ?b1 ?b2 ?b3 ?next))
        case b1 => unfold maxLen; omega
        case b2 => omega
        case b3 => simp; omega
        case next =>
          intro v4 w4 hown4 hgrow4 hnil4 hat4
          obtain ⟨g4, c4, rfl, hr4⟩ := RowN.snoc hown4 (by simp [hnil4]) (unhide HVS)
          have HR4 := hide hr4
          have HKp := hide ((((unhide HKA).setRow (w.heap.size + 1) 2 (.int .i64 ((us1.length : Int) - 1)) (by omega)).trans (Kept1.of_below (below1 _ _))).grownRow hgrow4 (fun k hk => by simp [Value.ownBlock] at hk; omega))
          have hgg : g4 = g ∨ w.heap.size ≤ g4 := by simp [Value.ownBlock] at hat4; omega
          clear hown4 hgrow4 hnil4 hr4 hat4
          go_wp2_with fail
          go_ret
          exact ⟨⟨g4, c4, rfl, HR4, hgg⟩, HKp⟩
    · have HK := hide hk
      have ei : (i : Int) - 1 = ((i - 1 : Nat) : Int) := by omega
      have ef : (f2 : Int) - 1 = ((f2 - 1 : Nat) : Int) := by omega
      rw [ha, ef] at h2
      rw [hbb, ei] at h3
      have hle := frS_le hf2
      have hii : i - 1 + 1 = i := by omega
      have hff : f2 - 1 + 1 = f2 := by omega
      have h6 : (atN xs i).k ≠ 6 := fun e => by rw [e] at hk; simp [kids] at hk
      have h6' : ((atN xs i).k == 6) = false := by simpa using h6
      obtain ⟨us1, HU1⟩ : ∃ us1, Hid (us1 = er xs (f2 - 1 + 1)) := ⟨_, hide rfl⟩
      obtain ⟨us2, HU2⟩ : ∃ us2, Hid (us2 = er xs (i - 1 + 1)) := ⟨_, hide rfl⟩
      have hl1 : us1.length ≤ 20000 := by
        have := cnt_le xs (f2 - 1 + 1)
        rw [unhide HU1, er_len]; omega
      have hl2 : us2.length ≤ 20000 := by
        have := cnt_le xs (i - 1 + 1)
        rw [unhide HU2, er_len]; omega
      obtain ⟨nd, HND⟩ : ∃ nd : NodeR, Hid (nd = ⟨(atN xs i).k, (atN xs i).t, (us1.length : Int) - 1, (us2.length : Int) - 1⟩) := ⟨_, hide rfl⟩
      have HVS := hide (show vs = us2 ++ [nd] by
        rw [unhide hvs, er_other h6, unhide HND, unhide HU1, unhide HU2, er_len, er_len, hii, hff]
        congr 2
        unfold erN mvd
        rw [hk, ha, hbb]
        have e1 : ((i : Int) - 1).toNat + 1 = i := by omega
        have e2 : ((f2 : Int) - 1).toNat + 1 = f2 := by omega
        rw [e1, e2]
        simp)
      have HU1' := hide (show us1 = er xs f2 by rw [unhide HU1, hff])
      clear hk ha hbb h6
      go_enter Tryz.func120, Tryz.ntmps120
      go_wp2_with (go_at_call 60; refine (l3Kids_is (unhide HK) 2 rfl _).mono ?_; rintro e w' ⟨rfl, rfl⟩)
      refine ((unhide IH) (f2 - 1) f B g c us us1 _ (by omega) (by omega) (hide hf1) hus HU1 ((unhide HW).below ((below1 _ _).alloc (by simp) _) (by omega)) hb (by simp; omega) (((unhide HR).below (below1 _ _)).below (below1 _ _))).mono ?_
      rintro e w1 ⟨⟨g1, c1, rfl, hr1, hg1⟩, hk1⟩
      have hg1l := (unhide hr1).lt
      have hsz1 : w.heap.size + 2 ≤ w1.heap.size := by have := (unhide hk1).size; simp at this; omega
      have hg1' : g1 = g ∨ w.heap.size + 2 ≤ g1 := by simp at hg1; omega
      have p0 : w1.cell? ⟨w.heap.size, 0, none⟩ = some (.int .i64 (atN xs i).k) := ((unhide hk1).cell (b := w.heap.size) (by simp; omega) (by omega) 0).trans (by simp [go_sem])
      have p3 : w1.cell? ⟨w.heap.size, 3, none⟩ = some (.int .i64 ((i - 1 : Nat) : Int)) := ((unhide hk1).cell (b := w.heap.size) (by simp; omega) (by omega) 3).trans (by simp [go_sem])
      have q0 : w1.cell? ⟨w.heap.size + 1, 0, none⟩ = some (.int .i64 (atN xs i).k) := ((unhide hk1).cell (b := w.heap.size + 1) (by simp) (by omega) 0).trans (by simp [go_sem])
      have q1 : w1.cell? ⟨w.heap.size + 1, 1, none⟩ = some (.string (atN xs i).t) := ((unhide hk1).cell (b := w.heap.size + 1) (by simp) (by omega) 1).trans (by simp [go_sem])
      have q2 : w1.cell? ⟨w.heap.size + 1, 2, none⟩ = some (.int .i64 0) := ((unhide hk1).cell (b := w.heap.size + 1) (by simp) (by omega) 2).trans (by simp [go_sem])
      have q3 : w1.cell? ⟨w.heap.size + 1, 3, none⟩ = some (.int .i64 0) := ((unhide hk1).cell (b := w.heap.size + 1) (by simp) (by omega) 3).trans (by simp [go_sem])
      have r2 : w1.frozen? ⟨w.heap.size + 1, 2, none⟩ = false := ((unhide hk1).frozen (b := w.heap.size + 1) (by simp) (by omega) 2).trans (by simp [go_sem])
      have r3 : w1.frozen? ⟨w.heap.size + 1, 3, none⟩ = false := ((unhide hk1).frozen (b := w.heap.size + 1) (by simp) (by omega) 3).trans (by simp [go_sem])
      have HKA := hide ((Kept1.of_below (g := g) ((below1 w _).alloc (by simp) _)).trans (unhide hk1))
      clear hk1
      go_wp2_with (go_at_call 60; refine (l3Kids_is (unhide HK) 2 rfl _).mono ?_; rintro e w' ⟨rfl, rfl⟩)
      have HKB := hide ((unhide HKA).setRow (w.heap.size + 1) 2 (.int .i64 ((us1.length : Int) - 1)) (Or.inr (by omega)))
      refine ((unhide IH) (i - 1) f2 B g1 c1 us1 us2 _ (by omega) (by omega) (hide hf2) HU1' HU2 (fun j hj => ?_) hb (by simp [World.setCell]; omega) ((unhide hr1).set _ _ _ (by omega))).mono ?_
      · have e := (unhide HKB).cell (b := b) (by omega) (by omega)
        obtain ⟨a0, a1, a2, a3⟩ := (unhide HW) j hj
        exact ⟨(e _).trans a0, (e _).trans a1, (e _).trans a2, (e _).trans a3⟩
      rintro e w2 ⟨⟨g2, c2, rfl, hr2, hg2⟩, hk2⟩
      have hg2l := (unhide hr2).lt
      have hsz2 : w1.heap.size ≤ w2.heap.size := by have := (unhide hk2).size; simpa [World.setCell] using this
      have hg2' : g2 = g1 ∨ w1.heap.size ≤ g2 := by simpa [World.setCell] using hg2
      have sc : ∀ o, (w1.setCell ⟨w.heap.size + 1, 2, none⟩ (.int .i64 ((us1.length : Int) - 1))).heap.size = w1.heap.size ∧ (o ≠ 2 → (w1.setCell ⟨w.heap.size + 1, 2, none⟩ (.int .i64 ((us1.length : Int) - 1))).cell? ⟨w.heap.size + 1, o, none⟩ = w1.cell? ⟨w.heap.size + 1, o, none⟩) := fun o => ⟨by simp [World.setCell], fun ho => World.cell?_setCell_other _ _ _ _ (fun e => ho (by injection e with _ e; exact e.symm))⟩
      have s0 : w2.cell? ⟨w.heap.size + 1, 0, none⟩ = some (.int .i64 (atN xs i).k) := ((unhide hk2).cell (b := w.heap.size + 1) (by rw [(sc 0).1]; omega) (by omega) 0).trans (((sc 0).2 (by omega)).trans q0)
      have s1 : w2.cell? ⟨w.heap.size + 1, 1, none⟩ = some (.string (atN xs i).t) := ((unhide hk2).cell (b := w.heap.size + 1) (by rw [(sc 0).1]; omega) (by omega) 1).trans (((sc 1).2 (by omega)).trans q1)
      have s2 : w2.cell? ⟨w.heap.size + 1, 2, none⟩ = some (.int .i64 ((us1.length : Int) - 1)) := ((unhide hk2).cell (b := w.heap.size + 1) (by rw [(sc 0).1]; omega) (by omega) 2).trans (World.cell?_setCell_same _ _ _ q2)
      have s3 : w2.cell? ⟨w.heap.size + 1, 3, none⟩ = some (.int .i64 0) := ((unhide hk2).cell (b := w.heap.size + 1) (by rw [(sc 0).1]; omega) (by omega) 3).trans (((sc 3).2 (by omega)).trans q3)
      have t3 : w2.frozen? ⟨w.heap.size + 1, 3, none⟩ = false := ((unhide hk2).frozen (b := w.heap.size + 1) (by rw [(sc 0).1]; omega) (by omega) 3).trans ((World.frozen?_setCell _ _ _ _).trans r3)
      have HKC := hide ((unhide HKB).grownRow (grown_kept1 (unhide hk2)) (fun k hk => by injection hk with hk; subst hk; omega))
      clear hk2 sc p0 p3 q0 q1 q2 q3 r2 r3 HKA HKB hr1
      have ST := hide (show RowN ((w2.setCell ⟨w.heap.size + 1, 3, none⟩ (.int .i64 ((us2.length : Int) - 1))).alloc (.cells #[.int .i64 nd.k, .string nd.t, .int .i64 nd.a, .int .i64 nd.b] 115)) B g2 c2 us2 from ((unhide hr2).set _ _ _ (by omega)).below (below1 _ _))
      have NW := hide (new_newsAt (w2.setCell ⟨w.heap.size + 1, 3, none⟩ (.int .i64 ((us2.length : Int) - 1))) w2.heap.size nd (by simp [World.setCell]))
      rw [unhide HND] at ST NW
      simp only at ST NW
      go_wp2_with (at_builtin; refine wpList_append_own_at _ rfl (.tmp 52) (.tmp 54) 26 rfl B 115 i0 _ 4 40 Tryz.underlying26 (unhide HI) (unhide HZ).1 (unhide HZ).2.1 (unhide HZ).2.2 rfl (by decide) _ us2.length (cellsN us2) rfl (unhide ST) ⟨w2.heap.size, 0, none⟩ 1 1 (cellsN [nd]) rfl rfl (by rw [unhide HND]; exact unhide NW) (cellsN_one' _) ?b1 ?b2 ?b3 ?next)
      case b1 => unfold maxLen; omega
      case b2 => omega
      case b3 => simp; omega
      case next =>
        intro v4 w4 hown4 hgrow4 hnil4 hat4
        obtain ⟨g4, c4, rfl, hr4⟩ := RowN.snoc hown4 (by simp [hnil4]) (unhide HVS)
        have HR4 := hide hr4
        have HKp := hide ((((unhide HKC).setRow (w.heap.size + 1) 3 (.int .i64 ((us2.length : Int) - 1)) (by omega)).trans (Kept1.of_below (below1 _ _))).grownRow hgrow4 (fun k hk => by simp [Value.ownBlock] at hk; omega))
        have hgg : g4 = g ∨ w.heap.size ≤ g4 := by simp [Value.ownBlock] at hat4; omega
        clear hown4 hgrow4 hnil4 hr4 hat4
        go_wp2_with fail
        go_ret
        exact ⟨⟨g4, c4, rfl, HR4, hgg⟩, HKp⟩

set_option maxHeartbeats 4000000 in
theorem specErase_any (b off cap : Nat) (xs : List NodeR) (w : World) (hm : xs.length ≤ 1048576) (hw : OpsN w b off xs) (hs : SizedN xs) (hB : b < w.heap.size) :
    Calls Tryz.prog 80 #[.agg #[.slice (some ⟨b, off, none⟩) xs.length cap]] w fun e w' => (∃ (a : Option Addr) (c : Nat) (us : List NodeR) (v : Bool), e = .returned (.tuple #[.agg #[.slice a us.length c], .bool v]) ∧ Hid (OwnedN w' w.heap.size a us) ∧ Hid (EraseIs xs us v)) ∧ Below w.heap.size w w' := by
  have HW := hide hw
  have HS := hide hs
  clear hw hs
  go_enter Tryz.func80, Tryz.ntmps80
  go_wp2_with fail
  refine (l3InOrder_any b off cap xs _ hm ((unhide HW).below ((below1 _ _).alloc (by simp) _) hB) (unhide HS) (by simp; omega)).mono ?_
  rintro e w1 ⟨⟨v, rfl, hv⟩, hb1⟩
  have HV := hide hv
  have bel1 : Below w.heap.size w w1 := ((below1 _ _).alloc (by simp) _).trans (hb1.mono (by simp; omega))
  have z1 : w.heap.size + 2 ≤ w1.heap.size := by have := hb1.size; simp at this; omega
  have c0 : w1.cell? ⟨w.heap.size, 0, none⟩ = some (.slice (some ⟨b, off, none⟩) xs.length cap) := (hb1.cell (p := ⟨w.heap.size, 0, none⟩) (by simp; omega)).trans (by simp [go_sem])
  have c1 : w1.cell? ⟨w.heap.size + 1, 0, none⟩ = some (.slice none 0 0) := (hb1.cell (p := ⟨w.heap.size + 1, 0, none⟩) (by simp)).trans (by simp [go_sem])
  have d1 : w1.frozen? ⟨w.heap.size + 1, 0, none⟩ = false := (hb1.frozen (p := ⟨w.heap.size + 1, 0, none⟩) (by simp)).trans (by simp [go_sem])
  clear hv hb1
  cases v
  · go_wp2_with fail
    refine bodyPost_ret (v := .tuple #[.agg #[.slice none 0 0], .bool false]) ?res rfl ⟨⟨none, 0, [], false, rfl, hide (Or.inl ⟨rfl, rfl⟩), hide (Or.inr ⟨fun h => Bool.false_ne_true ((unhide HV).2 h), rfl, rfl⟩)⟩, ?_⟩
    case res => simp [results, Tryz.results80, go_sem, c1]
    exact bel1.setCell (by simp) _
  · have HO := hide ((unhide HV).1 rfl)
    have h20 := (unhide HO).2.1
    have h1 := (unhide HO).1
    have ei : (xs.length : Int) - 1 = ((xs.length - 1 : Nat) : Int) := by omega
    have hii : xs.length - 1 + 1 = xs.length := by omega
    obtain ⟨vs, HVS⟩ : ∃ vs, Hid (vs = er xs (xs.length - 1 + 1)) := ⟨_, hide rfl⟩
    have HR0 := hide (show RowN (w1.alloc (.cells #[] 115)) w1.heap.size w1.heap.size 0 [] by
      have := World.ownsRow_lit (base := w1.heap.size) (e := 115) (size := 4) w1 #[] 0 (Nat.le_refl _) (Nat.zero_le _) rfl
      simpa [RowN, cellsN] using this)
    go_wp2_with fail
    refine (l3Erased_any b off cap xs h20 xs.length (xs.length - 1) 0 w1.heap.size w1.heap.size 0 [] vs _ (by omega) (by omega) (hide (unhide HO).2.2.1) (hide rfl) HVS ((unhide HW).below (bel1.trans ((below1 _ _).mono bel1.size)) hB) (by omega) (by simp) (unhide HR0)).mono ?_
    rintro e w2 ⟨⟨g2, c2, rfl, hr2, hg2⟩, hk2⟩
    have hg2l := (unhide hr2).lt
    have z2 : w1.heap.size < w2.heap.size := by have := (unhide hk2).size; simp at this; omega
    have e1 : w2.cell? ⟨w.heap.size + 1, 0, none⟩ = some (.slice none 0 0) := ((unhide hk2).cell (b := w.heap.size + 1) (by simp; omega) (by omega) 0).trans (((below1 _ _).cell (p := ⟨w.heap.size + 1, 0, none⟩) (show w.heap.size + 1 < w1.heap.size by omega)).trans c1)
    have f1 : w2.frozen? ⟨w.heap.size + 1, 0, none⟩ = false := ((unhide hk2).frozen (b := w.heap.size + 1) (by simp; omega) (by omega) 0).trans (((below1 _ _).frozen (p := ⟨w.heap.size + 1, 0, none⟩) (show w.heap.size + 1 < w1.heap.size by omega)).trans d1)
    have bel2 : Below w.heap.size w w2 := (bel1.trans ((below1 _ _).mono bel1.size)).trans ((unhide hk2).below (by simp; omega) (by omega))
    clear c0 c1 d1 hk2 HR0
    go_wp2_with fail
    refine bodyPost_ret (v := .tuple #[.agg #[.slice (some ⟨g2, 0, none⟩) vs.length c2], .bool true]) ?res rfl ⟨⟨some ⟨g2, 0, none⟩, c2, vs, true, rfl, hide (Or.inr ⟨g2, rfl, by omega, ?_⟩), hide (Or.inl ⟨unhide HO, rfl, by rw [unhide HVS, hii]⟩)⟩, ?_⟩
    case res => simp [results, Tryz.results80, go_sem, e1]
    · exact (owns_filledN (unhide hr2)).2.setCell _ _ _ (by omega)
    · exact bel2.setCell (by simp) _
end Go.Proofs.YtokabkhnidlcnabGreat
