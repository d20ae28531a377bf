import Derived.Test.YtokabkhnidlcnabGreatR12
import Derived.Test.YtokabkhnidlcnabGreatR28
import Derived.Test.YtokabkhnidlcnabGreatS05

/-
  Walks: fit at infix nodes.
-/
namespace Go.Proofs.YtokabkhnidlcnabGreat
set_option maxRecDepth 100000
set_option linter.unusedSimpArgs false
set_option linter.unusedVariables false
open Go.RowKit

/-- An inner infix node in a variable. -/
def InfAt (w : World) (N : Nat) (p : OpR) (e e' : Value) : Prop := w.cell? ⟨N, 0, none⟩ = some (.string p.s) ∧ w.cell? ⟨N, 1, none⟩ = some (.int .i64 p.k) ∧ w.cell? ⟨N, 2, none⟩ = some (.int .i64 p.l) ∧ w.cell? ⟨N, 3, none⟩ = some (.int .i64 p.sd) ∧ w.cell? ⟨N, 4, none⟩ = some e ∧ w.cell? ⟨N, 5, none⟩ = some e' ∧ w.frozen? ⟨N, 4, none⟩ = false ∧ w.frozen? ⟨N, 5, none⟩ = false

theorem InfAt.kept {w w' : World} {N g : Nat} {p : OpR} {e e' : Value} (h : InfAt w N p e e') (hk : Kept1 w w' g) (hne : N ≠ g) : InfAt w' N p e e' := by
  obtain ⟨h0, h1, h2, h3, h4, h5, h6, h7⟩ := h
  have hlt := block_lt_of_cell h0
  have c := hk.cell hlt hne
  exact ⟨(c 0).trans h0, (c 1).trans h1, (c 2).trans h2, (c 3).trans h3, (c 4).trans h4, (c 5).trans h5, (hk.frozen hlt hne 4).trans h6, (hk.frozen hlt hne 5).trans h7⟩

theorem InfAt.below {w w' : World} {N : Nat} {p : OpR} {e e' : Value} (h : InfAt w N p e e') (hb : Below w.heap.size w w') : InfAt w' N p e e' :=
  h.kept (g := w.heap.size) (Kept1.of_below hb) (by have : N < w.heap.size := block_lt_of_cell h.1; omega)

theorem InfAt.set4 {w : World} {N : Nat} {p : OpR} {e e' : Value} (h : InfAt w N p e e') (u : Value) : InfAt (w.setCell ⟨N, 4, none⟩ u) N p u e' := by
  obtain ⟨h0, h1, h2, h3, h4, h5, h6, h7⟩ := h
  have c : ∀ o, o ≠ 4 → (w.setCell ⟨N, 4, none⟩ u).cell? ⟨N, o, none⟩ = w.cell? ⟨N, o, none⟩ := fun o ho => World.cell?_setCell_other _ _ _ _ (fun x => ho (by injection x with _ x; exact x.symm))
  exact ⟨(c 0 (by omega)).trans h0, (c 1 (by omega)).trans h1, (c 2 (by omega)).trans h2, (c 3 (by omega)).trans h3, World.cell?_setCell_same _ _ _ h4, (c 5 (by omega)).trans h5, (World.frozen?_setCell _ _ _ _).trans h6, (World.frozen?_setCell _ _ _ _).trans h7⟩
theorem InfAt.set5 {w : World} {N : Nat} {p : OpR} {e e' : Value} (h : InfAt w N p e e') (u : Value) : InfAt (w.setCell ⟨N, 5, none⟩ u) N p e u := by
  obtain ⟨h0, h1, h2, h3, h4, h5, h6, h7⟩ := h
  have c : ∀ o, o ≠ 5 → (w.setCell ⟨N, 5, none⟩ u).cell? ⟨N, o, none⟩ = w.cell? ⟨N, o, none⟩ := fun o ho => World.cell?_setCell_other _ _ _ _ (fun x => ho (by injection x with _ x; exact x.symm))
  exact ⟨(c 0 (by omega)).trans h0, (c 1 (by omega)).trans h1, (c 2 (by omega)).trans h2, (c 3 (by omega)).trans h3, (c 4 (by omega)).trans h4, World.cell?_setCell_same _ _ _ h5, (World.frozen?_setCell _ _ _ _).trans h6, (World.frozen?_setCell _ _ _ _).trans h7⟩

set_option maxHeartbeats 4000000 in
theorem fit_inf {T T2 : TypeId} {v v2 : Value} (p : OpR) (g m m1 m2 : Nat) (least : Int) {e1 e2 : Value} (w : World) (he : ∃ T' v', e1 = .iface T' v') (he2 : ∃ T' v', e2 = .iface T' v') (hg : GrAt w g m) (hsz : p.s.size ≤ maxLen) (hm2 : m2 ≤ 100000)
    (hc : ∀ W, GrAt W g m → Calls Tryz.prog 85 #[.pointer (some ⟨g, 0, none⟩), .iface T v, .int .i64 (holeI p.s p.k p.l p.sd false)] W (FitPost W g m1 e1))
    (hc2 : ∀ W, GrAt W g m1 → Calls Tryz.prog 85 #[.pointer (some ⟨g, 0, none⟩), .iface T2 v2, .int .i64 (holeI p.s p.k p.l p.sd true)] W (FitPost W g m2 e2)) :
    Calls Tryz.prog 85 #[.pointer (some ⟨g, 0, none⟩), eInf p (.iface T v) (.iface T2 v2), .int .i64 least] w (FitPost w g (m2 + encN p.l least) (encV p.l least (eInf p e1 e2))) := by
  obtain ⟨T', v', rfl⟩ := he
  obtain ⟨T2', v2', rfl⟩ := he2
  obtain ⟨n1, n2⟩ := no_inf (.agg #[.string p.s, .int .i64 p.k, .int .i64 p.l, .int .i64 p.sd, .iface T v, .iface T2 v2])
  have i1 := is_inf (.agg #[.string p.s, .int .i64 p.k, .int .i64 p.l, .int .i64 p.sd, .iface T v, .iface T2 v2])
  unfold Nots zG at n1
  unfold Nots zP at n2
  have hlt := block_lt_of_cell hg.1
  have HC := hide hc
  have HC2 := hide hc2
  have HGC := hide (show GrAt (w.alloc (.cells #[.string p.s, .int .i64 p.k, .int .i64 p.l, .int .i64 p.sd, .iface T v, .iface T2 v2] 172)).drew g m from hg.below ((below1 _ _).drew))
  have HPC := hide (show InfAt (w.alloc (.cells #[.string p.s, .int .i64 p.k, .int .i64 p.l, .int .i64 p.sd, .iface T v, .iface T2 v2] 172)).drew w.heap.size p (.iface T v) (.iface T2 v2) from
    (show InfAt (w.alloc (.cells #[.string p.s, .int .i64 p.k, .int .i64 p.l, .int .i64 p.sd, .iface T v, .iface T2 v2] 172)) w.heap.size p (.iface T v) (.iface T2 v2) from ⟨by simp [go_sem], by simp [go_sem], by simp [go_sem], by simp [go_sem], by simp [go_sem], by simp [go_sem], by simp [go_sem], by simp [go_sem]⟩).below ((Below.refl _ _).drew))
  have HKC := hide (show Kept1 w (w.alloc (.cells #[.string p.s, .int .i64 p.k, .int .i64 p.l, .int .i64 p.sd, .iface T v, .iface T2 v2] 172)).drew g from Kept1.of_below ((below1 _ _).drew))
  clear hc hc2 hg
  unfold eInf
  go_enter Tryz.func85, Tryz.ntmps85
  go_wp2_with fail
  clear n1 n2 i1
  obtain ⟨k0, k1, k2, k3, k4, k5, k6, k7⟩ := unhide HPC
  go_region_with
    (first | (go_at_call 113; refine (implHole_any p.s p.k p.l p.sd false _ hsz).mono ?_; rintro e w3 ⟨rfl, hb3⟩; replace HPC := hide ((unhide HPC).below hb3); replace ⟨k0, k1, k2, k3, k4, k5, k6, k7⟩ := unhide HPC; replace HGC := hide ((unhide HGC).below hb3); replace HKC := hide ((unhide HKC).trans (Kept1.of_below hb3)); clear hb3) | (go_at_call 85; refine ((unhide HC) _ (unhide HGC)).mono ?_; rintro e w4 ⟨rfl, hg4, hk4⟩; replace HPC := hide ((unhide HPC).kept (unhide hk4) (by omega)); replace HGC := hg4; replace HKC := hide ((unhide HKC).trans (unhide hk4)); clear hk4 hg4; replace ⟨k0, k1, k2, k3, k4, k5, k6, k7⟩ := unhide HPC))
  all_goals
    replace HPC := hide (((unhide HPC).set4 (.iface T' v')).below ((Below.refl _ _).drew))
    replace HGC := hide (((unhide HGC).other (N := w.heap.size) (o := 4) (by omega) (.iface T' v')).below ((Below.refl _ _).drew))
    replace HKC := hide (((unhide HKC).far 4 (.iface T' v') (Nat.le_refl _)).trans (Kept1.of_below ((Below.refl _ _).drew)))
    clear k0 k1 k2 k3 k4 k5 k6 k7 HC
    obtain ⟨k0, k1, k2, k3, k4, k5, k6, k7⟩ := unhide HPC
    go_wp2_with fail
    go_region_with
      (first | (go_at_call 113; refine (implHole_any p.s p.k p.l p.sd true _ hsz).mono ?_; rintro e w5 ⟨rfl, hb3⟩; replace HPC := hide ((unhide HPC).below hb3); replace ⟨k0, k1, k2, k3, k4, k5, k6, k7⟩ := unhide HPC; replace HGC := hide ((unhide HGC).below hb3); replace HKC := hide ((unhide HKC).trans (Kept1.of_below hb3)); clear hb3) | (go_at_call 85; refine ((unhide HC2) _ (unhide HGC)).mono ?_; rintro e w6 ⟨rfl, hg4, hk4⟩; replace HPC := hide ((unhide HPC).kept (unhide hk4) (by omega)); replace HGC := hg4; replace HKC := hide ((unhide HKC).trans (unhide hk4)); clear hk4 hg4; replace ⟨k0, k1, k2, k3, k4, k5, k6, k7⟩ := unhide HPC))
  all_goals
    replace HPC := hide ((unhide HPC).set5 (.iface T2' v2'))
    replace HGC := hide ((unhide HGC).other (N := w.heap.size) (o := 5) (by omega) (.iface T2' v2'))
    replace HKC := hide ((unhide HKC).far 5 (.iface T2' v2') (Nat.le_refl _))
    clear k0 k1 k2 k3 k4 k5 k6 k7 HC2
    obtain ⟨k0, k1, k2, k3, k4, k5, k6, k7⟩ := unhide HPC
    go_wp2_with fail
    refine (enclose_any (lev_inf p (.iface T' v') (.iface T2' v2')) g m2 least _ (unhide HGC) hm2).mono ?_
    rintro x w7 ⟨rfl, h1, h2⟩
    obtain ⟨T6, v6, hTv⟩ := encV_iface p.l least 172 (.agg #[.string p.s, .int .i64 p.k, .int .i64 p.l, .int .i64 p.sd, .iface T' v', .iface T2' v2'])
    have HK6 := hide ((unhide HKC).trans (unhide h2))
    unfold eInf
    rw [hTv]
    clear k0 k1 k2 k3 k4 k5 k6 k7 HPC HGC HKC h2
    go_wp2_with fail
    go_ret
    exact ⟨by first | rfl | (rw [hTv]; rfl), h1, HK6⟩
end Go.Proofs.YtokabkhnidlcnabGreat

/-
  Walks: the program's inner trees put into holes, at every node (fit); a node over its kids (exprOver).
-/
namespace Go.Proofs.YtokabkhnidlcnabGreat
set_option maxRecDepth 100000
set_option linter.unusedSimpArgs false
set_option linter.unusedVariables false
open Go.RowKit Go.Maps

theorem clos_enc (ns : List OpR) (o : NodeR) (l : Int) (s : Nat) (u : List NodeR) : (clos ns o l s u).length + 1 = u.length + encN (levN ns o) l := by
  unfold clos encN
  split <;> simp

theorem opA_some {ns : List OpR} {o : NodeR} {j : Nat} (h : fnd ns o.t (o.k - 2) = some j) : opA ns o = atO ns j := by
  unfold opA
  rw [h]

theorem holeN_op {ns : List OpR} {o : NodeR} {j : Nat} (h : fnd ns o.t (o.k - 2) = some j) (b : Bool) : holeN ns o b = holeI (opA ns o).s (opA ns o).k (opA ns o).l (opA ns o).sd b := by
  rw [opA_some h]
  unfold holeN
  rw [h]
  rfl

theorem fS_iface (ns : List OpR) (xs : List NodeR) : ∀ n i f, i < n → frS xs i = some f → ∀ l, ∃ T v, fS ns xs i l = .iface T v
  | 0, _, _, h, _ => absurd h (Nat.not_lt_zero _)
  | n + 1, i, f, h, hf => by
    intro l
    have cl : ∀ p o e e', ∃ T v, closV ns (atN xs i) l (exN p o e e') = .iface T v := fun p o e e' => by
      obtain ⟨T, v, h⟩ := exN_iface p o e e'
      rw [h]
      exact encV_iface (levN ns (atN xs i)) l T v
    rcases frS_some hf with ⟨hk, ha, hb, hfi⟩ | ⟨hk, h1i, ha, hbb, hf1⟩ | ⟨hk, h1i, hbb, f2, hf2, h2f, ha, hf1⟩
    · rw [fS_zero hk]; exact cl _ _ _ _
    · by_cases h6 : (atN xs i).k = 6
      · rw [fS_group h6 h1i hf1]
        exact fS_iface ns xs n (i - 1) f (by omega) hf1 l
      · rw [fS_one hk h6 h1i hf1]; exact cl _ _ _ _
    · rw [fS_two hk h1i hf2 h2f ha hf1]; exact cl _ _ _ _

theorem post_eq {w : World} {g m m' : Nat} {e e' : Value} (hm : m = m') (he : e = e') {f : FuncId} {args : Array Value} (h : Calls Tryz.prog f args w (FitPost w g m e)) : Calls Tryz.prog f args w (FitPost w g m' e') := by
  subst hm
  subst he
  exact h

/-- Every node of a well-formed tree is put into its hole. -/
theorem fit_any (ns : List OpR) (xs : List NodeR) (htx : ∀ i, i < xs.length → TxtOk (atN xs i)) (hkn : Knows ns xs) (hsz : Sized ns) : ∀ n i f, i < n → i < xs.length → frS xs i = some f → ∀ (g m : Nat) (least : Int) (w : World), GrAt w g m → m + 2 * (i + 1 - f) ≤ 90000 →
    Calls Tryz.prog 85 #[.pointer (some ⟨g, 0, none⟩), exS ns xs i, .int .i64 least] w (FitPost w g (m + (gS ns xs i least 0).length) (fS ns xs i least))
  | 0, _, _, h, _, _ => absurd h (Nat.not_lt_zero _)
  | n + 1, i, f, h, hi, hf => by
    intro g m least w hg hm
    have hso : isOpN (atN xs i) → ∃ j, fnd ns (atN xs i).t ((atN xs i).k - 2) = some j := fun ho => by
      cases e : fnd ns (atN xs i).t ((atN xs i).k - 2) with
      | none => exact absurd e (hkn i hi ho)
      | some j => exact ⟨j, rfl⟩
    have hlo : isOpN (atN xs i) → levN ns (atN xs i) = (opA ns (atN xs i)).l := fun ho => by
      obtain ⟨j, hj⟩ := hso ho
      rw [opA_some hj]
      exact levN_op ho.1 ho.2 hj
    have hss : isOpN (atN xs i) → (opA ns (atN xs i)).s.size ≤ maxLen := fun ho => by
      obtain ⟨j, hj⟩ := hso ho
      rw [opA_some hj]
      exact hsz j (fnd_some hj).1
    rcases frS_some hf with ⟨hk, ha, hb, hfi⟩ | ⟨hk, h1i, ha, hbb, hf1⟩ | ⟨hk, h1i, hbb, f2, hf2, h2f, ha, hf1⟩
    · rcases (htx i hi).2 with ⟨h1, _⟩ | ⟨h2, _⟩ | ⟨h6, _⟩ | ⟨h345, _⟩
      · have hl : levN ns (atN xs i) = 1001 := levN_not (by omega)
        have e0 : exS ns xs i = eNum (atN xs i).t := by rw [exS_is]; simp only [exN, h1, if_true]
        have e1 : fS ns xs i least = encV 1001 least (eNum (atN xs i).t) := by
          rw [fS_zero hk, closV, hl]; simp only [exN, h1, if_true]; rfl
        have e2 := clos_enc ns (atN xs i) least 0 [⟨(atN xs i).k, (atN xs i).t, 0, 0⟩]
        rw [← gS_zero hk, hl] at e2
        simp only [List.length_cons, List.length_nil] at e2
        rw [e0]
        exact post_eq (by omega) e1.symm (fit_leaf (no_num _) (lev_num _) g m least w hg (by omega))
      · have hl : levN ns (atN xs i) = 1001 := levN_not (by omega)
        have e0 : exS ns xs i = eName (atN xs i).t := by rw [exS_is]; simp only [exN, h2]; rfl
        have e1 : fS ns xs i least = encV 1001 least (eName (atN xs i).t) := by
          rw [fS_zero hk, closV, hl]; simp only [exN, h2]; rfl
        have e2 := clos_enc ns (atN xs i) least 0 [⟨(atN xs i).k, (atN xs i).t, 0, 0⟩]
        rw [← gS_zero hk, hl] at e2
        simp only [List.length_cons, List.length_nil] at e2
        rw [e0]
        exact post_eq (by omega) e1.symm (fit_leaf (no_name _) (lev_name _) g m least w hg (by omega))
      · rw [h6] at hk; simp [kids] at hk
      · rcases h345 with h | h | h <;> rw [h] at hk <;> simp [kids] at hk
    · have hle := frS_le hf1
      have ih := fit_any ns xs htx hkn hsz n (i - 1) f (by omega) (by omega) hf1
      have hln := gS_len ns xs i (i - 1) f (by omega) hf1
      obtain ⟨T, v, hTv⟩ := exS_iface ns xs (i - 1)
      rw [hTv] at ih
      have ex := exS_one (ns := ns) h1i ha .nilIface hk
      rw [hTv] at ex
      rcases (htx i hi).2 with ⟨h1, _⟩ | ⟨h2, _⟩ | ⟨h6, _⟩ | ⟨h345, _⟩
      · rw [h1] at hk; simp [kids] at hk
      · rw [h2] at hk; simp [kids] at hk
      · have e0 : exS ns xs i = eGrp (.iface T v) := by rw [ex]; simp only [exN, h6]; rfl
        rw [e0]
        refine post_eq rfl (fS_group h6 h1i hf1 least).symm (fit_grp g _ least w (fS_iface ns xs i (i - 1) f (by omega) hf1 least) (fun o => ?_))
        refine post_eq (by rw [gS_group h6 h1i hf1]) rfl (ih g m least _ (hg.below (below1 _ _)) (by omega))
      · rcases h345 with h | h | h
        · have ho : isOpN (atN xs i) := ⟨by omega, by omega⟩
          obtain ⟨j, hj⟩ := hso ho
          have e0 : exS ns xs i = ePre (opA ns (atN xs i)) (.iface T v) := by rw [ex]; simp only [exN, h]; rfl
          have e1 : fS ns xs i least = encV (opA ns (atN xs i)).l least (ePre (opA ns (atN xs i)) (fS ns xs (i - 1) (holeN ns (atN xs i) false))) := by
            rw [fS_one hk (by omega) h1i hf1, closV, hlo ho]; simp only [exN, h]; rfl
          have e2 := clos_enc ns (atN xs i) least 0 (gS ns xs (i - 1) (holeN ns (atN xs i) false) 0 ++ [⟨(atN xs i).k, (atN xs i).t, ((0 + (gS ns xs (i - 1) (holeN ns (atN xs i) false) 0).length : Nat) : Int) - 1, 0⟩])
          rw [← gS_one hk (by omega) h1i hf1 least 0 rfl, hlo ho, List.length_append] at e2
          simp only [List.length_cons, List.length_nil] at e2
          have hl1 := (hln (holeN ns (atN xs i) false) 0).2
          rw [e0]
          refine post_eq ?_ e1.symm (fit_pre (opA ns (atN xs i)) g m (m + (gS ns xs (i - 1) (holeN ns (atN xs i) false) 0).length) least w (fS_iface ns xs i (i - 1) f (by omega) hf1 _) hg (hss ho) (by omega) (fun W hW => ?_))
          · omega
          · rw [← holeN_op hj false]
            exact ih g m _ W hW (by omega)
        · rw [h] at hk; simp [kids] at hk
        · have ho : isOpN (atN xs i) := ⟨by omega, by omega⟩
          obtain ⟨j, hj⟩ := hso ho
          have e0 : exS ns xs i = ePost (opA ns (atN xs i)) (.iface T v) := by rw [ex]; simp only [exN, h]; rfl
          have e1 : fS ns xs i least = encV (opA ns (atN xs i)).l least (ePost (opA ns (atN xs i)) (fS ns xs (i - 1) (holeN ns (atN xs i) false))) := by
            rw [fS_one hk (by omega) h1i hf1, closV, hlo ho]; simp only [exN, h]; rfl
          have e2 := clos_enc ns (atN xs i) least 0 (gS ns xs (i - 1) (holeN ns (atN xs i) false) 0 ++ [⟨(atN xs i).k, (atN xs i).t, ((0 + (gS ns xs (i - 1) (holeN ns (atN xs i) false) 0).length : Nat) : Int) - 1, 0⟩])
          rw [← gS_one hk (by omega) h1i hf1 least 0 rfl, hlo ho, List.length_append] at e2
          simp only [List.length_cons, List.length_nil] at e2
          have hl1 := (hln (holeN ns (atN xs i) false) 0).2
          rw [e0]
          refine post_eq ?_ e1.symm (fit_post (opA ns (atN xs i)) g m (m + (gS ns xs (i - 1) (holeN ns (atN xs i) false) 0).length) least w (fS_iface ns xs i (i - 1) f (by omega) hf1 _) hg (hss ho) (by omega) (fun W hW => ?_))
          · omega
          · rw [← holeN_op hj false]
            exact ih g m _ W hW (by omega)
    · have hle := frS_le hf2
      have hle1 := frS_le hf1
      have h4 : (atN xs i).k = 4 := by
        unfold kids at hk
        split at hk
        · assumption
        · split at hk <;> omega
      have ho : isOpN (atN xs i) := ⟨by omega, by omega⟩
      obtain ⟨j, hj⟩ := hso ho
      have ih1 := fit_any ns xs htx hkn hsz n (f2 - 1) f (by omega) (by omega) hf1
      have ih2 := fit_any ns xs htx hkn hsz n (i - 1) f2 (by omega) (by omega) hf2
      have hln1 := (gS_len ns xs i (f2 - 1) f (by omega) hf1 (holeN ns (atN xs i) false) 0).2
      have hln2 := (gS_len ns xs i (i - 1) f2 (by omega) hf2 (holeN ns (atN xs i) true) 0).2
      obtain ⟨T, v, hTv⟩ := exS_iface ns xs (f2 - 1)
      obtain ⟨T2, v2, hTv2⟩ := exS_iface ns xs (i - 1)
      rw [hTv] at ih1
      rw [hTv2] at ih2
      have ex := exS_two (ns := ns) (j := f2 - 1) h1i (by rw [ha]; omega) (by omega) hbb
      rw [hTv, hTv2] at ex
      have e0 : exS ns xs i = eInf (opA ns (atN xs i)) (.iface T v) (.iface T2 v2) := by rw [ex]; simp only [exN, h4]; rfl
      have e1 : fS ns xs i least = encV (opA ns (atN xs i)).l least (eInf (opA ns (atN xs i)) (fS ns xs (f2 - 1) (holeN ns (atN xs i) false)) (fS ns xs (i - 1) (holeN ns (atN xs i) true))) := by
        rw [fS_two hk h1i hf2 h2f ha hf1, closV, hlo ho]; simp only [exN, h4]; rfl
      obtain ⟨u1, hu1⟩ : ∃ u1, u1 = gS ns xs (f2 - 1) (holeN ns (atN xs i) false) 0 := ⟨_, rfl⟩
      obtain ⟨u2, hu2⟩ : ∃ u2, u2 = gS ns xs (i - 1) (holeN ns (atN xs i) true) (0 + u1.length) := ⟨_, rfl⟩
      have e2 := clos_enc ns (atN xs i) least 0 ((u1 ++ u2) ++ [⟨(atN xs i).k, (atN xs i).t, ((0 + u1.length : Nat) : Int) - 1, ((0 + u1.length + u2.length : Nat) : Int) - 1⟩])
      rw [← gS_two hk h1i hf2 h2f ha hf1 least 0 hu1 hu2, hlo ho, List.length_append, List.length_append] at e2
      simp only [List.length_cons, List.length_nil] at e2
      have e3 : u2.length = (gS ns xs (i - 1) (holeN ns (atN xs i) true) 0).length := by
        rw [hu2]; exact gS_len_any ns xs i (i - 1) f2 (by omega) hf2 _ _ _
      rw [← hu1] at hln1
      rw [← e3] at hln2
      rw [e0]
      refine post_eq ?_ e1.symm (fit_inf (opA ns (atN xs i)) g m (m + u1.length) (m + u1.length + u2.length) least w (fS_iface ns xs i (f2 - 1) f (by omega) hf1 _) (fS_iface ns xs i (i - 1) f2 (by omega) hf2 _) hg (hss ho) (by omega) (fun W hW => ?_) (fun W hW => ?_))
      · omega
      · rw [← holeN_op hj false, hu1]
        exact ih1 g m _ W hW (by omega)
      · rw [← holeN_op hj true, e3]
        exact ih2 g _ _ W hW (by omega)

end Go.Proofs.YtokabkhnidlcnabGreat

/-
  Walks: a node over its kids (exprOver).
-/
namespace Go.Proofs.YtokabkhnidlcnabGreat
set_option maxRecDepth 100000
set_option linter.unusedSimpArgs false
set_option linter.unusedVariables false
open Go.RowKit Go.Maps

/-- What the index finds at an operator node is its operator. -/
theorem found_op {ns : List OpR} {o : NodeR} {p : OpR} {v : Bool} (h : FoundAt ns o p v) (ho : isOpN o) (hk : fnd ns o.t (o.k - 2) ≠ none) : p = opA ns o := by
  rcases h with ⟨j, _, hj, _, rfl⟩ | ⟨h, _⟩
  · exact (opA_some hj).symm
  · exact absurd (h ho) hk

set_option maxHeartbeats 1000000 in
theorem exprOver_leaf (bo bs : Nat) (ns : List OpR) (o : NodeR) (e e' : Value) (w : World) (hi : Idx w bo bs ns ns.length) (hc : IsCode ns 0) (hok : okTo ns ns.length) (ht : o.t.size ≤ maxLen) (hk : o.k = 1 ∨ o.k = 2) :
    Calls Tryz.prog 124 #[.agg #[.map (some bo), .map (some bs)], .agg #[.int .i64 o.k, .string o.t, .int .i64 o.a, .int .i64 o.b], e, e'] w fun x w' => x = .returned (exN (opA ns o) o e e') ∧ Below w.heap.size w w' := by
  have HI := hide (fun o1 o2 => (hi.kept (below1 w o1)).kept (below1 _ o2))
  have HC := hide hc
  have HOK := hide hok
  clear hi hc hok
  go_enter Tryz.func124, Tryz.ntmps124
  go_wp2_with fail
  refine (opOf_any bo bs ns o _ ((unhide HI) _ _) (unhide HC) (unhide HOK) ht).mono ?_
  rintro x w1 ⟨⟨p, v, rfl, hp⟩, hb1⟩
  have bel1 : Below w.heap.size w w1 := ((below1 _ _).alloc (by simp) _).trans (hb1.mono (by simp; omega))
  have z1 : w.heap.size + 2 ≤ w1.heap.size := by have := hb1.size; simp at this; omega
  have c0 : (w1.alloc (.cells #[.string p.s, .int .i64 p.k, .int .i64 p.l, .int .i64 p.sd] 104)).cell? ⟨w.heap.size + 1, 0, none⟩ = some (.int .i64 o.k) := ((below1 _ _).cell (p := ⟨w.heap.size + 1, 0, none⟩) (show w.heap.size + 1 < w1.heap.size by omega)).trans ((hb1.cell (p := ⟨w.heap.size + 1, 0, none⟩) (by simp)).trans (by simp [go_sem]))
  have c1 : (w1.alloc (.cells #[.string p.s, .int .i64 p.k, .int .i64 p.l, .int .i64 p.sd] 104)).cell? ⟨w.heap.size + 1, 1, none⟩ = some (.string o.t) := ((below1 _ _).cell (p := ⟨w.heap.size + 1, 1, none⟩) (show w.heap.size + 1 < w1.heap.size by omega)).trans ((hb1.cell (p := ⟨w.heap.size + 1, 1, none⟩) (by simp)).trans (by simp [go_sem]))
  clear hp hb1
  rcases hk with hk | hk
  · have HE := hide (show exN (opA ns o) o e e' = eNum o.t by simp only [exN, hk]; rfl)
    rw [hk] at c0
    go_wp2_with fail
    go_ret
    exact ⟨by rw [unhide HE]; rfl, bel1.alloc bel1.size _⟩
  · have HE := hide (show exN (opA ns o) o e e' = eName o.t by simp only [exN, hk]; rfl)
    rw [hk] at c0
    go_wp2_with fail
    go_ret
    exact ⟨by rw [unhide HE]; rfl, bel1.alloc bel1.size _⟩

set_option maxHeartbeats 1000000 in
theorem exprOver_one (bo bs : Nat) (ns : List OpR) (o : NodeR) (T : TypeId) (u : Value) (e' : Value) (w : World) (hi : Idx w bo bs ns ns.length) (hc : IsCode ns 0) (hok : okTo ns ns.length) (ht : o.t.size ≤ maxLen) (hk : o.k = 3 ∨ o.k = 5 ∨ o.k = 6) (hkn : isOpN o → fnd ns o.t (o.k - 2) ≠ none) :
    Calls Tryz.prog 124 #[.agg #[.map (some bo), .map (some bs)], .agg #[.int .i64 o.k, .string o.t, .int .i64 o.a, .int .i64 o.b], .iface T u, e'] w fun x w' => x = .returned (exN (opA ns o) o (.iface T u) e') ∧ Below w.heap.size w w' := by
  have HI := hide (fun o1 o2 => (hi.kept (below1 w o1)).kept (below1 _ o2))
  have HC := hide hc
  have HOK := hide hok
  have HKN := hide hkn
  clear hi hc hok hkn
  go_enter Tryz.func124, Tryz.ntmps124
  go_wp2_with fail
  refine (opOf_any bo bs ns o _ ((unhide HI) _ _) (unhide HC) (unhide HOK) ht).mono ?_
  rintro x w1 ⟨⟨p, v, rfl, hp⟩, hb1⟩
  have HP := hide hp
  have bel1 : Below w.heap.size w w1 := ((below1 _ _).alloc (by simp) _).trans (hb1.mono (by simp; omega))
  have z1 : w.heap.size + 2 ≤ w1.heap.size := by have := hb1.size; simp at this; omega
  have c0 : (w1.alloc (.cells #[.string p.s, .int .i64 p.k, .int .i64 p.l, .int .i64 p.sd] 104)).cell? ⟨w.heap.size + 1, 0, none⟩ = some (.int .i64 o.k) := ((below1 _ _).cell (p := ⟨w.heap.size + 1, 0, none⟩) (show w.heap.size + 1 < w1.heap.size by omega)).trans ((hb1.cell (p := ⟨w.heap.size + 1, 0, none⟩) (by simp)).trans (by simp [go_sem]))
  clear hp hb1
  rcases hk with hk | hk | hk
  · have HE := hide (show exN (opA ns o) o (.iface T u) e' = ePre p (.iface T u) by
      rw [found_op (unhide HP) ⟨by omega, by omega⟩ ((unhide HKN) ⟨by omega, by omega⟩)]
      simp only [exN, hk]; rfl)
    rw [hk] at c0
    clear hk HKN
    go_wp2_with fail
    go_ret
    exact ⟨by rw [unhide HE]; rfl, bel1.alloc bel1.size _⟩
  · have HE := hide (show exN (opA ns o) o (.iface T u) e' = ePost p (.iface T u) by
      rw [found_op (unhide HP) ⟨by omega, by omega⟩ ((unhide HKN) ⟨by omega, by omega⟩)]
      simp only [exN, hk]; rfl)
    rw [hk] at c0
    clear hk HKN
    go_wp2_with fail
    go_ret
    exact ⟨by rw [unhide HE]; rfl, bel1.alloc bel1.size _⟩
  · have HE := hide (show exN (opA ns o) o (.iface T u) e' = eGrp (.iface T u) by simp only [exN, hk]; rfl)
    rw [hk] at c0
    clear hk HKN
    go_wp2_with fail
    go_ret
    exact ⟨by rw [unhide HE]; rfl, bel1.alloc bel1.size _⟩

set_option maxHeartbeats 1000000 in
theorem exprOver_two (bo bs : Nat) (ns : List OpR) (o : NodeR) (T T' : TypeId) (u u' : Value) (w : World) (hi : Idx w bo bs ns ns.length) (hc : IsCode ns 0) (hok : okTo ns ns.length) (ht : o.t.size ≤ maxLen) (hk : o.k = 4) (hkn : isOpN o → fnd ns o.t (o.k - 2) ≠ none) :
    Calls Tryz.prog 124 #[.agg #[.map (some bo), .map (some bs)], .agg #[.int .i64 o.k, .string o.t, .int .i64 o.a, .int .i64 o.b], .iface T u, .iface T' u'] w fun x w' => x = .returned (exN (opA ns o) o (.iface T u) (.iface T' u')) ∧ Below w.heap.size w w' := by
  have HI := hide (fun o1 o2 => (hi.kept (below1 w o1)).kept (below1 _ o2))
  have HC := hide hc
  have HOK := hide hok
  have HKN := hide hkn
  have HK4 := hide hk
  clear hi hc hok hkn hk
  go_enter Tryz.func124, Tryz.ntmps124
  go_wp2_with fail
  refine (opOf_any bo bs ns o _ ((unhide HI) _ _) (unhide HC) (unhide HOK) ht).mono ?_
  rintro x w1 ⟨⟨p, v, rfl, hp⟩, hb1⟩
  have HP := hide hp
  have bel1 : Below w.heap.size w w1 := ((below1 _ _).alloc (by simp) _).trans (hb1.mono (by simp; omega))
  have z1 : w.heap.size + 2 ≤ w1.heap.size := by have := hb1.size; simp at this; omega
  have c0 : (w1.alloc (.cells #[.string p.s, .int .i64 p.k, .int .i64 p.l, .int .i64 p.sd] 104)).cell? ⟨w.heap.size + 1, 0, none⟩ = some (.int .i64 o.k) := ((below1 _ _).cell (p := ⟨w.heap.size + 1, 0, none⟩) (show w.heap.size + 1 < w1.heap.size by omega)).trans ((hb1.cell (p := ⟨w.heap.size + 1, 0, none⟩) (by simp)).trans (by simp [go_sem]))
  clear hp hb1
  have hk := unhide HK4
  have HE := hide (show exN (opA ns o) o (.iface T u) (.iface T' u') = eInf p (.iface T u) (.iface T' u') by
    rw [found_op (unhide HP) ⟨by omega, by omega⟩ ((unhide HKN) ⟨by omega, by omega⟩)]
    simp only [exN, hk]; rfl)
  rw [hk] at c0
  clear hk HKN
  go_wp2_with fail
  go_ret
  exact ⟨by rw [unhide HE]; rfl, bel1.alloc bel1.size _⟩
end Go.Proofs.YtokabkhnidlcnabGreat
