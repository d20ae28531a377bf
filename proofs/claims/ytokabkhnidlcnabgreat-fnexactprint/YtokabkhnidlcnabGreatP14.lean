import Derived.Deep.RegionHeldLaw
import Derived.Test.YtokabkhnidlcnabGreatP05
import Derived.Test.YtokabkhnidlcnabGreatP10
import Derived.Test.YtokabkhnidlcnabGreatP13

/-
  Walks: fit at postfix nodes.
-/
namespace Go.Proofs.YtokabkhnidlcnabGreat
set_option maxRecDepth 100000
set_option linter.unusedSimpArgs false
set_option linter.unusedVariables false
open Go.RowKit

set_option maxHeartbeats 1000000 in
theorem fit_post {T : TypeId} {v : Value} (p : OpR) (g m m1 : Nat) (least : Int) {e1 : Value} (w : World) (he : ∃ T' v', e1 = .iface T' v') (hg : GrAt w g m) (hsz : p.s.size ≤ maxLen) (hm1 : m1 ≤ 100000)
    (hc : ∀ W, GrAt W g m → Calls Tryz.prog 85 #[.pointer (some ⟨g, 0, none⟩), .iface T v, .int .i64 (holeI p.s p.k p.l p.sd false)] W (FitPost W g m1 e1)) :
    Calls Tryz.prog 85 #[.pointer (some ⟨g, 0, none⟩), ePost p (.iface T v), .int .i64 least] w (FitPost w g (m1 + encN p.l least) (encV p.l least (ePost p e1))) := by
  obtain ⟨T', v', rfl⟩ := he
  obtain ⟨n1, n2, n3⟩ := no_post (.agg #[.string p.s, .int .i64 p.k, .int .i64 p.l, .int .i64 p.sd, .iface T v])
  have i1 := is_post (.agg #[.string p.s, .int .i64 p.k, .int .i64 p.l, .int .i64 p.sd, .iface T v])
  unfold Nots zG at n1
  unfold Nots zP at n2
  unfold Nots zI at n3
  have hlt := block_lt_of_cell hg.1
  have HC := hide hc
  have HGC := hide (show GrAt (w.alloc (.cells #[.string p.s, .int .i64 p.k, .int .i64 p.l, .int .i64 p.sd, .iface T v] 173)).drew g m from hg.below ((below1 _ _).drew))
  have HPC := hide (show PreAt (w.alloc (.cells #[.string p.s, .int .i64 p.k, .int .i64 p.l, .int .i64 p.sd, .iface T v] 173)).drew w.heap.size p (.iface T v) from
    (show PreAt (w.alloc (.cells #[.string p.s, .int .i64 p.k, .int .i64 p.l, .int .i64 p.sd, .iface T v] 173)) w.heap.size p (.iface T v) from ⟨by simp [go_sem], by simp [go_sem], by simp [go_sem], by simp [go_sem], by simp [go_sem], by simp [go_sem]⟩).below ((Below.refl _ _).drew))
  have HKC := hide (show Kept1 w (w.alloc (.cells #[.string p.s, .int .i64 p.k, .int .i64 p.l, .int .i64 p.sd, .iface T v] 173)).drew g from Kept1.of_below ((below1 _ _).drew))
  clear hc hg
  unfold ePost
  go_enter Tryz.func85, Tryz.ntmps85
  go_wp2_with fail
  clear n1 n2 n3 i1
  obtain ⟨k0, k1, k2, k3, k4, k5⟩ := unhide HPC
  go_region_with
    (first | (go_at_call 113; refine (implHole_any p.s p.k p.l p.sd false _ hsz).mono ?_; rintro e w3 ⟨rfl, hb3⟩; replace HPC := hide ((unhide HPC).below hb3); replace ⟨k0, k1, k2, k3, k4, k5⟩ := unhide HPC; replace HGC := hide ((unhide HGC).below hb3); replace HKC := hide ((unhide HKC).trans (Kept1.of_below hb3)); clear hb3) | (go_at_call 85; refine ((unhide HC) _ (unhide HGC)).mono ?_; rintro e w4 ⟨rfl, hg4, hk4⟩; replace HPC := hide ((unhide HPC).kept (unhide hk4) (by omega)); replace HGC := hg4; replace HKC := hide ((unhide HKC).trans (unhide hk4)); clear hk4 hg4; replace ⟨k0, k1, k2, k3, k4, k5⟩ := unhide HPC))
  all_goals
    replace HPC := hide ((unhide HPC).set (.iface T' v'))
    replace HGC := hide ((unhide HGC).other (N := w.heap.size) (o := 4) (by omega) (.iface T' v'))
    replace HKC := hide ((unhide HKC).far 4 (.iface T' v') (Nat.le_refl _))
    clear k0 k1 k2 k3 k4 k5
    obtain ⟨k0, k1, k2, k3, k4, k5⟩ := unhide HPC
    go_wp2_with fail
    refine (enclose_any (lev_post p (.iface T' v')) g m1 least _ (unhide HGC) hm1).mono ?_
    rintro x w6 ⟨rfl, h1, h2⟩
    obtain ⟨T6, v6, hTv⟩ := encV_iface p.l least 173 (.agg #[.string p.s, .int .i64 p.k, .int .i64 p.l, .int .i64 p.sd, .iface T' v'])
    have HK6 := hide ((unhide HKC).trans (unhide h2))
    unfold ePost
    rw [hTv]
    clear k0 k1 k2 k3 k4 k5 HPC HGC HKC h2
    go_wp2_with fail
    go_ret
    exact ⟨by first | rfl | (rw [hTv]; rfl), h1, HK6⟩
end Go.Proofs.YtokabkhnidlcnabGreat

/-
  Walks: fit at infix nodes.
-/
namespace Go.Proofs.YtokabkhnidlcnabGreat
set_option maxRecDepth 100000
set_option linter.unusedSimpArgs false
set_option linter.unusedVariables false
open Go.RowKit

/-- An inner infix node in a variable. -/
def InfAt (w : World) (N : Nat) (p : OpR) (e e' : Value) : Prop := w.cell? ⟨N, 0, none⟩ = some (.string p.s) ∧ w.cell? ⟨N, 1, none⟩ = some (.int .i64 p.k) ∧ w.cell? ⟨N, 2, none⟩ = some (.int .i64 p.l) ∧ w.cell? ⟨N, 3, none⟩ = some (.int .i64 p.sd) ∧ w.cell? ⟨N, 4, none⟩ = some e ∧ w.cell? ⟨N, 5, none⟩ = some e' ∧ w.frozen? ⟨N, 4, none⟩ = false ∧ w.frozen? ⟨N, 5, none⟩ = false

theorem InfAt.kept {w w' : World} {N g : Nat} {p : OpR} {e e' : Value} (h : InfAt w N p e e') (hk : Kept1 w w' g) (hne : N ≠ g) : InfAt w' N p e e' := by
  obtain ⟨h0, h1, h2, h3, h4, h5, h6, h7⟩ := h
  have hlt := block_lt_of_cell h0
  have c := hk.cell hlt hne
  exact ⟨(c 0).trans h0, (c 1).trans h1, (c 2).trans h2, (c 3).trans h3, (c 4).trans h4, (c 5).trans h5, (hk.frozen hlt hne 4).trans h6, (hk.frozen hlt hne 5).trans h7⟩

theorem InfAt.below {w w' : World} {N : Nat} {p : OpR} {e e' : Value} (h : InfAt w N p e e') (hb : Below w.heap.size w w') : InfAt w' N p e e' :=
  h.kept (g := w.heap.size) (Kept1.of_below hb) (by have : N < w.heap.size := block_lt_of_cell h.1; omega)

theorem InfAt.set4 {w : World} {N : Nat} {p : OpR} {e e' : Value} (h : InfAt w N p e e') (u : Value) : InfAt (w.setCell ⟨N, 4, none⟩ u) N p u e' := by
  obtain ⟨h0, h1, h2, h3, h4, h5, h6, h7⟩ := h
  have c : ∀ o, o ≠ 4 → (w.setCell ⟨N, 4, none⟩ u).cell? ⟨N, o, none⟩ = w.cell? ⟨N, o, none⟩ := fun o ho => World.cell?_setCell_other _ _ _ _ (fun x => ho (by injection x with _ x; exact x.symm))
  exact ⟨(c 0 (by omega)).trans h0, (c 1 (by omega)).trans h1, (c 2 (by omega)).trans h2, (c 3 (by omega)).trans h3, World.cell?_setCell_same _ _ _ h4, (c 5 (by omega)).trans h5, (World.frozen?_setCell _ _ _ _).trans h6, (World.frozen?_setCell _ _ _ _).trans h7⟩
theorem InfAt.set5 {w : World} {N : Nat} {p : OpR} {e e' : Value} (h : InfAt w N p e e') (u : Value) : InfAt (w.setCell ⟨N, 5, none⟩ u) N p e u := by
  obtain ⟨h0, h1, h2, h3, h4, h5, h6, h7⟩ := h
  have c : ∀ o, o ≠ 5 → (w.setCell ⟨N, 5, none⟩ u).cell? ⟨N, o, none⟩ = w.cell? ⟨N, o, none⟩ := fun o ho => World.cell?_setCell_other _ _ _ _ (fun x => ho (by injection x with _ x; exact x.symm))
  exact ⟨(c 0 (by omega)).trans h0, (c 1 (by omega)).trans h1, (c 2 (by omega)).trans h2, (c 3 (by omega)).trans h3, (c 4 (by omega)).trans h4, World.cell?_setCell_same _ _ _ h5, (World.frozen?_setCell _ _ _ _).trans h6, (World.frozen?_setCell _ _ _ _).trans h7⟩

set_option maxHeartbeats 4000000 in
theorem fit_inf {T T2 : TypeId} {v v2 : Value} (p : OpR) (g m m1 m2 : Nat) (least : Int) {e1 e2 : Value} (w : World) (he : ∃ T' v', e1 = .iface T' v') (he2 : ∃ T' v', e2 = .iface T' v') (hg : GrAt w g m) (hsz : p.s.size ≤ maxLen) (hm2 : m2 ≤ 100000)
    (hc : ∀ W, GrAt W g m → Calls Tryz.prog 85 #[.pointer (some ⟨g, 0, none⟩), .iface T v, .int .i64 (holeI p.s p.k p.l p.sd false)] W (FitPost W g m1 e1))
    (hc2 : ∀ W, GrAt W g m1 → Calls Tryz.prog 85 #[.pointer (some ⟨g, 0, none⟩), .iface T2 v2, .int .i64 (holeI p.s p.k p.l p.sd true)] W (FitPost W g m2 e2)) :
    Calls Tryz.prog 85 #[.pointer (some ⟨g, 0, none⟩), eInf p (.iface T v) (.iface T2 v2), .int .i64 least] w (FitPost w g (m2 + encN p.l least) (encV p.l least (eInf p e1 e2))) := by
  obtain ⟨T', v', rfl⟩ := he
  obtain ⟨T2', v2', rfl⟩ := he2
  obtain ⟨n1, n2⟩ := no_inf (.agg #[.string p.s, .int .i64 p.k, .int .i64 p.l, .int .i64 p.sd, .iface T v, .iface T2 v2])
  have i1 := is_inf (.agg #[.string p.s, .int .i64 p.k, .int .i64 p.l, .int .i64 p.sd, .iface T v, .iface T2 v2])
  unfold Nots zG at n1
  unfold Nots zP at n2
  have hlt := block_lt_of_cell hg.1
  have HC := hide hc
  have HC2 := hide hc2
  have HGC := hide (show GrAt (w.alloc (.cells #[.string p.s, .int .i64 p.k, .int .i64 p.l, .int .i64 p.sd, .iface T v, .iface T2 v2] 172)).drew g m from hg.below ((below1 _ _).drew))
  have HPC := hide (show InfAt (w.alloc (.cells #[.string p.s, .int .i64 p.k, .int .i64 p.l, .int .i64 p.sd, .iface T v, .iface T2 v2] 172)).drew w.heap.size p (.iface T v) (.iface T2 v2) from
    (show InfAt (w.alloc (.cells #[.string p.s, .int .i64 p.k, .int .i64 p.l, .int .i64 p.sd, .iface T v, .iface T2 v2] 172)) w.heap.size p (.iface T v) (.iface T2 v2) from ⟨by simp [go_sem], by simp [go_sem], by simp [go_sem], by simp [go_sem], by simp [go_sem], by simp [go_sem], by simp [go_sem], by simp [go_sem]⟩).below ((Below.refl _ _).drew))
  have HKC := hide (show Kept1 w (w.alloc (.cells #[.string p.s, .int .i64 p.k, .int .i64 p.l, .int .i64 p.sd, .iface T v, .iface T2 v2] 172)).drew g from Kept1.of_below ((below1 _ _).drew))
  clear hc hc2 hg
  unfold eInf
  go_enter Tryz.func85, Tryz.ntmps85
  go_wp2_with fail
  clear n1 n2 i1
  obtain ⟨k0, k1, k2, k3, k4, k5, k6, k7⟩ := unhide HPC
  go_region_with
    (first | (go_at_call 113; refine (implHole_any p.s p.k p.l p.sd false _ hsz).mono ?_; rintro e w3 ⟨rfl, hb3⟩; replace HPC := hide ((unhide HPC).below hb3); replace ⟨k0, k1, k2, k3, k4, k5, k6, k7⟩ := unhide HPC; replace HGC := hide ((unhide HGC).below hb3); replace HKC := hide ((unhide HKC).trans (Kept1.of_below hb3)); clear hb3) | (go_at_call 85; refine ((unhide HC) _ (unhide HGC)).mono ?_; rintro e w4 ⟨rfl, hg4, hk4⟩; replace HPC := hide ((unhide HPC).kept (unhide hk4) (by omega)); replace HGC := hg4; replace HKC := hide ((unhide HKC).trans (unhide hk4)); clear hk4 hg4; replace ⟨k0, k1, k2, k3, k4, k5, k6, k7⟩ := unhide HPC))
  all_goals
    replace HPC := hide (((unhide HPC).set4 (.iface T' v')).below ((Below.refl _ _).drew))
    replace HGC := hide (((unhide HGC).other (N := w.heap.size) (o := 4) (by omega) (.iface T' v')).below ((Below.refl _ _).drew))
    replace HKC := hide (((unhide HKC).far 4 (.iface T' v') (Nat.le_refl _)).trans (Kept1.of_below ((Below.refl _ _).drew)))
    clear k0 k1 k2 k3 k4 k5 k6 k7 HC
    obtain ⟨k0, k1, k2, k3, k4, k5, k6, k7⟩ := unhide HPC
    go_wp2_with fail
    go_region_with
      (first | (go_at_call 113; refine (implHole_any p.s p.k p.l p.sd true _ hsz).mono ?_; rintro e w5 ⟨rfl, hb3⟩; replace HPC := hide ((unhide HPC).below hb3); replace ⟨k0, k1, k2, k3, k4, k5, k6, k7⟩ := unhide HPC; replace HGC := hide ((unhide HGC).below hb3); replace HKC := hide ((unhide HKC).trans (Kept1.of_below hb3)); clear hb3) | (go_at_call 85; refine ((unhide HC2) _ (unhide HGC)).mono ?_; rintro e w6 ⟨rfl, hg4, hk4⟩; replace HPC := hide ((unhide HPC).kept (unhide hk4) (by omega)); replace HGC := hg4; replace HKC := hide ((unhide HKC).trans (unhide hk4)); clear hk4 hg4; replace ⟨k0, k1, k2, k3, k4, k5, k6, k7⟩ := unhide HPC))
  all_goals
    replace HPC := hide ((unhide HPC).set5 (.iface T2' v2'))
    replace HGC := hide ((unhide HGC).other (N := w.heap.size) (o := 5) (by omega) (.iface T2' v2'))
    replace HKC := hide ((unhide HKC).far 5 (.iface T2' v2') (Nat.le_refl _))
    clear k0 k1 k2 k3 k4 k5 k6 k7 HC2
    obtain ⟨k0, k1, k2, k3, k4, k5, k6, k7⟩ := unhide HPC
    go_wp2_with fail
    refine (enclose_any (lev_inf p (.iface T' v') (.iface T2' v2')) g m2 least _ (unhide HGC) hm2).mono ?_
    rintro x w7 ⟨rfl, h1, h2⟩
    obtain ⟨T6, v6, hTv⟩ := encV_iface p.l least 172 (.agg #[.string p.s, .int .i64 p.k, .int .i64 p.l, .int .i64 p.sd, .iface T' v', .iface T2' v2'])
    have HK6 := hide ((unhide HKC).trans (unhide h2))
    unfold eInf
    rw [hTv]
    clear k0 k1 k2 k3 k4 k5 k6 k7 HPC HGC HKC h2
    go_wp2_with fail
    go_ret
    exact ⟨by first | rfl | (rw [hTv]; rfl), h1, HK6⟩
end Go.Proofs.YtokabkhnidlcnabGreat

/-
  Walks: the program's operators of nodes, levels.
-/
namespace Go.Proofs.YtokabkhnidlcnabGreat
set_option maxRecDepth 100000
set_option linter.unusedSimpArgs false
set_option linter.unusedVariables false
open Go.RowKit Go.Maps

/-- The kind of a node's operator, 0 where it has none. -/
def opKd (k : Int) : Int := if 3 ≤ k ∧ k ≤ 5 then k - 2 else 0

theorem opKd_op {k : Int} (h : 3 ≤ k ∧ k ≤ 5) : opKd k = k - 2 := if_pos h

theorem opKind_any (k : Int) (w : World) :
    Calls Tryz.prog 144 #[.int .i64 k] w fun e w' => e = .returned (.int .i64 (opKd k)) ∧ w' = w := by
  by_cases h3 : k = 3
  · subst h3
    go_enter Tryz.func144, Tryz.ntmps144
    go_wp2
    go_ret
    exact ⟨ret_int (by simp [opKd]), rfl⟩
  by_cases h4 : k = 4
  · subst h4
    go_enter Tryz.func144, Tryz.ntmps144
    go_wp2
    go_ret
    exact ⟨ret_int (by simp [opKd]), rfl⟩
  by_cases h5 : k = 5
  · subst h5
    go_enter Tryz.func144, Tryz.ntmps144
    go_wp2
    go_ret
    exact ⟨ret_int (by simp [opKd]), rfl⟩
  have e3 : (k == 3) = false := by simpa using h3
  have e4 : (k == 4) = false := by simpa using h4
  have e5 : (k == 5) = false := by simpa using h5
  have HK := hide (show opKd k = 0 by unfold opKd; rw [if_neg]; omega)
  clear h3 h4 h5
  go_enter Tryz.func144, Tryz.ntmps144
  go_wp2
  go_ret
  exact ⟨ret_int (unhide HK).symm, rfl⟩

/-- What the index says of a node. -/
theorem idx_find {w : World} {bo bs : Nat} {xs : List OpR} (hi : Idx w bo bs xs xs.length) (hc : IsCode xs 0) (hok : okTo xs xs.length) (o : NodeR) (ht : o.t.size ≤ maxLen) :
    ∃ D : DataW Unit, w.ownsMap Tryz.prog 135 opElem bo xs.length D ∧
      ((∃ j, isOpN o ∧ fnd xs o.t (o.k - 2) = some j ∧ Maps.has D (klO o.t (opKd o.k)) = true ∧ D.atKey (klO o.t (opKd o.k)) (opDat ⟨#[]⟩ 0 0 0) = opDat (atO xs j).s (atO xs j).k (atO xs j).l (atO xs j).sd) ∨
       ((isOpN o → fnd xs o.t (o.k - 2) = none) ∧ Maps.has D (klO o.t (opKd o.k)) = false)) := by
  obtain ⟨⟨D, hown, hD⟩, _, _⟩ := hi
  have hw : (Lit.int .i64 (opKd o.k)).wf = true := by
    unfold opKd
    split
    · rename_i h
      rcases (by omega : o.k = 3 ∨ o.k = 4 ∨ o.k = 5) with e | e | e <;> rw [e] <;> decide
    · decide
  obtain ⟨h1, h2⟩ := hD o.t (opKd o.k) ht hw
  refine ⟨D, hown, ?_⟩
  cases hh : Maps.has D (klO o.t (opKd o.k)) with
  | true =>
    obtain ⟨j, hj, e1, e2, e3⟩ := h2 hh
    have hop : isOpN o := by
      unfold isOpN
      have hk := ok_kind (hok j hj)
      unfold opKd at e2
      split at e2
      · assumption
      · omega
    have e2' : (atO xs j).k = o.k - 2 := by
      rw [e2]; exact opKd_op hop
    exact Or.inl ⟨j, hop, fnd_one hc hj ⟨e1, e2'⟩, rfl, e3⟩
  | false =>
    refine Or.inr ⟨fun hop => fnd_not (fun j hj h => ?_), rfl⟩
    have : Maps.has D (klO o.t (opKd o.k)) = true := h1.2 ⟨j, hj, h.1, by rw [h.2]; exact (opKd_op hop).symm⟩
    rw [hh] at this
    cases this

/-- What the index's look at a node gives. -/
def FoundAt (xs : List OpR) (o : NodeR) (p : OpR) (found : Bool) : Prop :=
  (∃ j, isOpN o ∧ fnd xs o.t (o.k - 2) = some j ∧ found = true ∧ p = atO xs j) ∨ ((isOpN o → fnd xs o.t (o.k - 2) = none) ∧ found = false)

set_option maxHeartbeats 2000000 in
theorem opOf_any (bo bs : Nat) (xs : List OpR) (o : NodeR) (w : World) (hi : Idx w bo bs xs xs.length) (hc : IsCode xs 0) (hok : okTo xs xs.length) (ht : o.t.size ≤ maxLen) :
    Calls Tryz.prog 143 #[.agg #[.map (some bo), .map (some bs)], .agg #[.int .i64 o.k, .string o.t, .int .i64 o.a, .int .i64 o.b]] w fun e w' => (∃ (p : OpR) (v : Bool), e = .returned (.tuple #[.agg #[.string p.s, .int .i64 p.k, .int .i64 p.l, .int .i64 p.sd], .bool v]) ∧ FoundAt xs o p v) ∧ Below w.heap.size w w' := by
  obtain ⟨D, hown, hcase⟩ := idx_find hi hc hok o ht
  have hw : (Lit.int .i64 (opKd o.k)).wf = true := by
    unfold opKd
    split
    · rename_i h
      rcases (by omega : o.k = 3 ∨ o.k = 4 ∨ o.k = 5) with e | e | e <;> rw [e] <;> decide
    · decide
  have HKY := hide (keyK ht hw)
  have HOW := hide hown
  have HCS := hide hcase
  have HB3 := hide (show ∀ o1 o2 o3 : Obj, Below w.heap.size w ((w.alloc o1).alloc o2 |>.alloc o3) from fun o1 o2 o3 => ((below1 w o1).alloc (by simp) o2).alloc (by simp; omega) o3)
  clear hown hcase hi hc hok
  go_enter Tryz.func143, Tryz.ntmps143
  go_wp2_with fail
  have hlook : ∀ W : World, W.ownsMap Tryz.prog 135 opElem bo xs.length D → ∃ p v, (Instr.lookup 67 (.map (some bo)) (.agg #[.string o.t, .int .i64 (opKd o.k)]) true).run Tryz.prog W = .ok (.tuple #[.agg #[.string p.s, .int .i64 p.k, .int .i64 p.l, .int .i64 p.sd], .bool v]) W ∧ FoundAt xs o p v := fun W hW => by
    obtain ⟨v, ps, hr, hv⟩ := hW.look_ok lawK Tryz.underlying67 (zeroOp _) (opElem_mk _ _ _ _) (unhide HKY)
    rcases unhide HCS with ⟨j, h1, h2, h3, h4⟩ | ⟨h1, h2⟩
    · rw [h4] at hv
      have e := opElem_dat hv
      subst e
      rw [h3] at hr
      exact ⟨atO xs j, true, hr, Or.inl ⟨j, h1, h2, rfl, rfl⟩⟩
    · obtain ⟨s, k, l, sd, rfl⟩ := opElem_inv hv
      rw [h2] at hr
      exact ⟨⟨s, k, l, sd⟩, false, hr, Or.inr ⟨h1, rfl⟩⟩
  obtain ⟨p1, v1, hr1, hp1⟩ := hlook (((w.alloc (.cells #[.map (some bo), .map (some bs)] 70)).alloc (.cells #[.int .i64 o.k, .string o.t, .int .i64 o.a, .int .i64 o.b] 115)).alloc (.cells #[.string ⟨#[]⟩, .int .i64 0, .int .i64 0, .int .i64 0] 104)).drew ((((unhide HOW).alloc _).alloc _).alloc _).drew
  obtain ⟨p2, v2, hr2, hp2⟩ := hlook ((((w.alloc (.cells #[.map (some bo), .map (some bs)] 70)).alloc (.cells #[.int .i64 o.k, .string o.t, .int .i64 o.a, .int .i64 o.b] 115)).alloc (.cells #[.string ⟨#[]⟩, .int .i64 0, .int .i64 0, .int .i64 0] 104)).alloc (.cells #[.string ⟨#[]⟩, .int .i64 0, .int .i64 0, .int .i64 0] 104)).drew (((((unhide HOW).alloc _).alloc _).alloc _).alloc _).drew
  have HP1 := hide hp1
  have HP2 := hide hp2
  clear hp1 hp2 hlook
  go_region_held (fun w' => w'.cell? ⟨w.heap.size, 0, none⟩ = some (.map (some bo)) ∧ w'.cell? ⟨w.heap.size + 1, 0, none⟩ = some (.int .i64 o.k) ∧ w'.cell? ⟨w.heap.size + 1, 1, none⟩ = some (.string o.t)) (go_keep)
    (first | (go_at_call 144; refine (opKind_any _ _).mono ?_; rintro e w2 ⟨rfl, hx⟩; obtain rfl := hx.symm))
  all_goals go_wp2
  all_goals first | (refine bodyPost_ret (v := .tuple #[.agg #[.string p1.s, .int .i64 p1.k, .int .i64 p1.l, .int .i64 p1.sd], .bool v1]) ?_ rfl ⟨⟨p1, v1, rfl, unhide HP1⟩, ((((below1 _ _).alloc (by simp) _).alloc (by simp; omega) _).alloc (by simp; omega) _).drew⟩; (simp [results, Tryz.results143, go_sem]; done)) | (refine bodyPost_ret (v := .tuple #[.agg #[.string p2.s, .int .i64 p2.k, .int .i64 p2.l, .int .i64 p2.sd], .bool v2]) ?_ rfl ⟨⟨p2, v2, rfl, unhide HP2⟩, ((((below1 _ _).alloc (by simp) _).alloc (by simp; omega) _).alloc (by simp; omega) _).drew⟩; (simp [results, Tryz.results143, go_sem]; done))

/-- The level that the index gives a node. -/
theorem found_lev {xs : List OpR} {o : NodeR} {p : OpR} {v : Bool} (h : FoundAt xs o p v) : levN xs o = if v = true then p.l else 1001 := by
  rcases h with ⟨j, h1, h2, rfl, rfl⟩ | ⟨h1, rfl⟩
  · unfold levN
    have h1' : 3 ≤ o.k ∧ o.k ≤ 5 := h1
    rw [if_pos h1', h2]
    simp
  · unfold levN
    simp only [Bool.false_eq_true, if_false]
    split
    · rename_i h
      rw [h1 h]
    · rfl

end Go.Proofs.YtokabkhnidlcnabGreat
