import Derived.Test.YtokabkhnidlcnabG11

/-
  Walks: fit at operator nodes.
-/
namespace Go.Proofs.Ytokabkhnidlcnab
set_option maxRecDepth 100000
set_option linter.unusedSimpArgs false
set_option linter.unusedVariables false
open Go.RowKit

/-- An inner node in a variable. -/
def PreAt (w : World) (N : Nat) (p : OpR) (e : Value) : Prop := w.cell? ⟨N, 0, none⟩ = some (.string p.s) ∧ w.cell? ⟨N, 1, none⟩ = some (.int .i64 p.k) ∧ w.cell? ⟨N, 2, none⟩ = some (.int .i64 p.l) ∧ w.cell? ⟨N, 3, none⟩ = some (.int .i64 p.sd) ∧ w.cell? ⟨N, 4, none⟩ = some e ∧ w.frozen? ⟨N, 4, none⟩ = false

theorem PreAt.kept {w w' : World} {N g : Nat} {p : OpR} {e : Value} (h : PreAt w N p e) (hk : Kept1 w w' g) (hne : N ≠ g) : PreAt w' N p e := by
  obtain ⟨h0, h1, h2, h3, h4, h5⟩ := h
  have hlt := block_lt_of_cell h0
  have c := hk.cell hlt hne
  exact ⟨(c 0).trans h0, (c 1).trans h1, (c 2).trans h2, (c 3).trans h3, (c 4).trans h4, (hk.frozen hlt hne 4).trans h5⟩

theorem PreAt.below {w w' : World} {N : Nat} {p : OpR} {e : Value} (h : PreAt w N p e) (hb : Below w.heap.size w w') : PreAt w' N p e :=
  h.kept (g := w.heap.size) (Kept1.of_below hb) (by have : N < w.heap.size := block_lt_of_cell h.1; omega)

theorem PreAt.set {w : World} {N : Nat} {p : OpR} {e : Value} (h : PreAt w N p e) (e' : Value) : PreAt (w.setCell ⟨N, 4, none⟩ e') N p e' := by
  obtain ⟨h0, h1, h2, h3, h4, h5⟩ := h
  have c : ∀ o, o ≠ 4 → (w.setCell ⟨N, 4, none⟩ e').cell? ⟨N, o, none⟩ = w.cell? ⟨N, o, none⟩ := fun o ho => World.cell?_setCell_other _ _ _ _ (fun x => ho (by injection x with _ x; exact x.symm))
  exact ⟨(c 0 (by omega)).trans h0, (c 1 (by omega)).trans h1, (c 2 (by omega)).trans h2, (c 3 (by omega)).trans h3, World.cell?_setCell_same _ _ _ h4, (World.frozen?_setCell _ _ _ _).trans h5⟩

theorem GrAt.other {w : World} {g m N o : Nat} (h : GrAt w g m) (hne : N ≠ g) (v : Value) : GrAt (w.setCell ⟨N, o, none⟩ v) g m :=
  ⟨(World.cell?_setCell_other _ _ _ _ (fun x => hne (by injection x))).trans h.1, (World.frozen?_setCell _ _ _ _).trans h.2⟩

theorem Kept1.far {w w1 : World} {g N : Nat} (h : Kept1 w w1 g) (o : Nat) (v : Value) (hN : w.heap.size ≤ N) : Kept1 w (w1.setCell ⟨N, o, none⟩ v) g :=
  ⟨h.os, h.tape, h.output, by simpa [World.setCell] using h.size, fun i hi a => (Below.heap_setCell _ _ _ _ (fun e => by have : i = N := e; omega)).trans (h.block i hi a)⟩

set_option maxHeartbeats 1000000 in
theorem fit_pre {T : TypeId} {v : Value} (p : OpR) (g m m1 : Nat) (least : Int) {e1 : Value} (w : World) (he : ∃ T' v', e1 = .iface T' v') (hg : GrAt w g m) (hsz : p.s.size ≤ maxLen) (hm1 : m1 ≤ 100000)
    (hc : ∀ W, GrAt W g m → Calls Try.prog 114 #[.pointer (some ⟨g, 0, none⟩), .iface T v, .int .i64 (holeI p.s p.k p.l p.sd false)] W (FitPost W g m1 e1)) :
    Calls Try.prog 114 #[.pointer (some ⟨g, 0, none⟩), ePre p (.iface T v), .int .i64 least] w (FitPost w g (m1 + encN p.l least) (encV p.l least (ePre p e1))) := by
  obtain ⟨T', v', rfl⟩ := he
  have n1 := no_pre (.agg #[.string p.s, .int .i64 p.k, .int .i64 p.l, .int .i64 p.sd, .iface T v])
  have i1 := is_pre (.agg #[.string p.s, .int .i64 p.k, .int .i64 p.l, .int .i64 p.sd, .iface T v])
  unfold Nots zG at n1
  have hlt := block_lt_of_cell hg.1
  have HC := hide hc
  have HGC := hide (show GrAt (w.alloc (.cells #[.string p.s, .int .i64 p.k, .int .i64 p.l, .int .i64 p.sd, .iface T v] 184)).drew g m from hg.below ((below1 _ _).drew))
  have HPC := hide (show PreAt (w.alloc (.cells #[.string p.s, .int .i64 p.k, .int .i64 p.l, .int .i64 p.sd, .iface T v] 184)).drew w.heap.size p (.iface T v) from
    (show PreAt (w.alloc (.cells #[.string p.s, .int .i64 p.k, .int .i64 p.l, .int .i64 p.sd, .iface T v] 184)) w.heap.size p (.iface T v) from ⟨by simp [go_sem], by simp [go_sem], by simp [go_sem], by simp [go_sem], by simp [go_sem], by simp [go_sem]⟩).below ((Below.refl _ _).drew))
  have HKC := hide (show Kept1 w (w.alloc (.cells #[.string p.s, .int .i64 p.k, .int .i64 p.l, .int .i64 p.sd, .iface T v] 184)).drew g from Kept1.of_below ((below1 _ _).drew))
  clear hc hg
  unfold ePre
  go_enter Try.func114, Try.ntmps114
  go_wp2_with fail
  clear n1 i1
  obtain ⟨k0, k1, k2, k3, k4, k5⟩ := unhide HPC
  go_region_with
    (first | (go_at_call 107; refine (implHole_any p.s p.k p.l p.sd false _ hsz).mono ?_; rintro e w3 ⟨rfl, hb3⟩; replace HPC := hide ((unhide HPC).below hb3); replace ⟨k0, k1, k2, k3, k4, k5⟩ := unhide HPC; replace HGC := hide ((unhide HGC).below hb3); replace HKC := hide ((unhide HKC).trans (Kept1.of_below hb3)); clear hb3) | (go_at_call 114; refine ((unhide HC) _ (unhide HGC)).mono ?_; rintro e w4 ⟨rfl, hg4, hk4⟩; replace HPC := hide ((unhide HPC).kept (unhide hk4) (by omega)); replace HGC := hg4; replace HKC := hide ((unhide HKC).trans (unhide hk4)); clear hk4 hg4; replace ⟨k0, k1, k2, k3, k4, k5⟩ := unhide HPC))
  all_goals
    replace HPC := hide ((unhide HPC).set (.iface T' v'))
    replace HGC := hide ((unhide HGC).other (N := w.heap.size) (o := 4) (by omega) (.iface T' v'))
    replace HKC := hide ((unhide HKC).far 4 (.iface T' v') (Nat.le_refl _))
    clear k0 k1 k2 k3 k4 k5
    obtain ⟨k0, k1, k2, k3, k4, k5⟩ := unhide HPC
    go_wp2_with fail
    refine (enclose_any (lev_pre p (.iface T' v')) g m1 least _ (unhide HGC) hm1).mono ?_
    rintro x w6 ⟨rfl, h1, h2⟩
    obtain ⟨T6, v6, hTv⟩ := encV_iface p.l least 184 (.agg #[.string p.s, .int .i64 p.k, .int .i64 p.l, .int .i64 p.sd, .iface T' v'])
    have HK6 := hide ((unhide HKC).trans (unhide h2))
    unfold ePre
    rw [hTv]
    clear k0 k1 k2 k3 k4 k5 HPC HGC HKC h2
    go_wp2_with fail
    go_ret
    exact ⟨by first | rfl | (rw [hTv]; rfl), h1, HK6⟩
end Go.Proofs.Ytokabkhnidlcnab

/-
  Walks: fit at postfix nodes.
-/
namespace Go.Proofs.Ytokabkhnidlcnab
set_option maxRecDepth 100000
set_option linter.unusedSimpArgs false
set_option linter.unusedVariables false
open Go.RowKit

set_option maxHeartbeats 1000000 in
theorem fit_post {T : TypeId} {v : Value} (p : OpR) (g m m1 : Nat) (least : Int) {e1 : Value} (w : World) (he : ∃ T' v', e1 = .iface T' v') (hg : GrAt w g m) (hsz : p.s.size ≤ maxLen) (hm1 : m1 ≤ 100000)
    (hc : ∀ W, GrAt W g m → Calls Try.prog 114 #[.pointer (some ⟨g, 0, none⟩), .iface T v, .int .i64 (holeI p.s p.k p.l p.sd false)] W (FitPost W g m1 e1)) :
    Calls Try.prog 114 #[.pointer (some ⟨g, 0, none⟩), ePost p (.iface T v), .int .i64 least] w (FitPost w g (m1 + encN p.l least) (encV p.l least (ePost p e1))) := by
  obtain ⟨T', v', rfl⟩ := he
  obtain ⟨n1, n2, n3⟩ := no_post (.agg #[.string p.s, .int .i64 p.k, .int .i64 p.l, .int .i64 p.sd, .iface T v])
  have i1 := is_post (.agg #[.string p.s, .int .i64 p.k, .int .i64 p.l, .int .i64 p.sd, .iface T v])
  unfold Nots zG at n1
  unfold Nots zP at n2
  unfold Nots zI at n3
  have hlt := block_lt_of_cell hg.1
  have HC := hide hc
  have HGC := hide (show GrAt (w.alloc (.cells #[.string p.s, .int .i64 p.k, .int .i64 p.l, .int .i64 p.sd, .iface T v] 187)).drew g m from hg.below ((below1 _ _).drew))
  have HPC := hide (show PreAt (w.alloc (.cells #[.string p.s, .int .i64 p.k, .int .i64 p.l, .int .i64 p.sd, .iface T v] 187)).drew w.heap.size p (.iface T v) from
    (show PreAt (w.alloc (.cells #[.string p.s, .int .i64 p.k, .int .i64 p.l, .int .i64 p.sd, .iface T v] 187)) w.heap.size p (.iface T v) from ⟨by simp [go_sem], by simp [go_sem], by simp [go_sem], by simp [go_sem], by simp [go_sem], by simp [go_sem]⟩).below ((Below.refl _ _).drew))
  have HKC := hide (show Kept1 w (w.alloc (.cells #[.string p.s, .int .i64 p.k, .int .i64 p.l, .int .i64 p.sd, .iface T v] 187)).drew g from Kept1.of_below ((below1 _ _).drew))
  clear hc hg
  unfold ePost
  go_enter Try.func114, Try.ntmps114
  go_wp2_with fail
  clear n1 n2 n3 i1
  obtain ⟨k0, k1, k2, k3, k4, k5⟩ := unhide HPC
  go_region_with
    (first | (go_at_call 107; refine (implHole_any p.s p.k p.l p.sd false _ hsz).mono ?_; rintro e w3 ⟨rfl, hb3⟩; replace HPC := hide ((unhide HPC).below hb3); replace ⟨k0, k1, k2, k3, k4, k5⟩ := unhide HPC; replace HGC := hide ((unhide HGC).below hb3); replace HKC := hide ((unhide HKC).trans (Kept1.of_below hb3)); clear hb3) | (go_at_call 114; refine ((unhide HC) _ (unhide HGC)).mono ?_; rintro e w4 ⟨rfl, hg4, hk4⟩; replace HPC := hide ((unhide HPC).kept (unhide hk4) (by omega)); replace HGC := hg4; replace HKC := hide ((unhide HKC).trans (unhide hk4)); clear hk4 hg4; replace ⟨k0, k1, k2, k3, k4, k5⟩ := unhide HPC))
  all_goals
    replace HPC := hide ((unhide HPC).set (.iface T' v'))
    replace HGC := hide ((unhide HGC).other (N := w.heap.size) (o := 4) (by omega) (.iface T' v'))
    replace HKC := hide ((unhide HKC).far 4 (.iface T' v') (Nat.le_refl _))
    clear k0 k1 k2 k3 k4 k5
    obtain ⟨k0, k1, k2, k3, k4, k5⟩ := unhide HPC
    go_wp2_with fail
    refine (enclose_any (lev_post p (.iface T' v')) g m1 least _ (unhide HGC) hm1).mono ?_
    rintro x w6 ⟨rfl, h1, h2⟩
    obtain ⟨T6, v6, hTv⟩ := encV_iface p.l least 187 (.agg #[.string p.s, .int .i64 p.k, .int .i64 p.l, .int .i64 p.sd, .iface T' v'])
    have HK6 := hide ((unhide HKC).trans (unhide h2))
    unfold ePost
    rw [hTv]
    clear k0 k1 k2 k3 k4 k5 HPC HGC HKC h2
    go_wp2_with fail
    go_ret
    exact ⟨by first | rfl | (rw [hTv]; rfl), h1, HK6⟩
end Go.Proofs.Ytokabkhnidlcnab

/-
  Walks: fit at infix nodes.
-/
namespace Go.Proofs.Ytokabkhnidlcnab
set_option maxRecDepth 100000
set_option linter.unusedSimpArgs false
set_option linter.unusedVariables false
open Go.RowKit

/-- An inner infix node in a variable. -/
def InfAt (w : World) (N : Nat) (p : OpR) (e e' : Value) : Prop := w.cell? ⟨N, 0, none⟩ = some (.string p.s) ∧ w.cell? ⟨N, 1, none⟩ = some (.int .i64 p.k) ∧ w.cell? ⟨N, 2, none⟩ = some (.int .i64 p.l) ∧ w.cell? ⟨N, 3, none⟩ = some (.int .i64 p.sd) ∧ w.cell? ⟨N, 4, none⟩ = some e ∧ w.cell? ⟨N, 5, none⟩ = some e' ∧ w.frozen? ⟨N, 4, none⟩ = false ∧ w.frozen? ⟨N, 5, none⟩ = false

theorem InfAt.kept {w w' : World} {N g : Nat} {p : OpR} {e e' : Value} (h : InfAt w N p e e') (hk : Kept1 w w' g) (hne : N ≠ g) : InfAt w' N p e e' := by
  obtain ⟨h0, h1, h2, h3, h4, h5, h6, h7⟩ := h
  have hlt := block_lt_of_cell h0
  have c := hk.cell hlt hne
  exact ⟨(c 0).trans h0, (c 1).trans h1, (c 2).trans h2, (c 3).trans h3, (c 4).trans h4, (c 5).trans h5, (hk.frozen hlt hne 4).trans h6, (hk.frozen hlt hne 5).trans h7⟩

theorem InfAt.below {w w' : World} {N : Nat} {p : OpR} {e e' : Value} (h : InfAt w N p e e') (hb : Below w.heap.size w w') : InfAt w' N p e e' :=
  h.kept (g := w.heap.size) (Kept1.of_below hb) (by have : N < w.heap.size := block_lt_of_cell h.1; omega)

theorem InfAt.set4 {w : World} {N : Nat} {p : OpR} {e e' : Value} (h : InfAt w N p e e') (u : Value) : InfAt (w.setCell ⟨N, 4, none⟩ u) N p u e' := by
  obtain ⟨h0, h1, h2, h3, h4, h5, h6, h7⟩ := h
  have c : ∀ o, o ≠ 4 → (w.setCell ⟨N, 4, none⟩ u).cell? ⟨N, o, none⟩ = w.cell? ⟨N, o, none⟩ := fun o ho => World.cell?_setCell_other _ _ _ _ (fun x => ho (by injection x with _ x; exact x.symm))
  exact ⟨(c 0 (by omega)).trans h0, (c 1 (by omega)).trans h1, (c 2 (by omega)).trans h2, (c 3 (by omega)).trans h3, World.cell?_setCell_same _ _ _ h4, (c 5 (by omega)).trans h5, (World.frozen?_setCell _ _ _ _).trans h6, (World.frozen?_setCell _ _ _ _).trans h7⟩
theorem InfAt.set5 {w : World} {N : Nat} {p : OpR} {e e' : Value} (h : InfAt w N p e e') (u : Value) : InfAt (w.setCell ⟨N, 5, none⟩ u) N p e u := by
  obtain ⟨h0, h1, h2, h3, h4, h5, h6, h7⟩ := h
  have c : ∀ o, o ≠ 5 → (w.setCell ⟨N, 5, none⟩ u).cell? ⟨N, o, none⟩ = w.cell? ⟨N, o, none⟩ := fun o ho => World.cell?_setCell_other _ _ _ _ (fun x => ho (by injection x with _ x; exact x.symm))
  exact ⟨(c 0 (by omega)).trans h0, (c 1 (by omega)).trans h1, (c 2 (by omega)).trans h2, (c 3 (by omega)).trans h3, (c 4 (by omega)).trans h4, World.cell?_setCell_same _ _ _ h5, (World.frozen?_setCell _ _ _ _).trans h6, (World.frozen?_setCell _ _ _ _).trans h7⟩

set_option maxHeartbeats 4000000 in
theorem fit_inf {T T2 : TypeId} {v v2 : Value} (p : OpR) (g m m1 m2 : Nat) (least : Int) {e1 e2 : Value} (w : World) (he : ∃ T' v', e1 = .iface T' v') (he2 : ∃ T' v', e2 = .iface T' v') (hg : GrAt w g m) (hsz : p.s.size ≤ maxLen) (hm2 : m2 ≤ 100000)
    (hc : ∀ W, GrAt W g m → Calls Try.prog 114 #[.pointer (some ⟨g, 0, none⟩), .iface T v, .int .i64 (holeI p.s p.k p.l p.sd false)] W (FitPost W g m1 e1))
    (hc2 : ∀ W, GrAt W g m1 → Calls Try.prog 114 #[.pointer (some ⟨g, 0, none⟩), .iface T2 v2, .int .i64 (holeI p.s p.k p.l p.sd true)] W (FitPost W g m2 e2)) :
    Calls Try.prog 114 #[.pointer (some ⟨g, 0, none⟩), eInf p (.iface T v) (.iface T2 v2), .int .i64 least] w (FitPost w g (m2 + encN p.l least) (encV p.l least (eInf p e1 e2))) := by
  obtain ⟨T', v', rfl⟩ := he
  obtain ⟨T2', v2', rfl⟩ := he2
  obtain ⟨n1, n2⟩ := no_inf (.agg #[.string p.s, .int .i64 p.k, .int .i64 p.l, .int .i64 p.sd, .iface T v, .iface T2 v2])
  have i1 := is_inf (.agg #[.string p.s, .int .i64 p.k, .int .i64 p.l, .int .i64 p.sd, .iface T v, .iface T2 v2])
  unfold Nots zG at n1
  unfold Nots zP at n2
  have hlt := block_lt_of_cell hg.1
  have HC := hide hc
  have HC2 := hide hc2
  have HGC := hide (show GrAt (w.alloc (.cells #[.string p.s, .int .i64 p.k, .int .i64 p.l, .int .i64 p.sd, .iface T v, .iface T2 v2] 186)).drew g m from hg.below ((below1 _ _).drew))
  have HPC := hide (show InfAt (w.alloc (.cells #[.string p.s, .int .i64 p.k, .int .i64 p.l, .int .i64 p.sd, .iface T v, .iface T2 v2] 186)).drew w.heap.size p (.iface T v) (.iface T2 v2) from
    (show InfAt (w.alloc (.cells #[.string p.s, .int .i64 p.k, .int .i64 p.l, .int .i64 p.sd, .iface T v, .iface T2 v2] 186)) w.heap.size p (.iface T v) (.iface T2 v2) from ⟨by simp [go_sem], by simp [go_sem], by simp [go_sem], by simp [go_sem], by simp [go_sem], by simp [go_sem], by simp [go_sem], by simp [go_sem]⟩).below ((Below.refl _ _).drew))
  have HKC := hide (show Kept1 w (w.alloc (.cells #[.string p.s, .int .i64 p.k, .int .i64 p.l, .int .i64 p.sd, .iface T v, .iface T2 v2] 186)).drew g from Kept1.of_below ((below1 _ _).drew))
  clear hc hc2 hg
  unfold eInf
  go_enter Try.func114, Try.ntmps114
  go_wp2_with fail
  clear n1 n2 i1
  obtain ⟨k0, k1, k2, k3, k4, k5, k6, k7⟩ := unhide HPC
  go_region_with
    (first | (go_at_call 107; refine (implHole_any p.s p.k p.l p.sd false _ hsz).mono ?_; rintro e w3 ⟨rfl, hb3⟩; replace HPC := hide ((unhide HPC).below hb3); replace ⟨k0, k1, k2, k3, k4, k5, k6, k7⟩ := unhide HPC; replace HGC := hide ((unhide HGC).below hb3); replace HKC := hide ((unhide HKC).trans (Kept1.of_below hb3)); clear hb3) | (go_at_call 114; refine ((unhide HC) _ (unhide HGC)).mono ?_; rintro e w4 ⟨rfl, hg4, hk4⟩; replace HPC := hide ((unhide HPC).kept (unhide hk4) (by omega)); replace HGC := hg4; replace HKC := hide ((unhide HKC).trans (unhide hk4)); clear hk4 hg4; replace ⟨k0, k1, k2, k3, k4, k5, k6, k7⟩ := unhide HPC))
  all_goals
    replace HPC := hide (((unhide HPC).set4 (.iface T' v')).below ((Below.refl _ _).drew))
    replace HGC := hide (((unhide HGC).other (N := w.heap.size) (o := 4) (by omega) (.iface T' v')).below ((Below.refl _ _).drew))
    replace HKC := hide (((unhide HKC).far 4 (.iface T' v') (Nat.le_refl _)).trans (Kept1.of_below ((Below.refl _ _).drew)))
    clear k0 k1 k2 k3 k4 k5 k6 k7 HC
    obtain ⟨k0, k1, k2, k3, k4, k5, k6, k7⟩ := unhide HPC
    go_wp2_with fail
    go_region_with
      (first | (go_at_call 107; refine (implHole_any p.s p.k p.l p.sd true _ hsz).mono ?_; rintro e w5 ⟨rfl, hb3⟩; replace HPC := hide ((unhide HPC).below hb3); replace ⟨k0, k1, k2, k3, k4, k5, k6, k7⟩ := unhide HPC; replace HGC := hide ((unhide HGC).below hb3); replace HKC := hide ((unhide HKC).trans (Kept1.of_below hb3)); clear hb3) | (go_at_call 114; refine ((unhide HC2) _ (unhide HGC)).mono ?_; rintro e w6 ⟨rfl, hg4, hk4⟩; replace HPC := hide ((unhide HPC).kept (unhide hk4) (by omega)); replace HGC := hg4; replace HKC := hide ((unhide HKC).trans (unhide hk4)); clear hk4 hg4; replace ⟨k0, k1, k2, k3, k4, k5, k6, k7⟩ := unhide HPC))
  all_goals
    replace HPC := hide ((unhide HPC).set5 (.iface T2' v2'))
    replace HGC := hide ((unhide HGC).other (N := w.heap.size) (o := 5) (by omega) (.iface T2' v2'))
    replace HKC := hide ((unhide HKC).far 5 (.iface T2' v2') (Nat.le_refl _))
    clear k0 k1 k2 k3 k4 k5 k6 k7 HC2
    obtain ⟨k0, k1, k2, k3, k4, k5, k6, k7⟩ := unhide HPC
    go_wp2_with fail
    refine (enclose_any (lev_inf p (.iface T' v') (.iface T2' v2')) g m2 least _ (unhide HGC) hm2).mono ?_
    rintro x w7 ⟨rfl, h1, h2⟩
    obtain ⟨T6, v6, hTv⟩ := encV_iface p.l least 186 (.agg #[.string p.s, .int .i64 p.k, .int .i64 p.l, .int .i64 p.sd, .iface T' v', .iface T2' v2'])
    have HK6 := hide ((unhide HKC).trans (unhide h2))
    unfold eInf
    rw [hTv]
    clear k0 k1 k2 k3 k4 k5 k6 k7 HPC HGC HKC h2
    go_wp2_with fail
    go_ret
    exact ⟨by first | rfl | (rw [hTv]; rfl), h1, HK6⟩
end Go.Proofs.Ytokabkhnidlcnab
