import Derived.Deep.AppendLies
import Derived.Shelf.Strings.Cut
import Derived.Shelf.Strings.Split
import Derived.Shelf.Strconv.Atoi
import Derived.Lib.SmallJoins
import Derived.Test.YtokabkhnidlcnabGreatDoorL07
import Derived.Test.YtokabkhnidlcnabGreatDoorL08
import Derived.Test.YtokabkhnidlcnabGreatDoorL12
import Derived.Test.YtokabkhnidlcnabGreatDoorL20

/-
  Walk: an operator is put to a set in order, in the program.
-/
namespace Go.Proofs.YtokabkhnidlcnabGreatDoor
set_option maxRecDepth 100000
set_option linter.unusedSimpArgs false
set_option linter.unusedVariables false
open Go.RowKit Go.Maps

theorem Eff.of_below {w w' : World} (h : Below w.heap.size w w') {b : Nat} (hb : b < w.heap.size) (o : Nat) (kv : Value) (pv : Option Nat) : Eff w w' b o kv pv :=
  ⟨h.os, h.tape, h.output, h.size, fun i hi _ _ _ => h.block i hi, fun o' _ _ => ⟨h.cell (p := ⟨b, o', none⟩) hb, h.frozen (p := ⟨b, o', none⟩) hb⟩⟩

theorem AddPostQ.step {w w1 w2 : World} {b o B : Nat} {kv kv1 : Value} {pv pv1 : Option Nat} {ks2 : List OpR} (he : Eff w w1 b o kv pv) (hk : SameNew w.heap.size kv.ownBlock kv1.ownBlock) (hp : SameNew w.heap.size pv pv1) (h : AddPostQ w1 b o B kv1 pv1 ks2 w2) : AddPostQ w b o B kv pv ks2 w2 := by
  obtain ⟨kv2, pv2, h1, h2, h3, h4⟩ := h
  exact ⟨kv2, pv2, h1, he.trans h2 hk hp, hk.trans h3 he.size, hp.trans h4 he.size⟩

theorem addQ_mid {w1 W : World} {b o B bm X : Nat} {kv : Value} {pv : Option Nat} {ks : List OpR} {t : OpR} (h : QSet w1 b o B kv pv ks) (hB : B ≤ w1.heap.size) (ht : t ∉ ks) (hs : Fine t) (hl : ks.length ≤ 1048576)
    (hWs : w1.heap.size ≤ W.heap.size) (hWb : ∀ i, i < w1.heap.size → i ≠ b → W.heap[i]? = w1.heap[i]?) (hWe : W.os = w1.os ∧ W.tape = w1.tape ∧ W.output = w1.output) (hWc : ∀ o', o' ≠ o + 1 → W.cell? ⟨b, o', none⟩ = w1.cell? ⟨b, o', none⟩) (hWf : ∀ o', W.frozen? ⟨b, o', none⟩ = w1.frozen? ⟨b, o', none⟩) (hW1 : W.cell? ⟨b, o + 1, none⟩ = some (.map (some bm))) (hbmB : B ≤ bm) (hbmb : bm ≠ b) (hbmk : kv.ownBlock ≠ some bm) (hbmn : SameNew w1.heap.size pv (some bm)) (hm : OMap W bm ks.length (gQ ks))
    (hX : X < w1.heap.size) (hXb : X ≠ b) (hXm : bm ≠ X) :
    ∃ w3, (Instr.mapUpdate 90 (.map (some bm)) (.agg #[.string t.s, .int .i64 t.k, .int .i64 t.l, .int .i64 t.sd]) (.int .i64 (ks.length : Int))).run Tryz.prog W.drew = .ok () w3 ∧ W.heap.size ≤ w3.heap.size ∧ W.cell? ⟨b, o, none⟩ = some kv ∧ w3.cell? ⟨b, o, none⟩ = some kv ∧ w3.frozen? ⟨b, o, none⟩ = false ∧ (∀ j, W.cell? ⟨X, j, none⟩ = w1.cell? ⟨X, j, none⟩ ∧ w3.cell? ⟨X, j, none⟩ = w1.cell? ⟨X, j, none⟩) ∧ RowO w3 B kv ks ∧
      ∀ (w4 : World) (g4 c4 : Nat) (ob : Obj), w4.ownsRow B 70 4 (.slice (some ⟨g4, 0, none⟩) (ks.length + 1) c4) (ks.length + 1) (cellsL ks ++ cellsL [t]) → (w3.alloc ob).drew.grownBy w4 kv.ownBlock → (kv.ownBlock = some g4 ∨ g4 = w3.heap.size + 1) → AddPostQ w1 b o B kv pv (ks ++ [t]) (w4.setCell ⟨b, o, none⟩ (.slice (some ⟨g4, 0, none⟩) (ks.length + 1) c4)) := by
  have hbm := hm.lt
  have hbl := h.lt
  obtain ⟨w3, hrun, hm3, hk3⟩ := (hm.kept (grown_belN (show Below W.heap.size W W.drew from (Below.refl _ _).drew) none) (by simp)).update (ty := 90) Tryz.underlying90 (by unfold maxLen; omega) (t := t) hs (.int .i64 (ks.length : Int))
  have hk : Kept1 W w3 bm := (Kept1.of_below (show Below W.heap.size W W.drew from (Below.refl _ _).drew)).trans hk3
  have hWr : RowO W B kv ks := by
    obtain ⟨a, ⟨h1, h2⟩ | ⟨g, cap, cur, h1, h2, h3, h4⟩⟩ := h.row
    · exact ⟨a, Or.inl ⟨h1, h2⟩⟩
    · have hgb : g ≠ b := fun e => h.nk (by rw [h1, e]; rfl)
      refine ⟨a, Or.inr ⟨g, cap, cur, h1, h2, (hWb g ?_ hgb).trans h3, h4⟩⟩
      exact (h.row.lt g (by rw [h1]; rfl)).2
  have c0 : W.cell? ⟨b, o, none⟩ = some kv := (hWc o (by omega)).trans h.c0
  have hXW : ∀ j, W.cell? ⟨X, j, none⟩ = w1.cell? ⟨X, j, none⟩ := fun j => World.cell?_of_block (hWb X hX hXb)
  refine ⟨w3, hrun, hk.size, c0, (hk.cell (by omega) (Ne.symm hbmb) o).trans c0, (hk.frozen (by omega) (Ne.symm hbmb) o).trans ((hWf o).trans h.f0), fun j => ⟨hXW j, (hk.cell (by omega) (Ne.symm hXm) j).trans (hXW j)⟩, hWr.grown (grown_kept1 hk) (fun k e x => hbmk (e.trans x.symm)), fun w4 g4 c4 ob hown hg hat => ?_⟩
  have hr : RowO w4 B (.slice (some ⟨g4, 0, none⟩) (ks.length + 1) c4) (ks ++ [t]) := by
    unfold RowO
    rw [cellsL_append, List.length_append]
    exact hown
  exact add_closeQ h hB ht hWs hWb hWe hWc hWf hW1 hWr hbmB hbmb hbmk hbmn hm3 hk hbm (ob := ob) ⟨hg.os, hg.tape, hg.output, hg.size, hg.block⟩ hr (hat.imp (fun e => e.symm) (fun e => by rw [e]; rfl))

set_option maxHeartbeats 4000000 in
theorem addQ_any (b o B : Nat) (kv : Value) (pv : Option Nat) (ks : List OpR) (t : OpR) (w : World) (h : QSet w b o B kv pv ks) (hs : Fine t) (hl : ks.length ≤ 1048576) (hB : B ≤ w.heap.size) :
    Calls Tryz.prog 58 #[.pointer (some ⟨b, o, none⟩), .agg #[.string t.s, .int .i64 t.k, .int .i64 t.l, .int .i64 t.sd]] w fun e w' => RetB e (t ∉ ks) ∧ AddPostQ w b o B kv pv (insO ks t) w' := by
  have hbl := h.lt
  obtain ⟨W0, hW0⟩ : ∃ W0, W0 = w.alloc (.cells #[.string t.s, .int .i64 t.k, .int .i64 t.l, .int .i64 t.sd] 70) := ⟨_, rfl⟩
  have hb0 : Below w.heap.size w W0 := by rw [hW0]; exact below1 _ _
  have hz0 : W0.heap.size = w.heap.size + 1 := by rw [hW0]; simp
  have HH := hide (hasQ_any b o B kv pv ks t W0 (h.below hb0) hs)
  have k0 : W0.cell? ⟨w.heap.size, 0, none⟩ = some (.string t.s) := by rw [hW0]; simp [go_sem]
  have k1 : W0.cell? ⟨w.heap.size, 1, none⟩ = some (.int .i64 t.k) := by rw [hW0]; simp [go_sem]
  have k2 : W0.cell? ⟨w.heap.size, 2, none⟩ = some (.int .i64 t.l) := by rw [hW0]; simp [go_sem]
  have k3 : W0.cell? ⟨w.heap.size, 3, none⟩ = some (.int .i64 t.sd) := by rw [hW0]; simp [go_sem]
  have HW0 := hide hW0
  have HB0 := hide hb0
  have HZ0 := hide hz0
  clear hW0 hb0 hz0
  by_cases hin : t ∈ ks
  · have HP := hide (fun w' (hb : Below w.heap.size w w') => show AddPostQ w b o B kv pv (insO ks t) w' from (by rw [insO_yes hin]; exact ⟨kv, pv, h.below hb, Eff.of_below hb hbl _ _ _, Or.inl rfl, Or.inl rfl⟩))
    have HIN := hide hin
    clear h hin
    go_enter Tryz.func58, Tryz.ntmps58
    go_wp2_with (first | (go_at_call 68; rw [← unhide HW0]; (with_reducible refine (unhide HH).mono ?_); rintro e w1 ⟨⟨v, rfl, hv⟩, hx⟩; have HB1 := hide hx; obtain rfl : v = true := hv.2 (unhide HIN); clear hv hx))
    go_ret
    exact ⟨⟨false, rfl, says_false (fun h => h (unhide HIN))⟩, (unhide HP) _ ((unhide HB0).trans ((unhide HB1).mono (by rw [unhide HZ0]; omega)))⟩
  have HNI := hide hin
  obtain ⟨iO, hiO, hzO0, hzO1, hzO2⟩ := info_parts' infoOp'
  have HI := hide hiO
  have HZ := hide (And.intro hzO0 (And.intro hzO1 hzO2))
  clear hiO hzO0 hzO1 hzO2
  have HQ := hide h
  have HINS := hide (insO_no hin)
  clear h hin
  obtain ⟨ak, ck, rfl⟩ : ∃ a c, kv = .slice a ks.length c := rowS_slice (unhide HQ).row
  have HXF := hide (show (Value.slice ak ks.length ck).ownBlock ≠ some w.heap.size from fun e => by have := ((unhide HQ).row.lt _ e).2; omega)
  rcases (unhide HQ).mp with ⟨rfl, hks⟩ | ⟨bm, rfl, hbm, hmap⟩
  · have heq := fun w1 => eqlNilQ w1
    have hmm := @run_makeMap Tryz.prog
    have HKS := hide hks
    clear hks
    go_enter Tryz.func58, Tryz.ntmps58
    go_wp2_with (first | (go_at_call 68; rw [← unhide HW0]; (with_reducible refine (unhide HH).mono ?_); rintro e w1 ⟨⟨v, rfl, hv⟩, hx⟩; have HB1 := hide hx; obtain rfl : v = false := (by cases v; rfl; exact absurd (hv.1 rfl) (unhide HNI)); clear hv hx; have hz1 : w.heap.size + 1 ≤ w1.heap.size := (by have := (unhide HB1).size; rw [unhide HZ0] at this; exact this); have hbw1 : b < w1.heap.size := (by omega); have HBW := hide (show Below w.heap.size w w1 from (unhide HB0).trans ((unhide HB1).mono (by rw [unhide HZ0]; omega))); have h1 := (unhide HQ).below (unhide HBW); have hbel1 : ∀ j, w1.cell? ⟨w.heap.size, j, none⟩ = W0.cell? ⟨w.heap.size, j, none⟩ := (fun j => (unhide HB1).cell (p := ⟨w.heap.size, j, none⟩) (by show w.heap.size < W0.heap.size; rw [unhide HZ0]; omega)); have j0 := (hbel1 0).trans k0; have j1 := (hbel1 1).trans k1; have j2 := (hbel1 2).trans k2; have j3 := (hbel1 3).trans k3; clear hbel1 k0 k1 k2 k3 HH; have c0 := h1.c0; have c1 := h1.c1; have f0 := h1.f0; have f1 := h1.f1; have HQ1 := hide h1; clear h1))
    obtain ⟨W, hW⟩ : ∃ W, W = (w1.setCell ⟨b, o + 1, none⟩ (.map (some w1.heap.size))).alloc (.map #[] 0) := ⟨_, rfl⟩
    have hzz : (w1.setCell ⟨b, o + 1, none⟩ (.map (some w1.heap.size))).heap.size = w1.heap.size := by simp [World.setCell]
    have hWs : w1.heap.size + 1 ≤ W.heap.size := by rw [hW]; simp [World.setCell]
    have hWb : ∀ i, i < w1.heap.size → i ≠ b → W.heap[i]? = w1.heap[i]? := fun i hi hne => by
      rw [hW, (below1 (w1.setCell ⟨b, o + 1, none⟩ (.map (some w1.heap.size))) (.map #[] 0)).block i (by rw [hzz]; exact hi)]
      exact Below.heap_setCell _ _ _ _ (by simpa using hne)
    have hWc : ∀ o', o' ≠ o + 1 → W.cell? ⟨b, o', none⟩ = w1.cell? ⟨b, o', none⟩ := fun o' ho => by
      rw [hW, (below1 (w1.setCell ⟨b, o + 1, none⟩ (.map (some w1.heap.size))) (.map #[] 0)).cell (p := ⟨b, o', none⟩) (by show b < _; rw [hzz]; exact hbw1)]
      exact World.cell?_setCell_other _ _ _ _ (by first | (simp; done) | (simp; omega) | (intro x; injection x with _ x; omega))
    have hWf : ∀ o', W.frozen? ⟨b, o', none⟩ = w1.frozen? ⟨b, o', none⟩ := fun o' => by
      rw [hW, (below1 (w1.setCell ⟨b, o + 1, none⟩ (.map (some w1.heap.size))) (.map #[] 0)).frozen (p := ⟨b, o', none⟩) (by show b < _; rw [hzz]; exact hbw1)]
      exact World.frozen?_setCell _ _ _ _
    have hW1 : W.cell? ⟨b, o + 1, none⟩ = some (.map (some w1.heap.size)) := by
      rw [hW, (below1 (w1.setCell ⟨b, o + 1, none⟩ (.map (some w1.heap.size))) (.map #[] 0)).cell (p := ⟨b, o + 1, none⟩) (by show b < _; rw [hzz]; exact hbw1)]
      exact World.cell?_setCell_same _ _ _ c1
    have hSM : OMap W w1.heap.size ks.length (gQ ks) := by
      have := OMap.made (w1.setCell ⟨b, o + 1, none⟩ (.map (some w1.heap.size)))
      rw [hzz, ← hW] at this
      rw [unhide HKS]
      exact this.congr (fun t => rfl)
    obtain ⟨w3, hrun, hz3, c0', m0, m1, hXc, hr3, hfin⟩ := addQ_mid (X := w.heap.size) (unhide HQ1) (by omega) (unhide HNI) hs hl (by omega) hWb (by rw [hW]; exact ⟨rfl, rfl, rfl⟩) hWc hWf hW1 (by omega) (by omega) (fun e => by have := ((unhide HQ1).row.lt _ e).2; omega) (Or.inr ⟨_, rfl, Nat.le_refl _⟩) hSM (by omega) (by omega) (by omega)
    have HWW := hide hW
    clear hSM hW hWb hWc hWf hzz
    have x0 := (hXc 0).1.trans j0
    have x1 := (hXc 1).1.trans j1
    have x2 := (hXc 2).1.trans j2
    have x3 := (hXc 3).1.trans j3
    have y0 := (hXc 0).2.trans j0
    have y1 := (hXc 1).2.trans j1
    have y2 := (hXc 2).2.trans j2
    have y3 := (hXc 3).2.trans j3
    have HR3 := hide hr3
    have HFIN := hide hfin
    clear hXc hr3 hfin j0 j1 j2 j3
    rw [← unhide HWW]
    go_region
    go_wp2_with fail
    have hbw3 : b < w3.heap.size := by omega
    have hXw3 : w.heap.size < w3.heap.size := by omega
    have hbX : w.heap.size ≠ b := by omega
    have k6 : ∀ o', (w3.alloc o').drew.cell? ⟨b, o, none⟩ = some (.slice ak ks.length ck) := fun o' => ((below1 w3 o').cell (p := ⟨b, o, none⟩) hbw3).trans m0
    have hS0 : (fun W : World => W.cell? ⟨w.heap.size, 0, none⟩ = some (.string t.s) ∧ W.cell? ⟨w.heap.size, 1, none⟩ = some (.int .i64 t.k) ∧ W.cell? ⟨w.heap.size, 2, none⟩ = some (.int .i64 t.l) ∧ W.cell? ⟨w.heap.size, 3, none⟩ = some (.int .i64 t.sd)) w3.drew := ⟨y0, y1, y2, y3⟩
    have HS1 := hide (show (fun W : World => W.cell? ⟨w.heap.size, 0, none⟩ = some (.string t.s) ∧ W.cell? ⟨w.heap.size, 1, none⟩ = some (.int .i64 t.k) ∧ W.cell? ⟨w.heap.size, 2, none⟩ = some (.int .i64 t.l) ∧ W.cell? ⟨w.heap.size, 3, none⟩ = some (.int .i64 t.sd)) (w3.alloc (.cells #[.string t.s, .int .i64 t.k, .int .i64 t.l, .int .i64 t.sd] 70)).drew from ⟨((below1 w3 _).cell (p := ⟨w.heap.size, 0, none⟩) hXw3).trans y0, ((below1 w3 _).cell (p := ⟨w.heap.size, 1, none⟩) hXw3).trans y1, ((below1 w3 _).cell (p := ⟨w.heap.size, 2, none⟩) hXw3).trans y2, ((below1 w3 _).cell (p := ⟨w.heap.size, 3, none⟩) hXw3).trans y3⟩)
    have HNK := hide (unhide HQ).nk
    have HPO := hide (fun w' (hh : AddPostQ w1 b o B (.slice ak ks.length ck) none (ks ++ [t]) w') => show RetB (.returned (.bool true)) (t ∉ ks) ∧ AddPostQ w b o B (.slice ak ks.length ck) none (insO ks t) w' from ⟨⟨true, rfl, says_true (unhide HNI)⟩, by rw [unhide HINS]; exact AddPostQ.step (Eff.of_below (unhide HBW) hbl _ _ _) (Or.inl rfl) (Or.inl rfl) hh⟩)
    clear hrun x0 x1 x2 x3
    refine wp_region_held_drew (S := fun W : World => W.cell? ⟨w.heap.size, 0, none⟩ = some (.string t.s) ∧ W.cell? ⟨w.heap.size, 1, none⟩ = some (.int .i64 t.k) ∧ W.cell? ⟨w.heap.size, 2, none⟩ = some (.int .i64 t.l) ∧ W.cell? ⟨w.heap.size, 3, none⟩ = some (.int .i64 t.sd)) (by kernel_rfl) hS0 (fun _ => ?_)
    refine wpAnyH_take (i := 0) (v := ?_) rfl (by kernel_rfl) (by kernel_rfl) (by kernel_rfl) (fun _ _ _ h => h) (Or.inl ⟨by rfl, ?_⟩) hS0 ?_
    rotate_left
    · intro W hW; obtain ⟨s0, s1, s2, s3⟩ := hW; simp only [List.getElem_toArray, List.getElem_cons_succ, List.getElem_cons_zero]; go_simp; first | done | (with_reducible rfl)
    simp only [List.getElem_toArray, List.getElem_cons_succ, List.getElem_cons_zero]
    simp only [Act.put, List.setIfInBounds_toArray, List.set_cons_zero, List.set_cons_succ]
    refine wpAnyH_take (i := 1) (v := ?_) rfl (by kernel_rfl) (by kernel_rfl) (by kernel_rfl) (fun _ _ _ h => h) (Or.inl ⟨by rfl, ?_⟩) hS0 ?_
    rotate_left
    · intro W hW; obtain ⟨s0, s1, s2, s3⟩ := hW; simp only [List.getElem_toArray, List.getElem_cons_succ, List.getElem_cons_zero]; go_simp; first | done | (with_reducible rfl)
    simp only [List.getElem_toArray, List.getElem_cons_succ, List.getElem_cons_zero]
    simp only [Act.put, List.setIfInBounds_toArray, List.set_cons_zero, List.set_cons_succ]
    refine wpAnyH_take (i := 2) (v := ?_) rfl (by kernel_rfl) (by kernel_rfl) (by kernel_rfl) (fun _ _ _ h => h) (Or.inl ⟨by rfl, ?_⟩) hS0 ?_
    rotate_left
    · intro W hW; obtain ⟨s0, s1, s2, s3⟩ := hW; simp only [List.getElem_toArray, List.getElem_cons_succ, List.getElem_cons_zero]; go_simp; first | done | (with_reducible rfl)
    simp only [List.getElem_toArray, List.getElem_cons_succ, List.getElem_cons_zero]
    simp only [Act.put, List.setIfInBounds_toArray, List.set_cons_zero, List.set_cons_succ]
    refine wpAnyH_take (i := 3) (v := ?_) rfl (by kernel_rfl) (by kernel_rfl) (by kernel_rfl) (fun _ _ _ h => h) (Or.inl ⟨by rfl, ?_⟩) hS0 ?_
    rotate_left
    · intro W hW; obtain ⟨s0, s1, s2, s3⟩ := hW; simp only [List.getElem_toArray, List.getElem_cons_succ, List.getElem_cons_zero]; go_simp; first | done | (with_reducible rfl)
    simp only [List.getElem_toArray, List.getElem_cons_succ, List.getElem_cons_zero]
    simp only [Act.put, List.setIfInBounds_toArray, List.set_cons_zero, List.set_cons_succ]
    refine wpAnyH_take (i := 5) (v := ?_) rfl (by kernel_rfl) (by kernel_rfl) (by kernel_rfl) (fun _ _ _ h => h) (Or.inl ⟨by rfl, ?_⟩) hS0 ?_
    rotate_left
    · intro W hW; obtain ⟨s0, s1, s2, s3⟩ := hW; simp only [List.getElem_toArray, List.getElem_cons_succ, List.getElem_cons_zero]; go_simp; first | done | (with_reducible rfl)
    simp only [List.getElem_toArray, List.getElem_cons_succ, List.getElem_cons_zero]
    simp only [Act.put, List.setIfInBounds_toArray, List.set_cons_zero, List.set_cons_succ]
    refine wpAnyH_ready (rs := [4, 6]) (by kernel_rfl) (by simp) ?_
    refine AllReadyH.cons rfl (fun K hK => ?_) (AllReadyH.cons rfl (fun K hK => ?_) AllReadyH.nil)
    · simp only [List.getElem_toArray, List.getElem_cons_succ, List.getElem_cons_zero]
      go_simp
      refine hK.out _ _ hS0 (fun _ => ?_)
      clear hK
      refine wpAnyH_ready (rs := [6]) (by kernel_rfl) (by simp) ?_
      refine AllReadyH.cons rfl (fun K hK => ?_) AllReadyH.nil
      simp only [List.getElem_toArray, List.getElem_cons_succ, List.getElem_cons_zero]
      go_simp
      refine hK.out _ _ (unhide HS1) (fun _ => ?_)
      clear hK
      refine wpAnyH_ready (rs := [7]) (by kernel_rfl) (by simp) ?_
      refine AllReadyH.cons rfl (fun K hK => ?_) AllReadyH.nil
      refine step_append_lies _ (by rfl) (.tmp 31) (.tmp 33) 38 (by rfl) B 70 iO _ 4 40 Tryz.underlying38 (unhide HI) (unhide HZ).1 (unhide HZ).2.1 (unhide HZ).2.2 rfl (by decide) _ ks.length (cellsL ks) (by rfl) ((unhide HR3).below ((below1 _ _).drew)) ⟨w3.heap.size, 0, none⟩ 1 1 (cellsL [t]) (by rfl) rfl (fun j u hj => (by simpa using new_news w3 t j u hj)) (cellsL_one' _) (by decide) (by unfold maxLen; omega) (by omega) (by simp; omega) _ rfl ?_
      intro g4 c4 w4 hown4 hgrow4 hat4 hlt4
      have m2 : w4.cell? ⟨b, o, none⟩ = some (.slice ak ks.length ck) := (grown_cell hgrow4 (b := b) (by simp; omega) (unhide HNK) o).trans (k6 _)
      have m3 : w4.frozen? ⟨b, o, none⟩ = false := (frozen_grown hgrow4 (b := b) (by simp; omega) (unhide HNK) o).trans (((below1 w3 _).frozen (p := ⟨b, o, none⟩) hbw3).trans m1)
      have ec := fun j => grown_cell hgrow4 (b := w.heap.size) (by simp; omega) (unhide HXF) j
      have e0 : w4.cell? ⟨w.heap.size, 0, none⟩ = some (.string t.s) := (ec 0).trans (unhide HS1).1
      have e1 : w4.cell? ⟨w.heap.size, 1, none⟩ = some (.int .i64 t.k) := (ec 1).trans (unhide HS1).2.1
      have e2 : w4.cell? ⟨w.heap.size, 2, none⟩ = some (.int .i64 t.l) := (ec 2).trans (unhide HS1).2.2.1
      have e3 : w4.cell? ⟨w.heap.size, 3, none⟩ = some (.int .i64 t.sd) := (ec 3).trans (unhide HS1).2.2.2
      have HF4 := hide ((unhide HPO) _ ((unhide HFIN) _ _ _ _ hown4 hgrow4 (hat4.imp id (fun e => e.trans (by simp)))))
      clear hown4 hgrow4 hat4 hlt4 ec
      refine hK.out _ _ ⟨e0, e1, e2, e3⟩ (fun hS4 => ?_)
      clear hK
      simp only [List.getElem_toArray, List.getElem_cons_succ, List.getElem_cons_zero]
      simp only [Act.put, List.setIfInBounds_toArray, List.set_cons_zero, List.set_cons_succ]
      refine wpAnyH_take (i := 8) (v := ?_) rfl (by kernel_rfl) (by kernel_rfl) (by kernel_rfl) (fun _ _ _ h => h) (Or.inl ⟨by rfl, ?_⟩) hS4 ?_
      rotate_left
      · intro W hW; obtain ⟨s0, s1, s2, s3⟩ := hW; simp only [List.getElem_toArray, List.getElem_cons_succ, List.getElem_cons_zero]; go_simp; first | done | (with_reducible rfl)
      simp only [List.getElem_toArray, List.getElem_cons_succ, List.getElem_cons_zero]
      simp only [Act.put, List.setIfInBounds_toArray, List.set_cons_zero, List.set_cons_succ]
      refine wpAnyH_take (i := 9) (v := ?_) rfl (by kernel_rfl) (by kernel_rfl) (by kernel_rfl) (fun _ _ _ h => h) (Or.inl ⟨by rfl, ?_⟩) hS4 ?_
      rotate_left
      · intro W hW; obtain ⟨s0, s1, s2, s3⟩ := hW; simp only [List.getElem_toArray, List.getElem_cons_succ, List.getElem_cons_zero]; go_simp; first | done | (with_reducible rfl)
      simp only [List.getElem_toArray, List.getElem_cons_succ, List.getElem_cons_zero]
      simp only [Act.put, List.setIfInBounds_toArray, List.set_cons_zero, List.set_cons_succ]
      refine wpAnyH_ready (rs := [10]) (by kernel_rfl) (by simp) ?_
      refine AllReadyH.cons rfl (fun K hK => ?_) AllReadyH.nil
      simp only [List.getElem_toArray, List.getElem_cons_succ, List.getElem_cons_zero]
      go_simp
      refine hK.out _ _ ⟨by rw [World.cell?_setCell_other _ _ _ _ (by simp [hbX])]; exact e0, by rw [World.cell?_setCell_other _ _ _ _ (by simp [hbX])]; exact e1, by rw [World.cell?_setCell_other _ _ _ _ (by simp [hbX])]; exact e2, by rw [World.cell?_setCell_other _ _ _ _ (by simp [hbX])]; exact e3⟩ (fun hS5 => ?_)
      clear hK
      refine wpAnyH_done (by kernel_rfl) ?_ _
      clear hS4 hS5
      go_wp2_with fail
      go_ret
      exact unhide HF4
    · simp only [List.getElem_toArray, List.getElem_cons_succ, List.getElem_cons_zero]
      go_simp
      refine hK.out _ _ (unhide HS1) (fun _ => ?_)
      clear hK
      refine wpAnyH_ready (rs := [4]) (by kernel_rfl) (by simp) ?_
      refine AllReadyH.cons rfl (fun K hK => ?_) AllReadyH.nil
      simp only [List.getElem_toArray, List.getElem_cons_succ, List.getElem_cons_zero]
      go_simp
      refine hK.out _ _ (unhide HS1) (fun _ => ?_)
      clear hK
      refine wpAnyH_ready (rs := [7]) (by kernel_rfl) (by simp) ?_
      refine AllReadyH.cons rfl (fun K hK => ?_) AllReadyH.nil
      refine step_append_lies _ (by rfl) (.tmp 31) (.tmp 33) 38 (by rfl) B 70 iO _ 4 40 Tryz.underlying38 (unhide HI) (unhide HZ).1 (unhide HZ).2.1 (unhide HZ).2.2 rfl (by decide) _ ks.length (cellsL ks) (by rfl) ((unhide HR3).below ((below1 _ _).drew)) ⟨w3.heap.size, 0, none⟩ 1 1 (cellsL [t]) (by rfl) rfl (fun j u hj => (by simpa using new_news w3 t j u hj)) (cellsL_one' _) (by decide) (by unfold maxLen; omega) (by omega) (by simp; omega) _ rfl ?_
      intro g4 c4 w4 hown4 hgrow4 hat4 hlt4
      have m2 : w4.cell? ⟨b, o, none⟩ = some (.slice ak ks.length ck) := (grown_cell hgrow4 (b := b) (by simp; omega) (unhide HNK) o).trans (k6 _)
      have m3 : w4.frozen? ⟨b, o, none⟩ = false := (frozen_grown hgrow4 (b := b) (by simp; omega) (unhide HNK) o).trans (((below1 w3 _).frozen (p := ⟨b, o, none⟩) hbw3).trans m1)
      have ec := fun j => grown_cell hgrow4 (b := w.heap.size) (by simp; omega) (unhide HXF) j
      have e0 : w4.cell? ⟨w.heap.size, 0, none⟩ = some (.string t.s) := (ec 0).trans (unhide HS1).1
      have e1 : w4.cell? ⟨w.heap.size, 1, none⟩ = some (.int .i64 t.k) := (ec 1).trans (unhide HS1).2.1
      have e2 : w4.cell? ⟨w.heap.size, 2, none⟩ = some (.int .i64 t.l) := (ec 2).trans (unhide HS1).2.2.1
      have e3 : w4.cell? ⟨w.heap.size, 3, none⟩ = some (.int .i64 t.sd) := (ec 3).trans (unhide HS1).2.2.2
      have HF4 := hide ((unhide HPO) _ ((unhide HFIN) _ _ _ _ hown4 hgrow4 (hat4.imp id (fun e => e.trans (by simp)))))
      clear hown4 hgrow4 hat4 hlt4 ec
      refine hK.out _ _ ⟨e0, e1, e2, e3⟩ (fun hS4 => ?_)
      clear hK
      simp only [List.getElem_toArray, List.getElem_cons_succ, List.getElem_cons_zero]
      simp only [Act.put, List.setIfInBounds_toArray, List.set_cons_zero, List.set_cons_succ]
      refine wpAnyH_take (i := 8) (v := ?_) rfl (by kernel_rfl) (by kernel_rfl) (by kernel_rfl) (fun _ _ _ h => h) (Or.inl ⟨by rfl, ?_⟩) hS4 ?_
      rotate_left
      · intro W hW; obtain ⟨s0, s1, s2, s3⟩ := hW; simp only [List.getElem_toArray, List.getElem_cons_succ, List.getElem_cons_zero]; go_simp; first | done | (with_reducible rfl)
      simp only [List.getElem_toArray, List.getElem_cons_succ, List.getElem_cons_zero]
      simp only [Act.put, List.setIfInBounds_toArray, List.set_cons_zero, List.set_cons_succ]
      refine wpAnyH_take (i := 9) (v := ?_) rfl (by kernel_rfl) (by kernel_rfl) (by kernel_rfl) (fun _ _ _ h => h) (Or.inl ⟨by rfl, ?_⟩) hS4 ?_
      rotate_left
      · intro W hW; obtain ⟨s0, s1, s2, s3⟩ := hW; simp only [List.getElem_toArray, List.getElem_cons_succ, List.getElem_cons_zero]; go_simp; first | done | (with_reducible rfl)
      simp only [List.getElem_toArray, List.getElem_cons_succ, List.getElem_cons_zero]
      simp only [Act.put, List.setIfInBounds_toArray, List.set_cons_zero, List.set_cons_succ]
      refine wpAnyH_ready (rs := [10]) (by kernel_rfl) (by simp) ?_
      refine AllReadyH.cons rfl (fun K hK => ?_) AllReadyH.nil
      simp only [List.getElem_toArray, List.getElem_cons_succ, List.getElem_cons_zero]
      go_simp
      refine hK.out _ _ ⟨by rw [World.cell?_setCell_other _ _ _ _ (by simp [hbX])]; exact e0, by rw [World.cell?_setCell_other _ _ _ _ (by simp [hbX])]; exact e1, by rw [World.cell?_setCell_other _ _ _ _ (by simp [hbX])]; exact e2, by rw [World.cell?_setCell_other _ _ _ _ (by simp [hbX])]; exact e3⟩ (fun hS5 => ?_)
      clear hK
      refine wpAnyH_done (by kernel_rfl) ?_ _
      clear hS4 hS5
      go_wp2_with fail
      go_ret
      exact unhide HF4
  · have heq := fun w1 => eqlSomeQ bm w1
    have hbmb : bm ≠ b := fun e => (unhide HQ).np (by rw [e])
    have hbmk : (Value.slice ak ks.length ck).ownBlock ≠ some bm := fun e => (unhide HQ).nn bm e rfl
    have hbml := hmap.lt
    have HMAP := hide hmap
    clear hmap
    go_enter Tryz.func58, Tryz.ntmps58
    go_wp2_with (first | (go_at_call 68; rw [← unhide HW0]; (with_reducible refine (unhide HH).mono ?_); rintro e w1 ⟨⟨v, rfl, hv⟩, hx⟩; have HB1 := hide hx; obtain rfl : v = false := (by cases v; rfl; exact absurd (hv.1 rfl) (unhide HNI)); clear hv hx; have hz1 : w.heap.size + 1 ≤ w1.heap.size := (by have := (unhide HB1).size; rw [unhide HZ0] at this; exact this); have hbw1 : b < w1.heap.size := (by omega); have HBW := hide (show Below w.heap.size w w1 from (unhide HB0).trans ((unhide HB1).mono (by rw [unhide HZ0]; omega))); have h1 := (unhide HQ).below (unhide HBW); have hbel1 : ∀ j, w1.cell? ⟨w.heap.size, j, none⟩ = W0.cell? ⟨w.heap.size, j, none⟩ := (fun j => (unhide HB1).cell (p := ⟨w.heap.size, j, none⟩) (by show w.heap.size < W0.heap.size; rw [unhide HZ0]; omega)); have j0 := (hbel1 0).trans k0; have j1 := (hbel1 1).trans k1; have j2 := (hbel1 2).trans k2; have j3 := (hbel1 3).trans k3; clear hbel1 k0 k1 k2 k3 HH; have c0 := h1.c0; have c1 := h1.c1; have f0 := h1.f0; have f1 := h1.f1; have HQ1 := hide h1; clear h1))
    have hSM : OMap w1 bm ks.length (gQ ks) := (unhide HMAP).kept (grown_belN (unhide HBW) none) (by simp)
    obtain ⟨w3, hrun, hz3, c0', m0, m1, hXc, hr3, hfin⟩ := addQ_mid (X := w.heap.size) (unhide HQ1) (by omega) (unhide HNI) hs hl (Nat.le_refl _) (fun _ _ _ => rfl) ⟨rfl, rfl, rfl⟩ (fun _ _ => rfl) (fun _ => rfl) c1 hbm hbmb hbmk (Or.inl rfl) hSM (by omega) (by omega) (by omega)
    clear hSM
    have x0 := (hXc 0).1.trans j0
    have x1 := (hXc 1).1.trans j1
    have x2 := (hXc 2).1.trans j2
    have x3 := (hXc 3).1.trans j3
    have y0 := (hXc 0).2.trans j0
    have y1 := (hXc 1).2.trans j1
    have y2 := (hXc 2).2.trans j2
    have y3 := (hXc 3).2.trans j3
    have HR3 := hide hr3
    have HFIN := hide hfin
    clear hXc hr3 hfin j0 j1 j2 j3
    go_region
    go_wp2_with fail
    have hbw3 : b < w3.heap.size := by omega
    have hXw3 : w.heap.size < w3.heap.size := by omega
    have hbX : w.heap.size ≠ b := by omega
    have k6 : ∀ o', (w3.alloc o').drew.cell? ⟨b, o, none⟩ = some (.slice ak ks.length ck) := fun o' => ((below1 w3 o').cell (p := ⟨b, o, none⟩) hbw3).trans m0
    have hS0 : (fun W : World => W.cell? ⟨w.heap.size, 0, none⟩ = some (.string t.s) ∧ W.cell? ⟨w.heap.size, 1, none⟩ = some (.int .i64 t.k) ∧ W.cell? ⟨w.heap.size, 2, none⟩ = some (.int .i64 t.l) ∧ W.cell? ⟨w.heap.size, 3, none⟩ = some (.int .i64 t.sd)) w3.drew := ⟨y0, y1, y2, y3⟩
    have HS1 := hide (show (fun W : World => W.cell? ⟨w.heap.size, 0, none⟩ = some (.string t.s) ∧ W.cell? ⟨w.heap.size, 1, none⟩ = some (.int .i64 t.k) ∧ W.cell? ⟨w.heap.size, 2, none⟩ = some (.int .i64 t.l) ∧ W.cell? ⟨w.heap.size, 3, none⟩ = some (.int .i64 t.sd)) (w3.alloc (.cells #[.string t.s, .int .i64 t.k, .int .i64 t.l, .int .i64 t.sd] 70)).drew from ⟨((below1 w3 _).cell (p := ⟨w.heap.size, 0, none⟩) hXw3).trans y0, ((below1 w3 _).cell (p := ⟨w.heap.size, 1, none⟩) hXw3).trans y1, ((below1 w3 _).cell (p := ⟨w.heap.size, 2, none⟩) hXw3).trans y2, ((below1 w3 _).cell (p := ⟨w.heap.size, 3, none⟩) hXw3).trans y3⟩)
    have HNK := hide (unhide HQ).nk
    have HPO := hide (fun w' (hh : AddPostQ w1 b o B (.slice ak ks.length ck) (some bm) (ks ++ [t]) w') => show RetB (.returned (.bool true)) (t ∉ ks) ∧ AddPostQ w b o B (.slice ak ks.length ck) (some bm) (insO ks t) w' from ⟨⟨true, rfl, says_true (unhide HNI)⟩, by rw [unhide HINS]; exact AddPostQ.step (Eff.of_below (unhide HBW) hbl _ _ _) (Or.inl rfl) (Or.inl rfl) hh⟩)
    clear hrun x0 x1 x2 x3
    refine wp_region_held_drew (S := fun W : World => W.cell? ⟨w.heap.size, 0, none⟩ = some (.string t.s) ∧ W.cell? ⟨w.heap.size, 1, none⟩ = some (.int .i64 t.k) ∧ W.cell? ⟨w.heap.size, 2, none⟩ = some (.int .i64 t.l) ∧ W.cell? ⟨w.heap.size, 3, none⟩ = some (.int .i64 t.sd)) (by kernel_rfl) hS0 (fun _ => ?_)
    refine wpAnyH_take (i := 0) (v := ?_) rfl (by kernel_rfl) (by kernel_rfl) (by kernel_rfl) (fun _ _ _ h => h) (Or.inl ⟨by rfl, ?_⟩) hS0 ?_
    rotate_left
    · intro W hW; obtain ⟨s0, s1, s2, s3⟩ := hW; simp only [List.getElem_toArray, List.getElem_cons_succ, List.getElem_cons_zero]; go_simp; first | done | (with_reducible rfl)
    simp only [List.getElem_toArray, List.getElem_cons_succ, List.getElem_cons_zero]
    simp only [Act.put, List.setIfInBounds_toArray, List.set_cons_zero, List.set_cons_succ]
    refine wpAnyH_take (i := 1) (v := ?_) rfl (by kernel_rfl) (by kernel_rfl) (by kernel_rfl) (fun _ _ _ h => h) (Or.inl ⟨by rfl, ?_⟩) hS0 ?_
    rotate_left
    · intro W hW; obtain ⟨s0, s1, s2, s3⟩ := hW; simp only [List.getElem_toArray, List.getElem_cons_succ, List.getElem_cons_zero]; go_simp; first | done | (with_reducible rfl)
    simp only [List.getElem_toArray, List.getElem_cons_succ, List.getElem_cons_zero]
    simp only [Act.put, List.setIfInBounds_toArray, List.set_cons_zero, List.set_cons_succ]
    refine wpAnyH_take (i := 2) (v := ?_) rfl (by kernel_rfl) (by kernel_rfl) (by kernel_rfl) (fun _ _ _ h => h) (Or.inl ⟨by rfl, ?_⟩) hS0 ?_
    rotate_left
    · intro W hW; obtain ⟨s0, s1, s2, s3⟩ := hW; simp only [List.getElem_toArray, List.getElem_cons_succ, List.getElem_cons_zero]; go_simp; first | done | (with_reducible rfl)
    simp only [List.getElem_toArray, List.getElem_cons_succ, List.getElem_cons_zero]
    simp only [Act.put, List.setIfInBounds_toArray, List.set_cons_zero, List.set_cons_succ]
    refine wpAnyH_take (i := 3) (v := ?_) rfl (by kernel_rfl) (by kernel_rfl) (by kernel_rfl) (fun _ _ _ h => h) (Or.inl ⟨by rfl, ?_⟩) hS0 ?_
    rotate_left
    · intro W hW; obtain ⟨s0, s1, s2, s3⟩ := hW; simp only [List.getElem_toArray, List.getElem_cons_succ, List.getElem_cons_zero]; go_simp; first | done | (with_reducible rfl)
    simp only [List.getElem_toArray, List.getElem_cons_succ, List.getElem_cons_zero]
    simp only [Act.put, List.setIfInBounds_toArray, List.set_cons_zero, List.set_cons_succ]
    refine wpAnyH_take (i := 5) (v := ?_) rfl (by kernel_rfl) (by kernel_rfl) (by kernel_rfl) (fun _ _ _ h => h) (Or.inl ⟨by rfl, ?_⟩) hS0 ?_
    rotate_left
    · intro W hW; obtain ⟨s0, s1, s2, s3⟩ := hW; simp only [List.getElem_toArray, List.getElem_cons_succ, List.getElem_cons_zero]; go_simp; first | done | (with_reducible rfl)
    simp only [List.getElem_toArray, List.getElem_cons_succ, List.getElem_cons_zero]
    simp only [Act.put, List.setIfInBounds_toArray, List.set_cons_zero, List.set_cons_succ]
    refine wpAnyH_ready (rs := [4, 6]) (by kernel_rfl) (by simp) ?_
    refine AllReadyH.cons rfl (fun K hK => ?_) (AllReadyH.cons rfl (fun K hK => ?_) AllReadyH.nil)
    · simp only [List.getElem_toArray, List.getElem_cons_succ, List.getElem_cons_zero]
      go_simp
      refine hK.out _ _ hS0 (fun _ => ?_)
      clear hK
      refine wpAnyH_ready (rs := [6]) (by kernel_rfl) (by simp) ?_
      refine AllReadyH.cons rfl (fun K hK => ?_) AllReadyH.nil
      simp only [List.getElem_toArray, List.getElem_cons_succ, List.getElem_cons_zero]
      go_simp
      refine hK.out _ _ (unhide HS1) (fun _ => ?_)
      clear hK
      refine wpAnyH_ready (rs := [7]) (by kernel_rfl) (by simp) ?_
      refine AllReadyH.cons rfl (fun K hK => ?_) AllReadyH.nil
      refine step_append_lies _ (by rfl) (.tmp 31) (.tmp 33) 38 (by rfl) B 70 iO _ 4 40 Tryz.underlying38 (unhide HI) (unhide HZ).1 (unhide HZ).2.1 (unhide HZ).2.2 rfl (by decide) _ ks.length (cellsL ks) (by rfl) ((unhide HR3).below ((below1 _ _).drew)) ⟨w3.heap.size, 0, none⟩ 1 1 (cellsL [t]) (by rfl) rfl (fun j u hj => (by simpa using new_news w3 t j u hj)) (cellsL_one' _) (by decide) (by unfold maxLen; omega) (by omega) (by simp; omega) _ rfl ?_
      intro g4 c4 w4 hown4 hgrow4 hat4 hlt4
      have m2 : w4.cell? ⟨b, o, none⟩ = some (.slice ak ks.length ck) := (grown_cell hgrow4 (b := b) (by simp; omega) (unhide HNK) o).trans (k6 _)
      have m3 : w4.frozen? ⟨b, o, none⟩ = false := (frozen_grown hgrow4 (b := b) (by simp; omega) (unhide HNK) o).trans (((below1 w3 _).frozen (p := ⟨b, o, none⟩) hbw3).trans m1)
      have ec := fun j => grown_cell hgrow4 (b := w.heap.size) (by simp; omega) (unhide HXF) j
      have e0 : w4.cell? ⟨w.heap.size, 0, none⟩ = some (.string t.s) := (ec 0).trans (unhide HS1).1
      have e1 : w4.cell? ⟨w.heap.size, 1, none⟩ = some (.int .i64 t.k) := (ec 1).trans (unhide HS1).2.1
      have e2 : w4.cell? ⟨w.heap.size, 2, none⟩ = some (.int .i64 t.l) := (ec 2).trans (unhide HS1).2.2.1
      have e3 : w4.cell? ⟨w.heap.size, 3, none⟩ = some (.int .i64 t.sd) := (ec 3).trans (unhide HS1).2.2.2
      have HF4 := hide ((unhide HPO) _ ((unhide HFIN) _ _ _ _ hown4 hgrow4 (hat4.imp id (fun e => e.trans (by simp)))))
      clear hown4 hgrow4 hat4 hlt4 ec
      refine hK.out _ _ ⟨e0, e1, e2, e3⟩ (fun hS4 => ?_)
      clear hK
      simp only [List.getElem_toArray, List.getElem_cons_succ, List.getElem_cons_zero]
      simp only [Act.put, List.setIfInBounds_toArray, List.set_cons_zero, List.set_cons_succ]
      refine wpAnyH_take (i := 8) (v := ?_) rfl (by kernel_rfl) (by kernel_rfl) (by kernel_rfl) (fun _ _ _ h => h) (Or.inl ⟨by rfl, ?_⟩) hS4 ?_
      rotate_left
      · intro W hW; obtain ⟨s0, s1, s2, s3⟩ := hW; simp only [List.getElem_toArray, List.getElem_cons_succ, List.getElem_cons_zero]; go_simp; first | done | (with_reducible rfl)
      simp only [List.getElem_toArray, List.getElem_cons_succ, List.getElem_cons_zero]
      simp only [Act.put, List.setIfInBounds_toArray, List.set_cons_zero, List.set_cons_succ]
      refine wpAnyH_take (i := 9) (v := ?_) rfl (by kernel_rfl) (by kernel_rfl) (by kernel_rfl) (fun _ _ _ h => h) (Or.inl ⟨by rfl, ?_⟩) hS4 ?_
      rotate_left
      · intro W hW; obtain ⟨s0, s1, s2, s3⟩ := hW; simp only [List.getElem_toArray, List.getElem_cons_succ, List.getElem_cons_zero]; go_simp; first | done | (with_reducible rfl)
      simp only [List.getElem_toArray, List.getElem_cons_succ, List.getElem_cons_zero]
      simp only [Act.put, List.setIfInBounds_toArray, List.set_cons_zero, List.set_cons_succ]
      refine wpAnyH_ready (rs := [10]) (by kernel_rfl) (by simp) ?_
      refine AllReadyH.cons rfl (fun K hK => ?_) AllReadyH.nil
      simp only [List.getElem_toArray, List.getElem_cons_succ, List.getElem_cons_zero]
      go_simp
      refine hK.out _ _ ⟨by rw [World.cell?_setCell_other _ _ _ _ (by simp [hbX])]; exact e0, by rw [World.cell?_setCell_other _ _ _ _ (by simp [hbX])]; exact e1, by rw [World.cell?_setCell_other _ _ _ _ (by simp [hbX])]; exact e2, by rw [World.cell?_setCell_other _ _ _ _ (by simp [hbX])]; exact e3⟩ (fun hS5 => ?_)
      clear hK
      refine wpAnyH_done (by kernel_rfl) ?_ _
      clear hS4 hS5
      go_wp2_with fail
      go_ret
      exact unhide HF4
    · simp only [List.getElem_toArray, List.getElem_cons_succ, List.getElem_cons_zero]
      go_simp
      refine hK.out _ _ (unhide HS1) (fun _ => ?_)
      clear hK
      refine wpAnyH_ready (rs := [4]) (by kernel_rfl) (by simp) ?_
      refine AllReadyH.cons rfl (fun K hK => ?_) AllReadyH.nil
      simp only [List.getElem_toArray, List.getElem_cons_succ, List.getElem_cons_zero]
      go_simp
      refine hK.out _ _ (unhide HS1) (fun _ => ?_)
      clear hK
      refine wpAnyH_ready (rs := [7]) (by kernel_rfl) (by simp) ?_
      refine AllReadyH.cons rfl (fun K hK => ?_) AllReadyH.nil
      refine step_append_lies _ (by rfl) (.tmp 31) (.tmp 33) 38 (by rfl) B 70 iO _ 4 40 Tryz.underlying38 (unhide HI) (unhide HZ).1 (unhide HZ).2.1 (unhide HZ).2.2 rfl (by decide) _ ks.length (cellsL ks) (by rfl) ((unhide HR3).below ((below1 _ _).drew)) ⟨w3.heap.size, 0, none⟩ 1 1 (cellsL [t]) (by rfl) rfl (fun j u hj => (by simpa using new_news w3 t j u hj)) (cellsL_one' _) (by decide) (by unfold maxLen; omega) (by omega) (by simp; omega) _ rfl ?_
      intro g4 c4 w4 hown4 hgrow4 hat4 hlt4
      have m2 : w4.cell? ⟨b, o, none⟩ = some (.slice ak ks.length ck) := (grown_cell hgrow4 (b := b) (by simp; omega) (unhide HNK) o).trans (k6 _)
      have m3 : w4.frozen? ⟨b, o, none⟩ = false := (frozen_grown hgrow4 (b := b) (by simp; omega) (unhide HNK) o).trans (((below1 w3 _).frozen (p := ⟨b, o, none⟩) hbw3).trans m1)
      have ec := fun j => grown_cell hgrow4 (b := w.heap.size) (by simp; omega) (unhide HXF) j
      have e0 : w4.cell? ⟨w.heap.size, 0, none⟩ = some (.string t.s) := (ec 0).trans (unhide HS1).1
      have e1 : w4.cell? ⟨w.heap.size, 1, none⟩ = some (.int .i64 t.k) := (ec 1).trans (unhide HS1).2.1
      have e2 : w4.cell? ⟨w.heap.size, 2, none⟩ = some (.int .i64 t.l) := (ec 2).trans (unhide HS1).2.2.1
      have e3 : w4.cell? ⟨w.heap.size, 3, none⟩ = some (.int .i64 t.sd) := (ec 3).trans (unhide HS1).2.2.2
      have HF4 := hide ((unhide HPO) _ ((unhide HFIN) _ _ _ _ hown4 hgrow4 (hat4.imp id (fun e => e.trans (by simp)))))
      clear hown4 hgrow4 hat4 hlt4 ec
      refine hK.out _ _ ⟨e0, e1, e2, e3⟩ (fun hS4 => ?_)
      clear hK
      simp only [List.getElem_toArray, List.getElem_cons_succ, List.getElem_cons_zero]
      simp only [Act.put, List.setIfInBounds_toArray, List.set_cons_zero, List.set_cons_succ]
      refine wpAnyH_take (i := 8) (v := ?_) rfl (by kernel_rfl) (by kernel_rfl) (by kernel_rfl) (fun _ _ _ h => h) (Or.inl ⟨by rfl, ?_⟩) hS4 ?_
      rotate_left
      · intro W hW; obtain ⟨s0, s1, s2, s3⟩ := hW; simp only [List.getElem_toArray, List.getElem_cons_succ, List.getElem_cons_zero]; go_simp; first | done | (with_reducible rfl)
      simp only [List.getElem_toArray, List.getElem_cons_succ, List.getElem_cons_zero]
      simp only [Act.put, List.setIfInBounds_toArray, List.set_cons_zero, List.set_cons_succ]
      refine wpAnyH_take (i := 9) (v := ?_) rfl (by kernel_rfl) (by kernel_rfl) (by kernel_rfl) (fun _ _ _ h => h) (Or.inl ⟨by rfl, ?_⟩) hS4 ?_
      rotate_left
      · intro W hW; obtain ⟨s0, s1, s2, s3⟩ := hW; simp only [List.getElem_toArray, List.getElem_cons_succ, List.getElem_cons_zero]; go_simp; first | done | (with_reducible rfl)
      simp only [List.getElem_toArray, List.getElem_cons_succ, List.getElem_cons_zero]
      simp only [Act.put, List.setIfInBounds_toArray, List.set_cons_zero, List.set_cons_succ]
      refine wpAnyH_ready (rs := [10]) (by kernel_rfl) (by simp) ?_
      refine AllReadyH.cons rfl (fun K hK => ?_) AllReadyH.nil
      simp only [List.getElem_toArray, List.getElem_cons_succ, List.getElem_cons_zero]
      go_simp
      refine hK.out _ _ ⟨by rw [World.cell?_setCell_other _ _ _ _ (by simp [hbX])]; exact e0, by rw [World.cell?_setCell_other _ _ _ _ (by simp [hbX])]; exact e1, by rw [World.cell?_setCell_other _ _ _ _ (by simp [hbX])]; exact e2, by rw [World.cell?_setCell_other _ _ _ _ (by simp [hbX])]; exact e3⟩ (fun hS5 => ?_)
      clear hK
      refine wpAnyH_done (by kernel_rfl) ?_ _
      clear hS4 hS5
      go_wp2_with fail
      go_ret
      exact unhide HF4
end Go.Proofs.YtokabkhnidlcnabGreatDoor

/-
  Walk: a row of operators is put to a set in order, in the program.
-/
namespace Go.Proofs.YtokabkhnidlcnabGreatDoor
set_option maxRecDepth 100000
set_option linter.unusedSimpArgs false
set_option linter.unusedVariables false
open Go.RowKit Go.Maps

theorem foldQ_take {us ks : List OpR} {k : Nat} (h : k < us.length) : insAll ks (us.take (k + 1)) = insO (insAll ks (us.take k)) (atO us k) := by
  rw [List.take_add_one, List.getElem?_eq_getElem h, insAll_append]
  unfold insAll atO
  simp [h]

theorem insAll_len_le : ∀ (xs acc : List OpR), (insAll acc xs).length ≤ acc.length + xs.length
  | [], acc => by simp [insAll]
  | x :: r, acc => by
    show (insAll (insO acc x) r).length ≤ _
    have h1 := insAll_len_le r (insO acc x)
    have h2 : (insO acc x).length ≤ acc.length + 1 := by
      by_cases h : x ∈ acc
      · rw [insO_yes h]; omega
      · rw [insO_no h]; simp
    simp; omega

set_option maxHeartbeats 2000000 in
theorem addAllQ_any (b o B : Nat) (kv : Value) (pv : Option Nat) (ks : List OpR) (v : Value) (us : List OpR) (w : World) (h : QSet w b o B kv pv ks) (hs : ∀ x ∈ us, Fine x) (hl : ks.length + us.length ≤ 1048576) (hB : B ≤ w.heap.size) (hr : OpsAt w v us) (ha : Apt v b kv pv) :
    Calls Tryz.prog 43 #[.pointer (some ⟨b, o, none⟩), v] w fun e w' => e = .returned (.tuple #[]) ∧ AddPostQ w b o B kv pv (insAll ks us) w' := by
  have hbl := h.lt
  have HP := hide (show AddPostQ w b o B kv pv (insAll ks (us.take 0)) w from ⟨kv, pv, by simpa [insAll] using h, Eff.refl _ _ _ _ _, Or.inl rfl, Or.inl rfl⟩)
  have HA := hide ha
  have HS := hide hs
  have HR := hide hr
  obtain ⟨a, c, rfl, _⟩ := hr
  clear h ha hs
  go_enter Tryz.func43, Tryz.ntmps43
  go_wp2
  go_loopw [8] (fun i wr => ∃ (k : Nat), k ≤ us.length ∧ i = .int .i64 (k : Int) ∧ Hid (AddPostQ w b o B kv pv (insAll ks (us.take k)) wr)) (fun i _ => us.length - (intOf i).toNat)
  case atStart => exact ⟨0, Nat.zero_le _, rfl, HP⟩
  case round =>
    obtain ⟨k, hk, rfl, HQ⟩ := hrel
    by_cases hlt : k < us.length
    · have hltI : (k : Int) < (us.length : Int) := by omega
      obtain ⟨kv1, pv1, h1, h2, h3, h4⟩ := unhide HQ
      obtain ⟨a', c', hv', h5⟩ := unhide HR
      obtain ⟨rfl, rfl⟩ : a = a' ∧ c = c' := by injection hv' with x _ y; exact ⟨x, y⟩
      rcases h5 with ⟨h5, _⟩ | ⟨g, rfl, hgl, hgc⟩
      · omega
      obtain ⟨a1, a2, a3⟩ := (unhide HA) g rfl
      have ec := fun j => h2.cell hgl a1 a2 a3 j
      obtain ⟨q0, q1, q2, q3⟩ := hgc k hlt
      have e0 := (ec _).trans q0
      have e1 := (ec _).trans q1
      have e2 := (ec _).trans q2
      have e3 := (ec _).trans q3
      simp only [Nat.zero_add] at e0 e1 e2 e3
      have hln := insAll_len_le (us.take k) ks
      rw [List.length_take] at hln
      have hz := h2.size
      obtain ⟨t, ht⟩ : ∃ t, t = atO us k := ⟨_, rfl⟩
      have HT := hide (foldQ_take (ks := ks) hlt)
      rw [← ht] at e0 e1 e2 e3 HT
      have hft : Fine t := (unhide HS) t (by rw [ht]; unfold atO; simp [hlt])
      obtain ⟨W, hW⟩ : ∃ W, W = wr.alloc (.cells #[.string t.s, .int .i64 t.k, .int .i64 t.l, .int .i64 t.sd] 70) := ⟨_, rfl⟩
      have hbW : Below wr.heap.size wr W := by rw [hW]; exact below1 _ _
      have hzW : wr.heap.size + 1 ≤ W.heap.size := by rw [hW]; simp
      have HX := hide (addQ_any b o B kv1 pv1 _ t W (h1.below hbW) hft (by omega) (by omega))
      have HF := hide (fun w2 (hh : AddPostQ W b o B kv1 pv1 (insO (insAll ks (us.take k)) t) w2) => show AddPostQ w b o B kv pv (insAll ks (us.take (k + 1))) w2 from (by rw [unhide HT]; exact AddPostQ.step (h2.trans (Eff.of_below hbW h1.lt _ kv1 pv1) h3 h4) h3 h4 hh))
      have HWW := hide hW
      clear hv' h1 h2 h3 h4 hln HQ ec q0 q1 q2 q3 ht HT hW hbW hzW
      go_wp2_with (first | (go_at_call 58; rw [← unhide HWW]; (with_reducible refine (unhide HX).mono ?_); rintro e w1 ⟨⟨y, rfl, _⟩, hpo⟩; have HN := hide ((unhide HF) w1 hpo); clear hpo))
      exact ⟨⟨k + 1, by omega, by go_num, HN⟩, by simp [intOf]; omega⟩
    · have HN := hide (show AddPostQ w b o B kv pv (insAll ks us) wr by have := unhide HQ; rwa [List.take_of_length_le (by omega)] at this)
      go_wp2
      go_end0
      exact ⟨rfl, unhide HN⟩
end Go.Proofs.YtokabkhnidlcnabGreatDoor

/-
  strings.Cut, strings.Split, strconv.Atoi at this program.
-/
namespace Go.Proofs.YtokabkhnidlcnabGreatDoor
set_option maxRecDepth 100000
set_option linter.unusedSimpArgs false
set_option linter.unusedVariables false
open Go.RowKit Go.Shelf

def lays145_ren : Go.Shelf.Ren := ⟨fun | 145 => 62 | 220 => 69 | 219 => 77 | 217 => 87 | 225 => 88 | 224 => 89 | 267 => 90 | 266 => 98 | 314 => 99 | n => n, fun | 9 => 9 | 4 => 4 | 59 => 105 | 3 => 3 | 5 => 5 | 46 => 133 | 146 => 137 | 51 => 136 | n => n, fun | 1 => 0 | n => n⟩
theorem lays145 : Go.Proofs.Lays.n145 Tryz.prog lays145_ren := {
  mixed := by kernel_rfl
  f145 := Tryz.func62.trans (congrArg some (by kernel_rfl))
  f217 := Tryz.func87.trans (congrArg some (by kernel_rfl))
  f219 := Tryz.func77.trans (congrArg some (by kernel_rfl))
  f220 := Tryz.func69.trans (congrArg some (by kernel_rfl))
  f224 := Tryz.func89.trans (congrArg some (by kernel_rfl))
  f225 := Tryz.func88.trans (congrArg some (by kernel_rfl))
  f266 := Tryz.func98.trans (congrArg some (by kernel_rfl))
  f267 := Tryz.func90.trans (congrArg some (by kernel_rfl))
  f314 := Tryz.func99.trans (congrArg some (by kernel_rfl))
  t3 := Tryz.underlying3
  a3 := Tryz.isAgg3
  z3 := Tryz.sizeOf3
  v3 := Tryz.zeroValue3
  t4 := Tryz.underlying4
  a4 := Tryz.isAgg4
  z4 := Tryz.sizeOf4
  v4 := Tryz.zeroValue4
  t5 := Tryz.underlying5
  a5 := Tryz.isAgg5
  z5 := Tryz.sizeOf5
  v5 := Tryz.zeroValue5
  t9 := Tryz.underlying9
  a9 := Tryz.isAgg9
  z9 := Tryz.sizeOf9
  v9 := Tryz.zeroValue9
  t46 := Tryz.underlying133
  a46 := Tryz.isAgg133
  z46 := Tryz.sizeOf133
  v46 := Tryz.zeroValue133
  t51 := Tryz.underlying136
  a51 := Tryz.isAgg136
  z51 := Tryz.sizeOf136
  v51 := Tryz.zeroValue136
  t59 := Tryz.underlying105
  a59 := Tryz.isAgg105
  z59 := Tryz.sizeOf105
  v59 := Tryz.zeroValue105
  t146 := Tryz.underlying137
  a146 := Tryz.isAgg137
  z146 := Tryz.sizeOf137
  v146 := Tryz.zeroValue137
  g1 := by kernel_rfl }
def lays146_ren : Go.Shelf.Ren := ⟨fun | 146 => 70 | 221 => 78 | 268 => 91 | 138 => 92 | 143 => 93 | 195 => 100 | 197 => 101 | 218 => 102 | 219 => 77 | 260 => 108 | 217 => 87 | 225 => 88 | 224 => 89 | 267 => 90 | 266 => 98 | 314 => 99 | n => n, fun | 9 => 9 | 31 => 37 | 3 => 3 | 4 => 4 | 0 => 0 | 105 => 139 | 21 => 21 | 5 => 5 | 46 => 133 | 119 => 154 | 139 => 157 | 138 => 156 | 146 => 137 | 51 => 136 | n => n, fun | 1 => 0 | 3 => 3 | 4 => 4 | n => n⟩
theorem lays146 : Go.Proofs.Lays.n146 Tryz.prog lays146_ren := {
  mixed := by kernel_rfl
  f138 := Tryz.func92.trans (congrArg some (by kernel_rfl))
  f143 := Tryz.func93.trans (congrArg some (by kernel_rfl))
  f146 := Tryz.func70.trans (congrArg some (by kernel_rfl))
  f195 := Tryz.func100.trans (congrArg some (by kernel_rfl))
  f197 := Tryz.func101.trans (congrArg some (by kernel_rfl))
  f217 := Tryz.func87.trans (congrArg some (by kernel_rfl))
  f218 := Tryz.func102.trans (congrArg some (by kernel_rfl))
  f219 := Tryz.func77.trans (congrArg some (by kernel_rfl))
  f221 := Tryz.func78.trans (congrArg some (by kernel_rfl))
  f224 := Tryz.func89.trans (congrArg some (by kernel_rfl))
  f225 := Tryz.func88.trans (congrArg some (by kernel_rfl))
  f260 := Tryz.func108.trans (congrArg some (by kernel_rfl))
  f266 := Tryz.func98.trans (congrArg some (by kernel_rfl))
  f267 := Tryz.func90.trans (congrArg some (by kernel_rfl))
  f268 := Tryz.func91.trans (congrArg some (by kernel_rfl))
  f314 := Tryz.func99.trans (congrArg some (by kernel_rfl))
  t0 := Tryz.underlying0
  a0 := Tryz.isAgg0
  z0 := Tryz.sizeOf0
  v0 := Tryz.zeroValue0
  t3 := Tryz.underlying3
  a3 := Tryz.isAgg3
  z3 := Tryz.sizeOf3
  v3 := Tryz.zeroValue3
  t4 := Tryz.underlying4
  a4 := Tryz.isAgg4
  z4 := Tryz.sizeOf4
  v4 := Tryz.zeroValue4
  t5 := Tryz.underlying5
  a5 := Tryz.isAgg5
  z5 := Tryz.sizeOf5
  v5 := Tryz.zeroValue5
  t9 := Tryz.underlying9
  a9 := Tryz.isAgg9
  z9 := Tryz.sizeOf9
  v9 := Tryz.zeroValue9
  t21 := Tryz.underlying21
  a21 := Tryz.isAgg21
  z21 := Tryz.sizeOf21
  v21 := Tryz.zeroValue21
  t31 := Tryz.underlying37
  a31 := Tryz.isAgg37
  z31 := Tryz.sizeOf37
  v31 := Tryz.zeroValue37
  t46 := Tryz.underlying133
  a46 := Tryz.isAgg133
  z46 := Tryz.sizeOf133
  v46 := Tryz.zeroValue133
  t51 := Tryz.underlying136
  a51 := Tryz.isAgg136
  z51 := Tryz.sizeOf136
  v51 := Tryz.zeroValue136
  t105 := Tryz.underlying139
  a105 := Tryz.isAgg139
  z105 := Tryz.sizeOf139
  v105 := Tryz.zeroValue139
  t119 := Tryz.underlying154
  a119 := Tryz.isAgg154
  z119 := Tryz.sizeOf154
  t138 := Tryz.underlying156
  a138 := Tryz.isAgg156
  z138 := Tryz.sizeOf156
  v138 := Tryz.zeroValue156
  t139 := Tryz.underlying157
  a139 := Tryz.isAgg157
  z139 := Tryz.sizeOf157
  v139 := Tryz.zeroValue157
  t146 := Tryz.underlying137
  a146 := Tryz.isAgg137
  z146 := Tryz.sizeOf137
  v146 := Tryz.zeroValue137
  g1 := by kernel_rfl
  g3 := by kernel_rfl
  g4 := by kernel_rfl }
def lays172_ren : Go.Shelf.Ren := ⟨fun | 172 => 80 | 244 => 94 | 245 => 95 | 247 => 103 | 279 => 104 | 280 => 105 | 281 => 106 | 282 => 107 | 287 => 109 | 316 => 110 | 171 => 112 | 205 => 111 | 321 => 113 | 322 => 114 | 243 => 115 | 246 => 116 | 283 => 117 | 284 => 118 | 285 => 119 | 286 => 120 | 129 => 122 | 317 => 121 | 318 => 123 | 319 => 124 | 320 => 125 | 337 => 126 | 338 => 127 | n => n, fun | 9 => 9 | 3 => 3 | 75 => 125 | 76 => 126 | 4 => 4 | 5 => 5 | 167 => 141 | 37 => 95 | 0 => 0 | 85 => 142 | 2 => 2 | 168 => 144 | 53 => 147 | 175 => 148 | 46 => 133 | 210 => 152 | 127 => 159 | 145 => 162 | 143 => 160 | 21 => 21 | 171 => 164 | 173 => 167 | 212 => 170 | 51 => 136 | 20 => 20 | 213 => 171 | 232 => 174 | 233 => 175 | 80 => 176 | n => n, fun | 15 => 1 | 16 => 2 | 17 => 5 | 18 => 6 | 19 => 7 | n => n⟩
theorem lays172 : Go.Proofs.Lays.n172 Tryz.prog lays172_ren := {
  mixed := by kernel_rfl
  f129 := Tryz.func122.trans (congrArg some (by kernel_rfl))
  f171 := Tryz.func112.trans (congrArg some (by kernel_rfl))
  f172 := Tryz.func80.trans (congrArg some (by kernel_rfl))
  f205 := Tryz.func111.trans (congrArg some (by kernel_rfl))
  f243 := Tryz.func115.trans (congrArg some (by kernel_rfl))
  f244 := Tryz.func94.trans (congrArg some (by kernel_rfl))
  f245 := Tryz.func95.trans (congrArg some (by kernel_rfl))
  f246 := Tryz.func116.trans (congrArg some (by kernel_rfl))
  f247 := Tryz.func103.trans (congrArg some (by kernel_rfl))
  f279 := Tryz.func104.trans (congrArg some (by kernel_rfl))
  f280 := Tryz.func105.trans (congrArg some (by kernel_rfl))
  f281 := Tryz.func106.trans (congrArg some (by kernel_rfl))
  f282 := Tryz.func107.trans (congrArg some (by kernel_rfl))
  f283 := Tryz.func117.trans (congrArg some (by kernel_rfl))
  f284 := Tryz.func118.trans (congrArg some (by kernel_rfl))
  f285 := Tryz.func119.trans (congrArg some (by kernel_rfl))
  f286 := Tryz.func120.trans (congrArg some (by kernel_rfl))
  f287 := Tryz.func109.trans (congrArg some (by kernel_rfl))
  f316 := Tryz.func110.trans (congrArg some (by kernel_rfl))
  f317 := Tryz.func121.trans (congrArg some (by kernel_rfl))
  f318 := Tryz.func123.trans (congrArg some (by kernel_rfl))
  f319 := Tryz.func124.trans (congrArg some (by kernel_rfl))
  f320 := Tryz.func125.trans (congrArg some (by kernel_rfl))
  f321 := Tryz.func113.trans (congrArg some (by kernel_rfl))
  f322 := Tryz.func114.trans (congrArg some (by kernel_rfl))
  f337 := Tryz.func126.trans (congrArg some (by kernel_rfl))
  f338 := Tryz.func127.trans (congrArg some (by kernel_rfl))
  t0 := Tryz.underlying0
  a0 := Tryz.isAgg0
  z0 := Tryz.sizeOf0
  v0 := Tryz.zeroValue0
  t2 := Tryz.underlying2
  a2 := Tryz.isAgg2
  z2 := Tryz.sizeOf2
  v2 := Tryz.zeroValue2
  t3 := Tryz.underlying3
  a3 := Tryz.isAgg3
  z3 := Tryz.sizeOf3
  v3 := Tryz.zeroValue3
  t4 := Tryz.underlying4
  a4 := Tryz.isAgg4
  z4 := Tryz.sizeOf4
  v4 := Tryz.zeroValue4
  t5 := Tryz.underlying5
  a5 := Tryz.isAgg5
  z5 := Tryz.sizeOf5
  v5 := Tryz.zeroValue5
  t9 := Tryz.underlying9
  a9 := Tryz.isAgg9
  z9 := Tryz.sizeOf9
  v9 := Tryz.zeroValue9
  t20 := Tryz.underlying20
  a20 := Tryz.isAgg20
  z20 := Tryz.sizeOf20
  v20 := Tryz.zeroValue20
  t21 := Tryz.underlying21
  a21 := Tryz.isAgg21
  z21 := Tryz.sizeOf21
  v21 := Tryz.zeroValue21
  t37 := Tryz.underlying95
  a37 := Tryz.isAgg95
  z37 := Tryz.sizeOf95
  v37 := Tryz.zeroValue95
  t46 := Tryz.underlying133
  a46 := Tryz.isAgg133
  z46 := Tryz.sizeOf133
  v46 := Tryz.zeroValue133
  t51 := Tryz.underlying136
  a51 := Tryz.isAgg136
  z51 := Tryz.sizeOf136
  v51 := Tryz.zeroValue136
  t53 := Tryz.underlying147
  a53 := Tryz.isAgg147
  z53 := Tryz.sizeOf147
  v53 := Tryz.zeroValue147
  t75 := Tryz.underlying125
  a75 := Tryz.isAgg125
  z75 := Tryz.sizeOf125
  v75 := Tryz.zeroValue125
  t76 := Tryz.underlying126
  a76 := Tryz.isAgg126
  z76 := Tryz.sizeOf126
  v76 := Tryz.zeroValue126
  t85 := Tryz.underlying142
  a85 := Tryz.isAgg142
  z85 := Tryz.sizeOf142
  v85 := Tryz.zeroValue142
  t127 := Tryz.underlying159
  a127 := Tryz.isAgg159
  z127 := Tryz.sizeOf159
  v127 := Tryz.zeroValue159
  t143 := Tryz.underlying160
  a143 := Tryz.isAgg160
  z143 := Tryz.sizeOf160
  v143 := Tryz.zeroValue160
  t145 := Tryz.underlying162
  a145 := Tryz.isAgg162
  z145 := Tryz.sizeOf162
  v145 := Tryz.zeroValue162
  t167 := Tryz.underlying141
  a167 := Tryz.isAgg141
  z167 := Tryz.sizeOf141
  v167 := Tryz.zeroValue141
  t168 := Tryz.underlying144
  a168 := Tryz.isAgg144
  z168 := Tryz.sizeOf144
  v168 := Tryz.zeroValue144
  t171 := Tryz.underlying164
  a171 := Tryz.isAgg164
  z171 := Tryz.sizeOf164
  v171 := Tryz.zeroValue164
  t173 := Tryz.underlying167
  a173 := Tryz.isAgg167
  z173 := Tryz.sizeOf167
  v173 := Tryz.zeroValue167
  t175 := Tryz.underlying148
  a175 := Tryz.isAgg148
  z175 := Tryz.sizeOf148
  v175 := Tryz.zeroValue148
  t210 := Tryz.underlying152
  a210 := Tryz.isAgg152
  z210 := Tryz.sizeOf152
  v210 := Tryz.zeroValue152
  t212 := Tryz.underlying170
  a212 := Tryz.isAgg170
  z212 := Tryz.sizeOf170
  v212 := Tryz.zeroValue170
  t213 := Tryz.underlying171
  a213 := Tryz.isAgg171
  z213 := Tryz.sizeOf171
  t232 := Tryz.underlying174
  a232 := Tryz.isAgg174
  z232 := Tryz.sizeOf174
  v232 := Tryz.zeroValue174
  t233 := Tryz.underlying175
  a233 := Tryz.isAgg175
  z233 := Tryz.sizeOf175
  v233 := Tryz.zeroValue175
  g15 := by kernel_rfl
  g16 := by kernel_rfl
  g17 := by kernel_rfl
  g18 := by kernel_rfl
  g19 := by kernel_rfl }

/-- The library's variable that its searches look at holds a number. -/
def MaxL (w : World) : Prop := ∃ m : Int, w.cell? ⟨0, 0, none⟩ = some (.int .i64 m)
theorem MaxL.lt {w : World} (h : MaxL w) : 0 < w.heap.size := by
  obtain ⟨m, h⟩ := h
  exact World.block_lt_of_cell? _ _ h
theorem MaxL.below {w w' : World} (h : MaxL w) (hb : Below w.heap.size w w') : MaxL w' := by
  have hl := h.lt
  obtain ⟨m, h⟩ := h
  exact ⟨m, (hb.cell (p := ⟨0, 0, none⟩) hl).trans h⟩
theorem MaxL.below' {w w' : World} {B : Nat} (h : MaxL w) (hb : Below B w w') (hB : 0 < B) : MaxL w' := by
  obtain ⟨m, h⟩ := h
  exact ⟨m, (hb.cell (p := ⟨0, 0, none⟩) hB).trans h⟩

theorem below_drewN' {B : Nat} {a w : World} (h : Below B a w) (n : Nat) : Below B a (w.drewN n) := h.trans ⟨rfl, rfl, rfl, Nat.le_refl _, fun _ _ => rfl⟩

theorem cut_at (s r : ByteArray) (a : Nat) (hr : r = s.extract a s.size) (ha : a ≤ s.size) (hs : s.size ≤ 20000) (w : World) (hm : MaxL w) :
    Calls Tryz.prog 62 #[.string r, .string ⟨#[10]⟩] w fun e w' => e = .returned (.tuple #[.string (s.extract a (nx 10 s a)), .string (bodyB s (nx 10 s a)), .bool (decide (nx 10 s a < s.size))]) ∧ Below w.heap.size w w' := by
  obtain ⟨m, hm⟩ := hm
  subst hr
  obtain ⟨e1, e2, e3⟩ := cut_nx s a ha
  refine (Any.strings_Cut lays145 (s.extract a s.size) ⟨#[10]⟩ m w (by rw [size_ext]; omega) hm).mono ?_
  rintro e w' ⟨rfl, n, rfl⟩
  refine ⟨?_, below_drewN' (Below.refl _ _) n⟩
  have e1' : (⟨(Lib.cut (s.extract a s.size).data.toList (⟨#[10]⟩ : ByteArray).data.toList).1.toArray⟩ : ByteArray) = s.extract a (nx 10 s a) := e1
  have e2' : (⟨(Lib.cut (s.extract a s.size).data.toList (⟨#[10]⟩ : ByteArray).data.toList).2.1.toArray⟩ : ByteArray) = bodyB s (nx 10 s a) := e2
  have e3' : (Lib.cut (s.extract a s.size).data.toList (⟨#[10]⟩ : ByteArray).data.toList).2.2 = decide (nx 10 s a < s.size) := e3
  rw [e1', e2', e3']

theorem split_at' (s : ByteArray) (hs : s.size ≤ 20000) (w : World) (hm : MaxL w) :
    Calls Tryz.prog 70 #[.string s, .string ⟨#[32]⟩] w fun e w' => ∃ ps : List ByteArray, Hid (full ps = wds s) ∧ ps.length ≤ s.size + 1 ∧ e = .returned (.slice (some ⟨w.heap.size, 0, none⟩) ps.length ps.length) ∧ w' = w.alloc (.cells (ps.map Value.string).toArray 9) := by
  obtain ⟨m, hm⟩ := hm
  have h1 : 1 ≤ (⟨#[32]⟩ : ByteArray).size := Nat.le_refl _
  refine (Any.strings_Split lays146 (by kernel_rfl) s ⟨#[32]⟩ m w (by omega) hm h1).mono ?_
  rintro e w' ⟨rfl, rfl⟩
  have hl := Lib.splitB_all ⟨#[32]⟩ h1 0 _ s rfl
  have hc := Lib.countB_le ⟨#[32]⟩ h1 s.size s (Nat.le_refl _)
  refine ⟨Lib.splitB ⟨#[32]⟩ 0 (Lib.countB s ⟨#[32]⟩) s, hide (full_split s), by omega, by rw [hl], rfl⟩

theorem dec_take (t : ByteArray) (h : ∀ i, i < t.size → 48 ≤ (bt t i).toNat ∧ (bt t i).toNat ≤ 57) : ∀ k, k ≤ t.size → Lib.decFrom 0 (t.data.toList.take k) = some (valTo t k)
  | 0, _ => by simp [Lib.decFrom, valTo]
  | k + 1, hk => by
    refine Lib.decFrom_take t.data.toList k 0 (valTo t k) (bt t k) _ (dec_take t h k (by omega)) (bt_some (by omega)) ?_
    unfold Lib.digitVal
    rw [if_pos (h k (by omega))]

theorem atoi_lev (t : ByteArray) (h : LevW t) : Lib.atoi t.data.toList = some (valTo t t.size : Int) := by
  obtain ⟨h1, h2, h3⟩ := h
  have hd := dec_take t h3 t.size (Nat.le_refl _)
  rw [List.take_of_length_le (by exact Nat.le_refl _)] at hd
  have h0 := bt_some (s := t) (j := 0) (by omega)
  obtain ⟨b, r, hl⟩ : ∃ b r, t.data.toList = b :: r := by
    cases hx : t.data.toList with
    | nil => rw [hx] at h0; simp at h0
    | cons b r => exact ⟨b, r, rfl⟩
  rw [hl] at hd h0 ⊢
  have hb : b = bt t 0 := by simpa using h0
  have hz := h3 0 (by omega)
  rw [← hb] at hz
  have n45 : (b == 45) = false := by
    simp only [beq_eq_false_iff_ne, ne_eq]; rintro rfl; exact absurd hz.1 (by decide)
  have n43 : (b == 43) = false := by
    simp only [beq_eq_false_iff_ne, ne_eq]; rintro rfl; exact absurd hz.1 (by decide)
  unfold Lib.atoi Lib.decNat
  simp [n45, n43, hd]

theorem atoi_at (t : ByteArray) (h : levB t = true) (w : World) :
    Calls Tryz.prog 80 #[.string t] w fun e w' => e = .returned (.tuple #[.int .i64 (valTo t t.size : Int), .nilIface]) ∧ Below w.heap.size w w' := by
  have hl := (levB_iff t).1 h
  refine (Any.strconv_Atoi lays172 t _ (by have := hl.2.1; omega) (atoi_lev t hl) w).mono ?_
  rintro e w' ⟨rfl, u, rfl⟩
  exact ⟨rfl, Joins.below_bytesWorld _ _ _ _ (Nat.le_refl _)⟩
end Go.Proofs.YtokabkhnidlcnabGreatDoor
