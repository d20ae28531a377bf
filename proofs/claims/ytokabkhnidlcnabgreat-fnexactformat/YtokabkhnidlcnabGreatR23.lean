import Derived.Test.YtokabkhnidlcnabGreatR19
import Derived.Test.YtokabkhnidlcnabGreatR22

/-
  Walks: the specification's tree of a row of tokens: roots.
-/
namespace Go.Proofs.YtokabkhnidlcnabGreat
set_option maxRecDepth 100000
set_option linter.unusedSimpArgs false
set_option linter.unusedVariables false
open Go.RowKit

set_option maxHeartbeats 4000000 in
theorem lb_bad1 (b off cap gt ot ct gr cr lo hi root : Nat) (xs : List OpR) (ts : List TokR) (us : List Int) (B : Nat) (u : Value) (ns : List NodeR) (w : World) (hm : xs.length ≤ 1048576) (hsx : Sized xs) (hE : BE w B b off gt ot gr xs ts us) (hF : TF xs ts us) (hlr : lo ≤ root) (hrh : root < hi) (hhi : hi ≤ ts.length) (hR : rootI (rtF xs (sgs xs ts lo (hi - lo)) lo 0 none) = (root : Int))
    (hrow : RowV w B u ns) (hlen : ns.length + (hi - lo) ≤ 90000) (hro : roleTo xs ts root = 1) (hne : root ≠ lo) :
    Calls Tryz.prog 26 #[.agg #[.slice (some ⟨b, off, none⟩) xs.length cap], .slice (some ⟨gt, ot, none⟩) ts.length ct, .slice (some ⟨gr, 0, none⟩) us.length cr, .int .i64 (lo : Int), .int .i64 (hi : Int), u] w (BldPost w B u ns none (hi - lo)) := by
  have HX := root_calls (cap := cap) (ct := ct) (cr := cr) hm hE hF (by omega) hhi hR
  have hrI : (root : Int) < (ts.length : Int) := by omega
  have hln : ts.length ≤ 100000 := hF.len
  have hul : us.length = ts.length := by rw [hF.us, rolesTo_len]
  have hrU : (root : Int) < (us.length : Int) := by omega
  have HE := hide hE
  obtain ⟨h1, h2, h3, h4, h5, h6, h7⟩ := hE
  have k2 := (h3 root (by omega)).2.2
  have kr := h5.2 root (by omega)
  rw [hF.us, atI_roles (by omega), hro] at kr
  have hB1 := below1 w (.cells #[.slice (some ⟨b, off, none⟩) xs.length cap] 33)
  have HROW := hide hrow
  have HUB := hide hrow.base
  have hne0 : ∀ x, w.heap.size ≤ x → u.ownBlock ≠ some x := fun x hx e => by have := World.ownsRow.lt hrow _ e; omega
  have HNE := hide hne0
  have hw4 : gt < w.heap.size := by omega
  have hw6 : gr < w.heap.size := by omega
  have er : decide ((root : Int) < 0) = false := by rw [decide_eq_false_iff_not]; omega
  have eN : ((root : Int) != (lo : Int)) = true := by simp; omega
  clear hrow h1 h3 h5 hF hR hro hne0 hul
  go_enter Tryz.func26, Tryz.ntmps26
  go_wp2_with fail
  refine HX.mono ?_
  clear HX
  rintro e w1 ⟨rfl, hb1⟩
  have bel1 : Below w.heap.size w w1 := hB1.trans (hb1.mono hB1.size)
  have z1 : w.heap.size + 1 ≤ w1.heap.size := by have := hb1.size; simp at this; omega
  have t1 : w1.cell? ⟨w.heap.size, 0, none⟩ = some (.slice (some ⟨b, off, none⟩) xs.length cap) := (hb1.cell (p := ⟨w.heap.size, 0, none⟩) (by simp)).trans (by simp [go_sem])
  replace k2 := (bel1.cell (p := ⟨gt, ot + root * 3 + 2, none⟩) hw4).trans k2
  replace kr := (bel1.cell (p := ⟨gr, root, none⟩) hw6).trans kr
  have hgl : gt < w1.heap.size := by omega
  have hgn : gt ≠ w1.heap.size := by omega
  have hrl : gr < w1.heap.size := by omega
  have hrn : gr ≠ w1.heap.size := by omega
  have hNn : w.heap.size ≠ w1.heap.size := by omega
  clear hb1 hB1
  go_wp2_with fail
  go_region_held (fun w' => w'.cell? ⟨gt, ot + root * 3 + 2, none⟩ = some (.string (atT ts root).t) ∧ w'.cell? ⟨gr, root, none⟩ = some (.int .i64 1)) (go_keep) (fail)
  have HB2 := hide (show Below w.heap.size w (w1.alloc (.cells #[.int .i64 3, .string (atT ts root).t, .int .i64 0, .int .i64 0] 115)).drew from (bel1.alloc bel1.size _).drew)
  go_wp2_with fail
  refine bodyPost_ret (v := .tuple #[u, .bool false]) (by simp [results, Tryz.results26, go_sem]) rfl ⟨u, ns, false, rfl, hide ((unhide HROW).below (unhide HB2)), hide (grown_belN (unhide HB2) _), hide (Or.inl rfl), by omega, hide (Or.inr ⟨rfl, rfl⟩)⟩

set_option maxHeartbeats 4000000 in
theorem lb_bad3 (b off cap gt ot ct gr cr lo hi root : Nat) (xs : List OpR) (ts : List TokR) (us : List Int) (B : Nat) (u : Value) (ns : List NodeR) (w : World) (hm : xs.length ≤ 1048576) (hsx : Sized xs) (hE : BE w B b off gt ot gr xs ts us) (hF : TF xs ts us) (hlr : lo ≤ root) (hrh : root < hi) (hhi : hi ≤ ts.length) (hR : rootI (rtF xs (sgs xs ts lo (hi - lo)) lo 0 none) = (root : Int))
    (hrow : RowV w B u ns) (hlen : ns.length + (hi - lo) ≤ 90000) (hro : roleTo xs ts root = 3) (hne : root + 1 ≠ hi) :
    Calls Tryz.prog 26 #[.agg #[.slice (some ⟨b, off, none⟩) xs.length cap], .slice (some ⟨gt, ot, none⟩) ts.length ct, .slice (some ⟨gr, 0, none⟩) us.length cr, .int .i64 (lo : Int), .int .i64 (hi : Int), u] w (BldPost w B u ns none (hi - lo)) := by
  have HX := root_calls (cap := cap) (ct := ct) (cr := cr) hm hE hF (by omega) hhi hR
  have hrI : (root : Int) < (ts.length : Int) := by omega
  have hln : ts.length ≤ 100000 := hF.len
  have hul : us.length = ts.length := by rw [hF.us, rolesTo_len]
  have hrU : (root : Int) < (us.length : Int) := by omega
  have HE := hide hE
  obtain ⟨h1, h2, h3, h4, h5, h6, h7⟩ := hE
  have k2 := (h3 root (by omega)).2.2
  have kr := h5.2 root (by omega)
  rw [hF.us, atI_roles (by omega), hro] at kr
  have hB1 := below1 w (.cells #[.slice (some ⟨b, off, none⟩) xs.length cap] 33)
  have HROW := hide hrow
  have HUB := hide hrow.base
  have hne0 : ∀ x, w.heap.size ≤ x → u.ownBlock ≠ some x := fun x hx e => by have := World.ownsRow.lt hrow _ e; omega
  have HNE := hide hne0
  have hw4 : gt < w.heap.size := by omega
  have hw6 : gr < w.heap.size := by omega
  have er : decide ((root : Int) < 0) = false := by rw [decide_eq_false_iff_not]; omega
  have eN : ((root : Int) != (hi : Int) - 1) = true := by simp; omega
  clear hrow h1 h3 h5 hF hR hro hne0 hul
  go_enter Tryz.func26, Tryz.ntmps26
  go_wp2_with fail
  refine HX.mono ?_
  clear HX
  rintro e w1 ⟨rfl, hb1⟩
  have bel1 : Below w.heap.size w w1 := hB1.trans (hb1.mono hB1.size)
  have z1 : w.heap.size + 1 ≤ w1.heap.size := by have := hb1.size; simp at this; omega
  have t1 : w1.cell? ⟨w.heap.size, 0, none⟩ = some (.slice (some ⟨b, off, none⟩) xs.length cap) := (hb1.cell (p := ⟨w.heap.size, 0, none⟩) (by simp)).trans (by simp [go_sem])
  replace k2 := (bel1.cell (p := ⟨gt, ot + root * 3 + 2, none⟩) hw4).trans k2
  replace kr := (bel1.cell (p := ⟨gr, root, none⟩) hw6).trans kr
  have hgl : gt < w1.heap.size := by omega
  have hgn : gt ≠ w1.heap.size := by omega
  have hrl : gr < w1.heap.size := by omega
  have hrn : gr ≠ w1.heap.size := by omega
  have hNn : w.heap.size ≠ w1.heap.size := by omega
  clear hb1 hB1
  go_wp2_with fail
  go_region_held (fun w' => w'.cell? ⟨gt, ot + root * 3 + 2, none⟩ = some (.string (atT ts root).t) ∧ w'.cell? ⟨gr, root, none⟩ = some (.int .i64 3)) (go_keep) (fail)
  have HB2 := hide (show Below w.heap.size w (w1.alloc (.cells #[.int .i64 5, .string (atT ts root).t, .int .i64 0, .int .i64 0] 115)).drew from (bel1.alloc bel1.size _).drew)
  go_wp2_with fail
  refine bodyPost_ret (v := .tuple #[u, .bool false]) (by simp [results, Tryz.results26, go_sem]) rfl ⟨u, ns, false, rfl, hide ((unhide HROW).below (unhide HB2)), hide (grown_belN (unhide HB2) _), hide (Or.inl rfl), by omega, hide (Or.inr ⟨rfl, rfl⟩)⟩

set_option maxHeartbeats 4000000 in
theorem lb_pre (b off cap gt ot ct gr cr lo hi root : Nat) (xs : List OpR) (ts : List TokR) (us : List Int) (B : Nat) (u : Value) (ns : List NodeR) (w : World) (hm : xs.length ≤ 1048576) (hsx : Sized xs) (hE : BE w B b off gt ot gr xs ts us) (hF : TF xs ts us) (hlr : lo ≤ root) (hrh : root < hi) (hhi : hi ≤ ts.length) (hR : rootI (rtF xs (sgs xs ts lo (hi - lo)) lo 0 none) = (root : Int))
    (hrow : RowV w B u ns) (hlen : ns.length + (hi - lo) ≤ 90000) (hro : roleTo xs ts root = 1) (hne : root = lo) (r1 : Option ET) (hgd : ∀ T, r1 = some T → GoodT xs T)
    (hc : ∀ W, BE W B b off gt ot gr xs ts us → RowV W B u ns → Calls Tryz.prog 26 #[.agg #[.slice (some ⟨b, off, none⟩) xs.length cap], .slice (some ⟨gt, ot, none⟩) ts.length ct, .slice (some ⟨gr, 0, none⟩) us.length cr, .int .i64 ((lo : Int) + 1), .int .i64 (hi : Int), u] W (BldPost W B u ns r1 (hi - lo - 1)))
    (res : Option ET) (hres : res = (match r1 with
      | none => none
      | some T => if fitT xs 3 (atT ts root).t T .nil then some (.node 3 0 (atT ts root).t T .nil) else none)) :
    Calls Tryz.prog 26 #[.agg #[.slice (some ⟨b, off, none⟩) xs.length cap], .slice (some ⟨gt, ot, none⟩) ts.length ct, .slice (some ⟨gr, 0, none⟩) us.length cr, .int .i64 (lo : Int), .int .i64 (hi : Int), u] w (BldPost w B u ns res (hi - lo)) := by
  obtain ⟨i0, hi0, hz0, hz1, hz2⟩ := info_parts' infoN
  have HI := hide hi0
  have HZ := hide (And.intro hz0 (And.intro hz1 hz2))
  clear hi0 hz0 hz1 hz2
  have HX := root_calls (cap := cap) (ct := ct) (cr := cr) hm hE hF (by omega) hhi hR
  have hrI : (root : Int) < (ts.length : Int) := by omega
  have hln : ts.length ≤ 100000 := hF.len
  have hul : us.length = ts.length := by rw [hF.us, rolesTo_len]
  have hrU : (root : Int) < (us.length : Int) := by omega
  have HE := hide hE
  obtain ⟨h1, h2, h3, h4, h5, h6, h7⟩ := hE
  have k2 := (h3 root (by omega)).2.2
  have kr := h5.2 root (by omega)
  rw [hF.us, atI_roles (by omega), hro] at kr
  have hB1 := below1 w (.cells #[.slice (some ⟨b, off, none⟩) xs.length cap] 33)
  have HROW := hide hrow
  have HUB := hide hrow.base
  have hne0 : ∀ x, w.heap.size ≤ x → u.ownBlock ≠ some x := fun x hx e => by have := World.ownsRow.lt hrow _ e; omega
  have HNE := hide hne0
  have hw4 : gt < w.heap.size := by omega
  have hw6 : gr < w.heap.size := by omega
  have er : decide ((root : Int) < 0) = false := by rw [decide_eq_false_iff_not]; omega
  have eN : ((root : Int) != (lo : Int)) = false := by simp; omega
  have HC := hide hc
  have HGD := hide hgd
  have HRES := hide hres
  have HSX := hide hsx
  obtain ⟨j, hfj⟩ : ∃ j, fnd xs (atT ts root).t (((3 : Nat) : Int) - 2) = some j := by
    rcases (hF.all root (by omega)).1 with ⟨_, _, _, j, h, _⟩ | ⟨_, h0, _⟩
    · rw [hro] at h; exact ⟨j, h⟩
    · omega
  have HFJ := hide hfj
  clear hrow h1 h3 h5 hF hR hro hne0 hul hc hgd hres hsx hfj hne
  go_enter Tryz.func26, Tryz.ntmps26
  go_wp2_with fail
  refine HX.mono ?_
  clear HX
  rintro e w1 ⟨rfl, hb1⟩
  have bel1 : Below w.heap.size w w1 := hB1.trans (hb1.mono hB1.size)
  have z1 : w.heap.size + 1 ≤ w1.heap.size := by have := hb1.size; simp at this; omega
  have t1 : w1.cell? ⟨w.heap.size, 0, none⟩ = some (.slice (some ⟨b, off, none⟩) xs.length cap) := (hb1.cell (p := ⟨w.heap.size, 0, none⟩) (by simp)).trans (by simp [go_sem])
  replace k2 := (bel1.cell (p := ⟨gt, ot + root * 3 + 2, none⟩) hw4).trans k2
  replace kr := (bel1.cell (p := ⟨gr, root, none⟩) hw6).trans kr
  have hgl : gt < w1.heap.size := by omega
  have hgn : gt ≠ w1.heap.size := by omega
  have hrl : gr < w1.heap.size := by omega
  have hrn : gr ≠ w1.heap.size := by omega
  have hNn : w.heap.size ≠ w1.heap.size := by omega
  clear hb1 hB1
  go_wp2_with fail
  go_region_held (fun w' => w'.cell? ⟨gt, ot + root * 3 + 2, none⟩ = some (.string (atT ts root).t) ∧ w'.cell? ⟨gr, root, none⟩ = some (.int .i64 1)) (go_keep) (fail)
  have hwK : IntKind.i64.wrap 3 = 3 := by rfl
  rw [hwK]
  clear hwK
  obtain ⟨W2, hW2⟩ : ∃ W2, W2 = (w1.alloc (.cells #[.int .i64 3, .string (atT ts root).t, .int .i64 0, .int .i64 0] 115)).drew := ⟨_, rfl⟩
  have hbW : Below w1.heap.size w1 W2 := by rw [hW2]; exact (below1 _ _).drew
  have bel2 : Below w.heap.size w W2 := bel1.trans (hbW.mono bel1.size)
  have HN2 := hide (show NodAt W2 w1.heap.size ⟨3, (atT ts root).t, 0, 0⟩ by
    rw [hW2]
    exact NodAt.below (w := w1.alloc (.cells #[.int .i64 3, .string (atT ts root).t, .int .i64 0, .int .i64 0] 115)) ⟨by simp [go_sem], by simp [go_sem], by simp [go_sem], by simp [go_sem], by simp [go_sem], by simp [go_sem]⟩ (Below.refl _ _).drew)
  have t2 : W2.cell? ⟨w.heap.size, 0, none⟩ = some (.slice (some ⟨b, off, none⟩) xs.length cap) := (hbW.cell (p := ⟨w.heap.size, 0, none⟩) (by simp only; omega)).trans t1
  have z2 : w1.heap.size + 1 ≤ W2.heap.size := by rw [hW2]; show _ ≤ (w1.alloc _).heap.size; simp
  obtain ⟨n0, n1, n2, n3, _, _⟩ := unhide HN2
  simp only at n0 n1 n2 n3
  have HX := (unhide HC) W2 ((unhide HE).below bel2) ((unhide HROW).below bel2)
  rw [← hW2]
  clear hbW k2 kr t1 hW2 HC HROW
  go_wp2_with fail
  refine HX.mono ?_
  clear HX n0 n1 n2 n3
  rintro e w3 ⟨u1, vs1, ok, rfl, HR3, HG3, HA3, hl3, HO3⟩
  obtain ⟨a1, c1, rfl⟩ := row_slice (unhide HR3)
  have HG := hide (grown_below bel2 (unhide HG3))
  have HA := hide (show (Value.slice a1 vs1.length c1).ownBlock = u.ownBlock ∨ ∃ k, (Value.slice a1 vs1.length c1).ownBlock = some k ∧ w.heap.size ≤ k from (unhide HA3).imp id (fun ⟨k, h, h'⟩ => ⟨k, h, by omega⟩))
  have HnB := hide (show (Value.slice a1 vs1.length c1).ownBlock ≠ some w1.heap.size from fun e => by
    rcases unhide HA3 with h | ⟨k, h, h'⟩
    · exact (unhide HNE) w1.heap.size (by omega) (h.symm.trans e)
    · rw [h] at e; injection e with e; omega)
  have HnT := hide (show (Value.slice a1 vs1.length c1).ownBlock ≠ some w.heap.size from fun e => by
    rcases unhide HA3 with h | ⟨k, h, h'⟩
    · exact (unhide HNE) w.heap.size (by omega) (h.symm.trans e)
    · rw [h] at e; injection e with e; omega)
  replace HN2 := hide ((unhide HN2).grown (unhide HG3) ((unhide HNE) _ (by omega)))
  have t3 : w3.cell? ⟨w.heap.size, 0, none⟩ = some (.slice (some ⟨b, off, none⟩) xs.length cap) := (grown_cell (unhide HG3) (b := w.heap.size) (by omega) ((unhide HNE) _ (by omega)) 0).trans t2
  have z3 := (unhide HG3).size
  obtain ⟨n0, n1, n2, n3, n4, n5⟩ := unhide HN2
  simp only at n0 n1 n2 n3
  clear HG3 HA3 t2
  rcases unhide HO3 with ⟨T, hr1, rfl, hvs⟩ | ⟨hr1, rfl⟩
  case inr =>
    have HOUT := hide (show res = none by rw [unhide HRES, hr1])
    clear hr1 HO3
    go_wp2_with fail
    refine bodyPost_ret (v := .tuple #[.slice a1 vs1.length c1, .bool false]) (by simp [results, Tryz.results26, go_sem]) rfl ⟨_, vs1, false, rfl, HR3, HG, HA, by omega, hide (Or.inr ⟨unhide HOUT, rfl⟩)⟩
  have HT := hide ((unhide HGD) T hr1)
  have HVS := hide hvs
  have hv1 : 1 ≤ vs1.length := (kid_last (unhide HT) ns [] hvs).1
  have HRT := hide (show res = if fitT xs 3 (atT ts root).t T .nil then some (.node 3 0 (atT ts root).t T .nil) else none by rw [unhide HRES, hr1])
  clear hr1 hvs HO3 HRES HGD
  have HM := hide ((unhide HN2).set2 ((vs1.length : Int) - 1))
  have HR3' := hide ((unhide HR3).other (g := w1.heap.size) (j := 2) (.int .i64 ((vs1.length : Int) - 1)) (unhide HnB))
  have t4 : (w3.setCell ⟨w1.heap.size, 2, none⟩ (.int .i64 ((vs1.length : Int) - 1))).cell? ⟨w.heap.size, 0, none⟩ = some (.slice (some ⟨b, off, none⟩) xs.length cap) := (World.cell?_setCell_other w3 ⟨w1.heap.size, 2, none⟩ ⟨w.heap.size, 0, none⟩ (.int .i64 ((vs1.length : Int) - 1)) (fun x => by injection x with x1; omega)).trans t3
  have HGs := hide (grown_trans (unhide HG) (⟨rfl, rfl, rfl, by simp [World.setCell], fun i _ hi => Below.heap_setCell _ _ _ _ (fun e => hi (by rw [e]))⟩ : w3.grownBy (w3.setCell ⟨w1.heap.size, 2, none⟩ (.int .i64 ((vs1.length : Int) - 1))) (some w1.heap.size)) (Or.inr ⟨_, rfl, by omega⟩))
  obtain ⟨m0, m1, m2, m3, _, _⟩ := unhide HM
  simp only at m0 m1 m2 m3
  clear HG HR3 n0 n1 n3 n5 HN2 t3
  go_wp2_with (at_builtin; refine wpList_append_own_at _ rfl (.tmp 152) (.tmp 154) 26 rfl B 115 i0 _ 4 40 Tryz.underlying26 (unhide HI) (unhide HZ).1 (unhide HZ).2.1 (unhide HZ).2.2 rfl (by decide) _ vs1.length (cellsN vs1) rfl ((unhide HR3').below (below1 _ _)) ⟨w3.heap.size, 0, none⟩ 1 1 (cellsN [⟨3, (atT ts root).t, (vs1.length : Int) - 1, 0⟩]) rfl rfl (by simpa using new_newsAt (w3.setCell ⟨w1.heap.size, 2, none⟩ (.int .i64 ((vs1.length : Int) - 1))) w3.heap.size ⟨3, (atT ts root).t, (vs1.length : Int) - 1, 0⟩ (by simp [World.setCell])) (cellsN_one' _) ?b1 ?b2 ?b3 ?next)
  case b1 => unfold maxLen; omega
  case b2 => omega
  case b3 => first | omega | (have := (unhide HGs).size; simp at this ⊢; omega)
  case next =>
    intro v4 w4 hown4 hgrow4 hnil4 hat4
    obtain ⟨vs4, hvs4⟩ : ∃ vs4, vs4 = vs1 ++ [(⟨3, (atT ts root).t, (vs1.length : Int) - 1, 0⟩ : NodeR)] := ⟨_, rfl⟩
    have hl4 : vs4.length = vs1.length + 1 := by rw [hvs4]; simp
    have HR4 := hide (show RowV w4 B v4 vs4 by
      rw [hvs4]
      unfold RowV
      rw [cellsN_append, List.length_append]
      exact hown4)
    have HG5 := hide (grown_below (below1 (w3.setCell ⟨w1.heap.size, 2, none⟩ (.int .i64 ((vs1.length : Int) - 1))) _) hgrow4)
    have HG4 := hide (grown_trans (unhide HGs) (unhide HG5) (unhide HA))
    have HA4 := hide (grown_at (unhide HGs) (unhide HA) v4.ownBlock (hat4.imp id (fun h => ⟨_, h, by first | exact Nat.le_refl _ | simp⟩)))
    have t5 : w4.cell? ⟨w.heap.size, 0, none⟩ = some (.slice (some ⟨b, off, none⟩) xs.length cap) := (grown_cell (unhide HG5) (b := w.heap.size) (block_lt_of_cell t4) (unhide HnT) 0).trans t4
    have HE4 := hide ((unhide HE).grown (unhide HG4) (unhide HUB))
    obtain ⟨g4, c4, rfl, hg4, hfl⟩ := rowV_owned (unhide HR4) (by omega)
    have hX4 := unhide HE4
    have hat : atN vs4 vs1.length = ⟨3, (atT ts root).t, (vs1.length : Int) - 1, 0⟩ := by rw [hvs4]; exact atN_end rfl
    have hkd := kid_last (unhide HT) ns [⟨3, (atT ts root).t, (vs1.length : Int) - 1, 0⟩] (unhide HVS)
    rw [← hvs4] at hkd
    have HX := l3Fits_at b off cap g4 0 c4 vs1.length xs vs4 w4 hm (by omega) hX4.1 (unhide HSX) (by have := hX4.2.2.2.2.2.2; have := hX4.2.1; omega) hfl.2.2 hfl.1 (by omega) (by rw [hat]; unfold isOpN; simp only; omega) j (by rw [hat]; exact unhide HFJ) (vs1.length - 1) 0 (by rw [hat]; simp only; omega) (by rw [hat]; rfl) (by omega) (by omega) (by rw [hat]; exact Or.inl rfl) hkd.2.2 (fun h => by rw [hat] at h; simp [kids] at h)
    have hFI := fit_one (q := 3) (unhide HT) (by omega) (unhide HFJ) ns (unhide HVS)
    have e6 : ((vs1.length : Nat) : Int) = (vs4.length : Int) - 1 := by omega
    have HFI := hide (show FitN xs vs4 vs1.length ↔ fitT xs 3 (atT ts root).t T .nil = true by rw [hvs4]; exact hFI)
    have HV4 := hide (show vs4 = ns ++ nd (.node 3 0 (atT ts root).t T .nil) ns.length by rw [hvs4, nd_one (b := 3) rfl, ← unhide HVS]; rfl)
    rw [e6] at HX
    have hl5 : vs4.length ≤ ns.length + (hi - lo) := by omega
    clear hown4 hgrow4 hnil4 hat4 HGs HG5 hvs4 hat hkd hX4 hfl m0 m1 m2 m3 HM hFI e6 hl4
    go_wp2_with fail
    refine HX.mono ?_
    clear HX
    rintro e w5 ⟨⟨v, rfl, hv⟩, hb5⟩
    have HG6 := hide (grown_trans (unhide HG4) (grown_belN hb5 u.ownBlock) (Or.inl rfl))
    have HR6 := hide ((unhide HR4).below hb5)
    have HV := hide hv
    clear hb5 hv
    go_wp2_with fail
    refine bodyPost_ret (v := .tuple #[.slice (some ⟨g4, 0, none⟩) vs4.length c4, .bool v]) (by simp [results, Tryz.results26, go_sem]) rfl ⟨_, vs4, v, rfl, HR6, HG6, HA4, hl5, hide ?_⟩
    have hvv : v = true ↔ fitT xs 3 (atT ts root).t T .nil = true := (unhide HV).trans (unhide HFI)
    rw [unhide HRT]
    cases v with
    | true =>
      rw [if_pos (hvv.1 rfl)]
      exact Or.inl ⟨_, rfl, rfl, unhide HV4⟩
    | false =>
      rw [if_neg (fun h => Bool.false_ne_true (hvv.2 h))]
      exact Or.inr ⟨rfl, rfl⟩

set_option maxHeartbeats 4000000 in
theorem lb_post (b off cap gt ot ct gr cr lo hi root : Nat) (xs : List OpR) (ts : List TokR) (us : List Int) (B : Nat) (u : Value) (ns : List NodeR) (w : World) (hm : xs.length ≤ 1048576) (hsx : Sized xs) (hE : BE w B b off gt ot gr xs ts us) (hF : TF xs ts us) (hlr : lo ≤ root) (hrh : root < hi) (hhi : hi ≤ ts.length) (hR : rootI (rtF xs (sgs xs ts lo (hi - lo)) lo 0 none) = (root : Int))
    (hrow : RowV w B u ns) (hlen : ns.length + (hi - lo) ≤ 90000) (hro : roleTo xs ts root = 3) (hne : root + 1 = hi) (r1 : Option ET) (hgd : ∀ T, r1 = some T → GoodT xs T)
    (hc : ∀ W, BE W B b off gt ot gr xs ts us → RowV W B u ns → Calls Tryz.prog 26 #[.agg #[.slice (some ⟨b, off, none⟩) xs.length cap], .slice (some ⟨gt, ot, none⟩) ts.length ct, .slice (some ⟨gr, 0, none⟩) us.length cr, .int .i64 (lo : Int), .int .i64 (root : Int), u] W (BldPost W B u ns r1 (hi - lo - 1)))
    (res : Option ET) (hres : res = (match r1 with
      | none => none
      | some T => if fitT xs 5 (atT ts root).t T .nil then some (.node 5 0 (atT ts root).t T .nil) else none)) :
    Calls Tryz.prog 26 #[.agg #[.slice (some ⟨b, off, none⟩) xs.length cap], .slice (some ⟨gt, ot, none⟩) ts.length ct, .slice (some ⟨gr, 0, none⟩) us.length cr, .int .i64 (lo : Int), .int .i64 (hi : Int), u] w (BldPost w B u ns res (hi - lo)) := by
  obtain ⟨i0, hi0, hz0, hz1, hz2⟩ := info_parts' infoN
  have HI := hide hi0
  have HZ := hide (And.intro hz0 (And.intro hz1 hz2))
  clear hi0 hz0 hz1 hz2
  have HX := root_calls (cap := cap) (ct := ct) (cr := cr) hm hE hF (by omega) hhi hR
  have hrI : (root : Int) < (ts.length : Int) := by omega
  have hln : ts.length ≤ 100000 := hF.len
  have hul : us.length = ts.length := by rw [hF.us, rolesTo_len]
  have hrU : (root : Int) < (us.length : Int) := by omega
  have HE := hide hE
  obtain ⟨h1, h2, h3, h4, h5, h6, h7⟩ := hE
  have k2 := (h3 root (by omega)).2.2
  have kr := h5.2 root (by omega)
  rw [hF.us, atI_roles (by omega), hro] at kr
  have hB1 := below1 w (.cells #[.slice (some ⟨b, off, none⟩) xs.length cap] 33)
  have HROW := hide hrow
  have HUB := hide hrow.base
  have hne0 : ∀ x, w.heap.size ≤ x → u.ownBlock ≠ some x := fun x hx e => by have := World.ownsRow.lt hrow _ e; omega
  have HNE := hide hne0
  have hw4 : gt < w.heap.size := by omega
  have hw6 : gr < w.heap.size := by omega
  have er : decide ((root : Int) < 0) = false := by rw [decide_eq_false_iff_not]; omega
  have eN : ((root : Int) != (hi : Int) - 1) = false := by simp; omega
  have HC := hide hc
  have HGD := hide hgd
  have HRES := hide hres
  have HSX := hide hsx
  obtain ⟨j, hfj⟩ : ∃ j, fnd xs (atT ts root).t (((5 : Nat) : Int) - 2) = some j := by
    rcases (hF.all root (by omega)).1 with ⟨_, _, _, j, h, _⟩ | ⟨_, h0, _⟩
    · rw [hro] at h; exact ⟨j, h⟩
    · omega
  have HFJ := hide hfj
  clear hrow h1 h3 h5 hF hR hro hne0 hul hc hgd hres hsx hfj hne
  go_enter Tryz.func26, Tryz.ntmps26
  go_wp2_with fail
  refine HX.mono ?_
  clear HX
  rintro e w1 ⟨rfl, hb1⟩
  have bel1 : Below w.heap.size w w1 := hB1.trans (hb1.mono hB1.size)
  have z1 : w.heap.size + 1 ≤ w1.heap.size := by have := hb1.size; simp at this; omega
  have t1 : w1.cell? ⟨w.heap.size, 0, none⟩ = some (.slice (some ⟨b, off, none⟩) xs.length cap) := (hb1.cell (p := ⟨w.heap.size, 0, none⟩) (by simp)).trans (by simp [go_sem])
  replace k2 := (bel1.cell (p := ⟨gt, ot + root * 3 + 2, none⟩) hw4).trans k2
  replace kr := (bel1.cell (p := ⟨gr, root, none⟩) hw6).trans kr
  have hgl : gt < w1.heap.size := by omega
  have hgn : gt ≠ w1.heap.size := by omega
  have hrl : gr < w1.heap.size := by omega
  have hrn : gr ≠ w1.heap.size := by omega
  have hNn : w.heap.size ≠ w1.heap.size := by omega
  clear hb1 hB1
  go_wp2_with fail
  go_region_held (fun w' => w'.cell? ⟨gt, ot + root * 3 + 2, none⟩ = some (.string (atT ts root).t) ∧ w'.cell? ⟨gr, root, none⟩ = some (.int .i64 3)) (go_keep) (fail)
  have hwK : IntKind.i64.wrap 5 = 5 := by rfl
  rw [hwK]
  clear hwK
  obtain ⟨W2, hW2⟩ : ∃ W2, W2 = (w1.alloc (.cells #[.int .i64 5, .string (atT ts root).t, .int .i64 0, .int .i64 0] 115)).drew := ⟨_, rfl⟩
  have hbW : Below w1.heap.size w1 W2 := by rw [hW2]; exact (below1 _ _).drew
  have bel2 : Below w.heap.size w W2 := bel1.trans (hbW.mono bel1.size)
  have HN2 := hide (show NodAt W2 w1.heap.size ⟨5, (atT ts root).t, 0, 0⟩ by
    rw [hW2]
    exact NodAt.below (w := w1.alloc (.cells #[.int .i64 5, .string (atT ts root).t, .int .i64 0, .int .i64 0] 115)) ⟨by simp [go_sem], by simp [go_sem], by simp [go_sem], by simp [go_sem], by simp [go_sem], by simp [go_sem]⟩ (Below.refl _ _).drew)
  have t2 : W2.cell? ⟨w.heap.size, 0, none⟩ = some (.slice (some ⟨b, off, none⟩) xs.length cap) := (hbW.cell (p := ⟨w.heap.size, 0, none⟩) (by simp only; omega)).trans t1
  have z2 : w1.heap.size + 1 ≤ W2.heap.size := by rw [hW2]; show _ ≤ (w1.alloc _).heap.size; simp
  obtain ⟨n0, n1, n2, n3, _, _⟩ := unhide HN2
  simp only at n0 n1 n2 n3
  have HX := (unhide HC) W2 ((unhide HE).below bel2) ((unhide HROW).below bel2)
  rw [← hW2]
  clear hbW k2 kr t1 hW2 HC HROW
  go_wp2_with fail
  refine HX.mono ?_
  clear HX n0 n1 n2 n3
  rintro e w3 ⟨u1, vs1, ok, rfl, HR3, HG3, HA3, hl3, HO3⟩
  obtain ⟨a1, c1, rfl⟩ := row_slice (unhide HR3)
  have HG := hide (grown_below bel2 (unhide HG3))
  have HA := hide (show (Value.slice a1 vs1.length c1).ownBlock = u.ownBlock ∨ ∃ k, (Value.slice a1 vs1.length c1).ownBlock = some k ∧ w.heap.size ≤ k from (unhide HA3).imp id (fun ⟨k, h, h'⟩ => ⟨k, h, by omega⟩))
  have HnB := hide (show (Value.slice a1 vs1.length c1).ownBlock ≠ some w1.heap.size from fun e => by
    rcases unhide HA3 with h | ⟨k, h, h'⟩
    · exact (unhide HNE) w1.heap.size (by omega) (h.symm.trans e)
    · rw [h] at e; injection e with e; omega)
  have HnT := hide (show (Value.slice a1 vs1.length c1).ownBlock ≠ some w.heap.size from fun e => by
    rcases unhide HA3 with h | ⟨k, h, h'⟩
    · exact (unhide HNE) w.heap.size (by omega) (h.symm.trans e)
    · rw [h] at e; injection e with e; omega)
  replace HN2 := hide ((unhide HN2).grown (unhide HG3) ((unhide HNE) _ (by omega)))
  have t3 : w3.cell? ⟨w.heap.size, 0, none⟩ = some (.slice (some ⟨b, off, none⟩) xs.length cap) := (grown_cell (unhide HG3) (b := w.heap.size) (by omega) ((unhide HNE) _ (by omega)) 0).trans t2
  have z3 := (unhide HG3).size
  obtain ⟨n0, n1, n2, n3, n4, n5⟩ := unhide HN2
  simp only at n0 n1 n2 n3
  clear HG3 HA3 t2
  rcases unhide HO3 with ⟨T, hr1, rfl, hvs⟩ | ⟨hr1, rfl⟩
  case inr =>
    have HOUT := hide (show res = none by rw [unhide HRES, hr1])
    clear hr1 HO3
    go_wp2_with fail
    refine bodyPost_ret (v := .tuple #[.slice a1 vs1.length c1, .bool false]) (by simp [results, Tryz.results26, go_sem]) rfl ⟨_, vs1, false, rfl, HR3, HG, HA, by omega, hide (Or.inr ⟨unhide HOUT, rfl⟩)⟩
  have HT := hide ((unhide HGD) T hr1)
  have HVS := hide hvs
  have hv1 : 1 ≤ vs1.length := (kid_last (unhide HT) ns [] hvs).1
  have HRT := hide (show res = if fitT xs 5 (atT ts root).t T .nil then some (.node 5 0 (atT ts root).t T .nil) else none by rw [unhide HRES, hr1])
  clear hr1 hvs HO3 HRES HGD
  have HM := hide ((unhide HN2).set2 ((vs1.length : Int) - 1))
  have HR3' := hide ((unhide HR3).other (g := w1.heap.size) (j := 2) (.int .i64 ((vs1.length : Int) - 1)) (unhide HnB))
  have t4 : (w3.setCell ⟨w1.heap.size, 2, none⟩ (.int .i64 ((vs1.length : Int) - 1))).cell? ⟨w.heap.size, 0, none⟩ = some (.slice (some ⟨b, off, none⟩) xs.length cap) := (World.cell?_setCell_other w3 ⟨w1.heap.size, 2, none⟩ ⟨w.heap.size, 0, none⟩ (.int .i64 ((vs1.length : Int) - 1)) (fun x => by injection x with x1; omega)).trans t3
  have HGs := hide (grown_trans (unhide HG) (⟨rfl, rfl, rfl, by simp [World.setCell], fun i _ hi => Below.heap_setCell _ _ _ _ (fun e => hi (by rw [e]))⟩ : w3.grownBy (w3.setCell ⟨w1.heap.size, 2, none⟩ (.int .i64 ((vs1.length : Int) - 1))) (some w1.heap.size)) (Or.inr ⟨_, rfl, by omega⟩))
  obtain ⟨m0, m1, m2, m3, _, _⟩ := unhide HM
  simp only at m0 m1 m2 m3
  clear HG HR3 n0 n1 n3 n5 HN2 t3
  go_wp2_with (at_builtin; refine wpList_append_own_at _ rfl (.tmp 152) (.tmp 154) 26 rfl B 115 i0 _ 4 40 Tryz.underlying26 (unhide HI) (unhide HZ).1 (unhide HZ).2.1 (unhide HZ).2.2 rfl (by decide) _ vs1.length (cellsN vs1) rfl ((unhide HR3').below (below1 _ _)) ⟨w3.heap.size, 0, none⟩ 1 1 (cellsN [⟨5, (atT ts root).t, (vs1.length : Int) - 1, 0⟩]) rfl rfl (by simpa using new_newsAt (w3.setCell ⟨w1.heap.size, 2, none⟩ (.int .i64 ((vs1.length : Int) - 1))) w3.heap.size ⟨5, (atT ts root).t, (vs1.length : Int) - 1, 0⟩ (by simp [World.setCell])) (cellsN_one' _) ?b1 ?b2 ?b3 ?next)
  case b1 => unfold maxLen; omega
  case b2 => omega
  case b3 => first | omega | (have := (unhide HGs).size; simp at this ⊢; omega)
  case next =>
    intro v4 w4 hown4 hgrow4 hnil4 hat4
    obtain ⟨vs4, hvs4⟩ : ∃ vs4, vs4 = vs1 ++ [(⟨5, (atT ts root).t, (vs1.length : Int) - 1, 0⟩ : NodeR)] := ⟨_, rfl⟩
    have hl4 : vs4.length = vs1.length + 1 := by rw [hvs4]; simp
    have HR4 := hide (show RowV w4 B v4 vs4 by
      rw [hvs4]
      unfold RowV
      rw [cellsN_append, List.length_append]
      exact hown4)
    have HG5 := hide (grown_below (below1 (w3.setCell ⟨w1.heap.size, 2, none⟩ (.int .i64 ((vs1.length : Int) - 1))) _) hgrow4)
    have HG4 := hide (grown_trans (unhide HGs) (unhide HG5) (unhide HA))
    have HA4 := hide (grown_at (unhide HGs) (unhide HA) v4.ownBlock (hat4.imp id (fun h => ⟨_, h, by first | exact Nat.le_refl _ | simp⟩)))
    have t5 : w4.cell? ⟨w.heap.size, 0, none⟩ = some (.slice (some ⟨b, off, none⟩) xs.length cap) := (grown_cell (unhide HG5) (b := w.heap.size) (block_lt_of_cell t4) (unhide HnT) 0).trans t4
    have HE4 := hide ((unhide HE).grown (unhide HG4) (unhide HUB))
    obtain ⟨g4, c4, rfl, hg4, hfl⟩ := rowV_owned (unhide HR4) (by omega)
    have hX4 := unhide HE4
    have hat : atN vs4 vs1.length = ⟨5, (atT ts root).t, (vs1.length : Int) - 1, 0⟩ := by rw [hvs4]; exact atN_end rfl
    have hkd := kid_last (unhide HT) ns [⟨5, (atT ts root).t, (vs1.length : Int) - 1, 0⟩] (unhide HVS)
    rw [← hvs4] at hkd
    have HX := l3Fits_at b off cap g4 0 c4 vs1.length xs vs4 w4 hm (by omega) hX4.1 (unhide HSX) (by have := hX4.2.2.2.2.2.2; have := hX4.2.1; omega) hfl.2.2 hfl.1 (by omega) (by rw [hat]; unfold isOpN; simp only; omega) j (by rw [hat]; exact unhide HFJ) (vs1.length - 1) 0 (by rw [hat]; simp only; omega) (by rw [hat]; rfl) (by omega) (by omega) (by rw [hat]; exact Or.inl rfl) hkd.2.2 (fun h => by rw [hat] at h; simp [kids] at h)
    have hFI := fit_one (q := 5) (unhide HT) (by omega) (unhide HFJ) ns (unhide HVS)
    have e6 : ((vs1.length : Nat) : Int) = (vs4.length : Int) - 1 := by omega
    have HFI := hide (show FitN xs vs4 vs1.length ↔ fitT xs 5 (atT ts root).t T .nil = true by rw [hvs4]; exact hFI)
    have HV4 := hide (show vs4 = ns ++ nd (.node 5 0 (atT ts root).t T .nil) ns.length by rw [hvs4, nd_one (b := 5) rfl, ← unhide HVS]; rfl)
    rw [e6] at HX
    have hl5 : vs4.length ≤ ns.length + (hi - lo) := by omega
    clear hown4 hgrow4 hnil4 hat4 HGs HG5 hvs4 hat hkd hX4 hfl m0 m1 m2 m3 HM hFI e6 hl4
    go_wp2_with fail
    refine HX.mono ?_
    clear HX
    rintro e w5 ⟨⟨v, rfl, hv⟩, hb5⟩
    have HG6 := hide (grown_trans (unhide HG4) (grown_belN hb5 u.ownBlock) (Or.inl rfl))
    have HR6 := hide ((unhide HR4).below hb5)
    have HV := hide hv
    clear hb5 hv
    go_wp2_with fail
    refine bodyPost_ret (v := .tuple #[.slice (some ⟨g4, 0, none⟩) vs4.length c4, .bool v]) (by simp [results, Tryz.results26, go_sem]) rfl ⟨_, vs4, v, rfl, HR6, HG6, HA4, hl5, hide ?_⟩
    have hvv : v = true ↔ fitT xs 5 (atT ts root).t T .nil = true := (unhide HV).trans (unhide HFI)
    rw [unhide HRT]
    cases v with
    | true =>
      rw [if_pos (hvv.1 rfl)]
      exact Or.inl ⟨_, rfl, rfl, unhide HV4⟩
    | false =>
      rw [if_neg (fun h => Bool.false_ne_true (hvv.2 h))]
      exact Or.inr ⟨rfl, rfl⟩

end Go.Proofs.YtokabkhnidlcnabGreat

/-
  Walks: the specification's tree of a row of tokens: infix operators.
-/
namespace Go.Proofs.YtokabkhnidlcnabGreat
set_option maxRecDepth 100000
set_option linter.unusedSimpArgs false
set_option linter.unusedVariables false
open Go.RowKit

/-- The tree over two kids. -/
def mid2 (xs : List OpR) (t : ByteArray) (T : ET) (r2 : Option ET) : Option ET := match r2 with
  | none => none
  | some T2 => if fitT xs 4 t T T2 then some (.node 4 0 t T T2) else none

set_option maxHeartbeats 8000000 in
theorem lb_mid (b off cap gt ot ct gr cr lo hi root : Nat) (xs : List OpR) (ts : List TokR) (us : List Int) (B : Nat) (u : Value) (ns : List NodeR) (w : World) (hm : xs.length ≤ 1048576) (hsx : Sized xs) (hE : BE w B b off gt ot gr xs ts us) (hF : TF xs ts us) (hlr : lo ≤ root) (hrh : root < hi) (hhi : hi ≤ ts.length) (hR : rootI (rtF xs (sgs xs ts lo (hi - lo)) lo 0 none) = (root : Int))
    (hrow : RowV w B u ns) (hlen : ns.length + (hi - lo) ≤ 90000) (hro : roleTo xs ts root = 2) (r1 r2 : Option ET) (hgd : ∀ T, r1 = some T → GoodT xs T) (hgd2 : ∀ T, r2 = some T → GoodT xs T)
    (hc : ∀ W, BE W B b off gt ot gr xs ts us → RowV W B u ns → Calls Tryz.prog 26 #[.agg #[.slice (some ⟨b, off, none⟩) xs.length cap], .slice (some ⟨gt, ot, none⟩) ts.length ct, .slice (some ⟨gr, 0, none⟩) us.length cr, .int .i64 (lo : Int), .int .i64 (root : Int), u] W (BldPost W B u ns r1 (root - lo)))
    (hc2 : ∀ W u1 vs1, BE W B b off gt ot gr xs ts us → RowV W B u1 vs1 → vs1.length + (hi - root - 1) ≤ 90000 → Calls Tryz.prog 26 #[.agg #[.slice (some ⟨b, off, none⟩) xs.length cap], .slice (some ⟨gt, ot, none⟩) ts.length ct, .slice (some ⟨gr, 0, none⟩) us.length cr, .int .i64 ((root : Int) + 1), .int .i64 (hi : Int), u1] W (BldPost W B u1 vs1 r2 (hi - root - 1)))
    (res : Option ET) (hres : res = (match r1 with
      | none => none
      | some T => mid2 xs (atT ts root).t T r2)) :
    Calls Tryz.prog 26 #[.agg #[.slice (some ⟨b, off, none⟩) xs.length cap], .slice (some ⟨gt, ot, none⟩) ts.length ct, .slice (some ⟨gr, 0, none⟩) us.length cr, .int .i64 (lo : Int), .int .i64 (hi : Int), u] w (BldPost w B u ns res (hi - lo)) := by
  obtain ⟨i0, hi0, hz0, hz1, hz2⟩ := info_parts' infoN
  have HI := hide hi0
  have HZ := hide (And.intro hz0 (And.intro hz1 hz2))
  clear hi0 hz0 hz1 hz2
  have HX := root_calls (cap := cap) (ct := ct) (cr := cr) hm hE hF (by omega) hhi hR
  have hrI : (root : Int) < (ts.length : Int) := by omega
  have hln : ts.length ≤ 100000 := hF.len
  have hul : us.length = ts.length := by rw [hF.us, rolesTo_len]
  have hrU : (root : Int) < (us.length : Int) := by omega
  have HE := hide hE
  obtain ⟨h1, h2, h3, h4, h5, h6, h7⟩ := hE
  have k2 := (h3 root (by omega)).2.2
  have kr := h5.2 root (by omega)
  rw [hF.us, atI_roles (by omega), hro] at kr
  have hB1 := below1 w (.cells #[.slice (some ⟨b, off, none⟩) xs.length cap] 33)
  have HROW := hide hrow
  have HUB := hide hrow.base
  have hne0 : ∀ x, w.heap.size ≤ x → u.ownBlock ≠ some x := fun x hx e => by have := World.ownsRow.lt hrow _ e; omega
  have HNE := hide hne0
  have hw4 : gt < w.heap.size := by omega
  have hw6 : gr < w.heap.size := by omega
  have er : decide ((root : Int) < 0) = false := by rw [decide_eq_false_iff_not]; omega
  have HC := hide hc
  have HC2 := hide hc2
  have HGD := hide hgd
  have HGD2 := hide hgd2
  have HRES := hide hres
  have HSX := hide hsx
  obtain ⟨j, hfj⟩ : ∃ j, fnd xs (atT ts root).t 2 = some j := by
    rcases (hF.all root (by omega)).1 with ⟨_, _, _, j, h, _⟩ | ⟨_, h0, _⟩
    · rw [hro] at h; exact ⟨j, h⟩
    · omega
  have HFJ := hide hfj
  clear hrow h1 h3 h5 hF hR hro hne0 hul hc hc2 hgd hgd2 hres hsx hfj
  go_enter Tryz.func26, Tryz.ntmps26
  go_wp2_with fail
  refine HX.mono ?_
  clear HX
  rintro e w1 ⟨rfl, hb1⟩
  have bel1 : Below w.heap.size w w1 := hB1.trans (hb1.mono hB1.size)
  have z1 : w.heap.size + 1 ≤ w1.heap.size := by have := hb1.size; simp at this; omega
  have t1 : w1.cell? ⟨w.heap.size, 0, none⟩ = some (.slice (some ⟨b, off, none⟩) xs.length cap) := (hb1.cell (p := ⟨w.heap.size, 0, none⟩) (by simp)).trans (by simp [go_sem])
  replace k2 := (bel1.cell (p := ⟨gt, ot + root * 3 + 2, none⟩) hw4).trans k2
  replace kr := (bel1.cell (p := ⟨gr, root, none⟩) hw6).trans kr
  have hgl : gt < w1.heap.size := by omega
  have hgn : gt ≠ w1.heap.size := by omega
  have hrl : gr < w1.heap.size := by omega
  have hrn : gr ≠ w1.heap.size := by omega
  have hNn : w.heap.size ≠ w1.heap.size := by omega
  clear hb1 hB1
  go_wp2_with fail
  go_region_held (fun w' => w'.cell? ⟨gt, ot + root * 3 + 2, none⟩ = some (.string (atT ts root).t) ∧ w'.cell? ⟨gr, root, none⟩ = some (.int .i64 2)) (go_keep) (fail)
  have hwK : IntKind.i64.wrap 4 = 4 := by rfl
  rw [hwK]
  clear hwK
  obtain ⟨W2, hW2⟩ : ∃ W2, W2 = (w1.alloc (.cells #[.int .i64 4, .string (atT ts root).t, .int .i64 0, .int .i64 0] 115)).drew := ⟨_, rfl⟩
  have hbW : Below w1.heap.size w1 W2 := by rw [hW2]; exact (below1 _ _).drew
  have bel2 : Below w.heap.size w W2 := bel1.trans (hbW.mono bel1.size)
  have HN2 := hide (show NodAt W2 w1.heap.size ⟨4, (atT ts root).t, 0, 0⟩ by
    rw [hW2]
    exact NodAt.below (w := w1.alloc (.cells #[.int .i64 4, .string (atT ts root).t, .int .i64 0, .int .i64 0] 115)) ⟨by simp [go_sem], by simp [go_sem], by simp [go_sem], by simp [go_sem], by simp [go_sem], by simp [go_sem]⟩ (Below.refl _ _).drew)
  have t2 : W2.cell? ⟨w.heap.size, 0, none⟩ = some (.slice (some ⟨b, off, none⟩) xs.length cap) := (hbW.cell (p := ⟨w.heap.size, 0, none⟩) (by simp only; omega)).trans t1
  have z2 : w1.heap.size + 1 ≤ W2.heap.size := by rw [hW2]; show _ ≤ (w1.alloc _).heap.size; simp
  obtain ⟨n0, n1, n2, n3, _, _⟩ := unhide HN2
  simp only at n0 n1 n2 n3
  have HX := (unhide HC) W2 ((unhide HE).below bel2) ((unhide HROW).below bel2)
  rw [← hW2]
  clear hbW k2 kr t1 hW2 HC HROW
  go_wp2_with fail
  refine HX.mono ?_
  clear HX n0 n1 n2 n3
  rintro e w3 ⟨u1, vs1, ok, rfl, HR3, HG3, HA3, hl3, HO3⟩
  obtain ⟨a1, c1, hu1⟩ := row_slice (unhide HR3)
  have HG := hide (grown_below bel2 (unhide HG3))
  have HA := hide (show u1.ownBlock = u.ownBlock ∨ ∃ k, u1.ownBlock = some k ∧ w.heap.size ≤ k from (unhide HA3).imp id (fun ⟨k, h, h'⟩ => ⟨k, h, by omega⟩))
  have HnB := hide (show u1.ownBlock ≠ some w1.heap.size from fun e => by
    rcases unhide HA3 with h | ⟨k, h, h'⟩
    · exact (unhide HNE) w1.heap.size (by omega) (h.symm.trans e)
    · rw [h] at e; injection e with e; omega)
  have HnT := hide (show u1.ownBlock ≠ some w.heap.size from fun e => by
    rcases unhide HA3 with h | ⟨k, h, h'⟩
    · exact (unhide HNE) w.heap.size (by omega) (h.symm.trans e)
    · rw [h] at e; injection e with e; omega)
  have HU1B := hide (unhide HR3).base
  replace HN2 := hide ((unhide HN2).grown (unhide HG3) ((unhide HNE) _ (by omega)))
  have t3 : w3.cell? ⟨w.heap.size, 0, none⟩ = some (.slice (some ⟨b, off, none⟩) xs.length cap) := (grown_cell (unhide HG3) (b := w.heap.size) (by omega) ((unhide HNE) _ (by omega)) 0).trans t2
  have z3 := (unhide HG3).size
  obtain ⟨n0, n1, n2, n3, n4, n5⟩ := unhide HN2
  simp only at n0 n1 n2 n3
  clear HG3 HA3 t2
  rcases unhide HO3 with ⟨T, hr1, rfl, hvs⟩ | ⟨hr1, rfl⟩
  case inr =>
    have HOUT := hide (show res = none by rw [unhide HRES, hr1])
    clear hr1 HO3 hu1
    go_wp2_with fail
    refine bodyPost_ret (v := .tuple #[u1, .bool false]) (by simp [results, Tryz.results26, go_sem]) rfl ⟨_, vs1, false, rfl, HR3, HG, HA, by omega, hide (Or.inr ⟨unhide HOUT, rfl⟩)⟩
  have HT := hide ((unhide HGD) T hr1)
  have HVS := hide hvs
  have hv1 : 1 ≤ vs1.length := (kid_last (unhide HT) ns [] hvs).1
  have HRT := hide (show res = mid2 xs (atT ts root).t T r2 by rw [unhide HRES, hr1])
  clear hr1 hvs HO3 HRES HGD
  obtain ⟨W3, hW3⟩ : ∃ W3, W3 = w3.setCell ⟨w1.heap.size, 2, none⟩ (.int .i64 ((vs1.length : Int) - 1)) := ⟨_, rfl⟩
  have HM := hide (show NodAt W3 w1.heap.size ⟨4, (atT ts root).t, (vs1.length : Int) - 1, 0⟩ by rw [hW3]; exact (unhide HN2).set2 ((vs1.length : Int) - 1))
  have HR3' := hide (show RowV W3 B u1 vs1 by rw [hW3]; exact (unhide HR3).other (g := w1.heap.size) (j := 2) (.int .i64 ((vs1.length : Int) - 1)) (unhide HnB))
  have t4 : W3.cell? ⟨w.heap.size, 0, none⟩ = some (.slice (some ⟨b, off, none⟩) xs.length cap) := by rw [hW3]; exact (World.cell?_setCell_other w3 ⟨w1.heap.size, 2, none⟩ ⟨w.heap.size, 0, none⟩ (.int .i64 ((vs1.length : Int) - 1)) (fun x => by injection x with x1; omega)).trans t3
  have HGs := hide (show w.grownBy W3 u.ownBlock by rw [hW3]; exact grown_trans (unhide HG) (⟨rfl, rfl, rfl, by simp [World.setCell], fun i _ hi => Below.heap_setCell _ _ _ _ (fun e => hi (by rw [e]))⟩ : w3.grownBy (w3.setCell ⟨w1.heap.size, 2, none⟩ (.int .i64 ((vs1.length : Int) - 1))) (some w1.heap.size)) (Or.inr ⟨_, rfl, by omega⟩))
  have zW : W3.heap.size = w3.heap.size := by rw [hW3]; simp [World.setCell]
  have HZW := hide zW
  have z3' : w1.heap.size + 1 ≤ W3.heap.size := by omega
  clear zW
  obtain ⟨m0, m1, m2, m3, m4, m5⟩ := unhide HM
  simp only at m0 m1 m2 m3
  have HX := (unhide HC2) W3 u1 vs1 ((unhide HE).grown (unhide HGs) (unhide HUB)) (unhide HR3') (by omega)
  subst hu1
  have HW3 := hide hW3
  have hl3' : vs1.length ≤ 90000 := by omega
  clear HG HR3 n1 n3 n5 HN2 HC2
  clear hW3
  go_wp2_with fail
  rw [← unhide HW3]
  go_wp2_with fail
  refine HX.mono ?_
  clear HX n0 n2 n4 t3 m0 m1 m2 m3 m4 m5
  rintro e w5 ⟨u2, vs2, ok2, rfl, HR5, HG5, HA5, hl5, HO5⟩
  obtain ⟨a2, c2, rfl⟩ := row_slice (unhide HR5)
  have HGw := hide (grown_trans (unhide HGs) (unhide HG5) (unhide HA))
  have HAw := hide (grown_at (unhide HGs) (unhide HA) (Value.slice a2 vs2.length c2).ownBlock (unhide HA5))
  have HnB2 := hide (show (Value.slice a2 vs2.length c2).ownBlock ≠ some w1.heap.size from fun e => by
    rcases unhide HA5 with h | ⟨k, h, h'⟩
    · exact (unhide HnB) (h.symm.trans e)
    · rw [h] at e; injection e with e; omega)
  have HnT2 := hide (show (Value.slice a2 vs2.length c2).ownBlock ≠ some w.heap.size from fun e => by
    rcases unhide HA5 with h | ⟨k, h, h'⟩
    · exact (unhide HnT) (h.symm.trans e)
    · rw [h] at e; injection e with e; omega)
  have HN5 := hide ((unhide HM).grown (unhide HG5) (unhide HnB))
  have t5 : w5.cell? ⟨w.heap.size, 0, none⟩ = some (.slice (some ⟨b, off, none⟩) xs.length cap) := (grown_cell (unhide HG5) (b := w.heap.size) (block_lt_of_cell t4) (unhide HnT) 0).trans t4
  have z5 := (unhide HG5).size
  obtain ⟨n0, n1, n2, n3, n4, n5⟩ := unhide HN5
  simp only at n0 n1 n2 n3
  clear HG5 HA5 t4 HM HGs HA HR3'
  rcases unhide HO5 with ⟨T2, hr2, rfl, hvs2⟩ | ⟨hr2, rfl⟩
  case inr =>
    have HOUT := hide (show res = none by rw [unhide HRT, hr2]; rfl)
    clear hr2 HO5
    go_wp2_with fail
    refine bodyPost_ret (v := .tuple #[.slice a2 vs2.length c2, .bool false]) (by simp [results, Tryz.results26, go_sem]) rfl ⟨_, vs2, false, rfl, HR5, HGw, HAw, by omega, hide (Or.inr ⟨unhide HOUT, rfl⟩)⟩
  have HT2 := hide ((unhide HGD2) T2 hr2)
  have HVS2 := hide hvs2
  have hv2 : 1 ≤ vs2.length := (kid_last (unhide HT2) vs1 [] hvs2).1
  have HRU := hide (show res = if fitT xs 4 (atT ts root).t T T2 then some (.node 4 0 (atT ts root).t T T2) else none by rw [unhide HRT, hr2]; rfl)
  clear hr2 hvs2 HO5 HRT HGD2
  have HM5 := hide ((unhide HN5).set3 ((vs2.length : Int) - 1))
  have HR5' := hide ((unhide HR5).other (g := w1.heap.size) (j := 3) (.int .i64 ((vs2.length : Int) - 1)) (unhide HnB2))
  have t6 : (w5.setCell ⟨w1.heap.size, 3, none⟩ (.int .i64 ((vs2.length : Int) - 1))).cell? ⟨w.heap.size, 0, none⟩ = some (.slice (some ⟨b, off, none⟩) xs.length cap) := (World.cell?_setCell_other w5 ⟨w1.heap.size, 3, none⟩ ⟨w.heap.size, 0, none⟩ (.int .i64 ((vs2.length : Int) - 1)) (fun x => by injection x with x1; omega)).trans t5
  have HGv := hide (grown_trans (unhide HGw) (⟨rfl, rfl, rfl, by simp [World.setCell], fun i _ hi => Below.heap_setCell _ _ _ _ (fun e => hi (by rw [e]))⟩ : w5.grownBy (w5.setCell ⟨w1.heap.size, 3, none⟩ (.int .i64 ((vs2.length : Int) - 1))) (some w1.heap.size)) (Or.inr ⟨_, rfl, by omega⟩))
  obtain ⟨m0, m1, m2, m3, _, _⟩ := unhide HM5
  simp only at m0 m1 m2 m3
  clear HGw HR5 n0 n1 n2 n4 HN5 t5
  go_wp2_with (at_builtin; refine wpList_append_own_at _ rfl (.tmp 152) (.tmp 154) 26 rfl B 115 i0 _ 4 40 Tryz.underlying26 (unhide HI) (unhide HZ).1 (unhide HZ).2.1 (unhide HZ).2.2 rfl (by decide) _ vs2.length (cellsN vs2) rfl ((unhide HR5').below (below1 _ _)) ⟨w5.heap.size, 0, none⟩ 1 1 (cellsN [⟨4, (atT ts root).t, (vs1.length : Int) - 1, (vs2.length : Int) - 1⟩]) rfl rfl (by simpa using new_newsAt (w5.setCell ⟨w1.heap.size, 3, none⟩ (.int .i64 ((vs2.length : Int) - 1))) w5.heap.size ⟨4, (atT ts root).t, (vs1.length : Int) - 1, (vs2.length : Int) - 1⟩ (by simp [World.setCell])) (cellsN_one' _) ?b1 ?b2 ?b3 ?next)
  case b1 => unfold maxLen; omega
  case b2 => omega
  case b3 => first | omega | (have := (unhide HGv).size; simp at this ⊢; omega)
  case next =>
    intro v4 w6 hown4 hgrow4 hnil4 hat4
    obtain ⟨vs4, hvs4⟩ : ∃ vs4, vs4 = vs2 ++ [(⟨4, (atT ts root).t, (vs1.length : Int) - 1, (vs2.length : Int) - 1⟩ : NodeR)] := ⟨_, rfl⟩
    have hl4 : vs4.length = vs2.length + 1 := by rw [hvs4]; simp
    have HR4 := hide (show RowV w6 B v4 vs4 by
      rw [hvs4]
      unfold RowV
      rw [cellsN_append, List.length_append]
      exact hown4)
    have HG6 := hide (grown_below (below1 (w5.setCell ⟨w1.heap.size, 3, none⟩ (.int .i64 ((vs2.length : Int) - 1))) _) hgrow4)
    have HG4 := hide (grown_trans (unhide HGv) (unhide HG6) (unhide HAw))
    have HA4 := hide (grown_at (unhide HGv) (unhide HAw) v4.ownBlock (hat4.imp id (fun h => ⟨_, h, by first | exact Nat.le_refl _ | simp⟩)))
    have t7 : w6.cell? ⟨w.heap.size, 0, none⟩ = some (.slice (some ⟨b, off, none⟩) xs.length cap) := (grown_cell (unhide HG6) (b := w.heap.size) (block_lt_of_cell t6) (unhide HnT2) 0).trans t6
    have HE4 := hide ((unhide HE).grown (unhide HG4) (unhide HUB))
    obtain ⟨g4, c4, rfl, hg4, hfl⟩ := rowV_owned (unhide HR4) (by omega)
    have hX4 := unhide HE4
    have hat : atN vs4 vs2.length = ⟨4, (atT ts root).t, (vs1.length : Int) - 1, (vs2.length : Int) - 1⟩ := by rw [hvs4]; exact atN_end rfl
    have hk1 := kid_last (unhide HT) ns (nd T2 vs1.length ++ [⟨4, (atT ts root).t, (vs1.length : Int) - 1, (vs2.length : Int) - 1⟩]) (unhide HVS)
    rw [← List.append_assoc, ← unhide HVS2, ← hvs4] at hk1
    have hk2 := kid_last (unhide HT2) vs1 [⟨4, (atT ts root).t, (vs1.length : Int) - 1, (vs2.length : Int) - 1⟩] (unhide HVS2)
    rw [← hvs4] at hk2
    have hle12 : vs1.length ≤ vs2.length := by rw [unhide HVS2, List.length_append]; omega
    have HX := l3Fits_at b off cap g4 0 c4 vs2.length xs vs4 w6 hm (by omega) hX4.1 (unhide HSX) (by have := hX4.2.2.2.2.2.2; have := hX4.2.1; omega) hfl.2.2 hfl.1 (by omega) (by rw [hat]; unfold isOpN; simp only; omega) j (by rw [hat]; exact unhide HFJ) (vs1.length - 1) (vs2.length - 1) (by rw [hat]; simp only; omega) (by rw [hat]; simp only; omega) (by omega) (by omega) (by rw [hat]; exact Or.inr rfl) hk1.2.2 (fun _ => hk2.2.2)
    have hFI := fit_two (unhide HT) (unhide HT2) (unhide HFJ) ns (unhide HVS) (unhide HVS2)
    have e6 : ((vs2.length : Nat) : Int) = (vs4.length : Int) - 1 := by omega
    have HFI := hide (show FitN xs vs4 vs2.length ↔ fitT xs 4 (atT ts root).t T T2 = true by rw [hvs4]; exact hFI)
    have HV4 := hide (show vs4 = ns ++ nd (.node 4 0 (atT ts root).t T T2) ns.length by rw [hvs4, nd_two, ← unhide HVS, ← unhide HVS2])
    rw [e6] at HX
    have hl5' : vs4.length ≤ ns.length + (hi - lo) := by omega
    clear hown4 hgrow4 hnil4 hat4 HGv HG6 hvs4 hat hk1 hk2 hX4 hfl m0 m1 m2 m3 HM5 hFI e6 hl4
    go_wp2_with fail
    refine HX.mono ?_
    clear HX
    rintro e w7 ⟨⟨v, rfl, hv⟩, hb7⟩
    have HG8 := hide (grown_trans (unhide HG4) (grown_belN hb7 u.ownBlock) (Or.inl rfl))
    have HR8 := hide ((unhide HR4).below hb7)
    have HV := hide hv
    clear hb7 hv
    go_wp2_with fail
    refine bodyPost_ret (v := .tuple #[.slice (some ⟨g4, 0, none⟩) vs4.length c4, .bool v]) (by simp [results, Tryz.results26, go_sem]) rfl ⟨_, vs4, v, rfl, HR8, HG8, HA4, hl5', hide ?_⟩
    have hvv : v = true ↔ fitT xs 4 (atT ts root).t T T2 = true := (unhide HV).trans (unhide HFI)
    rw [unhide HRU]
    cases v with
    | true =>
      rw [if_pos (hvv.1 rfl)]
      exact Or.inl ⟨_, rfl, rfl, unhide HV4⟩
    | false =>
      rw [if_neg (fun h => Bool.false_ne_true (hvv.2 h))]
      exact Or.inr ⟨rfl, rfl⟩

end Go.Proofs.YtokabkhnidlcnabGreat

/-
  Walk: the specification's tree of a row of tokens.
-/
namespace Go.Proofs.YtokabkhnidlcnabGreat
set_option maxRecDepth 100000
set_option linter.unusedSimpArgs false
set_option linter.unusedVariables false
open Go.RowKit

theorem tk_kind {xs : List OpR} {ts : List TokR} {i : Nat} (h : TkF xs ts i) (hk : 1 ≤ (atT ts i).k ∧ (atT ts i).k ≤ 7 ∧ (atT ts i).k ≠ 6) :
    ((sgT xs ts i).1 = 1 ∨ (sgT xs ts i).1 = 2 → ((atT ts i).k = 1 ∨ (atT ts i).k = 2) ∧ sgT xs ts i = ((atT ts i).k.toNat, (atT ts i).t)) ∧
    ((sgT xs ts i).1 = 6 → (atT ts i).k = 4) ∧
    (3 ≤ (sgT xs ts i).1 → (sgT xs ts i).1 ≤ 5 → ((sgT xs ts i).1 : Int) = roleTo xs ts i + 2 ∧ (sgT xs ts i).2 = (atT ts i).t) := by
  rcases h with ⟨k3, hr, es, _⟩ | ⟨k3, h0, hn⟩
  · rw [es]
    simp only
    exact ⟨fun h => by omega, fun h => by omega, fun _ _ => ⟨by omega, trivial⟩⟩
  · refine ⟨fun h => ?_, fun h => ?_, fun h3 h5 => absurd ⟨h3, h5⟩ hn⟩
    · unfold sgT at h ⊢
      rw [if_neg k3] at h ⊢
      by_cases k4 : (atT ts i).k = 4
      · rw [if_pos k4] at h; exfalso; revert h; decide
      · rw [if_neg k4] at h ⊢
        by_cases k5 : (atT ts i).k = 5
        · rw [if_pos k5] at h; exfalso; revert h; decide
        · rw [if_neg k5] at h ⊢
          by_cases k7 : (atT ts i).k = 7
          · rw [if_pos k7] at h; exfalso; revert h; decide
          · rw [if_neg k7]
            exact ⟨by omega, rfl⟩
    · unfold sgT at h
      rw [if_neg k3] at h
      by_cases k4 : (atT ts i).k = 4
      · exact k4
      · rw [if_neg k4] at h
        by_cases k5 : (atT ts i).k = 5
        · rw [if_pos k5] at h; exfalso; revert h; decide
        · rw [if_neg k5] at h
          by_cases k7 : (atT ts i).k = 7
          · rw [if_pos k7] at h; exfalso; revert h; decide
          · rw [if_neg k7] at h
            simp only at h
            omega

theorem l3Build_any {b off cap gt ot ct gr cr : Nat} {xs : List OpR} {ts : List TokR} {us : List Int} {B : Nat} (hv : IsCode xs 0) (hm : xs.length ≤ 1048576) (hsx : Sized xs) (hF : TF xs ts us) :
    ∀ (n lo hi : Nat) (u : Value) (ns : List NodeR) (w : World), lo ≤ hi → hi ≤ ts.length → hi - lo ≤ n → Seg xs (sgs xs ts lo (hi - lo)) → BE w B b off gt ot gr xs ts us → RowV w B u ns → ns.length + (hi - lo) ≤ 90000 →
      Calls Tryz.prog 26 #[.agg #[.slice (some ⟨b, off, none⟩) xs.length cap], .slice (some ⟨gt, ot, none⟩) ts.length ct, .slice (some ⟨gr, 0, none⟩) us.length cr, .int .i64 (lo : Int), .int .i64 (hi : Int), u] w (BldPost w B u ns (bld xs n (sgs xs ts lo (hi - lo))) (hi - lo))
  | 0, lo, hi, u, ns, w, hlo, hhi, hn, hs, hE, hrow, hlen => by
    have : hi - lo = 0 := by omega
    rw [this] at hs
    exact absurd rfl (Seg.ne hs)
  | n + 1, lo, hi, u, ns, w, hlo, hhi, hn, hs, hE, hrow, hlen => by
    have ssl := sgs_len xs ts lo (hi - lo)
    cases hrt : rtF xs (sgs xs ts lo (hi - lo)) 0 0 none with
    | none =>
      have hR : rootI (rtF xs (sgs xs ts lo (hi - lo)) lo 0 none) = -1 := by rw [rtF_at, hrt]; rfl
      rcases seg_none hs hrt with ⟨s, hs12, hss⟩ | ⟨q, hss, hq⟩
      · have h1 : hi - lo = 1 := by rw [hss] at ssl; simpa using ssl.symm
        have hsg : s = sgT xs ts lo := by
          have := hss
          rw [h1] at this
          simp only [sgs, List.range'_one, List.map_cons, List.map_nil, List.cons.injEq, and_true] at this
          exact this.symm
        rw [hsg] at hs12
        obtain ⟨hk, he⟩ := (tk_kind (hF.all lo (by omega)).1 (hF.all lo (by omega)).2).1 hs12
        have hb : bld xs (n + 1) (sgs xs ts lo (hi - lo)) = some (.node (atT ts lo).k.toNat 0 (atT ts lo).t .nil .nil) := by
          simp only [bld]
          rw [hrt, hss, hsg, he]
          simp only
          rw [if_neg (by omega)]
        rw [hb]
        exact lb_leaf b off cap gt ot ct gr cr lo hi xs ts us B u ns w hm hE hF (by omega) hhi hR hrow (by omega) hk rfl (by omega)
      · have hl2 : hi - lo = q.length + 2 := by rw [hss] at ssl; simp at ssl; omega
        have hsg := hss
        rw [hl2, sgs_succ] at hsg
        injection hsg with hsg1 hsg2
        have hsg3 := hsg2
        rw [sgs_last] at hsg3
        have hq2 := (List.append_inj' hsg3 (by simp)).1
        have hk := (tk_kind (hF.all lo (by omega)).1 (hF.all lo (by omega)).2).2.1 (by rw [hsg1])
        have e0 : hi - 1 - (lo + 1) = q.length := by omega
        have hb : bld xs (n + 1) (sgs xs ts lo (hi - lo)) = (bld xs n q).map (fun T => .node 6 0 ByteArray.empty T .nil) := by
          simp only [bld]
          rw [hrt, hss]
          simp
        rw [hb]
        refine lb_group b off cap gt ot ct gr cr lo hi xs ts us B u ns w hm hE hF (by omega) hhi hR hrow hlen hk (bld xs n q) (fun W hW hr => ?_)
        have h := l3Build_any hv hm hsx hF n (lo + 1) (hi - 1) u ns W (cap := cap) (ct := ct) (cr := cr) (by omega) (by omega) (by omega) (by rw [e0, hq2]; exact hq) hW hr (by omega)
        rw [e0, hq2, show ((lo + 1 : Nat) : Int) = (lo : Int) + 1 by omega, show ((hi - 1 : Nat) : Int) = (hi : Int) - 1 by omega] at h
        rw [show hi - lo - 2 = q.length by omega]
        exact h
    | some x =>
      obtain ⟨L, R, hss, hx1, hkn, hcase⟩ := seg_some hs hrt
      obtain ⟨g1, g2, g3, g4⟩ := sgs_get hss
      rw [← hx1] at g1 g2 g3 g4
      have hR : rootI (rtF xs (sgs xs ts lo (hi - lo)) lo 0 none) = ((lo + x.1 : Nat) : Int) := by
        rw [rtF_at, hrt]
        show ((x.1 + lo : Nat) : Int) = _
        rw [Nat.add_comm]
      have hrx : lo + x.1 < ts.length := by omega
      have hx3 : 3 ≤ x.2.1 ∧ x.2.1 ≤ 5 := by
        rcases hcase with ⟨h, _⟩ | ⟨h, _⟩ | ⟨h, _⟩ <;> omega
      obtain ⟨hrole, htx⟩ := (tk_kind (hF.all (lo + x.1) hrx).1 (hF.all (lo + x.1) hrx).2).2.2 (by rw [← g1]; exact hx3.1) (by rw [← g1]; exact hx3.2)
      rw [← g1] at hrole htx
      have hb0 : bld xs (n + 1) (sgs xs ts lo (hi - lo)) = (if (x.2.1 = 3 ∧ x.1 ≠ 0) ∨ (x.2.1 = 5 ∧ x.1 + 1 ≠ hi - lo) then none
          else if x.2.1 = 3 then (match bld xs n ((sgs xs ts lo (hi - lo)).drop 1) with
            | none => none
            | some T => if fitT xs 3 x.2.2 T .nil then some (.node 3 0 x.2.2 T .nil) else none)
          else if x.2.1 = 5 then (match bld xs n ((sgs xs ts lo (hi - lo)).take x.1) with
            | none => none
            | some T => if fitT xs 5 x.2.2 T .nil then some (.node 5 0 x.2.2 T .nil) else none)
          else (match bld xs n ((sgs xs ts lo (hi - lo)).take x.1) with
            | none => none
            | some T => (match bld xs n ((sgs xs ts lo (hi - lo)).drop (x.1 + 1)) with
              | none => none
              | some T2 => if fitT xs 4 x.2.2 T T2 then some (.node 4 0 x.2.2 T T2) else none))) := by
        conv => lhs; unfold bld
        rw [hrt]
        simp only [ssl]
        rfl
      have htake : (sgs xs ts lo (hi - lo)).take x.1 = sgs xs ts lo x.1 := by
        rw [hss, hx1, List.take_left']
        · rw [← hx1]; exact g3
        · rfl
      have hdrop : (sgs xs ts lo (hi - lo)).drop (x.1 + 1) = sgs xs ts (lo + x.1 + 1) (hi - lo - x.1 - 1) := by
        have e : L ++ x.2 :: R = (L ++ [x.2]) ++ R := by simp
        rw [hss, ← g4, e]
        exact List.drop_left' (by simp [hx1])
      rcases hcase with ⟨h3, hsR⟩ | ⟨h5, hsL⟩ | ⟨h4, hsL, hsR⟩
      · by_cases hz : x.1 = 0
        · have hLn : L = [] := List.length_eq_zero_iff.1 (by omega)
          have hsR' := hsR hLn
          rw [g4, hz] at hsR'
          have e0 : hi - (lo + 1) = hi - lo - 0 - 1 := by omega
          rw [hb0, if_neg (by omega), if_pos h3]
          have hd1 : (sgs xs ts lo (hi - lo)).drop 1 = sgs xs ts (lo + 1) (hi - (lo + 1)) := by
            have := hdrop
            rw [hz] at this
            rw [e0]
            exact this
          rw [hd1, htx]
          have hsR2 : Seg xs (sgs xs ts (lo + 1) (hi - (lo + 1))) := by rw [e0]; exact hsR'
          refine lb_pre b off cap gt ot ct gr cr lo hi (lo + x.1) xs ts us B u ns w hm hsx hE hF (by omega) (by omega) hhi hR hrow hlen (by omega) (by omega) (bld xs n (sgs xs ts (lo + 1) (hi - (lo + 1)))) (fun T hT => (bld_sound hv _ _ _ hsR2 hT).1) (fun W hW hr => ?_) _ rfl
          have h := l3Build_any hv hm hsx hF n (lo + 1) hi u ns W (cap := cap) (ct := ct) (cr := cr) (by omega) (by omega) (by omega) hsR2 hW hr (by omega)
          rw [show ((lo + 1 : Nat) : Int) = (lo : Int) + 1 by omega] at h
          rw [show hi - lo - 1 = hi - (lo + 1) by omega]
          exact h
        · rw [hb0, if_pos (Or.inl ⟨h3, hz⟩)]
          exact lb_bad1 b off cap gt ot ct gr cr lo hi (lo + x.1) xs ts us B u ns w hm hsx hE hF (by omega) (by omega) hhi hR hrow hlen (by omega) (by omega)
      · by_cases hz : x.1 + 1 = hi - lo
        · rw [hb0, if_neg (by omega), if_neg (by omega), if_pos h5, htake, htx]
          rw [g3] at hsL
          have e0 : lo + x.1 - lo = x.1 := by omega
          refine lb_post b off cap gt ot ct gr cr lo hi (lo + x.1) xs ts us B u ns w hm hsx hE hF (by omega) (by omega) hhi hR hrow hlen (by omega) (by omega) (bld xs n (sgs xs ts lo x.1)) (fun T hT => (bld_sound hv _ _ _ hsL hT).1) (fun W hW hr => ?_) _ rfl
          have h := l3Build_any hv hm hsx hF n lo (lo + x.1) u ns W (cap := cap) (ct := ct) (cr := cr) (by omega) (by omega) (by omega) (by rw [e0]; exact hsL) hW hr (by omega)
          rw [e0] at h
          rw [show hi - lo - 1 = x.1 by omega]
          exact h
        · rw [hb0, if_pos (Or.inr ⟨h5, hz⟩)]
          exact lb_bad3 b off cap gt ot ct gr cr lo hi (lo + x.1) xs ts us B u ns w hm hsx hE hF (by omega) (by omega) hhi hR hrow hlen (by omega) (by omega)
      · rw [hb0, if_neg (by omega), if_neg (by omega), if_neg (by omega), htake, hdrop, htx]
        rw [g3] at hsL
        rw [g4] at hsR
        have e0 : lo + x.1 - lo = x.1 := by omega
        have e1 : hi - (lo + x.1 + 1) = hi - lo - x.1 - 1 := by omega
        refine lb_mid b off cap gt ot ct gr cr lo hi (lo + x.1) xs ts us B u ns w hm hsx hE hF (by omega) (by omega) hhi hR hrow hlen (by omega) (bld xs n (sgs xs ts lo x.1)) (bld xs n (sgs xs ts (lo + x.1 + 1) (hi - lo - x.1 - 1))) (fun T hT => (bld_sound hv _ _ _ hsL hT).1) (fun T hT => (bld_sound hv _ _ _ hsR hT).1) (fun W hW hr => ?_) (fun W u1 vs1 hW hr hl => ?_) _ rfl
        · have h := l3Build_any hv hm hsx hF n lo (lo + x.1) u ns W (cap := cap) (ct := ct) (cr := cr) (by omega) (by omega) (by omega) (by rw [e0]; exact hsL) hW hr (by omega)
          rw [e0] at h
          rw [e0]
          exact h
        · have h := l3Build_any hv hm hsx hF n (lo + x.1 + 1) hi u1 vs1 W (cap := cap) (ct := ct) (cr := cr) (by omega) (by omega) (by omega) (by rw [e1]; exact hsR) hW hr (by omega)
          rw [e1, show ((lo + x.1 + 1 : Nat) : Int) = ((lo + x.1 : Nat) : Int) + 1 by omega] at h
          rw [show hi - (lo + x.1) - 1 = hi - lo - x.1 - 1 by omega]
          exact h
end Go.Proofs.YtokabkhnidlcnabGreat
