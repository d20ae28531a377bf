import Derived.Deep.AppendLies
import Derived.Test.YtokabkhnidlcnacGreatDoorM38
namespace Go.Proofs.YtokabkhnidlcnacGreatDoor
set_option linter.unusedSimpArgs false
set_option linter.unusedVariables false
set_option maxHeartbeats 16000000
set_option maxRecDepth 100000
open Go.RowKit Go.Maps
theorem Eff.of_below {w w':World} (h:Below w.heap.size w w') {b:Nat} (hb:b < w.heap.size) (o:Nat) (kv:Value) (pv:Option Nat):Eff w w' b o kv pv:=
 ⟨h.os,h.tape,h.output,h.size,fun i hi _ _ _=>h.block i hi,fun o' _ _=>⟨h.cell (p:=⟨b,o',none⟩) hb,h.frozen (p:=⟨b,o',none⟩) hb⟩⟩
theorem zt.step {w w1 w2:World} {b o B:Nat} {kv kv1:Value} {pv pv1:Option Nat} {ks2:List OpR} (he:Eff w w1 b o kv pv) (hk:zx w.heap.size kv.ownBlock kv1.ownBlock) (hp:zx w.heap.size pv pv1) (h:zt w1 b o B kv1 pv1 ks2 w2):zt w b o B kv pv ks2 w2:=by
 obtain ⟨kv2,pv2,h1,h2,h3,h4⟩:=h
 exact ⟨kv2,pv2,h1,he.trans h2 hk hp,hk.trans h3 he.size,hp.trans h4 he.size⟩
theorem zJu {w1 W:World} {b o B bm X:Nat} {kv:Value} {pv:Option Nat} {ks:List OpR} {t:OpR} (h:zCM w1 b o B kv pv ks) (hB:B <= w1.heap.size) (ht:t ∉ ks) (hs:zCy t) (hl:ks.length <= 1048576)
  (hWs:w1.heap.size <= W.heap.size) (hWb:∀ i,i < w1.heap.size -> i ≠ b -> W.heap[i]? = w1.heap[i]?) (hWe:W.os = w1.os /\ W.tape = w1.tape /\ W.output = w1.output) (hWc:∀ o',o' ≠ o + 1 -> W.cell? ⟨b,o',none⟩ = w1.cell? ⟨b,o',none⟩) (hWf:∀ o',W.frozen? ⟨b,o',none⟩ = w1.frozen? ⟨b,o',none⟩) (hW1:W.cell? ⟨b,o + 1,none⟩ = some (.map (some bm))) (hbmB:B <= bm) (hbmb:bm ≠ b) (hbmk:kv.ownBlock ≠ some bm) (hbmn:zx w1.heap.size pv (some bm)) (hm:zA4 W bm ks.length (gQ ks))
  (hX:X < w1.heap.size) (hXb:X ≠ b) (hXm:bm ≠ X) :
  ∃ w3,(Instr.mapUpdate 177 (.map (some bm)) (.agg #[.string t.s,.int .i64 t.k,.int .i64 t.l,.int .i64 t.sd]) (.int .i64 (ks.length:Int))).run Tryz.prog W.drew = .ok () w3 /\ W.heap.size <= w3.heap.size /\ W.cell? ⟨b,o,none⟩ = some kv /\ w3.cell? ⟨b,o,none⟩ = some kv /\ w3.frozen? ⟨b,o,none⟩ = false /\ (∀ j,W.cell? ⟨X,j,none⟩ = w1.cell? ⟨X,j,none⟩ /\ w3.cell? ⟨X,j,none⟩ = w1.cell? ⟨X,j,none⟩) /\ zAN w3 B kv ks /\
   ∀ (w4:World) (g4 c4:Nat) (ob:Obj),w4.ownsRow B 41 4 (.slice (some ⟨g4,0,none⟩) (ks.length + 1) c4) (ks.length + 1) (zP ks ++ zP [t]) -> (w3.alloc ob).drew.grownBy w4 kv.ownBlock -> (kv.ownBlock = some g4 \/ g4 = w3.heap.size + 1) -> zt w1 b o B kv pv (ks ++ [t]) (w4.setCell ⟨b,o,none⟩ (.slice (some ⟨g4,0,none⟩) (ks.length + 1) c4)):=by
 have hbm:=hm.lt
 have hbl:=h.lt
 obtain ⟨w3,hrun,hm3,hk3⟩:=(hm.kept (zF (show Below W.heap.size W W.drew from (Below.refl _ _).drew) none) (by simp)).update (ty:=177) Tryz.underlying177 (by unfold maxLen; omega) (t:=t) hs (.int .i64 (ks.length:Int))
 have hk:zI W w3 bm:=(zI.of_below (show Below W.heap.size W W.drew from (Below.refl _ _).drew)).trans hk3
 have hWr:zAN W B kv ks:=by
  obtain ⟨a,⟨h1,h2⟩ | ⟨g,cap,cur,h1,h2,h3,h4⟩⟩:=h.row
  ·exact ⟨a,Or.inl ⟨h1,h2⟩⟩
  ·have hgb:g ≠ b:=fun e=>h.nk (by rw [h1,e]; rfl)
   refine ⟨a,Or.inr ⟨g,cap,cur,h1,h2,(hWb g ?_ hgb).trans h3,h4⟩⟩
   exact (h.row.lt g (by rw [h1]; rfl)).2
 have c0:W.cell? ⟨b,o,none⟩ = some kv:=(hWc o (by omega)).trans h.c0
 have hXW:∀ j,W.cell? ⟨X,j,none⟩ = w1.cell? ⟨X,j,none⟩:=fun j=>World.cell?_of_block (hWb X hX hXb)
 refine ⟨w3,hrun,hk.size,c0,(hk.cell (by omega) (Ne.symm hbmb) o).trans c0,(hk.frozen (by omega) (Ne.symm hbmb) o).trans ((hWf o).trans h.f0),fun j=>⟨hXW j,(hk.cell (by omega) (Ne.symm hXm) j).trans (hXW j)⟩,hWr.grown (zm hk) (fun k e x=>hbmk (e.trans x.symm)),fun w4 g4 c4 ob hown hg hat=>?_⟩
 have hr:zAN w4 B (.slice (some ⟨g4,0,none⟩) (ks.length + 1) c4) (ks ++ [t]):=by
  unfold zAN
  rw [Z0,List.length_append]
  exact hown
 exact zKl h hB ht hWs hWb hWe hWc hWf hW1 hWr hbmB hbmb hbmk hbmn hm3 hk hbm (ob:=ob) ⟨hg.os,hg.tape,hg.output,hg.size,hg.block⟩ hr (hat.imp (fun e=>e.symm) (fun e=>by rw [e]; rfl))
theorem zNs (b o B:Nat) (kv:Value) (pv:Option Nat) (ks:List OpR) (t:OpR) (w:World) (h:zCM w b o B kv pv ks) (hs:zCy t) (hl:ks.length <= 1048576) (hB:B <= w.heap.size) :
  Calls Tryz.prog 157 #[.pointer (some ⟨b,o,none⟩),.agg #[.string t.s,.int .i64 t.k,.int .i64 t.l,.int .i64 t.sd]] w fun e w'=>zB0 e (t ∉ ks) /\ zt w b o B kv pv (zCE ks t) w':=by
 have hbl:=h.lt
 obtain ⟨W0,hW0⟩:∃ W0,W0 = w.alloc (.cells #[.string t.s,.int .i64 t.k,.int .i64 t.l,.int .i64 t.sd] 41):=⟨_,rfl⟩
 have hb0:Below w.heap.size w W0:=by rw [hW0]; exact zC _ _
 have hz0:W0.heap.size = w.heap.size + 1:=by rw [hW0]; simp
 have HH:=zB (zNr b o B kv pv ks t W0 (h.below hb0) hs)
 have k0:W0.cell? ⟨w.heap.size,0,none⟩ = some (.string t.s):=by rw [hW0]; simp [go_sem]
 have k1:W0.cell? ⟨w.heap.size,1,none⟩ = some (.int .i64 t.k):=by rw [hW0]; simp [go_sem]
 have k2:W0.cell? ⟨w.heap.size,2,none⟩ = some (.int .i64 t.l):=by rw [hW0]; simp [go_sem]
 have k3:W0.cell? ⟨w.heap.size,3,none⟩ = some (.int .i64 t.sd):=by rw [hW0]; simp [go_sem]
 have HW0:=zB hW0
 have HB0:=zB hb0
 have HZ0:=zB hz0
 clear hW0 hb0 hz0
 by_cases hin:t ∈ ks
 ·have HP:=zB (fun w' (hb:Below w.heap.size w w')=>show zt w b o B kv pv (zCE ks t) w' from (by rw [zBc hin]; exact ⟨kv,pv,h.below hb,Eff.of_below hb hbl _ _ _,Or.inl rfl,Or.inl rfl⟩))
  have HIN:=zB hin
  clear h hin
  go_enter Tryz.func157,Tryz.ntmps157
  go_wp2_with (first | (go_at_call 196; rw [<- zA HW0]; (with_reducible refine (zA HH).mono ?_); rintro e w1 ⟨⟨v,rfl,hv⟩,hx⟩; have HB1:=zB hx; obtain rfl:v = true:=hv.2 (zA HIN); clear hv hx))
  go_ret
  exact ⟨⟨false,rfl,ZA (fun h=>h (zA HIN))⟩,(zA HP) _ ((zA HB0).trans ((zA HB1).mono (by rw [zA HZ0]; omega)))⟩
 have HNI:=zB hin
 obtain ⟨iO,hiO,hzO0,hzO1,hzO2⟩:=zQ zD1
 have HI:=zB hiO
 have HZ:=zB (And.intro hzO0 (And.intro hzO1 hzO2))
 clear hiO hzO0 hzO1 hzO2
 have HQ:=zB h
 have HINS:=zB (zCg hin)
 clear h hin
 obtain ⟨ak,ck,rfl⟩:∃ a c,kv = .slice a ks.length c:=zM (zA HQ).row
 have HXF:=zB (show (Value.slice ak ks.length ck).ownBlock ≠ some w.heap.size from fun e=>by have:=((zA HQ).row.lt _ e).2; omega)
 rcases (zA HQ).mp with ⟨rfl,hks⟩ | ⟨bm,rfl,hbm,hmap⟩
 ·have heq:=fun w1=>zPI w1
  have hmm:=@run_makeMap Tryz.prog
  have HKS:=zB hks
  clear hks
  go_enter Tryz.func157,Tryz.ntmps157
  go_wp2_with (first | (go_at_call 196; rw [<- zA HW0]; (with_reducible refine (zA HH).mono ?_); rintro e w1 ⟨⟨v,rfl,hv⟩,hx⟩; have HB1:=zB hx; obtain rfl:v = false:=(by cases v; rfl; exact absurd (hv.1 rfl) (zA HNI)); clear hv hx; have hz1:w.heap.size + 1 <= w1.heap.size:=(by have:=(zA HB1).size; rw [zA HZ0] at this; exact this); have hbw1:b < w1.heap.size:=(by omega); have HBW:=zB (show Below w.heap.size w w1 from (zA HB0).trans ((zA HB1).mono (by rw [zA HZ0]; omega))); have h1:=(zA HQ).below (zA HBW); have hbel1:∀ j,w1.cell? ⟨w.heap.size,j,none⟩ = W0.cell? ⟨w.heap.size,j,none⟩:=(fun j=>(zA HB1).cell (p:=⟨w.heap.size,j,none⟩) (by show w.heap.size < W0.heap.size; rw [zA HZ0]; omega)); have j0:=(hbel1 0).trans k0; have j1:=(hbel1 1).trans k1; have j2:=(hbel1 2).trans k2; have j3:=(hbel1 3).trans k3; clear hbel1 k0 k1 k2 k3 HH; have c0:=h1.c0; have c1:=h1.c1; have f0:=h1.f0; have f1:=h1.f1; have HQ1:=zB h1; clear h1))
  obtain ⟨W,hW⟩:∃ W,W = (w1.setCell ⟨b,o + 1,none⟩ (.map (some w1.heap.size))).alloc (.map #[] 0):=⟨_,rfl⟩
  have hzz:(w1.setCell ⟨b,o + 1,none⟩ (.map (some w1.heap.size))).heap.size = w1.heap.size:=by simp [World.setCell]
  have hWs:w1.heap.size + 1 <= W.heap.size:=by rw [hW]; simp [World.setCell]
  have hWb:∀ i,i < w1.heap.size -> i ≠ b -> W.heap[i]? = w1.heap[i]?:=fun i hi hne=>by
   rw [hW,(zC (w1.setCell ⟨b,o + 1,none⟩ (.map (some w1.heap.size))) (.map #[] 0)).block i (by rw [hzz]; exact hi)]
   exact Below.heap_setCell _ _ _ _ (by simpa using hne)
  have hWc:∀ o',o' ≠ o + 1 -> W.cell? ⟨b,o',none⟩ = w1.cell? ⟨b,o',none⟩:=fun o' ho=>by
   rw [hW,(zC (w1.setCell ⟨b,o + 1,none⟩ (.map (some w1.heap.size))) (.map #[] 0)).cell (p:=⟨b,o',none⟩) (by show b < _; rw [hzz]; exact hbw1)]
   exact World.cell?_setCell_other _ _ _ _ (by first | (simp; done) | (simp; omega) | (intro x; injection x with _ x; omega))
  have hWf:∀ o',W.frozen? ⟨b,o',none⟩ = w1.frozen? ⟨b,o',none⟩:=fun o'=>by
   rw [hW,(zC (w1.setCell ⟨b,o + 1,none⟩ (.map (some w1.heap.size))) (.map #[] 0)).frozen (p:=⟨b,o',none⟩) (by show b < _; rw [hzz]; exact hbw1)]
   exact World.frozen?_setCell _ _ _ _
  have hW1:W.cell? ⟨b,o + 1,none⟩ = some (.map (some w1.heap.size)):=by
   rw [hW,(zC (w1.setCell ⟨b,o + 1,none⟩ (.map (some w1.heap.size))) (.map #[] 0)).cell (p:=⟨b,o + 1,none⟩) (by show b < _; rw [hzz]; exact hbw1)]
   exact World.cell?_setCell_same _ _ _ c1
  have hSM:zA4 W w1.heap.size ks.length (gQ ks):=by
   have:=zA4.made (w1.setCell ⟨b,o + 1,none⟩ (.map (some w1.heap.size)))
   rw [hzz,<- hW] at this
   rw [zA HKS]
   exact this.congr (fun t=>rfl)
  obtain ⟨w3,hrun,hz3,c0',m0,m1,hXc,hr3,hfin⟩:=zJu (X:=w.heap.size) (zA HQ1) (by omega) (zA HNI) hs hl (by omega) hWb (by rw [hW]; exact ⟨rfl,rfl,rfl⟩) hWc hWf hW1 (by omega) (by omega) (fun e=>by have:=((zA HQ1).row.lt _ e).2; omega) (Or.inr ⟨_,rfl,Nat.le_refl _⟩) hSM (by omega) (by omega) (by omega)
  have HWW:=zB hW
  clear hSM hW hWb hWc hWf hzz
  have x0:=(hXc 0).1.trans j0
  have x1:=(hXc 1).1.trans j1
  have x2:=(hXc 2).1.trans j2
  have x3:=(hXc 3).1.trans j3
  have y0:=(hXc 0).2.trans j0
  have y1:=(hXc 1).2.trans j1
  have y2:=(hXc 2).2.trans j2
  have y3:=(hXc 3).2.trans j3
  have HR3:=zB hr3
  have HFIN:=zB hfin
  clear hXc hr3 hfin j0 j1 j2 j3
  rw [<- zA HWW]
  go_region
  go_wp2_with fail
  have hbw3:b < w3.heap.size:=by omega
  have hXw3:w.heap.size < w3.heap.size:=by omega
  have hbX:w.heap.size ≠ b:=by omega
  have k6:∀ o',(w3.alloc o').drew.cell? ⟨b,o,none⟩ = some (.slice ak ks.length ck):=fun o'=>((zC w3 o').cell (p:=⟨b,o,none⟩) hbw3).trans m0
  have hS0:(fun W:World=>W.cell? ⟨w.heap.size,0,none⟩ = some (.string t.s) /\ W.cell? ⟨w.heap.size,1,none⟩ = some (.int .i64 t.k) /\ W.cell? ⟨w.heap.size,2,none⟩ = some (.int .i64 t.l) /\ W.cell? ⟨w.heap.size,3,none⟩ = some (.int .i64 t.sd)) w3.drew:=⟨y0,y1,y2,y3⟩
  have HS1:=zB (show (fun W:World=>W.cell? ⟨w.heap.size,0,none⟩ = some (.string t.s) /\ W.cell? ⟨w.heap.size,1,none⟩ = some (.int .i64 t.k) /\ W.cell? ⟨w.heap.size,2,none⟩ = some (.int .i64 t.l) /\ W.cell? ⟨w.heap.size,3,none⟩ = some (.int .i64 t.sd)) (w3.alloc (.cells #[.string t.s,.int .i64 t.k,.int .i64 t.l,.int .i64 t.sd] 41)).drew from ⟨((zC w3 _).cell (p:=⟨w.heap.size,0,none⟩) hXw3).trans y0,((zC w3 _).cell (p:=⟨w.heap.size,1,none⟩) hXw3).trans y1,((zC w3 _).cell (p:=⟨w.heap.size,2,none⟩) hXw3).trans y2,((zC w3 _).cell (p:=⟨w.heap.size,3,none⟩) hXw3).trans y3⟩)
  have HNK:=zB (zA HQ).nk
  have HPO:=zB (fun w' (hh:zt w1 b o B (.slice ak ks.length ck) none (ks ++ [t]) w')=>show zB0 (.returned (.bool true)) (t ∉ ks) /\ zt w b o B (.slice ak ks.length ck) none (zCE ks t) w' from ⟨⟨true,rfl,zA0 (zA HNI)⟩,by rw [zA HINS]; exact zt.step (Eff.of_below (zA HBW) hbl _ _ _) (Or.inl rfl) (Or.inl rfl) hh⟩)
  clear hrun x0 x1 x2 x3
  refine wp_region_held_drew (S:=fun W:World=>W.cell? ⟨w.heap.size,0,none⟩ = some (.string t.s) /\ W.cell? ⟨w.heap.size,1,none⟩ = some (.int .i64 t.k) /\ W.cell? ⟨w.heap.size,2,none⟩ = some (.int .i64 t.l) /\ W.cell? ⟨w.heap.size,3,none⟩ = some (.int .i64 t.sd)) (by kernel_rfl) hS0 (fun _=>?_)
  refine wpAnyH_take (i:=0) (v:=?_) rfl (by kernel_rfl) (by kernel_rfl) (by kernel_rfl) (fun _ _ _ h=>h) (Or.inl ⟨by rfl,?_⟩) hS0 ?_
  rotate_left
  ·intro W hW; obtain ⟨s0,s1,s2,s3⟩:=hW; simp only [List.getElem_toArray,List.getElem_cons_succ,List.getElem_cons_zero]; go_simp; first | done | (with_reducible rfl)
  simp only [List.getElem_toArray,List.getElem_cons_succ,List.getElem_cons_zero]
  simp only [Act.put,List.setIfInBounds_toArray,List.set_cons_zero,List.set_cons_succ]
  refine wpAnyH_take (i:=1) (v:=?_) rfl (by kernel_rfl) (by kernel_rfl) (by kernel_rfl) (fun _ _ _ h=>h) (Or.inl ⟨by rfl,?_⟩) hS0 ?_
  rotate_left
  ·intro W hW; obtain ⟨s0,s1,s2,s3⟩:=hW; simp only [List.getElem_toArray,List.getElem_cons_succ,List.getElem_cons_zero]; go_simp; first | done | (with_reducible rfl)
  simp only [List.getElem_toArray,List.getElem_cons_succ,List.getElem_cons_zero]
  simp only [Act.put,List.setIfInBounds_toArray,List.set_cons_zero,List.set_cons_succ]
  refine wpAnyH_take (i:=2) (v:=?_) rfl (by kernel_rfl) (by kernel_rfl) (by kernel_rfl) (fun _ _ _ h=>h) (Or.inl ⟨by rfl,?_⟩) hS0 ?_
  rotate_left
  ·intro W hW; obtain ⟨s0,s1,s2,s3⟩:=hW; simp only [List.getElem_toArray,List.getElem_cons_succ,List.getElem_cons_zero]; go_simp; first | done | (with_reducible rfl)
  simp only [List.getElem_toArray,List.getElem_cons_succ,List.getElem_cons_zero]
  simp only [Act.put,List.setIfInBounds_toArray,List.set_cons_zero,List.set_cons_succ]
  refine wpAnyH_take (i:=3) (v:=?_) rfl (by kernel_rfl) (by kernel_rfl) (by kernel_rfl) (fun _ _ _ h=>h) (Or.inl ⟨by rfl,?_⟩) hS0 ?_
  rotate_left
  ·intro W hW; obtain ⟨s0,s1,s2,s3⟩:=hW; simp only [List.getElem_toArray,List.getElem_cons_succ,List.getElem_cons_zero]; go_simp; first | done | (with_reducible rfl)
  simp only [List.getElem_toArray,List.getElem_cons_succ,List.getElem_cons_zero]
  simp only [Act.put,List.setIfInBounds_toArray,List.set_cons_zero,List.set_cons_succ]
  refine wpAnyH_take (i:=5) (v:=?_) rfl (by kernel_rfl) (by kernel_rfl) (by kernel_rfl) (fun _ _ _ h=>h) (Or.inl ⟨by rfl,?_⟩) hS0 ?_
  rotate_left
  ·intro W hW; obtain ⟨s0,s1,s2,s3⟩:=hW; simp only [List.getElem_toArray,List.getElem_cons_succ,List.getElem_cons_zero]; go_simp; first | done | (with_reducible rfl)
  simp only [List.getElem_toArray,List.getElem_cons_succ,List.getElem_cons_zero]
  simp only [Act.put,List.setIfInBounds_toArray,List.set_cons_zero,List.set_cons_succ]
  refine wpAnyH_ready (rs:=[4,6]) (by kernel_rfl) (by simp) ?_
  refine AllReadyH.cons rfl (fun K hK=>?_) (AllReadyH.cons rfl (fun K hK=>?_) AllReadyH.nil)
  ·simp only [List.getElem_toArray,List.getElem_cons_succ,List.getElem_cons_zero]
   go_simp
   refine hK.out _ _ hS0 (fun _=>?_)
   clear hK
   refine wpAnyH_ready (rs:=[6]) (by kernel_rfl) (by simp) ?_
   refine AllReadyH.cons rfl (fun K hK=>?_) AllReadyH.nil
   simp only [List.getElem_toArray,List.getElem_cons_succ,List.getElem_cons_zero]
   go_simp
   refine hK.out _ _ (zA HS1) (fun _=>?_)
   clear hK
   refine wpAnyH_ready (rs:=[7]) (by kernel_rfl) (by simp) ?_
   refine AllReadyH.cons rfl (fun K hK=>?_) AllReadyH.nil
   refine step_append_lies _ (by rfl) (.tmp 31) (.tmp 33) 59 (by rfl) B 41 iO _ 4 40 Tryz.underlying59 (zA HI) (zA HZ).1 (zA HZ).2.1 (zA HZ).2.2 rfl (by decide) _ ks.length (zP ks) (by rfl) ((zA HR3).below ((zC _ _).drew)) ⟨w3.heap.size,0,none⟩ 1 1 (zP [t]) (by rfl) rfl (fun j u hj=>(by simpa using zAh w3 t j u hj)) (ZT _) (by decide) (by unfold maxLen; omega) (by omega) (by simp; omega) _ rfl ?_
   intro g4 c4 w4 hown4 hgrow4 hat4 hlt4
   have m2:w4.cell? ⟨b,o,none⟩ = some (.slice ak ks.length ck):=(zE hgrow4 (b:=b) (by simp; omega) (zA HNK) o).trans (k6 _)
   have m3:w4.frozen? ⟨b,o,none⟩ = false:=(zU hgrow4 (b:=b) (by simp; omega) (zA HNK) o).trans (((zC w3 _).frozen (p:=⟨b,o,none⟩) hbw3).trans m1)
   have ec:=fun j=>zE hgrow4 (b:=w.heap.size) (by simp; omega) (zA HXF) j
   have e0:w4.cell? ⟨w.heap.size,0,none⟩ = some (.string t.s):=(ec 0).trans (zA HS1).1
   have e1:w4.cell? ⟨w.heap.size,1,none⟩ = some (.int .i64 t.k):=(ec 1).trans (zA HS1).2.1
   have e2:w4.cell? ⟨w.heap.size,2,none⟩ = some (.int .i64 t.l):=(ec 2).trans (zA HS1).2.2.1
   have e3:w4.cell? ⟨w.heap.size,3,none⟩ = some (.int .i64 t.sd):=(ec 3).trans (zA HS1).2.2.2
   have HF4:=zB ((zA HPO) _ ((zA HFIN) _ _ _ _ hown4 hgrow4 (hat4.imp id (fun e=>e.trans (by simp)))))
   clear hown4 hgrow4 hat4 hlt4 ec
   refine hK.out _ _ ⟨e0,e1,e2,e3⟩ (fun hS4=>?_)
   clear hK
   simp only [List.getElem_toArray,List.getElem_cons_succ,List.getElem_cons_zero]
   simp only [Act.put,List.setIfInBounds_toArray,List.set_cons_zero,List.set_cons_succ]
   refine wpAnyH_take (i:=8) (v:=?_) rfl (by kernel_rfl) (by kernel_rfl) (by kernel_rfl) (fun _ _ _ h=>h) (Or.inl ⟨by rfl,?_⟩) hS4 ?_
   rotate_left
   ·intro W hW; obtain ⟨s0,s1,s2,s3⟩:=hW; simp only [List.getElem_toArray,List.getElem_cons_succ,List.getElem_cons_zero]; go_simp; first | done | (with_reducible rfl)
   simp only [List.getElem_toArray,List.getElem_cons_succ,List.getElem_cons_zero]
   simp only [Act.put,List.setIfInBounds_toArray,List.set_cons_zero,List.set_cons_succ]
   refine wpAnyH_take (i:=9) (v:=?_) rfl (by kernel_rfl) (by kernel_rfl) (by kernel_rfl) (fun _ _ _ h=>h) (Or.inl ⟨by rfl,?_⟩) hS4 ?_
   rotate_left
   ·intro W hW; obtain ⟨s0,s1,s2,s3⟩:=hW; simp only [List.getElem_toArray,List.getElem_cons_succ,List.getElem_cons_zero]; go_simp; first | done | (with_reducible rfl)
   simp only [List.getElem_toArray,List.getElem_cons_succ,List.getElem_cons_zero]
   simp only [Act.put,List.setIfInBounds_toArray,List.set_cons_zero,List.set_cons_succ]
   refine wpAnyH_ready (rs:=[10]) (by kernel_rfl) (by simp) ?_
   refine AllReadyH.cons rfl (fun K hK=>?_) AllReadyH.nil
   simp only [List.getElem_toArray,List.getElem_cons_succ,List.getElem_cons_zero]
   go_simp
   refine hK.out _ _ ⟨by rw [World.cell?_setCell_other _ _ _ _ (by simp [hbX])]; exact e0,by rw [World.cell?_setCell_other _ _ _ _ (by simp [hbX])]; exact e1,by rw [World.cell?_setCell_other _ _ _ _ (by simp [hbX])]; exact e2,by rw [World.cell?_setCell_other _ _ _ _ (by simp [hbX])]; exact e3⟩ (fun hS5=>?_)
   clear hK
   refine wpAnyH_done (by kernel_rfl) ?_ _
   clear hS4 hS5
   go_wp2_with fail
   go_ret
   exact zA HF4
  ·simp only [List.getElem_toArray,List.getElem_cons_succ,List.getElem_cons_zero]
   go_simp
   refine hK.out _ _ (zA HS1) (fun _=>?_)
   clear hK
   refine wpAnyH_ready (rs:=[4]) (by kernel_rfl) (by simp) ?_
   refine AllReadyH.cons rfl (fun K hK=>?_) AllReadyH.nil
   simp only [List.getElem_toArray,List.getElem_cons_succ,List.getElem_cons_zero]
   go_simp
   refine hK.out _ _ (zA HS1) (fun _=>?_)
   clear hK
   refine wpAnyH_ready (rs:=[7]) (by kernel_rfl) (by simp) ?_
   refine AllReadyH.cons rfl (fun K hK=>?_) AllReadyH.nil
   refine step_append_lies _ (by rfl) (.tmp 31) (.tmp 33) 59 (by rfl) B 41 iO _ 4 40 Tryz.underlying59 (zA HI) (zA HZ).1 (zA HZ).2.1 (zA HZ).2.2 rfl (by decide) _ ks.length (zP ks) (by rfl) ((zA HR3).below ((zC _ _).drew)) ⟨w3.heap.size,0,none⟩ 1 1 (zP [t]) (by rfl) rfl (fun j u hj=>(by simpa using zAh w3 t j u hj)) (ZT _) (by decide) (by unfold maxLen; omega) (by omega) (by simp; omega) _ rfl ?_
   intro g4 c4 w4 hown4 hgrow4 hat4 hlt4
   have m2:w4.cell? ⟨b,o,none⟩ = some (.slice ak ks.length ck):=(zE hgrow4 (b:=b) (by simp; omega) (zA HNK) o).trans (k6 _)
   have m3:w4.frozen? ⟨b,o,none⟩ = false:=(zU hgrow4 (b:=b) (by simp; omega) (zA HNK) o).trans (((zC w3 _).frozen (p:=⟨b,o,none⟩) hbw3).trans m1)
   have ec:=fun j=>zE hgrow4 (b:=w.heap.size) (by simp; omega) (zA HXF) j
   have e0:w4.cell? ⟨w.heap.size,0,none⟩ = some (.string t.s):=(ec 0).trans (zA HS1).1
   have e1:w4.cell? ⟨w.heap.size,1,none⟩ = some (.int .i64 t.k):=(ec 1).trans (zA HS1).2.1
   have e2:w4.cell? ⟨w.heap.size,2,none⟩ = some (.int .i64 t.l):=(ec 2).trans (zA HS1).2.2.1
   have e3:w4.cell? ⟨w.heap.size,3,none⟩ = some (.int .i64 t.sd):=(ec 3).trans (zA HS1).2.2.2
   have HF4:=zB ((zA HPO) _ ((zA HFIN) _ _ _ _ hown4 hgrow4 (hat4.imp id (fun e=>e.trans (by simp)))))
   clear hown4 hgrow4 hat4 hlt4 ec
   refine hK.out _ _ ⟨e0,e1,e2,e3⟩ (fun hS4=>?_)
   clear hK
   simp only [List.getElem_toArray,List.getElem_cons_succ,List.getElem_cons_zero]
   simp only [Act.put,List.setIfInBounds_toArray,List.set_cons_zero,List.set_cons_succ]
   refine wpAnyH_take (i:=8) (v:=?_) rfl (by kernel_rfl) (by kernel_rfl) (by kernel_rfl) (fun _ _ _ h=>h) (Or.inl ⟨by rfl,?_⟩) hS4 ?_
   rotate_left
   ·intro W hW; obtain ⟨s0,s1,s2,s3⟩:=hW; simp only [List.getElem_toArray,List.getElem_cons_succ,List.getElem_cons_zero]; go_simp; first | done | (with_reducible rfl)
   simp only [List.getElem_toArray,List.getElem_cons_succ,List.getElem_cons_zero]
   simp only [Act.put,List.setIfInBounds_toArray,List.set_cons_zero,List.set_cons_succ]
   refine wpAnyH_take (i:=9) (v:=?_) rfl (by kernel_rfl) (by kernel_rfl) (by kernel_rfl) (fun _ _ _ h=>h) (Or.inl ⟨by rfl,?_⟩) hS4 ?_
   rotate_left
   ·intro W hW; obtain ⟨s0,s1,s2,s3⟩:=hW; simp only [List.getElem_toArray,List.getElem_cons_succ,List.getElem_cons_zero]; go_simp; first | done | (with_reducible rfl)
   simp only [List.getElem_toArray,List.getElem_cons_succ,List.getElem_cons_zero]
   simp only [Act.put,List.setIfInBounds_toArray,List.set_cons_zero,List.set_cons_succ]
   refine wpAnyH_ready (rs:=[10]) (by kernel_rfl) (by simp) ?_
   refine AllReadyH.cons rfl (fun K hK=>?_) AllReadyH.nil
   simp only [List.getElem_toArray,List.getElem_cons_succ,List.getElem_cons_zero]
   go_simp
   refine hK.out _ _ ⟨by rw [World.cell?_setCell_other _ _ _ _ (by simp [hbX])]; exact e0,by rw [World.cell?_setCell_other _ _ _ _ (by simp [hbX])]; exact e1,by rw [World.cell?_setCell_other _ _ _ _ (by simp [hbX])]; exact e2,by rw [World.cell?_setCell_other _ _ _ _ (by simp [hbX])]; exact e3⟩ (fun hS5=>?_)
   clear hK
   refine wpAnyH_done (by kernel_rfl) ?_ _
   clear hS4 hS5
   go_wp2_with fail
   go_ret
   exact zA HF4
 ·have heq:=fun w1=>zNq bm w1
  have hbmb:bm ≠ b:=fun e=>(zA HQ).np (by rw [e])
  have hbmk:(Value.slice ak ks.length ck).ownBlock ≠ some bm:=fun e=>(zA HQ).nn bm e rfl
  have hbml:=hmap.lt
  have HMAP:=zB hmap
  clear hmap
  go_enter Tryz.func157,Tryz.ntmps157
  go_wp2_with (first | (go_at_call 196; rw [<- zA HW0]; (with_reducible refine (zA HH).mono ?_); rintro e w1 ⟨⟨v,rfl,hv⟩,hx⟩; have HB1:=zB hx; obtain rfl:v = false:=(by cases v; rfl; exact absurd (hv.1 rfl) (zA HNI)); clear hv hx; have hz1:w.heap.size + 1 <= w1.heap.size:=(by have:=(zA HB1).size; rw [zA HZ0] at this; exact this); have hbw1:b < w1.heap.size:=(by omega); have HBW:=zB (show Below w.heap.size w w1 from (zA HB0).trans ((zA HB1).mono (by rw [zA HZ0]; omega))); have h1:=(zA HQ).below (zA HBW); have hbel1:∀ j,w1.cell? ⟨w.heap.size,j,none⟩ = W0.cell? ⟨w.heap.size,j,none⟩:=(fun j=>(zA HB1).cell (p:=⟨w.heap.size,j,none⟩) (by show w.heap.size < W0.heap.size; rw [zA HZ0]; omega)); have j0:=(hbel1 0).trans k0; have j1:=(hbel1 1).trans k1; have j2:=(hbel1 2).trans k2; have j3:=(hbel1 3).trans k3; clear hbel1 k0 k1 k2 k3 HH; have c0:=h1.c0; have c1:=h1.c1; have f0:=h1.f0; have f1:=h1.f1; have HQ1:=zB h1; clear h1))
  have hSM:zA4 w1 bm ks.length (gQ ks):=(zA HMAP).kept (zF (zA HBW) none) (by simp)
  obtain ⟨w3,hrun,hz3,c0',m0,m1,hXc,hr3,hfin⟩:=zJu (X:=w.heap.size) (zA HQ1) (by omega) (zA HNI) hs hl (Nat.le_refl _) (fun _ _ _=>rfl) ⟨rfl,rfl,rfl⟩ (fun _ _=>rfl) (fun _=>rfl) c1 hbm hbmb hbmk (Or.inl rfl) hSM (by omega) (by omega) (by omega)
  clear hSM
  have x0:=(hXc 0).1.trans j0
  have x1:=(hXc 1).1.trans j1
  have x2:=(hXc 2).1.trans j2
  have x3:=(hXc 3).1.trans j3
  have y0:=(hXc 0).2.trans j0
  have y1:=(hXc 1).2.trans j1
  have y2:=(hXc 2).2.trans j2
  have y3:=(hXc 3).2.trans j3
  have HR3:=zB hr3
  have HFIN:=zB hfin
  clear hXc hr3 hfin j0 j1 j2 j3
  go_region
  go_wp2_with fail
  have hbw3:b < w3.heap.size:=by omega
  have hXw3:w.heap.size < w3.heap.size:=by omega
  have hbX:w.heap.size ≠ b:=by omega
  have k6:∀ o',(w3.alloc o').drew.cell? ⟨b,o,none⟩ = some (.slice ak ks.length ck):=fun o'=>((zC w3 o').cell (p:=⟨b,o,none⟩) hbw3).trans m0
  have hS0:(fun W:World=>W.cell? ⟨w.heap.size,0,none⟩ = some (.string t.s) /\ W.cell? ⟨w.heap.size,1,none⟩ = some (.int .i64 t.k) /\ W.cell? ⟨w.heap.size,2,none⟩ = some (.int .i64 t.l) /\ W.cell? ⟨w.heap.size,3,none⟩ = some (.int .i64 t.sd)) w3.drew:=⟨y0,y1,y2,y3⟩
  have HS1:=zB (show (fun W:World=>W.cell? ⟨w.heap.size,0,none⟩ = some (.string t.s) /\ W.cell? ⟨w.heap.size,1,none⟩ = some (.int .i64 t.k) /\ W.cell? ⟨w.heap.size,2,none⟩ = some (.int .i64 t.l) /\ W.cell? ⟨w.heap.size,3,none⟩ = some (.int .i64 t.sd)) (w3.alloc (.cells #[.string t.s,.int .i64 t.k,.int .i64 t.l,.int .i64 t.sd] 41)).drew from ⟨((zC w3 _).cell (p:=⟨w.heap.size,0,none⟩) hXw3).trans y0,((zC w3 _).cell (p:=⟨w.heap.size,1,none⟩) hXw3).trans y1,((zC w3 _).cell (p:=⟨w.heap.size,2,none⟩) hXw3).trans y2,((zC w3 _).cell (p:=⟨w.heap.size,3,none⟩) hXw3).trans y3⟩)
  have HNK:=zB (zA HQ).nk
  have HPO:=zB (fun w' (hh:zt w1 b o B (.slice ak ks.length ck) (some bm) (ks ++ [t]) w')=>show zB0 (.returned (.bool true)) (t ∉ ks) /\ zt w b o B (.slice ak ks.length ck) (some bm) (zCE ks t) w' from ⟨⟨true,rfl,zA0 (zA HNI)⟩,by rw [zA HINS]; exact zt.step (Eff.of_below (zA HBW) hbl _ _ _) (Or.inl rfl) (Or.inl rfl) hh⟩)
  clear hrun x0 x1 x2 x3
  refine wp_region_held_drew (S:=fun W:World=>W.cell? ⟨w.heap.size,0,none⟩ = some (.string t.s) /\ W.cell? ⟨w.heap.size,1,none⟩ = some (.int .i64 t.k) /\ W.cell? ⟨w.heap.size,2,none⟩ = some (.int .i64 t.l) /\ W.cell? ⟨w.heap.size,3,none⟩ = some (.int .i64 t.sd)) (by kernel_rfl) hS0 (fun _=>?_)
  refine wpAnyH_take (i:=0) (v:=?_) rfl (by kernel_rfl) (by kernel_rfl) (by kernel_rfl) (fun _ _ _ h=>h) (Or.inl ⟨by rfl,?_⟩) hS0 ?_
  rotate_left
  ·intro W hW; obtain ⟨s0,s1,s2,s3⟩:=hW; simp only [List.getElem_toArray,List.getElem_cons_succ,List.getElem_cons_zero]; go_simp; first | done | (with_reducible rfl)
  simp only [List.getElem_toArray,List.getElem_cons_succ,List.getElem_cons_zero]
  simp only [Act.put,List.setIfInBounds_toArray,List.set_cons_zero,List.set_cons_succ]
  refine wpAnyH_take (i:=1) (v:=?_) rfl (by kernel_rfl) (by kernel_rfl) (by kernel_rfl) (fun _ _ _ h=>h) (Or.inl ⟨by rfl,?_⟩) hS0 ?_
  rotate_left
  ·intro W hW; obtain ⟨s0,s1,s2,s3⟩:=hW; simp only [List.getElem_toArray,List.getElem_cons_succ,List.getElem_cons_zero]; go_simp; first | done | (with_reducible rfl)
  simp only [List.getElem_toArray,List.getElem_cons_succ,List.getElem_cons_zero]
  simp only [Act.put,List.setIfInBounds_toArray,List.set_cons_zero,List.set_cons_succ]
  refine wpAnyH_take (i:=2) (v:=?_) rfl (by kernel_rfl) (by kernel_rfl) (by kernel_rfl) (fun _ _ _ h=>h) (Or.inl ⟨by rfl,?_⟩) hS0 ?_
  rotate_left
  ·intro W hW; obtain ⟨s0,s1,s2,s3⟩:=hW; simp only [List.getElem_toArray,List.getElem_cons_succ,List.getElem_cons_zero]; go_simp; first | done | (with_reducible rfl)
  simp only [List.getElem_toArray,List.getElem_cons_succ,List.getElem_cons_zero]
  simp only [Act.put,List.setIfInBounds_toArray,List.set_cons_zero,List.set_cons_succ]
  refine wpAnyH_take (i:=3) (v:=?_) rfl (by kernel_rfl) (by kernel_rfl) (by kernel_rfl) (fun _ _ _ h=>h) (Or.inl ⟨by rfl,?_⟩) hS0 ?_
  rotate_left
  ·intro W hW; obtain ⟨s0,s1,s2,s3⟩:=hW; simp only [List.getElem_toArray,List.getElem_cons_succ,List.getElem_cons_zero]; go_simp; first | done | (with_reducible rfl)
  simp only [List.getElem_toArray,List.getElem_cons_succ,List.getElem_cons_zero]
  simp only [Act.put,List.setIfInBounds_toArray,List.set_cons_zero,List.set_cons_succ]
  refine wpAnyH_take (i:=5) (v:=?_) rfl (by kernel_rfl) (by kernel_rfl) (by kernel_rfl) (fun _ _ _ h=>h) (Or.inl ⟨by rfl,?_⟩) hS0 ?_
  rotate_left
  ·intro W hW; obtain ⟨s0,s1,s2,s3⟩:=hW; simp only [List.getElem_toArray,List.getElem_cons_succ,List.getElem_cons_zero]; go_simp; first | done | (with_reducible rfl)
  simp only [List.getElem_toArray,List.getElem_cons_succ,List.getElem_cons_zero]
  simp only [Act.put,List.setIfInBounds_toArray,List.set_cons_zero,List.set_cons_succ]
  refine wpAnyH_ready (rs:=[4,6]) (by kernel_rfl) (by simp) ?_
  refine AllReadyH.cons rfl (fun K hK=>?_) (AllReadyH.cons rfl (fun K hK=>?_) AllReadyH.nil)
  ·simp only [List.getElem_toArray,List.getElem_cons_succ,List.getElem_cons_zero]
   go_simp
   refine hK.out _ _ hS0 (fun _=>?_)
   clear hK
   refine wpAnyH_ready (rs:=[6]) (by kernel_rfl) (by simp) ?_
   refine AllReadyH.cons rfl (fun K hK=>?_) AllReadyH.nil
   simp only [List.getElem_toArray,List.getElem_cons_succ,List.getElem_cons_zero]
   go_simp
   refine hK.out _ _ (zA HS1) (fun _=>?_)
   clear hK
   refine wpAnyH_ready (rs:=[7]) (by kernel_rfl) (by simp) ?_
   refine AllReadyH.cons rfl (fun K hK=>?_) AllReadyH.nil
   refine step_append_lies _ (by rfl) (.tmp 31) (.tmp 33) 59 (by rfl) B 41 iO _ 4 40 Tryz.underlying59 (zA HI) (zA HZ).1 (zA HZ).2.1 (zA HZ).2.2 rfl (by decide) _ ks.length (zP ks) (by rfl) ((zA HR3).below ((zC _ _).drew)) ⟨w3.heap.size,0,none⟩ 1 1 (zP [t]) (by rfl) rfl (fun j u hj=>(by simpa using zAh w3 t j u hj)) (ZT _) (by decide) (by unfold maxLen; omega) (by omega) (by simp; omega) _ rfl ?_
   intro g4 c4 w4 hown4 hgrow4 hat4 hlt4
   have m2:w4.cell? ⟨b,o,none⟩ = some (.slice ak ks.length ck):=(zE hgrow4 (b:=b) (by simp; omega) (zA HNK) o).trans (k6 _)
   have m3:w4.frozen? ⟨b,o,none⟩ = false:=(zU hgrow4 (b:=b) (by simp; omega) (zA HNK) o).trans (((zC w3 _).frozen (p:=⟨b,o,none⟩) hbw3).trans m1)
   have ec:=fun j=>zE hgrow4 (b:=w.heap.size) (by simp; omega) (zA HXF) j
   have e0:w4.cell? ⟨w.heap.size,0,none⟩ = some (.string t.s):=(ec 0).trans (zA HS1).1
   have e1:w4.cell? ⟨w.heap.size,1,none⟩ = some (.int .i64 t.k):=(ec 1).trans (zA HS1).2.1
   have e2:w4.cell? ⟨w.heap.size,2,none⟩ = some (.int .i64 t.l):=(ec 2).trans (zA HS1).2.2.1
   have e3:w4.cell? ⟨w.heap.size,3,none⟩ = some (.int .i64 t.sd):=(ec 3).trans (zA HS1).2.2.2
   have HF4:=zB ((zA HPO) _ ((zA HFIN) _ _ _ _ hown4 hgrow4 (hat4.imp id (fun e=>e.trans (by simp)))))
   clear hown4 hgrow4 hat4 hlt4 ec
   refine hK.out _ _ ⟨e0,e1,e2,e3⟩ (fun hS4=>?_)
   clear hK
   simp only [List.getElem_toArray,List.getElem_cons_succ,List.getElem_cons_zero]
   simp only [Act.put,List.setIfInBounds_toArray,List.set_cons_zero,List.set_cons_succ]
   refine wpAnyH_take (i:=8) (v:=?_) rfl (by kernel_rfl) (by kernel_rfl) (by kernel_rfl) (fun _ _ _ h=>h) (Or.inl ⟨by rfl,?_⟩) hS4 ?_
   rotate_left
   ·intro W hW; obtain ⟨s0,s1,s2,s3⟩:=hW; simp only [List.getElem_toArray,List.getElem_cons_succ,List.getElem_cons_zero]; go_simp; first | done | (with_reducible rfl)
   simp only [List.getElem_toArray,List.getElem_cons_succ,List.getElem_cons_zero]
   simp only [Act.put,List.setIfInBounds_toArray,List.set_cons_zero,List.set_cons_succ]
   refine wpAnyH_take (i:=9) (v:=?_) rfl (by kernel_rfl) (by kernel_rfl) (by kernel_rfl) (fun _ _ _ h=>h) (Or.inl ⟨by rfl,?_⟩) hS4 ?_
   rotate_left
   ·intro W hW; obtain ⟨s0,s1,s2,s3⟩:=hW; simp only [List.getElem_toArray,List.getElem_cons_succ,List.getElem_cons_zero]; go_simp; first | done | (with_reducible rfl)
   simp only [List.getElem_toArray,List.getElem_cons_succ,List.getElem_cons_zero]
   simp only [Act.put,List.setIfInBounds_toArray,List.set_cons_zero,List.set_cons_succ]
   refine wpAnyH_ready (rs:=[10]) (by kernel_rfl) (by simp) ?_
   refine AllReadyH.cons rfl (fun K hK=>?_) AllReadyH.nil
   simp only [List.getElem_toArray,List.getElem_cons_succ,List.getElem_cons_zero]
   go_simp
   refine hK.out _ _ ⟨by rw [World.cell?_setCell_other _ _ _ _ (by simp [hbX])]; exact e0,by rw [World.cell?_setCell_other _ _ _ _ (by simp [hbX])]; exact e1,by rw [World.cell?_setCell_other _ _ _ _ (by simp [hbX])]; exact e2,by rw [World.cell?_setCell_other _ _ _ _ (by simp [hbX])]; exact e3⟩ (fun hS5=>?_)
   clear hK
   refine wpAnyH_done (by kernel_rfl) ?_ _
   clear hS4 hS5
   go_wp2_with fail
   go_ret
   exact zA HF4
  ·simp only [List.getElem_toArray,List.getElem_cons_succ,List.getElem_cons_zero]
   go_simp
   refine hK.out _ _ (zA HS1) (fun _=>?_)
   clear hK
   refine wpAnyH_ready (rs:=[4]) (by kernel_rfl) (by simp) ?_
   refine AllReadyH.cons rfl (fun K hK=>?_) AllReadyH.nil
   simp only [List.getElem_toArray,List.getElem_cons_succ,List.getElem_cons_zero]
   go_simp
   refine hK.out _ _ (zA HS1) (fun _=>?_)
   clear hK
   refine wpAnyH_ready (rs:=[7]) (by kernel_rfl) (by simp) ?_
   refine AllReadyH.cons rfl (fun K hK=>?_) AllReadyH.nil
   refine step_append_lies _ (by rfl) (.tmp 31) (.tmp 33) 59 (by rfl) B 41 iO _ 4 40 Tryz.underlying59 (zA HI) (zA HZ).1 (zA HZ).2.1 (zA HZ).2.2 rfl (by decide) _ ks.length (zP ks) (by rfl) ((zA HR3).below ((zC _ _).drew)) ⟨w3.heap.size,0,none⟩ 1 1 (zP [t]) (by rfl) rfl (fun j u hj=>(by simpa using zAh w3 t j u hj)) (ZT _) (by decide) (by unfold maxLen; omega) (by omega) (by simp; omega) _ rfl ?_
   intro g4 c4 w4 hown4 hgrow4 hat4 hlt4
   have m2:w4.cell? ⟨b,o,none⟩ = some (.slice ak ks.length ck):=(zE hgrow4 (b:=b) (by simp; omega) (zA HNK) o).trans (k6 _)
   have m3:w4.frozen? ⟨b,o,none⟩ = false:=(zU hgrow4 (b:=b) (by simp; omega) (zA HNK) o).trans (((zC w3 _).frozen (p:=⟨b,o,none⟩) hbw3).trans m1)
   have ec:=fun j=>zE hgrow4 (b:=w.heap.size) (by simp; omega) (zA HXF) j
   have e0:w4.cell? ⟨w.heap.size,0,none⟩ = some (.string t.s):=(ec 0).trans (zA HS1).1
   have e1:w4.cell? ⟨w.heap.size,1,none⟩ = some (.int .i64 t.k):=(ec 1).trans (zA HS1).2.1
   have e2:w4.cell? ⟨w.heap.size,2,none⟩ = some (.int .i64 t.l):=(ec 2).trans (zA HS1).2.2.1
   have e3:w4.cell? ⟨w.heap.size,3,none⟩ = some (.int .i64 t.sd):=(ec 3).trans (zA HS1).2.2.2
   have HF4:=zB ((zA HPO) _ ((zA HFIN) _ _ _ _ hown4 hgrow4 (hat4.imp id (fun e=>e.trans (by simp)))))
   clear hown4 hgrow4 hat4 hlt4 ec
   refine hK.out _ _ ⟨e0,e1,e2,e3⟩ (fun hS4=>?_)
   clear hK
   simp only [List.getElem_toArray,List.getElem_cons_succ,List.getElem_cons_zero]
   simp only [Act.put,List.setIfInBounds_toArray,List.set_cons_zero,List.set_cons_succ]
   refine wpAnyH_take (i:=8) (v:=?_) rfl (by kernel_rfl) (by kernel_rfl) (by kernel_rfl) (fun _ _ _ h=>h) (Or.inl ⟨by rfl,?_⟩) hS4 ?_
   rotate_left
   ·intro W hW; obtain ⟨s0,s1,s2,s3⟩:=hW; simp only [List.getElem_toArray,List.getElem_cons_succ,List.getElem_cons_zero]; go_simp; first | done | (with_reducible rfl)
   simp only [List.getElem_toArray,List.getElem_cons_succ,List.getElem_cons_zero]
   simp only [Act.put,List.setIfInBounds_toArray,List.set_cons_zero,List.set_cons_succ]
   refine wpAnyH_take (i:=9) (v:=?_) rfl (by kernel_rfl) (by kernel_rfl) (by kernel_rfl) (fun _ _ _ h=>h) (Or.inl ⟨by rfl,?_⟩) hS4 ?_
   rotate_left
   ·intro W hW; obtain ⟨s0,s1,s2,s3⟩:=hW; simp only [List.getElem_toArray,List.getElem_cons_succ,List.getElem_cons_zero]; go_simp; first | done | (with_reducible rfl)
   simp only [List.getElem_toArray,List.getElem_cons_succ,List.getElem_cons_zero]
   simp only [Act.put,List.setIfInBounds_toArray,List.set_cons_zero,List.set_cons_succ]
   refine wpAnyH_ready (rs:=[10]) (by kernel_rfl) (by simp) ?_
   refine AllReadyH.cons rfl (fun K hK=>?_) AllReadyH.nil
   simp only [List.getElem_toArray,List.getElem_cons_succ,List.getElem_cons_zero]
   go_simp
   refine hK.out _ _ ⟨by rw [World.cell?_setCell_other _ _ _ _ (by simp [hbX])]; exact e0,by rw [World.cell?_setCell_other _ _ _ _ (by simp [hbX])]; exact e1,by rw [World.cell?_setCell_other _ _ _ _ (by simp [hbX])]; exact e2,by rw [World.cell?_setCell_other _ _ _ _ (by simp [hbX])]; exact e3⟩ (fun hS5=>?_)
   clear hK
   refine wpAnyH_done (by kernel_rfl) ?_ _
   clear hS4 hS5
   go_wp2_with fail
   go_ret
   exact zA HF4
end Go.Proofs.YtokabkhnidlcnacGreatDoor
