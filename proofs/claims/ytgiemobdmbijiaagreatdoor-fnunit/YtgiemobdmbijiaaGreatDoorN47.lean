import Derived.Deep.AppendLies
import Derived.Test.YtgiemobdmbijiaaGreatDoorN16
import Derived.Test.YtgiemobdmbijiaaGreatDoorN46
namespace Go.Proofs.YtgiemobdmbijiaaGreatDoor
set_option linter.unusedSimpArgs false
set_option linter.unusedVariables false
set_option maxHeartbeats 16000000
set_option maxRecDepth 100000
open Go.RowKit
theorem zGY (v:Value) (ws:List ByteArray) (w:World) (hs:zz w v ws) (hz:∀ x ∈ ws,x.size <= maxLen) :
  Calls Tryz.prog 27 #[v] w (zJv w ws):=
 zKt 27 v ws w hs hz (fun a c n w h=>zGX a c n w h) (fun g c n k t l sd w h1 h2 h3 h4 h5 h6=>zFH g c n k t l sd w h1 h2 h3 h4 h5 h6)
def zDI (w:World) (B U:Nat) (us:List ByteArray) (os:List OpR) (b:ByteArray) (ws:List ByteArray) (e:Ending) (w':World):Prop:=
 ∃ ok:Bool,e = .returned (.bool ok) /\ ((ok = true /\ ∃ us' os' vu' vo',Zv ws us os us' os' /\ UnM w' B U vu' vo' us' os' b /\ us'.length <= us.length + 1 /\ os'.length <= os.length + 1) \/ (ok = false /\ ∀ us' os',¬ Zv ws us os us' os')) /\ Below B w w'
theorem zNJ {ws us:List ByteArray} {os:List OpR} (h0:ws ≠ []) (h2:∀ x,ws ≠ [zEM,x]) (ho:∀ o,¬ OpW ws o):∀ us' os',¬ Zv ws us os us' os':=by
 rintro us' os' (⟨e,_⟩ | ⟨x,e,_⟩ | ⟨o,e,_⟩)
 ·exact h0 e
 ·exact h2 x e
 ·exact ho o e
theorem zOW (B U:Nat) (vu vo:Value) (us:List ByteArray) (os:List OpR) (b:ByteArray) (ws:List ByteArray) (o:OpR) {w w1 w4:World} {g4 c4:Nat} (h:UnM w B U vu vo us os b) (ho:OpW ws o) (hb:Below w.heap.size w w1)
  (hown:w4.ownsRow B 46 4 (.slice (some ⟨g4,0,none⟩) (os.length + 1) c4) (os.length + 1) (zX os ++ zX [o])) (hg:w1.grownBy w4 vo.ownBlock) (hat:vo.ownBlock = some g4 \/ g4 = w1.heap.size) :
  zDI w B U us os b ws (.returned (.bool true)) (w4.setCell ⟨U,1,none⟩ (.slice (some ⟨g4,0,none⟩) (os.length + 1) c4)):=by
 have hr:zAd w4 B (.slice (some ⟨g4,0,none⟩) (os.length + 1) c4) (os ++ [o]):=by
  unfold zAd
  rw [ZY,List.length_append]
  exact hown
 obtain ⟨h1,h2⟩:=h.putO hb hg hr (hat.imp (fun e=>e.symm) (fun e=>⟨g4,rfl,by omega⟩))
 exact ⟨true,rfl,Or.inl ⟨rfl,us,os ++ [o],_,_,Or.inr (Or.inr ⟨o,ho,rfl,rfl⟩),h1,by omega,by simp⟩,h2⟩
theorem zNK (B U:Nat) (vu vo:Value) (us:List ByteArray) (os:List OpR) (b x:ByteArray) {w w1 w4:World} {g4 c4:Nat} (h:UnM w B U vu vo us os b) (hb:Below w.heap.size w w1)
  (hown:w4.ownsRow B 9 1 (.slice (some ⟨g4,0,none⟩) (us.length + 1) c4) (us.length + 1) (zH us ++ zH [x])) (hg:w1.grownBy w4 vu.ownBlock) (hat:vu.ownBlock = some g4 \/ g4 = w1.heap.size) :
  zDI w B U us os b [zEM,x] (.returned (.bool true)) (w4.setCell ⟨U,0,none⟩ (.slice (some ⟨g4,0,none⟩) (us.length + 1) c4)):=by
 have hr:za w4 B (.slice (some ⟨g4,0,none⟩) (us.length + 1) c4) (us ++ [x]):=by
  unfold za
  rw [zAc,List.length_append]
  exact hown
 obtain ⟨h1,h2⟩:=h.putU hb hg hr (hat.imp (fun e=>e.symm) (fun e=>⟨g4,rfl,by omega⟩))
 exact ⟨true,rfl,Or.inl ⟨rfl,us ++ [x],os,_,_,Or.inr (Or.inl ⟨x,rfl,rfl,rfl⟩),h1,by simp,by omega⟩,h2⟩
theorem zLZ (B U:Nat) (vu vo v:Value) (us:List ByteArray) (os:List OpR) (b:ByteArray) (ws:List ByteArray) (w:World) (h:UnM w B U vu vo us os b) (hs:zz w v ws) (hz:∀ x ∈ ws,x.size <= maxLen) (hne:∀ g,v.ownBlock = some g -> g ≠ U /\ vu.ownBlock ≠ some g) (hlu:us.length <= 20001) (hlo:os.length <= 20001) (hwl:ws.length <= 20001) :
  Calls Tryz.prog 17 #[.pointer (some ⟨U,0,none⟩),v] w (zDI w B U us os b ws):=by
 have hl:=h.lt
 have hBU:=h.hB
 have HU:=zB h
 by_cases h0:ws.length = 0
 ·have e0:ws = []:=List.length_eq_zero_iff.1 h0
  obtain ⟨a,c,rfl,_⟩:=hs
  rw [h0]
  have HP:=zB (show zDI w B U us os b ws (.returned (.bool true)) w from ⟨true,rfl,Or.inl ⟨rfl,us,os,vu,vo,Or.inl ⟨e0,rfl,rfl⟩,h,by omega,by omega⟩,Below.refl _ _⟩)
  clear h e0 h0
  go_enter Tryz.func17,Tryz.ntmps17
  go_wp2
  go_ret
  exact zA HP
 by_cases huse:∃ x,ws = [zEM,x]
 ·obtain ⟨x,rfl⟩:=huse
  obtain ⟨gw,c,rfl,hgw,hc⟩:=hs.lt (by simp)
  have k0:w.cell? ⟨gw,0,none⟩ = some (.string ⟨#[117,115,101]⟩):=hc 0 _ rfl
  have k1:w.cell? ⟨gw,1,none⟩ = some (.string x):=hc 1 _ rfl
  have hl2:[zEM,x].length = 2:=rfl
  rw [hl2]
  obtain ⟨i0,hi0,hz0,hz1,hz2⟩:=zQ zCQ
  have HI:=zB hi0
  have HZ:=zB (And.intro hz0 (And.intro hz1 hz2))
  clear hi0 hz0 hz1 hz2
  have u0:=h.c0
  have f0:=h.fz 0
  obtain ⟨au,cu,rfl⟩:=zV h.ru
  have HNW:=zB (hne gw rfl).2
  have hgU:gw ≠ U:=(hne gw rfl).1
  have HKEEP:=zB (fun (w1 w4:World) (hb:Below w.heap.size w w1) (hg:w1.grownBy w4 (Value.slice au us.length cu).ownBlock)=>h.keep hb (Or.inl rfl) hg)
  have HFIN:=zB (fun (w1 w4:World) (g4 c4:Nat)=>@zNK B U (.slice au us.length cu) vo us os b x w w1 w4 g4 c4 h)
  have HRU:=zB h.ru
  clear h hc hz hs hne
  go_enter Tryz.func17,Tryz.ntmps17
  go_wp2_with fail
  have k6:∀ o,(w.alloc o).drew.cell? ⟨U,0,none⟩ = some (.slice au us.length cu):=fun o=>((zC w o).cell (p:=⟨U,0,none⟩) hl).trans u0
  have hS0:(fun W:World=>W.cell? ⟨gw,1,none⟩ = some (.string x) /\ True) w.drew:=⟨k1,trivial⟩
  have HS1:=zB (show (fun W:World=>W.cell? ⟨gw,1,none⟩ = some (.string x) /\ True) (w.alloc (.cells #[.string x] 9)).drew from ⟨((zC w _).cell (p:=⟨gw,1,none⟩) hgw).trans k1,trivial⟩)
  refine wp_region_held_drew (S:=fun W:World=>W.cell? ⟨gw,1,none⟩ = some (.string x) /\ True) (by kernel_rfl) hS0 (fun _=>?_)
  refine wpAnyH_take (i:=0) (v:=?_) rfl (by kernel_rfl) (by kernel_rfl) (by kernel_rfl) (fun _ _ _ h=>h) (Or.inl ⟨by rfl,?_⟩) hS0 ?_
  rotate_left
  ·intro W hW; obtain ⟨s1,_⟩:=hW; simp only [List.getElem_toArray,List.getElem_cons_succ,List.getElem_cons_zero]; go_simp; first | done | (with_reducible rfl)
  simp only [List.getElem_toArray,List.getElem_cons_succ,List.getElem_cons_zero]
  simp only [Act.put,List.setIfInBounds_toArray,List.set_cons_zero,List.set_cons_succ]
  refine wpAnyH_take (i:=1) (v:=?_) rfl (by kernel_rfl) (by kernel_rfl) (by kernel_rfl) (fun _ _ _ h=>h) (Or.inl ⟨by rfl,?_⟩) hS0 ?_
  rotate_left
  ·intro W hW; obtain ⟨s1,_⟩:=hW; simp only [List.getElem_toArray,List.getElem_cons_succ,List.getElem_cons_zero]; go_simp; first | done | (with_reducible rfl)
  simp only [List.getElem_toArray,List.getElem_cons_succ,List.getElem_cons_zero]
  simp only [Act.put,List.setIfInBounds_toArray,List.set_cons_zero,List.set_cons_succ]
  refine wpAnyH_take (i:=2) (v:=?_) rfl (by kernel_rfl) (by kernel_rfl) (by kernel_rfl) (fun _ _ _ h=>h) (Or.inl ⟨by rfl,?_⟩) hS0 ?_
  rotate_left
  ·intro W hW; obtain ⟨s1,_⟩:=hW; simp only [List.getElem_toArray,List.getElem_cons_succ,List.getElem_cons_zero]; go_simp; first | done | (with_reducible rfl)
  simp only [List.getElem_toArray,List.getElem_cons_succ,List.getElem_cons_zero]
  simp only [Act.put,List.setIfInBounds_toArray,List.set_cons_zero,List.set_cons_succ]
  refine wpAnyH_take (i:=3) (v:=?_) rfl (by kernel_rfl) (by kernel_rfl) (by kernel_rfl) (fun _ _ _ h=>h) (Or.inl ⟨by rfl,?_⟩) hS0 ?_
  rotate_left
  ·intro W hW; obtain ⟨s1,_⟩:=hW; simp only [List.getElem_toArray,List.getElem_cons_succ,List.getElem_cons_zero]; go_simp; first | done | (with_reducible rfl)
  simp only [List.getElem_toArray,List.getElem_cons_succ,List.getElem_cons_zero]
  simp only [Act.put,List.setIfInBounds_toArray,List.set_cons_zero,List.set_cons_succ]
  refine wpAnyH_take (i:=5) (v:=?_) rfl (by kernel_rfl) (by kernel_rfl) (by kernel_rfl) (fun _ _ _ h=>h) (Or.inl ⟨by rfl,?_⟩) hS0 ?_
  rotate_left
  ·intro W hW; obtain ⟨s1,_⟩:=hW; simp only [List.getElem_toArray,List.getElem_cons_succ,List.getElem_cons_zero]; go_simp; first | done | (with_reducible rfl)
  simp only [List.getElem_toArray,List.getElem_cons_succ,List.getElem_cons_zero]
  simp only [Act.put,List.setIfInBounds_toArray,List.set_cons_zero,List.set_cons_succ]
  refine wpAnyH_take (i:=6) (v:=?_) rfl (by kernel_rfl) (by kernel_rfl) (by kernel_rfl) (fun _ _ _ h=>h) (Or.inl ⟨by rfl,?_⟩) hS0 ?_
  rotate_left
  ·intro W hW; obtain ⟨s1,_⟩:=hW; simp only [List.getElem_toArray,List.getElem_cons_succ,List.getElem_cons_zero]; go_simp; first | done | (with_reducible rfl)
  simp only [List.getElem_toArray,List.getElem_cons_succ,List.getElem_cons_zero]
  simp only [Act.put,List.setIfInBounds_toArray,List.set_cons_zero,List.set_cons_succ]
  refine wpAnyH_take (i:=7) (v:=?_) rfl (by kernel_rfl) (by kernel_rfl) (by kernel_rfl) (fun _ _ _ h=>h) (Or.inl ⟨by rfl,?_⟩) hS0 ?_
  rotate_left
  ·intro W hW; obtain ⟨s1,_⟩:=hW; simp only [List.getElem_toArray,List.getElem_cons_succ,List.getElem_cons_zero]; go_simp; first | done | (with_reducible rfl)
  simp only [List.getElem_toArray,List.getElem_cons_succ,List.getElem_cons_zero]
  simp only [Act.put,List.setIfInBounds_toArray,List.set_cons_zero,List.set_cons_succ]
  refine wpAnyH_ready (rs:=[4,8]) (by kernel_rfl) (by simp) ?_
  refine AllReadyH.cons rfl (fun K hK=>?_) (AllReadyH.cons rfl (fun K hK=>?_) AllReadyH.nil)
  ·simp only [List.getElem_toArray,List.getElem_cons_succ,List.getElem_cons_zero]
   go_simp
   refine hK.out _ _ hS0 (fun _=>?_)
   clear hK
   refine wpAnyH_ready (rs:=[8]) (by kernel_rfl) (by simp) ?_
   refine AllReadyH.cons rfl (fun K hK=>?_) AllReadyH.nil
   simp only [List.getElem_toArray,List.getElem_cons_succ,List.getElem_cons_zero]
   go_simp
   refine hK.out _ _ (zA HS1) (fun _=>?_)
   clear hK
   refine wpAnyH_ready (rs:=[9]) (by kernel_rfl) (by simp) ?_
   refine AllReadyH.cons rfl (fun K hK=>?_) AllReadyH.nil
   refine step_append_lies _ (by rfl) (.tmp 23) (.tmp 27) 24 (by rfl) B 9 i0 _ 1 16 Tryz.underlying24 (zA HI) (zA HZ).1 (zA HZ).2.1 (zA HZ).2.2 rfl (by decide) _ us.length (zH us) (by rfl) ((zA HRU).below ((zC _ _).drew)) ⟨w.heap.size,0,none⟩ 1 1 (zH [x]) (by rfl) rfl (fun j u hj=>ZL w x j u hj) (zS _) (by decide) (by unfold maxLen; omega) (by omega) (by simp; omega) _ rfl ?_
   intro g4 c4 w4 hown4 hgrow4 hat4 hlt4
   have hbd:Below w.heap.size w (w.alloc (.cells #[.string x] 9)).drew:=(zC _ _).drew
   obtain ⟨kc,kf⟩:=(zA HKEEP) _ _ hbd hgrow4
   have m0:=(kc 0).trans u0
   have g0:=kf 0
   have m1:w4.cell? ⟨gw,1,none⟩ = some (.string x):=(zE hgrow4 (by simp; omega) (zA HNW) 1).trans ((hbd.cell (p:=⟨gw,1,none⟩) hgw).trans k1)
   have HF4:=zB ((zA HFIN) _ _ _ _ hbd hown4 hgrow4 hat4)
   clear hown4 hgrow4 hat4 hlt4 kc kf hbd
   refine hK.out _ _ ⟨m1,trivial⟩ (fun hS4=>?_)
   clear hK
   simp only [List.getElem_toArray,List.getElem_cons_succ,List.getElem_cons_zero]
   simp only [Act.put,List.setIfInBounds_toArray,List.set_cons_zero,List.set_cons_succ]
   refine wpAnyH_take (i:=10) (v:=?_) rfl (by kernel_rfl) (by kernel_rfl) (by kernel_rfl) (fun _ _ _ h=>h) (Or.inl ⟨by rfl,?_⟩) hS4 ?_
   rotate_left
   ·intro W hW; obtain ⟨s1,_⟩:=hW; simp only [List.getElem_toArray,List.getElem_cons_succ,List.getElem_cons_zero]; go_simp; first | done | (with_reducible rfl)
   simp only [List.getElem_toArray,List.getElem_cons_succ,List.getElem_cons_zero]
   simp only [Act.put,List.setIfInBounds_toArray,List.set_cons_zero,List.set_cons_succ]
   refine wpAnyH_take (i:=11) (v:=?_) rfl (by kernel_rfl) (by kernel_rfl) (by kernel_rfl) (fun _ _ _ h=>h) (Or.inl ⟨by rfl,?_⟩) hS4 ?_
   rotate_left
   ·intro W hW; obtain ⟨s1,_⟩:=hW; simp only [List.getElem_toArray,List.getElem_cons_succ,List.getElem_cons_zero]; go_simp; first | done | (with_reducible rfl)
   simp only [List.getElem_toArray,List.getElem_cons_succ,List.getElem_cons_zero]
   simp only [Act.put,List.setIfInBounds_toArray,List.set_cons_zero,List.set_cons_succ]
   refine wpAnyH_ready (rs:=[12]) (by kernel_rfl) (by simp) ?_
   refine AllReadyH.cons rfl (fun K hK=>?_) AllReadyH.nil
   simp only [List.getElem_toArray,List.getElem_cons_succ,List.getElem_cons_zero]
   go_simp
   refine hK.out _ _ ⟨by rw [World.cell?_setCell_other _ _ _ _ (by simp [hgU])]; exact m1,trivial⟩ (fun hS5=>?_)
   clear hK
   refine wpAnyH_done (by kernel_rfl) ?_ _
   clear hS4 hS5
   go_wp2_with fail
   go_ret
   exact zA HF4
  ·simp only [List.getElem_toArray,List.getElem_cons_succ,List.getElem_cons_zero]
   go_simp
   refine hK.out _ _ (zA HS1) (fun _=>?_)
   clear hK
   refine wpAnyH_ready (rs:=[4]) (by kernel_rfl) (by simp) ?_
   refine AllReadyH.cons rfl (fun K hK=>?_) AllReadyH.nil
   simp only [List.getElem_toArray,List.getElem_cons_succ,List.getElem_cons_zero]
   go_simp
   refine hK.out _ _ (zA HS1) (fun _=>?_)
   clear hK
   refine wpAnyH_ready (rs:=[9]) (by kernel_rfl) (by simp) ?_
   refine AllReadyH.cons rfl (fun K hK=>?_) AllReadyH.nil
   refine step_append_lies _ (by rfl) (.tmp 23) (.tmp 27) 24 (by rfl) B 9 i0 _ 1 16 Tryz.underlying24 (zA HI) (zA HZ).1 (zA HZ).2.1 (zA HZ).2.2 rfl (by decide) _ us.length (zH us) (by rfl) ((zA HRU).below ((zC _ _).drew)) ⟨w.heap.size,0,none⟩ 1 1 (zH [x]) (by rfl) rfl (fun j u hj=>ZL w x j u hj) (zS _) (by decide) (by unfold maxLen; omega) (by omega) (by simp; omega) _ rfl ?_
   intro g4 c4 w4 hown4 hgrow4 hat4 hlt4
   have hbd:Below w.heap.size w (w.alloc (.cells #[.string x] 9)).drew:=(zC _ _).drew
   obtain ⟨kc,kf⟩:=(zA HKEEP) _ _ hbd hgrow4
   have m0:=(kc 0).trans u0
   have g0:=kf 0
   have m1:w4.cell? ⟨gw,1,none⟩ = some (.string x):=(zE hgrow4 (by simp; omega) (zA HNW) 1).trans ((hbd.cell (p:=⟨gw,1,none⟩) hgw).trans k1)
   have HF4:=zB ((zA HFIN) _ _ _ _ hbd hown4 hgrow4 hat4)
   clear hown4 hgrow4 hat4 hlt4 kc kf hbd
   refine hK.out _ _ ⟨m1,trivial⟩ (fun hS4=>?_)
   clear hK
   simp only [List.getElem_toArray,List.getElem_cons_succ,List.getElem_cons_zero]
   simp only [Act.put,List.setIfInBounds_toArray,List.set_cons_zero,List.set_cons_succ]
   refine wpAnyH_take (i:=10) (v:=?_) rfl (by kernel_rfl) (by kernel_rfl) (by kernel_rfl) (fun _ _ _ h=>h) (Or.inl ⟨by rfl,?_⟩) hS4 ?_
   rotate_left
   ·intro W hW; obtain ⟨s1,_⟩:=hW; simp only [List.getElem_toArray,List.getElem_cons_succ,List.getElem_cons_zero]; go_simp; first | done | (with_reducible rfl)
   simp only [List.getElem_toArray,List.getElem_cons_succ,List.getElem_cons_zero]
   simp only [Act.put,List.setIfInBounds_toArray,List.set_cons_zero,List.set_cons_succ]
   refine wpAnyH_take (i:=11) (v:=?_) rfl (by kernel_rfl) (by kernel_rfl) (by kernel_rfl) (fun _ _ _ h=>h) (Or.inl ⟨by rfl,?_⟩) hS4 ?_
   rotate_left
   ·intro W hW; obtain ⟨s1,_⟩:=hW; simp only [List.getElem_toArray,List.getElem_cons_succ,List.getElem_cons_zero]; go_simp; first | done | (with_reducible rfl)
   simp only [List.getElem_toArray,List.getElem_cons_succ,List.getElem_cons_zero]
   simp only [Act.put,List.setIfInBounds_toArray,List.set_cons_zero,List.set_cons_succ]
   refine wpAnyH_ready (rs:=[12]) (by kernel_rfl) (by simp) ?_
   refine AllReadyH.cons rfl (fun K hK=>?_) AllReadyH.nil
   simp only [List.getElem_toArray,List.getElem_cons_succ,List.getElem_cons_zero]
   go_simp
   refine hK.out _ _ ⟨by rw [World.cell?_setCell_other _ _ _ _ (by simp [hgU])]; exact m1,trivial⟩ (fun hS5=>?_)
   clear hK
   refine wpAnyH_done (by kernel_rfl) ?_ _
   clear hS4 hS5
   go_wp2_with fail
   go_ret
   exact zA HF4
 have h0':ws ≠ []:=fun e=>h0 (by rw [e]; rfl)
 have h2':∀ x,ws ≠ [zEM,x]:=fun x e=>huse ⟨x,e⟩
 obtain ⟨gw,c,rfl,hgw,hc⟩:=hs.lt (by omega)
 have HD:=zB (zGY _ ws w hs hz)
 obtain ⟨k,hk⟩:∃ k,ws[0]? = some k:=⟨_,List.getElem?_eq_getElem (by omega)⟩
 have k0:=hc 0 k hk
 have hcond:((ws.length:Int) == 2) = false \/ (((ws.length:Int) == 2) = true /\ (k.toList == [117,115,101]) = false):=by
  by_cases e:ws.length = 2
  ·right
   refine ⟨by simp; omega,zCt (fun ek=>?_)⟩
   match ws,e,hk with
   | [p,q],_,hk=>
    simp at hk
    exact huse ⟨q,by rw [hk,ek]; rfl⟩
  ·left; simp; omega
 have hn0:((ws.length:Int) == 0) = false:=by simp; omega
 have hn00:(0:Int) < (ws.length:Int):=by omega
 obtain ⟨iO,hiO,hzO0,hzO1,hzO2⟩:=zQ zC5
 have HI:=zB hiO
 have HZ:=zB (And.intro hzO0 (And.intro hzO1 hzO2))
 clear hiO hzO0 hzO1 hzO2
 have u1:=h.c1
 have f1:=h.fz 1
 obtain ⟨ao,co,rfl⟩:∃ a c,vo = .slice a os.length c:=zV h.ro
 have HKEEP:=zB (fun (w1 w4:World) (hb:Below w.heap.size w w1) (hg:w1.grownBy w4 (Value.slice ao os.length co).ownBlock)=>h.keep hb (Or.inr rfl) hg)
 have HFIN:=zB (fun (o:OpR) (ho:OpW ws o) (w1 w4:World) (g4 c4:Nat)=>@zOW B U vu (.slice ao os.length co) us os b ws o w w1 w4 g4 c4 h ho)
 have HRO:=zB h.ro
 have HNOT:=zB (fun (ho:∀ o,¬ OpW ws o)=>zNJ (us:=us) (os:=os) h0' h2' ho)
 clear h hc hz hs hne huse h0' h2' h0 hk
 rcases hcond with hc2 | ⟨hc2,hc3⟩
 all_goals
  go_enter Tryz.func17,Tryz.ntmps17
  go_wp2_with fail
  (with_reducible refine (zA HD).mono ?_)
  rintro e w1 ⟨o,ok,rfl,hcase,hb1⟩
  have HB1:=zB hb1
  have z1:=hb1.size
  have v1:w1.cell? ⟨U,1,none⟩ = some (.slice ao os.length co):=(hb1.cell (p:=⟨U,1,none⟩) hl).trans u1
  clear HD hb1 u1 f1 k0
  rcases hcase with ⟨rfl,ho⟩ | ⟨rfl,ho⟩
  ·have HO:=zB ho
   clear ho
   go_wp2_with fail
   have hl1:U < w1.heap.size:=by omega
   have hUw:w1.heap.size ≠ U:=by omega
   have v2:(w1.alloc (.cells #[.string o.s,.int .i64 o.k,.int .i64 o.l,.int .i64 o.sd] 46)).cell? ⟨U,1,none⟩ = some (.slice ao os.length co):=((zC w1 _).cell (p:=⟨U,1,none⟩) hl1).trans v1
   have k6:∀ o',((w1.alloc (.cells #[.string o.s,.int .i64 o.k,.int .i64 o.l,.int .i64 o.sd] 46)).alloc o').drew.cell? ⟨U,1,none⟩ = some (.slice ao os.length co):=fun o'=>((zC (w1.alloc (.cells #[.string o.s,.int .i64 o.k,.int .i64 o.l,.int .i64 o.sd] 46)) o').cell (p:=⟨U,1,none⟩) (by simp; omega)).trans v2
   have hS0:(fun W:World=>W.cell? ⟨w1.heap.size,0,none⟩ = some (.string o.s) /\ W.cell? ⟨w1.heap.size,1,none⟩ = some (.int .i64 o.k) /\ W.cell? ⟨w1.heap.size,2,none⟩ = some (.int .i64 o.l) /\ W.cell? ⟨w1.heap.size,3,none⟩ = some (.int .i64 o.sd)) (w1.alloc (.cells #[.string o.s,.int .i64 o.k,.int .i64 o.l,.int .i64 o.sd] 46)).drew:=⟨by simp [go_sem],by simp [go_sem],by simp [go_sem],by simp [go_sem]⟩
   have HS1:=zB (show (fun W:World=>W.cell? ⟨w1.heap.size,0,none⟩ = some (.string o.s) /\ W.cell? ⟨w1.heap.size,1,none⟩ = some (.int .i64 o.k) /\ W.cell? ⟨w1.heap.size,2,none⟩ = some (.int .i64 o.l) /\ W.cell? ⟨w1.heap.size,3,none⟩ = some (.int .i64 o.sd)) ((w1.alloc (.cells #[.string o.s,.int .i64 o.k,.int .i64 o.l,.int .i64 o.sd] 46)).alloc (.cells #[.string o.s,.int .i64 o.k,.int .i64 o.l,.int .i64 o.sd] 46)).drew from ⟨by simp [go_sem],by simp [go_sem],by simp [go_sem],by simp [go_sem]⟩)
   refine wp_region_held_drew (S:=fun W:World=>W.cell? ⟨w1.heap.size,0,none⟩ = some (.string o.s) /\ W.cell? ⟨w1.heap.size,1,none⟩ = some (.int .i64 o.k) /\ W.cell? ⟨w1.heap.size,2,none⟩ = some (.int .i64 o.l) /\ W.cell? ⟨w1.heap.size,3,none⟩ = some (.int .i64 o.sd)) (by kernel_rfl) hS0 (fun _=>?_)
   refine wpAnyH_take (i:=0) (v:=?_) rfl (by kernel_rfl) (by kernel_rfl) (by kernel_rfl) (fun _ _ _ h=>h) (Or.inl ⟨by rfl,?_⟩) hS0 ?_
   rotate_left
   ·intro W hW; obtain ⟨s0,s1,s2,s3⟩:=hW; simp only [List.getElem_toArray,List.getElem_cons_succ,List.getElem_cons_zero]; go_simp; first | done | (with_reducible rfl)
   simp only [List.getElem_toArray,List.getElem_cons_succ,List.getElem_cons_zero]
   simp only [Act.put,List.setIfInBounds_toArray,List.set_cons_zero,List.set_cons_succ]
   refine wpAnyH_take (i:=1) (v:=?_) rfl (by kernel_rfl) (by kernel_rfl) (by kernel_rfl) (fun _ _ _ h=>h) (Or.inl ⟨by rfl,?_⟩) hS0 ?_
   rotate_left
   ·intro W hW; obtain ⟨s0,s1,s2,s3⟩:=hW; simp only [List.getElem_toArray,List.getElem_cons_succ,List.getElem_cons_zero]; go_simp; first | done | (with_reducible rfl)
   simp only [List.getElem_toArray,List.getElem_cons_succ,List.getElem_cons_zero]
   simp only [Act.put,List.setIfInBounds_toArray,List.set_cons_zero,List.set_cons_succ]
   refine wpAnyH_take (i:=2) (v:=?_) rfl (by kernel_rfl) (by kernel_rfl) (by kernel_rfl) (fun _ _ _ h=>h) (Or.inl ⟨by rfl,?_⟩) hS0 ?_
   rotate_left
   ·intro W hW; obtain ⟨s0,s1,s2,s3⟩:=hW; simp only [List.getElem_toArray,List.getElem_cons_succ,List.getElem_cons_zero]; go_simp; first | done | (with_reducible rfl)
   simp only [List.getElem_toArray,List.getElem_cons_succ,List.getElem_cons_zero]
   simp only [Act.put,List.setIfInBounds_toArray,List.set_cons_zero,List.set_cons_succ]
   refine wpAnyH_take (i:=3) (v:=?_) rfl (by kernel_rfl) (by kernel_rfl) (by kernel_rfl) (fun _ _ _ h=>h) (Or.inl ⟨by rfl,?_⟩) hS0 ?_
   rotate_left
   ·intro W hW; obtain ⟨s0,s1,s2,s3⟩:=hW; simp only [List.getElem_toArray,List.getElem_cons_succ,List.getElem_cons_zero]; go_simp; first | done | (with_reducible rfl)
   simp only [List.getElem_toArray,List.getElem_cons_succ,List.getElem_cons_zero]
   simp only [Act.put,List.setIfInBounds_toArray,List.set_cons_zero,List.set_cons_succ]
   refine wpAnyH_take (i:=5) (v:=?_) rfl (by kernel_rfl) (by kernel_rfl) (by kernel_rfl) (fun _ _ _ h=>h) (Or.inl ⟨by rfl,?_⟩) hS0 ?_
   rotate_left
   ·intro W hW; obtain ⟨s0,s1,s2,s3⟩:=hW; simp only [List.getElem_toArray,List.getElem_cons_succ,List.getElem_cons_zero]; go_simp; first | done | (with_reducible rfl)
   simp only [List.getElem_toArray,List.getElem_cons_succ,List.getElem_cons_zero]
   simp only [Act.put,List.setIfInBounds_toArray,List.set_cons_zero,List.set_cons_succ]
   refine wpAnyH_ready (rs:=[4,6]) (by kernel_rfl) (by simp) ?_
   refine AllReadyH.cons rfl (fun K hK=>?_) (AllReadyH.cons rfl (fun K hK=>?_) AllReadyH.nil)
   ·simp only [List.getElem_toArray,List.getElem_cons_succ,List.getElem_cons_zero]
    go_simp
    refine hK.out _ _ hS0 (fun _=>?_)
    clear hK
    refine wpAnyH_ready (rs:=[6]) (by kernel_rfl) (by simp) ?_
    refine AllReadyH.cons rfl (fun K hK=>?_) AllReadyH.nil
    simp only [List.getElem_toArray,List.getElem_cons_succ,List.getElem_cons_zero]
    go_simp
    refine hK.out _ _ (zA HS1) (fun _=>?_)
    clear hK
    refine wpAnyH_ready (rs:=[7]) (by kernel_rfl) (by simp) ?_
    refine AllReadyH.cons rfl (fun K hK=>?_) AllReadyH.nil
    refine step_append_lies _ (by rfl) (.tmp 41) (.tmp 43) 25 (by rfl) B 46 iO _ 4 40 Tryz.underlying25 (zA HI) (zA HZ).1 (zA HZ).2.1 (zA HZ).2.2 rfl (by decide) _ os.length (zX os) (by rfl) ((zA HRO).below (((zA HB1).alloc z1 _).alloc (by simp; omega) _).drew) ⟨w1.heap.size + 1,0,none⟩ 1 1 (zX [o]) (by rfl) rfl (fun j u hj=>(by simpa using zBK (w1.alloc (.cells #[.string o.s,.int .i64 o.k,.int .i64 o.l,.int .i64 o.sd] 46)) o j u hj)) (ZZ _) (by decide) (by unfold maxLen; omega) (by omega) (by simp; omega) _ rfl ?_
    intro g4 c4 w4 hown4 hgrow4 hat4 hlt4
    have hbd:Below w.heap.size w ((w1.alloc (.cells #[.string o.s,.int .i64 o.k,.int .i64 o.l,.int .i64 o.sd] 46)).alloc (.cells #[.string o.s,.int .i64 o.k,.int .i64 o.l,.int .i64 o.sd] 46)).drew:=(((zA HB1).alloc z1 _).alloc (by simp; omega) _).drew
    obtain ⟨kc,kf⟩:=(zA HKEEP) _ _ hbd hgrow4
    have m0:w4.cell? ⟨U,1,none⟩ = some (.slice ao os.length co):=(kc 1).trans (((zA HB1).cell (p:=⟨U,1,none⟩) hl).symm.trans v1)
    have g1:=kf 1
    have hnx:(Value.slice ao os.length co).ownBlock ≠ some w1.heap.size:=fun e=>by have:=((zA HRO).lt _ e).2; omega
    have ec:=fun j=>zE hgrow4 (b:=w1.heap.size) (by simp; omega) hnx j
    have m1:w4.cell? ⟨w1.heap.size,0,none⟩ = some (.string o.s):=(ec 0).trans (zA HS1).1
    have m2:w4.cell? ⟨w1.heap.size,1,none⟩ = some (.int .i64 o.k):=(ec 1).trans (zA HS1).2.1
    have m3:w4.cell? ⟨w1.heap.size,2,none⟩ = some (.int .i64 o.l):=(ec 2).trans (zA HS1).2.2.1
    have m4:w4.cell? ⟨w1.heap.size,3,none⟩ = some (.int .i64 o.sd):=(ec 3).trans (zA HS1).2.2.2
    have HF4:=zB ((zA HFIN) o (zA HO) _ _ _ _ hbd hown4 hgrow4 hat4)
    clear hown4 hgrow4 hat4 hlt4 kc kf hbd hnx ec
    refine hK.out _ _ ⟨m1,m2,m3,m4⟩ (fun hS4=>?_)
    clear hK
    simp only [List.getElem_toArray,List.getElem_cons_succ,List.getElem_cons_zero]
    simp only [Act.put,List.setIfInBounds_toArray,List.set_cons_zero,List.set_cons_succ]
    refine wpAnyH_take (i:=8) (v:=?_) rfl (by kernel_rfl) (by kernel_rfl) (by kernel_rfl) (fun _ _ _ h=>h) (Or.inl ⟨by rfl,?_⟩) hS4 ?_
    rotate_left
    ·intro W hW; obtain ⟨s0,s1,s2,s3⟩:=hW; simp only [List.getElem_toArray,List.getElem_cons_succ,List.getElem_cons_zero]; go_simp; first | done | (with_reducible rfl)
    simp only [List.getElem_toArray,List.getElem_cons_succ,List.getElem_cons_zero]
    simp only [Act.put,List.setIfInBounds_toArray,List.set_cons_zero,List.set_cons_succ]
    refine wpAnyH_take (i:=9) (v:=?_) rfl (by kernel_rfl) (by kernel_rfl) (by kernel_rfl) (fun _ _ _ h=>h) (Or.inl ⟨by rfl,?_⟩) hS4 ?_
    rotate_left
    ·intro W hW; obtain ⟨s0,s1,s2,s3⟩:=hW; simp only [List.getElem_toArray,List.getElem_cons_succ,List.getElem_cons_zero]; go_simp; first | done | (with_reducible rfl)
    simp only [List.getElem_toArray,List.getElem_cons_succ,List.getElem_cons_zero]
    simp only [Act.put,List.setIfInBounds_toArray,List.set_cons_zero,List.set_cons_succ]
    refine wpAnyH_ready (rs:=[10]) (by kernel_rfl) (by simp) ?_
    refine AllReadyH.cons rfl (fun K hK=>?_) AllReadyH.nil
    simp only [List.getElem_toArray,List.getElem_cons_succ,List.getElem_cons_zero]
    go_simp
    refine hK.out _ _ ⟨by rw [World.cell?_setCell_other _ _ _ _ (by simp [hUw])]; exact m1,by rw [World.cell?_setCell_other _ _ _ _ (by simp [hUw])]; exact m2,by rw [World.cell?_setCell_other _ _ _ _ (by simp [hUw])]; exact m3,by rw [World.cell?_setCell_other _ _ _ _ (by simp [hUw])]; exact m4⟩ (fun hS5=>?_)
    clear hK
    refine wpAnyH_done (by kernel_rfl) ?_ _
    clear hS4 hS5
    go_wp2_with fail
    go_ret
    exact zA HF4
   ·simp only [List.getElem_toArray,List.getElem_cons_succ,List.getElem_cons_zero]
    go_simp
    refine hK.out _ _ (zA HS1) (fun _=>?_)
    clear hK
    refine wpAnyH_ready (rs:=[4]) (by kernel_rfl) (by simp) ?_
    refine AllReadyH.cons rfl (fun K hK=>?_) AllReadyH.nil
    simp only [List.getElem_toArray,List.getElem_cons_succ,List.getElem_cons_zero]
    go_simp
    refine hK.out _ _ (zA HS1) (fun _=>?_)
    clear hK
    refine wpAnyH_ready (rs:=[7]) (by kernel_rfl) (by simp) ?_
    refine AllReadyH.cons rfl (fun K hK=>?_) AllReadyH.nil
    refine step_append_lies _ (by rfl) (.tmp 41) (.tmp 43) 25 (by rfl) B 46 iO _ 4 40 Tryz.underlying25 (zA HI) (zA HZ).1 (zA HZ).2.1 (zA HZ).2.2 rfl (by decide) _ os.length (zX os) (by rfl) ((zA HRO).below (((zA HB1).alloc z1 _).alloc (by simp; omega) _).drew) ⟨w1.heap.size + 1,0,none⟩ 1 1 (zX [o]) (by rfl) rfl (fun j u hj=>(by simpa using zBK (w1.alloc (.cells #[.string o.s,.int .i64 o.k,.int .i64 o.l,.int .i64 o.sd] 46)) o j u hj)) (ZZ _) (by decide) (by unfold maxLen; omega) (by omega) (by simp; omega) _ rfl ?_
    intro g4 c4 w4 hown4 hgrow4 hat4 hlt4
    have hbd:Below w.heap.size w ((w1.alloc (.cells #[.string o.s,.int .i64 o.k,.int .i64 o.l,.int .i64 o.sd] 46)).alloc (.cells #[.string o.s,.int .i64 o.k,.int .i64 o.l,.int .i64 o.sd] 46)).drew:=(((zA HB1).alloc z1 _).alloc (by simp; omega) _).drew
    obtain ⟨kc,kf⟩:=(zA HKEEP) _ _ hbd hgrow4
    have m0:w4.cell? ⟨U,1,none⟩ = some (.slice ao os.length co):=(kc 1).trans (((zA HB1).cell (p:=⟨U,1,none⟩) hl).symm.trans v1)
    have g1:=kf 1
    have hnx:(Value.slice ao os.length co).ownBlock ≠ some w1.heap.size:=fun e=>by have:=((zA HRO).lt _ e).2; omega
    have ec:=fun j=>zE hgrow4 (b:=w1.heap.size) (by simp; omega) hnx j
    have m1:w4.cell? ⟨w1.heap.size,0,none⟩ = some (.string o.s):=(ec 0).trans (zA HS1).1
    have m2:w4.cell? ⟨w1.heap.size,1,none⟩ = some (.int .i64 o.k):=(ec 1).trans (zA HS1).2.1
    have m3:w4.cell? ⟨w1.heap.size,2,none⟩ = some (.int .i64 o.l):=(ec 2).trans (zA HS1).2.2.1
    have m4:w4.cell? ⟨w1.heap.size,3,none⟩ = some (.int .i64 o.sd):=(ec 3).trans (zA HS1).2.2.2
    have HF4:=zB ((zA HFIN) o (zA HO) _ _ _ _ hbd hown4 hgrow4 hat4)
    clear hown4 hgrow4 hat4 hlt4 kc kf hbd hnx ec
    refine hK.out _ _ ⟨m1,m2,m3,m4⟩ (fun hS4=>?_)
    clear hK
    simp only [List.getElem_toArray,List.getElem_cons_succ,List.getElem_cons_zero]
    simp only [Act.put,List.setIfInBounds_toArray,List.set_cons_zero,List.set_cons_succ]
    refine wpAnyH_take (i:=8) (v:=?_) rfl (by kernel_rfl) (by kernel_rfl) (by kernel_rfl) (fun _ _ _ h=>h) (Or.inl ⟨by rfl,?_⟩) hS4 ?_
    rotate_left
    ·intro W hW; obtain ⟨s0,s1,s2,s3⟩:=hW; simp only [List.getElem_toArray,List.getElem_cons_succ,List.getElem_cons_zero]; go_simp; first | done | (with_reducible rfl)
    simp only [List.getElem_toArray,List.getElem_cons_succ,List.getElem_cons_zero]
    simp only [Act.put,List.setIfInBounds_toArray,List.set_cons_zero,List.set_cons_succ]
    refine wpAnyH_take (i:=9) (v:=?_) rfl (by kernel_rfl) (by kernel_rfl) (by kernel_rfl) (fun _ _ _ h=>h) (Or.inl ⟨by rfl,?_⟩) hS4 ?_
    rotate_left
    ·intro W hW; obtain ⟨s0,s1,s2,s3⟩:=hW; simp only [List.getElem_toArray,List.getElem_cons_succ,List.getElem_cons_zero]; go_simp; first | done | (with_reducible rfl)
    simp only [List.getElem_toArray,List.getElem_cons_succ,List.getElem_cons_zero]
    simp only [Act.put,List.setIfInBounds_toArray,List.set_cons_zero,List.set_cons_succ]
    refine wpAnyH_ready (rs:=[10]) (by kernel_rfl) (by simp) ?_
    refine AllReadyH.cons rfl (fun K hK=>?_) AllReadyH.nil
    simp only [List.getElem_toArray,List.getElem_cons_succ,List.getElem_cons_zero]
    go_simp
    refine hK.out _ _ ⟨by rw [World.cell?_setCell_other _ _ _ _ (by simp [hUw])]; exact m1,by rw [World.cell?_setCell_other _ _ _ _ (by simp [hUw])]; exact m2,by rw [World.cell?_setCell_other _ _ _ _ (by simp [hUw])]; exact m3,by rw [World.cell?_setCell_other _ _ _ _ (by simp [hUw])]; exact m4⟩ (fun hS5=>?_)
    clear hK
    refine wpAnyH_done (by kernel_rfl) ?_ _
    clear hS4 hS5
    go_wp2_with fail
    go_ret
    exact zA HF4
  ·have HN:=zB ((zA HNOT) ho)
   clear ho
   go_wp2_with fail
   go_ret
   exact ⟨false,rfl,Or.inr ⟨rfl,zA HN⟩,((zA HB1).mono (by omega)).alloc (by omega) _⟩
end Go.Proofs.YtgiemobdmbijiaaGreatDoor
