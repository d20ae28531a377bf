import Derived.Test.YtgbkgkdpdfdokaaGreatDoorQ32
import Derived.Test.YtgbkgkdpdfdokaaGreatDoorQ33
namespace Go.Proofs.YtgbkgkdpdfdokaaGreatDoor
set_option linter.all false
set_option maxHeartbeats 16000000
set_option maxRecDepth 100000
open Go.RowKit
variable {ws:List ByteArray}
theorem zHd (v:Value) (ws:List JZ) (w:JY) (hs:zq w v ws) (hz:∀ x∈ws,x.size<=maxLen) :
  Calls Tryz.prog 102 #[v] w (zLL w ws):=
 zMR 102 v ws w hs hz (fun a c n w h=>zHc a c n w h) (fun g c n k t l sd w h1 h2 h3 h4 h5 h6=>zF9 g c n k t l sd w h1 h2 h3 h4 h5 h6)
def zDw (w:JY) (B U:Nat) (us:List JZ) (os:List OpR) (b:JZ) (ws:List JZ) (e:Ending) (w':JY):Prop:=
 ∃ ok:Bool,e = .returned (.bool ok)/\((ok=true/\∃ us' os' vu' vo',zAL ws us os us' os'/\UnM w' B U vu' vo' us' os' b/\us'.length<=us.length+1/\os'.length<=os.length+1)\/(ok=false/\∀ us' os',¬ zAL ws us os us' os'))/\Below B w w'
theorem zPD {us:List JZ} {os:List OpR} (h0:ws≠[]) (h2:∀ x,ws≠[zHk,x]) (ho:∀ o,¬ OpW ws o):∀ us' os',¬ zAL ws us os us' os':=by
 rintro us' os' (⟨e,_⟩ | ⟨x,e,_⟩ | ⟨o,e,_⟩)
 ·exact h0 e
 ·exact h2 x e
 ·exact ho o e
theorem zQd (B U:Nat) (vu vo:Value) (us:List JZ) (os:List OpR) (b:JZ) (ws:List JZ) (o:OpR) {w w1 w4:JY} {g4 c4:Nat} (h:UnM w B U vu vo us os b) (ho:OpW ws o) (hb:Below w.heap.size w w1)
  (H:w4.ownsRow B 57 4 (.slice (some ⟨g4,0,none⟩) (os.length+1) c4) (os.length+1) (zU os++zU [o])) (hg:w1.grownBy w4 vo.ownBlock) (k:vo.ownBlock=some g4\/g4=w1.heap.size) :
  zDw w B U us os b ws (.returned (.bool true)) (w4.setCell ⟨U,1,none⟩ (.slice (some ⟨g4,0,none⟩) (os.length+1) c4)):=by
 have hr:Zw w4 B (.slice (some ⟨g4,0,none⟩) (os.length+1) c4) (os++[o]):=by
  unfold Zw
  rw [ZT,ym]
  exact H
 obtain ⟨h1,h2⟩:=h.putO hb hg hr (k.imp (fun e=>e.symm) (fun e=>⟨g4,rfl,by omega⟩))
 exact ⟨true,rfl,yQ ⟨rfl,us,os++[o],_,_,yR (yR ⟨o,ho,rfl,rfl⟩),h1,by omega,by simp⟩,h2⟩
theorem zPE (B U:Nat) (vu vo:Value) (us:List JZ) (os:List OpR) (b x:JZ) {w w1 w4:JY} {g4 c4:Nat} (h:UnM w B U vu vo us os b) (hb:Below w.heap.size w w1)
  (H:w4.ownsRow B 9 1 (.slice (some ⟨g4,0,none⟩) (us.length+1) c4) (us.length+1) (zI us++zI [x])) (hg:w1.grownBy w4 vu.ownBlock) (k:vu.ownBlock=some g4\/g4=w1.heap.size) :
  zDw w B U us os b [zHk,x] (.returned (.bool true)) (w4.setCell ⟨U,0,none⟩ (.slice (some ⟨g4,0,none⟩) (us.length+1) c4)):=by
 have hr:zZ w4 B (.slice (some ⟨g4,0,none⟩) (us.length+1) c4) (us++[x]):=by
  unfold zZ
  rw [Zx,ym]
  exact H
 obtain ⟨h1,h2⟩:=h.putU hb hg hr (k.imp (fun e=>e.symm) (fun e=>⟨g4,rfl,by omega⟩))
 exact ⟨true,rfl,yQ ⟨rfl,us++[x],os,_,_,yR (yQ ⟨x,rfl,rfl,rfl⟩),h1,by simp,by omega⟩,h2⟩
theorem zND (B U:Nat) (vu vo v:Value) (us:List JZ) (os:List OpR) (b:JZ) (ws:List JZ) (w:JY) (h:UnM w B U vu vo us os b) (hs:zq w v ws) (hz:∀ x∈ws,x.size<=maxLen) (L:∀ g,v.ownBlock=some g->g≠U/\vu.ownBlock≠some g) (hv:us.length<=20001) (hw:os.length<=20001) (hr:ws.length<=20001) :
  Calls Tryz.prog 83 #[.pointer (some ⟨U,0,none⟩),v] w (zDw w B U us os b ws):=by
 have hl:=h.lt
 have hq:=h.hB
 have HU:=zB h
 by_cases h0:ws.length=0
 ·have e0:ws=[]:=yY.1 h0
  obtain ⟨a,c,rfl,_⟩:=hs
  rw [h0]
  have HP:=zB (show zDw w B U us os b ws (.returned (.bool true)) w from ⟨true,rfl,yQ ⟨rfl,us,os,vu,vo,yQ ⟨e0,rfl,rfl⟩,h,by omega,by omega⟩,yG _ _⟩)
  clear h e0 h0
  go_enter Tryz.func83,Tryz.ntmps83
  go_wp2
  go_ret
  exact zA HP
 by_cases F:∃ x,ws=[zHk,x]
 ·obtain ⟨x,rfl⟩:=F
  obtain ⟨gw,c,rfl,m,hc⟩:=hs.lt (by simp)
  have k0:w.cell? ⟨gw,0,none⟩=some (.string ⟨#[117,115,101]⟩):=hc 0 _ rfl
  have k1:w.cell? ⟨gw,1,none⟩=some (.string x):=hc 1 _ rfl
  have hn:[zHk,x].length=2:=rfl
  rw [hn]
  obtain ⟨i0,r,T,he,hf⟩:=zN zCL
  have HI:=zB r
  have HZ:=zB (yH T (yH he hf))
  clear r T he hf
  have u0:=h.c0
  have f0:=h.fz 0
  obtain ⟨au,cu,rfl⟩:=zO h.ru
  have Z:=zB (L gw rfl).2
  have hd:gw≠U:=(L gw rfl).1
  have V:=zB (fun (w1 w4:JY) (hb:Below w.heap.size w w1) (hg:w1.grownBy w4 (Value.slice au us.length cu).ownBlock)=>h.keep hb (yQ rfl) hg)
  have d:=zB (fun (w1 w4:JY) (g4 c4:Nat)=>@zPE B U (.slice au us.length cu) vo us os b x w w1 w4 g4 c4 h)
  have R:=zB h.ru
  clear h hc hz hs L
  go_enter Tryz.func83,Tryz.ntmps83
  go_wp2_with fail
  have k6:∀ o,(w.alloc o).drew.cell? ⟨U,0,none⟩=some (.slice au us.length cu):=fun o=>((zC w o).cell (p:=⟨U,0,none⟩) hl).trans u0
  have y:(fun W:World=>W.cell? ⟨gw,1,none⟩=some (.string x)/\True) w.drew:=⟨k1,trivial⟩
  have P:=zB (show (fun W:World=>W.cell? ⟨gw,1,none⟩=some (.string x)/\True) (w.alloc (.cells #[.string x] 9)).drew from ⟨((zC w _).cell (p:=⟨gw,1,none⟩) m).trans k1,trivial⟩)
  refine wp_region_held_drew (S:=fun W:World=>W.cell? ⟨gw,1,none⟩=some (.string x)/\True) (by kernel_rfl) y (fun _=>?_)
  refine yI (i:=0) (v:=?_) rfl (by kernel_rfl) (by kernel_rfl) (by kernel_rfl) (fun _ _ _ h=>h) (yQ ⟨by rfl,?_⟩) y ?_
  rotate_left
  ·intro W hW; obtain ⟨s1,_⟩:=hW; simp only [yc,ya,yb]; go_simp; first | done | (with_reducible rfl)
  simp only [yc,ya,yb]
  simp only [Act.put,yd,ye,yf]
  refine yI (i:=1) (v:=?_) rfl (by kernel_rfl) (by kernel_rfl) (by kernel_rfl) (fun _ _ _ h=>h) (yQ ⟨by rfl,?_⟩) y ?_
  rotate_left
  ·intro W hW; obtain ⟨s1,_⟩:=hW; simp only [yc,ya,yb]; go_simp; first | done | (with_reducible rfl)
  simp only [yc,ya,yb]
  simp only [Act.put,yd,ye,yf]
  refine yI (i:=2) (v:=?_) rfl (by kernel_rfl) (by kernel_rfl) (by kernel_rfl) (fun _ _ _ h=>h) (yQ ⟨by rfl,?_⟩) y ?_
  rotate_left
  ·intro W hW; obtain ⟨s1,_⟩:=hW; simp only [yc,ya,yb]; go_simp; first | done | (with_reducible rfl)
  simp only [yc,ya,yb]
  simp only [Act.put,yd,ye,yf]
  refine yI (i:=3) (v:=?_) rfl (by kernel_rfl) (by kernel_rfl) (by kernel_rfl) (fun _ _ _ h=>h) (yQ ⟨by rfl,?_⟩) y ?_
  rotate_left
  ·intro W hW; obtain ⟨s1,_⟩:=hW; simp only [yc,ya,yb]; go_simp; first | done | (with_reducible rfl)
  simp only [yc,ya,yb]
  simp only [Act.put,yd,ye,yf]
  refine yI (i:=5) (v:=?_) rfl (by kernel_rfl) (by kernel_rfl) (by kernel_rfl) (fun _ _ _ h=>h) (yQ ⟨by rfl,?_⟩) y ?_
  rotate_left
  ·intro W hW; obtain ⟨s1,_⟩:=hW; simp only [yc,ya,yb]; go_simp; first | done | (with_reducible rfl)
  simp only [yc,ya,yb]
  simp only [Act.put,yd,ye,yf]
  refine yI (i:=6) (v:=?_) rfl (by kernel_rfl) (by kernel_rfl) (by kernel_rfl) (fun _ _ _ h=>h) (yQ ⟨by rfl,?_⟩) y ?_
  rotate_left
  ·intro W hW; obtain ⟨s1,_⟩:=hW; simp only [yc,ya,yb]; go_simp; first | done | (with_reducible rfl)
  simp only [yc,ya,yb]
  simp only [Act.put,yd,ye,yf]
  refine yI (i:=7) (v:=?_) rfl (by kernel_rfl) (by kernel_rfl) (by kernel_rfl) (fun _ _ _ h=>h) (yQ ⟨by rfl,?_⟩) y ?_
  rotate_left
  ·intro W hW; obtain ⟨s1,_⟩:=hW; simp only [yc,ya,yb]; go_simp; first | done | (with_reducible rfl)
  simp only [yc,ya,yb]
  simp only [Act.put,yd,ye,yf]
  refine yL (rs:=[4,8]) (by kernel_rfl) (by simp) ?_
  refine yE rfl (fun K hK=>?_) (yE rfl (fun K hK=>?_) yF)
  ·simp only [yc,ya,yb]
   go_simp
   refine hK.out _ _ y (fun _=>?_)
   clear hK
   refine yL (rs:=[8]) (by kernel_rfl) (by simp) ?_
   refine yE rfl (fun K hK=>?_) yF
   simp only [yc,ya,yb]
   go_simp
   refine hK.out _ _ (zA P) (fun _=>?_)
   clear hK
   refine yL (rs:=[9]) (by kernel_rfl) (by simp) ?_
   refine yE rfl (fun K hK=>?_) yF
   refine step_append_lies _ (by rfl) (.tmp 23) (.tmp 27) 39 (by rfl) B 9 i0 _ 1 16 Tryz.underlying39 (zA HI) (zA HZ).1 (zA HZ).2.1 (zA HZ).2.2 rfl (by decide) _ us.length (zI us) (by rfl) ((zA R).below ((zC _ _).drew)) ⟨w.heap.size,0,none⟩ 1 1 (zI [x]) (by rfl) rfl (fun j u hj=>ZG w x j u hj) (zT _) (by decide) (by unfold maxLen; omega) (by omega) (by simp; omega) _ rfl ?_
   intro g4 c4 w4 Q H X A
   have Y:Below w.heap.size w (w.alloc (.cells #[.string x] 9)).drew:=(zC _ _).drew
   obtain ⟨kc,kf⟩:=(zA V) _ _ Y H
   have m0:=(kc 0).trans u0
   have g0:=kf 0
   have m1:w4.cell? ⟨gw,1,none⟩=some (.string x):=(zE H (by simp; omega) (zA Z) 1).trans ((Y.cell (p:=⟨gw,1,none⟩) m).trans k1)
   have D:=zB ((zA d) _ _ _ _ Y Q H X)
   clear Q H X A kc kf Y
   refine hK.out _ _ ⟨m1,trivial⟩ (fun J=>?_)
   clear hK
   simp only [yc,ya,yb]
   simp only [Act.put,yd,ye,yf]
   refine yI (i:=10) (v:=?_) rfl (by kernel_rfl) (by kernel_rfl) (by kernel_rfl) (fun _ _ _ h=>h) (yQ ⟨by rfl,?_⟩) J ?_
   rotate_left
   ·intro W hW; obtain ⟨s1,_⟩:=hW; simp only [yc,ya,yb]; go_simp; first | done | (with_reducible rfl)
   simp only [yc,ya,yb]
   simp only [Act.put,yd,ye,yf]
   refine yI (i:=11) (v:=?_) rfl (by kernel_rfl) (by kernel_rfl) (by kernel_rfl) (fun _ _ _ h=>h) (yQ ⟨by rfl,?_⟩) J ?_
   rotate_left
   ·intro W hW; obtain ⟨s1,_⟩:=hW; simp only [yc,ya,yb]; go_simp; first | done | (with_reducible rfl)
   simp only [yc,ya,yb]
   simp only [Act.put,yd,ye,yf]
   refine yL (rs:=[12]) (by kernel_rfl) (by simp) ?_
   refine yE rfl (fun K hK=>?_) yF
   simp only [yc,ya,yb]
   go_simp
   refine hK.out _ _ ⟨by rw [yg _ _ _ _ (by simp [hd])]; exact m1,trivial⟩ (fun f=>?_)
   clear hK
   refine wpAnyH_done (by kernel_rfl) ?_ _
   clear J f
   go_wp2_with fail
   go_ret
   exact zA D
  ·simp only [yc,ya,yb]
   go_simp
   refine hK.out _ _ (zA P) (fun _=>?_)
   clear hK
   refine yL (rs:=[4]) (by kernel_rfl) (by simp) ?_
   refine yE rfl (fun K hK=>?_) yF
   simp only [yc,ya,yb]
   go_simp
   refine hK.out _ _ (zA P) (fun _=>?_)
   clear hK
   refine yL (rs:=[9]) (by kernel_rfl) (by simp) ?_
   refine yE rfl (fun K hK=>?_) yF
   refine step_append_lies _ (by rfl) (.tmp 23) (.tmp 27) 39 (by rfl) B 9 i0 _ 1 16 Tryz.underlying39 (zA HI) (zA HZ).1 (zA HZ).2.1 (zA HZ).2.2 rfl (by decide) _ us.length (zI us) (by rfl) ((zA R).below ((zC _ _).drew)) ⟨w.heap.size,0,none⟩ 1 1 (zI [x]) (by rfl) rfl (fun j u hj=>ZG w x j u hj) (zT _) (by decide) (by unfold maxLen; omega) (by omega) (by simp; omega) _ rfl ?_
   intro g4 c4 w4 Q H X A
   have Y:Below w.heap.size w (w.alloc (.cells #[.string x] 9)).drew:=(zC _ _).drew
   obtain ⟨kc,kf⟩:=(zA V) _ _ Y H
   have m0:=(kc 0).trans u0
   have g0:=kf 0
   have m1:w4.cell? ⟨gw,1,none⟩=some (.string x):=(zE H (by simp; omega) (zA Z) 1).trans ((Y.cell (p:=⟨gw,1,none⟩) m).trans k1)
   have D:=zB ((zA d) _ _ _ _ Y Q H X)
   clear Q H X A kc kf Y
   refine hK.out _ _ ⟨m1,trivial⟩ (fun J=>?_)
   clear hK
   simp only [yc,ya,yb]
   simp only [Act.put,yd,ye,yf]
   refine yI (i:=10) (v:=?_) rfl (by kernel_rfl) (by kernel_rfl) (by kernel_rfl) (fun _ _ _ h=>h) (yQ ⟨by rfl,?_⟩) J ?_
   rotate_left
   ·intro W hW; obtain ⟨s1,_⟩:=hW; simp only [yc,ya,yb]; go_simp; first | done | (with_reducible rfl)
   simp only [yc,ya,yb]
   simp only [Act.put,yd,ye,yf]
   refine yI (i:=11) (v:=?_) rfl (by kernel_rfl) (by kernel_rfl) (by kernel_rfl) (fun _ _ _ h=>h) (yQ ⟨by rfl,?_⟩) J ?_
   rotate_left
   ·intro W hW; obtain ⟨s1,_⟩:=hW; simp only [yc,ya,yb]; go_simp; first | done | (with_reducible rfl)
   simp only [yc,ya,yb]
   simp only [Act.put,yd,ye,yf]
   refine yL (rs:=[12]) (by kernel_rfl) (by simp) ?_
   refine yE rfl (fun K hK=>?_) yF
   simp only [yc,ya,yb]
   go_simp
   refine hK.out _ _ ⟨by rw [yg _ _ _ _ (by simp [hd])]; exact m1,trivial⟩ (fun f=>?_)
   clear hK
   refine wpAnyH_done (by kernel_rfl) ?_ _
   clear J f
   go_wp2_with fail
   go_ret
   exact zA D
 have ha:ws≠[]:=fun e=>h0 (by rw [e]; rfl)
 have t:∀ x,ws≠[zHk,x]:=fun x e=>F ⟨x,e⟩
 obtain ⟨gw,c,rfl,m,hc⟩:=hs.lt (by omega)
 have HD:=zB (zHd _ ws w hs hz)
 obtain ⟨k,hk⟩:∃ k,ws[0]?=some k:=⟨_,yn (by omega)⟩
 have k0:=hc 0 k hk
 have O:((ws.length:Int)==2)=false\/(((ws.length:Int)==2)=true/\(k.toList==[117,115,101])=false):=by
  by_cases e:ws.length=2
  ·right
   refine ⟨by simp; omega,zDW (fun ek=>?_)⟩
   match ws,e,hk with
   | [p,q],_,hk=>
    simp at hk
    exact F ⟨q,by rw [hk,ek]; rfl⟩
  ·left; simp; omega
 have hu:((ws.length:Int)==0)=false:=by simp; omega
 have hp:(0:Int)<(ws.length:Int):=by omega
 obtain ⟨iO,hh,M,n,N⟩:=zN zCr
 have HI:=zB hh
 have HZ:=zB (yH M (yH n N))
 clear hh M n N
 have u1:=h.c1
 have f1:=h.fz 1
 obtain ⟨ao,co,rfl⟩:∃ a c,vo = .slice a os.length c:=zO h.ro
 have V:=zB (fun (w1 w4:JY) (hb:Below w.heap.size w w1) (hg:w1.grownBy w4 (Value.slice ao os.length co).ownBlock)=>h.keep hb (yR rfl) hg)
 have d:=zB (fun (o:OpR) (ho:OpW ws o) (w1 w4:JY) (g4 c4:Nat)=>@zQd B U vu (.slice ao os.length co) us os b ws o w w1 w4 g4 c4 h ho)
 have I:=zB h.ro
 have z:=zB (fun (ho:∀ o,¬ OpW ws o)=>zPD (us:=us) (os:=os) ha t ho)
 clear h hc hz hs L F ha t h0 hk
 rcases O with hi | ⟨hi,ht⟩
 all_goals
  go_enter Tryz.func83,Tryz.ntmps83
  go_wp2_with fail
  (with_reducible refine (zA HD).mono ?_)
  rintro e w1 ⟨o,ok,rfl,hcase,hb1⟩
  have E:=zB hb1
  have z1:=hb1.size
  have v1:w1.cell? ⟨U,1,none⟩=some (.slice ao os.length co):=(hb1.cell (p:=⟨U,1,none⟩) hl).trans u1
  clear HD hb1 u1 f1 k0
  rcases hcase with ⟨rfl,ho⟩ | ⟨rfl,ho⟩
  ·have HO:=zB ho
   clear ho
   go_wp2_with fail
   have hm:U<w1.heap.size:=by omega
   have C:w1.heap.size≠U:=by omega
   have v2:(w1.alloc (.cells #[.string o.s,.int .i64 o.k,.int .i64 o.l,.int .i64 o.sd] 57)).cell? ⟨U,1,none⟩=some (.slice ao os.length co):=((zC w1 _).cell (p:=⟨U,1,none⟩) hm).trans v1
   have k6:∀ o',((w1.alloc (.cells #[.string o.s,.int .i64 o.k,.int .i64 o.l,.int .i64 o.sd] 57)).alloc o').drew.cell? ⟨U,1,none⟩=some (.slice ao os.length co):=fun o'=>((zC (w1.alloc (.cells #[.string o.s,.int .i64 o.k,.int .i64 o.l,.int .i64 o.sd] 57)) o').cell (p:=⟨U,1,none⟩) (by simp; omega)).trans v2
   have y:(fun W:World=>W.cell? ⟨w1.heap.size,0,none⟩=some (.string o.s)/\W.cell? ⟨w1.heap.size,1,none⟩=some (.int .i64 o.k)/\W.cell? ⟨w1.heap.size,2,none⟩=some (.int .i64 o.l)/\W.cell? ⟨w1.heap.size,3,none⟩=some (.int .i64 o.sd)) (w1.alloc (.cells #[.string o.s,.int .i64 o.k,.int .i64 o.l,.int .i64 o.sd] 57)).drew:=⟨by simp [go_sem],by simp [go_sem],by simp [go_sem],by simp [go_sem]⟩
   have P:=zB (show (fun W:World=>W.cell? ⟨w1.heap.size,0,none⟩=some (.string o.s)/\W.cell? ⟨w1.heap.size,1,none⟩=some (.int .i64 o.k)/\W.cell? ⟨w1.heap.size,2,none⟩=some (.int .i64 o.l)/\W.cell? ⟨w1.heap.size,3,none⟩=some (.int .i64 o.sd)) ((w1.alloc (.cells #[.string o.s,.int .i64 o.k,.int .i64 o.l,.int .i64 o.sd] 57)).alloc (.cells #[.string o.s,.int .i64 o.k,.int .i64 o.l,.int .i64 o.sd] 57)).drew from ⟨by simp [go_sem],by simp [go_sem],by simp [go_sem],by simp [go_sem]⟩)
   refine wp_region_held_drew (S:=fun W:World=>W.cell? ⟨w1.heap.size,0,none⟩=some (.string o.s)/\W.cell? ⟨w1.heap.size,1,none⟩=some (.int .i64 o.k)/\W.cell? ⟨w1.heap.size,2,none⟩=some (.int .i64 o.l)/\W.cell? ⟨w1.heap.size,3,none⟩=some (.int .i64 o.sd)) (by kernel_rfl) y (fun _=>?_)
   refine yI (i:=0) (v:=?_) rfl (by kernel_rfl) (by kernel_rfl) (by kernel_rfl) (fun _ _ _ h=>h) (yQ ⟨by rfl,?_⟩) y ?_
   rotate_left
   ·intro W hW; obtain ⟨s0,s1,s2,s3⟩:=hW; simp only [yc,ya,yb]; go_simp; first | done | (with_reducible rfl)
   simp only [yc,ya,yb]
   simp only [Act.put,yd,ye,yf]
   refine yI (i:=1) (v:=?_) rfl (by kernel_rfl) (by kernel_rfl) (by kernel_rfl) (fun _ _ _ h=>h) (yQ ⟨by rfl,?_⟩) y ?_
   rotate_left
   ·intro W hW; obtain ⟨s0,s1,s2,s3⟩:=hW; simp only [yc,ya,yb]; go_simp; first | done | (with_reducible rfl)
   simp only [yc,ya,yb]
   simp only [Act.put,yd,ye,yf]
   refine yI (i:=2) (v:=?_) rfl (by kernel_rfl) (by kernel_rfl) (by kernel_rfl) (fun _ _ _ h=>h) (yQ ⟨by rfl,?_⟩) y ?_
   rotate_left
   ·intro W hW; obtain ⟨s0,s1,s2,s3⟩:=hW; simp only [yc,ya,yb]; go_simp; first | done | (with_reducible rfl)
   simp only [yc,ya,yb]
   simp only [Act.put,yd,ye,yf]
   refine yI (i:=3) (v:=?_) rfl (by kernel_rfl) (by kernel_rfl) (by kernel_rfl) (fun _ _ _ h=>h) (yQ ⟨by rfl,?_⟩) y ?_
   rotate_left
   ·intro W hW; obtain ⟨s0,s1,s2,s3⟩:=hW; simp only [yc,ya,yb]; go_simp; first | done | (with_reducible rfl)
   simp only [yc,ya,yb]
   simp only [Act.put,yd,ye,yf]
   refine yI (i:=5) (v:=?_) rfl (by kernel_rfl) (by kernel_rfl) (by kernel_rfl) (fun _ _ _ h=>h) (yQ ⟨by rfl,?_⟩) y ?_
   rotate_left
   ·intro W hW; obtain ⟨s0,s1,s2,s3⟩:=hW; simp only [yc,ya,yb]; go_simp; first | done | (with_reducible rfl)
   simp only [yc,ya,yb]
   simp only [Act.put,yd,ye,yf]
   refine yL (rs:=[4,6]) (by kernel_rfl) (by simp) ?_
   refine yE rfl (fun K hK=>?_) (yE rfl (fun K hK=>?_) yF)
   ·simp only [yc,ya,yb]
    go_simp
    refine hK.out _ _ y (fun _=>?_)
    clear hK
    refine yL (rs:=[6]) (by kernel_rfl) (by simp) ?_
    refine yE rfl (fun K hK=>?_) yF
    simp only [yc,ya,yb]
    go_simp
    refine hK.out _ _ (zA P) (fun _=>?_)
    clear hK
    refine yL (rs:=[7]) (by kernel_rfl) (by simp) ?_
    refine yE rfl (fun K hK=>?_) yF
    refine step_append_lies _ (by rfl) (.tmp 41) (.tmp 43) 31 (by rfl) B 57 iO _ 4 40 Tryz.underlying31 (zA HI) (zA HZ).1 (zA HZ).2.1 (zA HZ).2.2 rfl (by decide) _ os.length (zU os) (by rfl) ((zA I).below (((zA E).alloc z1 _).alloc (by simp; omega) _).drew) ⟨w1.heap.size+1,0,none⟩ 1 1 (zU [o]) (by rfl) rfl (fun j u hj=>(by simpa using zAH (w1.alloc (.cells #[.string o.s,.int .i64 o.k,.int .i64 o.l,.int .i64 o.sd] 57)) o j u hj)) (ZA _) (by decide) (by unfold maxLen; omega) (by omega) (by simp; omega) _ rfl ?_
    intro g4 c4 w4 Q H X A
    have Y:Below w.heap.size w ((w1.alloc (.cells #[.string o.s,.int .i64 o.k,.int .i64 o.l,.int .i64 o.sd] 57)).alloc (.cells #[.string o.s,.int .i64 o.k,.int .i64 o.l,.int .i64 o.sd] 57)).drew:=(((zA E).alloc z1 _).alloc (by simp; omega) _).drew
    obtain ⟨kc,kf⟩:=(zA V) _ _ Y H
    have m0:w4.cell? ⟨U,1,none⟩=some (.slice ao os.length co):=(kc 1).trans (((zA E).cell (p:=⟨U,1,none⟩) hl).symm.trans v1)
    have g1:=kf 1
    have G:(Value.slice ao os.length co).ownBlock≠some w1.heap.size:=fun e=>by have:=((zA I).lt _ e).2; omega
    have ec:=fun j=>zE H (b:=w1.heap.size) (by simp; omega) G j
    have m1:w4.cell? ⟨w1.heap.size,0,none⟩=some (.string o.s):=(ec 0).trans (zA P).1
    have m2:w4.cell? ⟨w1.heap.size,1,none⟩=some (.int .i64 o.k):=(ec 1).trans (zA P).2.1
    have m3:w4.cell? ⟨w1.heap.size,2,none⟩=some (.int .i64 o.l):=(ec 2).trans (zA P).2.2.1
    have m4:w4.cell? ⟨w1.heap.size,3,none⟩=some (.int .i64 o.sd):=(ec 3).trans (zA P).2.2.2
    have D:=zB ((zA d) o (zA HO) _ _ _ _ Y Q H X)
    clear Q H X A kc kf Y G ec
    refine hK.out _ _ ⟨m1,m2,m3,m4⟩ (fun J=>?_)
    clear hK
    simp only [yc,ya,yb]
    simp only [Act.put,yd,ye,yf]
    refine yI (i:=8) (v:=?_) rfl (by kernel_rfl) (by kernel_rfl) (by kernel_rfl) (fun _ _ _ h=>h) (yQ ⟨by rfl,?_⟩) J ?_
    rotate_left
    ·intro W hW; obtain ⟨s0,s1,s2,s3⟩:=hW; simp only [yc,ya,yb]; go_simp; first | done | (with_reducible rfl)
    simp only [yc,ya,yb]
    simp only [Act.put,yd,ye,yf]
    refine yI (i:=9) (v:=?_) rfl (by kernel_rfl) (by kernel_rfl) (by kernel_rfl) (fun _ _ _ h=>h) (yQ ⟨by rfl,?_⟩) J ?_
    rotate_left
    ·intro W hW; obtain ⟨s0,s1,s2,s3⟩:=hW; simp only [yc,ya,yb]; go_simp; first | done | (with_reducible rfl)
    simp only [yc,ya,yb]
    simp only [Act.put,yd,ye,yf]
    refine yL (rs:=[10]) (by kernel_rfl) (by simp) ?_
    refine yE rfl (fun K hK=>?_) yF
    simp only [yc,ya,yb]
    go_simp
    refine hK.out _ _ ⟨by rw [yg _ _ _ _ (by simp [C])]; exact m1,by rw [yg _ _ _ _ (by simp [C])]; exact m2,by rw [yg _ _ _ _ (by simp [C])]; exact m3,by rw [yg _ _ _ _ (by simp [C])]; exact m4⟩ (fun f=>?_)
    clear hK
    refine wpAnyH_done (by kernel_rfl) ?_ _
    clear J f
    go_wp2_with fail
    go_ret
    exact zA D
   ·simp only [yc,ya,yb]
    go_simp
    refine hK.out _ _ (zA P) (fun _=>?_)
    clear hK
    refine yL (rs:=[4]) (by kernel_rfl) (by simp) ?_
    refine yE rfl (fun K hK=>?_) yF
    simp only [yc,ya,yb]
    go_simp
    refine hK.out _ _ (zA P) (fun _=>?_)
    clear hK
    refine yL (rs:=[7]) (by kernel_rfl) (by simp) ?_
    refine yE rfl (fun K hK=>?_) yF
    refine step_append_lies _ (by rfl) (.tmp 41) (.tmp 43) 31 (by rfl) B 57 iO _ 4 40 Tryz.underlying31 (zA HI) (zA HZ).1 (zA HZ).2.1 (zA HZ).2.2 rfl (by decide) _ os.length (zU os) (by rfl) ((zA I).below (((zA E).alloc z1 _).alloc (by simp; omega) _).drew) ⟨w1.heap.size+1,0,none⟩ 1 1 (zU [o]) (by rfl) rfl (fun j u hj=>(by simpa using zAH (w1.alloc (.cells #[.string o.s,.int .i64 o.k,.int .i64 o.l,.int .i64 o.sd] 57)) o j u hj)) (ZA _) (by decide) (by unfold maxLen; omega) (by omega) (by simp; omega) _ rfl ?_
    intro g4 c4 w4 Q H X A
    have Y:Below w.heap.size w ((w1.alloc (.cells #[.string o.s,.int .i64 o.k,.int .i64 o.l,.int .i64 o.sd] 57)).alloc (.cells #[.string o.s,.int .i64 o.k,.int .i64 o.l,.int .i64 o.sd] 57)).drew:=(((zA E).alloc z1 _).alloc (by simp; omega) _).drew
    obtain ⟨kc,kf⟩:=(zA V) _ _ Y H
    have m0:w4.cell? ⟨U,1,none⟩=some (.slice ao os.length co):=(kc 1).trans (((zA E).cell (p:=⟨U,1,none⟩) hl).symm.trans v1)
    have g1:=kf 1
    have G:(Value.slice ao os.length co).ownBlock≠some w1.heap.size:=fun e=>by have:=((zA I).lt _ e).2; omega
    have ec:=fun j=>zE H (b:=w1.heap.size) (by simp; omega) G j
    have m1:w4.cell? ⟨w1.heap.size,0,none⟩=some (.string o.s):=(ec 0).trans (zA P).1
    have m2:w4.cell? ⟨w1.heap.size,1,none⟩=some (.int .i64 o.k):=(ec 1).trans (zA P).2.1
    have m3:w4.cell? ⟨w1.heap.size,2,none⟩=some (.int .i64 o.l):=(ec 2).trans (zA P).2.2.1
    have m4:w4.cell? ⟨w1.heap.size,3,none⟩=some (.int .i64 o.sd):=(ec 3).trans (zA P).2.2.2
    have D:=zB ((zA d) o (zA HO) _ _ _ _ Y Q H X)
    clear Q H X A kc kf Y G ec
    refine hK.out _ _ ⟨m1,m2,m3,m4⟩ (fun J=>?_)
    clear hK
    simp only [yc,ya,yb]
    simp only [Act.put,yd,ye,yf]
    refine yI (i:=8) (v:=?_) rfl (by kernel_rfl) (by kernel_rfl) (by kernel_rfl) (fun _ _ _ h=>h) (yQ ⟨by rfl,?_⟩) J ?_
    rotate_left
    ·intro W hW; obtain ⟨s0,s1,s2,s3⟩:=hW; simp only [yc,ya,yb]; go_simp; first | done | (with_reducible rfl)
    simp only [yc,ya,yb]
    simp only [Act.put,yd,ye,yf]
    refine yI (i:=9) (v:=?_) rfl (by kernel_rfl) (by kernel_rfl) (by kernel_rfl) (fun _ _ _ h=>h) (yQ ⟨by rfl,?_⟩) J ?_
    rotate_left
    ·intro W hW; obtain ⟨s0,s1,s2,s3⟩:=hW; simp only [yc,ya,yb]; go_simp; first | done | (with_reducible rfl)
    simp only [yc,ya,yb]
    simp only [Act.put,yd,ye,yf]
    refine yL (rs:=[10]) (by kernel_rfl) (by simp) ?_
    refine yE rfl (fun K hK=>?_) yF
    simp only [yc,ya,yb]
    go_simp
    refine hK.out _ _ ⟨by rw [yg _ _ _ _ (by simp [C])]; exact m1,by rw [yg _ _ _ _ (by simp [C])]; exact m2,by rw [yg _ _ _ _ (by simp [C])]; exact m3,by rw [yg _ _ _ _ (by simp [C])]; exact m4⟩ (fun f=>?_)
    clear hK
    refine wpAnyH_done (by kernel_rfl) ?_ _
    clear J f
    go_wp2_with fail
    go_ret
    exact zA D
  ·have HN:=zB ((zA z) ho)
   clear ho
   go_wp2_with fail
   go_ret
   exact ⟨false,rfl,yR ⟨rfl,zA HN⟩,((zA E).mono (by omega)).alloc (by omega) _⟩
theorem zZ.mono {w:JY} {B B':Nat} {v:Value} (h:zZ w B v ws) (hb:B'<=B):zZ w B' v ws:=by
 obtain ⟨h1,h2 | ⟨g,cap,H,hv,hg,h3⟩⟩:=h
 ·exact ⟨h1,yQ h2⟩
 ·exact ⟨h1,yR ⟨g,cap,H,hv,yr hb hg,h3⟩⟩
theorem zNE (w:JY) (ps:List JZ) (k:Nat) (p:JZ) (h:ps[k]?=some p):(w.alloc (.cells (ps.map Value.string).toArray 9)).cell? ⟨w.heap.size,k,none⟩=some (.string p):=by
 have:=yz (w:=w.alloc (.cells (ps.map Value.string).toArray 9)) (b:=w.heap.size) (heap_alloc_new w _) 0 ps.length
 have h2:=this k (.string p) (by simp [List.getElem?_take,h,(yX.1 h).1]; exact (yX.1 h).2)
 simpa using h2
theorem zKs (s:JZ) (w:JY) (hs:s.size<=20000) (hm:zFa w) :
  Calls Tryz.prog 82 #[.string s] w (zMQ w s):=by
 obtain ⟨i0,J,P,y,j⟩:=zN zCL
 have HI:=zB J
 have HZ:=zB (yH P (yH y j))
 clear J P y j
 go_enter Tryz.func82,Tryz.ntmps82
 go_wp2_with (go_at_call 101; refine (zNC s hs w hm).mono ?_; rintro e w1 ⟨ps,HF,hpl,rfl,hw1⟩; have HC:=zB (show ∀ k p,ps[k]?=some p->w1.cell? ⟨w.heap.size,k,none⟩=some (.string p) from fun k p hk=>(by rw [hw1]; exact zNE w ps k p hk)); have U:=zB (show Below w.heap.size w w1 from (by rw [hw1]; exact zC _ _)); have y:w.heap.size+1<=w1.heap.size:=(by rw [hw1]; simp); clear hw1)
 go_loopw [3,9] (fun out i wr=>∃ (k:Nat) (us:List JZ) (v:Value),k<=ps.length/\i = .int .i64 (k:Int)/\out=v/\us.length<=k/\Hid (us=zGS (ps.take k))/\Hid (zZ wr w1.heap.size v us)/\Below w1.heap.size w1 wr) (fun _ i _=>ps.length-(intOf i).toNat)
 case atStart=>exact ⟨0,[],_,yj _,rfl,rfl,yj _,zB rfl,zB (World.ownsRow_nil _ _ _ _),yG _ _⟩
 case round=>
  obtain ⟨k,us,v,hk,rfl,rfl,b,HU,HR,h⟩:=hrel
  by_cases u:k<ps.length
  ·have a:(k:Int)<(ps.length:Int):=by omega
   obtain ⟨p,hp⟩:∃ p,ps[k]?=some p:=⟨_,yn u⟩
   have hc:wr.cell? ⟨w.heap.size,k,none⟩=some (.string p):=(h.cell (p:=⟨w.heap.size,k,none⟩) (by show w.heap.size<w1.heap.size; omega)).trans ((zA HC) k p hp)
   have HT:=zB (zMi ps k p hp)
   by_cases h0:0<p.size
   ·have A:=zFC (t:=p) (by omega)
    have x:=zB (show zGS (ps.take (k+1))=us++[p] by rw [zA HT,yO h0,zA HU])
    clear hp HT h0
    go_wp2_with (at_builtin; refine yJ _ rfl (.tmp 15) (.tmp 17) 39 rfl w1.heap.size 9 i0 _ 1 16 Tryz.underlying39 (zA HI) (zA HZ).1 (zA HZ).2.1 (zA HZ).2.2 rfl (by decide) _ us.length (zI us) rfl ((zA HR).below (zC _ _)) ⟨wr.heap.size,0,none⟩ 1 1 (zI [p]) rfl rfl (by simpa using ZG wr p) (zT _) ?b1 ?b2 ?b3 ?next)
    case b1=>unfold maxLen; omega
    case b2=>omega
    case b3=>have:=h.size; simp; omega
    case next=>
     intro v4 w4 K H Q Y
     have HO:=zB (show zZ w4 w1.heap.size v4 (us++[p]) by
      unfold zZ
      rw [Zx,ym]
      exact K)
     have X:Below w1.heap.size w1 w4:=(h.alloc h.size _).grown H (by have:=h.size; simp; omega) (fun q hq=>((zA HR).lt q hq).1)
     clear K H Q Y
     go_wp2
     exact ⟨⟨k+1,us++[p],_,by omega,by go_num,rfl,by simp; omega,zB (zA x).symm,HO,X⟩,by simp [intOf]; omega⟩
   ·obtain rfl:=zFD (t:=p) (by omega)
    have x:=zB (show zGS (ps.take (k+1))=us by rw [zA HT,yN h0,zA HU,List.append_nil])
    clear hp HT h0
    go_wp2
    exact ⟨⟨k+1,us,_,by omega,by go_num,rfl,by omega,zB (zA x).symm,HR,h⟩,by simp [intOf]; omega⟩
  ·have V:k=ps.length:=by omega
   have HE:=zB (show us=wds s by rw [zA HU,V,List.take_length,zA HF])
   clear V
   go_wp2
   go_ret
   have e:=zA HE
   subst e
   exact ⟨_,rfl,(zA HR).mono (by omega),by omega,(zA U).trans (h.mono (by omega))⟩
def zPF:Value->Value->Nat
 | .string r,.bool true=>r.size+1
 | _,_=>0
theorem zQe {s:JZ} (h:20000<s.size):zy s [] [] ByteArray.empty 1 0:=yQ ⟨h,rfl,rfl,rfl,rfl,rfl⟩
theorem zFb (s:JZ) (w:JY) (hs:s.size<=maxLen) (hm:zFa w) :
  Calls Tryz.prog 60 #[.string s] w (zEs w s):=by
 by_cases j:20000<s.size
 ·have ho:(20000:Int)<(s.size:Int):=by omega
  have HP:=zB (fun w'=>zAE (w:=w) (w':=w') (zQe j))
  unfold maxLen at hs
  clear j
  go_enter Tryz.func60,Tryz.ntmps60
  go_wp2
  refine yK (v:=.tuple #[.agg #[.slice none 0 0,.slice none 0 0,.string ⟨#[]⟩],.int .i64 1,.int .i64 0]) ?res rfl ((zA HP) _ ?_)
  case res=>simp [results,Tryz.results60,go_sem]
  first
   | exact zC _ _
   | exact zK (yh _) [.slice none 0 0,.slice none 0 0,.string ⟨#[]⟩] 0 _ (zC _ _)
 have T:s.size<=20000:=by omega
 have ho:¬ (20000:Int)<(s.size:Int):=by omega
 have HM:=zB hm
 have h3:=hm.lt
 clear hm j hs
 go_enter Tryz.func60,Tryz.ntmps60
 go_wp2_with fail
 obtain ⟨W0,u⟩:∃ W0,W0=(w.alloc (.cells #[.slice none 0 0,.slice none 0 0,.string ⟨#[]⟩] 41)).alloc (.cells #[.slice none 0 0,.slice none 0 0,.string ⟨#[]⟩] 41):=⟨_,rfl⟩
 have hj:=zB (show Below w.heap.size w W0 by rw [u]; exact (zC _ _).alloc (by simp) _)
 have hu:w.heap.size+2<=W0.heap.size:=by rw [u]; simp
 have Z:=zB (show zDZ W0 w.heap.size by rw [u]; exact ⟨by simp [go_sem],by simp [go_sem],by simp [go_sem],fun o=>by simp [go_sem]⟩)
 have O:=zB (show UnM W0 (w.heap.size+1) (w.heap.size+1) (.slice none 0 0) (.slice none 0 0) [] [] ⟨#[]⟩ by rw [u]; exact ⟨by simp [go_sem],by simp [go_sem],by simp [go_sem],fun o=>by simp [go_sem],yh _,World.ownsRow_nil _ _ _ _,World.ownsRow_nil _ _ _ _,by simp [Value.ownBlock],by simp [Value.ownBlock],fun g e=>by cases e⟩)
 rw [<- u]
 clear u
 go_loopw [6,7,8] (fun rest more num wr=>∃ (r:JZ) (m:Bool) (n:Nat),rest = .string r/\more = .bool m/\num = .int .i64 (n:Int)/\n<=20002/\Below (w.heap.size+1) W0 wr/\((m=false/\Hid (zy s [] [] ByteArray.empty 3 0))\/(m=true/\∃ (a:Nat) (us:List JZ) (os:List OpR) (vu vo:Value),a<=s.size/\n<=a+1/\us.length<=a/\os.length<=a/\Hid (r=s.extract a s.size)/\Hid (zC3 s (pcs 10 s a) n us os)/\Hid (UnM wr (w.heap.size+1) (w.heap.size+1) vu vo us os ⟨#[]⟩)))) (fun rest more _ _=>zPF rest more)
 case atStart=>exact ⟨s,true,1,rfl,rfl,rfl,by omega,yG _ _,yR ⟨rfl,0,[],[],_,_,yj _,by omega,yh _,yh _,zB (zJc s).symm,zB (zC3.start T),O⟩⟩
 case round=>
  clear O
  obtain ⟨r,m,n,rfl,rfl,rfl,hn,V,J⟩:=hrel
  have C:=zB (show Below w.heap.size w wr from (zA hj).trans (V.mono (by omega)))
  have hA:w.heap.size+2<=wr.heap.size:=yr hu V.size
  obtain ⟨y0,y1,y2,y3⟩:=(zA Z).below V (by omega)
  have G:=zB ((zA HM).below (zA C))
  rcases J with ⟨rfl,HE⟩ | ⟨rfl,a,us,os,vu,vo,ha,h9,h8,h7,HR,HT,HU⟩
  ·have HP:=zB (fun w'=>zAE (w:=w) (w':=w') (zA HE))
   have y30:=y3 0
   have y31:=y3 1
   have y32:=y3 2
   go_wp2
   refine yK (v:=.tuple #[.agg #[.slice none 0 0,.slice none 0 0,.string ⟨#[]⟩],.int .i64 3,.int .i64 0]) ?res rfl ((zA HP) _ ?_)
   case res=>simp [results,Tryz.results60,go_sem,y0,y1,y2]
   first
    | exact zA C
    | exact zK (yh _) [.slice none 0 0,.slice none 0 0,.string ⟨#[]⟩] 0 _ (zA C)
  ·obtain ⟨z,hz⟩:∃ z,z=nx 10 s a:=⟨_,rfl⟩
   obtain ⟨g1,g2,g3,g4⟩:=zAP 10 s a ha
   rw [<- hz] at g1 g2
   have Q:=zBa 10 s a ha
   rw [<- hz] at Q
   obtain ⟨t,ht⟩:∃ t,t=s.extract a z:=⟨_,rfl⟩
   have hw:t.size<=20000:=by rw [ht,Zs]; omega
   have P:=zB (zRk s r a (zA HR) ha T wr (zA G))
   rw [<- hz,<- ht] at P
   have N:=zB (Q ▸ zA HT)
   have I:r.size=s.size-a:=by rw [zA HR,Zs,Nat.min_self]
   have h0:=zB I
   have b:=zB ht
   obtain ⟨mo,K⟩:∃ mo,mo=decide (z<s.size):=⟨_,rfl⟩
   rw [<- K] at P
   have hg:=zB K
   have h4:=(zA HU).lt
   have hi:=zB y3
   have y30:=y3 0
   have y31:=y3 1
   have y32:=y3 2
   clear hz g3 g4 Q ht I HT K HM Z HR y3
   go_wp2_with fail
   (with_reducible refine (zA P).mono ?_)
   rintro e w1 ⟨rfl,hb1⟩
   have hr:=zB hb1
   have z1:=hb1.size
   have i:=zB (zKs t w1 hw ((zA G).below hb1))
   clear hb1 P G
   go_wp2_with fail
   (with_reducible refine (zA i).mono ?_)
   rintro e w2 ⟨v,rfl,hr2,hl2,hb2⟩
   obtain ⟨ws,B⟩:∃ ws,ws=wds t:=⟨_,rfl⟩
   rw [<- B] at hr2 hl2
   have Y:=zB B
   have d:=zB ((zA hr).trans (hb2.mono z1))
   have z2:wr.heap.size<=w2.heap.size:=yr z1 hb2.size
   have y:=zB ((zA HU).below (zA d))
   have E:=zB ((zA C).trans ((zA d).mono (by omega)))
   have R:=zB (show Below (w.heap.size+1) W0 w2 from V.trans ((zA d).mono (by omega)))
   have Q:=zB hr2.strs
   have L:=zB (show ∀ q,v.ownBlock=some q->q≠w.heap.size+1/\vu.ownBlock≠some q from fun q e=>by
    have:=(hr2.lt q e).1
    exact ⟨by omega,fun e2=>by have:=((zA HU).ru.lt q e2).2; omega⟩)
   have f:=zB (show ∀ x∈ws,x.size<=maxLen from fun x hx=>by
    have:=zEu (l:=t) (by rw [<- zA Y]; exact hx)
    unfold maxLen
    omega)
   obtain ⟨x0,x1,x2,x3⟩:zDZ w2 w.heap.size:=zDZ.below ⟨y0,y1,y2,fun o=>(zA hi) o⟩ (zA d) (by omega)
   have x30:=x3 0
   have x31:=x3 1
   have x32:=x3 2
   have hq:ws.length<=20001:=by omega
   by_cases h:ws=[Zp]
   ·have HI:=zB (show zy s us os (zA3 s z) 0 0 from (zA N).begin (by show wds (s.extract a z)=_; rw [<- zA b,<- zA Y]; exact h))
    obtain ⟨gw,c,rfl,h1,hc⟩:=(zA Q).lt (by rw [h]; simp)
    have k0:w2.cell? ⟨gw,0,none⟩=some (.string ⟨#[98,101,103,105,110]⟩):=hc 0 _ (by rw [h]; rfl)
    have hb:ws.length=1:=by rw [h]; rfl
    rw [hb]
    obtain ⟨au,cu,rfl⟩:=zO (zA y).ru
    obtain ⟨ao,co,rfl⟩:∃ a c,vo = .slice a os.length c:=zO (zA y).ro
    have u0:=(zA y).c0
    have u1:=(zA y).c1
    have u2:=(zA y).c2
    have f2:=(zA y).fz 2
    obtain ⟨ans,_⟩:=zEt (b':=zA3 s z) (by omega) (zA y) (zA E) (zA HI) (by omega) (by omega)
    have W:=zB ans
    have e1:w.heap.size+1≠w.heap.size:=by omega
    have e2:w.heap.size≠w.heap.size+1:=by omega
    clear ans hc h B hr2 hl2 hb2 x3 Q L f i Y hb
    go_wp2_with fail
    refine yK (v:=.tuple #[.agg #[.slice au us.length cu,.slice ao os.length co,.string (zA3 s z)],.int .i64 0,.int .i64 0]) ?res rfl (zA W)
    case res=>simp [results,Tryz.results60,go_sem,x0,x1,x2,e1,e2,u0,u1,u2]
   ·have M:wds (s.extract a z)≠[Zp]:=by rw [<- zA b,<- zA Y]; exact h
    have hh:=zB (zND (w.heap.size+1) (w.heap.size+1) vu vo v us os ⟨#[]⟩ ws w2 (zA y) (zA Q) (zA f) (zA L) (by omega) (by omega) hq)
    have U:=zB (fun (hl:∀ us' os',¬ zAL ws us os us' os')=>(zA N).bad M (by show ∀ us' os',¬ zAL (wds (s.extract a z)) us os us' os'; rw [<- zA b,<- zA Y]; exact hl))
    have A:=zB (fun us' os' (hl:zAL ws us os us' os')=>(zA N).next M (us':=us') (os':=os') (by show zAL (wds (s.extract a z)) us os us' os'; rw [<- zA b,<- zA Y]; exact hl))
    have F:((ws.length:Int)==1)=false\/(((ws.length:Int)==1)=true/\∃ gw c k,v = .slice (some ⟨gw,0,none⟩) ws.length c/\w2.cell? ⟨gw,0,none⟩=some (.string k)/\(k.toList==[98,101,103,105,110])=false):=by
     by_cases e:ws.length=1
     ·right
      obtain ⟨gw,c,hv,h1,hc⟩:=(zA Q).lt (by omega)
      match ws,e with
      | [k],_=>exact ⟨rfl,gw,c,k,hv,hc 0 k rfl,zDW (fun ek=>h (by rw [ek]; rfl))⟩
     ·left; simp; omega
    obtain ⟨av,cv,hv⟩:=zO hr2
    clear h M B hr2 hl2 hb2 x3 L f i Y Q
    rcases F with hf | ⟨hf,gw,c,k,hp,k0,hk⟩
    all_goals
     first
      | (subst hp; clear hv; have h2:(0:Int)<(ws.length:Int):=(by have:=beq_iff_eq.1 hf; omega))
      | subst hv
     go_wp2_with fail
     (with_reducible refine (zA hh).mono ?_)
     rintro e w3 ⟨ok,rfl,J,hb3⟩
     have D:=zB ((zA E).trans (hb3.mono (by omega)))
     have S:=zB (show Below (w.heap.size+1) W0 w3 from (zA R).trans hb3)
     have q0:=(hb3.cell (p:=⟨w.heap.size,0,none⟩) (Nat.lt_succ_self _)).trans x0
     have q1:=(hb3.cell (p:=⟨w.heap.size,1,none⟩) (Nat.lt_succ_self _)).trans x1
     have q2:=(hb3.cell (p:=⟨w.heap.size,2,none⟩) (Nat.lt_succ_self _)).trans x2
     have q30:=(hb3.frozen (p:=⟨w.heap.size,0,none⟩) (Nat.lt_succ_self _)).trans x30
     have q31:=(hb3.frozen (p:=⟨w.heap.size,1,none⟩) (Nat.lt_succ_self _)).trans x31
     have q32:=(hb3.frozen (p:=⟨w.heap.size,2,none⟩) (Nat.lt_succ_self _)).trans x32
     clear hb3 hh
     rcases J with ⟨rfl,us',os',vu',vo',H,he,h5,h6⟩ | ⟨rfl,H⟩
     ·have hd:=zB ((zA A) us' os' H)
      have hy:=zB he
      clear H he U A
      go_wp2_with fail
      refine ⟨⟨zA3 s z,mo,n+1,rfl,rfl,by go_num,by omega,zA S,?_⟩,?_⟩
      ·have K:=zA hg
       by_cases X:z<s.size
       ·right
        refine ⟨by rw [K]; simpa using X,z+1,us',os',vu',vo',by omega,by omega,by omega,by omega,zB ?_,zB ?_,hy⟩
        ·unfold zA3; rw [yO X]
        ·have:=zA hd; rw [yO X] at this; exact this
       ·left
        refine ⟨by rw [K]; simpa using X,zB ?_⟩
        have:=zA hd
        rw [yN X] at this
        exact this.fin
      ·have K:=zA hg
       have I:=zA h0
       by_cases X:z<s.size
       ·have:mo=true:=by rw [K]; simpa using X
        subst this
        simp only [zPF]
        unfold zA3
        rw [yO X,Zs]
        omega
       ·have:mo=false:=by rw [K]; simpa using X
        subst this
        simp only [zPF]
        omega
     ·have HI:=zB ((zA U) H)
      have HP:=zB (fun w'=>zAE (w:=w) (w':=w') (zA HI))
      clear H U A
      go_wp2_with fail
      refine yK (v:=.tuple #[.agg #[.slice none 0 0,.slice none 0 0,.string ⟨#[]⟩],.int .i64 2,.int .i64 (n:Int)]) ?res rfl ((zA HP) _ ?_)
      case res=>simp [results,Tryz.results60,go_sem,q0,q1,q2]
      first
       | exact zA D
       | exact zK (yh _) [.slice none 0 0,.slice none 0 0,.string ⟨#[]⟩] 0 _ (zA D)
open Go.Maps
def zPG (B:Nat) (vs:List UvR):Prop:=∀ i,i<vs.length->(∀ g,(atV vs i).vu.ownBlock=some g->B<=g)/\(∀ g,(atV vs i).vo.ownBlock=some g->B<=g)
theorem zPG.step {B:Nat} {vs:List UvR} {x:UvR} (h:zPG B vs) (hu:∀ g,x.vu.ownBlock=some g->B<=g) (ho:∀ g,x.vo.ownBlock=some g->B<=g):zPG B (vs++[x]):=fun i hi=>by
 by_cases e:i<vs.length
 ·rw [zKH e]; exact h i e
 ·have e1:i=vs.length:=by simp at hi; omega
  subst e1
  rw [zKI]
  exact ⟨hu,ho⟩
structure PgA (w:JY) (B P bs:Nat) (am:Option Addr) (cm n:Nat) (v1:Value) (vs:List UvR) (U:List UnR):Prop where
 hP:P<B
 hbs:bs<B
 hne:bs≠P
 c0:w.cell? ⟨P,0,none⟩=some (.slice am n cm)
 c1:w.cell? ⟨P,1,none⟩=some v1
 c2:w.cell? ⟨P,2,none⟩=some (.slice none 0 0)
 c3:w.cell? ⟨P,3,none⟩=some (.map none)
 c4:w.cell? ⟨P,4,none⟩=some (.map (some bs))
 fz:∀ o,w.frozen? ⟨P,o,none⟩=false
 row:zA9 w B v1 vs
 uns:zFq w v1 vs U
 lo:zPG B vs
 sm:zAI w bs 0 (fun _=>none)
theorem PgA.lt {w:JY} {B P bs:Nat} {am:Option Addr} {cm n:Nat} {v1:Value} {vs:List UvR} {U:List UnR} (h:PgA w B P bs am cm n v1 vs U):P<w.heap.size:=World.block_lt_of_cell? _ _ h.c0
theorem PgA.step {w w1 w4:JY} {B P bs:Nat} {am:Option Addr} {cm n:Nat} {v1 v4:Value} {vs:List UvR} {U:List UnR} {x:UvR} {y:UnR} (h:PgA w B P bs am cm n v1 vs U) (hB:B<=w.heap.size) (hb:Below w.heap.size w w1)
  (h1:zq w1 x.vu y.us) (h2:zt w1 x.vo y.os) (h3:x.b=y.b) (hu:∀ g,x.vu.ownBlock=some g->w.heap.size<=g/\g<w1.heap.size) (ho:∀ g,x.vo.ownBlock=some g->w.heap.size<=g/\g<w1.heap.size)
  (hg:w1.grownBy w4 v1.ownBlock) (hr:zA9 w4 B v4 (vs++[x])) (X:v4.ownBlock=v1.ownBlock\/∃ k,v4.ownBlock=some k/\w1.heap.size<=k) :
  PgA (w4.setCell ⟨P,1,none⟩ v4) B P bs am cm n v4 (vs++[x]) (U++[y]):=by
 have Q:=h.lt
 have hz:=hb.size
 have J:=hg.size
 have j:=h.hP
 have Y:=h.hbs
 have K:∀ g,v1.ownBlock=some g->B<=g/\g<w.heap.size:=h.row.lt
 have nP:v1.ownBlock≠some P:=fun e=>by have:=(K P e).1; omega
 have nb:v1.ownBlock≠some bs:=fun e=>by have:=(K bs e).1; omega
 have kc:=fun q=>(zE hg (b:=P) (by omega) nP q).trans (hb.cell (p:=⟨P,q,none⟩) Q)
 have kf:=fun q=>(zv hg (b:=P) (by omega) nP q).trans (hb.frozen (p:=⟨P,q,none⟩) Q)
 have n4:v4.ownBlock≠some P:=fun e=>by
  rcases X with h | ⟨k,h,hk⟩
  ·exact nP (h.symm.trans e)
  ·rw [h] at e; injection e with e; omega
 have hU:=h.uns.step hb (fun g e=>(K g e).2) h1 h2 h3 hu ho hg X
 have oth:∀ (q:Nat),q≠1->(w4.setCell ⟨P,1,none⟩ v4).cell? ⟨P,q,none⟩=w.cell? ⟨P,q,none⟩:=fun q hq=>(yg _ _ _ _ (by first | (simp; omega) | (intro x; injection x with _ x; omega))).trans (kc q)
 have sg:=zf w4 P 1 v4
 have H:=h.lo.step (x:=x) (fun g e=>by have:=(hu g e).1; omega) (fun g e=>by have:=(ho g e).1; omega)
 refine ⟨h.hP,h.hbs,h.hne,(oth 0 (by omega)).trans h.c0,yo _ _ _ ((kc 1).trans h.c1),(oth 2 (by omega)).trans h.c2,(oth 3 (by omega)).trans h.c3,(oth 4 (by omega)).trans h.c4,fun o=>(yq _ _ _ _).trans ((kf o).trans (h.fz o)),hr.grown sg (fun k e x=>n4 (e.trans x.symm)),⟨hU.1,fun i hi=>?_⟩,H,((h.sm.kept (zH hb none) (by simp)).kept hg (fun e=>nb e.symm)).kept sg (fun e=>h.hne (by injection e))⟩
 obtain ⟨⟨q1,q2,q3⟩,q4,q5⟩:=hU.2 i hi
 exact ⟨⟨q1.grown sg (fun g e x=>by injection x with x; have:=(H i hi).1 g e; omega),q2.grown sg (fun g e x=>by injection x with x; have:=(H i hi).2 g e; omega),q3⟩,fun g e=>⟨(q4 g e).1,by simpa [World.setCell] using (q4 g e).2⟩,fun g e=>⟨(q5 g e).1,by simpa [World.setCell] using (q5 g e).2⟩⟩
end Go.Proofs.YtgbkgkdpdfdokaaGreatDoor
