import Derived.Deep.RegionHeld3
import Derived.Test.YtgbkgkdpdfdokaaGreatDoorQ02
namespace Go.Proofs.YtgbkgkdpdfdokaaGreatDoor
set_option linter.all false
set_option maxHeartbeats 16000000
set_option maxRecDepth 100000
open Go.RowKit
variable {a:Option Addr} {bs:List UInt8} {cap p rp:Nat} {w w':World} {xs:List OpR}
def gen (bs:List UInt8) (ns:List OpR) (grp:Bool):Nat->Nat->List zD->Nat×List zD
 | 0,p,us=>(adv bs (adv bs p),us++[zEd (nxt bs (adv bs p))])
 | d+1,p,us=>
  if bs.length<=adv bs p\/nxt bs p%8=0\/ns.length=0 then (adv bs (adv bs p),us++[zEd (nxt bs (adv bs p))])
  else if grp=true/\nxt bs p%8=1 then ((gen bs ns grp d (adv bs p) us).1,(gen bs ns grp d (adv bs p) us).2++[⟨6,⟨#[]⟩,((gen bs ns grp d (adv bs p) us).2.length:Int)-1,0⟩])
  else if (atO ns (nxt bs p/8%ns.length)).k=2 then
   ((gen bs ns grp d (gen bs ns grp d (adv bs p) us).1 (gen bs ns grp d (adv bs p) us).2).1,(gen bs ns grp d (gen bs ns grp d (adv bs p) us).1 (gen bs ns grp d (adv bs p) us).2).2++[⟨(atO ns (nxt bs p/8%ns.length)).k+2,(atO ns (nxt bs p/8%ns.length)).s,((gen bs ns grp d (adv bs p) us).2.length:Int)-1,((gen bs ns grp d (gen bs ns grp d (adv bs p) us).1 (gen bs ns grp d (adv bs p) us).2).2.length:Int)-1⟩])
  else ((gen bs ns grp d (adv bs p) us).1,(gen bs ns grp d (adv bs p) us).2++[⟨(atO ns (nxt bs p/8%ns.length)).k+2,(atO ns (nxt bs p/8%ns.length)).s,((gen bs ns grp d (adv bs p) us).2.length:Int)-1,0⟩])
theorem zEf (bs:List UInt8) (ns:List OpR) (grp:Bool):∀ (d p:Nat) (us:List zD),us.length+1<=(gen bs ns grp d p us).2.length/\(gen bs ns grp d p us).2.length+1<=us.length+2 ^ (d+1)
 | 0,p,us=>by simp [gen]
 | d+1,p,us=>by
  have h1:=zEf bs ns grp d (adv bs p) us
  have h2:=zEf bs ns grp d (gen bs ns grp d (adv bs p) us).1 (gen bs ns grp d (adv bs p) us).2
  have hp:(2:Nat) ^ (d+1+1)=2 ^ (d+1)*2:=Nat.pow_succ ..
  have hq:2<=2 ^ (d+1):=by have:=Nat.pow_le_pow_right (show 0<2 by decide) (show 1<=d+1 by omega); omega
  simp only [gen]
  split
  ·simp only [ym,yv,yW]; omega
  ·split
   ·simp only [ym,yv,yW]; omega
   ·split
    ·simp only [ym,yv,yW]; omega
    ·simp only [ym,yv,yW]; omega
theorem zH5 (rp cap gt ct:Nat) (a:Option Addr) (bs:List UInt8) (ns:List OpR) (grp:Bool) (hl:bs.length<=1200) (hN:ns.length<=1048576) (A:gt≠rp) (ht:∀ j,j<ns.length->0<=(atO ns j).k/\(atO ns j).k<=9):∀ (d p B g c:Nat) (us:List zD) (w:JY),d<=10->us.length+2 ^ (d+1)<=100000->RdS w rp a cap bs p->Zn w B g c us->B<=w.heap.size->rp<B->gt<B->Ops w gt 0 ns ->
  Calls Tryz.prog 93 #[.pointer (some ⟨rp,0,none⟩),.agg #[.slice (some ⟨gt,0,none⟩) ns.length ct],.int .i64 (d:Int),.bool grp,.slice (some ⟨g,0,none⟩) us.length c] w (zEe w rp cap a bs B g (gen bs ns grp d p us).1 (gen bs ns grp d p us).2)
 | 0,p,B,g,c,us,w,_,hm,hrd,hr,hB,hrp,hgt,ho=>by
  have Hb:=hrd.lt
  have HR:=zB (hr.below (zC w (.cells #[.slice (some ⟨gt,0,none⟩) ns.length ct] 33)))
  have HX:=zB (zAj rp cap p a bs _ (hrd.below (zC w (.cells #[.slice (some ⟨gt,0,none⟩) ns.length ct] 33))) hl)
  have hg:=hr.lt
  clear hrd hr ho
  go_enter Tryz.func93,Tryz.ntmps93
  go_wp2_with fail
  (with_reducible refine (zA HX).mono ?_)
  rintro e w1 ⟨⟨k,rfl,hk,HK⟩,H1,HP1⟩
  have z1:w.heap.size+1<=w1.heap.size:=by have:=(zA HP1).size; simpa using this
  have D:=zB (zGb rp cap (adv bs p) B g c a bs us w1 (zA H1) hl (by omega) ((zA HR).kept (zA HP1) (by omega)) (by omega) hrp)
  have t:=zB ((K2.ofB (rp:=rp) (g:=g) (zC w (.cells #[.slice (some ⟨gt,0,none⟩) ns.length ct] 33))).trans (K2.of1 (g:=g) (zA HP1)) (yQ rfl))
  clear HX HR H1 HP1
  go_wp2_with fail
  (with_reducible refine (zA D).mono ?_)
  rintro e w2 ⟨g',c',rfl,hr2,hg2,I,hk2⟩
  go_wp2_with fail
  go_ret
  exact ⟨g',c',(by simp [gen]),hr2,by omega,I,zB ((zA t).trans (zA hk2) (yQ rfl))⟩
 | d+1,p,B,g,c,us,w,hd,hm,hrd,hr,hB,hrp,hgt,ho=>by
  have Hb:=hrd.lt
  have hg:=hr.lt
  have Hj:(2:Nat) ^ (d+1+1)=2 ^ (d+1)*2:=Nat.pow_succ ..
  obtain ⟨i0,hD,hz,h5,hJ⟩:=zN zC7
  have HI:=zB hD
  have HZ:=zB (yH hz (yH h5 hJ))
  clear hD hz h5 hJ
  have h0:us.length+2 ^ (d+1)<=100000:=by omega
  have Hh:us.length<=99998:=by have:=Nat.pow_le_pow_right (show 0<2 by decide) (show 1<=d+1 by omega); omega
  have I:d<=10:=by omega
  have hO:=zB hm
  have ha:=zB (zH5 rp cap gt ct a bs ns grp hl hN A ht d)
  have F:=zC w (.cells #[.slice (some ⟨gt,0,none⟩) ns.length ct] 33)
  have HR:=zB (hr.below F)
  have HO:=zB (ho.below F (by omega))
  have HX:=zB (zAj rp cap p a bs _ (hrd.below F) hl)
  have hw:=zB F
  have Hn:((d:Int)+1==0)=false:=by simp; omega
  obtain ⟨y1,y2,hy⟩:∃ y1 y2,gen bs ns grp (d+1) p us=(y1,y2):=⟨_,_,rfl⟩
  have HY:=zB hy
  rw [hy]
  clear hrd hr ho F hy
  go_enter Tryz.func93,Tryz.ntmps93
  go_wp2_with fail
  (with_reducible refine (zA HX).mono ?_)
  rintro e w1 ⟨⟨k,rfl,hk,HK⟩,H1,HP1⟩
  have z1:w.heap.size+1<=w1.heap.size:=by have:=(zA HP1).size; simpa using this
  have h9:=zB ((zA HR).kept (zA HP1) (by omega))
  have h4:=zB ((zA HP1).ops (zA HO) (by simp; omega) A)
  have t1:w1.cell? ⟨w.heap.size,0,none⟩=some (.slice (some ⟨gt,0,none⟩) ns.length ct):=((zA HP1).cell (b:=w.heap.size) (by simp) (by omega) 0).trans (by simp [go_sem])
  have t:=zB ((K2.ofB (rp:=rp) (g:=g) (zA hw)).trans (K2.of1 (g:=g) (zA HP1)) (yQ rfl))
  have hc:=zB (zCX rp cap (adv bs p) a bs w1 (zA H1) hl)
  obtain ⟨L,hL⟩:∃ L,L=bs.length-adv bs p:=⟨_,rfl⟩
  rw [<- hL] at hc
  have HL:=zB hL
  clear HX HR HO HP1 hw hL
  go_wp2_with fail
  (with_reducible refine (zA hc).mono ?_)
  rintro e w2 ⟨rfl,H2,hb2⟩
  have z2:=hb2.size
  have S:=zB ((zA h9).below hb2)
  have R:=zB ((zA h4).below hb2 (by omega))
  have t2:=(hb2.cell (p:=⟨w.heap.size,0,none⟩) (by show w.heap.size<w1.heap.size; omega)).trans t1
  have J:=zB ((zA t).trans (K2.ofB (rp:=rp) (g:=g) hb2) (yQ rfl))
  clear hc H1 h9 h4 t1 t hb2
  by_cases u:L=0\/k%8=0\/ns.length=0
  ·have D:=zB (zGb rp cap (adv bs p) B g c a bs us w2 (zA H2) hl (by omega) (zA S) (by omega) hrp)
   obtain ⟨rfl,hG⟩:y1=adv bs (adv bs p)/\y2=us++[zEd (nxt bs (adv bs p))]:=by
    have e:=zA HY
    simp only [gen] at e
    rw [yO (by rw [<- zA HK]; rcases u with h | h; exact yQ (by have:=zA HL; omega); exact yR h)] at e
    injection e with e1 e2
    exact ⟨e1.symm,e2.symm⟩
   rw [<- hG] at D
   clear hG HY
   by_cases h1:L=0
   ·subst h1
    clear u
    go_wp2_with fail
    (with_reducible refine (zA D).mono ?_)
    rintro e w3 ⟨g',c',rfl,hr3,hg3,hd3,hk3⟩
    go_wp2_with fail
    go_ret
    exact ⟨g',c',rfl,hr3,by omega,hd3,zB ((zA J).trans (zA hk3) (yQ rfl))⟩
   ·have hK:¬ (L:Int)<=0:=by omega
    by_cases h2:k%8=0
    ·have e8:((k:Int)%8==0)=true:=by simp; omega
     clear u h2
     go_wp2_with fail
     (with_reducible refine (zA D).mono ?_)
     rintro e w3 ⟨g',c',rfl,hr3,hg3,hd3,hk3⟩
     go_wp2_with fail
     go_ret
     exact ⟨g',c',rfl,hr3,by omega,hd3,zB ((zA J).trans (zA hk3) (yQ rfl))⟩
    ·have e8:((k:Int)%8==0)=false:=by simp; omega
     have h3:ns.length=0:=by omega
     have e9:((ns.length:Int)==0)=true:=by simp [h3]
     clear u h2 h3
     go_wp2_with fail
     (with_reducible refine (zA D).mono ?_)
     rintro e w3 ⟨g',c',rfl,hr3,hg3,hd3,hk3⟩
     go_wp2_with fail
     go_ret
     exact ⟨g',c',rfl,hr3,by omega,hd3,zB ((zA J).trans (zA hk3) (yQ rfl))⟩
  ·have hQ:L≠0:=fun h=>u (yQ h)
   have Ha:k%8≠0:=fun h=>u (yR (yQ h))
   have Hm:ns.length≠0:=fun h=>u (yR (yR h))
   have hv:=zB (show ¬ (bs.length<=adv bs p\/nxt bs p%8=0\/ns.length=0) by rw [<- zA HK]; have:=zA HL; omega)
   have hK:¬ (L:Int)<=0:=by omega
   have e8:((k:Int)%8==0)=false:=by simp; omega
   have e9:((ns.length:Int)==0)=false:=yU.2 (by omega)
   have hj:=zB ((zA ha) (adv bs p) B g c us w2 I h0 (zA H2) (zA S) (by omega) hrp hgt (zA R))
   obtain ⟨q1,H,hq⟩:∃ q1 H,gen bs ns grp d (adv bs p) us=(q1,H):=⟨_,_,rfl⟩
   have f:=zEf bs ns grp d (adv bs p) us
   rw [hq] at hj f
   have HQ:=zB hq
   clear u hq hQ
   by_cases x:grp=true/\k%8=1
   ·obtain ⟨rfl,h8⟩:=x
    have e81:((k:Int)%8==1)=true:=by simp; omega
    obtain ⟨rfl,hn⟩:y1=q1/\y2=H++[⟨6,⟨#[]⟩,(H.length:Int)-1,0⟩]:=by
     have e:=zA HY
     simp only [gen] at e
     rw [yN (zA hv),yO (by rw [<- zA HK]; first | exact ⟨rfl,h8⟩ | exact ⟨trivial,h8⟩),zA HQ] at e
     injection e with e1 e2
     exact ⟨e1.symm,e2.symm⟩
    have hW:=zB hn
    clear hn h8 Ha
    go_wp2_with fail
    (with_reducible refine (zA hj).mono ?_)
    rintro e w3 ⟨g1,c1,rfl,hr1,hg1,hd1,hk1⟩
    have z3:=(zA hk1).size
    have hS:=(zA hr1).lt
    have Hd:1<=H.length:=by have:=f.1; omega
    have Hc:H.length<=100000:=by have:=f.2; omega
    have hF:=zB ((zA J).trans (zA hk1) (yQ rfl))
    go_wp2_with (at_builtin; refine yJ _ rfl (.tmp 50) (.tmp 55) 123 rfl B 144 i0 _ 4 40 Tryz.underlying123 (zA HI) (zA HZ).1 (zA HZ).2.1 (zA HZ).2.2 rfl (by decide) _ H.length (zL H) rfl ((zA hr1).below (zC _ _)) ⟨w3.heap.size,0,none⟩ 1 1 (zL [⟨6,⟨#[]⟩,(H.length:Int)-1,0⟩]) rfl rfl (ZN w3 ⟨6,⟨#[]⟩,(H.length:Int)-1,0⟩) (zS _) ?b1 ?b2 ?b3 ?next)
    case b1=>unfold maxLen; omega
    case b2=>omega
    case b3=>simp; omega
    case next=>
     intro v4 w4 q K Q y
     obtain ⟨g4,c4,rfl,V⟩:=Zn.snoc q (by simp [Q]) (zA hW)
     have v:=zB V
     have x:World.grownBy _ w4 (some g1):=K
     have Y:=zB (((zA hd1).below (zC w3 (.cells #[.int .i64 6,.string ⟨#[]⟩,.int .i64 ((H.length:Int)-1),.int .i64 0] 144))).row x (by omega))
     have U:=zB (((zA hF).trans (K2.ofB (rp:=rp) (g:=g) (zC w3 _)) (yQ rfl)).row x (by omega))
     have n:g4=g\/w.heap.size<=g4:=by simp [Value.ownBlock] at y; omega
     clear q K x Q V y
     go_wp2_with fail
     go_ret
     exact ⟨g4,c4,rfl,v,n,Y,U⟩
   ·obtain ⟨m,r⟩:∃ m,m=k/8%ns.length:=⟨_,rfl⟩
    have hx:m<ns.length:=by rw [r]; exact Nat.mod_lt _ (by omega)
    have e4:(k:Int)/8%(ns.length:Int)=(m:Int):=by rw [r]; simp
    have e5:(m:Int)<(ns.length:Int):=by omega
    have e6:(0:Int)<=(m:Int):=by omega
    have e7:IntKind.i64.wrap ((k:Int)/8)=(k:Int)/8:=Go.IntWalk.i64_in _ (by omega)
    have e10:((k:Int)/8).tmod (ns.length:Int)=(m:Int):=by rw [yu (by omega)]; exact e4
    obtain ⟨a0,a1,a2,a3⟩:=(zA R) m hx
    simp only [yV] at a0 a1 a2 a3
    obtain ⟨o,T⟩:∃ o,o=atO ns m:=⟨_,rfl⟩
    rw [<- T] at a0 a1 a2 a3
    have hY:0<=o.k/\o.k<=9:=by rw [T]; exact ht m hx
    obtain ⟨Hl,hC⟩:=hY
    have G:=zB (show (y1,y2)=(if o.k=2 then ((gen bs ns grp d q1 H).1,(gen bs ns grp d q1 H).2++[⟨o.k+2,o.s,(H.length:Int)-1,((gen bs ns grp d q1 H).2.length:Int)-1⟩]) else (q1,H++[⟨o.k+2,o.s,(H.length:Int)-1,0⟩])) by
     have e:=zA HY
     simp only [gen] at e
     rw [yN (zA hv),yN (by rw [<- zA HK]; exact x),<- zA HK,<- r,<- T,zA HQ] at e
     exact e.symm)
    obtain ⟨q2,X,he⟩:∃ q2 X,gen bs ns grp d q1 H=(q2,X):=⟨_,_,rfl⟩
    have M:=zEf bs ns grp d q1 H
    rw [he] at G M
    have hU:=zB he
    have hA:=zB M
    clear he M
    have h6:grp=false\/(grp=true/\((k:Int)%8==1)=false):=by
     cases grp
     ·exact yQ rfl
     ·refine yR ⟨rfl,?_⟩
      have:k%8≠1:=fun h=>x ⟨rfl,h⟩
      simp; omega
    clear x r T hj
    have hH:gt<w2.heap.size:=by omega
    rcases h6 with rfl | ⟨rfl,e81⟩
    all_goals
     have nn1:=World.new_ne w2 _ t2
     have nn2:=World.new_ne w2 _ a0
     go_wp2_with fail
     go_region_held3 (fun W=>W.cell? ⟨w.heap.size,0,none⟩=some (.slice (some ⟨gt,0,none⟩) ns.length ct)/\W.cell? ⟨gt,m*4,none⟩=some (.string o.s)/\W.cell? ⟨gt,m*4+1,none⟩=some (.int .i64 o.k)/\W.cell? ⟨gt,m*4+2,none⟩=some (.int .i64 o.l)/\W.cell? ⟨gt,m*4+3,none⟩=some (.int .i64 o.sd)) (go_keep) (fail)
     all_goals
      obtain ⟨W4,C⟩:∃ W4,W4=(w2.alloc (.cells #[.string o.s,.int .i64 o.k,.int .i64 o.l,.int .i64 o.sd] 57)).drew:=⟨_,rfl⟩
      rw [<- C]
      have E:Below w2.heap.size w2 W4:=by rw [C]; exact (zC _ _).drew
      have z4:w2.heap.size+1<=W4.heap.size:=by rw [C]; simp
      have t4:W4.cell? ⟨w.heap.size,0,none⟩=some (.slice (some ⟨gt,0,none⟩) ns.length ct):=(E.cell (p:=⟨w.heap.size,0,none⟩) (by show w.heap.size<w2.heap.size; omega)).trans t2
      have p0:W4.cell? ⟨w2.heap.size,0,none⟩=some (.string o.s):=by rw [C]; simp [go_sem]
      have p1:W4.cell? ⟨w2.heap.size,1,none⟩=some (.int .i64 o.k):=by rw [C]; simp [go_sem]
      have Y:=zB ((zA H2).below E)
      have v:=zB ((zA S).below E)
      have z:=zB ((zA R).below E hH)
      have U:=zB ((zA J).trans (K2.ofB (rp:=rp) (g:=g) E) (yQ rfl))
      have hZ:w.heap.size<W4.heap.size:=by omega
      have hV:w2.heap.size<W4.heap.size:=by omega
      have nn3:=World.new_ne W4 _ t4
      have nn4:=World.new_ne W4 _ p0
      clear C E a0 a1 a2 a3 nn1 nn2 t2 H2 S R J
      have N:=zC W4 (.cells #[.int .i64 (o.k+2),.string o.s,.int .i64 0,.int .i64 0] 144)
      have hp:=zB ((zA ha) (adv bs p) B g c us _ I h0 ((zA Y).below N) ((zA v).below N) (by simp; omega) hrp hgt ((zA z).below N (by omega)))
      rw [zA HQ] at hp
      have hu:=zB ((zA U).trans (K2.ofB (rp:=rp) (g:=g) N) (yQ rfl))
      clear Y v N
      go_wp2_with fail
      (with_reducible refine (zA hp).mono ?_)
      rintro e w6 ⟨g1,c1,rfl,hr1,hg1,hd1,hk1⟩
      have z6:W4.heap.size+1<=w6.heap.size:=by have:=(zA hk1).size; simpa using this
      have hS:=(zA hr1).lt
      have Hf:g1=g\/W4.heap.size+1<=g1:=by simp at hg1; omega
      have kc:=fun (b:Nat) (hb:b<W4.heap.size+1) (h1:b≠rp) (h2:b≠g) (o':Nat)=>(zA hk1).cell (b:=b) (by simp; omega) h1 h2 o'
      have n0:w6.cell? ⟨W4.heap.size,0,none⟩=some (.int .i64 (o.k+2)):=(kc _ (by omega) (by omega) (by omega) 0).trans (by simp [go_sem])
      have n1:w6.cell? ⟨W4.heap.size,1,none⟩=some (.string o.s):=(kc _ (by omega) (by omega) (by omega) 1).trans (by simp [go_sem])
      have n2:w6.cell? ⟨W4.heap.size,2,none⟩=some (.int .i64 0):=(kc _ (by omega) (by omega) (by omega) 2).trans (by simp [go_sem])
      have n3:w6.cell? ⟨W4.heap.size,3,none⟩=some (.int .i64 0):=(kc _ (by omega) (by omega) (by omega) 3).trans (by simp [go_sem])
      have nf:∀ o',w6.frozen? ⟨W4.heap.size,o',none⟩=false:=fun o'=>((zA hk1).frozen (b:=W4.heap.size) (by simp) (by omega) (by omega) o').trans (by simp [go_sem])
      have o1:w6.cell? ⟨w2.heap.size,1,none⟩=some (.int .i64 o.k):=(kc _ (by omega) (by omega) (by omega) 1).trans (((zC W4 _).cell (p:=⟨w2.heap.size,1,none⟩) hV).trans p1)
      have t6:w6.cell? ⟨w.heap.size,0,none⟩=some (.slice (some ⟨gt,0,none⟩) ns.length ct):=(kc _ (by omega) (by omega) (by omega) 0).trans (((zC W4 _).cell (p:=⟨w.heap.size,0,none⟩) hZ).trans t4)
      have hM:=zB ((zA hu).trans (zA hk1) (yQ rfl))
      have hE:=zB (show Ops w6 gt 0 ns from fun i hi=>by
       obtain ⟨x0,x1,x2,x3⟩:=((zA z).below (zC W4 (.cells #[.int .i64 (o.k+2),.string o.s,.int .i64 0,.int .i64 0] 144)) (by omega)) i hi
       exact ⟨(kc gt (by omega) A (by omega) _).trans x0,(kc gt (by omega) A (by omega) _).trans x1,(kc gt (by omega) A (by omega) _).trans x2,(kc gt (by omega) A (by omega) _).trans x3⟩)
      have Hd:1<=H.length:=by have:=f.1; omega
      have Hc:H.length+1<=us.length+2 ^ (d+1):=f.2
      have Hk:H.length<=100000:=by omega
      clear hp kc t4 p0 p1 nn3 nn4 z hu hk1
      have h7:=zB (show H.length+2 ^ (d+1)<=100000 by have:=zA hO; omega)
      have ks:=zA4 w6 W4.heap.size 2 (.int .i64 ((H.length:Int)-1))
      have Z:=zB ((zA hd1).kept (fun i hi=>ks.block i (by have:=(zA hd1).lt; omega) (by omega)))
      have hI:=zB ((zA hr1).set W4.heap.size 2 (.int .i64 ((H.length:Int)-1)) (by omega))
      have hs:=zB (show K2 w (w6.setCell ⟨W4.heap.size,2,none⟩ (.int .i64 ((H.length:Int)-1))) rp g from (zA hM).row (zr ks) (yR (by omega)))
      by_cases P:o.k=2
      ·have hR:(o.k==2)=true:=by simp [P]
       have hf:=zB ((zA ha) q1 B g1 c1 H (w6.setCell ⟨W4.heap.size,2,none⟩ (.int .i64 ((H.length:Int)-1))) I (zA h7) (zA Z) (zA hI) (by simp; omega) hrp hgt (ks.ops (zA hE) (by omega) (by omega)))
       have O:=zB (show y1=q2/\y2=X++[⟨o.k+2,o.s,(H.length:Int)-1,(X.length:Int)-1⟩] by
        have e:=(zA G).trans (yO P)
        injection e with e1 e2
        exact ⟨e1,e2⟩)
       rw [zA hU] at hf
       have Ho:=ks.size
       have kc7:=fun (b:Nat) (hb:b<w6.heap.size) (h1:b≠W4.heap.size) (o':Nat)=>ks.cell hb h1 o'
       have m0:(w6.setCell ⟨W4.heap.size,2,none⟩ (.int .i64 ((H.length:Int)-1))).cell? ⟨W4.heap.size,0,none⟩=some (.int .i64 (o.k+2)):=(yg _ _ _ _ (by simp)).trans n0
       have m1:(w6.setCell ⟨W4.heap.size,2,none⟩ (.int .i64 ((H.length:Int)-1))).cell? ⟨W4.heap.size,1,none⟩=some (.string o.s):=(yg _ _ _ _ (by simp)).trans n1
       have m2:(w6.setCell ⟨W4.heap.size,2,none⟩ (.int .i64 ((H.length:Int)-1))).cell? ⟨W4.heap.size,2,none⟩=some (.int .i64 ((H.length:Int)-1)):=yo _ _ _ n2
       have m3:(w6.setCell ⟨W4.heap.size,2,none⟩ (.int .i64 ((H.length:Int)-1))).cell? ⟨W4.heap.size,3,none⟩=some (.int .i64 0):=(yg _ _ _ _ (by simp)).trans n3
       have mf:∀ o',(w6.setCell ⟨W4.heap.size,2,none⟩ (.int .i64 ((H.length:Int)-1))).frozen? ⟨W4.heap.size,o',none⟩=false:=fun o'=>(yq _ _ _ _).trans (nf o')
       clear ks Z hd1 hr1 hE G P
       go_wp2_with fail
       (with_reducible refine (zA hf).mono ?_)
       clear hf
       rintro e w8 ⟨g2,c2,rfl,hr2,hg2,hd8,hk8⟩
       have z8:w6.heap.size<=w8.heap.size:=by have:=(zA hk8).size; omega
       have Hg:=(zA hr2).lt
       have He:g2=g1\/w6.heap.size<=g2:=by simp at hg2; omega
       have r0:=((zA hk8).cell (b:=W4.heap.size) (by omega) (by omega) (by omega) 0).trans m0
       have r1:=((zA hk8).cell (b:=W4.heap.size) (by omega) (by omega) (by omega) 1).trans m1
       have r2:=((zA hk8).cell (b:=W4.heap.size) (by omega) (by omega) (by omega) 2).trans m2
       have r3:=((zA hk8).cell (b:=W4.heap.size) (by omega) (by omega) (by omega) 3).trans m3
       have rf:=((zA hk8).frozen (b:=W4.heap.size) (by omega) (by omega) (by omega) 3).trans (mf 3)
       clear m0 m1 m2 m3 mf kc7 n0 n1 n2 n3
       have Hi:1<=X.length:=by have:=(zA hA).1; omega
       have hn:X.length<=100000:=by have:=(zA hA).2; have:=zA h7; omega
       have hh:=zA4 w8 W4.heap.size 3 (.int .i64 ((X.length:Int)-1))
       have hX:=zB ((zA hd8).kept (fun i hi=>hh.block i (by have:=(zA hd8).lt; omega) (by omega)))
       have hP:=zB ((zA hr2).set W4.heap.size 3 (.int .i64 ((X.length:Int)-1)) (by omega))
       have hC:=zB (show K2 w (w8.setCell ⟨W4.heap.size,3,none⟩ (.int .i64 ((X.length:Int)-1))) rp g from ((zA hs).trans (zA hk8) (by omega)).row (zr hh) (yR (by omega)))
       clear hh
       go_wp2_with (at_builtin; refine yJ _ rfl (.tmp 98) (.tmp 100) 123 rfl B 144 i0 _ 4 40 Tryz.underlying123 (zA HI) (zA HZ).1 (zA HZ).2.1 (zA HZ).2.2 rfl (by decide) _ X.length (zL X) rfl ((zA hP).below (zC _ _)) ⟨w8.heap.size,0,none⟩ 1 1 (zL [⟨o.k+2,o.s,(H.length:Int)-1,(X.length:Int)-1⟩]) rfl rfl (Zl (w8.setCell ⟨W4.heap.size,3,none⟩ (.int .i64 ((X.length:Int)-1))) w8.heap.size ⟨o.k+2,o.s,(H.length:Int)-1,(X.length:Int)-1⟩ (by simp)) (zS _) ?b1 ?b2 ?b3 ?next)
       case b1=>unfold maxLen; omega
       case b2=>omega
       case b3=>simp; omega
       case next=>
        intro v4 w10 q K Q y
        obtain ⟨g4,c4,rfl,V⟩:=Zn.snoc q (by simp [Q]) (zA O).2
        have v:=zB V
        have x:World.grownBy _ w10 (some g2):=K
        have Y:=zB (((zA hX).below (zC _ (.cells #[.int .i64 (o.k+2),.string o.s,.int .i64 ((H.length:Int)-1),.int .i64 ((X.length:Int)-1)] 144))).row x (by omega))
        have U:=zB (((zA hC).trans (K2.ofB (rp:=rp) (g:=g) (zC _ _)) (yQ rfl)).row x (by omega))
        have n:g4=g\/w.heap.size<=g4:=by simp [Value.ownBlock] at y; omega
        rw [<- (zA O).1] at Y
        clear q K x Q V y
        go_wp2_with fail
        go_ret
        exact ⟨g4,c4,rfl,v,n,Y,U⟩
      ·have hR:(o.k==2)=false:=by simp [P]
       have O:=zB (show y1=q1/\y2=H++[⟨o.k+2,o.s,(H.length:Int)-1,0⟩] by
        have e:=(zA G).trans (yN P)
        injection e with e1 e2
        exact ⟨e1,e2⟩)
       clear ks G
       go_wp2_with (at_builtin; refine yJ _ rfl (.tmp 98) (.tmp 100) 123 rfl B 144 i0 _ 4 40 Tryz.underlying123 (zA HI) (zA HZ).1 (zA HZ).2.1 (zA HZ).2.2 rfl (by decide) _ H.length (zL H) rfl ((zA hI).below (zC _ _)) ⟨w6.heap.size,0,none⟩ 1 1 (zL [⟨o.k+2,o.s,(H.length:Int)-1,0⟩]) rfl rfl (Zl (w6.setCell ⟨W4.heap.size,2,none⟩ (.int .i64 ((H.length:Int)-1))) w6.heap.size ⟨o.k+2,o.s,(H.length:Int)-1,0⟩ (by simp)) (zS _) ?b1 ?b2 ?b3 ?next)
       case b1=>unfold maxLen; omega
       case b2=>omega
       case b3=>simp; omega
       case next=>
        intro v4 w8 q K Q y
        obtain ⟨g4,c4,rfl,V⟩:=Zn.snoc q (by simp [Q]) (zA O).2
        have v:=zB V
        have x:World.grownBy _ w8 (some g1):=K
        have Y:=zB (((zA Z).below (zC _ (.cells #[.int .i64 (o.k+2),.string o.s,.int .i64 ((H.length:Int)-1),.int .i64 0] 144))).row x (by omega))
        have U:=zB (((zA hs).trans (K2.ofB (rp:=rp) (g:=g) (zC _ _)) (yQ rfl)).row x (by omega))
        have n:g4=g\/w.heap.size<=g4:=by simp [Value.ownBlock] at y; omega
        rw [<- (zA O).1] at Y
        clear q K x Q V y
        go_wp2_with fail
        go_ret
        exact ⟨g4,c4,rfl,v,n,Y,U⟩
structure RdF (w:JY) (rp:Nat) (a:Option Addr) (cap:Nat) (bs:List UInt8) (p:Nat):Prop where
 c0:w.cell? ⟨rp,0,none⟩=some (.slice a bs.length cap)
 c1:w.cell? ⟨rp,1,none⟩=some (.int .i64 (p:Int))
 fz:w.frozen? ⟨rp,1,none⟩=false
 bts:bs.length=0\/∃ b off,a=some ⟨b,off,none⟩/\b<rp/\∀ i,i<bs.length->w.cell? ⟨b,off+i,none⟩=some (.int .u8 ((bs.getD i 0).toNat:Int))
theorem RdS.free (h:RdS w rp a cap bs p):RdF w rp a cap bs p:=⟨h.c0,h.c1,h.fz,h.bts⟩
theorem RdF.lt (h:RdF w rp a cap bs p):rp<w.heap.size:=block_lt_of_cell h.c0
theorem RdF.kept (h:RdF w rp a cap bs p) (hb:∀ i,i<=rp->w'.heap[i]?=w.heap[i]?):RdF w' rp a cap bs p:=by
 have e:=fun o=>yp (w:=w) (w':=w') (a:=⟨rp,o,none⟩) (hb rp (yh _))
 refine ⟨(e _).trans h.c0,(e _).trans h.c1,(yA (w:=w) (w':=w') (a:=⟨rp,1,none⟩) (hb rp (yh _))).trans h.fz,?_⟩
 rcases h.bts with h0 | ⟨b,H,ha,k,hc⟩
 ·exact yQ h0
 ·exact yR ⟨b,H,ha,k,fun i hi=>(yp (w:=w) (w':=w') (a:=⟨b,H+i,none⟩) (hb b (Nat.le_of_lt k))).trans (hc i hi)⟩
theorem RdF.below (h:RdF w rp a cap bs p) (hb:Below w.heap.size w w'):RdF w' rp a cap bs p:=
 h.kept (fun i hi=>hb.block i (by have:=h.lt; omega))
theorem RdF.move (h:RdF w rp a cap bs p) (q:Nat) (n:Int) (hn:n=(q:Int)):RdF (w.setCell ⟨rp,1,none⟩ (.int .i64 n)) rp a cap bs q:=by
 subst hn
 refine ⟨(yg _ _ _ _ (by simp)).trans h.c0,yo _ _ _ h.c1,(yq _ _ _ _).trans h.fz,?_⟩
 rcases h.bts with h0 | ⟨b,H,ha,k,hc⟩
 ·exact yQ h0
 ·exact yR ⟨b,H,ha,k,fun i hi=>(yg _ _ _ _ (fun e=>by simp at e; first | done | omega)).trans (hc i hi)⟩
theorem RdF.drewN (h:RdF w rp a cap bs p) (n:Nat):RdF (w.drewN n) rp a cap bs p:=h.kept (fun _ _=>rfl)
theorem zM (rp cap p:Nat) (a:Option Addr) (bs:List UInt8) (w:JY) (h:RdF w rp a cap bs p) (hl:bs.length<=1200) :
  Calls Tryz.prog 21 #[.pointer (some ⟨rp,0,none⟩)] w fun e w'=>(∃ k:Nat,e = .returned (.int .i64 (k:Int))/\k<256/\Hid (k=nxt bs p))/\Hid (RdF w' rp a cap bs (adv bs p))/\Hid (zG w w' rp):=by
 have H:=zB h
 obtain ⟨c0,c1,fz,bts⟩:=h
 by_cases hp:p<bs.length
 ·have K:(p:Int)<(bs.length:Int):=by omega
  rcases bts with h0 | ⟨b,q,rfl,Q,hc⟩
  ·omega
  have b0:=hc p hp
  have HA:=zB (show adv bs p=p+1 by simp [adv,hp])
  clear hc
  go_enter Tryz.func21,Tryz.ntmps21
  go_wp2_with fail
  go_quiet (fail)
  go_wp2_with fail
  go_quiet (fail)
  go_wp2_with fail
  go_ret
  rw [zA HA]
  have h8:nxt bs p<256:=zK4 bs p
  refine ⟨⟨nxt bs p,zJ ?_,h8,zB rfl⟩,zB (((zA H).drewN _).move (p+1) _ (by omega)),zB ((Z7 w _ _).trans (zA4 _ rp 1 _))⟩
  have h9:nxt bs p=bs[p].toNat:=by simp [nxt,hp]
  rw [h9] at h8 ⊢
  unfold wrap64
  omega
 ·have K:¬ (p:Int)<(bs.length:Int):=by omega
  have HA:=zB (show adv bs p=p by simp [adv,hp])
  have HN:=zB (show nxt bs p=0 by unfold nxt; rw [yk,List.getElem?_eq_none (by omega)]; rfl)
  clear bts
  go_enter Tryz.func21,Tryz.ntmps21
  go_wp2_with fail
  go_quiet (fail)
  go_wp2_with fail
  go_ret
  rw [zA HA]
  exact ⟨⟨0,rfl,by decide,zB (zA HN).symm⟩,zB ((zA H).drewN _),zB (Z7 w _ _)⟩
theorem RdF.set (h:RdF w rp a cap bs p) (b o:Nat) (v:Value) (hb:rp<b):RdF (w.setCell ⟨b,o,none⟩ v) rp a cap bs p:=
 h.kept (fun i hi=>(zA4 _ _ _ _).block i (by have:=h.lt; omega) (by omega))
theorem RdF.strict (h:RdF w rp a cap bs p) (hp:p<=bs.length):RdS w rp a cap bs p:=⟨h.c0,h.c1,h.fz,hp,h.bts⟩
theorem zDI (rp cap p gt ct:Nat) (a:Option Addr) (bs:List UInt8) (ns:List OpR) (grp:Bool) (w:JY) (h:RdS w rp a cap bs p) (hl:bs.length<=1200) (u:ns.length<=1048576) (A:∀ j,j<ns.length->0<=(atO ns j).k/\(atO ns j).k<=9) (ho:Ops w gt 0 ns) (V:gt<w.heap.size) (P:gt≠rp) :
  Calls Tryz.prog 75 #[.pointer (some ⟨rp,0,none⟩),.agg #[.slice (some ⟨gt,0,none⟩) ns.length ct],.bool grp] w fun e w'=>(∃ g c,e = .returned (.agg #[.slice (some ⟨g,0,none⟩) (gen bs ns grp (2+nxt bs p%5) (adv bs p) []).2.length c])/\(gen bs ns grp (2+nxt bs p%5) (adv bs p) []).2.length<=c/\w.heap.size<=g/\ZL w' g (gen bs ns grp (2+nxt bs p%5) (adv bs p) []).2 (gen bs ns grp (2+nxt bs p%5) (adv bs p) []).2.length)/\Hid (RdS w' rp a cap bs (gen bs ns grp (2+nxt bs p%5) (adv bs p) []).1)/\Hid (zG w w' rp):=by
 have B:=h.lt
 have H:=zB h
 have HO:=zB ho
 clear h ho
 obtain ⟨y,HY⟩:∃ y,Hid (gen bs ns grp (2+nxt bs p%5) (adv bs p) []=y):=⟨_,zB rfl⟩
 rw [zA HY]
 go_enter Tryz.func75,Tryz.ntmps75
 go_wp2_with fail
 have Q:Below w.heap.size w ((w.alloc (.cells #[.slice (some ⟨gt,0,none⟩) ns.length ct] 33)).alloc (.cells #[.slice none 0 0] 125)):=(zC _ _).alloc (by simp) _
 (with_reducible refine (zAj rp cap p a bs _ ((zA H).below Q) hl).mono ?_)
 rintro e w1 ⟨⟨k,rfl,hk,HK⟩,H1,HP1⟩
 have z1:w.heap.size+2<=w1.heap.size:=by have:=(zA HP1).size; simpa using this
 have t0:w1.cell? ⟨w.heap.size,0,none⟩=some (.slice (some ⟨gt,0,none⟩) ns.length ct):=((zA HP1).cell (b:=w.heap.size) (by simp; omega) (by omega) 0).trans (by simp [go_sem])
 have r0:w1.cell? ⟨w.heap.size+1,0,none⟩=some (.slice none 0 0):=((zA HP1).cell (b:=w.heap.size+1) (by simp) (by omega) 0).trans (by simp [go_sem])
 have r1:w1.frozen? ⟨w.heap.size+1,0,none⟩=false:=((zA HP1).frozen (b:=w.heap.size+1) (by simp) (by omega) 0).trans (by simp [go_sem])
 have HW:=zB ((zG.of_below (g:=rp) Q).trans (zA HP1))
 have x:=zB ((zA HW).ops (zA HO) V P)
 obtain ⟨d,HD⟩:∃ d,Hid (d=2+k%5):=⟨_,zB rfl⟩
 have hd:(2:Int)+(k:Int)%5=(d:Int):=by have:=zA HD; omega
 have f:d<=6:=by have:=zA HD; omega
 have X:gen bs ns grp d (adv bs p) []=y:=by rw [zA HD,zA HK]; exact zA HY
 have Y:=zB (show Zn (w1.alloc (.cells #[] 144)) w1.heap.size w1.heap.size 0 [] by
  have:=yD (base:=w1.heap.size) (e:=144) (size:=4) w1 #[] 0 (yh _) (yj _) rfl
  simpa [Zn,zL] using this)
 have D:(2:Nat) ^ (d+1)<=128:=by have:=Nat.pow_le_pow_right (show 0<2 by decide) (show d+1<=7 by omega); omega
 have q:=zC w1 (.cells #[] 144)
 have HC:=zB (zH5 rp cap gt ct a bs ns grp hl u P A d (adv bs p) w1.heap.size w1.heap.size 0 [] _ (by omega) (by simp; omega) ((zA H1).below q) (zA Y) (by simp) (by omega) (by omega) ((zA x).below q (by omega)))
 rw [X,yW] at HC
 have K:=zB q
 have C:gt<w1.heap.size:=by omega
 clear H H1 HP1 Q HO X Y x q
 go_wp2_with fail
 (with_reducible refine (zA HC).mono ?_)
 rintro e w2 ⟨g',c',rfl,hr2,hg2,hd2,hk2⟩
 have z2:w1.heap.size+1<=w2.heap.size:=by have:=(zA hk2).size; simpa using this
 obtain ⟨E,hF⟩:=zBJ (zA hr2)
 have J:=(zMn (zA hr2)).1
 have kc:=fun (b:Nat) (hb:b<w1.heap.size) (h1:b≠rp) (o':Nat)=>((zA hk2).cell (b:=b) (by simp; omega) h1 (by omega) o').trans ((zA K).cell (p:=⟨b,o',none⟩) hb)
 have R0:=(kc (w.heap.size+1) (by omega) (by omega) 0).trans r0
 have R1:w2.frozen? ⟨w.heap.size+1,0,none⟩=false:=(((zA hk2).frozen (b:=w.heap.size+1) (by simp; omega) (by omega) (by omega) 0).trans ((zA K).frozen (p:=⟨w.heap.size+1,0,none⟩) (by show w.heap.size+1<w1.heap.size; omega))).trans r1
 have HF:=zB hF
 have U:=zB (show zG w w2 rp from ⟨(zA hk2).os.trans ((zA K).os.trans (zA HW).os),(zA hk2).tape.trans ((zA K).tape.trans (zA HW).tape),(zA hk2).output.trans ((zA K).output.trans (zA HW).output),by omega,fun i hi h1=>((zA hk2).block i (by simp; omega) h1 (by omega)).trans (((zA K).block i (by omega)).trans ((zA HW).block i hi h1))⟩)
 clear hF kc K HC hk2 HW
 go_wp2_with fail
 refine yK (v:=.agg #[.slice (some ⟨g',0,none⟩) y.2.length c']) ?res rfl ⟨⟨g',c',rfl,J,by omega,(zA HF).setCell _ _ _ (by omega)⟩,zB ((zA hd2).kept (fun i hi=>(zA4 _ _ _ _).block i (by omega) (by omega))),zB ((zA U).setRow (w.heap.size+1) _ _ (yR (by omega)))⟩
 case res=>simp [results,Tryz.results75,go_sem,R0]
theorem zCp (s:JZ) (k l sd:Int) (w:JY) (hs:s.size<=maxLen) :
  Calls Tryz.prog 30 #[.agg #[.string s,.int .i64 k,.int .i64 l,.int .i64 sd]] w fun e w'=>e = .returned (.bool (okB s k l sd))/\Below w.heap.size w w':=by
 cases ht:zD8 s
 ·have hf:=zB (show okB s k l sd=false by simp [okB,ht])
  go_enter Tryz.func30,Tryz.ntmps30
  go_wp2_with (go_at_call 58; refine (zDH _ _ hs).mono ?_; rintro e w' ⟨rfl,rfl⟩)
  go_ret
  exact ⟨zj (zA hf).symm,zC _ _⟩
 ·have hf:=zB (show okB s k l sd=(decide (1<=l)&&decide (l<=1000)&&zEV k sd) by simp [okB,ht])
  go_enter Tryz.func30,Tryz.ntmps30
  go_wp2_with (go_at_call 58; refine (zDH _ _ hs).mono ?_; rintro e w' ⟨rfl,rfl⟩)
  all_goals (go_ret; refine ⟨zj ?_,zC _ _⟩; rw [zA hf]; go_light; clear hf; (try simp only [beq_iff_eq,yU,ne_eq] at *); rw [Bool.eq_iff_iff]; simp [zEV] <;> omega)
theorem zCq (s:JZ) (k l sd:Int) (w:JY) :
  Calls Tryz.prog 88 #[.agg #[.string s,.int .i64 k,.int .i64 l,.int .i64 sd]] w fun e w'=>e = .returned (.bool (zEV k sd))/\Below w.heap.size w w':=by
 go_enter Tryz.func88,Tryz.ntmps88
 go_wp2
 all_goals (go_ret; refine ⟨zj ?_,zC _ _⟩; go_light; (try simp only [beq_iff_eq,yU,ne_eq] at *); rw [Bool.eq_iff_iff]; simp [zEV] <;> omega)
theorem zDJ (s:JZ) (k l sd:Int) (w:JY) (hs:s.size<=maxLen) :
  Calls Tryz.prog 67 #[.agg #[.string s,.int .i64 k,.int .i64 l,.int .i64 sd]] w fun e w'=>e = .returned (.bool (okB s k l sd))/\Below w.heap.size w w':=by
 cases ht:zD8 s
 ·have hf:=zB (show okB s k l sd=false by simp [okB,ht])
  go_enter Tryz.func67,Tryz.ntmps67
  go_wp2_with (go_at_call 87; refine (zBt _ _ hs).mono ?_; rintro e w' ⟨rfl,rfl⟩)
  go_ret
  exact ⟨zj (zA hf).symm,zC _ _⟩
 ·have hf:=zB (show okB s k l sd=(decide (1<=l)&&decide (l<=1000)&&zEV k sd) by simp [okB,ht])
  by_cases h1:1<=l
  ·by_cases h2:l<=1000
   ·go_enter Tryz.func67,Tryz.ntmps67
    go_wp2_with (first | (go_at_call 87; refine (zBt _ _ hs).mono ?_; rintro e w' ⟨rfl,rfl⟩) | (go_at_call 88; refine (zCq _ _ _ _ _).mono ?_; rintro e w' ⟨rfl,hb⟩))
    go_ret
    exact ⟨zj (by rw [zA hf]; simp [h1,h2]),(zC _ _).trans (hb.mono (by simp))⟩
   ·go_enter Tryz.func67,Tryz.ntmps67
    go_wp2_with (first | (go_at_call 87; refine (zBt _ _ hs).mono ?_; rintro e w' ⟨rfl,rfl⟩) | (go_at_call 88; refine (zCq _ _ _ _ _).mono ?_; rintro e w' ⟨rfl,hb⟩))
    go_ret
    exact ⟨zj (by rw [zA hf]; simp; intros; omega),zC _ _⟩
  ·go_enter Tryz.func67,Tryz.ntmps67
   go_wp2_with (first | (go_at_call 87; refine (zBt _ _ hs).mono ?_; rintro e w' ⟨rfl,rfl⟩) | (go_at_call 88; refine (zCq _ _ _ _ _).mono ?_; rintro e w' ⟨rfl,hb⟩))
   go_ret
   exact ⟨zj (by rw [zA hf]; simp; intros; omega),zC _ _⟩
theorem zMo (b q cap:Nat) (xs:List OpR) (w:JY) (x:xs.length<=1048576) (hw:Ops w b q xs) (hs:Zg xs) (hB:b<w.heap.size) :
  Calls Tryz.prog 39 #[.slice (some ⟨b,q,none⟩) xs.length cap] w fun e w'=>(∃ v,e = .returned (.bool v)/\(v=true↔zB1 xs xs.length))/\Below w.heap.size w w':=by
 go_enter Tryz.func39,Tryz.ntmps39
 go_wp2
 go_loopw [7] (fun i wr=>∃ k:Nat,k<=xs.length/\i = .int .i64 k/\zB1 xs k/\Below w.heap.size w wr) (fun i _=>xs.length-(intOf i).toNat)
 case atStart=>exact ⟨0,yj _,rfl,fun j h=>by omega,yG _ _⟩
 case round=>
  obtain ⟨k,hk,rfl,Q,H⟩:=hrel
  by_cases K:k<xs.length
  ·obtain ⟨h0,h1,h2,h3⟩:=(hw k K).below H hB
   cases ht:(atO xs k).ok
   ·have Ht:=zB ht
    unfold OpR.ok at ht
    go_wp2_with (go_at_call 67; refine (zDJ _ _ _ _ _ (hs k K)).mono ?_; rintro e w' ⟨rfl,hb⟩)
    go_ret
    refine ⟨⟨false,rfl,⟨fun h=>(by cases h),fun h=>?_⟩⟩,?_⟩
    ·have:=h k K; rw [zA Ht] at this; cases this
    ·exact H.trans (((zC _ _).trans (hb.mono (by simp))).mono H.size)
   ·have Ht:=zB ht
    unfold OpR.ok at ht
    go_wp2_with (go_at_call 67; refine (zDJ _ _ _ _ _ (hs k K)).mono ?_; rintro e w' ⟨rfl,hb⟩)
    exact ⟨⟨k+1,by omega,by go_num,zHx Q (zA Ht),H.trans (((zC _ _).trans (hb.mono (by simp))).mono H.size)⟩,by simp [intOf]; omega⟩
  ·have:k=xs.length:=by omega
   go_wp2
   go_ret
   exact ⟨⟨true,rfl,⟨fun _=>this ▸ Q,fun _=>rfl⟩⟩,H⟩
def srt (k sd:Int):Int:=if k=1 then 2 else if k=3 then 1 else sd
theorem zAC (s:JZ) (k l sd:Int) (w:JY) :
  Calls Tryz.prog 59 #[.agg #[.string s,.int .i64 k,.int .i64 l,.int .i64 sd]] w fun e w'=>e = .returned (.int .i64 (srt k sd))/\Below w.heap.size w w':=by
 by_cases h1:k=1
 ·have h:(k==1)=true:=by simpa using h1
  have H:=zB h1
  clear h1
  go_enter Tryz.func59,Tryz.ntmps59
  go_wp2
  go_ret
  exact ⟨zJ (by simp [srt,zA H]),zC _ _⟩
 ·by_cases h3:k=3
  ·have h:(k==1)=false:=by simpa using h1
   have K:(k==3)=true:=by simpa using h3
   have H:=zB h3
   clear h3 h1
   go_enter Tryz.func59,Tryz.ntmps59
   go_wp2
   go_ret
   exact ⟨zJ (by simp [srt,zA H]),zC _ _⟩
  ·have h:(k==1)=false:=by simpa using h1
   have K:(k==3)=false:=by simpa using h3
   go_enter Tryz.func59,Tryz.ntmps59
   go_wp2
   go_ret
   exact ⟨zJ (by simp [srt,h1,h3]),zC _ _⟩
theorem zQ4 {s:JZ} {k l sd:Int} (h:okB s k l sd=true) :
  (k=3\/sd=1->srt k sd=1)/\(¬ (k=3\/sd=1)->(k=1\/sd=2)->srt k sd=2)/\(¬ (k=3\/sd=1)->¬ (k=1\/sd=2)->srt k sd=3):=by
 obtain ⟨_,h⟩:=zB0 s k l sd h
 unfold srt
 rcases h with ⟨rfl,rfl⟩ | ⟨rfl,rfl⟩ | ⟨rfl,rfl⟩ | ⟨rfl,rfl⟩ | ⟨rfl,rfl⟩ <;> decide
theorem zGc (s:JZ) (k l sd:Int) (w:JY) (ho:okB s k l sd=true) :
  Calls Tryz.prog 69 #[.agg #[.string s,.int .i64 k,.int .i64 l,.int .i64 sd]] w fun e w'=>e = .returned (.int .i64 (srt k sd))/\Below w.heap.size w w':=by
 have h:=zB (zQ4 ho)
 clear ho
 go_enter Tryz.func69,Tryz.ntmps69
 go_wp2
 all_goals (go_ret; refine ⟨zJ ?_,zC _ _⟩; obtain ⟨p1,p2,p3⟩:=zA h; go_light; (try simp only [beq_iff_eq,yU,ne_eq] at *); first | (rw [p1 (by omega)]) | (rw [p2 (by omega) (by omega)]) | (rw [p3 (by omega) (by omega)]))
theorem zIr (s t:JZ) (k l sd k' l' sd':Int) (w:JY) :
  Calls Tryz.prog 31 #[.agg #[.string s,.int .i64 k,.int .i64 l,.int .i64 sd],.agg #[.string t,.int .i64 k',.int .i64 l',.int .i64 sd'],.int .i64 3] w fun e w'=>(∃ v,e = .returned (.bool v)/\(v=true↔(s=t/\(k=1↔k'=1))))/\Below w.heap.size w w':=by
 go_enter Tryz.func31,Tryz.ntmps31
 go_wp2
 ·go_ret
  refine ⟨⟨_,rfl,?_⟩,(zC _ _).alloc (by simp) _⟩
  go_light
  have e:=zAT ‹_›
  rw [beq_iff_eq,Bool.eq_iff_iff]
  simp [e]
 ·go_ret
  refine ⟨⟨_,rfl,?_⟩,(zC _ _).alloc (by simp) _⟩
  go_light
  have e:s≠t:=fun e=>(‹¬ s.toList=t.toList›) (by rw [e])
  simp [e]
theorem zMp {W w1:JY} (hb:Below W.heap.size W w1) (h:w.heap.size+1<W.heap.size) (hB:Below w.heap.size w W) :
  (∀ o,w1.cell? ⟨w.heap.size,o,none⟩=W.cell? ⟨w.heap.size,o,none⟩)/\(∀ o,w1.cell? ⟨w.heap.size+1,o,none⟩=W.cell? ⟨w.heap.size+1,o,none⟩)/\w.heap.size+1<w1.heap.size/\Below w.heap.size w w1:=
 ⟨fun _=>hb.cell (p:=⟨_,_,none⟩) (show w.heap.size<_ by omega),fun _=>hb.cell (p:=⟨_,_,none⟩) h,yi h hb.size,hB.trans (hb.mono (by omega))⟩
theorem zIs (s t:JZ) (k l sd k' l' sd':Int) (w:JY) :
  Calls Tryz.prog 31 #[.agg #[.string s,.int .i64 k,.int .i64 l,.int .i64 sd],.agg #[.string t,.int .i64 k',.int .i64 l',.int .i64 sd'],.int .i64 4] w fun e w'=>(∃ v,e = .returned (.bool v)/\(v=true↔(l=l'/\srt k sd≠srt k' sd')))/\Below w.heap.size w w':=by
 by_cases hl:l=l'
 ·have h:(l==l')=true:=by simpa using hl
  have H:=zB hl
  clear hl
  go_enter Tryz.func31,Tryz.ntmps31
  go_wp2_with fail
  go_region_held (fun w'=>(w'.cell? ⟨w.heap.size,0,none⟩=some (.string s)/\w'.cell? ⟨w.heap.size,1,none⟩=some (.int .i64 k)/\w'.cell? ⟨w.heap.size,2,none⟩=some (.int .i64 l)/\w'.cell? ⟨w.heap.size,3,none⟩=some (.int .i64 sd)) /\
   (w'.cell? ⟨w.heap.size+1,0,none⟩=some (.string t)/\w'.cell? ⟨w.heap.size+1,1,none⟩=some (.int .i64 k')/\w'.cell? ⟨w.heap.size+1,2,none⟩=some (.int .i64 l')/\w'.cell? ⟨w.heap.size+1,3,none⟩=some (.int .i64 sd'))) (go_keep)
   (first | (go_at_call 59; refine (zAC _ _ _ _ _).mono ?_; rintro e w1 ⟨rfl,hb1⟩; obtain ⟨t0,t1,z1,hB⟩:=zMp (w:=w) hb1 (by first | assumption | (simp [heap_drew]; done)) (by first | assumption | exact ((zC _ _).alloc (by simp) _).drew)))
  go_wp2
  go_ret
  refine ⟨⟨_,rfl,?_⟩,hB⟩
  have e:=zA H
  simp [e]
 ·have h:(l==l')=false:=by simpa using hl
  go_enter Tryz.func31,Tryz.ntmps31
  go_wp2_with fail
  go_quiet (fail)
  go_wp2
  go_ret
  refine ⟨⟨_,rfl,?_⟩,below_drewN ((zC _ _).alloc (by simp) _) _⟩
  simp [hl]
def cl (c:Int) (a b:OpR):Prop:=if c=3 then (a.s=b.s/\(a.k=1↔b.k=1)) else (a.l=b.l/\srt a.k a.sd≠srt b.k b.sd)
theorem zJo (a b:OpR) (c:Int) (w:JY) (hc:c=3\/c=4) :
  Calls Tryz.prog 31 #[.agg #[.string a.s,.int .i64 a.k,.int .i64 a.l,.int .i64 a.sd],.agg #[.string b.s,.int .i64 b.k,.int .i64 b.l,.int .i64 b.sd],.int .i64 c] w fun e w'=>(∃ v,e = .returned (.bool v)/\(v=true↔cl c a b))/\Below w.heap.size w w':=by
 rcases hc with rfl | rfl
 ·exact zIr _ _ _ _ _ _ _ _ _
 ·exact zIs _ _ _ _ _ _ _ _ _
def Pr (c:Int) (xs:List OpR):Prop:=∃ i j,j<i/\i<xs.length/\cl c (atO xs i) (atO xs j)
def zGd (c:Int) (xs:List OpR) (k:Nat):Prop:=∀ i j,j<i->i<k->¬ cl c (atO xs i) (atO xs j)
theorem zFE {c:Int} {k:Nat} (h:zGd c xs k) (hk:∀ j,j<k->¬ cl c (atO xs k) (atO xs j)):zGd c xs (k+1):=by
 intro i j hj hi
 by_cases e:i=k
 ·subst e; exact hk j hj
 ·exact h i j hj (by omega)
theorem zGe {c:Int} (h:zGd c xs xs.length):¬ Pr c xs:=fun ⟨i,j,hj,hi,hc⟩=>h i j hj hi hc
def zR (xs:List OpR) (c:Int):Prop:=
 (c=1/\500<xs.length)\/(xs.length<=500/\((c=2/\¬ zB1 xs xs.length)\/(zB1 xs xs.length/\((c=3/\Pr 3 xs)\/(¬ Pr 3 xs/\((c=4/\Pr 4 xs)\/(c=0/\¬ Pr 4 xs)))))))
theorem zAD {c c':Int} (h:zR xs c) (h':zR xs c'):c=c':=by
 unfold zR at h h'
 by_cases a:500<xs.length
 ·have a':¬ xs.length<=500:=by omega
  simp only [a,a',and_true,false_and,or_false] at h h'
  omega
 ·have a':xs.length<=500:=by omega
  by_cases b:zB1 xs xs.length
  ·by_cases p3:Pr 3 xs
   ·simp only [a,a',b,p3,and_true,and_false,true_and,false_and,or_false,false_or,not_true] at h h'
    omega
   ·by_cases p4:Pr 4 xs
    ·simp only [a,a',b,p3,p4,and_true,and_false,true_and,or_false,false_or,not_true,not_false_iff] at h h'
     omega
    ·simp only [a,a',b,p3,p4,and_true,and_false,true_and,false_or,not_true,not_false_iff] at h h'
     omega
  ·simp only [a,a',b,and_true,and_false,true_and,false_and,or_false,false_or,not_false_iff] at h h'
   omega
structure Bx (w:JY) (b off cap:Nat) (xs:List OpR) (wr:JY):Prop where
 box:wr.cell? ⟨w.heap.size,0,none⟩=some (.slice (some ⟨b,off,none⟩) xs.length cap)
 ops:Ops wr b off xs
 lt:w.heap.size<wr.heap.size
 blt:b<wr.heap.size
 bel:Below w.heap.size w wr
theorem Bx.step {b H:Nat} {wr:JY} (h:Bx w b H cap xs wr) (hb:Below wr.heap.size wr w'):Bx w b H cap xs w':=
 ⟨(hb.cell (p:=⟨_,_,none⟩) h.lt).trans h.box,h.ops.below hb h.blt,yi h.lt hb.size,yi h.blt hb.size,h.bel.trans (hb.mono (Nat.le_of_lt h.lt))⟩
theorem Bx.drew {w:JY} {b H cap:Nat} {xs:List OpR} {wr:JY} (h:Bx w b H cap xs wr):Bx w b H cap xs wr.drew:=
 h.step (yG _ _).drew
theorem Bx.start {b H:Nat} (h:Ops w b H xs) (hB:b<w.heap.size) (t:TypeId):Bx w b H cap xs (w.alloc (.cells #[.slice (some ⟨b,H,none⟩) xs.length cap] t)):=
 ⟨by simp [go_sem],h.below (zC _ _) hB,by simp,by simp; omega,zC _ _⟩
theorem ZY (b H cap:Nat) (xs:List OpR) (w:JY) (hm:xs.length<=1048576) (hw:Ops w b H xs) (hs:Zg xs) (hB:b<w.heap.size) :
  Calls Tryz.prog 17 #[.agg #[.slice (some ⟨b,H,none⟩) xs.length cap]] w fun e w'=>(∃ c,e = .returned (.int .i64 c)/\zR xs c)/\Below w.heap.size w w':=by
 have A:=zB (Bx.start (cap:=cap) hw hB 33)
 by_cases U:500<xs.length
 ·go_enter Tryz.func17,Tryz.ntmps17
  go_wp2
  go_ret
  exact ⟨⟨1,rfl,yQ ⟨rfl,U⟩⟩,zC _ _⟩
 have K:xs.length<=500:=by omega
 go_enter Tryz.func17,Tryz.ntmps17
 go_wp2
 go_loopw [4] (fun i wr=>∃ k:Nat,k<=xs.length/\i = .int .i64 k/\zB1 xs k/\Bx w b H cap xs wr) (fun i _=>xs.length-(intOf i).toNat)
 case atStart=>exact ⟨0,yj _,rfl,fun j h=>(by omega),zA A⟩
 case round=>
  obtain ⟨k,hk,rfl,J,hx⟩:=hrel
  by_cases Q:k<xs.length
  ·obtain ⟨a0,a1,a2,a3⟩:=hx.ops k Q
   have C:=hx.box
   cases ht:(atO xs k).ok
   ·have Ht:=zB ht
    unfold OpR.ok at ht
    go_wp2_with (go_at_call 30; refine (zCp _ _ _ _ _ (hs k Q)).mono ?_; rintro e w1 ⟨rfl,hb1⟩)
    go_ret
    refine ⟨⟨2,rfl,yR ⟨K,yQ ⟨rfl,fun h=>?_⟩⟩⟩,(hx.step hb1).bel⟩
    have:=h k Q
    rw [zA Ht] at this
    cases this
   ·have Ht:=zB ht
    unfold OpR.ok at ht
    go_wp2_with (go_at_call 30; refine (zCp _ _ _ _ _ (hs k Q)).mono ?_; rintro e w1 ⟨rfl,hb1⟩)
    exact ⟨⟨k+1,by omega,by go_num,zHx J (zA Ht),hx.step hb1⟩,by simp [intOf]; omega⟩
  ·have y:zB1 xs xs.length:=by
    have:k=xs.length:=by omega
    exact this ▸ J
   clear J A
   go_wp2
   go_loopw [5] (fun c wr=>∃ cc:Int,c = .int .i64 cc/\3<=cc/\cc<=5/\Hid ((3<cc->¬ Pr 3 xs)/\(4<cc->¬ Pr 4 xs))/\Bx w b H cap xs wr) (fun c _=>(5-intOf c).toNat)
   case atStart=>exact ⟨3,rfl,by omega,by omega,zB ⟨fun h=>(by omega),fun h=>(by omega)⟩,hx⟩
   case round=>
    clear hx
    obtain ⟨cc,rfl,D,f,x,hx⟩:=hrel
    by_cases E:cc<=4
    ·have P:=zB (show cc=3\/cc=4 by omega)
     go_wp2
     go_loopw [6] (fun i wr=>∃ k:Nat,k<=xs.length/\i = .int .i64 k/\Hid (zGd cc xs k)/\Bx w b H cap xs wr) (fun i _=>xs.length-(intOf i).toNat)
     case atStart=>exact ⟨0,yj _,rfl,zB (fun i j _ h=>(by omega)),hx⟩
     case round=>
      clear hx
      obtain ⟨p,hp,rfl,u,hx⟩:=hrel
      by_cases Y:p<xs.length
      ·go_wp2
       go_loopw [7] (fun j wr=>∃ m:Nat,m<=p/\j = .int .i64 m/\Hid (∀ j,j<m->¬ cl cc (atO xs p) (atO xs j))/\Bx w b H cap xs wr) (fun j _=>p-(intOf j).toNat)
       case atStart=>exact ⟨0,yj _,rfl,zB (fun j h=>(by omega)),hx⟩
       case round=>
        clear hx
        obtain ⟨m,d,rfl,a,hx⟩:=hrel
        by_cases B:m<p
        ·have X:m<xs.length:=by omega
         obtain ⟨a0,a1,a2,a3⟩:=hx.ops p Y
         obtain ⟨d0,d1,d2,d3⟩:=hx.ops m X
         have C:=hx.box
         have Q:=hx.lt
         have i1:(p:Int)<(xs.length:Int):=by omega
         have i2:(m:Int)<(xs.length:Int):=by omega
         go_wp2_with fail
         go_region_held (fun w'=>w'.cell? ⟨w.heap.size,0,none⟩=some (.slice (some ⟨b,H,none⟩) xs.length cap) /\
          (w'.cell? ⟨b,H+p*4,none⟩=some (.string (atO xs p).s)/\w'.cell? ⟨b,H+p*4+1,none⟩=some (.int .i64 (atO xs p).k)/\w'.cell? ⟨b,H+p*4+2,none⟩=some (.int .i64 (atO xs p).l)/\w'.cell? ⟨b,H+p*4+3,none⟩=some (.int .i64 (atO xs p).sd)) /\
          (w'.cell? ⟨b,H+m*4,none⟩=some (.string (atO xs m).s)/\w'.cell? ⟨b,H+m*4+1,none⟩=some (.int .i64 (atO xs m).k)/\w'.cell? ⟨b,H+m*4+2,none⟩=some (.int .i64 (atO xs m).l)/\w'.cell? ⟨b,H+m*4+3,none⟩=some (.int .i64 (atO xs m).sd))) (go_keep)
          (first | (go_at_call 31; refine (zJo (atO xs p) (atO xs m) cc _ (zA P)).mono ?_; rintro e w1 ⟨⟨v,rfl,hv⟩,hb1⟩; have HV:=zB hv; clear hv; have q:=hx.drew.step hb1; obtain ⟨q0,q1,q2,q3⟩:=q.ops p Y; obtain ⟨r0,r1,r2,r3⟩:=q.ops m X; have qb:=q.box))
         cases v
         ·go_wp2
          refine ⟨⟨m+1,by omega,by go_num,zB ?_,q⟩,by simp [intOf]; omega⟩
          intro j hj
          by_cases e:j=m
          ·subst e
           exact fun h=>Bool.false_ne_true ((zA HV).2 h)
          ·exact (zA a) j (by omega)
         ·go_wp2
          go_ret
          refine ⟨⟨cc,rfl,yR ⟨K,yR ⟨y,?_⟩⟩⟩,q.bel⟩
          have V:Pr cc xs:=⟨p,m,B,Y,(zA HV).1 (by trivial)⟩
          rcases zA P with e | e
          ·subst e; exact yQ ⟨rfl,V⟩
          ·subst e; exact yR ⟨(zA x).1 (by omega),yQ ⟨rfl,V⟩⟩
        ·go_wp2
         refine ⟨⟨p+1,by omega,by go_num,zB (zFE (zA u) (fun j hj=>(zA a) j (by omega))),hx⟩,by simp [intOf]; omega⟩
      ·go_wp2
       refine ⟨⟨cc+1,by go_num,by omega,by omega,zB ?_,hx⟩,by simp [intOf]; omega⟩
       have hn:¬ Pr cc xs:=zGe (by
        have e:p=xs.length:=by omega
        exact e ▸ (zA u))
       rcases zA P with e | e
       ·subst e; exact ⟨fun _=>hn,fun h=>(by omega)⟩
       ·subst e; exact ⟨fun _=>(zA x).1 (by omega),fun _=>hn⟩
    ·go_wp2
     go_ret
     exact ⟨⟨0,rfl,yR ⟨K,yR ⟨y,yR ⟨(zA x).1 (by omega),yR ⟨rfl,(zA x).2 (by omega)⟩⟩⟩⟩⟩,hx.bel⟩
end Go.Proofs.YtgbkgkdpdfdokaaGreatDoor
