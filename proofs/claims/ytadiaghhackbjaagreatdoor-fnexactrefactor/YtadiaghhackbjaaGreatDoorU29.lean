import Derived.Test.YtadiaghhackbjaaGreatDoorU11
import Derived.Test.YtadiaghhackbjaaGreatDoorU25
namespace Go.Proofs.YtadiaghhackbjaaGreatDoor
set_option linter.all false
set_option maxHeartbeats 0
set_option maxRecDepth 100000
open Proofs.Tryz RowKit
variable{row:Option Nat}{w w':World}{x:ZG}
def zHP(w:JY)(a:Nat)(x:ZG):Prop:=w.cell? (Qa a 0)=some (Qs x.t)/\w.cell? (Qa a 1)=some (.bool x.o)/\w.cell? (Qa a 2)=some (.bool x.i)
theorem zVc{W:JY}{b:Nat}(x:ZG)(h0:∃u,W.cell? (Qa b 0)=some u)(h1:∃u,W.cell? (Qa b 1)=some u)(h2:∃u,W.cell? (Qa b 2)=some u):zHP (W.setCells b 0 [Qs x.t,.bool x.o,.bool x.i]) b x:=by
 have h:=World.cell?_setCells_in b [Qs x.t,.bool x.o,.bool x.i] 0 W (fun j hj=>by
  simp only[yy,yZ] at hj
  obtain⟨u0,h0⟩:=h0
  obtain⟨u1,h1⟩:=h1
  obtain⟨u2,h2⟩:=h2
  match j,hj with
  |0,_=>rw[h0];rfl
  |1,_=>rw[h1];rfl
  |2,_=>rw[h2];rfl)
 exact⟨Ju (h 0 Js),Ju (h 1 Js),Ju (h 2 Js)⟩
theorem zTf{W:JY}{b N:Nat}{o:zD}(h:Zj W N o)(vs:List Value)(H:b≠N):Zj (W.setCells b 0 vs) N o:=
 h.grown (zv (zBH vs 0 W)) (fun e=>H (Option.some.inj e))
theorem Z7{b H:Nat}{xs:List zD}(h:Zv w b H xs)(hg:w.grownBy w' row)(hb:b<w.heap.size)(k:row≠some b):Zv w' b H xs:=fun i hi=>by
 obtain⟨h0,h1,h2,h3⟩:=h i hi;have e:=fun o=>zK hg hb k o
 exact⟨(e _).trans h0,(e _).trans h1,(e _).trans h2,(e _).trans h3⟩
theorem zHP.grown{a:Nat}(h:zHP w a x)(hg:w.grownBy w' row)(H:row≠some a):zHP w' a x:=by
 obtain⟨h0,h1,h2⟩:=h;have e:=fun o=>zK hg (block_lt_of_cell h0) H o
 exact⟨(e _).trans h0,(e _).trans h1,(e _).trans h2⟩
def SY(A b8:Nat)(k ja jb:Int)(x:ZG)(w:JY):Prop:=w.cell? (Qa A 0)=some (Qi k)/\w.cell? (Qa A 2)=some (Qi ja)/\w.cell? (Qa A 3)=some (Qi jb)/\w.cell? (Qa b8 0)=some (Qs x.t)/\w.cell? (Qa b8 1)=some (.bool x.o)/\w.cell? (Qa b8 2)=some (.bool x.i)
theorem SY.grown{A b8:Nat}{k ja jb:Int}(h:SY A b8 k ja jb x w)(hg:w.grownBy w' row)(h1:row≠some A)(h2:row≠some b8):SY A b8 k ja jb x w':=by
 obtain⟨z,a,b,c,d,e⟩:=h;have ea:=fun o=>zK hg (block_lt_of_cell a) h1 o
 have eb:=fun o=>zK hg (block_lt_of_cell c) h2 o
 exact⟨(ea _).trans z,(ea _).trans a,(ea _).trans b,(eb _).trans c,(eb _).trans d,(eb _).trans e⟩
theorem SY.below{A b8:Nat}{k ja jb:Int}(h:SY A b8 k ja jb x w)(hb:Qb w w'):SY A b8 k ja jb x w':=h.grown (row:=none) (zE hb none) Js Js
theorem zHP.news{a:Nat}(h:zHP w a x):∀j u,(ZR [x])[j]?=some u->w.cell? ((Qa a 0).add j)=some u:=by
 intro j u hj;rw[Addr.add_mid,yY];obtain⟨h0,h1,h2⟩:=h;match j,hj with
 |0,hj=>simp[ZR] at hj;subst hj;exact h0
 |1,hj=>simp[ZR] at hj;subst hj;exact h1
 |2,hj=>simp[ZR] at hj;subst hj;exact h2
theorem zIQ{r r':Option Nat}{H x:Nat}(h:r'=r\/∃k,r'=some k/\H<=k)(hn:r≠some x)(hx:x<H):r'≠some x:=fun e=>by
 rcases h with h|⟨k,h1,h2⟩
 ·exact hn (h.symm.trans e)
 ·rw[h1] at e;injection e with e;omega
theorem zV5{v:Value}{g H x:Nat}(K:v.ownBlock=some g\/g=H)(k:v.ownBlock≠some x)(hx:x<H):some g≠some x:=fun e=>by
 injection e with e;rcases K with h|h
 ·exact k (by rw[h,e])
 ·omega
def zRR(bz offz cz:Nat)(zs:List zD)(B:Nat)(j:Nat)(a b:List ZG):Prop:=∀(u:Value)(W:JY),Zv W bz offz zs->B<=W.heap.size->zCC W B u a ->
 Calls prog 46 #[.slice (some (Qa bz offz)) zs.length cz,Qi j,u] W (zN1 W B u b)
def zXP(bz offz cz:Nat)(zs:List zD)(B:Nat)(k:Int)(t:JZ)(ja jb:Nat)(us vs:List ZG):Prop:=
 (zY k=0/\vs=us++[⟨t,false,false⟩])\/(k=3/\∃us1,us1=us++[⟨t,true,false⟩]/\zRR bz offz cz zs B ja us1 vs) \/
 (k=6/\∃us1 us2,us1=us++[⟨opn,false,false⟩]/\zRR bz offz cz zs B ja us1 us2/\vs=us2++[⟨zCI,false,false⟩]/\us2.length<=90000) \/
 (k=5/\∃us1,zRR bz offz cz zs B ja us us1/\vs=us1++[⟨t,true,false⟩]/\us1.length<=90000) \/
 (k=4/\∃us1 us2,zRR bz offz cz zs B ja us us1/\us2=us1++[⟨t,true,true⟩]/\zRR bz offz cz zs B jb us2 vs/\us1.length<=90000)
theorem zKF(bz offz cz i:Nat)(zs:List zD)(k:Int)(t:JZ)(ja jb:Nat)(B:Nat)(u:Value)(us vs:List ZG)(w:JY)(h9:Zv w bz offz zs)(Ha:bz<B)(hB:B<=w.heap.size)(O:zCC w B u us)(hi:i<zs.length)(hZ:zs.length<=20000)(ho:atN zs i=⟨k,t,(ja:Int),(jb:Int)⟩)(hW:us.length<=90000)(hc:zXP bz offz cz zs B k t ja jb us vs):Calls prog 46 #[.slice (some (Qa bz offz)) zs.length cz,Qi i,u] w (zN1 w B u vs):=by
 obtain⟨i0,hJ,hK,hM,hP⟩:=zS zXM;have HI:=zB hJ;have HZ:=zB (yK hK (yK hM hP));clear hJ hK hM hP;have hY:(i:Int)<(zs.length:Int):=Jo;obtain⟨h0,h1,h2,h3⟩:=h9 i hi;rw[ho] at h0 h1 h2 h3;obtain⟨vo,HD⟩:∃vo,Hid (vo=decide (3<=k/\k<=5)):=⟨_,zB rfl⟩;obtain⟨av,cv,rfl⟩:=zCU O;have hH:∀x,w.heap.size<=x->(Value.slice av us.length cv).ownBlock≠some x:=fun x hx e=>Jy ((O.lt _ e).2)
 have hR:(Value.slice av us.length cv).ownBlock≠some bz:=fun e=>Jy ((O.lt _ e).1)
 have Y:=zB hH;have D:=zB hR;have HR:=zB O;have HC:=zB hc;have h8:=zB h9;clear O hc h9 ho hH hR;go_enter func46,ntmps46;go_wp2_with fail;have HN:=zB (show Zj (w.alloc (.cells #[Qi k,Qs t,Qi ja,Qi jb] 106)) w.heap.size ⟨k,t,(ja:Int),(jb:Int)⟩ from⟨Jg,Jg,Jg,Jg,Jg,Jg⟩);have hu:Hid (Qb w (w.alloc (.cells #[Qi k,Qs t,Qi ja,Qi jb] 106))):=zC _ _;clear h0 h1 h2 h3;go_cut [8] (fun s8 wc=>∃b8:Nat,s8 = Qp b8/\w.heap.size<=b8/\Hid (zHP wc b8 ⟨t,vo,k==4⟩)/\Hid (Zj wc w.heap.size ⟨k,t,(ja:Int),(jb:Int)⟩)/\Hid (Qb w wc));case first=>
  clear HC HR Y D h8;have h5:=zB (HN.below (yJ _ _).drew);have hQ:=zB ((HN.below (zC _ (.cells #[Qs ⟨#[]⟩,.bool false,.bool false] 104))).below (yJ _ _).drew);have hG:=zB hu.drew;have hw:=zB (hu.alloc hu.size (.cells #[Qs ⟨#[]⟩,.bool false,.bool false] 104)).drew;obtain⟨q0,q1,q2,q3,_,_⟩:=zA h5;simp only at q0 q1 q2 q3;go_region_held (fun w'=>w'.cell? (Qa w.heap.size 0)=some (Qi k)/\w'.cell? (Qa w.heap.size 1)=some (Qs t)/\w'.cell? (Qa w.heap.size 2)=some (Qi ja)/\w'.cell? (Qa w.heap.size 3)=some (Qi jb)) (first|(go_keep;done)|exact⟨p0,p1,p2,p3⟩|exact⟨Jc (zC _ _) Jh p0,Jc (zC _ _) Jh p1,Jc (zC _ _) Jh p2,Jc (zC _ _) Jh p3⟩)
   ((go_at_call 78;refine(zAp ⟨k,t,(ja:Int),(jb:Int)⟩ _ vo HD).mono ?_;rintro e w1 ⟨rfl,hb1⟩;(first|(have ht:=zB (h5.below hb1);have hv:=zB (hG.trans (hb1.mono hG.size));have z1:w.heap.size+1<=w1.heap.size:=(Jz hb1.size))|(have ht:=zB (hQ.below hb1);have hv:=zB (hw.trans (hb1.mono hw.size));have z1:w.heap.size+1+1<=w1.heap.size:=(Jz hb1.size);have d0:w1.cell? (Qa (w.heap.size+1) 0)=some (Qs ⟨#[]⟩):=(hb1.cell (p:=(Qa (w.heap.size+1) 0)) Js).trans Jg;have d1:w1.cell? (Qa (w.heap.size+1) 1)=some (.bool false):=(hb1.cell (p:=(Qa (w.heap.size+1) 1)) Js).trans Jg;have d2:w1.cell? (Qa (w.heap.size+1) 2)=some (.bool false):=(hb1.cell (p:=(Qa (w.heap.size+1) 2)) Js).trans Jg;have e0:w1.frozen? (Qa (w.heap.size+1) 0)=false:=(hb1.frozen (p:=(Qa (w.heap.size+1) 0)) Js).trans Jg;have e1:w1.frozen? (Qa (w.heap.size+1) 1)=false:=(hb1.frozen (p:=(Qa (w.heap.size+1) 1)) Js).trans Jg;have e2:w1.frozen? (Qa (w.heap.size+1) 2)=false:=(hb1.frozen (p:=(Qa (w.heap.size+1) 2)) Js).trans Jg));obtain⟨p0,p1,p2,p3,_,_⟩:=zA ht;simp only at p0 p1 p2 p3;clear hb1))
  all_goals
   clear q0 q1 q2 q3 h5 hQ hG hw
   go_wp2_with fail
   go_meet
   case rel=>
    go_light
    first
     |exact⟨w1.heap.size,rfl,Jo,zB ⟨Jg,Jg,Jg⟩,zB (ht.below (zC _ _)),zB (hv.alloc hv.size _)⟩
     |exact⟨w.heap.size+1,rfl,Jo,zB (zVc ⟨t,vo,k==4⟩ ⟨_,d0⟩ ⟨_,d1⟩ ⟨_,d2⟩),zB (zTf (b:=w.heap.size+1) ht [Qs t,.bool vo,.bool (k==4)] Jo),zB (zM (g:=w.heap.size+1) Jo [Qs t,.bool vo,.bool (k==4)] 0 w1 hv)⟩
 case rest=>
  obtain⟨b8,rfl,c,Z,W,a⟩:=hcut;obtain⟨n0,n1,n2,n3,_,_⟩:=zA W;obtain⟨x0,x1,x2⟩:=zA Z;simp only at x0 x1 x2 n0 n1 n2 n3;have zc:=a.size;have G:b8<wc.heap.size:=block_lt_of_cell x0;have ha:w.heap.size<wc.heap.size:=block_lt_of_cell n0;have s:=zB (HR.below a);have T:=zB (h8.below a Jo);clear HN hu HR h8;rcases zA HC with⟨hk,M⟩|⟨rfl,K,hh,V⟩|⟨rfl,K,hg,hh,V,M,hX⟩|⟨rfl,K,V,M,hS⟩|⟨rfl,K,hg,V,hN,hl,hS⟩
  ·have HK:=zB hk;have HV:=zB M;obtain⟨I,h4⟩:vo=false/\(k==4)=false:=by
    have hn:¬ (3<=k/\k<=5):=by
     intro h;have:k=3\/k=4\/k=5:=Jo;rcases this with e|e|e<;>rw[e] at hk<;>simp[zY] at hk
    refine⟨by rw[zA HD];simpa using hn,?_⟩;simp only[yX,ne_eq];intro e;rw[e] at hk;simp[zY] at hk
   subst I;rw[h4] at x2;clear hk M Z W n1 n2 n3 HC h4;go_wp2_with fail;go_call zf HK 0 rfl _ as e w' ⟨rfl,hw'⟩;have L:=hw'.symm;subst L;go_wp2_with (at_builtin;refine yL _ rfl (.tmp 25) (.tmp 27) 100 rfl B 104 i0 _ 3 24 underlying100 HI HZ.1 HZ.2.1 HZ.2.2 rfl Jd _ us.length (ZR us) rfl (s.below (zC _ _)) (Qa wc.heap.size 0) 1 1 (ZR [⟨t,false,false⟩]) rfl rfl (Ju (zDB wc ⟨t,false,false⟩)) (zAk _) ?b1 ?b2 ?b3 ?next);case b1=>exact Jm
   case b2=>omega
   case b3=>first|omega|(simp;omega)
   case next=>
    intro v4 w4 v q hC U;have HO:=zB (show zCC w4 B v4 vs by
     rw[zA HV]
     unfold zCC
     rw[Z5,yq]
     exact v)
    have HG:=zB (zV (a.alloc a.size _) q);have HA:Hid (v4.ownBlock=(Value.slice av us.length cv).ownBlock\/∃k,v4.ownBlock=some k/\w.heap.size<=k):=U.imp id (fun h=>⟨_,h,by first|omega|(simp;omega)⟩);clear v q hC U;go_wp2_with fail;go_ret;exact⟨v4,rfl,HO,HG,HA⟩
  ·have h6:=zB hh;have A:=zB V;have I:vo=true:=by rw[zA HD];decide
   subst I;have h4:((3:Int)==4)=false:=Jd;rw[h4] at x2;have l:=zB (show SY w.heap.size b8 3 (ja:Int) (jb:Int) ⟨t,true,false⟩ wc from⟨n0,n2,n3,x0,x1,x2⟩);clear hh V Z W HC h4;go_wp2_with fail;go_call zf (show zY 3=1 from rfl) 1 rfl _ as e w' ⟨rfl,hw'⟩;have L:=hw'.symm;subst L;go_wp2_with fail;go_region_held_law (fun w'=>w'.cell? (Qa w.heap.size 0)=some (Qi 3)/\w'.cell? (Qa w.heap.size 2)=some (Qi ja)/\w'.cell? (Qa w.heap.size 3)=some (Qi jb)/\w'.cell? (Qa b8 0)=some (Qs t)/\w'.cell? (Qa b8 1)=some (.bool true)/\w'.cell? (Qa b8 2)=some (.bool false)) (first|(go_keep;done)|exact zA m|exact X)
    (first|(refine step_append_lies _ (by rfl) (.tmp 35) (.tmp 37) 100 (by rfl) B 104 i0 _ 3 24 underlying100 HI HZ.1 HZ.2.1 HZ.2.2 rfl Jd _ us.length (ZR us) (by rfl) ?hown1 (Qa wc.heap.size 0) 1 1 (ZR [⟨t,true,false⟩]) (by rfl) rfl ?hnews1 (zAk _) Jd Jm Jo ?hbase1 _ rfl ?_;exact((s.below (zC _ _)).below (yJ _ _).drew);exact(fun j u hj=>zDB wc ⟨t,true,false⟩ j u hj);(simp;omega);intro g4 c4 w4 v q U hI;have he:Hid (∀x,w.heap.size<=x->x<wc.heap.size->some g4≠some x):=fun x hx r=>zV5 U (Y x hx) Jq;have m:=zB ((l.below ((zC _ _).drew)).grown q (Y _ (yk _)) (Y _ c));have hz:=zB (by unfold zCC;rw[zA h6,Z5,yq];exact v:zCC w4 B (Ql g4 (us.length+1) c4) K);have hE:=zB (Z7 (T.below ((zC _ _).drew) Jo) q Jq D);have N:=zB (zV ((a.alloc a.size _).drew) q);have h7:Hid ((Value.slice (some (Qa g4 0)) (us.length+1) c4).ownBlock=(Value.slice av us.length cv).ownBlock\/∃k,(Value.slice (some (Qa g4 0)) (us.length+1) c4).ownBlock=some k/\w.heap.size<=k):=U.imp (fun h=>h.symm) (fun h=>⟨_,rfl,(by subst h;simp;omega)⟩);have z4:=N.size;clear v q U)|(go_at_call 46;refine(A _ w4 hE Jo hz).mono ?_;intro x w5 hp;have X:Hid (SY w.heap.size b8 3 (ja:Int) (jb:Int) ⟨t,true,false⟩ w5):=(by obtain⟨_,_,_,g5,_⟩:=hp;exact zB (m.grown g5 (he _ (yk _) ha) (he _ c G)));obtain⟨u5,rfl,r5,g5,o5⟩:=hp.join N h7))
   go_wp2_with fail;go_ret;exact⟨u5,rfl,r5,g5,o5⟩
  ·have h6:=zB hh;have A:=zB V;have HV:=zB M;have I:vo=false:=by rw[zA HD];decide
   subst I;have h4:((6:Int)==4)=false:=Jd;rw[h4] at x2;have l:=zB (show SY w.heap.size b8 6 (ja:Int) (jb:Int) ⟨t,false,false⟩ wc from⟨n0,n2,n3,x0,x1,x2⟩);clear hh V M Z W HC h4;go_wp2_with fail;go_call zf (show zY 6=1 from rfl) 1 rfl _ as e w' ⟨rfl,hw'⟩;have L:=hw'.symm;subst L;go_wp2_with fail;go_region_held_law (fun w'=>w'.cell? (Qa w.heap.size 0)=some (Qi 6)/\w'.cell? (Qa w.heap.size 2)=some (Qi ja)/\w'.cell? (Qa w.heap.size 3)=some (Qi jb)/\w'.cell? (Qa b8 0)=some (Qs t)/\w'.cell? (Qa b8 1)=some (.bool false)/\w'.cell? (Qa b8 2)=some (.bool false)) (first|(go_keep;done)|exact zA m|exact X)
    (first|(refine step_append_lies _ (by rfl) (.tmp 46) (.tmp 48) 100 (by rfl) B 104 i0 _ 3 24 underlying100 HI HZ.1 HZ.2.1 HZ.2.2 rfl Jd _ us.length (ZR us) (by rfl) ?hown2 (Qa wc.heap.size 0) 1 1 (ZR [⟨⟨#[40]⟩,false,false⟩]) (by rfl) rfl ?hnews2 (zAk _) Jd Jm Jo ?hbase2 _ rfl ?_;exact((s.below (zC _ _)).below (yJ _ _).drew);exact(fun j u hj=>zDB wc ⟨⟨#[40]⟩,false,false⟩ j u hj);(simp;omega);intro g4 c4 w4 v q U hI;have he:Hid (∀x,w.heap.size<=x->x<wc.heap.size->some g4≠some x):=fun x hx r=>zV5 U (Y x hx) Jq;have m:=zB ((l.below ((zC _ _).drew)).grown q (Y _ (yk _)) (Y _ c));have hz:=zB (by unfold zCC;rw[zA h6,Z5,yq];exact v:zCC w4 B (Ql g4 (us.length+1) c4) K);have hE:=zB (Z7 (T.below ((zC _ _).drew) Jo) q Jq D);have N:=zB (zV ((a.alloc a.size _).drew) q);have h7:Hid ((Value.slice (some (Qa g4 0)) (us.length+1) c4).ownBlock=(Value.slice av us.length cv).ownBlock\/∃k,(Value.slice (some (Qa g4 0)) (us.length+1) c4).ownBlock=some k/\w.heap.size<=k):=U.imp (fun h=>h.symm) (fun h=>⟨_,rfl,(by subst h;simp;omega)⟩);have z4:=N.size;clear v q U)|(go_at_call 46;refine(A _ w4 hE Jo hz).mono ?_;intro x w5 hp;have X:Hid (SY w.heap.size b8 6 (ja:Int) (jb:Int) ⟨t,false,false⟩ w5):=(by obtain⟨_,_,_,g5,_⟩:=hp;exact zB (m.grown g5 (he _ (yk _) ha) (he _ c G)));obtain⟨u5,rfl,r5,g5,o5⟩:=hp.join N h7;obtain⟨a5,k5,rfl⟩:=zCU r5))
   have z5:=g5.size;clear n0 n1 n2 n3 x0 x1 x2;go_wp2_with (at_builtin;refine yL _ rfl (.tmp 51) (.tmp 53) 100 rfl B 104 i0 _ 3 24 underlying100 HI HZ.1 HZ.2.1 HZ.2.2 rfl Jd _ hg.length (ZR hg) rfl (r5.below (zC _ _)) (Qa w5.heap.size 0) 1 1 (ZR [⟨⟨#[41]⟩,false,false⟩]) rfl rfl (Ju (zDB w5 ⟨⟨#[41]⟩,false,false⟩)) (zAk _) ?b1 ?b2 ?b3 ?next);case b1=>exact Jm
   case b2=>omega
   case b3=>first|omega|(simp;omega)
   case next=>
    intro v6 w6 Q H hD y;have HO:=zB (show zCC w6 B v6 vs by
     rw[zA HV]
     unfold zCC
     rw[Z5,yq]
     exact Q)
    have hO:=zB (zV (zC w5 _) H);have hV:=zB (zX g5 hO o5);have S:=zB (ZZ g5 o5 v6.ownBlock (y.imp id (fun h=>⟨_,h,by first|exact yk _|simp⟩)));clear Q H hD y hO;go_wp2_with fail;go_ret;exact⟨v6,rfl,HO,hV,S⟩
  ·have A:=zB V;have HV:=zB M;clear M;have I:vo=true:=by rw[zA HD];decide
   subst I;have h4:((5:Int)==4)=false:=Jd;rw[h4] at x2;have l:=zB (show SY w.heap.size b8 5 (ja:Int) (jb:Int) ⟨t,true,false⟩ wc from⟨n0,n2,n3,x0,x1,x2⟩);have hd:=zB (l.below (yJ _ _).drew);have o:Hid (Zv wc.drew bz offz zs):=T.below (B:=wc.heap.size) (yJ _ _).drew Jo;have hb:=zB (s.below (yJ _ _).drew);have hm:=zB ((l.below (zC _ (.cells #[Qs t,.bool true,.bool false] 104))).below (yJ _ _).drew);have hA:=zB (show zHP (wc.alloc (.cells #[Qs t,.bool true,.bool false] 104)).drew wc.heap.size ⟨t,true,false⟩ from⟨Jg,Jg,Jg⟩);have n:Hid (Zv (wc.alloc (.cells #[Qs t,.bool true,.bool false] 104)).drew bz offz zs):=T.below (B:=wc.heap.size) (zC _ _).drew Jo;have hr:=zB ((s.below (zC _ (.cells #[Qs t,.bool true,.bool false] 104))).below (yJ _ _).drew);clear V Z W HC h4;go_wp2_with fail;go_call zf (show zY 5=1 from rfl) 1 rfl _ as e w' ⟨rfl,hw'⟩;have L:=hw'.symm;subst L;go_wp2_with fail;go_region_held_law (fun w'=>w'.cell? (Qa w.heap.size 0)=some (Qi 5)/\w'.cell? (Qa w.heap.size 2)=some (Qi ja)/\w'.cell? (Qa w.heap.size 3)=some (Qi jb)/\w'.cell? (Qa b8 0)=some (Qs t)/\w'.cell? (Qa b8 1)=some (.bool true)/\w'.cell? (Qa b8 2)=some (.bool false)) (first|(go_keep;done)|exact zA X|exact X.below (zC _ _)|exact d)
    (first|(go_at_call 46;have f:=(zA A) _ wc.drew o Jq hb;(with_reducible refine f.mono ?_);clear f;rintro x w5 ⟨u5,rfl,r5,g5,o5⟩;obtain⟨a5,k5,rfl⟩:=zCU r5;have X:=zB (hd.grown g5 (Y _ (yk _)) (Y _ c));have P:=zB (zV (a.drew) g5);have J:Hid (∀x,w.heap.size<=x->x<wc.heap.size->(Value.slice a5 K.length k5).ownBlock≠some x):=fun x hx r=>zIQ o5 (Y x hx) (Ju r);have R:=zB (Z7 o g5 Jq D);have C:=zB (zIQ o5 D Jq);have F:=zB (o5.imp id (fun⟨k,h1,h2⟩=>⟨k,h1,(by simp at h2;omega)⟩):(Value.slice a5 K.length k5).ownBlock=(Value.slice av us.length cv).ownBlock\/∃k,(Value.slice a5 K.length k5).ownBlock=some k/\w.heap.size<=k);have z5:wc.heap.size<=w5.heap.size:=(Jz g5.size);clear g5 o5)|(go_at_call 46;have f:=(zA A) _ (wc.alloc (.cells #[Qs t,.bool true,.bool false] 104)).drew n Jq hr;(with_reducible refine f.mono ?_);clear f;rintro x w5 ⟨u5,rfl,r5,g5,o5⟩;obtain⟨a5,k5,rfl⟩:=zCU r5;have X:=zB (hm.grown g5 (Y _ (yk _)) (Y _ c));have hy:=zB (hA.grown g5 (Y _ zc));have P:=zB (zV ((a.alloc a.size _).drew) g5);have J:Hid (∀x,w.heap.size<=x->x<wc.heap.size->(Value.slice a5 K.length k5).ownBlock≠some x):=fun x hx r=>zIQ o5 (Y x hx) Jq;have R:=zB (Z7 n g5 Jq D);have C:=zB (zIQ o5 D Jq);have F:=zB (o5.imp id (fun⟨k,h1,h2⟩=>⟨k,h1,(by simp at h2;omega)⟩):(Value.slice a5 K.length k5).ownBlock=(Value.slice av us.length cv).ownBlock\/∃k,(Value.slice a5 K.length k5).ownBlock=some k/\w.heap.size<=k);have z5:wc.heap.size<=w5.heap.size:=(Jz g5.size);clear g5 o5)|(refine step_append_lies _ (by rfl) (.tmp 59) (.tmp 61) 100 (by rfl) B 104 i0 _ 3 24 underlying100 HI HZ.1 HZ.2.1 HZ.2.2 rfl Jd _ K.length (ZR K) (by rfl) ?hownA3 (Qa w5.heap.size 0) 1 1 (ZR [⟨t,true,false⟩]) (by rfl) rfl ?hnewsA3 (zAk _) Jd Jm Jo ?hbaseA3 _ rfl ?_;exact(r5.below (zC _ _));exact(fun j u hj=>zDB w5 ⟨t,true,false⟩ j u hj);(first|(simp;omega)|omega);intro g6 c6 w6 Q H y hq;have d:=zB ((X.below (zC _ _)).grown H (J _ (yk _) ha) (J _ c G));have E:=zB (zX P (zV (zC w5 _) H) F);have hs:=zB (Z7 (R.below (zC _ _) Jo) H Jq C);have hf:=zB (by unfold zCC;rw[zA HV,Z5,yq];exact Q:zCC w6 B (Ql g6 (K.length+1) c6) vs);have S:=zB (ZZ P F (Value.slice (some (Qa g6 0)) (K.length+1) c6).ownBlock (y.imp (fun h=>h.symm) (fun h=>⟨_,rfl,(by subst h;first|simp|exact yk _)⟩)));clear Q H y)|(refine step_append_lies _ (by rfl) (.tmp 59) (.tmp 61) 100 (by rfl) B 104 i0 _ 3 24 underlying100 HI HZ.1 HZ.2.1 HZ.2.2 rfl Jd _ K.length (ZR K) (by rfl) ?hownB3 (Qa wc.heap.size 0) 1 1 (ZR [⟨t,true,false⟩]) (by rfl) rfl ?hnewsB3 (zAk _) Jd Jm Jo ?hbaseB3 _ rfl ?_;exact r5;exact(hy.news);(first|(simp;omega)|omega);intro g6 c6 w6 Q H y hq;have d:=zB (X.grown H (J _ (yk _) ha) (J _ c G));have E:=zB (zX P H F);have hs:=zB (Z7 R H Jo C);have hf:=zB (by unfold zCC;rw[zA HV,Z5,yq];exact Q:zCC w6 B (Ql g6 (K.length+1) c6) vs);have S:=zB (ZZ P F (Value.slice (some (Qa g6 0)) (K.length+1) c6).ownBlock (y.imp (fun h=>h.symm) (fun h=>⟨_,rfl,(by subst h;first|simp|exact yk _)⟩)));clear Q H y))
   all_goals
    obtain⟨m0,m2,m3,_,_,_⟩:=zA d
    have z6:=E.size
    clear n0 n1 n2 n3 x0 x1 x2
    go_wp2_with fail
    go_ret
    exact⟨_,rfl,hf,E,S⟩
  ·have A:=zB V;have hF:=zB hl;have HV:=zB hN;clear hN hl;have I:vo=true:=by rw[zA HD];decide
   subst I;have h4:((4:Int)==4)=true:=Jd;rw[h4] at x2;have l:=zB (show SY w.heap.size b8 4 (ja:Int) (jb:Int) ⟨t,true,true⟩ wc from⟨n0,n2,n3,x0,x1,x2⟩);have hd:=zB (l.below (yJ _ _).drew);have o:Hid (Zv wc.drew bz offz zs):=T.below (B:=wc.heap.size) (yJ _ _).drew Jo;have hb:=zB (s.below (yJ _ _).drew);have hm:=zB ((l.below (zC _ (.cells #[Qs t,.bool true,.bool true] 104))).below (yJ _ _).drew);have hA:=zB (show zHP (wc.alloc (.cells #[Qs t,.bool true,.bool true] 104)).drew wc.heap.size ⟨t,true,true⟩ from⟨Jg,Jg,Jg⟩);have n:Hid (Zv (wc.alloc (.cells #[Qs t,.bool true,.bool true] 104)).drew bz offz zs):=T.below (B:=wc.heap.size) (zC _ _).drew Jo;have hr:=zB ((s.below (zC _ (.cells #[Qs t,.bool true,.bool true] 104))).below (yJ _ _).drew);clear V Z W HC h4;go_wp2_with fail;go_call zf (show zY 4=2 from rfl) 2 rfl _ as e w' ⟨rfl,hw'⟩;have L:=hw'.symm;subst L;go_wp2_with fail;go_region_held_law (fun w'=>w'.cell? (Qa w.heap.size 0)=some (Qi 4)/\w'.cell? (Qa w.heap.size 2)=some (Qi ja)/\w'.cell? (Qa w.heap.size 3)=some (Qi jb)/\w'.cell? (Qa b8 0)=some (Qs t)/\w'.cell? (Qa b8 1)=some (.bool true)/\w'.cell? (Qa b8 2)=some (.bool true)) (first|(go_keep;done)|exact zA X|exact X.below (zC _ _)|exact d)
    (first|(go_at_call 46;have f:=(zA A) _ wc.drew o Jq hb;(with_reducible refine f.mono ?_);clear f;rintro x w5 ⟨u5,rfl,r5,g5,o5⟩;obtain⟨a5,k5,rfl⟩:=zCU r5;have X:=zB (hd.grown g5 (Y _ (yk _)) (Y _ c));have P:=zB (zV (a.drew) g5);have J:Hid (∀x,w.heap.size<=x->x<wc.heap.size->(Value.slice a5 K.length k5).ownBlock≠some x):=fun x hx r=>zIQ o5 (Y x hx) (Ju r);have R:=zB (Z7 o g5 Jq D);have C:=zB (zIQ o5 D Jq);have F:=zB (o5.imp id (fun⟨k,h1,h2⟩=>⟨k,h1,(by simp at h2;omega)⟩):(Value.slice a5 K.length k5).ownBlock=(Value.slice av us.length cv).ownBlock\/∃k,(Value.slice a5 K.length k5).ownBlock=some k/\w.heap.size<=k);have z5:wc.heap.size<=w5.heap.size:=(Jz g5.size);clear g5 o5)|(go_at_call 46;have f:=(zA A) _ (wc.alloc (.cells #[Qs t,.bool true,.bool true] 104)).drew n Jq hr;(with_reducible refine f.mono ?_);clear f;rintro x w5 ⟨u5,rfl,r5,g5,o5⟩;obtain⟨a5,k5,rfl⟩:=zCU r5;have X:=zB (hm.grown g5 (Y _ (yk _)) (Y _ c));have hy:=zB (hA.grown g5 (Y _ zc));have P:=zB (zV ((a.alloc a.size _).drew) g5);have J:Hid (∀x,w.heap.size<=x->x<wc.heap.size->(Value.slice a5 K.length k5).ownBlock≠some x):=fun x hx r=>zIQ o5 (Y x hx) Jq;have R:=zB (Z7 n g5 Jq D);have C:=zB (zIQ o5 D Jq);have F:=zB (o5.imp id (fun⟨k,h1,h2⟩=>⟨k,h1,(by simp at h2;omega)⟩):(Value.slice a5 K.length k5).ownBlock=(Value.slice av us.length cv).ownBlock\/∃k,(Value.slice a5 K.length k5).ownBlock=some k/\w.heap.size<=k);have z5:wc.heap.size<=w5.heap.size:=(Jz g5.size);clear g5 o5)|(refine step_append_lies _ (by rfl) (.tmp 59) (.tmp 61) 100 (by rfl) B 104 i0 _ 3 24 underlying100 HI HZ.1 HZ.2.1 HZ.2.2 rfl Jd _ K.length (ZR K) (by rfl) ?hownA4 (Qa w5.heap.size 0) 1 1 (ZR [⟨t,true,true⟩]) (by rfl) rfl ?hnewsA4 (zAk _) Jd Jm Jo ?hbaseA4 _ rfl ?_;exact(r5.below (zC _ _));exact(fun j u hj=>zDB w5 ⟨t,true,true⟩ j u hj);(first|(simp;omega)|omega);intro g6 c6 w6 Q H y hq;have d:=zB ((X.below (zC _ _)).grown H (J _ (yk _) ha) (J _ c G));have E:=zB (zX P (zV (zC w5 _) H) F);have hs:=zB (Z7 (R.below (zC _ _) Jo) H Jq C);have hf:=zB (by unfold zCC;rw[zA HV,Z5,yq];exact Q:zCC w6 B (Ql g6 (K.length+1) c6) hg);have S:=zB (ZZ P F (Value.slice (some (Qa g6 0)) (K.length+1) c6).ownBlock (y.imp (fun h=>h.symm) (fun h=>⟨_,rfl,(by subst h;first|simp|exact yk _)⟩)));clear Q H y)|(refine step_append_lies _ (by rfl) (.tmp 59) (.tmp 61) 100 (by rfl) B 104 i0 _ 3 24 underlying100 HI HZ.1 HZ.2.1 HZ.2.2 rfl Jd _ K.length (ZR K) (by rfl) ?hownB4 (Qa wc.heap.size 0) 1 1 (ZR [⟨t,true,true⟩]) (by rfl) rfl ?hnewsB4 (zAk _) Jd Jm Jo ?hbaseB4 _ rfl ?_;exact r5;exact(hy.news);(first|(simp;omega)|omega);intro g6 c6 w6 Q H y hq;have d:=zB (X.grown H (J _ (yk _) ha) (J _ c G));have E:=zB (zX P H F);have hs:=zB (Z7 R H Jo C);have hf:=zB (by unfold zCC;rw[zA HV,Z5,yq];exact Q:zCC w6 B (Ql g6 (K.length+1) c6) hg);have S:=zB (ZZ P F (Value.slice (some (Qa g6 0)) (K.length+1) c6).ownBlock (y.imp (fun h=>h.symm) (fun h=>⟨_,rfl,(by subst h;first|simp|exact yk _)⟩)));clear Q H y))
   all_goals
    obtain⟨m0,m2,m3,_,_,_⟩:=zA d
    have z6:=E.size
    clear n0 n1 n2 n3 x0 x1 x2
    go_wp2_with fail
    refine(hF _ _ hs Jo hf).mono ?_
    intro x w7 hU
    obtain⟨u7,rfl,r7,g7,o7⟩:=hU.join E S
    clear m0 m2 m3
    go_wp2_with fail
    go_ret
    exact⟨u7,rfl,r7,g7,o7⟩
end Go.Proofs.YtadiaghhackbjaaGreatDoor
