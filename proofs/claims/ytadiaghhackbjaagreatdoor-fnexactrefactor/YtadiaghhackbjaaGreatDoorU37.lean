import Derived.Test.YtadiaghhackbjaaGreatDoorU28
import Derived.Test.YtadiaghhackbjaaGreatDoorU31
import Derived.Test.YtadiaghhackbjaaGreatDoorU32
import Derived.Test.YtadiaghhackbjaaGreatDoorU36
namespace Go.Proofs.YtadiaghhackbjaaGreatDoor
set_option linter.all false
set_option maxHeartbeats 0
set_option maxRecDepth 100000
open Proofs.Tryz RowKit
variable{B g k n:Nat}{U:List UnR}{b o:OpR}{ms:List zH}{q:zAX}{ts:List (List zD)}{v:Value}{w:World}{xs:List OpR}
structure RfM(w0 w:JY)(N X gS gT gR:Nat)(q:zAX)(b:OpR)(a:Option Addr)(ms:List zH)(tabs:List (List OpR))(ts:List (List zD)):Prop where
 bel:Below N w0 w
 nl:zAb w N (Ql (N+1) 0 0) []
 rq:zCw w N q
 hX:X<w.heap.size
 bo:zBO w X b
 am:zB3 w a ms
 hS:gS<w.heap.size
 tb:∀i,i<ms.length->∃g c,w.cell? (Qa gS i)=some (Ql g (zz tabs i).length c)/\g<w.heap.size/\Ops w g 0 (zz tabs i)
 hT:gT<w.heap.size
 tc:∀i,i<ms.length->w.cell? (Qa gT i)=some (.bool (inB q.o (zz tabs i)))
 hR:gR<w.heap.size
 tr:∀i,i<ms.length->∃g c,w.cell? (Qa gR i)=some (Ql g (zCK ts i).length c)/\g<w.heap.size/\Zv w g 0 (zCK ts i)
theorem RfM.below{w0 w w':JY}{N X gS gT gR:Nat}{q:zAX}{b:OpR}{a:Option Addr}{ms:List zH}{tabs:List (List OpR)}{ts:List (List zD)}(h:RfM w0 w N X gS gT gR q b a ms tabs ts)(hb:Qb w w'):RfM w0 w' N X gS gT gR q b a ms tabs ts:=by
 have z:=hb.size;have k:=fun p (hp:p.block<w.heap.size)=>hb.cell (p:=p) hp
 have hX:=h.hX;have hS:=h.hS;have hT:=h.hT;have hR:=h.hR;refine⟨h.bel.trans (hb.mono (Nat.le_of_lt h.rq.h)),h.nl.below hb,h.rq.below hb h.rq.h,Jo,h.bo.below4 hb hX,h.am.below hb,Jo,fun i hi=>?_,Jo,fun i hi=>(k (Qa gT i) hT).trans (h.tc i hi),Jo,fun i hi=>?_⟩
 ·obtain⟨g,c,h1,h2,h3⟩:=h.tb i hi;exact⟨g,c,(k (Qa gS i) hS).trans h1,Jo,h3.below hb h2⟩
 ·obtain⟨g,c,h1,h2,h3⟩:=h.tr i hi;exact⟨g,c,(k (Qa gR i) hR).trans h1,Jo,h3.below hb h2⟩
theorem zAF.who{H:List (List OpR)}{who:Int}(h:zAF ms H 0 who):who=0:=by
 rcases h with⟨_,_,h,_⟩|⟨hn,⟨_,_,_,_,_,h,_⟩|⟨h2,⟨_,_,_,_,_,h,_⟩|⟨_,U,_,⟨_,_,_,_,_,h,_⟩|⟨_,⟨_,_,_,_,_,h,_⟩|⟨_,S,_,⟨_,_,_,_,_,h,_⟩|⟨hs,h⟩⟩⟩⟩⟩⟩;all_goals first|exact h.2.2|cases h
structure RfB(ms:List zH)(q:zAX)(ts:List (List zD))(tabs:List (List OpR))(U:List UnR):Prop where
 t:∃wt,zAe ms ts 0 wt
 l:zAF ms tabs 0 0
 u:Zo ms U
 p:zFd (zz tabs) (fun i=>(atU U i).b) ms.length ts
theorem RfB.of{wt:Int}(h:zAe ms ts 0 wt):∃tabs U,RfB ms q ts tabs U:=by
 obtain⟨tabs,c0,w0,hL,⟨h0,_,h1,_⟩|⟨rfl,U,hU,h1⟩⟩:=id h
 ·exact yR h1.symm h0
 ·rcases h1 with⟨k,us,cd,t,hk,_,⟨p,hp⟩,h2,_,h3,_⟩|⟨h1,_⟩
  ·have:=hp.code;omega
  ·obtain rfl:w0=0:=hL.who;exact⟨tabs,U,⟨wt,h⟩,hL,hU,h1⟩
theorem RfB.c2{tabs:List (List OpR)}(h:RfB ms q ts tabs U)(h2:¬ zAa q):zEW ms q [] 2:=by
 obtain⟨wt,ht⟩:=h.t;exact⟨ts,0,wt,ht,yU ⟨rfl,tabs,U,h.l,h.u,yS ⟨h2,rfl,rfl⟩⟩⟩
theorem RfB.c3{tabs:List (List OpR)}(h:RfB ms q ts tabs U)(h2:zAa q)(h3:¬ zCE ms U q):zEW ms q [] 3:=by
 obtain⟨wt,ht⟩:=h.t;exact⟨ts,0,wt,ht,yU ⟨rfl,tabs,U,h.l,h.u,yU ⟨h2,yS ⟨h3,rfl,rfl⟩⟩⟩⟩
theorem RfB.c4{tabs:List (List OpR)}(h:RfB ms q ts tabs U)(h2:zAa q/\zCE ms U q)(h4:zJ8 tabs ms.length q):zEW ms q [] 4:=by
 obtain⟨wt,ht⟩:=h.t;exact⟨ts,0,wt,ht,yU ⟨rfl,tabs,U,h.l,h.u,yU ⟨h2.1,yU ⟨h2.2,yS ⟨h4,rfl,rfl⟩⟩⟩⟩⟩
theorem RfB.c5{tabs:List (List OpR)}(h:RfB ms q ts tabs U)(h2:zAa q/\zCE ms U q)(h4:¬ zJ8 tabs ms.length q)(h5:zPY tabs ms.length q):zEW ms q [] 5:=by
 obtain⟨wt,ht⟩:=h.t;exact⟨ts,0,wt,ht,yU ⟨rfl,tabs,U,h.l,h.u,yU ⟨h2.1,yU ⟨h2.2,yU ⟨h4,yS ⟨h5,rfl,rfl⟩⟩⟩⟩⟩⟩
theorem RfB.c6{ms H t2:_}{tabs:List (List OpR)}{c2 w2:Int}(h:RfB ms q ts tabs U)(h2:zAa q/\zCE ms U q)(h4:¬ zJ8 tabs ms.length q)(h5:¬ zPY tabs ms.length q)(h6:zE7 q ms tabs ts ms.length H)(h7:zAe H t2 c2 w2):(c2≠0->zEW ms q [] 6)/\(c2=0->zEW ms q H 0):=by
 obtain⟨wt,ht⟩:=h.t;exact⟨fun h0=>⟨ts,0,wt,ht,yU ⟨rfl,tabs,U,h.l,h.u,yU ⟨h2.1,yU ⟨h2.2,yU ⟨h4,yU ⟨h5,H,t2,c2,w2,h6,h7,yS ⟨h0,rfl,rfl⟩⟩⟩⟩⟩⟩⟩,fun h0=>⟨ts,0,wt,ht,yU ⟨rfl,tabs,U,h.l,h.u,yU ⟨h2.1,yU ⟨h2.2,yU ⟨h4,yU ⟨h5,H,t2,c2,w2,h6,h7,yU ⟨h0,rfl,rfl⟩⟩⟩⟩⟩⟩⟩⟩
theorem zCa.size{ns:List OpR}{xs:List zD}{s:JZ}{v:Bool}(h:zCa ns xs s v):s.size<=1000000000:=by
 rcases h with⟨h,_,rfl⟩|⟨_,_,rfl⟩
 ·obtain⟨G,hG,_,H,hz,_⟩:=zGe h;have:=zQe H 20000 hz;rw[<-hG];show(txT G).toArray.size<=_;simp;omega
 ·exact ym _
theorem zTv(q:zAX):(zC6 q).k=q.o.k:=by unfold zC6;split<;>rfl
theorem zTw(h1:q.o.s.size<=1048576)(h2:q.t.size<=1048576):(zC6 q).s.size<=1048576:=by unfold zC6;split<;>assumption
theorem zF5(h:ZA xs)(hb:b.s.size<=1048576):ZA (swO o b xs):=fun i hi=>by
 rw[zCF] at hi;rw[zTX hi];split
 ·unfold maxLen;omega
 ·exact h i hi
theorem zLi{ns:List zD}(h:zBb ns)(hb:b.s.size<=1048576):zBb (reN o b ns):=fun i hi=>by
 rw[zC7] at hi;rw[zTY hi];split
 ·show b.s.size<=_;unfold maxLen;omega
 ·exact h i hi
theorem zTx(h:o.ok=true):OpT o/\o.s.size<=16/\1<=o.k/\o.k<=3:=by
 unfold OpR.ok at h;obtain⟨hl,hs⟩:=zB1 _ _ _ _ h;simp only[okB,zGH,Bool.and_eq_true,decide_eq_true_eq] at h;obtain⟨⟨⟨⟨⟨h1,h2⟩,h3⟩,_⟩,_⟩,_⟩:=h;have nb:∀c:UInt8,sgB c=false->NoB c o.s:=fun c hc i hi e=>by
  have:sgB (bt o.s i)=true:=List.all_eq_true.1 h1 _ (yB (zIh hi));rw[e,hc] at this;cases this
 exact⟨⟨⟨h2,nb 32 Jd,nb 10 Jd⟩,⟨o.l.toNat,Jo,Jo⟩,Jo⟩,h3,Jo,Jo⟩
theorem zTy{T:Nat->List OpR}{bd:Nat->ByteArray}(h:zJu w B v ts)(hp:zFd T bd n ts)(hn:1<=n):∃gR cR,v = Ql gR n cR/\gR<w.heap.size/\∀i,i<n->∃g c,w.cell? (Qa gR i)=some (Ql g (zCK ts i).length c)/\g<w.heap.size/\Zv w g 0 (zCK ts i):=by
 have hl:=hp.1;obtain⟨_,h0|⟨g,c,ta,tc,_,hv,h⟩⟩:=h
 ·omega
 ·refine⟨g,c,by rw[hv,hl],h.hg,fun i hi=>?_⟩;obtain⟨p,H⟩:=hp.2 i hi;have h1:=(zGg H).1;have e:=h.ce i Jo;rcases h.ro i Jo with⟨h2,_⟩|⟨g2,h2,_,hf⟩
  ·omega
  ·rw[h2] at e;exact⟨g2,tc i,e,hf.1,hf.ops⟩
theorem zVp{tabs:List (List OpR)}(h:zLW w B v tabs)(hl:tabs.length=n)(hn:1<=n):∃gS cS,v = Ql gS n cS/\gS<w.heap.size/\∀i,i<n->∃g c,w.cell? (Qa gS i)=some (Ql g (zz tabs i).length c)/\g<w.heap.size/\Ops w g 0 (zz tabs i):=by
 obtain⟨g,c,rfl,h0|⟨_,hg,h⟩⟩:=h
 ·omega
 ·refine⟨g,c,by rw[hl],hg,fun i hi=>?_⟩;obtain⟨t,h1,⟨g2,c2,rfl,h2,h3⟩,_⟩:=h i Jo;exact⟨g2,c2,h1,h2,h3⟩
theorem zWx{tabs:List (List OpR)}(h:zGF w B v (zPe o tabs n))(hn:1<=n):∃gT cT,v = Ql gT n cT/\gT<w.heap.size/\∀i,i<n->w.cell? (Qa gT i)=some (.bool (inB o (zz tabs i))):=by
 have hl:(zPe o tabs n).length=n:=by simp[zPe]
 have h':=h;obtain⟨_,⟨_,h0⟩|⟨g,cap,H,rfl,_⟩⟩:=h'
 ·omega
 ·refine⟨g,cap,by rw[hl],(World.ownsRow.lt h g rfl).2,fun i hi=>?_⟩;have:=World.ownsRow.cellAt h i Jo;rw[this];simp[zBY,zPe,hi]
theorem zRY{u:Value}(h:zAo w B u xs)(h1:1<=xs.length):∃g c,u = Ql g xs.length c/\g<w.heap.size/\Ops w g 0 xs:=by
 obtain⟨a,c,e,⟨h0,_⟩|⟨g,rfl,h2,h3⟩⟩:=h.ops
 ·omega
 ·exact⟨g,c,e,h2,h3⟩
theorem zRZ{u:Value}{xs:List zD}(h:w.ownsRow B 106 4 u n (zT xs))(hn:xs.length=n)(h1:1<=n):∃g c,u = Ql g n c/\g<w.heap.size/\Zv w g 0 xs:=by
 subst hn;have h':=h;obtain⟨_,⟨_,h0⟩|⟨g,cap,H,rfl,_⟩⟩:=h'
 ·omega
 ·exact⟨g,cap,rfl,(zBT h).2.1,(zBT h).2.ops⟩
theorem zAb.base{B':Nat}{ws:List zH}(h:zAb w B v ws)(hb:B'<=B):zAb w B' v ws:=by
 obtain⟨h0,h1|⟨g,cap,H,e,h2,h3⟩⟩:=h
 ·exact⟨h0,yS h1⟩
 ·exact⟨h0,yU ⟨g,cap,H,e,yw hb h2,h3⟩⟩
theorem HdQ.of{s:JZ}{t:JZ}(h:zSn s o b t):HdQ s o b t:=by
 unfold zSn at h;exact⟨_,rfl,h⟩
theorem zOa{s:JZ}{u:List JZ}{o:List OpR}{b:JZ}{l:Int}(h:zy s u o b 0 l):s.size<=20000:=by
 rcases h with⟨_,_,_,_,h,_⟩|⟨h,_⟩
 ·cases h
 ·exact h
theorem zOb(g c:Nat)(xs:List OpR)(w:JY)(hm:xs.length<=1048576)(hw:Ops w g 0 xs)(hg:g<w.heap.size):Calls prog 149 #[Ql g xs.length c] w fun e w'=>(∃g1 c1,e=.returned (Ql g1 xs.length c1)/\w.heap.size<=g1/\zBB w' g1 xs xs.length)/\Qb w w':=by
 obtain⟨i0,Q,x,K,X⟩:=zS zEb;have HI:=zB Q;have HZ:=zB (yK x (yK K X));have HE:=zB (by simpa using yG (base:=w.heap.size) (e:=33) (size:=4) w #[] 0 (yk _) (ym _) rfl:(w.alloc (.cells #[] 33)).ownsRow w.heap.size 33 4 (Ql w.heap.size 0 0) 0 []);have HN:=zB (zMz (hw.below (zC w (.cells #[] 33)) hg));have y:(binOp .eql 61 (Ql g xs.length c) (.slice none 0 0)).run prog w=.ok (.bool false) w:=Jk;clear Q x K X hw;go_enter func149,ntmps149;go_wp2_with (at_builtin;refine wpList_append_own _ rfl (.tmp 5) (.tmp 6) 61 rfl w.heap.size 33 i0 _ 4 40 underlying61 HI HZ.1 HZ.2.1 HZ.2.2 rfl Jd _ 0 [] rfl HE (Qa g 0) xs.length c (zl xs) rfl (zDD xs) HN (zAi xs) ?b1 ?b2 ?b3 ?next);case b1=>exact Jm
 case b2=>omega
 case b3=>simp
 case next=>
  intro v4 w4 h H k;obtain⟨g1,c1,rfl⟩:=zDE h (by simp[k]);have HF:=zB (zDl h);have HB:=zB ((zC w _).grown H Js (fun q hq=>(HE.lt q hq).1));clear h H k;go_wp2;go_ret;exact⟨⟨g1,c1,rfl,HF⟩,HB⟩
theorem zRa{b H:Nat}{xs:List zD}(h:Zv w b H xs):∀j u,(zT xs)[j]?=some u->w.cell? ((Qa b H).add j)=some u:=by
 intro j u hj;have k:j<xs.length*4:=by rw[<-zEn];exact(jc.1 hj).1
 rw[Addr.add_mid,<-hj];obtain⟨a0,a1,a2,a3⟩:=h (j/4) Jo;obtain⟨c0,c1,c2,c3⟩:=zHc xs (j/4) Jo;rcases(Jo:j=j/4*4\/j=j/4*4+1\/j=j/4*4+2\/j=j/4*4+3) with e|e|e|e
 ·rw[e];exact a0.trans c0.symm
 ·rw[e];exact a1.trans c1.symm
 ·rw[e];exact a2.trans c2.symm
 ·rw[e];exact a3.trans c3.symm
theorem zPk(g c:Nat)(xs:List zD)(w:JY)(hm:xs.length<=1048576)(hw:Zv w g 0 xs)(hg:g<w.heap.size):Calls prog 163 #[Ql g xs.length c] w fun e w'=>(∃g1 c1,e=.returned (Ql g1 xs.length c1)/\w.heap.size<=g1/\Zn w' g1 xs xs.length)/\Qb w w':=by
 obtain⟨i0,Q,x,K,X⟩:=zS zDK;have HI:=zB Q;have HZ:=zB (yK x (yK K X));have HE:=zB (by simpa using yG (base:=w.heap.size) (e:=106) (size:=4) w #[] 0 (yk _) (ym _) rfl:(w.alloc (.cells #[] 106)).ownsRow w.heap.size 106 4 (Ql w.heap.size 0 0) 0 []);have HN:=zB (zRa (hw.below (zC w (.cells #[] 106)) hg));have y:(binOp .eql 68 (Ql g xs.length c) (.slice none 0 0)).run prog w=.ok (.bool false) w:=Jk;clear Q x K X hw;go_enter func163,ntmps163;go_wp2_with (at_builtin;refine wpList_append_own _ rfl (.tmp 5) (.tmp 6) 68 rfl w.heap.size 106 i0 _ 4 40 underlying68 HI HZ.1 HZ.2.1 HZ.2.2 rfl Jd _ 0 [] rfl HE (Qa g 0) xs.length c (zT xs) rfl (zEn xs) HN (zj xs) ?b1 ?b2 ?b3 ?next);case b1=>exact Jm
 case b2=>omega
 case b3=>simp
 case next=>
  intro v4 w4 h H k;obtain⟨g1,c1,rfl⟩:=zDE h (by simp[k]);have HF:=zB (zBT h);have HB:=zB ((zC w _).grown H Js (fun q hq=>(HE.lt q hq).1));clear h H k;go_wp2;go_ret;exact⟨⟨g1,c1,rfl,HF⟩,HB⟩
structure zC9(w:JY)(N:Nat)(o b:OpR):Prop where
 h:N<w.heap.size
 o':zBO w N o
 c4:w.cell? (Qa N 4)=some (Qs b.s)
 c5:w.cell? (Qa N 5)=some (Qi b.k)
 c6:w.cell? (Qa N 6)=some (Qi b.l)
 c7:w.cell? (Qa N 7)=some (Qi b.sd)
theorem zC9.below{w':JY}{N:Nat}(h:zC9 w N o b)(hb:Below B w w')(hB:N<B):zC9 w' N o b:=by
 have k:=fun q=>hb.cell (p:=Qa N q) hB
 exact⟨yl h.h hb.size,h.o'.below4 hb hB,(k 4).trans h.c4,(k 5).trans h.c5,(k 6).trans h.c6,(k 7).trans h.c7⟩
def chC(o b:OpR):Array Value:=#[Qs o.s,Qi o.k,Qi o.l,Qi o.sd,Qs b.s,Qi b.k,Qi b.l,Qi b.sd]
theorem zC9.new(w:JY)(o b:OpR)(t:TypeId):zC9 (w.alloc (.cells (chC o b) t)) w.heap.size o b:=by
 unfold chC;exact⟨Js,⟨Jg,Jg,Jg,Jg⟩,Jg,Jg,Jg,Jg⟩
def SwF(w:JY)(g:Nat)(ys xs:List OpR)(k:Nat):Prop:=zBB w g ys k/\∀i,k<=i->i<xs.length->zB2 w g 0 xs i
theorem SwF.skip{ys:List OpR}(h:SwF w g ys xs k)(hk:k<xs.length)(e:atO ys k=atO xs k):SwF w g ys xs (k+1):=by
 refine⟨⟨h.1.1,h.1.2.1,fun i hi=>?_⟩,fun i h1 h2=>h.2 i Jo h2⟩;by_cases ei:i=k
 ·subst ei;have:=h.2 i (yk _) hk;unfold zB2 at this ⊢;rw[e];exact this
 ·exact h.1.2.2 i Jo
theorem SwF.put{ys:List OpR}(h:SwF w g ys xs k)(hl:ys.length=xs.length)(hk:k<xs.length)(e:atO ys k=b):SwF (w.setCells g (k*4) [Qs b.s,Qi b.k,Qi b.l,Qi b.sd]) g ys xs (k+1):=by
 subst e;refine⟨h.1.step Jo,fun i h1 h2=>?_⟩;obtain⟨c0,c1,c2,c3⟩:=h.2 i Jo h2;refine⟨?_,?_,?_,?_⟩;all_goals
  rw[World.cell?_setCells_out g _ _ _ _ (fun _ hj=>yU (by simp at hj ⊢;omega))]
  assumption
theorem SwF.below{w w':JY}{g k:Nat}{ys xs:List OpR}(h:SwF w g ys xs k)(hb:Qb w w'):SwF w' g ys xs k:=
 ⟨h.1.below hb h.1.1,fun i h1 h2=>(h.2 i h1 h2).below hb h.1.1⟩
theorem zIS(g c:Nat)(xs:List OpR)(o b:OpR)(w:JY)(hm:xs.length<=1048576)(hw:Ops w g 0 xs)(hg:g<w.heap.size):Calls prog 103 #[chV o b,.agg #[Ql g xs.length c]] w fun e w'=>(∃g1 c1,e=.returned (.agg #[Ql g1 xs.length c1])/\g1<w'.heap.size/\Ops w' g1 0 (swO o b xs))/\Below w.heap.size w w':=by
 unfold chV;obtain⟨N,hN⟩:=Jx w.heap.size;obtain⟨W,hW⟩:=Jx (((w.alloc (.cells (chC o b) 81)).alloc (.cells #[Ql g xs.length c] 63)).alloc (.cells #[.slice none 0 0] 63));have hz:W.heap.size=N+3:=by rw[hW,hN];simp
 have j:=zB (by rw[hW,hN];exact((zC _ _).alloc Js _).alloc Jq _:Below N w W);have B:=zB (show zC9 W N o b by
  rw[hW,hN]
  exact((zC9.new w o b _).below (zC _ _) Js).below (zC _ _) Jq)
 have q1:W.cell? (Qa (N+1) 0)=some (Ql g xs.length c):=by rw[hW,hN];simp[go_sem]
 have A:=zB (by rw[hW,hN];simp[go_sem]:W.cell? (Qa (N+2) 0)=some (.slice none 0 0));have a:=zB (by rw[hW,hN];simp[go_sem]:W.frozen? (Qa (N+2) 0)=false);have V:=zB (zOb g c xs W hm (hw.below j Jo) (Jy j.size));have HZ:=zB hz;have HN:=zB hN;unfold chC at hW;have HW:=zB hW;clear hw hz;go_enter func103,ntmps103;go_wp2_with fail;rw[<-hW,<-hN];clear hW hN;go_call zA V as e w1 ⟨⟨g1,c1,rfl,hg1,hf⟩,hb1⟩;obtain⟨ys,y⟩:=Jx (swO o b xs);have K:ys.length=xs.length:=by rw[y,zCF]
 have Y:=zB K;have J:=zB y;have u:=zB (by rw[<-zA HZ];exact hb1:Below (N+3) W w1);have P:=zB (show SwF w1 g1 ys xs 0 from⟨⟨hf.1,by rw[K];exact hf.2.1,fun i hi=>yR hi (yx i)⟩,fun i _ hi=>hf.2.2 i hi⟩);rw[zA HZ] at hg1;clear hb1 hf V K y q1;go_wp2_with fail;go_loopw [13] (fun i wr=>∃k:Nat,k<=xs.length/\i=Qi k/\Hid (SwF wr g1 ys xs k)/\Hid (Below (N+3) W wr)) (fun i _=>xs.length-(intOf i).toNat);case atStart=>exact⟨0,ym _,rfl,P,u⟩
 case round=>
  clear P u;obtain⟨k,hk,rfl,HS,HB⟩:=hrel;by_cases h:k<xs.length
  ·have d:(k:Int)<(xs.length:Int):=Jo;obtain⟨a0,a1,a2,a3⟩:=HS.2 k (yk _) h;simp only[yY] at a0 a1 a2 a3;have HA:=zB (zTX (o:=o) (b:=b) h);rw[<-zA J] at HA;obtain⟨x,hx⟩:=Jx (atO xs k);rw[<-hx] at a0 a1 a2 a3 HA;have HX:=zB hx;obtain⟨W6,H⟩:=Jx (wr.alloc (.cells #[Qs x.s,Qi x.k,Qi x.l,Qi x.sd] 33));have Q:Below wr.heap.size wr W6:=by rw[H];exact zC _ _
   have X:=zB (HS.below Q);have zr:N+3<=wr.heap.size:=by have:=HB.size;have:=zA HZ;omega
   have q:Hid (Below (N+3) W W6):=HB.trans (Q.mono zr);obtain⟨x0,x1,x2,x3⟩:zBO W6 wr.heap.size x:=by rw[H];exact⟨Jg,Jg,Jg,Jg⟩
   obtain⟨_,⟨d0,d1,d2,d3⟩,d4,d5,d6,d7⟩:=B.below q Jo;have hq:=fun W=>zBs x o W
   have D:=zDm;have U:=zB H;clear hx H Q;go_upto_region 5 with fail
   rw[<-zA U];cases hsm:ZV x o
   ·have HN:=zB (X.skip h (by rw[zA HA,<-zA HX];simp[hsm]));simp only[hsm] at hq;clear hsm;go_wp2;exact⟨⟨k+1,Jo,Jn,HN,q⟩,Ji⟩
   ·have HN:=zB (X.put Y h (by rw[zA HA];simp[hsm]:atO ys k=b));obtain⟨⟨⟨_,f0⟩,f0'⟩,⟨⟨_,f1⟩,f1'⟩,⟨⟨_,f2⟩,f2'⟩,⟨⟨_,f3⟩,f3'⟩⟩:=zOh X.1 (by rw[zA Y];exact h);simp only[hsm] at hq;clear hsm;go_wp2;exact⟨⟨k+1,Jo,Jn,HN,zB (zM (Jo:N+3<=g1) [Qs b.s,Qi b.k,Qi b.l,Qi b.sd] (k*4) _ q)⟩,Ji⟩
  ·obtain rfl:k=xs.length:=Jo;have r2:=(HB.cell (p:=(Qa (N+2) 0)) (Jo:N+2<N+3)).trans A;have r3:=(HB.frozen (p:=(Qa (N+2) 0)) (Jo:N+2<N+3)).trans a;have HE:=zB (show zBB (wr.setCell (Qa (N+2) 0) (Ql g1 xs.length c1)) g1 ys ys.length by
    rw[zA Y]
    exact HS.1.setCell _ _ (Jo:N+2≠g1))
   have C:Hid (Below N w (wr.setCell (Qa (N+2) 0) (Ql g1 xs.length c1))):=(j.trans (HB.mono Jo)).setCell (p:=(Qa (N+2) 0)) (show N<=N+2 by omega) _;clear h;go_wp2;refine yN (v:=.agg #[Ql g1 xs.length c1]) ?res rfl ⟨⟨g1,c1,rfl,HE.1,?_⟩,?_⟩;case res=>simp[results,results103,go_sem, *]
   ·rw[<-zA J];exact HE.ops
   ·rw[<-zA HN];exact C
theorem zKP(v:Value)(tabs:List (List OpR))(o b:OpR)(w:JY)(hn:tabs.length<=100)(hT:zD4 w v tabs)(hl:∀i,i<tabs.length->(zz tabs i).length<=1048576/\ZA (zz tabs i)/\o∈zz tabs i)(A:b.s.size<=1048576):Calls prog 60 #[chV o b,v] w fun e w'=>(∃r,e=.returned (.bool r)/\((r=true/\∀i,i<tabs.length->zO (swO o b (zz tabs i)) 0)\/(r=false/\∃i,i<tabs.length/\∃c,zO (swO o b (zz tabs i)) c/\c≠0)))/\Below w.heap.size w w':=by
 have HL:=zB hl;have HT:=zB (fun W (hb:Below w.heap.size w W)=>hT.below hb);obtain⟨a,c,rfl,_⟩:=hT;obtain⟨N,hN⟩:=Jx w.heap.size;obtain⟨W,hW⟩:=Jx (w.alloc (.cells (chC o b) 81));have Y:=zB (by rw[hW];exact zC _ _:Below w.heap.size w W);have B:=zB (by rw[hW,hN];exact zC9.new w o b _:zC9 W N o b);have HZ:=zB (by rw[hW,hN];simp:W.heap.size=N+1);have HN:=zB hN;unfold chV;unfold chC at hW;clear hl;go_enter func60,ntmps60;go_wp2_with fail;rw[<-hW,<-hN];clear hW hN;go_loopw [9] (fun i wr=>∃n:Nat,n<=tabs.length/\i=Qi n/\Hid (∀j,j<n->zO (swO o b (zz tabs j)) 0)/\Hid (Below (N+1) W wr)) (fun i _=>tabs.length-(intOf i).toNat);case atStart=>exact⟨0,ym _,rfl,zB (fun j h=>Jo),zB (yJ _ _)⟩
 case round=>
  obtain⟨n,hn,rfl,U,HB⟩:=hrel;have V:Hid (Below w.heap.size w wr):=Y.trans (HB.mono (by rw[<-zA HN];omega));by_cases x:n<tabs.length
  ·have D:(n:Int)<(tabs.length:Int):=Jo;obtain⟨a',c',e,h⟩:=(zA HT) wr V;obtain⟨rfl,_,rfl⟩:=Value.slice.inj e;obtain⟨g,rfl,hg,hc⟩:=h.resolve_left Jo;obtain⟨t,c0,p⟩:=hc n x;obtain⟨q,X,k⟩:=(zA HL) n x;obtain⟨xs,Q⟩:=Jx (zz tabs n);rw[<-Q] at p q X k;have y:=zB Q;obtain⟨at',ct,rfl,⟨h0,_⟩|⟨g2,rfl,d,H⟩⟩:=p
   ·exact yR k (by rw[jd.1 h0];simp)
   have zr:N+1<=wr.heap.size:=by have:=HB.size;have:=zA HZ;omega
   obtain⟨_,⟨d0,d1,d2,d3⟩,d4,d5,d6,d7⟩:=B.below HB Jo;have HC:=zB (zIS g2 ct xs o b (wr.alloc (.cells #[Ql g2 xs.length ct] 63)) q (H.below (zC _ _) d) Jq);have K:=zB (show ZA (swO o b xs)/\(swO o b xs).length<=1048576/\(swO o b xs).length=xs.length from⟨zF5 X A,by rw[zCF];exact q,zCF _ _ _⟩);unfold chV at HC;clear hc h e H X k Q;go_wp2_with fail;go_call zA HC as e w3 ⟨⟨g1,c1,rfl,hg1,ho1⟩,hb3⟩;have J:Hid (Below (N+1) W w3):=HB.trans (((zC _ _).mono zr).trans (hb3.mono Jq));have z3:N+1<=w3.heap.size:=by have:=J.size;have:=zA HZ;omega
   have P:=zB (zKI (Ql g1 (swO o b xs).length c1) (swO o b xs) w3 K.2.1 ⟨_,c1,rfl,yU ⟨g1,rfl,hg1,ho1⟩⟩ K.1);rw[(zA K).2.2] at P;clear hb3 ho1 d0 d1 d2 d3 d4 d5 d6 d7 HC;go_wp2_with fail;go_call zA P as e w4 ⟨⟨cd,rfl,hcd⟩,hb4⟩;have u:Hid (Below (N+1) W w4):=J.trans (hb4.mono z3);by_cases h0:cd=0
   ·subst h0;have C:=zB (show ∀j,j<n+1->zO (swO o b (zz tabs j)) 0 from fun j hj=>by
     by_cases ej:j=n
     ·subst ej;rw[<-zA y];exact hcd
     ·exact U j Jo)
    clear hcd hb4;go_wp2;exact⟨⟨n+1,Jo,Jn,C,u⟩,Ji⟩
   ·have HE:=zB (show ∃i,i<tabs.length/\∃c,zO (swO o b (zz tabs i)) c/\c≠0 from⟨n,x,cd,by rw[<-zA y];exact hcd,h0⟩);have hI:(cd != 0)=true:=Ju h0
    clear hcd hb4 h0;go_wp2;go_ret;exact⟨⟨false,rfl,yU ⟨rfl,HE⟩⟩,Y.trans (u.mono (by rw[<-zA HN];omega))⟩
  ·obtain rfl:n=tabs.length:=Jo;go_wp2;go_ret;exact⟨⟨true,rfl,yS ⟨rfl,U⟩⟩,V⟩
def SwT(w:JY)(g:Nat)(ys xs:List zD)(k:Nat):Prop:=Zn w g ys k/\∀i,k<=i->i<xs.length->zFL w g 0 xs i
theorem SwT.skip{ys xs:List zD}(h:SwT w g ys xs k)(hk:k<xs.length)(e:atN ys k=atN xs k):SwT w g ys xs (k+1):=by
 refine⟨⟨h.1.1,h.1.2.1,fun i hi=>?_⟩,fun i h1 h2=>h.2 i Jo h2⟩;by_cases ei:i=k
 ·subst ei;have:=h.2 i (yk _) hk;unfold zFL at this ⊢;rw[e];exact this
 ·exact h.1.2.2 i Jo
theorem SwT.put{ys xs:List zD}(h:SwT w g ys xs k)(hk:k<xs.length){t:JZ}(e:atN ys k=⟨(atN xs k).k,t,(atN xs k).a,(atN xs k).b⟩):SwT (w.setCell (Qa g (k*4+1)) (Qs t)) g ys xs (k+1):=by
 have H:∀q,q≠k*4+1->(w.setCell (Qa g (k*4+1)) (Qs t)).cell? (Qa g q)=w.cell? (Qa g q):=fun q hq=>yj _ _ _ _ (fun x=>by injection x with _ x;omega)
 refine⟨⟨by simpa[World.setCell] using h.1.1,World.there_setCells h.1.2.1 g (k*4+1) [Qs t],fun i hi=>?_⟩,fun i h1 h2=>?_⟩
 ·by_cases ei:i=k
  ·subst ei;obtain⟨c0,c1,c2,c3⟩:=h.2 i (yk _) hk;unfold zFL;rw[e];refine⟨(H _ Jo).trans c0,?_,(H _ Jo).trans c2,(H _ Jo).trans c3⟩;rw[yY] at c1 ⊢;exact yt _ _ _ c1
  ·obtain⟨c0,c1,c2,c3⟩:=h.1.2.2 i Jo;exact⟨(H _ Jo).trans c0,(H _ Jo).trans c1,(H _ Jo).trans c2,(H _ Jo).trans c3⟩
 ·obtain⟨c0,c1,c2,c3⟩:=h.2 i Jo h2;exact⟨(H _ Jo).trans c0,(H _ Jo).trans c1,(H _ Jo).trans c2,(H _ Jo).trans c3⟩
theorem SwT.below{w w':JY}{g k:Nat}{ys xs:List zD}(h:SwT w g ys xs k)(hb:Qb w w'):SwT w' g ys xs k:=
 ⟨h.1.below hb h.1.1,fun i h1 h2=>(h.2 i h1 h2).below hb h.1.1⟩
theorem zVq{n:zD}(hk:1<=o.k/\o.k<=3):zPX o n=((zCR n.k==o.k)&&(n.t.toList==o.s.toList)):=by
 have h1:decide (n.k=o.k+2)=(zCR n.k==o.k):=by
  unfold zCR;rw[Bool.eq_iff_iff];split<;>simp<;>omega
 have h2:decide (n.t=o.s)=(n.t.toList==o.s.toList):=by
  rw[Bool.eq_iff_iff];simp;exact⟨fun h=>by rw[h],fun h=>zBC h⟩
 rw[zPX,h1,h2]
theorem zPl(g c:Nat)(xs:List zD)(o b:OpR)(w:JY)(hm:xs.length<=1048576)(hw:Zv w g 0 xs)(hg:g<w.heap.size)(hk:1<=o.k/\o.k<=3):Calls prog 111 #[chV o b,.agg #[Ql g xs.length c]] w fun e w'=>(∃g1 c1,e=.returned (.agg #[Ql g1 xs.length c1])/\g1<w'.heap.size/\Zv w' g1 0 (reN o b xs))/\Below w.heap.size w w':=by
 unfold chV;obtain⟨N,hN⟩:=Jx w.heap.size;obtain⟨W,hW⟩:=Jx (((w.alloc (.cells (chC o b) 81)).alloc (.cells #[Ql g xs.length c] 70)).alloc (.cells #[.slice none 0 0] 70));have hz:W.heap.size=N+3:=by rw[hW,hN];simp
 have j:=zB (by rw[hW,hN];exact((zC _ _).alloc Js _).alloc Jq _:Below N w W);have A:=zB (show zC9 W N o b by
  rw[hW,hN]
  exact((zC9.new w o b _).below (zC _ _) Js).below (zC _ _) Jq)
 have q1:W.cell? (Qa (N+1) 0)=some (Ql g xs.length c):=by rw[hW,hN];simp[go_sem]
 have D:=zB (by rw[hW,hN];simp[go_sem]:W.cell? (Qa (N+2) 0)=some (.slice none 0 0));have d:=zB (by rw[hW,hN];simp[go_sem]:W.frozen? (Qa (N+2) 0)=false);have V:=zB (zPk g c xs W hm (hw.below j Jo) (Jy j.size));have HZ:=zB hz;have HN:=zB hN;have HK:=zB hk;unfold chC at hW;clear hw hz hk;go_enter func111,ntmps111;go_wp2_with fail;rw[<-hW,<-hN];clear hW hN;go_call zA V as e w1 ⟨⟨g1,c1,rfl,hg1,hf⟩,hb1⟩;obtain⟨ys,Y⟩:=Jx (reN o b xs);have q:ys.length=xs.length:=by rw[Y,zC7]
 have B:=zB q;have J:=zB Y;have U:=zB (by rw[<-zA HZ];exact hb1:Below (N+3) W w1);have P:=zB (show SwT w1 g1 ys xs 0 from⟨⟨hf.1,by rw[q];exact hf.2.1,fun i hi=>yR hi (yx i)⟩,fun i _ hi=>hf.2.2 i hi⟩);rw[zA HZ] at hg1;clear hb1 hf V q Y q1;go_wp2_with fail;go_loopw [13] (fun i wr=>∃k:Nat,k<=xs.length/\i=Qi k/\Hid (SwT wr g1 ys xs k)/\Hid (Below (N+3) W wr)) (fun i _=>xs.length-(intOf i).toNat);case atStart=>exact⟨0,ym _,rfl,P,U⟩
 case round=>
  clear P U;obtain⟨k,hk,rfl,HS,HB⟩:=hrel;by_cases H:k<xs.length
  ·have f:(k:Int)<(xs.length:Int):=Jo;obtain⟨a0,a1,a2,a3⟩:=HS.2 k (yk _) H;simp only[yY] at a0 a1 a2 a3;have HA:=zB (zTY (o:=o) (b:=b) H);rw[<-zA J,zVq (zA HK)] at HA;obtain⟨x,hx⟩:=Jx (atN xs k);rw[<-hx] at a0 a1 a2 a3 HA;have HX:=zB hx;obtain⟨W6,K⟩:=Jx (wr.alloc (.cells #[Qi x.k,Qs x.t,Qi x.a,Qi x.b] 106));have X:Below wr.heap.size wr W6:=by rw[K];exact zC _ _
   have y:=zB (HS.below X);have zr:N+3<=wr.heap.size:=by have:=HB.size;have:=zA HZ;omega
   have h:Hid (Below (N+3) W W6):=HB.trans (X.mono zr);have x0:W6.cell? (Qa wr.heap.size 0)=some (Qi x.k):=by rw[K];simp[go_sem]
   have x1:W6.cell? (Qa wr.heap.size 1)=some (Qs x.t):=by rw[K];simp[go_sem]
   obtain⟨_,⟨d0,d1,d2,d3⟩,d4,d5,d6,d7⟩:=A.below h Jo;have C:=zB K;have dn:∀n,Below W6.heap.size W6 (W6.drewN n):=fun n=>⟨rfl,rfl,rfl,yk _,fun _ _=>rfl⟩
   have DN:=zB dn;clear hx K X dn;go_upto_region 5 with fail
   rw[<-zA C];cases h1:zCR x.k==o.k
   ·have HN:=zB (y.skip H (by rw[zA HA,<-zA HX];simp[h1]));go_quiet ((go_at_call 164;exact Calls.quiet_of_same (zCS _ _)));go_wp2;exact⟨⟨k+1,Jo,Jn,zB (HN.below (DN _)),zB (h.trans ((DN _).mono (by have:=h.size;have:=zA HZ;omega)))⟩,Ji⟩
   ·cases h2:x.t.toList==o.s.toList
    ·have HN:=zB (y.skip H (by rw[zA HA,<-zA HX];simp[h1,h2]));go_quiet ((go_at_call 164;exact Calls.quiet_of_same (zCS _ _)));go_wp2;exact⟨⟨k+1,Jo,Jn,zB (HN.below (DN _)),zB (h.trans ((DN _).mono (by have:=h.size;have:=zA HZ;omega)))⟩,Ji⟩
    ·have HE:=zB (by rw[zA HA,<-zA HX];simp[h1,h2]:atN ys k=⟨(atN xs k).k,b.s,(atN xs k).a,(atN xs k).b⟩);go_quiet ((go_at_call 164;exact Calls.quiet_of_same (zCS _ _)));have Q:=zB (y.below (DN nq));have u:=zB (h.trans ((DN nq).mono (by have:=h.size;have:=zA HZ;omega)));obtain⟨_,_,e4,_,_,_⟩:=A.below u Jo;have f0:=(Q.2 k (yk _) H).2.1;rw[yY] at f0;have f1:=(Q.1.2.1 (k*4+1) (by rw[zA B];omega)).2;rw[yY] at f1;have HN:=zB (Q.put H HE);clear x0 x1 d0 d1 d2 d3 d4 d5 d6 d7;generalize W6.drewN nq=wq at *;go_wp2;exact⟨⟨k+1,Jo,Jn,HN,zB (u.setCell (p:=(Qa g1 (k*4+1))) (Jo:N+3<=g1) _)⟩,Ji⟩
  ·obtain rfl:k=xs.length:=Jo;have r2:=(HB.cell (p:=(Qa (N+2) 0)) (Jo:N+2<N+3)).trans D;have r3:=(HB.frozen (p:=(Qa (N+2) 0)) (Jo:N+2<N+3)).trans d;have HE:=zB (show Zn (wr.setCell (Qa (N+2) 0) (Ql g1 xs.length c1)) g1 ys ys.length by
    rw[zA B]
    exact HS.1.setCell _ _ _ (Jo:N+2≠g1))
   have E:Hid (Below N w (wr.setCell (Qa (N+2) 0) (Ql g1 xs.length c1))):=(j.trans (HB.mono Jo)).setCell (p:=(Qa (N+2) 0)) (show N<=N+2 by omega) _;clear H;go_wp2;refine yN (v:=.agg #[Ql g1 xs.length c1]) ?res rfl ⟨⟨g1,c1,rfl,HE.1,?_⟩,?_⟩;case res=>simp[results,results111,go_sem, *]
   ·rw[<-zA J];exact HE.ops
   ·rw[<-zA HN];exact E
theorem zPm(g c g2 c2:Nat)(xs:List OpR)(ns:List zD)(o b:OpR)(w:JY)(hm:xs.length<=1048576)(hw:Ops w g 0 xs)(hg:g<w.heap.size)(y:ZA xs)(J:ns.length<=1048576)(Y:Zv w g2 0 ns)(a:g2<w.heap.size)(P:zBb ns)(hk:1<=o.k/\o.k<=3)(Q:b.s.size<=1048576):Calls prog 64 #[chV o b,.agg #[Ql g xs.length c],.agg #[Ql g2 ns.length c2]] w fun e w'=>(∃pt pv,e=.returned (Qs pt)/\zCa (swO o b xs) (reN o b ns) pt pv)/\Below w.heap.size w w':=by
 unfold chV;obtain⟨N,hN⟩:=Jx w.heap.size;obtain⟨W,hW⟩:=Jx (((w.alloc (.cells (chC o b) 81)).alloc (.cells #[Ql g xs.length c] 63)).alloc (.cells #[Ql g2 ns.length c2] 70));have hz:W.heap.size=N+3:=by rw[hW,hN];simp
 have h:Below w.heap.size w W:=by rw[hW];exact((zC _ _).alloc Js _).alloc Jq _
 have z0:=h.size;have j:zC9 W N o b:=by
  rw[hW,hN];exact((zC9.new w o b _).below (zC _ _) Js).below (zC _ _) Jq
 have q1:W.cell? (Qa (N+1) 0)=some (Ql g xs.length c):=by rw[hW,hN];simp[go_sem]
 have q2:W.cell? (Qa (N+2) 0)=some (Ql g2 ns.length c2):=by rw[hW,hN];simp[go_sem]
 have K:Hid (∀X,Below W.heap.size W X->zC9 X N o b/\X.cell? (Qa (N+1) 0)=some (Ql g xs.length c)/\X.cell? (Qa (N+2) 0)=some (Ql g2 ns.length c2)):=fun X hb=>⟨j.below hb Jo,(hb.cell (p:=(Qa (N+1) 0)) (show N+1<W.heap.size by omega)).trans q1,(hb.cell (p:=(Qa (N+2) 0)) (show N+2<W.heap.size by omega)).trans q2⟩
 have HC:=zB (zIS g c xs o b W.drew hm (hw.below h.drew hg) (Jo:g<W.heap.size));have HT:=zB (fun X (hb:Below W.heap.size W X)=>zPl g2 c2 ns o b X J ((Y.below h a).below hb Jo) (Jy hb.size) hk);have HP:=zB (fun gu cu gn cn X (h1:Ops X gu 0 (swO o b xs)) (h2:gu<X.heap.size) (h3:Zv X gn 0 (reN o b ns)) (h4:gn<X.heap.size)=>zKq gu 0 cu gn 0 cn (swO o b xs) (reN o b ns) X (by rw[zCF];exact hm) (by rw[zC7];exact J) h1 (zF5 y Q) h2 h3 (zLi P Q) h4);rw[zC7,zCF] at HP;have U:=zB h;have HN:=zB hN;unfold chV at HC HT;unfold chC at hW;obtain⟨_,⟨d0,d1,d2,d3⟩,d4,d5,d6,d7⟩:=j;clear hw Y y P Q h hk;go_enter func64,ntmps64;go_wp2_with fail;rw[<-hW,<-hN];clear hW hN;go_region_held3 (fun X=>X.cell? (Qa N 0)=some (Qs o.s)/\X.cell? (Qa N 1)=some (Qi o.k)/\X.cell? (Qa N 2)=some (Qi o.l)/\X.cell? (Qa N 3)=some (Qi o.sd)/\X.cell? (Qa N 4)=some (Qs b.s)/\X.cell? (Qa N 5)=some (Qi b.k)/\X.cell? (Qa N 6)=some (Qi b.l)/\X.cell? (Qa N 7)=some (Qi b.sd)/\X.cell? (Qa (N+1) 0)=some (Ql g xs.length c)/\X.cell? (Qa (N+2) 0)=some (Ql g2 ns.length c2)) (go_keep)
  (
   first
   |(go_at_call 103;(with_reducible refine(zA HC).mono ?_);rintro e wa ⟨⟨gu,cu,rfl,hgu,hou⟩,hba⟩;have H:Hid (Below W.heap.size W wa):=(yJ _ _).drew.trans hba;obtain⟨⟨_,⟨e0,e1,e2,e3⟩,e4,e5,e6,e7⟩,e8,e9⟩:=(zA K) wa H;have V:=zB hou;have v:=zB (HT wa H);clear hba hou)
   |(go_at_call 111;(with_reducible refine(zA v).mono ?_);rintro e wb ⟨⟨gn,cn,rfl,hgn,hon⟩,hbb⟩;have q:Hid (Below W.heap.size W wb):=H.trans (hbb.mono H.size);obtain⟨⟨_,⟨f0,f1,f2,f3⟩,f4,f5,f6,f7⟩,f8,f9⟩:=(zA K) wb q;have u:=zB (HP gu cu gn cn wb (V.below hbb hgu) (Jy hbb.size) hon hgn);clear hbb hon)
   |(go_at_call 110;(with_reducible refine(zA u).mono ?_);rintro e wc ⟨⟨pt,pv,rfl,HPI⟩,hbc⟩;have x:Hid (Below W.heap.size W wc):=q.trans (hbc.mono q.size);obtain⟨⟨_,⟨h0,h1,h2,h3⟩,h4,h5,h6,h7⟩,h8,h9⟩:=(zA K) wc x;clear hbc))
 go_wp2_with fail;go_ret;exact⟨⟨pt,pv,rfl,HPI⟩,U.trans (x.mono (by rw[<-zA HN];omega))⟩
end Go.Proofs.YtadiaghhackbjaaGreatDoor
