import Derived.Lib.SmallJoins
import Derived.Test.YtdgcbenningkdaaGreatDoorV00
namespace Go.Proofs.YtdgcbenningkdaaGreatDoor
set_option linter.all false
set_option maxHeartbeats 0
set_option maxRecDepth 100000
open Proofs.Tryz RowKit
variable{B c cap g i p rp:Nat}{a:Option Addr}{bs:List UInt8}{us:List zF}{w w':World}
open _root_.Array renaming size→O
open List renaming length→Z
open Option renaming some→E,none→JL
open Obj renaming cells→JM
open Bool renaming false→Vt,true→Vp
open Proofs.Tryz renaming prog→Vb
open Ending renaming returned→i9
def Af(a:Jw)(p:Nat):Nat:=(a.getD p 0).toNat
def Ac(a:Jw)(p:Nat):Nat:=if p<Z a then p+1 else p
def Tl(a p):Af a p<256:=UInt8.toNat_lt _
theorem MN(h:p<=Z bs):Ac bs p<=Z bs:=by grind [Ac]
structure Az(w:JY)(e:Nat)(a:Option Addr)(f:Nat)(c:Jw)(p:Nat):Prop where
 c0:w.cell? (J e 0)=E (.slice a (Z c) f)
 c1:w.cell? (J e 1)=E (G p)
 fz:w.frozen? (J e 1)=Vt
 le:p<=Z c
 bts:Z c=0\/∃b d,a=E (J b d)/\b<e/\∀i,i<Z c->w.cell? (J b (d+i))=E (.int .u8 ((c.getD i 0).toNat:Int))
def Az.lt(h:Az w rp a cap bs p):rp<O w.1:=jl h.c0
def Az.kept(h:Az w rp a cap bs p)(c:∀i,i<=rp->w'.heap[i]?=w.heap[i]?):Az w' rp a cap bs p:=by
 have e:=λo=>yv (w:=w) (w':=w') (a:=J rp o) (c rp yk)
 refine⟨(e _).trans h.c0,(e _).trans h.c1,(yG (w:=w) (w':=w') (a:=J rp 1) (c rp yk)).trans h.fz,h.le,?_⟩;rcases h.bts with d|⟨b,H,f,K,g⟩
 .exact yW d
 .exact yX ⟨b,H,f,K,λi j=>(yv (w:=w) (w':=w') (a:=(J b (H+i))) (c b (Nat.le_of_lt K))).trans (g i j)⟩
def Az.y(h:Az w rp a cap bs p)(b:Qb w w'):Az w' rp a cap bs p:=
 h.kept (λi c=>b.block i (Jy h.lt))
theorem Az.move(h:Az w rp a cap bs p)(k:p<Z bs)(n)(j:n=((p+1:Nat):Int)):Az (w.setCell ⟨rp,1,JL⟩ (G n)) rp a cap bs (p+1):=by
 subst j;refine⟨(yj _ _ _ _ Js).trans h.c0,yu _ _ _ h.c1,(yx).trans h.fz,I,?_⟩;rcases h.bts with c|⟨b,H,d,K,f⟩
 .exact yW c
 .exact yX ⟨b,H,d,K,λi g=>(yj _ _ _ _ (λe=>by grind)).trans (f i g)⟩
def IX(w n g):zE w (w.drewN n) g:=⟨F,F,F,yk,λ_ _ _=>F⟩
def I5(w p o v):zE w (w.setCell (J p o) v) p:=Ld [v] o w
def Az.drewN(h:Az w rp a cap bs p)(n):Az (w.drewN n) rp a cap bs p:=h.kept (λ_ _=>F)
def qP(g f p a c w)(h:Az w g a f c p)(x:Z c<=1200):Calls Vb 19 #[Qp g] w λe w'=>e=i9 (G (Af c p:Int))/\Hid (Az w' g a f c (Ac c p))/\zE w w' g:=by
 have H:=S h;obtain⟨s,t,u,y,j⟩:=h;by_cases d:p<Z c
 .have K:(p:Int)<Z c:=I;rcases j with v|⟨b,q,rfl,Q,n⟩
  .omega
  have o:=n p d;have i:=S (by simp[Ac,d]:Ac c p=p+1);have k:=S (show Af c p=(c.getD p 0).toNat from F);go_enter func19,ntmps19;go_wp2_with fail;go_quiet (fail);go_wp2_with fail;go_quiet (fail);go_wp2;go_ret;rw[D i];refine⟨zK ?_,S ((H.drewN _).move d _ I),(IX w _ _).trans (I5 _ g 1 _)⟩;have l:Af c p<256:=Tl c p;have m:Af c p=c[p].toNat:=by simp[Af,d]
  rw[m]at l ⊢;unfold wrap64;omega
 .have K:¬ (p:Int)<Z c:=I;have i:=S (by simp[Ac,d]:Ac c p=p);have k:=S (by simp[Af,d]:Af c p=0);go_enter func19,ntmps19;go_wp2_with fail;go_quiet (fail);go_wp2;go_ret;rw[D i,D k];exact⟨F,S (H.drewN _),IX w _ _⟩
def EX(d c p a b w)(h:Az w d a c b p)(i:Z b<=1200):Calls Vb 19 #[Qp d] w λe w'=>(∃k:Nat,e=i9 (G k)/\k<256/\Hid (k=Af b p))/\Hid (Az w' d a c b (Ac b p))/\Hid (zE w w' d):=by go_call qP d c p a b w h i as e w' ⟨rfl,f,g⟩;exact⟨⟨Af b p,F,Tl b p,S F⟩,f,S g⟩
def MC(d b p a c w)(h:Az w d a b c p)(k:Z c<=1200):Calls Vb 143 #[Qp d] w λe w'=>e=i9 (G ((Z c-p:Nat):Int))/\Hid (Az w' d a b c p)/\Qb w w':=by have H:=S h;obtain⟨g,i,j,l,f⟩:=h;go_enter func143,ntmps143;go_wp2_with fail;go_quiet (fail);go_wp2;go_ret;exact⟨zK I,S (H.drewN _),⟨F,F,F,yk,λ_ _=>F⟩⟩
def FV(l:Jw):Jw:=l.take 1200
def GZ(w:JY)(a)(l:Jw):=Z l=0\/∃b c,a=E (J b c)/\b<O w.1/\∀i,i<Z l->w.cell? (J b (c+i))=E (.int .u8 ((l.getD i 0).toNat:Int))
theorem mM(a c l w)(s:Z l<=1048576)(x:Z l<=c)(h:GZ w a l):Calls Vb 18 #[.slice a (Z l) c] w λe w'=>(∃rp d,e=i9 (Qp rp)/\O w.1<=rp/\Hid (Az w' rp a d (FV l) 0))/\Qb w w':=by
 by_cases y:1200<Z l
 .have Q:(1200:Int)<Z l:=I;rcases D h with m|⟨b,K,rfl,f,j⟩
  .omega
  have n:=S j;have X:(1200:Int)<=c:=I;go_enter func18,ntmps18;go_wp2;go_ret;have g:Az (w.alloc (JM #[Je b K 1200 c,G 0] 60)) (O w.1) (E (J b K)) c (FV l) 0:=by
   have q:Z (FV l)=1200:=by grind [FV]
   refine⟨by rw[q];simp[go_sem],Jg,Jg,yn,yX ⟨b,K,F,f,λi k=>?_⟩⟩;rw[q]at k;rw[(@zC w _).cell (p:=(J b (K+i))) f,(D n) i I];grind [FV]
  refine⟨?_,zC⟩
  first
   |exact⟨O w.1,c,F,yk,S g⟩
   |exact⟨O w.1,F,yk,c,S g⟩
 .have Q:¬ (1200:Int)<Z l:=I;have o:Hid (FV l=l):=List.take_of_length_le I;go_enter func18,ntmps18;go_wp2;go_ret;have g:Az (w.alloc (JM #[.slice a (Z l) c,G 0] 60)) (O w.1) a c (FV l) 0:=by
   rw[D o];refine⟨Jg,Jg,Jg,yn,?_⟩;rcases D h with m|⟨b,K,rfl,f,j⟩
   .exact yW m
   .exact yX ⟨b,K,F,f,λi k=>((@zC w _).cell (p:=(J b (K+i))) f).trans (j i k)⟩
  refine⟨?_,zC⟩
  first
   |exact⟨O w.1,c,F,yk,S g⟩
   |exact⟨O w.1,F,yk,c,S g⟩
def QC:Value->Nat
 |.slice _ n _=>n
 |_=>0
theorem qQ(l):Z (FV l)<=1200:=by grind [FV]
structure A0(w:JY)(e:Nat)(a:Option Addr)(f:Nat)(d:Jw)(p:Nat):Prop where
 c0:w.cell? (J e 0)=E (.slice a (Z d) f)
 c1:w.cell? (J e 1)=E (G p)
 fz:w.frozen? (J e 1)=Vt
 bts:Z d=0\/∃b c,a=E (J b c)/\b<e/\∀i,i<Z d->w.cell? (J b (c+i))=E (.int .u8 ((d.getD i 0).toNat:Int))
def Az.free(h:Az w rp a cap bs p):A0 w rp a cap bs p:=⟨h.c0,h.c1,h.fz,h.bts⟩
def A0.lt(h:A0 w rp a cap bs p):rp<O w.1:=jl h.c0
def A0.kept(h:A0 w rp a cap bs p)(c:∀i,i<=rp->w'.heap[i]?=w.heap[i]?):A0 w' rp a cap bs p:=by
 have e:=λo=>yv (w:=w) (w':=w') (a:=J rp o) (c rp yk)
 refine⟨(e _).trans h.c0,(e _).trans h.c1,(yG (w:=w) (w':=w') (a:=J rp 1) (c rp yk)).trans h.fz,?_⟩;rcases h.bts with d|⟨b,H,f,K,g⟩
 .exact yW d
 .exact yX ⟨b,H,f,K,λi j=>(yv (w:=w) (w':=w') (a:=(J b (H+i))) (c b (Nat.le_of_lt K))).trans (g i j)⟩
def A0.y(h:A0 w rp a cap bs p)(b:Qb w w'):A0 w' rp a cap bs p:=
 h.kept (λi c=>b.block i (Jy h.lt))
theorem A0.move(h:A0 w rp a cap bs p)(q:Nat)(n)(j:n=(q:Int)):A0 (w.setCell ⟨rp,1,JL⟩ (G n)) rp a cap bs q:=by
 subst j;refine⟨(yj _ _ _ _ Js).trans h.c0,yu _ _ _ h.c1,(yx).trans h.fz,?_⟩;rcases h.bts with c|⟨b,H,d,K,f⟩
 .exact yW c
 .exact yX ⟨b,H,d,K,λi g=>(yj _ _ _ _ (λe=>by grind)).trans (f i g)⟩
def A0.drewN(h:A0 w rp a cap bs p)(n):A0 (w.drewN n) rp a cap bs p:=h.kept (λ_ _=>F)
def GJ(f d p a c w)(h:A0 w f a d c p)(y:Z c<=1200):Calls Vb 19 #[Qp f] w λe w'=>(∃k:Nat,e=i9 (G k)/\k<256/\Hid (k=Af c p))/\Hid (A0 w' f a d c (Ac c p))/\Hid (zE w w' f):=by
 have H:=S h;obtain⟨t,u,v,j⟩:=h;by_cases g:p<Z c
 .have K:(p:Int)<Z c:=I;rcases j with x|⟨b,q,rfl,Q,o⟩
  .omega
  have s:=o p g;have i:=S (by simp[Ac,g]:Ac c p=p+1);go_enter func19,ntmps19;go_wp2_with fail;go_quiet (fail);go_wp2_with fail;go_quiet (fail);go_wp2;go_ret;rw[D i];have l:Af c p<256:=Tl c p;refine⟨⟨Af c p,zK ?_,l,S F⟩,S ((H.drewN _).move (p+1) _ I),S ((IX w _ _).trans (I5 _ f 1 _))⟩;have n:Af c p=c[p].toNat:=by simp[Af,g]
  rw[n]at l ⊢;unfold wrap64;omega
 .have K:¬ (p:Int)<Z c:=I;have i:=S (by simp[Ac,g]:Ac c p=p);have m:=S (by unfold Af;rw[yq,List.getElem?_eq_none I];rfl:Af c p=0);go_enter func19,ntmps19;go_wp2_with fail;go_quiet (fail);go_wp2;go_ret;rw[D i];exact⟨⟨0,F,Jd,S m.symm⟩,S (H.drewN _),S (IX w _ _)⟩
def A0.set(h:A0 w rp a cap bs p)(b o v)(c:rp<b):A0 (w.setCell (J b o) v) rp a cap bs p:=
 h.kept (λi d=>(I5 _ _ _ _).block i (Jy h.lt) I)
def A0.strict(h:A0 w rp a cap bs p)(b:p<=Z bs):Az w rp a cap bs p:=⟨h.c0,h.c1,h.fz,b,h.bts⟩
def zk(a:Jp):JD:=a.flatMap λo=>[W o.n,W o.t]
theorem Me(a b):zk (a++b)=zk a++zk b:=by simp[zk]
theorem Pf:∀b:Jp,Z (zk b)=Z b*2
 |[]=>rfl
 |o::a=>by have:=Pf a;simp only[zk,List.flatMap_cons,yr,yB,je]at *;omega
theorem RG:∀(b:Jp)(i:Nat),i<Z b->(zk b)[i*2]?=E (W (Ae b i).n)/\(zk b)[i*2+1]?=E (W (Ae b i).t)
 |[],i,h=>yV h (yz i)
 |o::a,0,_=>⟨F,F⟩
 |o::a,i+1,h=>by
  have c:=RG a i (Ju h);have e:∀j,(zk (o::a))[(i+1)*2+j]?=(zk a)[i*2+j]?:=λj=>by have:(i+1)*2+j=(i*2+j)+2:=I;rw[this];rfl
  exact⟨(e 0).trans c.1,(e 1).trans c.2⟩
def IY(c):∀u∈zk c,u.oneCell'=Vp:=by intro u b;simp only[zk,List.mem_flatMap]at b;obtain⟨o,_,a⟩:=b;simp at a;rcases a with rfl|rfl<;>rfl
theorem Rv:∀(c:Jp)(i:Nat)(s:JZ),i<Z c->(zk c).set (i*2) (W s)=zk (c.set i ⟨s,(Ae c i).t⟩)/\(zk c).set (i*2+1) (W s)=zk (c.set i ⟨(Ae c i).n,s⟩)
 |[],i,_,h=>yV h (yz i)
 |o::b,0,s,_=>⟨F,F⟩
 |o::b,i+1,s,h=>by
  obtain⟨d,f⟩:=Rv b i s (Ju h);have e:∀(j:Nat)(v:Value),(zk (o::b)).set ((i+1)*2+j) v=W o.n :: W o.t::(zk b).set (i*2+j) v:=λj v=>by have:(i+1)*2+j=(i*2+j)+2:=I;rw[this];rfl
  have a:Ae (o::b) (i+1)=Ae b i:=F;exact⟨(e 0 _).trans (by rw[Nat.add_zero,d,a];rfl),(e 1 _).trans (by rw[f,a];rfl)⟩
theorem Li{b H a}(h:J3 w b H a):∀j u,(zk a)[j]?=E u->w.cell? ((J b H).add j)=E u:=by
 intro j u i;have K:j<Z a*2:=by grind [Pf]
 rw[jO];have c:j/2<Z a:=I;obtain⟨d,e⟩:=h (j/2) c;obtain⟨f,g⟩:=RG a (j/2) c;grind
def ZE(w:JY)(B:Nat)(v)(a:Jp):=w.ownsRow B 49 2 v (Z a) (zk a)
def ZE.grown{u row}(h:ZE w B u us)(a:w.grownBy w' row)(H:∀k,u.ownBlock=E k->row≠E k):ZE w' B u us:=
 jD h a (by
  cases e:u.ownBlock with
  |none=>exact yW F
  |some k=>exact yX (λx=>H k e x.symm))
def ZE.y{u}(h:ZE w B u us)(a:Qb w w'):ZE w' B u us:=
 h.grown (row:=JL) (zH a JL) (λk _ e=>by cases e)
def ZE.lt{w B u b}(h:ZE w B u b):∀g,u.ownBlock=E g->B<=g/\g<O w.1:=λg a=>ji h g a
def ZE.ops(h:ZE w B (Ql g (Z us) c) us):J3 w g 0 us:=λi k=>by
 obtain⟨a,b⟩:=RG us i k;have e:=λj (l:j<2)=>jK h (i*2+j) I
 have d:=(e 0 I).trans a;have f:=(e 1 I).trans b;clear e;exact⟨Ju d,Ju f⟩
theorem ZE.has{v}(h:ZE w B v us)(b:1<=Z us):∃g c,v = Ql g (Z us) c:=by obtain⟨_,⟨_,a⟩|⟨g,cap,H,d,_⟩⟩:=h;all_goals grind
def ZE.arg(h:ZE w B (Ql g (Z us) c) us):Cj w (E (J g 0)) us:=
 yX ⟨g,0,F,h.ops,(h.lt g F).2⟩
theorem ZE.nil(a:B<=O w.1):ZE (w.alloc (JM #[] 49)) B (Ql (O w.1) 0 0) []:=by have:=yJ (base:=B) (e:=49) (size:=2) w #[] 0 a yn F;grind [ZE,zk]
theorem ZE.setT(h:ZE w B (Ql g (Z us) c) us)(a:i<Z us)(s):ZE (w.setCell (J g (i*2+1)) (W s)) B (Ql g (Z us) c) (us.set i ⟨(Ae us i).n,s⟩):=by have:=(World.ownsRow.stored h (i*2+1) (W s)).1;rw[(Rv us i s a).2]at this;grind [ZE]
theorem ZE.setN(h:ZE w B (Ql g (Z us) c) us)(a:i<Z us)(s):ZE (w.setCell (J g (i*2)) (W s)) B (Ql g (Z us) c) (us.set i ⟨s,(Ae us i).t⟩):=by have:=(World.ownsRow.stored h (i*2) (W s)).1;grind [Rv,ZE]
theorem Fx(w:JY)(o):∀j u,(zk [o])[j]?=E u->(w.alloc (JM #[W o.n,W o.t] 49)).cell? ((J (O w.1) 0).add j)=E u:=by intro j u a;rw[jO];have:=yF (w:=w.alloc (JM #[W o.n,W o.t] 49)) (b:=O w.1) (jL w _) 0 2;exact this j u (by grind [zk])
def FM:(prog.info? 49).map (λi=>(i.zero,i.size,i.bytes))=E (E (.agg #[W ⟨#[]⟩,W ⟨#[]⟩]),2,32):=Jk
theorem SQ{a m}:Ae (a++[m]) i=if i<Z a then Ae a i else if i=Z a then m else zF.zero:=by grind [Ae]
theorem wJ{a m j}(b:i<Z a):Ae (a.set i m) j=if j=i then m else Ae a j:=by grind [Ae]
theorem qR{d k a}(l)(p:ZE w B (Ql d (Z us) k) us)(i c)(h:∀j u,(zk a)[j]?=E u->w.cell? (i.add j)=E u)(A:Z us+Z a<=1000)(o:B<=O w.1):∃g cap w' f,(Builtin.append_ #[23,23] l #[Ql d (Z us) k,.slice (E i) (Z a) c]).run Vb w=.ok (Ql g (List.length f) cap) w' /\
   f=us++a/\ZE w' B (Ql g (List.length f) cap) f/\w.grownBy w' (E d)/\(g=d\/g=O w.1)/\g<O w'.1:=by
 obtain⟨s,q,x,Q,K⟩:=info_parts FM;obtain⟨t,w',v,m,n,z,b⟩:=run_append_own_at (P:=Vb) w B 23 l 49 s _ 2 32 underlying23 q x Q K F Jd _ (Z us) (zk us) p i (Z a) c (zk a) (Pf a) h (IY _) Jm I o;have C:t ≠ Jl:=λe=>by grind
 obtain⟨_,⟨e,_⟩|⟨g,cap,X,rfl,_⟩⟩:=id m
 .grind
 have y:Z us+Z a=Z (us++a):=Js;have H:ZE w' B (Ql g (Z (us++a)) cap) (us++a):=by grind [ZE,Me]
 refine⟨g,cap,w',us++a,by grind,F,H,n,?_,(H.lt g F).2⟩;rcases b with b|b
 .exact yW (by simpa[Value.ownBlock] using b)
 .exact yX (by simpa[Value.ownBlock] using b)
def ES{e}{o:Oper}{a:Act}{K:Act->World->Prop}{Q:Exit->Act->World->Prop}{b:Prop}{f k:Nat}{vs:Jp}(q:o.guard=JL)(s x:Operand)(A:o.op=.call { callee:=.builtin .append,args:=#[s,x],argTypes:=#[23,23] })(C:ZE w B (Ql f (Z us) k) us)(i:Addr)(c:Nat)(H:∀j u,(zk vs)[j]?=E u->w.cell? (i.add j)=E u)(z:Z us+Z vs<=1000)(y:B<=O w.1)(L:a.eval s = Ql f (Z us) k)(hx:a.eval x=.slice (E i) (Z vs) c)(h:∀g cap w' (d:Jp),d=us++vs->ZE w' B (Ql g (Z d) cap) d->w.grownBy w' (E f)->(g=f\/g=O w.1)->g<O w'.1->K (a.put o.dst (Ql g (Z d) cap)) w'):if Region.wanted o (yielded e a.tmps)=Vp then Oper.wp Vb o a w K Q else b:=by
 have M:Region.wanted o (yielded e a.tmps)=Vp:=by simp[Region.wanted,q]
 rw[yU M];obtain⟨g,cap,w',d,l,m,n,p,t,v⟩:=qR (w:=w) o.type C i c H z y;unfold Oper.wp execOp;simp only[A,resolve,invoke,builtin,Sem.run_bind,Sem.run_pure,Result.andThen_ok,List.map_toArray,jC,List.map_nil,L,hx,l];exact h g cap w' d m n p t v
def La:List ByteArray:=[⟨#[43]⟩,⟨#[45]⟩,⟨#[43,43]⟩,⟨#[42]⟩,⟨#[33]⟩,⟨#[61,61]⟩,⟨#[43,43,43]⟩,⟨#[33,61]⟩,⟨#[45,45]⟩,⟨#[94]⟩,⟨#[61,62]⟩,⟨#[63,58]⟩]
def Fs(k:Nat):ByteArray:=La.getD (k%12) ⟨#[]⟩
def FN{k j}(h:k%12=j):Fs k=La.getD j ⟨#[]⟩:=by rw[Fs,h]
def PG(k):(Fs k).size<=3:=by have h:k%12<12:=Nat.mod_lt _ Jd;have:∀j:Fin 12,(La.getD j.val ⟨#[]⟩).size<=3:=Jd;exact this ⟨k%12,h⟩
def Rw(k:Nat)(w)(a:k<1000000):Calls Vb 22 #[G k] w λe w'=>e=i9 (W (Fs k))/\w'=w:=by
 go_enter func22,ntmps22;go_wp2;all_goals
  go_ret
  refine⟨SF ?_,F⟩
  go_light
  simp only[beq_iff_eq,jc,ne_eq]at *
  first
   |exact Eq.trans (by rfl) (FN (j:=0) I).symm
   |exact Eq.trans (by rfl) (FN (j:=1) I).symm
   |exact Eq.trans (by rfl) (FN (j:=2) I).symm
   |exact Eq.trans (by rfl) (FN (j:=3) I).symm
   |exact Eq.trans (by rfl) (FN (j:=4) I).symm
   |exact Eq.trans (by rfl) (FN (j:=5) I).symm
   |exact Eq.trans (by rfl) (FN (j:=6) I).symm
   |exact Eq.trans (by rfl) (FN (j:=7) I).symm
   |exact Eq.trans (by rfl) (FN (j:=8) I).symm
   |exact Eq.trans (by rfl) (FN (j:=9) I).symm
   |exact Eq.trans (by rfl) (FN (j:=10) I).symm
   |exact Eq.trans (by rfl) (FN (j:=11) I).symm
def Cu(k:Nat):Int:=if k%8<2 then 1 else if k%8=2 then 3 else 2
def Cf(k:Nat):Int:=if k%8<2 then 0 else if k%8=2 then 0 else 1+((k/8%3:Nat):Int)
def JN(k v:Nat)(a:Bool):Int:=
 if 250<=k then 997+AE (Cu k) (Cf k) else if a=Vp then 3*((v/12%4:Nat):Int)+AE (Cu k) (Cf k) else 1+((v/12%6:Nat):Int)
def Ed(k v:Nat)(a:Bool):Ad:=⟨Fs v,Cu k,JN k v a,Cf k⟩
def Az.set(h:Az w rp a cap bs p)(b o v)(c:rp<b):Az (w.setCell (J b o) v) rp a cap bs p:=
 h.kept (λi d=>jh _ _ _ _ Jq)
def zE.setNew{a b}(h:zE w a g)(o v)(e:O w.1<=b):zE w (a.setCell (J b o) v) g:=
 ⟨h.os,h.tape,h.output,by simpa[World.setCell] using h.size,λi d c=>(jh _ _ _ _ Jq).trans (h.block i d c)⟩
def zE.belowN{a b}(h:zE w a g)(c:Qb a b):zE w b g:=h.trans (zE.Q c)
def mN{k v t}(b:k<256)(c:v<256):JN k v t=if(250:Int)<=k then wrap64 (997+AE (Cu k) (Cf k)) else if t=Vp then wrap64 (3*((v:Int)/12%4)+AE (Cu k) (Cf k)) else 1+(v:Int)/12%6:=by
 have e:0<=AE (Cu k) (Cf k)/\AE (Cu k) (Cf k)<=3:=by unfold AE Cu Cf;constructor<;>repeat' split<;>omega
 unfold JN;generalize AE (Cu k) (Cf k)=s at e ⊢;have h:(250:Int)<=k↔250<=k:=I;simp only[h];have a:(v:Int)/12=((v/12:Nat):Int):=I;rw[a];have H:v/12<22:=I;generalize v/12=m at H ⊢;cases t<;>split<;>simp only[wrap64,Bool.false_eq_true,if_true,if_false]<;>omega
def TY(n m p f a i w)(h:A0 w n a m i p)(N:Z i<=1200):Calls Vb 50 #[Qp n,.bool f] w λe w'=>(∃o:Ad,e=i9 (.agg #[W o.s,G o.k,G o.l,G o.sd])/\Hid (o=Ed (Af i p) (Af i (Ac i p)) f))/\Hid (A0 w' n a m i (Ac i (Ac i p)))/\Hid (zE w w' n):=by
 have K:=h.lt;go_enter func50,ntmps50;go_wp2_with fail;go_call GJ n m p a i _ (h.y zC) N as e w1 ⟨⟨k,rfl,hk,V⟩,L,u⟩;go_wp2_with fail;go_call GJ n m _ a i _ L N as e l ⟨⟨v,rfl,hv,HV⟩,M,z⟩;have s:=S (u.trans z);clear h L u z;have zw:O w.1<O l.1:=Jz s.size
 have y:=M.lt;have T:l.cell? (J (O w.1) 0)=E (W ⟨#[]⟩)/\l.cell? (J (O w.1) 1)=E (G 0)/\l.cell? (J (O w.1) 2)=E (G 0)/\l.cell? (J (O w.1) 3)=E (G 0):=by
  have e:=λo=>s.cell (b:=O w.1) Js (Jy K) o
  refine⟨(e _).trans ?_,(e _).trans ?_,(e _).trans ?_,(e _).trans ?_⟩<;>simp[go_sem]
 obtain⟨T,r1,r2,r3⟩:=T;have f0:∀o,l.frozen? (J (O w.1) o)=Vt:=λo=>(s.frozen (b:=O w.1) Js (Jy K) o).trans Jg
 have x:Hid (zE w l n):=(zE.Q zC).trans s;clear s;obtain⟨t,R⟩:=Jx f;have B:=mN (t:=t) hk hv;rcases(I:k%8<2\/k%8=2\/2<k%8) with H|H|H;focus
  have A:Cu k=1:=by simp[Cu];omega
  have C:Cf k=0:=by simp[Cf];omega
  have q:(k:Int)%8<2:=I
 rotate_left
 all_goals first
  |have A:Cu k=1:=A
  |have q:¬ (k:Int)%8<2:=I
 focus
  have A:Cu k=3:=by simp[Cu];omega
  have C:Cf k=0:=by simp[Cf];omega
  have Q:((k:Int)%8==2)=Vp:=Jq
 rotate_left
 focus
  have A:Cu k=2:=by simp[Cu];omega
  have C:Cf k=1+(k:Int)/8%3:=by simp[Cf];omega
  have Q:((k:Int)%8==2)=Vt:=Jq
 all_goals
  rw[A,C]at B
  clear H
  cases f
 all_goals go_wp2_with (first|(go_at_call 22;refine(Rw _ _ I).mono ?_;rintro e U ⟨rfl,hx⟩;obtain rfl:=hx.symm)|(go_at_call 24;refine(O7 _ _ _ _ _).mono ?_;rintro e U ⟨rfl,g⟩;have d:=λo=>g.cell (p:=Addr.mk (O w.1) o JL) Jq;have j:=λo=>g.cell (p:=Addr.mk (O l.1) o JL) (by first|(simp;done)|(simp;omega));have X:=λo=>g.frozen (p:=Addr.mk (O w.1) o JL) Jq;have c:=λo=>g.frozen (p:=Addr.mk (O l.1) o JL) (by first|(simp;done)|(simp;omega));have P:O l.1+1<=O U.1:=(Jz g.size)))
 all_goals
  refine yQ (v:=.agg #[W (Ed k v t).s,G (Ed k v t).k,G (Ed k v t).l,G (Ed k v t).sd]) ?res F ⟨⟨Ed k v t,F,S ?_⟩,S ?_,S ?_⟩
  case res=>
   rw[R]at B;first|rw[yU I]at B|rw[yS I]at B
   simp[results,results50,go_sem,Ed, *]
  .rw[<-D HV,<-D V,R]
  .repeat(first|exact D M|refine A0.set ?_ _ _ _ I|refine A0.y ?_ zC|refine A0.y ?_ Ja)
  .repeat(first|exact D x|refine zE.setNew ?_ _ _ I|refine zE.belowN ?_ zC|refine zE.belowN ?_ Ja)
def Un(f d p b a c w)(h:Az w f a d c p)(k:Z c<=1200):Calls Vb 50 #[Qp f,.bool b] w λe w'=>(∃o:Ad,e=i9 (.agg #[W o.s,G o.k,G o.l,G o.sd])/\Hid (o=Ed (Af c p) (Af c (Ac c p)) b))/\Hid (Az w' f a d c (Ac c (Ac c p)))/\Hid (zE w w' f):=by go_call TY f d p b a c w h.free k as e w' ⟨g,i,j⟩;exact⟨g,S (i.strict (MN (MN h.le))),j⟩
open Go.ChangeShapes Go.WideShapes Go.ChangeAt Go.Joins
def ByP.own:ownKnob prog.godebug=none:=Jk
def ByP.laidOut:laidOutB Vb=Vp:=Jk
def ByP.cellsB:prog.cellsOf 5=1:=Jk
def mO{a:JY}{x v}(h:a.cell? (x.add 0)=E v):x=(J x.block x.off):=by
 obtain⟨b,H,c⟩:=x;have d:c=none:=by have:=World.cell?_spot h;simpa[Addr.add] using this
 subst d;rfl
def eP(b:JG)(a i)(d:i<a)(e:a<=Z b):((b.take a).map λn=>UInt8.ofNat n.toNat).getD i 0=UInt8.ofNat (b.getD i 0).toNat:=by have c:i<Z b:=I;simp[List.getD,d,c]
def UG{H}{g:TypeId×Value->H}{b Q f k x}(h:DataW.trod g Vb b 0 (λ_=>Vp) Q f 22 k=E x):∃(a:Option Addr)(cap:Nat)(l:Jw),k=[.slice a (Z l) cap]/\Z l<=maxLen/\Z l<=cap/\GZ b a l:=by
 rcases open_ints underlying22 underlying5 ByP.cellsB h with⟨rfl,_⟩|⟨a,c,cap,d,rfl,_,u,v,j,_,K,X⟩
 .exact⟨JL,0,[],F,yn,yn,yW F⟩
 simp only[if_true]at j;have q:Z ((d.take c).map λn=>UInt8.ofNat n.toNat)=c:=Jq;refine⟨E a,cap,(d.take c).map λn=>UInt8.ofNat n.toNat,by rw[q],by rw[q];omega,by rw[q];exact u,?_⟩;by_cases s:c=0
 .exact yW (by rw[q];exact s)
 .have c0:=K 0 I;have p:=mO c0;refine yX ⟨a.block,a.off,by rw[<-p],?_,λi o=>?_⟩
  .have:=jl c0;simpa[Addr.add] using this
  .rw[q]at o;have m:=K i I;rw[p,jO]at m;have t:=range_u8 X i;have e:d.getD i 0=d[i]?.getD 0:=F;rw[m,eP d c i o I,e];obtain⟨z,j⟩:∃z:Int,z=d[i]?.getD 0:=⟨_,F⟩;rw[<-j]at t ⊢;congr 2;have:(UInt8.ofNat z.toNat).toNat=z.toNat:=by rw[UInt8.toNat_ofNat'];omega
   rw[this];omega
