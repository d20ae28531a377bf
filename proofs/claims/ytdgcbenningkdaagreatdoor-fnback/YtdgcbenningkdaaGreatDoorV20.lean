import Derived.Shelf.Strings.OnBuilder
import Derived.Test.YtdgcbenningkdaaGreatDoorV11
import Derived.Test.YtdgcbenningkdaaGreatDoorV16
import Derived.Test.YtdgcbenningkdaaGreatDoorV17
import Derived.Test.YtdgcbenningkdaaGreatDoorV19
namespace Go.Proofs.YtdgcbenningkdaaGreatDoor
set_option linter.all false
set_option maxHeartbeats 0
set_option maxRecDepth 100000
open Proofs.Tryz RowKit Shelf
variable{B g n:Nat}{T:Nat -> List Ad}{U U':List GC}{b o:Ad}{c:Int}{cs ps:List ByteArray}{ms ms':List zF}{ns xs:List Ad}{out ts:List (List zD)}{q:ZB}{s:ByteArray}{us:List zD}{v:Value}{w w':World}
open _root_.Array renaming size→O
open List renaming length→Z
open Option renaming some→E,none→JL
open Obj renaming cells→JM
open Bool renaming false→Vt,true→Vp
open Proofs.Tryz renaming prog→Vb
open Value renaming agg→b9,tuple→i5,slice→i6,bool→i7
open Ending renaming returned→i9
open _root_.ByteArray renaming empty→j6
def UU:Go.Shelf.Ren:=⟨fun|156=>129|165=>180|166=>181|169=>182|240=>218|241=>219|276=>239|277=>240|n=>n,fun|31=>63|9=>9|3=>3|4=>4|0=>0|20=>20|72=>239|76=>235|70=>237|37=>22|75=>234|127=>284|164=>309|5=>5|80=>241|n=>n,fun|n=>n⟩
def xF:Go.Proofs.Lays.n156 Vb UU:=by constructor<;>first|kernel_rfl|(intro w;kernel_rfl)
def cY:Builder.Extra Vb UU:={
 sizeBuilder:=Jk
 liesBuilder:=Jk
 t5:=underlying5
 a5:=Tryz.isAgg5
 z5:=Tryz.sizeOf5
 v5:=Tryz.zeroValue5
 infoByte:=Jk
 cellsByte:=Jk
 sizeByte:=Jk
 neB5:=by decide }
def Xo(d o c b a w)(h:∀(j:Nat) x,b[j]?=E x->w.cell? (J d (o+j))=E (W x))(q:d<O w.1)(f:Z b<=140737488355328)(K:Z b<=c)(H:Z (Lib.join (b.map (·.data.toList)) a.data.toList)<=140737488355328):Calls Vb 129 #[Je d o (Z b) c,W a] w λe w'=>e=i9 (W ⟨(Lib.join (b.map (·.data.toList)) a.data.toList).toArray⟩)/\Qb w w':=Any.strings_Join xF cY d o c b a w h q f K H
def L5(s:JZ)(o b:Ad):List (Nat×Nat)->List ByteArray->Prop
 |[],Ls=>Ls=[]
 |p::a,Ls=>∃L R,((Bb (AA (s.extract p.1 p.2)) o/\L=ZR (dW b))\/(¬ Bb (AA (s.extract p.1 p.2)) o/\L=s.extract p.1 p.2))/\L5 s o b a R/\Ls=L::R
theorem L5.snoc{s o b}{p:Nat×Nat}{L}(h:(Bb (AA (s.extract p.1 p.2)) o/\L=ZR (dW b))\/(¬ Bb (AA (s.extract p.1 p.2)) o/\L=s.extract p.1 p.2)):∀{ps:List (Nat×Nat)}{Ls:Jv},L5 s o b ps Ls->L5 s o b (ps++[p]) (Ls++[L])
 |[],_,e=>by cases e;exact⟨L,[],h,F,F⟩
 |_::_,_,⟨M,R,h1,h2,e⟩=>by cases e;exact⟨M,R++[L],h1,h2.snoc h,F⟩
theorem bM{s o b a}:∀{i:Nat}{t:JZ},i<=Z a->DW s o b a i t->∃c,L5 s o b (a.take i) c/\t=DB c j6
 |0,_,_,h=>⟨[],F,h⟩
 |i+1,t,hi,⟨t0,h0,h⟩=>by
  obtain⟨c,f,rfl⟩:=bM I h0;have e:a.take (i+1)=a.take i++[a.getD i (0,0)]:=by rw[jP I];simp[yq,(I:i<Z a)]
  have d:(⟨#[10]⟩:JZ)=one 10:=F;rw[e];rcases h with⟨h,rfl⟩|⟨h,rfl⟩
  .refine⟨c++[_],f.snoc (yW ⟨h,F⟩),?_⟩;rw[P5,d];simp only[DB,aW,Z1]
  .refine⟨c++[_],f.snoc (yX ⟨h,F⟩),?_⟩;rw[P5,d];simp only[DB,aW,Z1]
theorem bN(s):∀(b:List (Nat×Nat))(n:Nat),BQ s b n<=n+Z b
 |[],n=>yn
 |p::a,n=>by
  simp only[BQ,yB];split
  .omega
  .have:=bN s a (n+1);omega
theorem A2.bg{s}:∀(ls:List (Nat×Nat))(n:Nat)(us:Jv)(os:Jf){u:Jv}{o:Jf}{b:JZ}{l:Int},A2 s ls n us os u o b 0 l->∀m,BQ s ls (m+1)=BQ s ls m+1
 |[],_,_,_,_,_,_,_,h,_=>by obtain⟨_,_,_,h,_⟩:=h;cases h
 |p::a,n,us,os,_,_,_,_,h,m=>by
  rcases h with⟨e,_⟩|⟨e,⟨d,c,_,h⟩|⟨_,_,_,_,h,_⟩⟩
  .simp only[BQ];rw[yU e,yU e]
  .simp only[BQ];rw[yS e,yS e];exact A2.bg a _ _ _ h (m+1)
  .cases h
def SB(o b x a):Ar o b (a++[x])=Ar o b a++[if ZH x o=Vp then b else x]:=by simp[Ar]
theorem Xp{s o b}(d)(j:Cz b):∀(ls:List (Nat×Nat))(m n:Nat)(us:Jv)(os:Jf)(a:JZ){u:Jv}{oo:Jf}{b0:JZ}{l:Int}{Ls:Jv},(∀p∈ls,Fh 10 (s.extract p.1 p.2))->A2 s ls n us os u oo b0 0 l->L5 s o b (ls.take (BQ s ls 0)) Ls->A2 (a++DB Ls d) (AD 10 (a++DB Ls d) a.size) m us (Ar o b os) u (Ar o b oo) d 0 0
 |[],_,_,_,_,_,_,_,_,_,_,_,h,_=>by obtain⟨_,_,_,h,_⟩:=h;cases h
 |p::c,m,n,us,os,a,u,oo,b0,l,Ls,hno,h,hL=>by
  have t:=hno p Js;rcases h with⟨e,rfl,rfl,_⟩|⟨e,⟨K,g,q,h⟩|⟨_,_,_,_,h,_⟩⟩
  .simp only[BQ,yU e,List.take_succ_cons,List.take_zero]at hL;obtain⟨L,R,hL,i,rfl⟩:=hL;cases i
   rcases hL with⟨f,_⟩|⟨_,rfl⟩
   .rw[e]at f;have:=f.len;simp at this
   simp only[DB];generalize s.extract p.1 p.2=L at *;have B:(a++(L++(one 10++d))).size=a.size+(L.size+(1+d.size)):=by rw[zQ,zQ,zQ,ZY]
   rw[EC _ _ _ (by omega)];simp only[A2];rw[Tm a L d t,MI];refine yW ⟨e,(by trivial),(by trivial),?_,(by trivial),(by trivial)⟩;unfold CE;rw[yU I];have:=S1 (a++L++one 10) d;rw[zQ _ (one 10),zQ a,ZY]at this;have e:a++L++one 10++d=a++(L++(one 10++d)):=by rw[Z1,Z1]
   rw[e]at this;exact this.symm
  .simp only[BQ,yS e]at hL;rw[A2.bg c _ _ _ h,List.take_succ_cons]at hL;obtain⟨L,R,hL,i,rfl⟩:=hL;have k:Fh 10 L/\AA L≠[Cd]/\Dk (AA L) us (Ar o b os) K (Ar o b g):=by
    rcases hL with⟨f,rfl⟩|⟨f,rfl⟩
    .have hd:=zbq j;have v:=pH hd.2.1 hd.2.2;refine⟨Xz _ hd.2.2,by rw[v];exact hd.1,?_⟩;rw[v];have H:=f.len;rcases q with⟨e,_⟩|⟨x,e,_⟩|⟨x,hx,rfl,rfl⟩
     .rw[e]at H;simp at H
     .rw[e]at H;simp at H
     .obtain rfl:=hx.one f;refine yX (yX ⟨b,zar j,F,?_⟩);rw[SB,yU (zZ.2 rfl)]
    .refine⟨t,e,?_⟩;rcases q with⟨e,rfl,rfl⟩|⟨x,e,rfl,rfl⟩|⟨x,hx,rfl,rfl⟩
     .exact yW ⟨e,F,F⟩
     .exact yX (yW ⟨x,e,F,F⟩)
     .refine yX (yX ⟨x,hx,F,?_⟩);rw[SB,yS (λh=>f (by rw[<-zZ.1 h];exact hx))]
   obtain⟨C,M,N⟩:=k;have w:=Xp d j c (m+1) (n+1) K g (a++L++one 10) (λp A=>hno p (by simp[A])) h i;simp only[DB];generalize DB R d=Q at *;have B:(a++(L++(one 10++Q))).size=a.size+(L.size+(1+Q.size)):=by rw[zQ,zQ,zQ,ZY]
   have y:a++L++one 10++Q=a++(L++(one 10++Q)):=by rw[Z1,Z1]
   have z:(a++L++one 10).size=a.size+L.size+1:=by rw[zQ,zQ,ZY]
   rw[y,z]at w;rw[EC _ _ _ (by omega),Tm a L Q C,yU (by omega)];simp only[A2];rw[MI];exact yX ⟨M,yW ⟨K,_,N,w⟩⟩
  .cases h
theorem qF{h body k j m l}(d:ZC s k j m 0 l)(c:IL s o b h)(q:Cz b)(g:(h++body).size<=20000):ZC (h++body) k (Ar o b j) body 0 0:=by
 rcases d with⟨_,_,_,_,h,_⟩|⟨_,d⟩
 .cases h
 obtain⟨n,f,c⟩:=c;have K:∀p∈AD 10 s 0,Fh 10 (s.extract p.1 p.2):=λp t=>by have:=N3 10 s _ 0 yn p t;grind [S3]
 generalize AD 10 s 0=i at *;have H:=bN s i 0;rw[<-f]at H;obtain⟨a,hL,rfl⟩:=bM I c;rw[f]at hL;have e:DB a j6++body=DB a body:=by have:=P5 a [] body;rw[List.append_nil]at this;exact this.symm
 rw[e]at g ⊢;refine yX ⟨g,?_⟩;have:=Xp body q i 1 1 [] [] j6 K d hL;rw[zaw]at this;exact this
def Tv(h:o ∉ xs):Ar o b xs=xs:=by
 unfold Ar;have:∀x∈xs,(if ZH x o=Vp then b else x)=x:=λx hx=>yS (λe=>h (by rw[<-zZ.1 e];exact hx))
 rw[List.map_congr_left this,List.map_id']
def Qd{x}:x∈Ar o b xs↔(x=b/\o∈xs)\/(x∈xs/\x≠o):=by
 unfold Ar;rw[List.mem_map];constructor
 .rintro⟨y,hy,rfl⟩;by_cases e:ZH y o=Vp
  .rw[yU e];exact yW ⟨F,(zZ.1 e) ▸ hy⟩
  .rw[yS e];exact yX ⟨hy,λh=>e (zZ.2 h)⟩
 .rintro(⟨rfl,h⟩|⟨h,hn⟩)
  .exact⟨o,h,yU (zZ.2 F)⟩
  .exact⟨x,h,yS (λe=>hn (zZ.1 e))⟩
theorem uP{x}{a l:Jf}(c:o∈a->b ∉ a)(d:∀y∈l,y∈a)(hx:x∈a):Ar o b (BZ l x)=BZ (Ar o b l) (if ZH x o=Vp then b else x):=by
 by_cases h:x∈l
 .rw[Ik h,Ik];rw[Qd];by_cases e:ZH x o=Vp
  .rw[yU e];exact yW ⟨F,(zZ.1 e) ▸ h⟩
  .rw[yS e];exact yX ⟨h,λk=>e (zZ.2 k)⟩
 .rw[Im h,Im,SB];rw[Qd];by_cases e:ZH x o=Vp
  .rw[yU e];obtain rfl:=zZ.1 e;grind
  .grind
theorem RF{o b}{a:Jf}(f:o∈a->b ∉ a):∀(xs l:Jf),(∀y∈l,y∈a)->(∀y∈xs,y∈a)->Ar o b (zj l xs)=zj (Ar o b l) (Ar o b xs)
 |[],_,_,_=>rfl
 |x::c,l,hl,hx=>by show Ar o b (zj (BZ l x) c)=zj (BZ (Ar o b l) _) (Ar o b c);rw[RF f c _ (λy d=>(WY.1 d).elim (hl y) (λe=>e ▸ hx x (by simp))) (λy d=>hx y (by simp[d])),uP f hl (hx x (by simp))]
theorem Wx{o b}{a:Jf}(f:o∈a->b ∉ a)(e:ByteArray->Nat)(c:Nat->Jf):∀(us:Jv)(l:Jf),(∀y∈l,y∈a)->(∀u∈us,∀y∈c (e u),y∈a)->Ar o b (Bi e c l us)=Bi e (λi=>Ar o b (c i)) (Ar o b l) us
 |[],_,_,_=>rfl
 |u::d,l,hl,hx=>by rw[Ll,Ll,Wx f e c d _ (λy h=>((Ze _ _).1 h).elim (hl y) (hx u (by simp) y)) (λv g=>hx v (by simp[g])),RF f _ _ hl (hx u (by simp))]
theorem Xq:∀(ms ms':Jp),ms.map (·.n)=ms'.map (·.n)->∀u,An ms u=An ms' u
 |[],[],_,_=>rfl
 |[],_::_,h,_=>by simp at h
 |_::_,[],h,_=>by simp at h
 |m::a,m'::r',h,u=>by simp only[jC,List.cons.injEq]at h;simp only[An];rw[h.1,Xq a r' h.2 u]
structure L6(k w:JY)(N X gS h f:Nat)(q:ZB)(b:Ad)(a:Option Addr)(e:Jp)(d:JE)(j:JF):Prop where
 bel:Below N k w
 nl:ZE w N (Ql (N+1) 0 0) []
 rq:E5 w N q
 hX:X<O w.1
 bo:A4 w X b
 am:Cj w a e
 hS:gS<O w.1
 tb:∀i,i<Z e->∃g c,w.cell? (J gS i)=E (Ql g (Z (zy d i)) c)/\g<O w.1/\Au w g 0 (zy d i)
 hT:h<O w.1
 tc:∀i,i<Z e->w.cell? (J h i)=E (i7 (Bh q.o (zy d i)))
 hR:f<O w.1
 tr:∀i,i<Z e->∃g c,w.cell? (J f i)=E (Ql g (Z (AM j i)) c)/\g<O w.1/\Z2 w g 0 (AM j i)
def L6.y{s w o N X gS l j q b a m e n}(h:L6 s w N X gS l j q b a m e n)(d:Qb w o):L6 s o N X gS l j q b a m e n:=by
 have z:=d.size;have k:=λp (x:p.block<O w.1)=>d.cell (p:=p) x
 have v:=h.hX;have u:=h.hS;have hT:=h.hT;have t:=h.hR;refine⟨h.bel.trans (d.mono (Nat.le_of_lt h.rq.h)),h.nl.y d,h.rq.y d h.rq.h,I,h.bo.below4 d v,h.am.y d,I,λi f=>?_,I,λi f=>(k (J l i) hT).trans (h.tc i f),I,λi f=>?_⟩
 .obtain⟨g,c,h1,h2,h3⟩:=h.tb i f;exact⟨g,c,(k (J gS i) u).trans h1,I,h3.y d h2⟩
 .obtain⟨g,c,h1,h2,h3⟩:=h.tr i f;exact⟨g,c,(k (J j i) t).trans h1,I,h3.y d h2⟩
theorem ZI.who{c b}(h:ZI ms c 0 b):b=0:=by rcases h with⟨_,_,h,_⟩|⟨e,⟨_,_,_,_,_,h,_⟩|⟨d,⟨_,_,_,_,_,h,_⟩|⟨_,U,_,⟨_,_,_,_,_,h,_⟩|⟨_,⟨_,_,_,_,_,h,_⟩|⟨_,a,_,⟨_,_,_,_,_,h,_⟩|⟨f,h⟩⟩⟩⟩⟩⟩;all_goals first|exact h.2.2|cases h
structure Ey(b:Jp)(q:ZB)(c:JF)(a:JE)(U:JC):Prop where
 t:∃d,Zg b c 0 d
 l:ZI b a 0 0
 u:ZG b U
 p:DU (zy a) (λi=>(Ah U i).b) (Z b) c
def Ey.of{c}(h:Zg ms ts 0 c):∃a U,Ey ms q ts a U:=by
 obtain⟨a,g,f,hL,⟨d,_,b,_⟩|⟨rfl,U,e,b⟩⟩:=id h
 .exact yV b.symm d
 .rcases b with⟨k,us,cd,t,hk,_,⟨p,hp⟩,h2,_,h3,_⟩|⟨b,_⟩
  .have:=hp.code;omega
  .obtain rfl:f=0:=hL.who;exact⟨a,U,⟨c,h⟩,hL,e,b⟩
def Ey.c2{a}(h:Ey ms q ts a U)(b:¬ BJ q):Eb ms q [] 2:=by obtain⟨d,c⟩:=h.t;exact⟨ts,0,d,c,yX ⟨F,a,U,h.l,h.u,yW ⟨b,F,F⟩⟩⟩
def Ey.c3{a}(h:Ey ms q ts a U)(b:BJ q)(c:¬ CD ms U q):Eb ms q [] 3:=by obtain⟨e,d⟩:=h.t;exact⟨ts,0,e,d,yX ⟨F,a,U,h.l,h.u,yX ⟨b,yW ⟨c,F,F⟩⟩⟩⟩
def Ey.c4{a}(h:Ey ms q ts a U)(b:BJ q/\CD ms U q)(c:FY a (Z ms) q):Eb ms q [] 4:=by obtain⟨e,d⟩:=h.t;exact⟨ts,0,e,d,yX ⟨F,a,U,h.l,h.u,yX ⟨b.1,yX ⟨b.2,yW ⟨c,F,F⟩⟩⟩⟩⟩
def Ey.c5{a}(h:Ey ms q ts a U)(b:BJ q/\CD ms U q)(c:¬ FY a (Z ms) q)(d:J7 a (Z ms) q):Eb ms q [] 5:=by obtain⟨f,e⟩:=h.t;exact⟨ts,0,f,e,yX ⟨F,a,U,h.l,h.u,yX ⟨b.1,yX ⟨b.2,yX ⟨c,yW ⟨d,F,F⟩⟩⟩⟩⟩⟩
def Ey.c6{c b g:_}{a d i}(h:Ey c q ts a U)(e:BJ q/\CD c U q)(j:¬ FY a (Z c) q)(k:¬ J7 a (Z c) q)(l:Ea q c a ts (Z c) b)(m:Zg b g d i):(d≠0->Eb c q [] 6)/\(d=0->Eb c q b 0):=by obtain⟨o,n⟩:=h.t;exact⟨λf=>⟨ts,0,o,n,yX ⟨F,a,U,h.l,h.u,yX ⟨e.1,yX ⟨e.2,yX ⟨j,yX ⟨k,b,g,d,i,l,m,yW ⟨f,F,F⟩⟩⟩⟩⟩⟩⟩,λf=>⟨ts,0,o,n,yX ⟨F,a,U,h.l,h.u,yX ⟨e.1,yX ⟨e.2,yX ⟨j,yX ⟨k,b,g,d,i,l,m,yX ⟨f,F,F⟩⟩⟩⟩⟩⟩⟩⟩
def FH.size{b c s v}(h:FH b c s v):s.size<=1000000000:=by
 rcases h with⟨h,_,rfl⟩|⟨_,_,rfl⟩
 .obtain⟨a,hG,_,H,hz,_⟩:=Ph h;have:=Yy H 20000 hz;rw[<-hG];show(Ia a).toArray.size<=_;simp;omega
 .exact yn
def bO(q):(ZU q).k=q.o.k:=by unfold ZU;split<;>rfl
def bP(a:q.o.s.size<=1048576)(b:q.t.size<=1048576):(ZU q).s.size<=1048576:=by unfold ZU;split<;>assumption
def Pw(h:ZO xs)(c:b.s.size<=1048576):ZO (Ar o b xs):=λi a=>by
 rw[EY]at a;rw[Qo a];split
 .unfold maxLen;omega
 .exact h i a
def Wz{c}(h:C5 c)(d:b.s.size<=1048576):C5 (AV o b c):=λi a=>by
 rw[EZ]at a;rw[Op a];split
 .show b.s.size<=_;unfold maxLen;omega
 .exact h i a
def MR(h:o.ok=Vp):Cz o/\o.s.size<=16/\1<=o.k/\o.k<=3:=by
 unfold Ad.ok at h;obtain⟨k,l⟩:=Ii _ _ _ _ h;simp only[Bv,DR,jB,jM]at h;obtain⟨⟨⟨⟨⟨b,d⟩,f⟩,_⟩,_⟩,_⟩:=h;have a:∀c:UInt8,Bw c=Vt->Fh c o.s:=λc g i j e=>by have:Bw (bt o.s i)=Vp:=List.all_eq_true.1 b _ (yE (PQ j));rw[e,g]at this;cases this
 exact⟨⟨⟨d,a 32 Jd,a 10 Jd⟩,⟨o.l.toNat,I,I⟩,I⟩,f,I,I⟩
def bQ{j:Nat->ByteArray}(h:Fd w B v ts)(f:DU T j n ts)(x:1<=n):∃a k,v = Ql a n k/\a<O w.1/\∀i,i<n->∃g c,w.cell? (J a i)=E (Ql g (Z (AM ts i)) c)/\g<O w.1/\Z2 w g 0 (AM ts i):=by
 have o:=f.1;obtain⟨_,t|⟨g,c,y,s,_,q,h⟩⟩:=h
 .omega
 .refine⟨g,c,by rw[q,o],h.hg,λi m=>?_⟩;obtain⟨p,H⟩:=f.2 i m;have u:=(Lm H).1;have e:=h.ce i I;rcases h.ro i I with⟨b,_⟩|⟨l,b,_,d⟩
  .omega
  .rw[b]at e;exact⟨l,s i,e,d.1,d.ops⟩
def xG{a}(h:GS w B v a)(m:Z a=n)(q:1<=n):∃gS d,v = Ql gS n d/\gS<O w.1/\∀i,i<n->∃g c,w.cell? (J gS i)=E (Ql g (Z (zy a i)) c)/\g<O w.1/\Au w g 0 (zy a i):=by
 obtain⟨g,c,rfl,o|⟨_,l,h⟩⟩:=h
 .omega
 .refine⟨g,c,by rw[m],l,λi p=>?_⟩;obtain⟨t,f,⟨e,b,rfl,j,k⟩,_⟩:=h i I;exact⟨e,b,f,j,k⟩
def zbX{a}(h:GW w B v (L3 o a n))(l:1<=n):∃c d,v = Ql c n d/\c<O w.1/\∀i,i<n->w.cell? (J c i)=E (i7 (Bh o (zy a i))):=by
 have j:Z (L3 o a n)=n:=by simp[L3]
 have e:=h;obtain⟨_,⟨_,k⟩|⟨g,b,H,rfl,_⟩⟩:=e
 .omega
 .refine⟨g,b,by rw[j],(ji h g F).2,λi f=>?_⟩;have:=jK h i I;rw[this];simp[E0,L3,f]
def qG{u}(h:AQ w B u xs)(i:1<=Z xs):∃g c,u = Ql g (Z xs) c/\g<O w.1/\Au w g 0 xs:=by
 obtain⟨a,c,e,⟨f,_⟩|⟨g,rfl,b,d⟩⟩:=h.ops
 .omega
 .exact⟨g,c,e,b,d⟩
def qH{u b}(h:w.ownsRow B 108 4 u n (zO b))(e:Z b=n)(i:1<=n):∃g c,u = Ql g n c/\g<O w.1/\Z2 w g 0 b:=by
 subst e;have d:=h;obtain⟨_,⟨_,f⟩|⟨g,a,H,rfl,_⟩⟩:=d
 .omega
 .exact⟨g,a,F,(Ib h).2.1,(Ib h).2.ops⟩
def ZE.base{b d}(h:ZE w B v d)(k:b<=B):ZE w b v d:=by
 obtain⟨c,f|⟨g,a,H,e,i,j⟩⟩:=h
 .exact⟨c,yW f⟩
 .exact⟨c,yX ⟨g,a,H,e,yy k i,j⟩⟩
def IL.of{t:JZ}(h:GA s o b t):IL s o b t:=by unfold GA at h;exact⟨_,F,h⟩
def Xr{u o b l}(h:ZC s u o b 0 l):s.size<=20000:=by
 rcases h with⟨_,_,_,_,h,_⟩|⟨h,_⟩
 .cases h
 .exact h
def ZI.parts{b c}(h:ZI ms b 0 c):∃U a,ZG ms U/\Fj ms U a/\(∀i,i<Z ms->¬ B3 ms i)/\(∀i,i<Z ms->¬ B4 ms U i)/\(∀i,i<Z ms->¬ TC (B9 ms U) i i)/\(∀i,i<Z ms->¬ B6 a i)/\b=(List.range (Z ms)).map a:=by
 rcases h with⟨_,_,h,_⟩|⟨n,⟨_,_,_,_,_,h,_⟩|⟨m,h⟩⟩
 .cases h
 .cases h
 rcases h with⟨_,_,_,_,_,h,_⟩|⟨d,U,l,h⟩
 .cases h
 rcases h with⟨_,_,_,_,_,h,_⟩|⟨f,h⟩
 .cases h
 rcases h with⟨_,_,_,_,_,h,_⟩|⟨g,a,k,h⟩
 .cases h
 rcases h with⟨_,_,_,_,_,h,_⟩|⟨j,e,_⟩
 .cases h
 exact⟨U,a,l,k,d,f,g,j,e⟩
def ZI.own{b c U}(h:ZI ms b 0 c)(f:ZG ms U){i}(d:i<Z ms):∀x∈(Ah U i).os,x∈zy b i:=by obtain⟨V,a,g,e,_,_,_,_,rfl⟩:=h.parts;obtain rfl:=f.eq g;intro x hx;rw[Z0 d,e i d,Lo];exact yW ((Ze _ _).2 (yX hx))
def iL{c f n j}(h:ZI ms c 0 n)(z:ZI ms' f 0 j)(B:ZG ms U)(X:ZG ms' U')(w:ms.map (·.n)=ms'.map (·.n))(L:∀i,i<Z ms->o∈zy c i->b ∉ zy c i)(v:∀i,i<Z ms->(Ah U' i).us=(Ah U i).us/\(Ah U' i).os=Ar o b (Ah U i).os):∀i,i<Z ms->zy f i=Ar o b (zy c i):=by
 obtain⟨V,a,C,t,_,_,_,_,rfl⟩:=h.parts;obtain rfl:=B.eq C;obtain⟨R,P,Q,x,q,H,K,_,rfl⟩:=z.parts;obtain rfl:=X.eq Q;have M:Z ms'=Z ms:=Ju (yY List.length w.symm)
 obtain⟨m,N,_⟩:=Ow q H K;have A:Fj ms' U' (λi=>Ar o b (a i)):=λi d=>by
  rw[M]at d;have s:o∈a i->b ∉ a i:=by have:=L i d;rwa[Z0 d]at this
  have e:An ms'=An ms:=funext (λu=>(Xq ms ms' w u).symm);have l:∀y,(y∈zj [] (Ah U i).os\/∃u∈(Ah U i).us,y∈a (An ms u))->y∈a i:=λy g=>by rw[t i d];exact(Lo _ _ _ _).2 g
  rw[e,(v i d).1,(v i d).2];show Ar o b (a i)=_;have p:=yY (Ar o b) (t i d);rw[Wx s (An ms) a _ _ (λy g=>l y (yW g)) (λu k y g=>l y (yX ⟨u,k,g⟩)),RF s _ _ (λy g=>by simp at g) (λy g=>l y (yW ((Ze _ _).2 (yX g))))]at p;exact p
 intro i d;rw[Z0 d,Z0 I];exact x.one A (rk:=m) (λi d u k=>⟨(NX d (H i d) k).1,N i d u k⟩) (m i+1) i I I
def ZC.bound{c a b l}(h:ZC s c a b 0 l):s.size<=20000:=by
 rcases h with⟨_,_,_,_,h,_⟩|⟨h,_⟩
 .cases h
 .exact h
def Ea.names{a}(h:Ea q ms a ts (Z ms) ms'):ms.map (·.n)=ms'.map (·.n):=by
 refine List.ext_getElem (by simp[h.1]) λi b c=>?_
 simp at b c;have:=(h.2 i b).1;simp[Ae,yq,b,c]at this;simp[this]
def qI{a k}(hL:ZI ms a 0 k)(m:ZG ms U)(Q:ZG ms' U')(l:Ea q ms a ts (Z ms) ms')(K:(ZU q).ok=Vp){i}(d:i<Z ms):((Ah U' i).us=(Ah U i).us/\(Ah U' i).os=Ar q.o (ZU q) (Ah U i).os)/\((q.o∈zy a i/\∃v,FH (Ar q.o (ZU q) (zy a i)) (AV q.o (ZU q) (AM ts i)) (Ah U' i).b v)\/(q.o ∉ zy a i/\(Ae ms' i).t=(Ae ms i).t/\(Ah U' i).b=(Ah U i).b)):=by
 have n:=m.2 i d;have H:=Q.2 i (by rw[l.1];exact d);obtain⟨_,⟨e,s,b,v,o,p,c⟩|⟨e,c⟩⟩:=l.2 i d
 .rw[c]at H;obtain⟨f,g,j,_⟩:=H.one (qF (body:=b) n o (MR K).1 H.bound);rw[j];exact⟨⟨f,g⟩,yW ⟨e,v,p⟩⟩
 .rw[c]at H;obtain⟨f,g,j,_⟩:=H.one n;rw[Tv (λh=>e (hL.own m d _ h))];exact⟨⟨f,g⟩,yX ⟨e,c,j⟩⟩
open Go.Maps
def xH(b a x):=
 (∃v:Value,x=i9 (i5 #[v,i7 Vt])/\Hid (¬ ((zM b 0/\Zk a/\DM b a)/\(gS b a (Z a-1) 0 0).length<=20000))/\(v=.nilIface\/∃T u,v=.iface T u)) \/
 (x=i9 (i5 #[fS b a (Z a-1) 0,i7 Vp])/\Hid ((zM b 0/\Zk a/\DM b a)/\(gS b a (Z a-1) 0 0).length<=20000))
def iM(b d cap bn H cn ns xs w)(hm:Z ns<=1048576)(R:Z xs<=1048576)(hw:Au w b d ns)(L:ZO ns)(hB:b<O w.1)(m:Z2 w bn H xs)(l:C5 xs)(P:bn<O w.1):Calls Vb 183 #[b9 #[Je b d (Z ns) cap],b9 #[Je bn H (Z xs) cn]] w λx w'=>xH ns xs x/\Qb w w':=by
 go_enter func183,ntmps183;go_wp2_with fail;go_call QW b d cap ns _ hm (hw.y ((zC).alloc Js _) hB) L Jq as e w1 ⟨⟨x,y,c,rfl,hc,hix⟩,hb1⟩;have HC:=S hc;have i:=S hix;have Q:Qb w w1:=((zC).alloc Js _).trans (hb1.mono Jq);have c1:w1.cell? (J (O w.1+1) 0)=E (Je bn H (Z xs) cn):=(hb1.cell (p:=(J (O w.1+1) 0)) Js).trans Jg;have z1:O w.1+2<=O w1.1:=Jz hb1.size
 clear hc hix hb1;by_cases U:c=0;case neg=>
  have he:(c != 0)=Vp:=Ju U
  have HN:Hid (¬ zM ns 0):=λh=>U (Z3 HC h)
  clear U;go_wp2_with fail;refine yQ (v:=i5 #[.nilIface,i7 Vt]) ?res F ⟨yW ⟨.nilIface,F,S (λh=>HN h.1.1),yW F⟩,Q.alloc Q.size _⟩;case res=>simp[results,results183,go_sem]
 subst U;obtain⟨bo,bs,rfl,rfl,A⟩:=(D i) F;have z:=S (A.kept (@zC w1 (JM #[.map (E bo),.map (E bs)] 173)));have n:=S (GN HC);have belA:Qb w (w1.alloc (JM #[.map (E bo),.map (E bs)] 173)):=Q.alloc Q.size _;have hf:=S (show Cs [(O w.1+1,0,Je bn H (Z xs) cn),(O w1.1,0,.map (E bo)),(O w1.1,1,.map (E bs))] (w1.alloc (JM #[.map (E bo),.map (E bs)] 173)) from λp hp=>by
  simp only[jH,List.not_mem_nil,or_false]at hp
  rcases hp with rfl|rfl|rfl
  .exact((zC).cell (p:=(J (O w.1+1) 0)) (I:O w.1+1<O w1.1)).trans c1
  .simp[go_sem]
  .simp[go_sem])
 clear i A c1;have k1:=(D hf) (O w.1+1,0,Je bn H (Z xs) cn) Js;have k2:=(D hf) (O w1.1,0,.map (E bo)) Js;have k3:=(D hf) (O w1.1,1,.map (E bs)) Js;simp only at k1 k2 k3;go_wp2_with fail;go_call dI bo bs bn H cn ns xs _ R z HC n (m.y belA P) l (ym P belA.size) as e w3 ⟨⟨v,rfl,hv⟩,hb3⟩;have HV:=S hv;have j:=belA.trans (hb3.mono belA.size);have z3:O w1.1+1<=O w3.1:=Jz hb3.size
 have ha:=S (hf.y hb3);have N:=S (z.kept hb3);clear hv hb3 hf z k1 k2 k3 belA;cases v
 .go_wp2_with fail;refine yQ (v:=i5 #[.nilIface,i7 Vt]) ?res F ⟨yW ⟨.nilIface,F,S (λh=>jq (HV.2 ⟨h.1.2.1,h.1.2.2⟩)),yW F⟩,j⟩;case res=>simp[results,results183,go_sem]
 have HO:=S (HV.1 F).1;have HK:=S (HV.1 F).2;clear HV;have t:=HO.2.1;have s:=HO.1;have M:=S (show B7 (w3.alloc (JM #[G 0] 286)) (O w3.1) 0 from⟨Jg,Jg⟩);have V:=S (ha.y (@zC w3 (JM #[G 0] 286)));have o:=S (N.kept (@zC w3 (JM #[G 0] 286)));have K:Qb w (w3.alloc (JM #[G 0] 286)):=j.alloc j.size _;have k1:=(D V) (O w.1+1,0,Je bn H (Z xs) cn) Js;have k2:=(D V) (O w1.1,0,.map (E bo)) Js;have k3:=(D V) (O w1.1,1,.map (E bs)) Js;simp only at k1 k2 k3;clear ha N V;go_wp2_with fail;go_call nQ bo bs bn H cn ns xs _ o HC n (m.y K P) l (ym P K.size) HO HK as e w5 ⟨rfl,hb5⟩;have f:=S (M.y hb5);have a:=K.trans (hb5.mono K.size);have hb:=S (Qc ns xs HO.2.2.2 HK L (Z xs) (Z xs-1) 0 I I HO.2.2.1 (O w3.1) 0 0 w5 f I);obtain⟨T,u,k⟩:=Lq ns xs (Z xs-1);obtain⟨T2,u2,X⟩:=Ly ns xs (Z xs) (Z xs-1) 0 I HO.2.2.1 0;rw[k,X]at hb;have hg:=S X;have hd:=(E3 ns xs (Z xs) (Z xs-1) 0 I HO.2.2.1 0 0).2;rw[k];clear hb5 M o k1 k2 k3 k X K;go_wp2_with fail;go_call hb as e w6 ⟨rfl,hg6,hk6⟩;have B:=a.trans (hk6.y (by exact a.size) I);have cg:=hg6.1;obtain⟨q,hq⟩:=Jx ((gS ns xs (Z xs-1) 0 0).length);rw[<-hq]at cg hd;rw[jd]at cg;have HQ:=S hq;clear hg6 hk6 hb f hq;by_cases g:q<=20000
 .have C:(q:Int)<=20000:=I;go_wp2_with fail;go_quiet (fail);go_wp2;refine yQ (v:=i5 #[.iface T2 u2,i7 Vp]) ?res F ⟨yX ⟨by rw[D hg],S ⟨⟨HC,HO,HK⟩,by rw[<-D HQ];exact g⟩⟩,Pc B F rfl rfl rfl⟩;case res=>simp[results,results183,go_sem,C]
 .have C:¬ (q:Int)<=20000:=I;go_wp2_with fail;go_quiet (fail);go_wp2;refine yQ (v:=i5 #[.iface T2 u2,i7 Vt]) ?res F ⟨yW ⟨_,F,S (λh=>g (by rw[D HQ];exact h.2)),yX ⟨_,_,F⟩⟩,Pc B F rfl rfl rfl⟩;case res=>simp[results,results183,go_sem,C]
def WB(d):Lib.join (d.map (·.data.toList)) (⟨#[]⟩:JZ).data.toList=FT d:=by
 unfold Lib.join FT;induction d with
 |nil=>rfl
 |cons a c ih=>
  cases c with
  |nil=>simp[List.intercalate]
  |cons b c=>simp[List.intercalate,List.intersperse]at ih ⊢;rw[ih]
def qJ{b c a e i}(h:w.ownsRow b e c (Ql g n a) n i):n<=a/\a<=maxLen:=by
 obtain⟨_,h|⟨j,K,q,H,_,_,d,f,_⟩⟩:=h
 .simp at h
 .simp only[Value.slice.injEq,jw]at H;obtain⟨_,_,rfl⟩:=H;exact⟨d,f⟩
def fF(b hj cap bn X cn ns xs w)(hm:Z ns<=1048576)(R:Z xs<=1048576)(hw:Au w b hj ns)(m:ZO ns)(hB:b<O w.1)(n:Z2 w bn X xs)(N:C5 xs)(C:bn<O w.1):Calls Vb 130 #[b9 #[Je b hj (Z ns) cap],b9 #[Je bn X (Z xs) cn]] w λe w'=>(∃(s:JZ)(v:Bool),e=i9 (i5 #[W s,i7 v])/\Hid (FH ns xs s v))/\Qb w w':=by
 have p:Hid (∀o1 o2:Obj,Qb w ((w.alloc o1).alloc o2)):=λo1 o2=>(@zC w o1).alloc Js o2
 go_enter func130,ntmps130;go_wp2_with fail;go_call iM b hj cap bn X cn ns xs _ hm R (hw.y (p _ _) hB) m Jq (n.y (p _ _) C) N Jq as e w1 ⟨hp,hb1⟩;have H:Qb w w1:=((p) _ _).trans (hb1.mono Jq);rcases hp with⟨v,rfl,hn,hv⟩|⟨rfl,hy⟩
 .have HN:=S hn;rcases hv with rfl|⟨T,u,rfl⟩
  .go_wp2;go_ret2;exact⟨⟨_,_,F,S (yX ⟨HN,F,F⟩)⟩,H⟩
  .go_wp2;go_ret2;exact⟨⟨_,_,F,S (yX ⟨HN,F,F⟩)⟩,H⟩
 .obtain⟨hf,hG,K,hg,c,hc,z⟩:=Ph hy;rw[z];obtain⟨⟨T,u,L⟩,P⟩:=zZj ns hf K.well;have hb:Z (yT hf)<=40000:=by have:=Om hf;simp[yT];omega
  have h0:=rR K.sh;have V:=UC (yT hf) h0 (Z (yT hf)) yk;rw[jJ]at V;obtain⟨st,U⟩:∃st,Hid (st=(yT hf).foldl AK ([],0)):=⟨_,S F⟩;have a:=Mv (yT hf) ([],0);rw[<-D U]at V a;have A:Hid (FT st.1=Ia hf):=V.1;have ha:=Yy hg 20000 c;have he:=S (by rw[WB,D A];omega:Z (Lib.join (st.1.map (·.data.toList)) (⟨#[]⟩:JZ).data.toList)<=140737488355328);have l:Dc (w1.alloc (JM #[Jl,G 0] 245)) (O w1.1) Jl [] 0:=
   ⟨Jg,Jg,λo=>Jg,jt⟩
  have ho:=S (P (O w1.1) Jl [] 0 _ st l Jq U);simp only[je,jd]at a;have hq:Z st.1<=80000:=I;have HG:=S hG;have f:st.1≠[]:=λe=>by
   have:=Y8 K.sh;have h1:Z (yT hf)≠0:=I;have e2:1<=Z st.1:=by
    rw[D U];cases hh:yT hf with
    |nil=>rw[hh]at h1;exact yV F h1
    |cons x hr=>
     have mono:∀(hl:List ZJ)(q:List ByteArray×Int),Z q.1<=(hl.foldl AK q).1.length:=λhl=>by
      induction hl with
      |nil=>intro q;exact yk
      |cons y hl ih=>intro q;have:=ih (AK q y);simp only[List.foldl_cons];refine yy ?_ this;simp[AK]
     have:=mono hr (AK ([],0) x);simp only[List.foldl_cons];refine yy ?_ this;simp[AK]
   rw[e]at e2;simp at e2
  have M:=S f;rw[L]at ho ⊢;go_wp2_with fail;go_call ho as x w2 ⟨rfl,v2,p1,p2,p3⟩;have j:Qb w w2:=⟨p2.os.trans H.os,p2.tape.trans H.tape,p2.output.trans H.output,by have:=p2.size;have:=H.size;simp at *;omega,λi hi=>(p2.block i (by have:=H.size;simp;omega) (Jy H.size) Jb).trans (((@zC w1 _).block i (Jy H.size)).trans (H.block i hi))⟩;have c0:=p1.c0;have Q:=p1.row;obtain⟨g2,k2,rfl⟩:∃g k,v2 = Ql g (Z st.1) k:=by
   obtain⟨_,⟨rfl,h0⟩|⟨g,cap,hd,h,_⟩⟩:=Q
   .exact yV (List.eq_nil_of_length_eq_zero h0) M
   .exact⟨_,_,h⟩
  have hk:=S Q.cells;have t:=(Q.lt g2 F).2;have d:=(qJ Q).1;go_wp2_with fail;go_call Xo g2 0 k2 st.1 ⟨#[]⟩ _ hk t I d he as x w3 ⟨rfl,hb3⟩;rw[WB,D A];have B:=j.trans (hb3.mono j.size);go_wp2;go_ret2;exact⟨⟨_,_,F,S (yW ⟨hy,F,by rw[<-D HG]⟩)⟩,B⟩
def dJ(b c)(a:Jp)(w)(d:100<Z a):Calls Vb 63 #[.slice b (Z a) c] w λe w'=>e=i9 (i5 #[.pointer JL,G 1,G 100])/\w'=w:=by have h:(100:Int)<Z a:=I;go_enter func63,ntmps63;go_wp2;go_ret3;exact⟨F,F⟩
def FW.congr{g:Nat->Jf}{b j:Nat->ByteArray}{e}(h:FW T b n out c e)(m:∀i,i<n->T i=g i/\b i=j i):FW g j n out c e:=by
 have l:∀{i us c},i<n->F6 T b i us c->F6 g j i us c:=fun{i us c} a ⟨p,h⟩=>⟨p,by rw[<-(m i a).1,<-(m i a).2];exact h⟩
 rcases h with⟨k,us,o,t,d,f,q,s⟩|⟨d,f⟩
 .exact yW ⟨k,us,o,t,d,⟨f.1,λi a=>l I (f.2 i a)⟩,l d q,s⟩
 .exact yX ⟨⟨d.1,λi a=>l a (d.2 i a)⟩,f⟩
def FK{b o}(h:w.cell? (J b o)=E v):b<O w.1:=jk _ _ h
def bR(w:JY)(o):O w.1<O (w.alloc o).1:=Js
def uQ(w:JY)(v t):(w.alloc (JM #[v] t)).cell? (J (O w.1) 0)=E v:=Jg
def xI(w:JY)(v t):(w.alloc (JM #[v] t)).frozen? (J (O w.1) 0)=Vt:=Jg
structure QK where
 B:Nat
 C:Nat
 v1:Value
 vs:List AO
 U:JC
 kv:Value
 pv:Option Nat
 ks:Jv
 T:Nat->Jf
 vv:Value
 tv:JD
 ta:List (Option Addr)
def QL(w wr:JY)(c)(e:Nat)(f:Jp)(b:JF)(d:QK)(a:ByteArray->Option Value):=G6 w wr d.B d.C c e f d.v1 d.vs d.U d.kv d.pv d.ks d.T d.vv d.tv d.ta b a
structure cH(w:JY)(am:Option Addr)(c:Nat)(a:Jp)(b:JF)(d:QK):Prop where
 cb:d.C<=d.B
 tb:∀i,i<Z a->ZO (d.T i)/\Z (d.T i)<=500/\(Ah d.U i).b.size<=20000
 un:∀i,i<Z a->∃us,ZC (Ae a i).t us (Ah d.U i).os (Ah d.U i).b 0 0
 ld:ZI a ((List.range (Z a)).map d.T) 0 0
 tr:DU d.T (λi=>(Ah d.U i).b) (Z a) b
def Tw(w h i g b c f e k):=
 (c≠0/\b=[]/\e=i9 (i5 #[.pointer JL,G c,G f])/\Qb w k) \/
 (c=0/\f=0/\∃d a,e=i9 (i5 #[Qp (O w.1+1),G 0,G 0])/\Hid (cH w h i g b d)/\Hid (∀j,j<Z g->∃x,a (Ae g j).n=E x)/\Hid (QL w k h i g b d a))
def TU(am cm ms w)(g:Z ms<=100->F3 w am ms){who}(h:Zg ms out c who):Calls Vb 38 #[.slice am (Z ms) cm] w (Tw w am cm ms out c who):=by
 obtain⟨tabs,c0,w0,hL,hT⟩:=h;by_cases hn:Z ms<=100
 .have HX:=S (dN am cm ms w (g hn));have HL:=S hL;have HT:=S hT;have HG:=S (g hn);clear hL hT g;go_enter func38,ntmps38;go_wp2_with fail;go_call D HX as e w1 (⟨s,k,cc,hs,hk,hcc,rfl,hf,hb⟩|⟨rfl,qd,X,ob,hst⟩)
  .obtain⟨_,rfl,rfl⟩:=zA HL hn hs hk hf;obtain⟨h0,rfl,rfl,rfl⟩:(s:Int)+2≠0/\out=[]/\c=(s:Int)+2/\who=(k:Int):=by
    rcases D HT with⟨h,h1,h2,h3⟩|⟨h,_⟩
    .exact⟨h,h1,h2,h3⟩
    .omega
   subst hcc;have Hm:((s:Int)+2 != 0)=Vp:=Jq;have HB:=S hb;clear hf hb HX HL HT;go_wp2;go_ret3;exact yW ⟨h0,F,F,HB⟩
  .obtain⟨hK,h3,U,ks,C,T,rk,hz,⟨v1,vs,kv,pv,_,_,hU,P,hN,hH⟩,h4,h5,hR,l,hG,h6⟩:=hst;obtain⟨rfl,rfl,rfl⟩:=zB HL hn P h3 hU h4 h5 hR l h6;have he:=S (show FW T (λi=>(Ah U i).b) (Z ms) out c who by
    rcases D HT with⟨h,_⟩|⟨_,U0,hI,h⟩
    .exact yV F h
    .refine h.congr λi hi=>⟨Z0 hi,?_⟩
     obtain⟨us,h1,h2⟩:=hU.2 i hi
     exact(ZC.one (hI.2 i hi) h1).2.2.1)
   obtain⟨p1,p2,p3⟩:=hU.small hn;have hw:=S (show ∀i,i<Z ms->ZO (T i)/\Z (T i)<=500/\(Ah U i).b.size<=20000 from λi hi=>⟨λj hj=>(p2 _ (l.sub hR (by rw[hU.1];exact yk) (rk i+1) i hi I _ (PS hj))).1,by
    rcases h6 i hi with h|⟨h,_⟩
    .exact yV h.1 Jd
    .exact h,by
    obtain⟨us,h1,_⟩:=hU.2 i hi
    exact V8 h1⟩)
   have Hn:O w.1+3<=C:=hH.hBC;have t:=hH.hC;have hM:Hid (∀i,i<Z ms->∃us,ZC (Ae ms i).t us (Ah U i).os (Ah U i).b 0 0):=λi hi=>(by obtain⟨us,h1,_⟩:=hU.2 i hi;exact⟨us,h1⟩)
   have hA:=S (λ(i:Nat)(hi:i<Z ms)(wr:JY)(G':ByteArray->Option Value)(hS:Eg wr (O w.1+3) C (O w.1+1) (O w.1) am cm ms v1 vs U kv pv ks)(hZ:Be wr C (O w.1) ms T G')=>UQ _ C _ _ am cm ms v1 vs U kv pv ks T rk hn hN.all hR l p1 p2 (λi hi=>(p3 i hi).1) (rk i+1) i hi I wr G' hS hZ);have qb:=S (show(∀g,kv.ownBlock=E g->g<O w1.1)/\∀g,pv=E g->g<O w1.1 from⟨λg e=>(hH.nm.row.lt g e).2,λg e=>(hH.nm.plt g e).2⟩);have H0:=S (show G6 w w1 (O w1.1) C am cm ms v1 vs U kv pv ks T Jl [] [] [] hz from⟨hH,hG,hK.bel,hK.c5.1,hK.c5.2,Dx.nil _ _,yk,λj hj x hx g e e2=>by cases e2⟩);have Hi:=S hK.bel;have c1:=hH.pg.c1;obtain⟨a1,cc1,rfl⟩:∃a c,v1=i6 a (Z vs) c:=zS hH.pg.row;have Hg:=hH.pg.ln;clear HX HT hK h3 P hN hH h4 h5 hR l hG h6 hU p1 p2 p3;go_wp2;go_loopw [28] (λx wr=>∃(k:Nat)(vv:Value)(tv:JD)(ta:List (Option Addr))(o:JF)(G':ByteArray->Option Value),k<=Z vs/\x=G k/\Hid (G6 w wr (O w1.1) C am cm ms (i6 a1 (Z vs) cc1) vs U kv pv ks T vv tv ta o G')/\Hid (DU T (λi=>(Ah U i).b) k o)/\Hid (∀j,j<k->∃x,G' (Ae ms j).n=E x)) (λx _=>Z vs-(intOf x).toNat);case atStart=>exact⟨0,_,[],[],[],hz,yn,F,H0,S (DU.nil _ _),S (λj h=>yV h (yz j))⟩
   case round=>
    clear H0;obtain⟨k,vv,tv,ta,o,G',hk,rfl,HI,B,M⟩:=hrel;obtain⟨av,cv,rfl⟩:∃a c,vv=i6 a (Z tv) c:=zS HI.tr.row;have Ho:Z tv<=1048576:=by have:=HI.tr.len.1;have:=B.1;omega
    by_cases hQ:k<Z vs
    .have qc:(k:Int)<Z vs:=I;have qa:k<Z ms:=I;obtain⟨bA,K,rfl,m,Ha⟩:∃b K,am=E (J b K)/\J3 w b K ms/\b<O w.1:=by
      rcases HG.arg with h|h
      .omega
      .exact h
     have m0:=(HI.bel.cell (p:=(J bA (K+k*2))) Ha).trans (m k qa).1;obtain⟨g1,cq,e1,n0,n1,n2⟩:=HI.sh.pg.at qa;obtain⟨rfl,rfl⟩:a1=E (J g1 0)/\cc1=cq:=by injection e1 with x _ y;exact⟨x,y⟩
     obtain⟨⟨⟨au,cu,hl,_⟩,⟨ao,co,hD,_⟩,ht⟩,_⟩:=HI.sh.pg.uns.2 k hQ;rw[hl]at n0;rw[hD]at n1;obtain⟨h9,Hl,hF⟩:=(D hw) k qa;obtain⟨bd,hC⟩:=Jx ((Ah U k).b);rw[ht,<-hC]at n2;rw[<-hC]at hF;obtain⟨ul,h8⟩:=Jx ((Ah U k).us.length);obtain⟨ol,ho⟩:=Jx ((Ah U k).os.length);rw[<-h8]at n0;rw[<-ho]at n1;obtain⟨nm,f⟩:=Jx ((Ae ms k).n);rw[<-f]at m0;have hv:=S (λus c (h:∃p,Zs (T k) bd us c p)=>show F6 T (λi=>(Ah U i).b) k us c by
      obtain⟨p,h⟩:=h
      exact⟨p,by show Zs (T k) (Ah U k).b us c p;rw[<-hC];exact h⟩)
     have Hq:=HI.hz;have Hr:=HI.bel.size;obtain⟨UO,hX⟩:=Jx (Obj.cells #[.slice au ul cu,i6 ao ol co,W bd] 65);have z:Below (O wr.1) wr (wr.alloc (JM #[.slice au ul cu,i6 ao ol co,W bd] 65)).drew:=(zC).drew;have P:Below (O wr.1) wr ((wr.alloc (JM #[.slice au ul cu,i6 ao ol co,W bd] 65)).alloc (JM #[Jl] 40)).drew:=((zC).alloc Js _).drew;have hy:=S (hA k qa _ G' (HI.sh.y z) (HI.sc.y z));have hq:=S (hA k qa _ G' (HI.sh.y P) (HI.sc.y P));rw[<-f]at hy hq;have HP:=S (show ∀(w6:JY)(v:Value)(G'':ByteArray->Option Value),G'' (Ae ms k).n=E (b9 #[v])->Be w6 C (O w.1) ms T G''->∃a6 c6,v=i6 a6 (Z (T k)) c6/\∀W',Below (O w6.1) w6 W'->Calls Vb 64 #[b9 #[.slice a6 (Z (T k)) c6],W bd] W' (Di (T k) bd W') from λw6 v G'' s1 s2=>by
      obtain⟨v',Hf,hB,_⟩:=s2.at' _ qa _ s1
      obtain rfl:v=v':=Ju Hf
      have hm:=hB.ops
      obtain⟨a6,c6,rfl,_⟩:=id hm
      exact⟨a6,c6,F,λW' hb=>gK a6 c6 (T k) bd W' I (λW'' hh=>eT a6 c6 (T k) W'' I (hm.y (hb.trans (hh.mono hb.size))) h9) h9 I⟩)
     have hE:=S z;have hY:=S P;have Hj:=S f;have nb1:O wr.1+1≠bA:=I;have nb2:bA≠O wr.1+1:=I;have ne1:(E (O w.1):Option Nat)≠E bA:=λx=>by injection x with x;omega
     have ne2:(E (O w.1):Option Nat)≠E (O wr.1):=λx=>by injection x with x;omega
     have ne3:(E (O w.1):Option Nat)≠E (O wr.1+1):=λx=>by injection x with x;omega
     have l2:O wr.1<(wr.alloc (JM #[.slice au ul cu,i6 ao ol co,W bd] 65)).drew.heap.size:=Js;have l3:bA<((wr.alloc (JM #[.slice au ul cu,i6 ao ol co,W bd] 65)).alloc (JM #[Jl] 40)).drew.heap.size:=Jq;have l4:O wr.1<((wr.alloc (JM #[.slice au ul cu,i6 ao ol co,W bd] 65)).alloc (JM #[Jl] 40)).drew.heap.size:=Jq;have l5:O wr.1+1<((wr.alloc (JM #[.slice au ul cu,i6 ao ol co,W bd] 65)).alloc (JM #[Jl] 40)).drew.heap.size:=Js;have Hc:Hid ((wr.alloc (JM #[.slice au ul cu,i6 ao ol co,W bd] 65)).drew.cell? (J bA (K+k*2))=E (W nm)):=((@zC wr _).cell (p:=(J bA (K+k*2))) (I:bA<O wr.1)).trans m0;have hO:=S (Jg:(wr.alloc (JM #[.slice au ul cu,i6 ao ol co,W bd] 65)).drew.cell? (J (O wr.1) 2)=E (W bd));have hP:Hid (((wr.alloc (JM #[.slice au ul cu,i6 ao ol co,W bd] 65)).alloc (JM #[Jl] 40)).drew.cell? (J bA (K+k*2))=E (W nm)):=(((@zC wr _).alloc Js _).cell (p:=(J bA (K+k*2))) (I:bA<O wr.1)).trans m0;have hW:Hid (((wr.alloc (JM #[.slice au ul cu,i6 ao ol co,W bd] 65)).alloc (JM #[Jl] 40)).drew.cell? (J (O wr.1) 2)=E (W bd)):=((@zC (wr.alloc (JM #[.slice au ul cu,i6 ao ol co,W bd] 65)) _).cell (p:=J (O wr.1) 2) Js).trans Jg;have Hd:=S (Jg:((wr.alloc (JM #[.slice au ul cu,i6 ao ol co,W bd] 65)).alloc (JM #[Jl] 40)).drew.cell? (J (O wr.1+1) 0)=E Jl);have hJ:=S (Jg:((wr.alloc (JM #[.slice au ul cu,i6 ao ol co,W bd] 65)).alloc (JM #[Jl] 40)).drew.frozen? (J (O wr.1+1) 0)=Vt);have l1:bA<(wr.alloc (JM #[.slice au ul cu,i6 ao ol co,W bd] 65)).drew.heap.size:=Jq;clear e1 hl hD ht hC h8 ho m z P f hX UO;go_wp2_with fail
     go_region_held3 (λqd=>qd.cell? (J bA (K+k*2))=E (W nm)/\qd.cell? (J (O wr.1) 2)=E (W bd)) (go_keep) (first
      |(go_at_call 65;(with_reducible refine(D hy).mono ?_);rintro e w6 ⟨v,G'',rfl,s1,s2,s3,sp,s4,s5⟩;obtain⟨a6,c6,rfl,hp⟩:=(D HP) w6 v G'' s1 s2;have N:=S (hp w6 yN);have R:=S (hp (w6.alloc (JM #[Jl] 40)) zC);have n:=S (yO s2 (yO s3 s5));have qg:=S (show ∀j,j<k+1->∃x,G'' (Ae ms j).n=E x from λj hj=>(by by_cases e:j=k;exact⟨_,e ▸ s1⟩;obtain⟨x,hx⟩:=(D M) j I;exact⟨x,sp j I x hx⟩));have z6:=s3.size;  have c1:=(zJ s3 l1 ne1 (K+k*2)).trans (D Hc);have c2:=(zJ s3 l2 ne2 2).trans (D hO);have nn1:=jA w6 _ c1;have nn2:=jA w6 _ c2;clear s1 s2 s3 sp s4 s5 hp)
      |(go_at_call 65;(with_reducible refine(D hq).mono ?_);rintro e w6 ⟨v,G'',rfl,s1,s2,s3,sp,s4,s5⟩;obtain⟨a6,c6,rfl,hp⟩:=(D HP) w6 v G'' s1 s2;have N:=S (hp w6 yN);have R:=S (hp (w6.alloc (JM #[Jl] 40)) zC);have n:=S (yO s2 (yO s3 s5));have qg:=S (show ∀j,j<k+1->∃x,G'' (Ae ms j).n=E x from λj hj=>(by by_cases e:j=k;exact⟨_,e ▸ s1⟩;obtain⟨x,hx⟩:=(D M) j I;exact⟨x,sp j I x hx⟩));have z6:=s3.size;  have c1:=(zJ s3 l3 ne1 (K+k*2)).trans (D hP);have c2:=(zJ s3 l4 ne2 2).trans (D hW);have x0:=(zJ s3 l5 ne3 0).trans (D Hd);have x1:=(Z8 s3 l5 ne3 0).trans (D hJ);have nn1:=jA w6 _ c1;have nn2:=jA w6 _ c2;clear s1 s2 s3 sp s4 s5 hp)
      |(go_at_call 64;(with_reducible refine(D N).mono ?_);rintro e w7 ⟨⟨a7,c7,us,cd,pl,rfl,HON,HPI⟩,hb7⟩;have A:=S hb7;have z7:=hb7.size;  have q1:=Jc hb7 (FK c1) c1;have q2:=Jc hb7 (FK c2) c2;have y0:=Jc hb7 (FK x0) x0;have y1:=Vf hb7 (FK x0) x1;clear hb7)
      |(go_at_call 64;(with_reducible refine(D N).mono ?_);rintro e w7 ⟨⟨a7,c7,us,cd,pl,rfl,HON,HPI⟩,hb7⟩;have A:=S hb7;have z7:=hb7.size;  have q1:=Jc hb7 (FK c1) c1;have q2:=Jc hb7 (FK c2) c2;clear hb7)
      |(go_at_call 64;(with_reducible refine(D R).mono ?_);rintro e w7 ⟨⟨a7,c7,us,cd,pl,rfl,HON,HPI⟩,hb7⟩;have A:=S hb7;have z7:=hb7.size;  have q1:=(hb7.cell (p:=(J bA (K+k*2))) (ym (FK c1) (zC).size)).trans (((@zC w6 _).cell (p:=(J bA (K+k*2))) (FK c1)).trans c1);have q2:=(hb7.cell (p:=J (O wr.1) 2) (ym (FK c2) (zC).size)).trans (Jc (@zC w6 _) (FK c2) c2);have y0:=(hb7.cell (p:=J (O w6.1) 0) (bR w6 _)).trans (uQ w6 _ _);have y1:=(hb7.frozen (p:=J (O w6.1) 0) (bR w6 _)).trans (xI w6 _ _);clear hb7))
     all_goals
      first
      |(
        obtain⟨W8,H⟩:=Jx (w7.alloc (JM #[.slice a7 (Z us) c7] 40))
        rw[<-H]
        have V:Below (O w6.1) w6 W8:=by rw[H];exact A.alloc z7 _
        have HR:=S (HI.read (cc:=c7) t qb hE n (zH V (E (O w6.1))) (by simp at z6;omega) (yX yk) (by rw[H];exact(HON.step zC).base (by simp at z6;omega):ZS W8 (O wr.1) a7 us))
        obtain⟨X8,qe⟩:=Jx (O w7.1)
        have y8:W8.cell? (J X8 0)=E (i6 a7 (Z us) c7):=by rw[H,qe];simp[go_sem]
        have x8:O wr.1<=X8:=by simp at z6;omega
        rw[<-qe]
        clear V H qe)
      |(
        obtain⟨W8,H⟩:=Jx (w7.setCell (J (O w6.1) 0) (i6 a7 (Z us) c7))
        rw[<-H]
        have V:Below (O w6.1) w6 W8:=by rw[H];exact((zC).trans (A.mono Js)).setCell (p:=J (O w6.1) 0) yk _
        have HR:=S (HI.read (cc:=c7) t qb hE n (zH V (E (O w6.1))) (by simp at z6;omega) (yX yk) (by rw[H];exact(HON.grown (zx w7 (O w6.1) 0 _) (λq e=>by injection e with e;simp;omega)).base (by simp at z6;simp;omega):ZS W8 (O wr.1) a7 us))
        obtain⟨X8,qe⟩:=Jx (O w6.1)
        have y8:W8.cell? (J X8 0)=E (i6 a7 (Z us) c7):=by rw[H,qe];exact yu _ _ _ y0
        have x8:O wr.1<=X8:=by simp at z6;omega
        rw[<-qe]
        clear V H qe y0 y1)
      |(
        obtain⟨W8,H⟩:=Jx (w7.setCell (J (O wr.1+1) 0) (i6 a7 (Z us) c7))
        rw[<-H]
        have HR:=S (HI.read (cc:=c7) t qb hY n (by rw[H];exact pV A _ _ _:w6.grownBy W8 (E (O wr.1+1))) I (yW Js) (by rw[H];exact(HON.grown (zx w7 (O wr.1+1) 0 _) (λq e=>by injection e with e;simp at z6;omega)).base (by simp at z6;omega):ZS W8 (O wr.1) a7 us))
        obtain⟨X8,qe⟩:=Jx (O wr.1+1)
        have y8:W8.cell? (J X8 0)=E (i6 a7 (Z us) c7):=by rw[H,qe];exact yu _ _ _ y0
        have x8:O wr.1<=X8:=I
        rw[<-qe]
        clear H qe y0 y1 x0 x1)
      have hV:=S HR.bel
      by_cases hc:cd=0
      .subst hc
       have y5:=HR.c5
       have f5:=HR.f5
       have z8:=HR.siz
       have hr:=S (show(i6 av (Z tv) cv).ownBlock≠E (O w.1+1)/\(i6 av (Z tv) cv).ownBlock≠E X8 from⟨λe=>Jy ((ji HI.tr.row _ e).1),λe=>Jy ((ji HI.tr.row _ e).2)⟩)
       have h7:X8<O W8.1:=FK y8
       have qf:O w.1+1<O W8.1:=FK y5
       have Hp:X8≠O w.1+1:=I
       have k6:=λo'=>((@zC W8 o').cell (p:=(J (O w.1+1) 5)) qf).trans y5
       have k8:=λo'=>Jc (@zC W8 o') h7 y8
       have hd:=S (λ(w4:JY)(v4:Value)=>HR.step (W8.alloc (JM #[.slice a7 (Z us) c7] 40)).drew w4 v4 (zC).drew)
       have ha:=S HR.row
       have Hb:=S (B.step (hv _ _ ⟨_,HPI⟩))
       go_wp2_with fail
       go_region_law (refine De Xx underlying32 (.tmp 56) (.tmp 58) (by rfl) (by rfl) (O w1.1) _ (Z tv) tv (by rfl) (I6 ha (λg e=>((@zC W8 _).drew).block g (ji ha g e).2)) (J (O W8.1) 0) 1 1 [.slice a7 (Z us) c7] (by rfl) F (λj u hj=>(by cases j with|zero=>(simp at hj;subst hj;simp[go_sem])|succ j=>simp at hj)) (λu hu=>(by simp at hu;subst hu;rfl)) Jd Jm I Jq _ F ?_;intro g4 c4 w4 d Q L hg;have m2:w4.cell? (J (O w.1+1) 5)=E (.slice av (Z tv) cv):=(zJ Q (b:=O w.1+1) Jq hr.1 5).trans (k6 _);have m3:w4.frozen? (J (O w.1+1) 5)=Vt:=(Z8 Q (b:=O w.1+1) Jq hr.1 5).trans (((@zC W8 _).frozen (p:=(J (O w.1+1) 5)) qf).trans f5);have He:=S (hd w4 (Ql g4 (Z tv+1) c4) Q (show Gr w4 _ _ (tv++[.slice a7 (Z us) c7]) by unfold Gr;rw[yr];exact d) (L.imp (λe=>e.symm) (λe=>⟨g4,F,I⟩)));clear d Q L hg)
       all_goals
        go_wp2
        exact⟨⟨k+1,_,_,_,_,_,I,Jn,He,Hb,qg⟩,Ji⟩
      .have Hk:(cd != 0)=Vp:=Ju hc
       have Hh:=HPI.code
       obtain⟨h1,h2,h3⟩:=he.hit qa B (hv _ _ ⟨_,HPI⟩) hc
       have HE:Hid (Tw w (E (J bA K)) cm ms out c who (i9 (i5 #[.pointer JL,G (10+cd),G k])) W8):=yW ⟨I,h1,by rw[h2,h3],hV⟩
       go_wp2
       go_ret3
       exact HE
    .obtain rfl:k=Z ms:=I;obtain⟨rfl,rfl,rfl⟩:=he.miss B;have HE:Hid (Tw w _ cm ms out 0 0 (i9 (i5 #[Qp (O w.1+1),G 0,G 0])) wr):=yX ⟨F,F,⟨_,_,_,_,_,_,_,_,T,_,_,_⟩,_,F,S ⟨t,hw,hM,HL,B⟩,M,HI⟩;have qc:¬ ((Z ms:Nat):Int)<(Z vs:Int):=I;go_wp2;go_ret3;exact HE
 .have h1:c0=1/\w0=100:=by
   rcases hL with⟨_,_,h⟩|⟨h,_⟩
   .exact h
   .exact yV h hn
  obtain⟨rfl,rfl⟩:=h1;obtain⟨_,rfl,rfl,rfl⟩:(1:Int)≠0/\out=[]/\c=1/\who=100:=by
   rcases hT with h|⟨h,_⟩
   .exact h
   .omega
  have HX:=S (dJ am cm ms w I);go_enter func38,ntmps38;go_wp2_with (first|(go_at_call 63;(with_reducible refine(D HX).mono ?_);rintro e w1 ⟨rfl,hx⟩;obtain rfl:=hx.symm;clear hx));go_ret3;exact yW ⟨Jd,F,F,yN⟩
def zbY(w a c b e d):=
 ∃v,e=i9 (i5 #[v,G c,G b])/\Hid (Fd d (O w.1) v a)/\Qb w d
def Q7(m o i w)(g:Z i<=100->F3 w m i){j}(h:Zg i out c j):Calls Vb 10 #[.slice m (Z i) o] w (zbY w out c j):=by
 have p:=S (TU m o i w g h);go_enter func10,ntmps10;go_wp2_with fail;go_call D p as e s (⟨q,rfl,rfl,n⟩|⟨rfl,rfl,d,b,rfl,k,_,f⟩)
 .have hI:(c != 0)=Vp:=Ju q
  go_wp2;go_ret3;exact⟨_,F,S ⟨⟨_,_,F⟩,yW F⟩,n⟩
 .have hc:=f.c5;have n:=f.bel;have l:=S (f.tr.res.low (by have:=k.cb;have:=f.sh.hBC;omega:O w.1<=d.B));obtain⟨⟨a,c,e⟩,_⟩:=id l;rw[e]at hc l;go_wp2;go_ret3;exact⟨_,F,l,n⟩
structure G5(w:JY)(P:Nat)(am:Option Addr)(m:Nat)(b:Jp)(U:JC)(T:Nat->Jf)(k:JF)(l:Nat->Value)(j:Option Addr)(p:Nat)(h:Option Addr)(o:Nat):Prop where
 c0:w.cell? (J P 0)=E (i6 am (Z b) m)
 c1:w.cell? (J P 1)=E (i6 j (Z b) p)
 c5:w.cell? (J P 5)=E (i6 h (Z b) o)
 arg:Cj w am b
 un:∀i,i<Z b->∃g vu vo,j=E (J g 0)/\g<O w.1/\w.cell? (J g (i*3))=E vu/\w.cell? (J g (i*3+1))=E vo/\w.cell? (J g (i*3+2))=E (W (Ah U i).b)/\ZX w vo (Ah U i).os/\∃a n c,vu=i6 a n c
 so:∀i,i<Z b->ZX w (l i) (T i)
 sc:∀i,i<Z b->∀w',Qb w w'->Calls Vb 65 #[Qp P,W (Ae b i).n] w' λe f=>e=i9 (b9 #[l i])/\Qb w' f
 tr:∀i,i<Z b->∃g d c2,h=E (J g 0)/\g<O w.1/\w.cell? (J g i)=E (Ql d (Z (AM k i)) c2)/\d<O w.1/\Z2 w d 0 (AM k i)
def G5.y{w u P m o n f l j q U}{T:Nat->Jf}{s}{t:Nat->Value}(h:G5 w P f m q U T s t l o j n)(b:Qb w u):G5 u P f m q U T s t l o j n:=by
 have z:=b.size;have d:P<O w.1:=jk _ _ h.c0;have k:=λp (x:p.block<O w.1)=>b.cell (p:=p) x
 refine⟨(k (J P 0) d).trans h.c0,(k (J P 1) d).trans h.c1,(k (J P 5) d).trans h.c5,h.arg.y b,λi c=>?_,λi c=>(h.so i c).y b,λi c a v=>h.sc i c a (b.trans (v.mono z)),λi c=>?_⟩
 .obtain⟨g,vu,vo,e,h1,h2,h3,h4,h5,h6⟩:=h.un i c;exact⟨g,vu,vo,e,I,(k (J g (i*3)) h1).trans h2,(k (J g (i*3+1)) h1).trans h3,(k (J g (i*3+2)) h1).trans h4,h5.y b,h6⟩
 .obtain⟨g,g2,c2,e,h1,h2,h3,h4⟩:=h.tr i c;exact⟨g,g2,c2,e,I,(k (J g i) h1).trans h2,I,h4.y b h3⟩
def QL.z{wr p z d}{b:ByteArray->Option Value}(h:QL w wr p z ms out d b)(M:cH w p z ms out d)(hA:Cj w p ms)(q:∀j,j<Z ms->∃x,b (Ae ms j).n=E x)(f:Em ms):∃vS u B t A,G5 wr (O w.1+1) p z ms d.U d.T out vS u B t A:=by
 have o:=h.sh.pg;have hl:=o.ln;have l:Z d.vs=Z ms:=I;obtain⟨u,B,s⟩:∃a c,d.v1=i6 a (Z d.vs) c:=zS o.row;have H:=h.tr.res;obtain⟨t,A,er⟩:=H.1;have y:Z out=Z ms:=M.tr.1;rw[y]at er;rw[l]at s;have K:∀i,i<Z ms->∃v,b (Ae ms i).n=E (b9 #[v])/\ZX wr v (d.T i):=λi n=>by obtain⟨x,hx⟩:=q i n;obtain⟨v,rfl,hv,_⟩:=h.sc.at' i n x hx;exact⟨v,hx,hv.ops⟩
 obtain⟨m,N,_⟩:=h.sc.cnt;refine⟨λi=>match b (Ae ms i).n with|some (.agg a)=>a.getD 0 Jl|_=>Jl,u,B,t,A,o.c0,by rw[<-s];exact o.c1,by rw[<-er];exact h.c5,hA.y h.bel,λi n=>?_,λi n=>?_,λi n k L=>?_,λi n=>?_⟩
 .obtain⟨g,c,e,n0,n1,n2⟩:=o.at n;rw[s]at e;obtain⟨rfl,_,rfl⟩:=Value.slice.inj e;obtain⟨⟨⟨a,R,P,_⟩,X,Q⟩,_⟩:=o.uns.2 i I;have hg:g<O wr.1:=(ji o.row g (by rw[s];rfl)).2;exact⟨g,_,_,F,hg,n0,n1,by rw[<-Q];exact n2,X,a,_,R,P⟩
 .obtain⟨v,e,ho⟩:=K i n;simp only[e];exact ho
 .obtain⟨v,e,ho⟩:=K i n;obtain⟨a,c,rfl,_⟩:=id ho;have C:=Jc L (jk _ _ h.sh.c4) h.sh.c4;have:=UP (O w.1+1) (O w.1) m _ c a (Ae ms i).n b k (jk _ _ C) C (N.same (L.block _ N.lt)) e ((f i n).1);simp only[e];exact this
 .obtain⟨gR,cR,e,h1,h2⟩:=bQ H M.tr I;rw[er]at e;obtain⟨rfl,_,rfl⟩:=Value.slice.inj e;obtain⟨g,c,T,U,V⟩:=h2 i n;exact⟨gR,g,c,F,h1,T,U,V⟩
def lJ(g c a w)(o:Z a<=1048576)(n:Au w g 0 a)(l:g<O w.1):Calls Vb 171 #[Ql g (Z a) c] w λe w'=>(∃b d,e=i9 (Ql b (Z a) d)/\O w.1<=b/\BY w' b a (Z a))/\Qb w w':=by have f:=S (by simpa using yJ (base:=O w.1) (e:=25) (size:=4) w #[] 0 yk yn F:(w.alloc (JM #[] 25)).ownsRow (O w.1) 25 4 (Ql (O w.1) 0 0) 0 []);have k:=S (R6 (n.y (@zC w (JM #[] 25)) l));have Q:(binOp .eql 43 (Ql g (Z a) c) Jl).run Vb w=.ok (i7 Vt) w:=Jk;go_enter func171,ntmps171;go_wp2_with (at_builtin;refine As Fz underlying43 (.tmp 5) (.tmp 6) F rfl (O w.1) _ 0 [] F f (J g 0) (Z a) c (zn a) F (Mp a) k (Zw a) Jm I Js ?_);intro p s h H K _;obtain⟨b,d,rfl⟩:=Lj h (by simp[K]);have j:=S (Ml h);have i:=S ((@zC w _).grown H Js (λq m=>(f.lt q m).1));go_wp2;go_ret;exact⟨⟨b,d,F,j⟩,i⟩
def qK{b H a}(h:Z2 w b H a):∀j u,(zO a)[j]?=E u->w.cell? ((J b H).add j)=E u:=by
 intro j u c;have K:j<Z a*4:=by rw[<-O9];exact(jf.1 c).1
 rw[jO,<-c];obtain⟨d,f,g,i⟩:=h (j/4) I;obtain⟨k,l,m,n⟩:=RL a (j/4) I;rcases(I:j=j/4*4\/j=j/4*4+1\/j=j/4*4+2\/j=j/4*4+3) with e|e|e|e
 .rw[e];exact d.trans k.symm
 .rw[e];exact f.trans l.symm
 .rw[e];exact g.trans m.symm
 .rw[e];exact i.trans n.symm
def nS(g c a w)(o:Z a<=1048576)(n:Z2 w g 0 a)(l:g<O w.1):Calls Vb 185 #[Ql g (Z a) c] w λe w'=>(∃b d,e=i9 (Ql b (Z a) d)/\O w.1<=b/\ZD w' b a (Z a))/\Qb w w':=by have f:=S (by simpa using yJ (base:=O w.1) (e:=108) (size:=4) w #[] 0 yk yn F:(w.alloc (JM #[] 108)).ownsRow (O w.1) 108 4 (Ql (O w.1) 0 0) 0 []);have k:=S (qK (n.y (@zC w (JM #[] 108)) l));have Q:(binOp .eql 38 (Ql g (Z a) c) Jl).run Vb w=.ok (i7 Vt) w:=Jk;go_enter func185,ntmps185;go_wp2_with (at_builtin;refine As BB underlying38 (.tmp 5) (.tmp 6) F rfl (O w.1) _ 0 [] F f (J g 0) (Z a) c (zO a) F (O9 a) k (zf a) Jm I Js ?_);intro p s h H K _;obtain⟨b,d,rfl⟩:=Lj h (by simp[K]);have j:=S (Ib h);have i:=S ((@zC w _).grown H Js (λq m=>(f.lt q m).1));go_wp2;go_ret;exact⟨⟨b,d,F,j⟩,i⟩
structure Cm(w:JY)(N:Nat)(o b:Ad):Prop where
 h:N<O w.1
 o':A4 w N o
 c4:w.cell? (J N 4)=E (W b.s)
 c5:w.cell? (J N 5)=E (G b.k)
 c6:w.cell? (J N 6)=E (G b.l)
 c7:w.cell? (J N 7)=E (G b.sd)
def Cm.y{N}(h:Cm w N o b)(a:Below B w w')(c:N<B):Cm w' N o b:=by
 have k:=λq=>a.cell (p:=J N q) c
 exact⟨ym h.h a.size,h.o'.below4 a c,(k 4).trans h.c4,(k 5).trans h.c5,(k 6).trans h.c6,(k 7).trans h.c7⟩
def Df(o b:Ad):Array Value:=#[W o.s,G o.k,G o.l,G o.sd,W b.s,G b.k,G b.l,G b.sd]
def Cm.new(w:JY)(o b t):Cm (w.alloc (JM (Df o b) t)) (O w.1) o b:=by unfold Df;exact⟨Js,⟨Jg,Jg,Jg,Jg⟩,Jg,Jg,Jg,Jg⟩
def F8(w g b a k):=BY w g b k/\∀i,k<=i->i<Z a->Gh w g 0 a i
def F8.skip{k a}(h:F8 w g a xs k)(d:k<Z xs)(e:r a k=r xs k):F8 w g a xs (k+1):=by
 refine⟨⟨h.1.1,h.1.2.1,λi j=>?_⟩,λi f c=>h.2 i I c⟩;by_cases b:i=k
 .subst b;have:=h.2 i yk d;unfold Gh at this ⊢;rw[e];exact this
 .exact h.1.2.2 i I
def F8.put{k a}(h:F8 w g a xs k)(p:Z a=Z xs)(o:k<Z xs)(e:r a k=b):F8 (w.setCells g (k*4) [W b.s,G b.k,G b.l,G b.sd]) g a xs (k+1):=by
 subst e;refine⟨h.1.step I,λi n c=>?_⟩;obtain⟨f,j,l,m⟩:=h.2 i I c;refine⟨?_,?_,?_,?_⟩;all_goals
  rw[World.cell?_setCells_out g _ _ _ _ (λ_ d=>yX (by simp at d ⊢;omega))]
  assumption
def F8.y{w b g k d c}(h:F8 w g d c k)(a:Qb w b):F8 b g d c k:=
 ⟨h.1.y a h.1.1,λi e f=>(h.2 i e f).y a h.1.1⟩
def UV(g c s o b w)(hm:Z s<=1048576)(hw:Au w g 0 s)(hg:g<O w.1):Calls Vb 123 #[BG o b,b9 #[Ql g (Z s) c]] w λe w'=>(∃t R,e=i9 (b9 #[Ql t (Z s) R])/\t<O w'.1/\Au w' t 0 (Ar o b s))/\Below (O w.1) w w':=by
 unfold BG;obtain⟨N,L⟩:=Jx (O w.1);obtain⟨m,z⟩:=Jx (((w.alloc (JM (Df o b) 91)).alloc (JM #[Ql g (Z s) c] 45)).alloc (JM #[Jl] 45));have hz:O m.1=N+3:=by rw[z,L];simp
 have Q:=S (by rw[z,L];exact((zC).alloc Js _).alloc Jq _:Below N w m);have A:=S (show Cm m N o b by
  rw[z,L]
  exact((Cm.new w o b _).y zC Js).y zC Jq)
 have q1:m.cell? (J (N+1) 0)=E (Ql g (Z s) c):=by rw[z,L];simp[go_sem]
 have U:=S (by rw[z,L];simp[go_sem]:m.cell? (J (N+2) 0)=E Jl);have B:=S (by rw[z,L];simp[go_sem]:m.frozen? (J (N+2) 0)=Vt);have l:=S (lJ g c s m hm (hw.y Q I) (Jy Q.size));have HZ:=S hz;have HN:=S L;unfold Df at z;have HW:=S z;clear hw hz;go_enter func123,ntmps123;go_wp2_with fail;rw[<-z,<-L];clear z L;go_call D l as e w1 ⟨⟨t,R,rfl,hg1,hf⟩,hb1⟩;obtain⟨T,j⟩:=Jx (Ar o b s);have y:Z T=Z s:=by rw[j,EY]
 have K:=S y;have P:=S j;have V:=S (by rw[<-D HZ];exact hb1:Below (N+3) m w1);have u:=S (show F8 w1 t T s 0 from⟨⟨hf.1,by rw[y];exact hf.2.1,λi hi=>yV hi (yz i)⟩,λi _ hi=>hf.2.2 i hi⟩);rw[D HZ]at hg1;clear hb1 hf l y j q1;go_wp2;go_loopw [13] (λi wr=>∃k:Nat,k<=Z s/\i=G k/\Hid (F8 wr t T s k)/\Hid (Below (N+3) m wr)) (λi _=>Z s-(intOf i).toNat);case atStart=>exact⟨0,yn,F,u,V⟩
 case round=>
  clear u V;obtain⟨k,hk,rfl,HS,HB⟩:=hrel;by_cases h:k<Z s
  .have d:(k:Int)<Z s:=I;obtain⟨a0,a1,a2,a3⟩:=HS.2 k yk h;simp only[jd]at a0 a1 a2 a3;have HA:=S (Qo (o:=o) (b:=b) h);rw[<-D P]at HA;obtain⟨x,hx⟩:=Jx (r s k);rw[<-hx]at a0 a1 a2 a3 HA;have HX:=S hx;obtain⟨W6,H⟩:=Jx (wr.alloc (JM #[W x.s,G x.k,G x.l,G x.sd] 25));have q:Below (O wr.1) wr W6:=by rw[H];exact zC
   have n:=S (HS.y q);have zr:N+3<=O wr.1:=by have:=HB.size;have:=D HZ;omega
   have X:Hid (Below (N+3) m W6):=HB.trans (q.mono zr);obtain⟨x0,x1,x2,x3⟩:A4 W6 (O wr.1) x:=by rw[H];exact⟨Jg,Jg,Jg,Jg⟩
   obtain⟨_,⟨d0,d1,d2,d3⟩,d4,d5,d6,d7⟩:=A.y X I;have hq:=λm=>I2 x o m
   have f:=JJ;have C:=S H;clear hx H q;go_upto_region 5 with fail
   rw[<-D C];cases M:ZH x o
   .have HN:=S (n.skip h (by rw[D HA,<-D HX];simp[M]));simp only[M]at hq;go_wp2;exact⟨⟨k+1,I,Jn,HN,X⟩,Ji⟩
   .have HN:=S (n.put K h (by rw[D HA];simp[M]:r T k=b));obtain⟨⟨⟨_,f0⟩,f0'⟩,⟨⟨_,f1⟩,f1'⟩,⟨⟨_,f2⟩,f2'⟩,⟨⟨_,f3⟩,f3'⟩⟩:=lN n.1 (by rw[D K];exact h);simp only[M]at hq;go_wp2;exact⟨⟨k+1,I,Jn,HN,S (zX (I:N+3<=t) [W b.s,G b.k,G b.l,G b.sd] (k*4) _ X)⟩,Ji⟩
  .obtain rfl:k=Z s:=I;have r2:=Jc HB I U;have r3:=Vf HB I B;have HE:=S (show BY (wr.setCell (J (N+2) 0) (Ql t (Z s) R)) t T (Z T) by
    rw[D K]
    exact HS.1.setCell _ _ (I:N+2≠t))
   have a:Hid (Below N w (wr.setCell (J (N+2) 0) (Ql t (Z s) R))):=(Q.trans (HB.mono I)).setCell (p:=(J (N+2) 0)) (show N<=N+2 by omega) _;go_wp2;refine yQ (v:=b9 #[Ql t (Z s) R]) ?res F ⟨⟨t,R,F,HE.1,?_⟩,?_⟩;case res=>simp[results,results123,go_sem, *]
   .rw[<-D P];exact HE.ops
   .rw[<-D HN];exact a
def eI(v L o b w)(hn:Z L<=100)(hT:FL w v L)(hl:∀i,i<Z L->Z (zy L i)<=1048576/\ZO (zy L i)/\o∈zy L i)(B:b.s.size<=1048576):Calls Vb 72 #[BG o b,v] w λe w'=>(∃z,e=i9 (i7 z)/\((z=Vp/\∀i,i<Z L->zM (Ar o b (zy L i)) 0)\/(z=Vt/\∃i,i<Z L/\∃c,zM (Ar o b (zy L i)) c/\c≠0)))/\Below (O w.1) w w':=by
 have HL:=S hl;have HT:=S (λm (hb:Below (O w.1) w m)=>hT.y hb);obtain⟨a,c,rfl,_⟩:=hT;obtain⟨N,T⟩:=Jx (O w.1);obtain⟨m,M⟩:=Jx (w.alloc (JM (Df o b) 91));have l:=S (by rw[M];exact zC:Below (O w.1) w m);have C:=S (by rw[M,T];exact Cm.new w o b _:Cm m N o b);have HZ:=S (by rw[M,T];simp:O m.1=N+1);have HN:=S T;unfold BG;unfold Df at M;clear hl;go_enter func72,ntmps72;go_wp2_with fail;rw[<-M,<-T];clear M T;go_loopw [9] (λi wr=>∃n:Nat,n<=Z L/\i=G n/\Hid (∀j,j<n->zM (Ar o b (zy L j)) 0)/\Hid (Below (N+1) m wr)) (λi _=>Z L-(intOf i).toNat);case atStart=>exact⟨0,yn,F,S (λj h=>I),S yN⟩
 case round=>
  obtain⟨n,hn,rfl,U,HB⟩:=hrel;have p:Hid (Below (O w.1) w wr):=l.trans (HB.mono (by rw[<-D HN];omega));by_cases X:n<Z L
  .have k:(n:Int)<Z L:=I;obtain⟨a',c',e,h⟩:=(D HT) wr p;obtain⟨rfl,_,rfl⟩:=Value.slice.inj e;obtain⟨g,rfl,hg,hc⟩:=h.resolve_left I;obtain⟨t,c0,u⟩:=hc n X;obtain⟨q,x,y⟩:=(D HL) n X;obtain⟨xs,Q⟩:=Jx (zy L n);rw[<-Q]at u q x y;have s:=S Q;obtain⟨at',ct,rfl,⟨R,_⟩|⟨g2,rfl,f,H⟩⟩:=u
   .exact yV y (by rw[jg.1 R];simp)
   have zr:N+1<=O wr.1:=by have:=HB.size;have:=D HZ;omega
   obtain⟨_,⟨d0,d1,d2,d3⟩,d4,d5,d6,d7⟩:=C.y HB I;have HC:=S (UV g2 ct xs o b (wr.alloc (JM #[Ql g2 (Z xs) ct] 45)) q (H.y zC f) Jq);have K:=S (show ZO (Ar o b xs)/\Z (Ar o b xs)<=1048576/\Z (Ar o b xs)=Z xs from⟨Pw x B,by rw[EY];exact q,EY _ _ _⟩);unfold BG at HC;clear hc h e H x y Q;go_wp2_with fail;go_call D HC as e w3 ⟨⟨g1,c1,rfl,hg1,ho1⟩,hb3⟩;have P:Hid (Below (N+1) m w3):=HB.trans (((zC).mono zr).trans (hb3.mono Jq));have z3:N+1<=O w3.1:=by have:=P.size;have:=D HZ;omega
   have V:=S (U8 (Ql g1 (Z (Ar o b xs)) c1) (Ar o b xs) w3 K.2.1 ⟨_,c1,F,yX ⟨g1,F,hg1,ho1⟩⟩ K.1);rw[(D K).2.2]at V;go_wp2_with fail;go_call D V as e w4 ⟨⟨cd,rfl,hcd⟩,hb4⟩;have A:Hid (Below (N+1) m w4):=P.trans (hb4.mono z3);by_cases R:cd=0
   .subst R;have d:=S (show ∀j,j<n+1->zM (Ar o b (zy L j)) 0 from λj hj=>by
     by_cases ej:j=n
     .subst ej;rw[<-D s];exact hcd
     .exact U j I)
    go_wp2;exact⟨⟨n+1,I,Jn,d,A⟩,Ji⟩
   .have HE:=S (show ∃i,i<Z L/\∃c,zM (Ar o b (zy L i)) c/\c≠0 from⟨n,X,cd,by rw[<-D s];exact hcd,R⟩);have hI:(cd != 0)=Vp:=Ju R
    go_wp2;go_ret;exact⟨⟨Vt,F,yX ⟨F,HE⟩⟩,l.trans (A.mono (by rw[<-D HN];omega))⟩
  .obtain rfl:n=Z L:=I;go_wp2;go_ret;exact⟨⟨Vp,F,yW ⟨F,U⟩⟩,p⟩
def F9(w g b a k):=ZD w g b k/\∀i,k<=i->i<Z a->JO w g 0 a i
def F9.skip{k b a}(h:F9 w g b a k)(f:k<Z a)(e:Y b k=Y a k):F9 w g b a (k+1):=by
 refine⟨⟨h.1.1,h.1.2.1,λi l=>?_⟩,λi j d=>h.2 i I d⟩;by_cases c:i=k
 .subst c;have:=h.2 i yk f;unfold JO at this ⊢;rw[e];exact this
 .exact h.1.2.2 i I
def F9.put{k j b}(h:F9 w g j b k)(m:k<Z b){t}(e:Y j k=⟨(Y b k).k,t,(Y b k).a,(Y b k).b⟩):F9 (w.setCell (J g (k*4+1)) (W t)) g j b (k+1):=by
 have out:∀q,q≠k*4+1->(w.setCell (J g (k*4+1)) (W t)).cell? (J g q)=w.cell? (J g q):=λq p=>yj _ _ _ _ (λx=>by injection x with _ x;omega)
 refine⟨⟨by simpa[World.setCell] using h.1.1,World.there_setCells h.1.2.1 g (k*4+1) [W t],λi o=>?_⟩,λi n l=>?_⟩
 .by_cases ei:i=k
  .subst ei;obtain⟨c,a,d,f⟩:=h.2 i yk m;unfold JO;rw[e];refine⟨(out _ I).trans c,?_,(out _ I).trans d,(out _ I).trans f⟩;rw[jd]at a ⊢;exact yu _ _ _ a
  .obtain⟨c,a,d,f⟩:=h.1.2.2 i I;exact⟨(out _ I).trans c,(out _ I).trans a,(out _ I).trans d,(out _ I).trans f⟩
 .obtain⟨c,a,d,f⟩:=h.2 i I l;exact⟨(out _ I).trans c,(out _ I).trans a,(out _ I).trans d,(out _ I).trans f⟩
def F9.y{w b g k d c}(h:F9 w g d c k)(a:Qb w b):F9 b g d c k:=
 ⟨h.1.y a h.1.1,λi e f=>(h.2 i e f).y a h.1.1⟩
def xJ{n}(c:1<=o.k/\o.k<=3):Da o n=((BN n.k==o.k)&&(n.t.toList==o.s.toList)):=by
 have a:decide (n.k=o.k+2)=(BN n.k==o.k):=by unfold BN;rw[jI];split<;>simp<;>omega
 have b:decide (n.t=o.s)=(n.t.toList==o.s.toList):=by rw[jI];simp;exact⟨λh=>by rw[h],λh=>Zd h⟩
 rw[Da,a,b]
def nT(g c z o b w)(hm:Z z<=1048576)(hw:Z2 w g 0 z)(hg:g<O w.1)(hk:1<=o.k/\o.k<=3):Calls Vb 131 #[BG o b,b9 #[Ql g (Z z) c]] w λe w'=>(∃L c1,e=i9 (b9 #[Ql L (Z z) c1])/\L<O w'.1/\Z2 w' L 0 (AV o b z))/\Below (O w.1) w w':=by
 unfold BG;obtain⟨N,M⟩:=Jx (O w.1);obtain⟨s,R⟩:=Jx (((w.alloc (JM (Df o b) 91)).alloc (JM #[Ql g (Z z) c] 40)).alloc (JM #[Jl] 40));have hz:O s.1=N+3:=by rw[R,M];simp
 have X:=S (by rw[R,M];exact((zC).alloc Js _).alloc Jq _:Below N w s);have u:=S (show Cm s N o b by
  rw[R,M]
  exact((Cm.new w o b _).y zC Js).y zC Jq)
 have q1:s.cell? (J (N+1) 0)=E (Ql g (Z z) c):=by rw[R,M];simp[go_sem]
 have C:=S (by rw[R,M];simp[go_sem]:s.cell? (J (N+2) 0)=E Jl);have a:=S (by rw[R,M];simp[go_sem]:s.frozen? (J (N+2) 0)=Vt);have P:=S (nS g c z s hm (hw.y X I) (Jy X.size));have HZ:=S hz;have HN:=S M;have HK:=S hk;unfold Df at R;clear hw hz hk;go_enter func131,ntmps131;go_wp2_with fail;rw[<-R,<-M];clear R M;go_call D P as e w1 ⟨⟨L,c1,rfl,hg1,hf⟩,hb1⟩;obtain⟨ys,j⟩:=Jx (AV o b z);have y:Z ys=Z z:=by rw[j,EZ]
 have m:=S y;have V:=S j;have U:=S (by rw[<-D HZ];exact hb1:Below (N+3) s w1);have A:=S (show F9 w1 L ys z 0 from⟨⟨hf.1,by rw[y];exact hf.2.1,λi hi=>yV hi (yz i)⟩,λi _ hi=>hf.2.2 i hi⟩);rw[D HZ]at hg1;clear hb1 hf P y j q1;go_wp2;go_loopw [13] (λi wr=>∃k:Nat,k<=Z z/\i=G k/\Hid (F9 wr L ys z k)/\Hid (Below (N+3) s wr)) (λi _=>Z z-(intOf i).toNat);case atStart=>exact⟨0,yn,F,A,U⟩
 case round=>
  clear A U;obtain⟨k,hk,rfl,HS,HB⟩:=hrel;by_cases H:k<Z z
  .have f:(k:Int)<Z z:=I;obtain⟨a0,a1,a2,a3⟩:=HS.2 k yk H;simp only[jd]at a0 a1 a2 a3;have HA:=S (Op (o:=o) (b:=b) H);rw[<-D V,xJ (D HK)]at HA;obtain⟨x,hx⟩:=Jx (Y z k);rw[<-hx]at a0 a1 a2 a3 HA;have HX:=S hx;obtain⟨T,K⟩:=Jx (wr.alloc (JM #[G x.k,W x.t,G x.a,G x.b] 108));have q:Below (O wr.1) wr T:=by rw[K];exact zC
   have t:=S (HS.y q);have zr:N+3<=O wr.1:=by have:=HB.size;have:=D HZ;omega
   have h:Hid (Below (N+3) s T):=HB.trans (q.mono zr);have x0:T.cell? (J (O wr.1) 0)=E (G x.k):=by rw[K];simp[go_sem]
   have x1:T.cell? (J (O wr.1) 1)=E (W x.t):=by rw[K];simp[go_sem]
   obtain⟨_,⟨d0,d1,d2,d3⟩,d4,d5,d6,d7⟩:=u.y h I;have l:=S K;have dn:∀n,Below (O T.1) T (T.drewN n):=λn=>⟨F,F,F,yk,λ_ _=>F⟩
   have DN:=S dn;clear hx K q dn;go_upto_region 5 with fail
   rw[<-D l];cases h1:BN x.k==o.k
   .have HN:=S (t.skip H (by rw[D HA,<-D HX];simp[h1]));go_quiet ((go_at_call 186;exact Calls.quiet_of_same (Mj _ _)));go_wp2;exact⟨⟨k+1,I,Jn,S (HN.y (DN _)),S (h.trans ((DN _).mono (by have:=h.size;have:=D HZ;omega)))⟩,Ji⟩
   .cases h2:x.t.toList==o.s.toList
    .have HN:=S (t.skip H (by rw[D HA,<-D HX];simp[h1,h2]));go_quiet ((go_at_call 186;exact Calls.quiet_of_same (Mj _ _)));go_wp2;exact⟨⟨k+1,I,Jn,S (HN.y (DN _)),S (h.trans ((DN _).mono (by have:=h.size;have:=D HZ;omega)))⟩,Ji⟩
    .have HE:=S (by rw[D HA,<-D HX];simp[h1,h2]:Y ys k=⟨(Y z k).k,b.s,(Y z k).a,(Y z k).b⟩);go_quiet ((go_at_call 186;exact Calls.quiet_of_same (Mj _ _)));have Q:=S (t.y (DN nq));have B:=S (h.trans ((DN nq).mono (by have:=h.size;have:=D HZ;omega)));obtain⟨_,_,e4,_,_,_⟩:=u.y B I;have f0:=(Q.2 k yk H).2.1;rw[jd]at f0;have f1:=(Q.1.2.1 (k*4+1) (by rw[D m];omega)).2;rw[jd]at f1;have HN:=S (Q.put H HE);generalize T.drewN nq=wq at *;go_wp2;exact⟨⟨k+1,I,Jn,HN,S (B.setCell (p:=(J L (k*4+1))) (I:N+3<=L) _)⟩,Ji⟩
  .obtain rfl:k=Z z:=I;have r2:=Jc HB I C;have r3:=Vf HB I a;have HE:=S (show ZD (wr.setCell (J (N+2) 0) (Ql L (Z z) c1)) L ys (Z ys) by
    rw[D m]
    exact HS.1.setCell _ _ _ (I:N+2≠L))
   have d:Hid (Below N w (wr.setCell (J (N+2) 0) (Ql L (Z z) c1))):=(X.trans (HB.mono I)).setCell (p:=(J (N+2) 0)) (show N<=N+2 by omega) _;go_wp2;refine yQ (v:=b9 #[Ql L (Z z) c1]) ?res F ⟨⟨L,c1,F,HE.1,?_⟩,?_⟩;case res=>simp[results,results131,go_sem, *]
   .rw[<-D V];exact HE.ops
   .rw[<-D HN];exact d
def nU(g c n z l k o b w)(hm:Z l<=1048576)(hw:Au w g 0 l)(hg:g<O w.1)(d:ZO l)(j:Z k<=1048576)(x:Z2 w n 0 k)(u:n<O w.1)(i:C5 k)(hk:1<=o.k/\o.k<=3)(q:b.s.size<=1048576):Calls Vb 76 #[BG o b,b9 #[Ql g (Z l) c],b9 #[Ql n (Z k) z]] w λe w'=>(∃pt pv,e=i9 (W pt)/\FH (Ar o b l) (AV o b k) pt pv)/\Below (O w.1) w w':=by
 unfold BG;obtain⟨N,t⟩:=Jx (O w.1);obtain⟨f,s⟩:=Jx (((w.alloc (JM (Df o b) 91)).alloc (JM #[Ql g (Z l) c] 45)).alloc (JM #[Ql n (Z k) z] 40));have hz:O f.1=N+3:=by rw[s,t];simp
 have h:Below (O w.1) w f:=by rw[s];exact((zC).alloc Js _).alloc Jq _
 have z0:=h.size;have P:Cm f N o b:=by rw[s,t];exact((Cm.new w o b _).y zC Js).y zC Jq
 have q1:f.cell? (J (N+1) 0)=E (Ql g (Z l) c):=by rw[s,t];simp[go_sem]
 have q2:f.cell? (J (N+2) 0)=E (Ql n (Z k) z):=by rw[s,t];simp[go_sem]
 have K:Hid (∀X,Below (O f.1) f X->Cm X N o b/\X.cell? (J (N+1) 0)=E (Ql g (Z l) c)/\X.cell? (J (N+2) 0)=E (Ql n (Z k) z)):=λX A=>⟨P.y A I,(A.cell (p:=(J (N+1) 0)) (show N+1<O f.1 by omega)).trans q1,(A.cell (p:=(J (N+2) 0)) (show N+2<O f.1 by omega)).trans q2⟩
 have HC:=S (UV g c l o b f.drew hm (hw.y h.drew hg) (I:g<O f.1));have HT:=S (λX (A:Below (O f.1) f X)=>nT n z k o b X j ((x.y h u).y A I) (Jy A.size) hk);have HP:=S (λC cu B cn X (h1:Au X C 0 (Ar o b l)) (h2:C<O X.1) (h3:Z2 X B 0 (AV o b k)) (h4:B<O X.1)=>fF C 0 cu B 0 cn (Ar o b l) (AV o b k) X (by rw[EY];exact hm) (by rw[EZ];exact j) h1 (Pw d q) h2 h3 (Wz i q) h4);rw[EZ,EY]at HP;have v:=S h;have HN:=S t;unfold BG at HC HT;unfold Df at s;obtain⟨_,⟨d0,d1,d2,d3⟩,d4,d5,d6,d7⟩:=P;clear hw x d i q h hk;go_enter func76,ntmps76;go_wp2_with fail;rw[<-s,<-t];clear s t;go_region_held3 (λX=>X.cell? (J N 0)=E (W o.s)/\X.cell? (J N 1)=E (G o.k)/\X.cell? (J N 2)=E (G o.l)/\X.cell? (J N 3)=E (G o.sd)/\X.cell? (J N 4)=E (W b.s)/\X.cell? (J N 5)=E (G b.k)/\X.cell? (J N 6)=E (G b.l)/\X.cell? (J N 7)=E (G b.sd)/\X.cell? (J (N+1) 0)=E (Ql g (Z l) c)/\X.cell? (J (N+2) 0)=E (Ql n (Z k) z)) (go_keep)
  (
   first
   |(go_at_call 123;(with_reducible refine(D HC).mono ?_);rintro e wa ⟨⟨C,cu,rfl,hgu,T⟩,L⟩;have H:Hid (Below (O f.1) f wa):=(yN).drew.trans L;obtain⟨⟨_,⟨e0,e1,e2,e3⟩,e4,e5,e6,e7⟩,e8,e9⟩:=(D K) wa H;have V:=S T;have a:=S (HT wa H);clear L T)
   |(go_at_call 131;(with_reducible refine(D a).mono ?_);rintro e wb ⟨⟨B,cn,rfl,hgn,R⟩,m⟩;have Q:Hid (Below (O f.1) f wb):=H.trans (m.mono H.size);obtain⟨⟨_,⟨f0,f1,f2,f3⟩,f4,f5,f6,f7⟩,f8,f9⟩:=(D K) wb Q;have U:=S (HP C cu B cn wb (V.y m hgu) (Jy m.size) R hgn);clear m R)
   |(go_at_call 130;(with_reducible refine(D U).mono ?_);rintro e wc ⟨⟨pt,pv,rfl,HPI⟩,M⟩;have y:Hid (Below (O f.1) f wc):=Q.trans (M.mono Q.size);obtain⟨⟨_,⟨h0,h1,h2,h3⟩,h4,h5,h6,h7⟩,h8,h9⟩:=(D K) wc y;clear M))
 go_wp2;go_ret;exact⟨⟨pt,pv,F,HPI⟩,v.trans (y.mono (by rw[<-D HN];omega))⟩
def IJ(a:Jp)(U:JC)(o:Ad)(n:Nat):List ByteArray:=(Bk U o n).map λi=>(Ae a i).n
def Ug(P cm cu cr am au ar ms U)(T:Nat->Jf)(ts)(vS:Nat->Value)(o w)(hn:Z ms<=100)(h:G5 w P am cm ms U T ts vS au cu ar cr)(s:∀i,i<Z ms->(Ah U i).os.length<=1048576):Calls Vb 69 #[Qp P,AJ o] w λe w'=>(∃v,e=i9 v/\zu w' (O w.1) v (IJ ms U o (Z ms)))/\Below (O w.1) w w':=by
 unfold AJ;obtain⟨N,hN⟩:=Jx (O w.1);obtain⟨hy,hW⟩:=Jx (w.alloc (JM #[W o.s,G o.k,G o.l,G o.sd] 25));have b:Below (O w.1) w hy:=by rw[hW];exact zC
 have HP:=S (h.y b);have hz:O hy.1=N+1:=by rw[hW,hN];simp
 have HO:=S (by rw[hW,hN];exact⟨Jg,Jg,Jg,Jg⟩:A4 hy N o);have ha:=S b;have HW:=S hz;have HN:=S hN;have he:=S s;have c1:=HP.c1;clear h b hz s;go_enter func69,ntmps69;go_upto_region 2 with fail
 rw[<-hW,<-hN];clear hW hN;go_wp2;go_loopw [5,15] (λout i wr=>∃(n:Nat)(ds:Jv),n<=Z ms/\i=G n/\Hid (ds=IJ ms U o n)/\Hid (zu wr (N+1) out ds)/\Hid (Z ds<=1048576*n)/\Hid (Below (N+1) hy wr)) (λ_ i _=>Z ms-(intOf i).toNat);case atStart=>exact⟨0,[],yn,F,S F,S jt,S yn,S yN⟩
 case round=>
  obtain⟨n,ds,hp,rfl,z,HR,H,HB⟩:=hrel;have K:=S (by rw[D HW];exact D HB:Below (O hy.1) hy wr);have zr:N+1<=O wr.1:=by have:=K.size;have:=D HW;omega
  obtain⟨av,cv,rfl⟩:=zS HR;by_cases hu:n<Z ms
  .have hl:(n:Int)<Z ms:=I;obtain⟨g,vu,vo,rfl,hg,u0,u1,u2,M,ua,un,uc,rfl⟩:=(HP.y K).un n hu;obtain⟨bA,t,rfl,u,hm⟩:=HP.arg.resolve_left I;have m:=S (u n hu).1;have ht:bA<N+1:=Jy (D HW)
   have hw:=(D he) n hu;have f:=S (show ∀W',Below (O hy.1) hy W'->ZX W' vo (Ah U n).os from λW' hb=>by
    obtain⟨g',_,vo',e,_,_,h1,_,h2,_⟩:=HP.un n hu
    obtain⟨rfl⟩:g=g':=by injection e with e;injection e
    have:=(K.cell (p:=(J g (n*3+1))) (jk _ _ h1)).trans h1
    rw[u1]at this
    injection this with this
    rw[this]
    exact h2.y hb)
   obtain⟨os,d⟩:=Jx ((Ah U n).os);obtain⟨bd,R⟩:=Jx ((Ah U n).b);obtain⟨nm,l⟩:=Jx ((Ae ms n).n);rw[<-d]at hw f M;rw[<-R]at u2;rw[<-l]at m;obtain⟨ao,co,rfl,_⟩:=M;obtain⟨W4,j⟩:=Jx (wr.alloc (JM #[.slice ua un uc,i6 ao (Z os) co,W bd] 65));have c:Below (O wr.1) wr W4:=by rw[j];exact zC
   have x1:W4.cell? (J (O wr.1) 1)=E (i6 ao (Z os) co):=by rw[j];simp[go_sem]
   have hv:=S (HR.y c);have V:=S (HB.trans (c.mono zr));have hi:=S (by simp[IJ,Bk,d,l]:IJ ms U o (n+1)=IJ ms U o n++List.replicate (Cl o os) nm);have hd:=S j;clear d R l u c j;go_upto_region 5 with fail
   rw[<-D hd];go_wp2_with fail;clear x1 u0 u1 u2;go_loopw [5,23] (λout kk wr=>∃(k:Nat)(es:Jv),k<=Z os/\kk=G k/\Hid (es=ds++List.replicate (Cl o (os.take k)) nm)/\Hid (zu wr (N+1) out es)/\Hid (Z es<=1048576*n+k)/\Hid (Below (N+1) hy wr)) (λ_ kk _=>Z os-(intOf kk).toNat);case atStart=>exact⟨0,ds,yn,F,S (by simp[Cl]),hv,H,V⟩
   case round=>
    clear HR HB H K hv V zr;obtain⟨k,es,hk,rfl,a,HR,H,HB⟩:=hrel;have K:=S (by rw[D HW];exact D HB:Below (O hy.1) hy wr);have zr:N+1<=O wr.1:=by have:=K.size;have:=D HW;omega
    obtain⟨aw,cw,rfl⟩:=zS HR;by_cases L:k<Z os
    .have ho:(k:Int)<Z os:=I;obtain⟨a',c',e,h⟩:=(D f) wr K;obtain⟨rfl,_,rfl⟩:=Value.slice.inj e;obtain⟨g2,rfl,hs,hC⟩:=h.resolve_left (λx=>I);obtain⟨a0,a1,a2,a3⟩:=hC k L;simp only[jd]at a0 a1 a2 a3;obtain⟨x,hx⟩:=Jx (r os k);have HT:=S (Wk (o:=o) L);rw[<-hx]at a0 a1 a2 a3 HT;obtain⟨W6,X⟩:=Jx (wr.alloc (JM #[W x.s,G x.k,G x.l,G x.sd] 25));have y:Below (O wr.1) wr W6:=by rw[X];exact zC
     have A:=S (HR.y y);have Q:=S (HB.trans (y.mono zr));obtain⟨x0,x1,x2,x3⟩:A4 W6 (O wr.1) x:=by rw[X];exact⟨Jg,Jg,Jg,Jg⟩
     obtain⟨d0,d1,d2,d3⟩:=HO.below4 Q I;have hq:=λhy=>I2 x o hy
     have hr:=JJ;have z6:N+1<=O W6.1:=Jy y.size
     have hf:=S X;clear hC h e X y hx;go_upto_region 8 with fail
     rw[<-D hf];cases hsm:ZH x o
     .have C:=S hsm;simp only[hsm]at hq;go_wp2;refine⟨⟨k+1,es,I,Jn,S ?_,A,S (Jy (D H)),Q⟩,Ji⟩;rw[D HT,D C,D a];simp
     .have C:=S hsm;simp only[hsm]at hq;have p0:=Jc Q (by have h1:P<O hy.1:=jk _ _ HP.c0;have:=D HW;show P<N+1;omega) HP.c0;have m0:=Jc Q ht m;go_wp2_with (at_builtin;refine As Z7 underlying63 (.tmp 30) (.tmp 39) F rfl (N+1) _ (Z es) (zU es) F (A.y zC) (J (O W6.1) 0) 1 1 (zU [nm]) F rfl (Zu W6 nm) (ZA _) (by have:=D H;unfold maxLen;omega) (Jy (D H)) Jh ?_);intro v4 w4 B hA hh hj;have hc:=S (by unfold zu;rw[Zi,yr];exact B:zu w4 (N+1) v4 (es++[nm]));have V:Hid (Below (N+1) hy w4):=(Q.alloc z6 _).grown hA Jq (λq hq=>(A.lt q hq).1);go_wp2;refine⟨⟨k+1,es++[nm],I,Jn,S ?_,hc,S (by have:=D H;simp;omega),V⟩,Ji⟩;rw[D HT,D C,D a,yD];simp[List.replicate_succ']
    .obtain rfl:k=Z os:=I;have hB:=S (by rw[D a,D hi,D z,jJ]:es=IJ ms U o (n+1));go_wp2;exact⟨⟨n+1,es,I,Jn,hB,HR,S (Jy (D H)),HB⟩,Ji⟩
  .obtain rfl:n=Z ms:=I;have e:=D z;subst e;have HG:Hid (Below (O w.1) w wr):=ha.trans (HB.mono (by rw[<-D HN];omega));go_wp2;go_ret;exact⟨⟨_,F,HR.base (by rw[<-D HN];omega)⟩,HG⟩
def VH(v f b m w)(B:Z f<=1048576000)(o:ZM w v f)(C:w.cell? (J b 0)=E (W m)):Calls Vb 68 #[v,Ql b 1 1] w λe w'=>(∃d,e=i9 (i7 d)/\(d=Vp↔f=[m]))/\Qb w w':=by
 obtain⟨a,c,rfl,o⟩:=o;by_cases l:Z f=1
 .obtain⟨x,rfl⟩:=List.length_eq_one_iff.1 l;obtain⟨g,rfl,z,u⟩:=o.resolve_left Js;have y:=u 0 x F;rw[l];cases n:x.toList==m.toList
  .have j:=S (show Vt=Vp↔[x]=[m] from⟨λh=>(by cases h),λh=>by
    injection h with h
    rw[h]at n
    simp at n⟩)
   go_enter func68,ntmps68;go_wp2;go_loopw [13] (λi wr=>i=G 0/\wr=w) (λ_ _=>0);case atStart=>exact⟨F,F⟩
   case round=>obtain⟨rfl,p⟩:=hrel;have hx:=p.symm;subst hx;go_wp2_with fail;go_quiet (fail);go_wp2;go_ret;exact⟨⟨Vt,F,j⟩,below_drewN yN _⟩
  .have j:=S (by have e:x=m:=Zd (Ju n);rw[e]:[x]=[m]);go_enter func68,ntmps68;go_wp2;go_loopw [13] (λi wr=>∃k:Nat,k<=1/\i=G k/\Qb w wr/\(k=0->wr=w)) (λi _=>1-(intOf i).toNat);case atStart=>exact⟨0,yn,F,yN,λ_=>F⟩
   case round=>
    obtain⟨k,A,rfl,t,p⟩:=hrel;by_cases s:k=0
    .subst s;obtain rfl:=(p F).symm;go_wp2_with fail;go_quiet (fail);go_wp2;exact⟨⟨1,I,Jn,below_drewN yN _,λh=>I⟩,by simp[intOf]⟩
    .obtain rfl:k=1:=I;have q:=S t;go_wp2;go_ret;exact⟨⟨Vp,F,⟨λ_=>j,λ_=>F⟩⟩,q⟩
 .have hI:((Z f:Int)!=1)=Vp:=Jq;have j:=S (show Vt=Vp↔f=[m] from⟨λh=>(by cases h),λh=>yV (by rw[h];rfl) l⟩);go_enter func68,ntmps68;go_wp2;go_ret;exact⟨⟨Vt,F,j⟩,yN⟩
def Dd(o:Ad)(T:Nat->Jf)(n:Nat):List Nat:=(List.range n).filter λi=>Bh o (T i)
def uR(o)(T:Nat->Jf)(n):Z (Dd o T n)<=n:=by have:=List.length_filter_le (λi=>Bh o (T i)) (List.range n);simpa[Dd] using this
def MD{i}:i∈Dd o T n↔i<n/\Bh o (T i)=Vp:=by simp[Dd]
def qL(o)(T:Nat->Jf)(n):Dd o T (n+1)=Dd o T n++if Bh o (T n)=Vp then[n] else[]:=by simp only[Dd,List.range_succ,List.filter_append];congr 1;cases h:Bh o (T n)<;>simp[h]
def cZ(P cm cu cr am au ar ms U)(T:Nat->Jf)(ts)(vS:Nat->Value)(o b w)(hn:Z ms<=100)(h:G5 w P am cm ms U T ts vS au cu ar cr)(hT:∀i,i<Z ms->Z (T i)<=1048576):Calls Vb 66 #[Qp P,BG o b] w λe w'=>(∃v,e=i9 v/\FL w' v ((Dd o T (Z ms)).map T))/\Below (O w.1) w w':=by
 unfold BG;obtain⟨N,hN⟩:=Jx (O w.1);obtain⟨hv,hW⟩:=Jx (w.alloc (JM (Df o b) 91));have f:Below (O w.1) w hv:=by rw[hW];exact zC
 have HP:=S (h.y f);have hz:O hv.1=N+1:=by rw[hW,hN];simp
 have ht:=S (by rw[hW,hN];exact Cm.new w o b _:Cm hv N o b);have hy:=S f;have HW:=S hz;have HN:=S hN;have HT:=S hT;have c0:=HP.c0;unfold Df at hW;clear h f hz hT;go_enter func66,ntmps66;go_upto_region 2 with fail
 rw[<-hW,<-hN];clear hW hN;go_wp2;go_loopw [5,14] (λout i wr=>∃(n:Nat)(js:List Nat),n<=Z ms/\i=G n/\Hid (js=Dd o T n)/\Hid (wr.ownsRow (N+1) 45 1 out (Z js) (js.map vS))/\Z js<=n/\Hid (Below (N+1) hv wr)) (λ_ i _=>Z ms-(intOf i).toNat);case atStart=>exact⟨0,[],yn,F,S F,S jt,yk,S yN⟩
 case round=>
  obtain⟨n,js,hl,rfl,HJ,HR,hg,HB⟩:=hrel;have k:=S (by rw[D HW];exact D HB:Below (O hv.1) hv wr);have zr:N+1<=O wr.1:=by have:=k.size;have:=D HW;omega
  obtain⟨av,cv,rfl⟩:=zS HR;by_cases hw:n<Z ms
  .have he:(n:Int)<Z ms:=I;have B:=S (HP.y k);obtain⟨bA,hf,rfl,hp,hh⟩:=B.arg.resolve_left I;obtain⟨m0,m1⟩:=hp n hw;obtain⟨nm,t⟩:=Jx ((Ae ms n).n);obtain⟨tx,m⟩:=Jx ((Ae ms n).t);rw[<-t]at m0;rw[<-m]at m1;obtain⟨W4,X⟩:=Jx (wr.alloc (JM #[W nm,W tx] 49));have y:Below (O wr.1) wr W4:=by rw[X];exact zC
   have y0:W4.cell? (J (O wr.1) 0)=E (W nm):=by rw[X];simp[go_sem]
   have C:=S (B.sc n hw W4 y);have A:=S (B.so n hw);obtain⟨a,c,e,_⟩:=D A;have HE:=S e;rw[<-t,e]at C;rw[e]at A;have hs:=(D HT) n hw;have z4:=y.size;have hb:=S y;have R:=S X;clear hp t m e y X;go_upto_region 5 with fail
   rw[<-D R];go_wp2_with fail;go_call D C as e w5 ⟨rfl,hb5⟩;obtain⟨W5,H⟩:=Jx (w5.alloc (JM #[.slice a (Z (T n)) c] 45));have V:Below (O w5.1) w5 W5:=by rw[H];exact zC
   have x0:W5.cell? (J (O w5.1) 0)=E (i6 a (Z (T n)) c):=by rw[H];simp[go_sem]
   have Q:Below (O wr.1) wr W5:=(hb.trans (hb5.mono z4)).trans (V.mono (Jy hb5.size));have ho:=S (HB.trans (Q.mono zr));have z5:O w5.1<O W5.1:=by rw[H];simp
   have zw5:O wr.1<=O w5.1:=Jy hb5.size
   have l:=S (I6 HR (λg e=>Q.block g (ji HR g e).2));obtain⟨_,⟨d0,d1,d2,d3⟩,d4,d5,d6,d7⟩:=ht.y ho I;have L:=S (US (i6 a (Z (T n)) c) (T n) o b W5 hs (A.y Q));have hx:=S H;unfold BG at L;clear hb5 V H Q C y0;go_upto_region 6 with fail
   rw[<-D hx];go_wp2_with fail;go_call D L as e w6 ⟨rfl,hb6⟩;have z:=S (ho.trans (hb6.mono I));have x:=S (I6 l (λg e=>hb6.block g (ji l g e).2));have x6:=Jc hb6 z5 x0;have z6:N+1<=O w6.1:=Jy hb6.size
   have HS:=S (qL o T n);cases hin:Bh o (T n)
   .have p:=S (by rw[D HS,hin,D HJ];simp:js=Dd o T (n+1));go_wp2;exact⟨⟨n+1,js,I,Jn,p,x,I,z⟩,Ji⟩
   .have p:=S (by rw[D HS,hin,D HJ];simp:js++[n]=Dd o T (n+1));go_wp2_with (at_builtin;refine As XV underlying35 (.tmp 25) (.tmp 27) F rfl (N+1) _ (Z js) (js.map vS) F (I6 x (λg e=>(@zC w6 _).block g (ji x g e).2)) (J (O w6.1) 0) 1 1 [.slice a (Z (T n)) c] F rfl (λj u hj=>(by cases j with|zero=>(simp at hj;subst hj;simp[go_sem])|succ j=>simp at hj)) (λu hu=>(by simp at hu;subst hu;rfl)) Jm I Jh ?_);intro v4 w4 d K hc hd;have s:=S (by rw[yr,List.map_append];simp only[jC,List.map_nil];rw[D HE];exact d:w4.ownsRow (N+1) 45 1 v4 (Z (js++[n])) ((js++[n]).map vS));have M:Hid (Below (N+1) hv w4):=(z.alloc z6 _).grown K Jq (λq hq=>(ji x q hq).1);go_wp2;exact⟨⟨n+1,js++[n],I,Jn,p,s,Jq,M⟩,Ji⟩
  .obtain rfl:n=Z ms:=I;have ha:=S (show FL wr (i6 av (Z js) cv) ((Dd o T (Z ms)).map T) by
    rw[<-D HJ]
    refine⟨av,cv,by rw[List.length_map],?_⟩
    by_cases h0:Z js=0
    .exact yW (by rw[List.length_map];exact h0)
    have hr:=D HR
    obtain⟨_,⟨_,h1⟩|⟨g,cap,hk,e,_⟩⟩:=id hr
    .exact yV h1 h0
    .obtain⟨rfl,_,rfl⟩:=Value.slice.inj e
     refine yX ⟨g,F,(ji hr g F).2,λi hi=>?_⟩
     rw[List.length_map]at hi
     refine⟨vS js[i],by rw[jK hr i I];simp[hi],?_⟩
     have hm:js[i]<Z ms:=(MD.1 (by rw[<-D HJ];exact List.getElem_mem hi)).1
     have e2:zy (js.map T) i=T js[i]:=by simp[zy,hi]
     rw[e2]
     exact(HP.so _ hm).y k)
   have HG:Hid (Below (O w.1) w wr):=hy.trans (HB.mono (by rw[<-D HN];omega));go_wp2;go_ret;exact⟨⟨_,F,ha⟩,HG⟩
def uS(s)(f:s.size<=20000)(w)(b:CP w):Calls Vb 125 #[W s,W ⟨#[10]⟩] w λe w'=>∃ps:Jv,Hid (ps=(AD 10 s 0).map λp=>s.extract p.1 p.2)/\Z ps<=s.size+1/\e=i9 (Ql (O w.1) (Z ps) (Z ps))/\w'=w.alloc (JM (ps.map Value.string).toArray 9):=by obtain⟨m,b⟩:=b;have a:1<=(⟨#[10]⟩:JZ).size:=yk;go_call Any.strings_Split Yx Jk s ⟨#[10]⟩ m w I b a as e w' ⟨rfl,rfl⟩;have c:=Lib.splitB_all ⟨#[10]⟩ a 0 _ s F;have d:=Lib.countB_le ⟨#[10]⟩ a s.size s yk;exact⟨Lib.splitB ⟨#[10]⟩ 0 (Lib.countB s ⟨#[10]⟩) s,S (UY 10 s),I,by rw[c],F⟩
theorem cF{o b}:∀(ps cs:Jv),Z cs=Z ps->(∀j,j<Z ps->L7 o b (AG ps j) (AG cs j))->J6 o b ps cs
 |[],cs,hl,_=>jg.1 hl
 |p::a,[],hl,_=>by simp at hl
 |p::a,c::s,hl,h=>⟨c,s,F,h 0 Js,cF a s (Ju hl) λj d=>h (j+1) (Ju d)⟩
theorem bD{M}:∀(xs:Jv),(∀j,j<Z xs->(AG xs j).size<=M)->Z (Lib.join (xs.map (·.data.toList)) [10])<=Z xs*(M+1)
 |[],_=>by simp[Lib.join,List.intercalate]
 |[x],h=>by have:=h 0 Js;have e:AG [x] 0=x:=F;rw[e]at this;simp[Lib.join_one];omega
 |x::y::a,h=>by
  have b:=h 0 Js;have e:AG (x::y::a) 0=x:=F;rw[e]at b;have d:=bD (y::a) λj c=>h (j+1) (Ju c)
  have:Z (Lib.join ((x::y::a).map (·.data.toList)) [10])=x.size+1+Z (Lib.join ((y::a).map (·.data.toList)) [10]):=by simp[Lib.join,List.intercalate,List.intersperse];omega
  rw[this];simp only[yB]at d ⊢;rw[Nat.succ_mul (Z a+1)];omega
structure F4(w:JY)(g k:Nat)(o b:Ad)(ps cs:Jv):Prop where
 h:g<O w.1
 ce:∀j,j<Z cs->w.cell? (J g j)=E (W (AG cs j))/\w.frozen? (J g j)=Vt
 l:Z cs=Z ps
 lo:∀j,j<k->L7 o b (AG ps j) (AG cs j)
 hi:∀j,k<=j->AG cs j=AG ps j
 z:∀j,j<Z cs->(AG cs j).size<=20000
def F4.y{k:Nat}(h:F4 w g k o b ps cs)(a:Qb w w'):F4 w' g k o b ps cs:=
 ⟨ym h.h a.size,λj c=>⟨Jc a h.h (h.ce j c).1,(a.frozen (p:=J g j) h.h).trans (h.ce j c).2⟩,h.l,h.lo,h.hi,h.z⟩
def F4.skip{k}(h:F4 w g k o b ps cs)(c:¬ Bb (AA (AG ps k)) o):F4 w g (k+1) o b ps cs:=by
 refine⟨h.h,h.ce,h.l,λj a=>?_,λj a=>h.hi j I,h.z⟩;by_cases e:j=k
 .subst e;exact yX ⟨c,h.hi j yk⟩
 .exact h.lo j I
def F4.put{k}(h:F4 w g k o b ps cs)(d:k<Z cs)(f:Bb (AA (AG ps k)) o)(i:(ZR (dW b)).size<=20000):F4 (w.setCell (J g k) (W (ZR (dW b)))) g (k+1) o b ps (cs.set k (ZR (dW b))):=by
 have c:∀j,AG (cs.set k (ZR (dW b))) j=if j=k then ZR (dW b) else AG cs j:=λj=>by
  unfold AG;simp only[yq,List.getElem?_set];by_cases e:k=j
  .subst e;simp[d]
  .rw[yS e,yS (λx=>e x.symm)]
 refine⟨by simpa[World.setCell] using h.h,λj a=>?_,by rw[List.length_set];exact h.l,λj a=>?_,λj a=>?_,λj a=>?_⟩
 .rw[List.length_set]at a;rw[c];refine⟨?_,(yx).trans (h.ce j a).2⟩;by_cases e:j=k
  .subst e;rw[yU rfl];exact yu _ _ _ (h.ce j a).1
  .rw[yS e];exact(yj _ _ _ _ (λx=>by injection x with _ x;exact e x.symm)).trans (h.ce j a).1
 .rw[c];by_cases e:j=k
  .subst e;rw[yU rfl];exact yW ⟨f,F⟩
  .rw[yS e];exact h.lo j I
 .rw[c,yS I];exact h.hi j I
 .rw[List.length_set]at a;rw[c];split
  .exact i
  .exact h.z j a
def S9{a i}(h:i<Z a):a[i]?=E (AG a i):=by unfold AG;rw[yq,yt h];rfl
def gN(s o b w)(hs:s.size<=20000)(hm:CP w)(ht:CH w)(hb:Cz b)(c:b.s.size<=16):Calls Vb 75 #[BG o b,W s] w λe w'=>(∃ls,e=i9 (W (jn ls))/\(jn ls).size<=1000000000/\J6 o b ((AD 10 s 0).map λp=>s.extract p.1 p.2) ls)/\Below (O w.1) w w':=by
 unfold BG;obtain⟨N,hN⟩:=Jx (O w.1);obtain⟨hu,hW⟩:=Jx (w.alloc (JM (Df o b) 91));have hz:O hu.1=N+1:=by rw[hW,hN];simp
 have hv:Below (O w.1) w hu:=by rw[hW];exact zC
 have n:=S (by rw[hW,hN];exact Cm.new w o b _:Cm hu N o b);have HM:=S (hm.y hv);have HT:=S (ht.y hv);have f:=S (uS s hs hu HM);have m:=S hv;have HZ:=S hz;have HN:=S hN;have he:=Nu c;unfold Df at hW;clear hm ht hv;go_enter func75,ntmps75;go_wp2_with fail;rw[<-hW,<-hN];clear hW hN;go_call D f as e W1 ⟨ps,HPS,hpl,rfl,hW1⟩;rw[hz];have hh:Below (O hu.1) hu W1:=by rw[hW1];exact zC
 have z1:O W1.1=N+2:=by rw[hW1];simp[hz]
 have B:=S (show F4 W1 (N+1) 0 o b ps ps by
  refine⟨I,λj hj=>?_,F,λj hj=>yV hj (yz j),λ_ _=>F,λj hj=>?_⟩
  .rw[hW1,<-hz]
   exact⟨Wn hu ps j _ (S9 hj),Jg⟩
  .have hx:=yE (S9 hj)
   rw[D HPS]at hx
   obtain⟨p,_,e⟩:=List.mem_map.1 hx
   rw[<-D HPS]at e
   rw[<-e,ZW]
   omega)
 have hp:=S hh;have hd:=S z1;clear hW1 hh f hz z1;go_wp2;go_loopw [14] (λi wr=>∃(k:Nat)(cs:Jv),k<=Z ps/\i=G k/\Hid (F4 wr (N+1) k o b ps cs)/\Hid (Below (N+1) hu wr)) (λi _=>Z ps-(intOf i).toNat);case atStart=>exact⟨0,ps,yn,F,B,S (hp.mono (by rw[D HZ];exact yk))⟩
 case round=>
  clear B;obtain⟨k,cs,hk,rfl,HL,HB⟩:=hrel;have zr:=HL.h;have a:=HL.l;have R:=S (HM.below' HB (by have:=HM.lt;rw[D HZ]at this;exact this));by_cases hc:k<Z ps
  .have hw:(k:Int)<Z ps:=I;have q:k<Z cs:=I;obtain⟨c0,f0⟩:=HL.ce k q;have C:=HL.z k q;have V:=HL.hi k yk;obtain⟨l,hl⟩:=Jx (AG cs k);rw[<-hl]at c0 C V;have A:=S V;have d:=S (UM l wr C R);clear hl V;go_wp2_with fail;go_call D d as e w2 ⟨v2,rfl,hr2,hwl,hb2⟩;have HD:=S (T3 v2 (AA l) w2 hr2.strs (λx hx=>by have:=PB hx;unfold maxLen;omega));have t:=S (hb2);clear hr2 hb2 d;go_wp2_with fail;go_call D HD as e w3 ⟨x,ok,rfl,hcase,hb3⟩;obtain⟨W3,y⟩:=Jx (w3.alloc (JM #[W x.s,G x.k,G x.l,G x.sd] 25));have P:Below (O w3.1) w3 W3:=by rw[y];exact zC
   have z2:=t.size;have v:Below (O wr.1) wr W3:=(t.trans (hb3.mono z2)).trans (P.mono (Jy hb3.size));have u:=S (HL.y v);have H:=S (HB.trans (v.mono I));obtain⟨x0,x1,x2,x3⟩:A4 W3 (O w3.1) x:=by rw[y];exact⟨Jg,Jg,Jg,Jg⟩
   obtain⟨_,⟨d0,d1,d2,d3⟩,d4,d5,d6,d7⟩:=n.y H I;have HQ:=S (λhu=>I2 x o hu);have hf:=JJ;have g:=S y;have key:(ok=Vp/\ZH x o=Vp/\Bb (AA l) o)\/((ok=Vt\/ZH x o=Vt)/\¬ Bb (AA l) o):=by
    rcases hcase with⟨rfl,h⟩|⟨rfl,h⟩
    .by_cases e:x=o
     .subst e;exact yW ⟨F,zZ.2 F,h⟩
     .refine yX ⟨yX ?_,λh'=>e (h.one h')⟩;cases hx:ZH x o with
      |false=>rfl
      |true=>exact yV (zZ.1 hx) e
    .exact yX ⟨yW F,h o⟩
   clear hcase y P v hb3 HD;go_upto_region 6 with fail
   rw[<-D g];rcases key with⟨rfl,Q,X⟩|⟨hr,X⟩
   .have hq:=D HQ;simp only[Q]at hq;have z:=S (cX b W3 hb c (HT.y (by show Below _ _ _;rw[D HZ];exact H)));have hy:=S X;clear Q X;go_wp2_with fail;go_call D z as e w4 ⟨rfl,hb4⟩;have U:=S (u.y hb4);obtain⟨e0,e1⟩:=U.ce k q;have K:=S (U.put q (by rw[<-D A];exact hy) I);have T:=S (H.trans (hb4.mono (Nat.le_of_lt u.h)));obtain⟨ho,hJ⟩:=Jx (ZR (dW b));rw[<-hJ]at K ⊢;clear hb4 z hJ c0 f0 x0 x1 x2 x3 d0 d1 d2 d3 d4 d5 d6 d7 hq HQ;go_wp2;exact⟨⟨k+1,cs.set k ho,I,Jn,K,S (T.setCell (p:=(J (N+1) k)) yk _)⟩,Ji⟩
   .have K:=S (u.skip (by rw[<-D A];exact X));have hn:ok=Vt\/(ok=Vp/\ZH x o=Vt):=by
     cases ok with
     |false=>exact yW F
     |true=>exact yX ⟨F,hr.resolve_left Js⟩
    rcases hn with rfl|⟨rfl,Q⟩
    .clear HQ;go_wp2;exact⟨⟨k+1,cs,I,Jn,K,H⟩,Ji⟩
    .have hq:=D HQ;simp only[Q]at hq;go_wp2;exact⟨⟨k+1,cs,I,Jn,K,H⟩,Ji⟩
  .obtain rfl:k=Z ps:=I;have ha:=bD cs (λj hj=>HL.z j hj);have hg:Z cs*(20000+1)<=20001*20001:=Nat.mul_le_mul I I;have HJ:=S (Xo (N+1) 0 (Z ps) cs ⟨#[10]⟩ wr (λj x hj=>by
    have hl:=(jf.1 hj).1
    rw[jd,((D HL).ce j hl).1]
    rw[S9 hl]at hj
    injection hj with hj
    rw[hj]) zr I I (by show(Z (Lib.join (cs.map (·.data.toList)) [10]))<=_;omega))
   have L:=S (cF ps cs a HL.lo);have hi:=S (by show(Lib.join (cs.map (·.data.toList)) [10]).toArray.size<=_;simp only[List.size_toArray];omega:(jn cs).size<=1000000000);rw[a]at HJ;go_wp2_with fail;go_call D HJ as e w4 ⟨rfl,hb4⟩;have M:Hid (Below (O w.1) w w4):=m.trans ((HB.trans (hb4.mono I)).mono (by rw[<-D HN];omega));go_wp2;go_ret;refine⟨⟨cs,F,hi,?_⟩,M⟩;rw[<-D HPS];exact L
def JS(b)(U:JC)(a:JE)(q:ZB)(c:Int):=
 (c=2/\¬ BJ q)\/(BJ q/\((c=3/\¬ CD b U q)\/(CD b U q/\((c=4/\FY a (Z b) q)\/(¬ FY a (Z b) q/\((c=5/\J7 a (Z b) q)\/(c=0/\¬ J7 a (Z b) q)))))))
def YS{Q:Jf->Prop}:(∀i,i<Z ((Dd o T n).map T)->Q (zy ((Dd o T n).map T) i))↔∀i,i<n->o∈T i->Q (T i):=by
 constructor
 .intro h i hi ho;obtain⟨j,a,e⟩:=List.mem_iff_getElem.1 (MD.2 ⟨hi,Zz.2 ho⟩);have:=h j (by rw[List.length_map];exact a);simpa[zy,a,e] using this
 .intro h j a;rw[List.length_map]at a;obtain⟨b,c⟩:=MD.1 (List.getElem_mem a);have:=h _ b (Zz.1 c);simpa[zy,a] using this
def tG:IB b ((Dd o T n).map T)=Vp↔∃i,i<n/\o∈T i/\b∈T i:=by
 simp only[IB,List.any_eq_true,List.mem_map];constructor
 .rintro⟨x,⟨i,hi,rfl⟩,hx⟩;obtain⟨a,c⟩:=MD.1 hi;exact⟨i,a,Zz.1 c,Zz.1 hx⟩
 .rintro⟨i,a,c,h3⟩;exact⟨_,⟨i,MD.2 ⟨a,Zz.2 c⟩,F⟩,Zz.2 h3⟩
def lK(P cm cu cr am au ar ms U)(T:Nat->Jf)(ts)(vS:Nat->Value)(q w)(hn:Z ms<=100)(h:G5 w P am cm ms U T ts vS au cu ar cr)(hT:∀i,i<Z ms->Z (T i)<=1048576/\ZO (T i))(hA:∀i,i<Z ms->(Ah U i).os.length<=1048576)(hK:q.o.s.size<=1048576)(hM:q.t.size<=1048576):Calls Vb 39 #[Qp P,Bt q] w λe w'=>(∃c,e=i9 (G c)/\JS ms U ((List.range (Z ms)).map T) q c)/\Below (O w.1) w w':=by
 obtain⟨N,hN⟩:=Jx (O w.1);obtain⟨hU,hW⟩:=Jx (w.alloc (JM (A5 q) 27));have h6:Below (O w.1) w hU:=by rw[hW];exact zC
 have hz:O hU.1=N+1:=by rw[hW,hN];simp
 have HQ:=S (by rw[hW,hN];exact E5.new w q _:E5 hU N q);have HP:=S (h.y h6);obtain⟨b,o⟩:∃b,Hid (b=ZU q):=⟨_,S F⟩;have hF:=S (by rw[D o];exact bP hK hM:b.s.size<=1048576);have s:=S (VF q hU);rw[<-D o]at s;have hp:=S h6;have HZ:=S hz;have HN:=S hN;have HT:=S hT;have hv:=S hA;obtain⟨_,q0,q1,q2,q3,q4,q5,q6,q7,q8⟩:=D HQ;unfold Bt BG at s;unfold Bt;unfold A5 at hW;clear h h6 hz hT hA;go_enter func39,ntmps39;go_upto_region 1 with fail
 rw[<-hW,<-hN];clear hW hN;go_wp2_with fail;go_call D s as e w1 ⟨rfl,hb1⟩;obtain⟨X,hX⟩:=Jx (O w1.1);obtain⟨W1,d⟩:=Jx (w1.alloc (JM (Df q.o b) 91));have ha:Below (O w1.1) w1 W1:=by rw[d];exact zC
 have y:=hb1.trans (ha.mono hb1.size);have p:=S (by rw[d,hX];exact Cm.new w1 q.o b _:Cm W1 X q.o b);have hl:=S (HP.y y);have hx:=S (HQ.y y HQ.h);have hw:=S (hp.trans (y.mono hp.size));have hs:=S (cZ P cm cu cr am au ar ms U T ts vS q.o b W1 hn hl (λi hi=>(HT i hi).1));obtain⟨_,⟨d0,d1,d2,d3⟩,d4,d5,d6,d7⟩:=D p;unfold Df at d;unfold BG at hs;clear hb1 ha y s q0 q1 q2 q3 q4 q5 q6 q7 q8;go_upto_region 2 with fail
 rw[<-d,<-hX];clear d hX;go_wp2_with fail;go_call D hs as e w2 ⟨⟨v2,rfl,hv2⟩,hb2⟩;have hD:=S hv2;have hB:=S (hl.y hb2);have f:=S (hx.y hb2 hx.h);have a:=S (p.y hb2 p.h);have h4:=S (hw.trans (hb2.mono hw.size));have ht:=S (jY q w2);obtain⟨_,q0,q1,q2,q3,q4,q5,q6,q7,q8⟩:=D f;unfold Bt at ht;clear hb2 hv2 hs hl hx p hw d0 d1 d2 d3 d4 d5 d6 d7 HP HQ hp;go_wp2_with fail;go_call D ht as e w3 ⟨⟨hZ,rfl,hr⟩,hb3⟩;have hH:=S (hD.y hb3);have hP:=S (hB.y hb3);have hu:=S (f.y hb3 f.h);have he:=S (a.y hb3 a.h);have hq:=S (h4.trans (hb3.mono h4.size));clear hb3 hD hB f a h4 ht q0 q1 q2 q3 q4 q5 q6 q7 q8;cases hZ
 .have HR:Hid (JS ms U ((List.range (Z ms)).map T) q 2):=yW ⟨F,λh=>(by cases hr.2 h)⟩;clear hr;go_wp2;go_ret;exact⟨⟨2,F,HR⟩,hq⟩
 have v:=S (hr.1 F);clear hr;have H:Hid (∀hV,Below (O w3.1) w3 hV->G5 hV P am cm ms U T ts vS au cu ar cr/\E5 hV N q/\Cm hV X q.o b/\FL hV v2 ((Dd q.o T (Z ms)).map T)/\Below (O w.1) w hV):=λhV hb=>⟨hP.y hb,hu.y hb hu.h,he.y hb he.h,hH.y hb,hq.trans (hb.mono hq.size)⟩
 have M:=S (Ug P cm cu cr am au ar ms U T ts vS q.o w3.drew hn (H _ (yN).drew).1 hv);have z:=S (Ug P cm cu cr am au ar ms U T ts vS q.o (w3.alloc (JM #[W q.m] 9)).drew hn (H _ (zC).drew).1 hv);have hg:(IJ ms U q.o (Z ms)).length<=1048576000:=by
  have:∀n,n<=Z ms->Z (Bk U q.o n)<=1048576*n:=λn=>by
   induction n with
   |zero=>intro _;simp[Bk]
   |succ n ih=>
    intro hk;have:=ih I;have h2:=(D hv) n I;have h3:∀l:Jf,Cl q.o l<=Z l:=λl=>by
     induction l with
     |nil=>exact yk
     |cons x hZ ih=>simp only[Cl,yB];split<;>omega
    have:=h3 (Ah U n).os;simp only[Bk,yr,List.length_replicate];omega
  have:=this (Z ms) yk;simp only[IJ,List.length_map];omega
 obtain⟨ds,h9⟩:=Jx (IJ ms U q.o (Z ms));rw[<-h9]at M z hg;have hR:=S h9;obtain⟨hJ,_,q1,q2,q3,q4,q5,_,_,_⟩:=D hu;have z3:=hJ;have nn1:=jA w3 _ q1;have nn2:=jA w3 _ q2;have nn3:=jA w3 _ q3;have nn4:=jA w3 _ q4;have nn5:=jA w3 _ q5;unfold AJ at M z;clear h9;go_wp2_with fail;go_region_held3 (λhV=>hV.cell? (J N 1)=E (W q.m)/\hV.cell? (J N 2)=E (W q.o.s)/\hV.cell? (J N 3)=E (G q.o.k)/\hV.cell? (J N 4)=E (G q.o.l)/\hV.cell? (J N 5)=E (G q.o.sd)) (go_keep)
  (
   first
   |(go_at_call 69;(with_reducible refine(D M).mono ?_);rintro e w4 ⟨⟨v4,rfl,hv4⟩,hb4⟩;have K:Hid (Below (O w3.1) w3 w4):=(yN).drew.trans hb4;obtain⟨_,_,s1,s2,s3,s4,s5,_,_,_⟩:=((H) w4 K).2.1;have ss1:=jA w4 _ s1;have ss2:=jA w4 _ s2;have ss3:=jA w4 _ s3;have ss4:=jA w4 _ s4;have ss5:=jA w4 _ s5;have R:=S (VH v4 ds (O w4.1) q.m (w4.alloc (JM #[W q.m] 9)) hg (hv4.strs.y zC) Jg);obtain⟨a4,c4,rfl⟩:=zS hv4;clear hb4 hv4)
   |(go_at_call 69;(with_reducible refine(D z).mono ?_);rintro e w4 ⟨⟨v4,rfl,hv4⟩,hb4⟩;have K:Hid (Below (O w3.1) w3 w4):=(zC).drew.trans (hb4.mono Js);obtain⟨_,_,s1,s2,s3,s4,s5,_,_,_⟩:=((H) w4 K).2.1;have R:=S (VH v4 ds (O w3.1) q.m w4 hg hv4.strs (Jc hb4 Jh Jg));obtain⟨a4,c4,rfl⟩:=zS hv4;clear hb4 hv4)
   |(go_at_call 68;(with_reducible refine(D R).mono ?_);rintro e w5 ⟨⟨hZ,rfl,hr⟩,hb5⟩;have L:Hid (Below (O w3.1) w3 w5):=K.trans (((@zC w4 _).trans (hb5.mono Js)).mono K.size);obtain⟨_,_,t1,t2,t3,t4,t5,_,_,_⟩:=((H) w5 L).2.1;clear hb5)
   |(go_at_call 68;(with_reducible refine(D R).mono ?_);rintro e w5 ⟨⟨hZ,rfl,hr⟩,hb5⟩;have L:Hid (Below (O w3.1) w3 w5):=K.trans (hb5.mono K.size);obtain⟨_,_,t1,t2,t3,t4,t5,_,_,_⟩:=((H) w5 L).2.1;clear hb5))
 all_goals
  obtain⟨_,_,hS,hf,hY⟩:=(D H) w5 L
  have t:=S hS
  have hd:=S hf
  have V:=S hY
  have h5:=S hr
  clear hr hS hf hY q1 q2 q3 q4 q5 s1 s2 s3 s4 s5 t1 t2 t3 t4 t5 M z R
  have g:=S (by rw[D h5,D hR];rfl:hZ=Vp↔CD ms U q)
  cases hZ
  .have HR:Hid (JS ms U ((List.range (Z ms)).map T) q 3):=yX ⟨v,yW ⟨F,λh=>(by cases g.2 h)⟩⟩
   clear g h5
   go_wp2
   go_ret
   exact⟨⟨3,F,HR⟩,V⟩
  have k:=S (g.1 F)
  have hI:=S (Md b.s b.k b.l b.sd w5 (by have:=D hF;unfold maxLen;omega))
  obtain⟨_,_,d4,d5,d6,d7⟩:=D t
  clear g h5
  go_wp2_with fail
  go_call D hI as e w6 ⟨rfl,hb6⟩
  have B:=S (hd.y hb6)
  have u:=S (t.y hb6 t.h)
  have A:=S (V.trans (hb6.mono V.size))
  have hy:=S ((YS (Q:=λx=>Z x<=1048576/\ZO x/\q.o∈x)).2 λi hi ho=>⟨(HT i hi).1,(HT i hi).2,ho⟩)
  have hh:((Dd q.o T (Z ms)).map T).length<=100:=by rw[List.length_map];have:=uR q.o T (Z ms);omega
  have m:=S (show FY ((List.range (Z ms)).map T) (Z ms) q↔Bv b.s b.k b.l b.sd=Vt\/IB b ((Dd q.o T (Z ms)).map T)=Vp by
   rw[tG,FY,<-D o]
   exact or_congr Iff.rfl ⟨λ⟨i,hi,h1,h2⟩=>⟨i,hi,by rw[Z0 hi]at h1;exact h1,by rw[Z0 hi]at h2;exact h2⟩,λ⟨i,hi,h1,h2⟩=>⟨i,hi,by rw[Z0 hi];exact h1,by rw[Z0 hi];exact h2⟩⟩)
  obtain⟨tb,h7⟩:=Jx ((Dd q.o T (Z ms)).map T)
  rw[<-h7]at B hy hh m
  have hO:=S h7
  clear hb6 hI hd t d4 d5 d6 d7 h7
  cases hok:Bv b.s b.k b.l b.sd
  .have HR:Hid (JS ms U ((List.range (Z ms)).map T) q 4):=yX ⟨v,yX ⟨k,yW ⟨F,m.2 (yW hok)⟩⟩⟩
   clear hok
   go_wp2
   go_ret
   exact⟨⟨4,F,HR⟩,A⟩
  have h0:=S (jZ v2 tb b w6 hh B (λi hi=>(hy i hi).1))
  have hQ:=S hok
  obtain⟨_,_,d4,d5,d6,d7⟩:=D u
  unfold AJ at h0
  clear hok
  go_wp2_with fail
  go_call D h0 as e w7 ⟨rfl,hb7⟩
  have hG:=S (B.y hb7)
  have hE:=S (u.y hb7 u.h)
  have C:=S (A.trans (hb7.mono A.size))
  clear hb7 h0 d4 d5 d6 d7
  cases hsh:IB b tb
  rotate_left
  .have HR:Hid (JS ms U ((List.range (Z ms)).map T) q 4):=yX ⟨v,yX ⟨k,yW ⟨F,m.2 (yX hsh)⟩⟩⟩
   clear hsh
   go_wp2
   go_ret
   exact⟨⟨4,F,HR⟩,C⟩
  have hC:Hid (¬ FY ((List.range (Z ms)).map T) (Z ms) q):=λh=>(m.1 h).elim (λx=>by rw[D hQ]at x;cases x) (λx=>by rw[hsh]at x;cases x)
  have h8:=S (eI v2 tb q.o b w7 hh hG hy hF)
  obtain⟨_,⟨d0,d1,d2,d3⟩,d4,d5,d6,d7⟩:=D hE
  unfold BG at h8
  clear hsh
  go_wp2_with fail
  go_call D h8 as e w8 ⟨⟨hZ,rfl,hr⟩,hb8⟩
  have hc:=S (C.trans (hb8.mono C.size))
  rw[D hO,YS (Q:=λx=>zM (Ar q.o b x) 0),D o]at hr
  clear hb8 h8 d0 d1 d2 d3 d4 d5 d6 d7
  rcases hr with⟨rfl,hr⟩|⟨rfl,hr⟩
  rotate_left
  .have HR:=S (show JS ms U ((List.range (Z ms)).map T) q 5 from yX ⟨v,yX ⟨k,yX ⟨hC,yW ⟨F,by
    obtain⟨j,hj,c,h1,h2⟩:=hr
    rw[List.length_map]at hj
    obtain⟨hm,ho⟩:=MD.1 (List.getElem_mem hj)
    exact⟨_,hm,by rw[Z0 hm];exact Zz.1 ho,c,by rw[Z0 hm];simpa[zy,hj] using h1,h2⟩⟩⟩⟩⟩)
   clear hr
   go_wp2
   go_ret
   exact⟨⟨5,F,HR⟩,hc⟩
  .have HR:Hid (JS ms U ((List.range (Z ms)).map T) q 0):=yX ⟨v,yX ⟨k,yX ⟨hC,yX ⟨F,λ⟨i,hi,h1,c,h2,h3⟩=>h3 (Z3 h2 (by rw[Z0 hi]at h1 ⊢;exact hr i hi h1))⟩⟩⟩⟩
   clear hr
   go_wp2
   go_ret
   exact⟨⟨0,F,HR⟩,hc⟩
def XT{p}(h:Zs ns s us 0 p):s≠j6:=by
 rintro rfl;rcases h with⟨_,_,h,_⟩|⟨f,⟨_,_,h,_⟩|⟨K,ts,hx,⟨i,_,_,_,_,h,_⟩|⟨H,⟨i,_,_,_,_,h,_⟩|⟨b,h⟩⟩⟩⟩
 .cases h
 .cases h
 .cases h
 .cases h
 .cases ts with
  |nil=>exact hx
  |cons t a=>
   rcases hx with⟨_,_,_,e⟩|⟨j,_,_,_,c,_⟩
   .have:=b 0 Js;have d:t.k=7:=by rw[e]
    unfold zh at this;simp[Aa,BC,ZT,d]at this
   .simp at c
def lL(P cm cu cr am au ar ms U)(T:Nat->Jf)(ts)(vS:Nat->Value)(q w)(hn:Z ms<=100)(h:G5 w P am cm ms U T ts vS au cu ar cr)(hT:∀i,i<Z ms->Z (T i)<=1048576/\ZO (T i))(hU:∀i,i<Z ms->∃us,ZC (Ae ms i).t us (Ah U i).os (Ah U i).b 0 0)(hR:DU T (λi=>(Ah U i).b) (Z ms) ts)(hz:Em ms)(hO:(ZU q).ok=Vp)(hm:CP w)(hZ:CH w):Calls Vb 40 #[.pointer (E ⟨P,0,JL⟩),BG q.o (ZU q)] w λe w'=>(∃v os,e=i9 v/\ZE w' (O w.1) v os/\Ea q ms ((List.range (Z ms)).map T) ts (Z ms) os/\Em os)/\Below (O w.1) w w':=by
 obtain⟨he,ha,hd,hv⟩:=MR hO;rw[bO]at hd hv;obtain⟨b,hg⟩:∃b,Hid (b=ZU q):=⟨_,S F⟩;rw[<-D hg]at he ha ⊢;unfold BG;obtain⟨i0,hs,h5,hj,hr⟩:=Ic FM;have HI:=S hs;have HC:=S (yO h5 (yO hj hr));have Hd:∀qe:JY,(Instr.makeSlice 23 (G 0) (G (Z ms:Int))).run Vb qe=.ok (i6 (E ⟨O qe.1,0,JL⟩) 0 (Z ms)) (qe.alloc (JM (madeCells #[W ⟨#[]⟩,W ⟨#[]⟩] (Z ms*2)) 49)):=by intro qe;have:=run_make (P:=Vb) qe 23 49 i0 _ underlying23 hs h5 .i64 .i64 0 (Z ms) I I (by rw[hr];omega) I;simpa[hj,Value.cells] using this
 obtain⟨N,hN⟩:=Jx (O w.1);obtain⟨qe,hW⟩:=Jx (w.alloc (JM (Df q.o b) 91));have l:Below (O w.1) w qe:=by rw[hW];exact zC
 have h6:O qe.1=N+1:=by rw[hW,hN];simp
 have Hv:=S (by rw[hW,hN];exact Cm.new w q.o b _:Cm qe N q.o b);have HP:=S (h.y l);have HM:=S (hm.y l);have Hx:=S (hZ.y l);have Hk:=S l;have HW:=S h6;have HN:=S hN;have HT:=S hT;have HU:=S hU;have HR:=S hR;have H3:=S he;have HK:=S (yO hd hv);have c0:=HP.c0;have HE:=S (show ZE (qe.alloc (JM (madeCells #[W ⟨#[]⟩,W ⟨#[]⟩] (Z ms*2)) 49)) (N+1) (i6 (E ⟨N+1,0,JL⟩) 0 (Z ms)) [] by
  rw[<-h6]
  exact World.ownsRow_made qe _ (Z ms) yk Jm (by rw[size_madeCells]))
 unfold Df at hW;have c0':=Jc (@zC qe (JM (madeCells #[W ⟨#[]⟩,W ⟨#[]⟩] (Z ms*2)) 49)) (jk _ _ c0) c0;clear hs h5 hj hr h l hT hU hR hm hZ hd hv hO he;go_enter func40,ntmps40;go_upto_region 1 with fail
 rw[<-hW,<-hN];clear hW hN;go_wp2_with fail;have Hb:=S (by rw[<-D HW];exact zC:Below (N+1) qe (qe.alloc (JM (madeCells #[W ⟨#[]⟩,W ⟨#[]⟩] (Z ms*2)) 49)));clear Hd c0 c0' h6;go_loopw [5,22] (λout i wr=>∃(k:Nat)(os:Jp),k<=Z ms/\i=G k/\Hid (Ea q ms ((List.range (Z ms)).map T) ts k os)/\Hid (ZE wr (N+1) out os)/\Hid (Below (N+1) qe wr)/\Hid (Em os)) (λ_ i _=>Z ms-(intOf i).toNat);case atStart=>exact⟨0,[],yn,F,S ⟨F,λi h=>yV h (yz i)⟩,HE,Hb,S (λi h=>yV h (yz i))⟩
 case round=>
  clear HE Hb;obtain⟨k,os,hk,rfl,n,M,HB,hD⟩:=hrel;have h3:=S (by rw[D HW];exact D HB:Below (O qe.1) qe wr);have zr:N+1<=O wr.1:=by have:=h3.size;have:=D HW;omega
  obtain⟨av,cv,rfl⟩:=zS M;have h8:Z os=k:=n.1;have H9:Z os<=100:=I;by_cases H:k<Z ms
  .have H8:(k:Int)<Z ms:=I;have X:=S (HP.y h3);obtain⟨bA,HF,rfl,qg,HA⟩:=X.arg.resolve_left I;obtain⟨m0,m1⟩:=qg k H;obtain⟨us,ho⟩:=(D HU) k H;obtain⟨_,ht⟩:=HR.2 k H;obtain⟨z,Hf,A,hl⟩:=zbT (o:=q.o) (b:=b) ho (XT ht);obtain⟨hG,hA,C⟩:=Lm ht;have qh:=Xr ho;obtain⟨hB,h7⟩:=(D HT) k H;obtain⟨gu,vu,vo,rfl,Hw,u0,u1,u2,_⟩:=X.un k H;obtain⟨gR,g2,c2,rfl,Hl,n0,H5,d⟩:=X.tr k H;have p1:=X.c1;have p5:=X.c5;obtain⟨nm,f⟩:=Jx ((Ae ms k).n);obtain⟨tx,hy⟩:=Jx ((Ae ms k).t);obtain⟨bd,hQ⟩:=Jx ((Ah U k).b);obtain⟨ns,hh⟩:=Jx (AM ts k);rw[<-f]at m0;rw[<-hy]at m1 Hf hl qh A;rw[<-hQ]at u2 A;rw[<-hh]at n0 d hG hA C;have H1:=S (by rw[f];exact(hz k H).1:nm.size<=maxLen);obtain⟨W4,V⟩:=Jx (wr.alloc (JM #[W nm,W tx] 49));have m:Below (O wr.1) wr W4:=by rw[V];exact zC
   have y0:W4.cell? ⟨O wr.1,0,JL⟩=E (W nm):=by rw[V];simp[go_sem]
   have y1:W4.cell? ⟨O wr.1,1,JL⟩=E (W tx):=by rw[V];simp[go_sem]
   have yf:W4.frozen? ⟨O wr.1,1,JL⟩=Vt:=by rw[V];simp[go_sem]
   have z4:O wr.1<O W4.1:=by rw[V];simp
   have hS:P<O wr.1:=jk _ _ p1;have x:Hid (∀qf,Below (O W4.1) W4 qf->Below (O wr.1) wr qf):=λqf h=>m.trans (h.mono I)
   have y:=S (show ∀qf,Below (O W4.1) W4 qf->qf.cell? ⟨O wr.1,0,JL⟩=E (W nm)/\qf.cell? ⟨O wr.1,1,JL⟩=E (W tx)/\qf.frozen? ⟨O wr.1,1,JL⟩=Vt/\qf.cell? ⟨P,1,JL⟩=E (i6 (E ⟨gu,0,JL⟩) (Z ms) cu)/\qf.cell? ⟨gu,k*3+2,JL⟩=E (W bd)/\qf.cell? ⟨P,5,JL⟩=E (i6 (E ⟨gR,0,JL⟩) (Z ms) cr)/\qf.cell? ⟨gR,k,JL⟩=E (i6 (E ⟨g2,0,JL⟩) (Z ns) c2)/\Cm qf N q.o b from λqf h=>by
    have hw:=(D x) qf h
    have kc:=λp (hp:p.block<O wr.1)=>hw.cell (p:=p) hp
    exact⟨(h.cell (p:=⟨O wr.1,0,JL⟩) z4).trans y0,(h.cell (p:=⟨O wr.1,1,JL⟩) z4).trans y1,(h.frozen (p:=⟨O wr.1,1,JL⟩) z4).trans yf,(kc ⟨P,1,JL⟩ hS).trans p1,(kc ⟨gu,k*3+2,JL⟩ Hw).trans u2,(kc ⟨P,5,JL⟩ hS).trans p5,(kc ⟨gR,k,JL⟩ Hl).trans n0,Hv.y (HB.trans (hw.mono zr)) I⟩)
   have qa:=S (X.so k H);obtain⟨a,c,e,_⟩:=D qa;rw[e]at qa;have hI:=S (X.sc k H W4.drew m.drew);have hV:=S (X.sc k H (W4.alloc (JM #[Jl] 45)).drew (m.alloc I _).drew);rw[<-f,e]at hI hV;have hK:=S f;have hC:=S hy;have Hi:=S hh;have Ht:=S hl;have Hy:=S A;have HD:=S h8;have Hg:=S C;have Hr:=S h7;have H2:=S d;have Hu:=S V;obtain⟨_,_,_,r1,r2,_,_,_⟩:=(D y) W4 yN;clear qg f hy hQ hh ho ht hl e m h8 u0 u1 u2 A V C h7 d p1 p5 n0;go_upto_region 5 with fail
   rw[<-D Hu];have nn1:=jA W4 _ y0;have nn2:=jA W4 _ r1;have nn3:=jA W4 _ r2;go_region_held3 (λqf=>qf.cell? ⟨O wr.1,0,JL⟩=E (W nm)/\qf.cell? ⟨P,1,JL⟩=E (i6 (E ⟨gu,0,JL⟩) (Z ms) cu)/\qf.cell? ⟨gu,k*3+2,JL⟩=E (W bd)) (go_keep)
    (
     first
     |(go_at_call 65;(with_reducible refine(D hI).mono ?_);rintro e w5 ⟨rfl,K⟩;have j:Hid (Below (O W4.1) W4 w5):=(yN).drew.trans K;obtain⟨s0,_,_,s1,s2,_⟩:=(D y) w5 j;have ss1:=jA w5 _ s0;have ss2:=jA w5 _ s1;have ss3:=jA w5 _ s2;clear K)
     |(go_at_call 65;(with_reducible refine(D hV).mono ?_);rintro e w5 ⟨rfl,K⟩;have j:Hid (Below (O W4.1) W4 w5):=(zC).drew.trans (K.mono Js);obtain⟨s0,_,_,s1,s2,_⟩:=(D y) w5 j;have ex0:=(K.cell (p:=⟨O W4.1,0,JL⟩) Js).trans (show _=E Jl by simp[go_sem]);have ex1:=(K.frozen (p:=⟨O W4.1,0,JL⟩) Js).trans (show _=Vt by simp[go_sem]);clear K))
   all_goals
    first
    |(
      obtain⟨W5,Q⟩:=Jx (w5.alloc (JM #[.slice a (Z (T k)) c] 45))
      rw[<-Q]
      have K:Below (O W4.1) W4 W5:=by rw[Q];exact j.alloc j.size _
      obtain⟨X5,qb⟩:=Jx (O w5.1)
      have x5:W5.cell? ⟨X5,0,JL⟩=E (i6 a (Z (T k)) c):=by rw[Q,qb];simp[go_sem]
      have x5l:O wr.1<X5:=Jy j.size
      rw[<-qb]
      clear qb Q)
    |(
      obtain⟨W5,Q⟩:=Jx (w5.setCell ⟨O W4.1,0,JL⟩ (i6 a (Z (T k)) c))
      rw[<-Q]
      have K:Below (O W4.1) W4 W5:=by rw[Q];exact j.setCell (p:=⟨O W4.1,0,JL⟩) yk _
      obtain⟨X5,qb⟩:=Jx (O W4.1)
      have x5:W5.cell? ⟨X5,0,JL⟩=E (i6 a (Z (T k)) c):=by rw[Q,qb];exact yu _ _ _ ex0
      have x5l:O wr.1<X5:=I
      rw[<-qb]
      clear qb Q ex0 ex1)
    have HX:Hid (∀qf,Below (O W5.1) W5 qf->qf.cell? ⟨X5,0,JL⟩=E (i6 a (Z (T k)) c)):=λqf h=>(h.cell (p:=⟨X5,0,JL⟩) (jk _ _ x5)).trans x5
    have z5:=K.size
    have hE:=S K
    have hH:=S (US (i6 a (Z (T k)) c) (T k) q.o b W5 hB (qa.y (x W5 K)))
    obtain⟨_,_,_,_,_,_,_,⟨_,⟨d0,d1,d2,d3⟩,d4,d5,d6,d7⟩⟩:=(D y) W5 K
    unfold BG at hH
    go_wp2_with fail
    go_call D hH as e w6 ⟨rfl,hb6⟩
    have B:=S hb6
    have t:Below (O W4.1) W4 w6:=hE.trans (hb6.mono z5)
    have u:=S t
    have z6:=t.size
    obtain⟨y0,y1,yf,_⟩:=(D y) w6 t
    cases hin:Bh q.o (T k)
    focus
     have hJ:=S (show G3 q (zy ((List.range (Z ms)).map T) k) (AM ts k) (Ae ms k) ⟨nm,tx⟩ from⟨hK,yX ⟨λh=>(by rw[Z0 H]at h;rw[Zz.2 h]at hin;cases hin),hC⟩⟩)
     have hM:=S (Jm:tx.size<=maxLen)
     go_upto_region 9 with fail
     obtain⟨Wm,rfl⟩:=Jx w6
     obtain⟨tf,rfl⟩:=Jx tx
     have qd:=S (x Wm u)
     clear yf qh
    rotate_left
    focus
     have Ha:=S (Zz.1 hin)
     obtain⟨gx,rfl,H6,hX⟩:∃gx,a=E ⟨gx,0,JL⟩/\gx<O wr.1/\Au wr gx 0 (T k):=by
      obtain⟨a',c',e,⟨h0,_⟩|⟨g,rfl,h1,h2⟩⟩:=D qa
      .exact yV (D Ha) (by rw[jg.1 h0];simp)
      .obtain⟨rfl,_,_⟩:=Value.slice.inj e;exact⟨g,F,h1,h2⟩
     have Hc:=S (eH tx (z+1) w6 qh I)
     rw[<-D Hy]at Hc
     have hc:Below (O qe.1) qe w6:=h3.trans ((x w6 u).mono (Jy (D HW)))
     have hF:=S (gN (tx.extract 0 (z+1)) q.o b w6.drew (by rw[ZW];omega) (HM.y hc.drew) (Hx.y hc.drew) H3 ha)
     have hP:=S (λqf (hb:Below (O W4.1) W4 qf)=>nU gx c g2 c2 (T k) ns q.o b qf hB (hX.y (x qf hb) H6) (Jy (((x) qf hb).size)) Hr I (H2.y (x qf hb) H5) (Jy (((x) qf hb).size)) Hg HK I)
     unfold BG at hF hP
     go_wp2_with fail
     go_call D Hc as e wx ⟨rfl,hx⟩
     obtain rfl:=hx.symm
     have x6:=(D HX) w6 B
     obtain⟨_,_,_,_,_,p5,n0,⟨_,⟨d0,d1,d2,d3⟩,d4,d5,d6,d7⟩⟩:=(D y) w6 u
     have ne1:O wr.1≠X5:=I
     have ne2:O wr.1≠P:=I
     have ne3:O wr.1≠gR:=I
     have ne4:O wr.1≠N:=I
     have ne5:=ne1.symm
     have ne6:=ne2.symm
     have ne7:=ne3.symm
     have ne8:=ne4.symm
     go_upto_region 8 with fail
     go_region_held3 (λqf=>qf.cell? ⟨X5,0,JL⟩=E (i6 (E ⟨gx,0,JL⟩) (Z (T k)) c)/\qf.cell? ⟨P,5,JL⟩=E (i6 (E ⟨gR,0,JL⟩) (Z ms) cr)/\qf.cell? ⟨gR,k,JL⟩=E (i6 (E ⟨g2,0,JL⟩) (Z ns) c2)/\qf.cell? ⟨N,0,JL⟩=E (W q.o.s)/\qf.cell? ⟨N,1,JL⟩=E (G q.o.k)/\qf.cell? ⟨N,2,JL⟩=E (G q.o.l)/\qf.cell? ⟨N,3,JL⟩=E (G q.o.sd)/\qf.cell? ⟨N,4,JL⟩=E (W b.s)/\qf.cell? ⟨N,5,JL⟩=E (G b.k)/\qf.cell? ⟨N,6,JL⟩=E (G b.l)/\qf.cell? ⟨N,7,JL⟩=E (G b.sd)) (go_keep)
      (
       first
       |(go_at_call 75;(with_reducible refine(D hF).mono ?_);rintro e w7 ⟨⟨ls,rfl,hjz,hrp⟩,hb7⟩;have Hj:=S hrp;have L:Hid (Below (O W4.1) W4 w7):=u.drew.trans (hb7.mono z6);have h4:Hid (Below (O W5.1) W5 w7):=B.drew.trans (hb7.mono B.size);have e0:=(D HX) w7 h4;obtain⟨_,_,_,_,_,e1,e2,⟨_,⟨e3,e4,e5,e6⟩,e7,e8,e9,ea⟩⟩:=(D y) w7 L;have Hq:=S (hP w7 L);clear hb7 hrp)
       |(go_at_call 76;(with_reducible refine(D Hq).mono ?_);rintro e w8 ⟨⟨pt,pv,rfl,hpi⟩,hb8⟩;have Hs:=hpi.size;have H0:=S hpi;have hY:Hid (Below (O W4.1) W4 w8):=L.trans (hb8.mono L.size);have Hm:Hid (Below (O W5.1) W5 w8):=h4.trans (hb8.mono h4.size);have f0:=(D HX) w8 Hm;obtain⟨h0,h1,hf,_,_,f1,f2,⟨_,⟨f3,f4,f5,f6⟩,f7,f8,f9,fa⟩⟩:=(D y) w8 hY;have radd:=λqf:World=>run_string_add_sum (P:=Vb) (w:=qf) (jn ls) pt I;clear hb8 hpi))
     obtain⟨tf,qc⟩:=Jx (jn ls++pt)
     have hJ:=S (show G3 q (zy ((List.range (Z ms)).map T) k) (AM ts k) (Ae ms k) ⟨nm,tf⟩ from⟨hK,yW ⟨by rw[Z0 H];exact Ha,jn ls,pt,pv,by rw[<-D hC,<-D hg];exact Ht ls Hj,by rw[Z0 H,<-D Hi,<-D hg];exact H0,qc⟩⟩)
     have hM:=S (by rw[qc,zQ];unfold maxLen;omega:tf.size<=maxLen)
     go_upto_region 9 with fail
     rw[<-qc]
     obtain⟨Wm,s⟩:=Jx (w8.setCell ⟨O wr.1,1,JL⟩ (W tf))
     rw[<-s]
     replace y0:Wm.cell? ⟨O wr.1,0,JL⟩=E (W nm):=by rw[s,yj _ _ _ _ (by simp)];exact h0
     replace y1:Wm.cell? ⟨O wr.1,1,JL⟩=E (W tf):=by rw[s];exact yu _ _ _ h1
     have qd:=S (by rw[s];exact(x w8 hY).setCell (p:=⟨O wr.1,1,JL⟩) yk _:Below (O wr.1) wr Wm)
     clear s qc Hs hjz h0 h1 hf yf qh radd e0 e1 e2 e3 e4 e5 e6 e7 e8 e9 ea f0 f1 f2 f3 f4 f5 f6 f7 f8 f9 fa d0 d1 d2 d3 d4 d5 d6 d7 p5 n0 x6
    all_goals
     have zm:=qd.size
     have h9:Hid (ZE (Wm.alloc (JM #[W nm,W tf] 49)) (N+1) (i6 av (Z os) cv) os):=M.y (qd.alloc zm _)
     have He:=S (Fx Wm ⟨nm,tf⟩)
     go_wp2_with (at_builtin;refine As FM underlying23 (.tmp 61) (.tmp 63) F rfl (N+1) _ (Z os) (zk os) F h9 ⟨O Wm.1,0,JL⟩ 1 1 (zk [⟨nm,tf⟩]) F rfl He (IY _) Jm I Jh ?_)
     intro v4 w9 hu R Hz H7
     have H4:=S (by unfold ZE;rw[Me,yr];exact hu:ZE w9 (N+1) v4 (os++[⟨nm,tf⟩]))
     have Ho:Hid (Below (N+1) qe w9):=(HB.trans ((qd.alloc zm _).mono zr)).grown R Jq (λq hq=>(M.lt q hq).1)
     have Hh:=S (n.step hJ)
     have Hn:=S (show Em (os++[⟨nm,tf⟩]) from λi hi=>by
      rw[SQ]
      by_cases e:i<Z os
      .rw[yU e];exact hD i e
      .simp at hi;rw[yS e,yU I];exact⟨H1,hM⟩)
     go_wp2
     exact⟨⟨k+1,os++[⟨nm,tf⟩],I,Jn,Hh,H4,Ho,Hn⟩,Ji⟩
  .obtain rfl:k=Z ms:=I;have HG:Hid (Below (O w.1) w wr):=Hk.trans (HB.mono (by rw[<-D HN];omega));go_wp2;go_ret;exact⟨⟨_,os,F,M.base (by rw[<-D HN];omega),n,hD⟩,HG⟩
def qM(h:∀i,i<Z ms->(Ah U i).os=(Ah U' i).os):CD ms U q↔CD ms U' q:=by
 have:∀n,n<=Z ms->Bk U q.o n=Bk U' q.o n:=λn=>by
  induction n with
  |zero=>intro _;rfl
  |succ n ih=>intro a;simp only[Bk];rw[ih I,h n I]
 unfold CD;rw[this _ yk]
def Eb.code{b f w}(h:Eb ms q b c)(l:Zg ms ts 0 w)(p:ZI ms ((List.range (Z ms)).map T) 0 0)(s:∀i,i<Z ms->∃us,ZC (Ae ms i).t us (Ah U i).os (Ah U i).b 0 0)(d:JS ms U ((List.range (Z ms)).map T) q f):(f≠0/\b=[]/\c=f)\/(f=0/\CD ms U q/\(ZU q).ok=Vp/\∃ms' t g v,Ea q ms ((List.range (Z ms)).map T) ts (Z ms) ms'/\Zg ms' t g v/\((g≠0/\b=[]/\c=6)\/(g=0/\b=ms'/\c=0))):=by
 obtain⟨u,A,z,H,⟨o,_⟩|⟨rfl,m,U',Q,K,h⟩⟩:=h
 .exact yV ((H.one l).2.1) o
 obtain⟨rfl,_⟩:=H.one l;obtain⟨rfl,_⟩:=Q.one p;have j:CD ms U q↔CD ms U' q:=qM λi k=>by obtain⟨us,a⟩:=s i k;exact(a.one (K.2 i k)).2.1
 rcases d with⟨rfl,x⟩|⟨x,d⟩
 .rcases h with⟨_,a,h2⟩|⟨y,_⟩
  .exact yW ⟨Jd,a,h2⟩
  .exact yV y x
 rcases h with⟨y,_⟩|⟨_,h⟩
 .exact yV x y
 rcases d with⟨rfl,x⟩|⟨n,d⟩
 .rcases h with⟨_,a,h2⟩|⟨y,_⟩
  .exact yW ⟨Jd,a,h2⟩
  .exact yV (j.2 y) x
 rcases h with⟨y,_⟩|⟨_,h⟩
 .exact yV (j.1 n) y
 rcases d with⟨rfl,x⟩|⟨x,d⟩
 .rcases h with⟨_,a,h2⟩|⟨y,_⟩
  .exact yW ⟨Jd,a,h2⟩
  .exact yV x y
 rcases h with⟨y,_⟩|⟨_,h⟩
 .exact yV y x
 have X:(ZU q).ok=Vp:=by
  cases e:(ZU q).ok
  .exact yV (yW e) x
  .rfl
 rcases d with⟨rfl,x⟩|⟨rfl,x⟩
 .rcases h with⟨_,a,h2⟩|⟨y,_⟩
  .exact yW ⟨Jd,a,h2⟩
  .exact yV x y
 rcases h with⟨y,_⟩|⟨_,h⟩
 .exact yV y x
 exact yX ⟨F,n,X,h⟩
def QS(am cm ms q w)(g:Z ms<=100->F3 w am ms)(hz:Em ms)(hu:q.o.s.size<=1048576)(he:q.t.size<=1048576)(hm:CP w)(o:CH w){out}(h:Eb ms q out c):Calls Vb 7 #[.slice am (Z ms) cm,Bt q] w λe w'=>(∃v,e=i9 (i5 #[v,G c])/\ZE w' (O w.1) v out)/\Below (O w.1) w w':=by
 obtain⟨N,hN⟩:=Jx (O w.1);obtain⟨hr,hW⟩:=Jx (w.alloc (JM (A5 q) 27));have X:Below (O w.1) w hr:=by rw[hW];exact zC
 have HQ:=S (by rw[hW,hN];exact E5.new w q _:E5 hr N q);have HM:=S (hm.y X);have hg:=S (o.y X);have Q:=S X;have HN:=S hN;have HH:=S h;obtain⟨ts,ct,wt,ht,h⟩:=h;have L:=S ht;have HG:Hid (Z ms<=100->F3 hr am ms):=λx=>⟨x,(g x).arg.y X,(g x).sz,(g x).mx.y X⟩
 have HX:=S (TU am cm ms hr HG ht);have l:Hid (ct≠0->out=[]/\c=1):=λx=>h.elim (λy=>y.2) (λy=>yV y.1 x)
 unfold Bt;unfold A5 at hW;clear hm o h ht g X;go_enter func7,ntmps7;go_upto_region 1 with fail
 rw[<-hW,<-hN];clear hW hN;go_wp2_with fail;go_call D HX as e w1 (⟨h0,_,rfl,j⟩|⟨rfl,rfl,d,s,rfl,HOK,HAL,HPG⟩)
 .obtain⟨rfl,rfl⟩:=(D l) h0;have hI:(ct != 0)=Vp:=Ju h0
  have hj:=S (Q.trans (j.mono Q.size));clear h0 j;go_wp2;go_ret2;exact⟨⟨_,F,jt⟩,hj⟩
 have hn:Z ms<=100:=HOK.ld.good.1;obtain⟨vS,au,cu,ar,cr,u⟩:=HPG.z HOK (HG hn).arg HAL hz;have j:=HPG.bel;have m:=S u;have z:=S j;have P:=S (HQ.y j HQ.h);have t:Hid (∀i,i<Z ms->Z (d.T i)<=1048576/\ZO (d.T i)):=λi hi=>⟨Jy ((HOK.tb i hi).2.1),(HOK.tb i hi).1⟩
 have a:=S (lK (O hr.1+1) cm cu cr am au ar ms d.U d.T ts vS q w1 hn u t (λi hi=>by obtain⟨us,h1⟩:=HOK.un i hi;have:=(Lu h1).1;omega) hu he);obtain⟨_,q0,q1,q2,q3,q4,q5,q6,q7,q8⟩:=D P;unfold Bt at a;clear u j HX HQ l HPG HAL HG;go_wp2_with fail;go_call D a as e w2 ⟨⟨c',rfl,hc'⟩,hb2⟩;have C:=S (HH.code L HOK.ld HOK.un hc');have k:=S (m.y hb2);have hd:=S (P.y hb2 P.h);have H:Hid (Below (O hr.1) hr w2):=z.trans (hb2.mono z.size);have M:=S (Q.trans (H.mono Q.size));clear hb2 hc' a q0 q1 q2 q3 q4 q5 q6 q7 q8 m P z HH L;rcases D C with⟨h0,rfl,rfl⟩|⟨rfl,p,n,ms',t2,c2,w2',R,U,hc⟩
 .have hI:(c != 0)=Vp:=Ju h0
  clear h0 C;go_wp2;go_ret2;exact⟨⟨_,F,jt⟩,M⟩
 have hq:1<=Z ms:=by
  rcases Nat.eq_zero_or_pos (Z ms) with e|e
  .unfold CD at p;rw[e]at p;simp[Bk]at p
  .exact e
 have b:=S (VF q w2);obtain⟨_,q0,q1,q2,q3,q4,q5,q6,q7,q8⟩:=D hd;have B:=S (λhs (hb:Below (O w2.1) w2 hs)=>lL (O hr.1+1) cm cu cr am au ar ms d.U d.T ts vS q hs hn (k.y hb) t HOK.un HOK.tr hz n (HM.y (H.trans (hb.mono H.size))) (hg.y (H.trans (hb.mono H.size))));have hf:=S R;have hk:=S U;unfold Bt BG at b;unfold BG at B;clear C p n R U;go_wp2_with fail;go_call D b as e w3 ⟨rfl,hb3⟩;have A:=S hb3;have T:=S (B w3 hb3);clear hb3 b B q0 q1 q2 q3 q4 q5 q6 q7 q8;go_wp2_with fail;go_call D T as e w4 ⟨⟨v4,os,rfl,hr4,hc4,hs4⟩,hb4⟩;obtain rfl:=hc4.one hf;have V:Below (O w2.1) w2 w4:=A.trans (hb4.mono A.size);have K:Below (O hr.1) hr w4:=H.trans (V.mono H.size);have ha:Z os=Z ms:=hc4.1;obtain⟨g4,c4,rfl⟩:=hr4.has I;have hl:=S hr4;have ho:=S (Q7 (E (J g4 0)) c4 os w4 (λx=>⟨x,hr4.arg,hs4,HM.y K⟩) hk);have hp:=S K;have hv:=S (Q.trans (K.mono Q.size));have z34:O w.1<=O w3.1:=by have:=M.size;have:=A.size;omega
 clear hb4 V K hc4 hs4 hr4 ha T;go_wp2_with fail;go_call D ho as e w5 ⟨v5,rfl,_,hb5⟩;have hh:=S ((hl.y hb5).base z34);have f:=S (hv.trans (hb5.mono hv.size));rcases hc with⟨h0,rfl,rfl⟩|⟨rfl,rfl,rfl⟩
 .have hI:(c2 != 0)=Vp:=Ju h0
  go_wp2;go_ret2;exact⟨⟨_,F,jt⟩,f⟩
 .go_wp2;go_ret2;exact⟨⟨_,F,hh⟩,f⟩
open Go.Deep (BT)
def YT{xs}(i):(Y (AV o b xs) i).k=(Y xs i).k/\(Y (AV o b xs) i).a=(Y xs i).a/\(Y (AV o b xs) i).b=(Y xs i).b:=by
 by_cases h:i<Z xs
 .rw[Op h];split
  .exact⟨F,F,F⟩
  .exact⟨F,F,F⟩
 .simp[Y,AV,yq,List.getElem?_eq_none (Nat.le_of_not_lt h)]
theorem YU(o b a):∀k,Am (AV o b a) k=Am a k
 |0=>rfl
 |k+1=>by simp only[Am,(YT k).1,YU o b a k]
theorem bE(o b a):∀k,k<=Z a->er (AV o b a) k=AV o b (er a k)
 |0,_=>rfl
 |k+1,h=>by
  have d:∀j:Int,Fp (AV o b a) j=Fp a j:=λj=>by simp only[Fp,YU]
  obtain⟨e,f,g⟩:=YT (o:=o) (b:=b) (xs:=a) k;simp only[er,e,bE o b a k I];split
  .rfl
  .have:AV o b (er a k++[BS a (Y a k)])=AV o b (er a k)++[if Da o (BS a (Y a k))=Vp then⟨(Y a k).k,b.s,(BS a (Y a k)).a,(BS a (Y a k)).b⟩ else BS a (Y a k)]:=by unfold AV;rw[List.map_append];rfl
   rw[this];congr 2;have i:Da o (BS a (Y a k))=Da o (Y a k):=F;rw[i];by_cases c:Da o (Y a k)=Vp
   .rw[yU c];unfold BS;rw[e,f,g,d,d,Op I,yU c]
   .rw[yS c];unfold BS;rw[e,f,g,d,d,Op I,yS c]
def nV{v}(h:FH ns us s v){t p}(C:Zs ns s t 0 p):Zk us/\Zy t (er us (Z us)) Vp:=by
 rcases h with⟨z,_,n⟩|⟨_,_,rfl⟩;case inr=>exact yV F (XT C)
 obtain⟨d,m,H,_,hz,B,_⟩:=Ph z;obtain⟨⟨o,K,j⟩,_⟩:=z;obtain⟨T,L,c,hx⟩:=UK K j;have U:JQ us=T:=by rw[hx];exact Ps L.sh
 rw[U]at m n;rw[<-m]at n;have u:B1 us T 0:=by rw[hx];exact Gc T
 have V:Ga T:=uJ K.2.2.2 T 0 u I;have a:Ga d:=by rw[m];exact zZs ns T 0 V
 have Q:Zk (nd d 0):=bG H.well.sh hz a;have X:ZZ ns:=Mg (No o).1;have A:=sR (ns:=ns) (xs:=nd d 0) Q.2.2.2 d 0 H.well (Gc d) (by rw[ZN];omega);have g:=uX H.well.sh;rw[g]at n;have f:=Vr X (Ak d) j6 (λi l=>by simp at l) (YC _ _ _ (XC d H.well 0)) (RU d H.well) A;have y:=iR X (Cq j6 (Ak d)) j6 f;rw[<-n]at y;have e:t=nd d 0:=by
  have q:BW ns (Ak d):=XC d H.well 0;obtain⟨N,R,f3⟩:=sQ (Xi (zas o)) (sS (Ak d) _ _) q;rcases C with⟨h,_⟩|⟨_,⟨_,_,h,_⟩|⟨_,ts',P,h⟩⟩
  .exact yV o h
  .cases h
  .have e:=Zr.one _ _ 0 P y;subst e;rcases h with⟨i,l,h6,_⟩|⟨_,⟨i,l,_,b,_⟩|⟨_,h⟩⟩
   .exact yV h6 (f3 i l)
   .exact yV (N i l) I
   .unfold LP at h;rw[R,(Y9 o q d).1 ⟨H,rfl⟩]at h;rcases h with⟨_,_,h,_⟩|⟨T',k,x,⟨_,_,h,_⟩|⟨_,h,_⟩⟩
    .cases h
    .cases h
    .injection x with x;injection x with x1 x2;rw[h,x1]
 refine⟨K,yW ⟨by rw[e];exact Q,F,?_⟩⟩;have w:=cE L.sh;rw[<-hx]at w;have M:=cE H.well.sh;rw[e,M,w,m,zZt]
def WC{p}(h:Zs ns s us 0 p):Zk us:=by obtain⟨T,_,a,rfl,b,c,_⟩:=Ww h;exact bG a.well.sh c b
structure zb9(q:ZB)(a c:Jp)(b:JE)(e d:JF):Prop where
 len:Z c=Z a
 tl:Z e=Z a
 tl2:Z d=Z a
 nm:∀i,i<Z a->(Ae c i).n=(Ae a i).n
 tch:∀i,i<Z a->q.o∈zy b i->∃us,Zy (AM e i) us Vp/\Zy (AM d i) (AV q.o (ZU q) us) Vp
 not:∀i,i<Z a->q.o ∉ zy b i->(Ae c i).t=(Ae a i).t/\∃us,Zy (AM e i) us Vp/\Zy (AM d i) us Vp
def Zg.parts{b g a}(h:Zg ms out 0 b)(hL:ZI ms a 0 g)(d:ZG ms U):Z out=Z ms/\∀i,i<Z ms->∃p,Zs (zy a i) (Ah U i).b (AM out i) 0 p:=by
 obtain⟨o,j,q,f,⟨c,_,h,_⟩|⟨rfl,V,e,h⟩⟩:=h
 .exact yV h.symm c
 obtain rfl:=d.eq e;obtain⟨rfl,_⟩:=hL.one f;rcases h with⟨k,us,l,t,n,_,H,m,_,h,_⟩|⟨h,_⟩
 .obtain⟨p,H⟩:=H;have:=Zs.code H;omega
 .exact⟨h.1,h.2⟩
structure QM(q:ZB)(b c:Jp)(e:JF)(a:JE)(U:JC)(g:JF)(d:JE)(f:JC)(k h j:Int):Prop where
 tr:Zg b e 0 k
 ld:ZI b a 0 0
 un:ZG b U
 dc:CD b U q
 nq:¬ FY a (Z b) q
 ns:¬ J7 a (Z b) q
 ch:Ea q b a e (Z b) c
 tr2:Zg c g 0 j
 ld2:ZI c d 0 h
 un2:ZG c f
 ok:(ZU q).ok=Vp
 os:∀i,i<Z b->(Ah f i).os=Ar q.o (ZU q) (Ah U i).os
 sc:∀i,i<Z b->zy d i=Ar q.o (ZU q) (zy a i)
 top:zb9 q b c a e g
def Oa{k}(h:Eb ms q k 0):∃ts b U u w L A y z,QM q ms k ts b U u w L A y z:=by
 obtain⟨ts,ct,A,hT,⟨_,_,h⟩|⟨rfl,b,U,hL,l,⟨_,_,h⟩|⟨_,⟨_,_,h⟩|⟨N,⟨_,_,h⟩|⟨o,⟨_,_,h⟩|⟨P,ms',u,V,z,j,x,⟨_,_,h⟩|⟨rfl,rfl,_⟩⟩⟩⟩⟩⟩⟩:=h;iterate 6 cases h
 have X:(ZU q).ok=Vp:=by
  cases e:(ZU q).ok with
  |true=>rfl
  |false=>exact yV (yW e) o
 obtain⟨f,T,y,Q,⟨M,_,h,_⟩|⟨rfl,U',K,_⟩⟩:=id x
 .exact yV h.symm M
 have m:=λi (a:i<Z ms)=>qI hL l K j X a
 have t:=iL hL Q l K j.names (λi a g c=>o (yX ⟨i,a,g,c⟩)) (λi a=>(m i a).1);have s:=hT.parts hL l;have H:=x.parts Q K;rw[j.1]at H;refine⟨ts,b,U,u,f,U',A,y,z,hT,hL,l,N,o,P,j,x,Q,K,X,λi a=>(m i a).1.2,t,j.1,s.1,H.1,λi a=>(j.2 i a).1,λi a n=>?_,λi a n=>?_⟩
 .obtain⟨p,g⟩:=s.2 i a;obtain⟨R,c⟩:=H.2 i a;rw[t i a]at c;rcases(m i a).2 with⟨_,v,d⟩|⟨d,_⟩
  .obtain⟨B,h5⟩:=nV d c;rw[EZ,bE _ _ _ _ yk]at h5;exact⟨_,yW ⟨WC g,F,F⟩,h5⟩
  .exact yV n d
 .obtain⟨p,g⟩:=s.2 i a;obtain⟨R,c⟩:=H.2 i a;rw[t i a,Tv n]at c;rcases(m i a).2 with⟨d,_⟩|⟨_,d,B⟩
  .exact yV d n
  .rw[B]at c;obtain⟨e,_⟩:=g.one c;have C:Zy (AM ts i) (er (AM ts i) (Z (AM ts i))) Vp:=yW ⟨WC g,F,F⟩;exact⟨d,_,C,by rw[<-e];exact C⟩
def FP{m}(e:n=m)(h:Below n w w'):Below m w w':=e ▸ h
def zbZ(w b q e a):=∃(v:Value)(out:Jp)(c:Int),e=i9 (i5 #[v,G c])/\Hid (Eb b q out c)/\Hid (ZE a (O w.1) v out)/\Qb w a
def QT(a c0 ms q w)(hn:Z ms<=1048576)(hM:Cj w a ms)(hz:Em ms)(k7:q.o.s.size<=1048576)(kz:q.t.size<=1048576):Calls Vb 6 #[.slice a (Z ms) c0,Bt q] w (zbZ w ms q):=by
 obtain⟨N,hN⟩:=Jx (O w.1);obtain⟨W0,ho⟩:=Jx (w.alloc (JM (A5 q) 27));have hY:Below N w W0:=by rw[ho,hN];exact zC
 have hh:=E5.new w q 27;rw[<-ho,<-hN]at hh;obtain⟨W1,ht⟩:=Jx (W0.alloc (JM #[] 49));have Hs:O W0.1=N+1:=by rw[ho,hN];simp
 have kA:O W1.1=N+2:=by rw[ht];simp[Hs]
 have qc:Below (N+1) W0 W1:=by rw[ht,<-Hs];exact zC
 have H4:Hid (Below N w W1):=hY.trans (qc.mono I);have kx:=S (hh.y qc I);have H8:=S (by rw[ht,<-Hs];exact ZE.nil I:ZE W1 N (i6 (E ⟨N+1,0,JL⟩) 0 0) []);have kf:=S (Ng a c0 ms W1 hn (hM.y (FP hN H4)) hz);have HK:=S (by rw[ht,ho];rfl:W1=(w.alloc (JM #[G q.k,W q.m,W q.o.s,G q.o.k,G q.o.l,G q.o.sd,W q.t,G q.l,G q.sd] 27)).alloc (JM #[] 49));have Ht:=S kA;have HN:=S hN;unfold Bt;clear ho ht hY hh qc;go_enter func6,ntmps6;go_wp2_with fail;rw[<-D HK];go_call D kf as e w1 ⟨vt,ts,ct,wt,rfl,HT,HTO,hb1⟩;have Hn:Hid (Below N w w1):=H4.trans (hb1.mono (Jy (D Ht)));have Hw:=S (H8.y hb1);have Hb:=S (kx.y hb1 (Jy (D Ht)));have zN:N+2<=O w1.1:=by have:=hb1.size;have:=D Ht;omega
 clear hb1 kf H8 kx H4 HK hN;rw[<-D HN];by_cases hc:ct=0
 .subst hc;obtain⟨tabs,U,HF⟩:∃tabs U,Hid (Ey ms q ts tabs U):=by obtain⟨tabs,U,h⟩:=Ey.of (q:=q) HT;exact⟨tabs,U,S h⟩
  obtain⟨_,q0,q1,q2,q3,q4,q5,q6,q7,q8⟩:=D Hb;have hO:=S (Rn q w1);unfold Bt AJ at hO;obtain⟨b,x⟩:∃b,Hid (b=ZU q):=⟨_,S F⟩;rw[<-D x]at hO;go_wp2_with fail;go_call D hO as e w2 ⟨⟨v,rfl,hv⟩,hb2⟩;have z2:=hb2.size;have Hp:=S (Hn.trans (hb2.mono I));have Hv:=S (Hw.y hb2);cases v
  .have HR:=S (HF.c2 (λh=>by cases hv.2 h));clear hb2 hv;go_wp2;go_ret2;exact⟨_,[],2,F,HR,by rw[<-D HN];exact S (Hv.y zC),FP HN (Hp.alloc I _)⟩
  have Hk:=S (hv.1 F);obtain⟨W2,hf⟩:=Jx (w2.alloc (JM #[W b.s,G b.k,G b.l,G b.sd] 25));have ha:Below (O w2.1) w2 W2:=by rw[hf];exact zC
  have hW:=hb2.trans (ha.mono hb2.size);have h8:=S (Hp.trans (ha.mono I));have ks:=S (Hv.y ha);have hA:=S ((Hb.y hb2 I).y ha I);have Ha:=S (by rw[hf];exact⟨Jg,Jg,Jg,Jg⟩:A4 W2 (O w2.1) b);have hZ:=S (HTO.grown (zH hW JL) (λq e=>by cases e));have zW:O w2.1<O W2.1:=by rw[hf];simp
  obtain⟨kE,Hf,km⟩:=HF.l.good;have kR:=S Hf;have t:=S km;have HV:=S (O0 a c0 ms W2.drew kE (hM.y (FP HN h8.drew)) hz Hf);have k5:=S hf;clear hv hb2 hW ha Hf km q0 q6 q7 q8 hO HTO Hw Hv Hb hf;obtain⟨_,_,q1,q2,q3,q4,q5,_,_,_⟩:=D hA;go_wp2_with fail;rw[<-D k5];go_region_held3 (λqa=>qa.cell? ⟨N,2,JL⟩=E (W q.o.s)/\qa.cell? ⟨N,3,JL⟩=E (G q.o.k)/\qa.cell? ⟨N,4,JL⟩=E (G q.o.l)/\qa.cell? ⟨N,5,JL⟩=E (G q.o.sd)) (go_keep)
   (
    first
    |(go_at_call 29;(with_reducible refine(D HV).mono ?_);rintro e w3 ⟨gU,cU,vs,U',rfl,hgU,hgUl,hvl,HOV,HUA,HUO,hb3⟩;have Hl:=S hb3;have zz3:=hb3.size;have ka:=S ((hA.y (yN).drew I).y hb3 (I:N<O W2.1));obtain⟨kM,_,_,p2,p3,p4,p5,_,_,_⟩:=D ka;have hK:=S (T5 gU cU vs U' q.o w3 I hgUl HOV HUA (λi hi=>(Jy ((Lu (HUO.2 i I)).1))));unfold AJ at hK;rw[hvl]at hK;clear hb3)
    |(go_at_call 28;(with_reducible refine(D hK).mono ?_);rintro e w4 ⟨⟨v4,rfl,hr4⟩,hb4⟩;obtain⟨_,_,r1,r2,r3,r4,r5,_,_,_⟩:=ka.y hb4 kM))
  obtain rfl:=HF.u.eq HUO;have L:Hid (Below (O W2.1) W2 w4):=(yN).drew.trans (Hl.trans (hb4.mono Hl.size));have z4:=L.size;have Ho:=S (hM.y (FP HN (h8.trans (L.mono I))));have n:=S (λqa (hb:Below (O w4.1) w4 qa)=>(⟨ks.y (L.trans (hb.mono z4)),h8.trans ((L.trans (hb.mono z4)).mono I)⟩:ZE qa N (i6 (E ⟨N+1,0,JL⟩) 0 0) []/\Below N w qa));obtain⟨ds,Hi⟩:=Jx (Bk U q.o (Z ms));rw[<-Hi]at hr4;obtain⟨av,cv,rfl⟩:=zS hr4;have h5:=S hr4;have hF:=S Hi;clear hb4 hr4 Hi hK Hl HUO HUA HOV hgU hgUl hvl zz3 p2 p3 p4 p5 HV q1 q2 q3 q4 q5;by_cases h1:Z ds=1
  .obtain⟨j,rfl⟩:=List.length_eq_one_iff.1 h1;rw[h1];have hj:j<Z ms:=P6 U q.o (Z ms) j (by rw[<-D hF];simp);obtain⟨bA,T,rfl,H,kS⟩:=Ho.resolve_left I;have m0:=(H j hj).1;obtain⟨gD,rfl⟩:∃gD,av=E ⟨gD,0,JL⟩:=by
    obtain⟨_,⟨_,h0⟩|⟨g,cap,kU,hv,_⟩⟩:=D h5
    .cases h0
    .injection hv with h _ _;exact⟨g,h⟩
   have d0:w4.cell? ⟨gD,0,JL⟩=E (G j):=jK h5 0 Js;have kL:(0:Int)<=j:=I;have kC:(j:Int)<Z ms:=I;obtain⟨nm,qb⟩:=Jx ((Ae ms j).n);rw[<-qb]at m0;by_cases he:nm=q.m
   .have hE:(nm.toList==q.m.toList)=Vp:=by simp[he]
    have h6:=S (show BJ q/\CD ms U q from⟨Hk,by rw[CD,<-D hF];simp[<-qb,he]⟩);clear he qb H h1;have Hx:1<=Z ms:=I;go_wp2_with fail;go_quiet (fail);obtain⟨w5,H0⟩:=Jx (w4.drewN nq);have hG:Below (O w4.1) w4 w5:=by rw[H0];exact⟨F,F,F,yk,λ_ _=>F⟩
    obtain⟨h2,h3⟩:=(D n) w5 hG;have R:Hid (Below (O W2.1) W2 w5):=L.trans (hG.mono z4);have H1:=S (Ho.y hG);have ki:=S (OX (E ⟨bA,T,JL⟩) c0 ms w5 hn H1 hz);have kb:=S h2;have HH:=S h3;rw[<-H0];clear H0 hG h2 h3 n L Ho h5 d0 m0 r1 r2 r3 r4 r5 kC kL;go_wp2_with fail;go_call D ki as e w6 ⟨vS,tabs',cd,wh,rfl,HL',HTS,hsz,V⟩;obtain⟨rfl,rfl,rfl⟩:=HF.l.one HL';have h9:=S hsz;have z6:=V.size;have hB:=S ((hA.y R I).y V (Jy R.size));have zt:Z tabs<=100:=Jy (D t)
    have He:=S (fD vS tabs q.o w6 zt HTS.tabs (λi hi=>(h9 _ (by simp[zy,hi])).1));obtain⟨_,_,_,r2,r3,r4,r5,_,_,_⟩:=D hB;have hx:Hid (Below (O w5.1) w5 w6):=V;unfold AJ at He;clear V hsz HL' ki;go_wp2_with fail;go_call D He as e w7 ⟨⟨u,rfl,hrw⟩,hb7⟩;obtain⟨X,hX⟩:=Jx (O w2.1);rw[<-hX]at Ha zW;rw[<-hX];rw[D t]at hrw;obtain⟨gT,cT,rfl,kp,kq⟩:=zbX hrw Hx;obtain⟨gS,cS,rfl,HA,HO⟩:=xG HTS t Hx;obtain⟨gR,cR,rfl,ko,kk⟩:=bQ hZ HF.p Hx;have C:Below (O w5.1) w5 w7:=hx.trans (hb7.mono z6);have z5:=R.size;have m:Below (O W2.1) W2 w7:=R.trans (C.mono z5);have z7:=hb7.size;have Hj:=S (show L6 w w7 N X gS gT gR q b (E ⟨bA,T,JL⟩) ms tabs ts from
     ⟨HH.trans (C.mono I),kb.y C,hB.y hb7 hB.h,I,Ha.below4 m zW,H1.y C,I,λi hi=>(by
      obtain⟨g,c,h1,h2,h3⟩:=HO i hi
      exact⟨g,c,(hb7.cell (p:=⟨gS,i,JL⟩) HA).trans h1,I,h3.y hb7 h2⟩),kp,kq,I,λi hi=>(by
      obtain⟨g,c,h1,h2,h3⟩:=kk i hi
      exact⟨g,c,(m.cell (p:=⟨gR,i,JL⟩) ko).trans h1,I,h3.y m h2⟩)⟩)
    have hD:=S (by rw[D x];exact bP k7 kz:b.s.size<=1048576);have hy:=S (Nq b.s b.k b.l b.sd w7 (by have:=D hD;unfold maxLen;omega));obtain⟨b0,b1,b2,b3⟩:=Hj.bo;clear C m hb7 HO kq kk HA kp ko hrw hx R Ha HTS hZ hB kb HH H1 hX hA ks h8 r2 r3 r4 r5 z7 z6 z5 z4 zW z2 zN He hM Hp Hn;go_wp2_with fail;go_call D hy as e w8 ⟨rfl,hb8⟩;have h7:=S (Hj.y hb8);clear hb8 Hj hy b0 b1 b2 b3;cases hok:Bv b.s b.k b.l b.sd
    .have HR:=S (HF.c4 h6 (yW (by rw[<-D x];exact hok)));clear hok;go_wp2;go_ret2;exact⟨_,[],4,F,HR,by rw[<-D HN];exact S h7.nl,FP HN h7.bel⟩
    have hy:=S hok;clear hok;go_wp2;go_loopw [17] (λi wr=>∃k:Nat,k<=Z ms/\i=G k/\Hid (∀j,j<k->¬ (q.o∈zy tabs j/\b∈zy tabs j))/\Hid (L6 w wr N X gS gT gR q b (E ⟨bA,T,JL⟩) ms tabs ts)) (λi _=>Z ms-(intOf i).toNat);case atStart=>exact⟨0,yn,F,S (λj h=>yV h (yz j)),h7⟩
    case round=>
     clear h7;obtain⟨k,hk,rfl,A,HR⟩:=hrel;by_cases K:k<Z ms
     .have hV:(k:Int)<Z ms:=I;have t0:=HR.tc k K;cases hin:Bh q.o (zy tabs k)
      .have d:=S (show ∀j,j<k+1->¬ (q.o∈zy tabs j/\b∈zy tabs j) from λj hj h=>by
        by_cases ej:j=k
        .subst ej;rw[Zz.2 h.1]at hin;cases hin
        .exact A j I h)
       rw[hin]at t0;clear hin;go_wp2_with fail;go_quiet (fail);go_wp2;exact⟨⟨k+1,I,Jn,d,S (HR.y ⟨F,F,F,yk,λ_ _=>F⟩)⟩,Ji⟩
      .have P:=S (Zz.1 hin);rw[hin]at t0;obtain⟨g,c,s0,hg,H⟩:=HR.tb k K;obtain⟨b0,b1,b2,b3⟩:=HR.bo;obtain⟨xs,Q⟩:=Jx (zy tabs k);rw[<-Q]at s0 H P;have HC:=S (Sy (i6 (E ⟨g,0,JL⟩) (Z xs) c) xs b wr.drew (by rw[Q];exact(h9 _ (by have:=D t;simp[zy,this,K])).1) ⟨_,c,F,yX ⟨g,F,hg,H⟩⟩);have z:=S Q;unfold AJ at HC;clear hin H Q;go_wp2_with fail;go_region_held3 (λqa=>qa.cell? ⟨gT,k,JL⟩=E (i7 Vp)/\qa.cell? ⟨gS,k,JL⟩=E (i6 (E ⟨g,0,JL⟩) (Z xs) c)/\qa.cell? ⟨X,0,JL⟩=E (W b.s)/\qa.cell? ⟨X,1,JL⟩=E (G b.k)/\qa.cell? ⟨X,2,JL⟩=E (G b.l)/\qa.cell? ⟨X,3,JL⟩=E (G b.sd)) (go_keep)
        (first|(go_at_call 32;(with_reducible refine(D HC).mono ?_);rintro e w9 ⟨rfl,hb9⟩;have y:=S (HR.y ((yN).drew.trans hb9));have k9:=λp (hp:p.block<O wr.1)=>hb9.cell (p:=p) hp;have t9:=(k9 ⟨gT,k,JL⟩ HR.hT).trans t0;have s9:=(k9 ⟨gS,k,JL⟩ HR.hS).trans s0;obtain⟨e0,e1,e2,e3⟩:=y.bo;clear k9 hb9))
       clear t0 s0 b0 b1 b2 b3 t9 s9 e0 e1 e2 e3 HC;cases hib:Bh b xs
       .have d:=S (show ∀j,j<k+1->¬ (q.o∈zy tabs j/\b∈zy tabs j) from λj hj h=>by
         by_cases ej:j=k
         .subst ej;rw[<-D z]at h;rw[Zz.2 h.2]at hib;cases hib
         .exact A j I h)
        clear hib;go_wp2;exact⟨⟨k+1,I,Jn,d,y⟩,Ji⟩
       .have Hq:=S (HF.c4 h6 (yX ⟨k,K,by rw[<-D z];exact P,by rw[<-D z,<-D x];exact Zz.1 hib⟩));clear hib;go_wp2;go_ret2;exact⟨_,[],4,F,Hq,by rw[<-D HN];exact S y.nl,FP HN y.bel⟩
     .obtain rfl:k=Z ms:=I;have kt:=S (show ¬ FY tabs (Z ms) q from λh=>by
       rcases h with h|⟨i,hi,h1,h2⟩
       .rw[<-D x]at h;have:=D hy;unfold Ad.ok at h;rw[this]at h;cases h
       .exact A i hi ⟨h1,by rw[D x];exact h2⟩)
      obtain⟨WA,rfl⟩:=Jx wr;clear K A;go_wp2;go_loopw [18] (λi wr=>∃k:Nat,k<=Z ms/\i=G k/\Hid (∀j,j<k->q.o∈zy tabs j->zM (Ar q.o b (zy tabs j)) 0)/\Hid (L6 w wr N X gS gT gR q b (E ⟨bA,T,JL⟩) ms tabs ts)) (λi _=>Z ms-(intOf i).toNat);case atStart=>exact⟨0,yn,F,S (λj h=>yV h (yz j)),HR⟩
      case round=>
       clear HR;obtain⟨k,hk,rfl,A,HR⟩:=hrel;by_cases K:k<Z ms
       .have hV:(k:Int)<Z ms:=I;have t0:=HR.tc k K;cases hin:Bh q.o (zy tabs k)
        .have d:=S (show ∀j,j<k+1->q.o∈zy tabs j->zM (Ar q.o b (zy tabs j)) 0 from λj hj h=>by
          by_cases ej:j=k
          .subst ej;rw[Zz.2 h]at hin;cases hin
          .exact A j I h)
         rw[hin]at t0;clear hin;go_wp2_with fail;go_quiet (fail);go_wp2;exact⟨⟨k+1,I,Jn,d,S (HR.y ⟨F,F,F,yk,λ_ _=>F⟩)⟩,Ji⟩
        .have P:=S (Zz.1 hin);rw[hin]at t0;obtain⟨g,c,s0,hg,H⟩:=HR.tb k K;obtain⟨b0,b1,b2,b3⟩:=HR.bo;obtain⟨_,_,_,r2,r3,r4,r5,_,_,_⟩:=HR.rq;obtain⟨xs,Q⟩:=Jx (zy tabs k);rw[<-Q]at s0 H P;obtain⟨hl,hs⟩:=(D h9) xs (by rw[Q];have:=D t;simp[zy,this,K]);have HC:=S (VE g c xs q.o b wr.drew hl H hg);have ku:=S (show ZO (Ar q.o b xs)/\Z (Ar q.o b xs)<=1048576 from⟨Pw hs hD,by rw[EY];exact hl⟩);have z:=S Q;unfold AJ at HC;clear hin H Q hs;go_wp2_with fail;go_region_held3 (λqa=>qa.cell? ⟨gT,k,JL⟩=E (i7 Vp)/\qa.cell? ⟨gS,k,JL⟩=E (i6 (E ⟨g,0,JL⟩) (Z xs) c)/\qa.cell? ⟨X,0,JL⟩=E (W b.s)/\qa.cell? ⟨X,1,JL⟩=E (G b.k)/\qa.cell? ⟨X,2,JL⟩=E (G b.l)/\qa.cell? ⟨X,3,JL⟩=E (G b.sd)/\qa.cell? ⟨N,2,JL⟩=E (W q.o.s)/\qa.cell? ⟨N,3,JL⟩=E (G q.o.k)/\qa.cell? ⟨N,4,JL⟩=E (G q.o.l)/\qa.cell? ⟨N,5,JL⟩=E (G q.o.sd)) (go_keep)
          (
           first
           |(go_at_call 34;(with_reducible refine(D HC).mono ?_);rintro e w9 ⟨⟨u,rfl,hru⟩,hb9⟩;have y:=S (HR.y ((yN).drew.trans hb9));have k9:=λp (hp:p.block<O wr.1)=>hb9.cell (p:=p) hp;have t9:=(k9 ⟨gT,k,JL⟩ HR.hT).trans t0;have s9:=(k9 ⟨gS,k,JL⟩ HR.hS).trans s0;obtain⟨e0,e1,e2,e3⟩:=y.bo;obtain⟨_,_,_,u2,u3,u4,u5,_,_,_⟩:=y.rq;have ke:=S (TR u (Ar q.o b xs) w9 ku.2 hru.ops ku.1);have kF:=y.hT;have k4:=y.hS;clear k9 hb9)
           |(go_at_call 33;(with_reducible refine(D ke).mono ?_);rintro e wa ⟨⟨cd,rfl,hcd⟩,hba⟩;have hm:=S (y.y hba);have ta:=Jc hba kF t9;have sa:=Jc hba k4 s9;obtain⟨f0,f1,f2,f3⟩:=hm.bo;obtain⟨_,_,_,v2,v3,v4,v5,_,_,_⟩:=hm.rq;clear hba))
         clear t0 s0 b0 b1 b2 b3 t9 s9 e0 e1 e2 e3 HC ke u2 u3 u4 u5 r2 r3 r4 r5 v2 v3 v4 v5 f0 f1 f2 f3 ta sa y HR;have Hc:=S hcd;by_cases hc:cd=0
         .subst hc;have d:=S (show ∀j,j<k+1->q.o∈zy tabs j->zM (Ar q.o b (zy tabs j)) 0 from λj hj h=>by
           by_cases ej:j=k
           .subst ej;rw[<-D z];exact hcd
           .exact A j I h)
          clear hcd;go_wp2;exact⟨⟨k+1,I,Jn,d,hm⟩,Ji⟩
         .have Hq:=S (HF.c5 h6 kt ⟨k,K,by rw[<-D z];exact P,cd,by rw[<-D z,<-D x];exact hcd,hc⟩);have HZ:(cd != 0)=Vp:=Ju hc
          clear hcd hc;go_wp2;go_ret2;exact⟨_,[],5,F,Hq,by rw[<-D HN];exact S hm.nl,FP HN hm.bel⟩
       .obtain rfl:k=Z ms:=I;have kK:Hid (¬ J7 tabs (Z ms) q):=λ⟨i,hi,h1,c,h2,h3⟩=>h3 (Z3 (by rw[D x];exact h2) (A i hi h1))
        obtain⟨WR,rfl⟩:=Jx wr;have H9:=S (ZE.nil (w:=WR) (B:=O WR.1) yk);clear K A;go_wp2;go_loopw [19,20] (λov iv wr=>∃(k:Nat)(os:Jp),k<=Z ms/\iv=G k/\Hid (Ea q ms tabs ts k os)/\Hid (ZE wr (O WR.1) ov os)/\Hid (Below (O WR.1) WR wr)/\Hid (Em os)) (λ_ iv _=>Z ms-(intOf iv).toNat);case atStart=>exact⟨0,[],yn,F,S ⟨F,λi h=>yV h (yz i)⟩,H9,S zC,S (λi h=>yV h (yz i))⟩
        case round=>
         clear H9;obtain⟨k,os,hk,rfl,H2,s,Hz,kn⟩:=hrel;obtain⟨av,cv,rfl⟩:=zS s;have Hu:Z os=k:=H2.1;have kP:Z os<=100:=I;have qd:=S (HR.y Hz);have zr:=Hz.size;by_cases K:k<Z ms
         .have hV:(k:Int)<Z ms:=I;have t0:=qd.tc k K;obtain⟨b',o',e,H,kQ⟩:=qd.am.resolve_left I;obtain⟨rfl,rfl⟩:bA=b'/\T=o':=by injection e with e;injection e with e1 e2;exact⟨e1,e2⟩
          obtain⟨m0,m1⟩:=H k K;obtain⟨nm,qb⟩:=Jx ((Ae ms k).n);obtain⟨tx,hQ⟩:=Jx ((Ae ms k).t);rw[<-qb]at m0;rw[<-hQ]at m1;have HI:=S qb;have HE:=S hQ;have k6:=S (by rw[qb];exact(hz k K).1:nm.size<=maxLen);have HL:tx.size<=20000:=by rw[hQ];exact Xr (HF.u.2 k K)
          have kT:=S Hu;clear e H Hu qb hQ;obtain⟨W6,l⟩:=Jx (wr.alloc (JM #[W nm,W tx] 49));have V:Below (O wr.1) wr W6:=by rw[l];exact zC
          have z6:O wr.1<O W6.1:=by rw[l];simp
          have y0:W6.cell? ⟨O wr.1,0,JL⟩=E (W nm):=by rw[l];simp[go_sem]
          have y1:W6.cell? ⟨O wr.1,1,JL⟩=E (W tx):=by rw[l];simp[go_sem]
          have yf:W6.frozen? ⟨O wr.1,1,JL⟩=Vt:=by rw[l];simp[go_sem]
          have hu:=S (qd.y V);have t6:=Jc V qd.hT t0;have hx:=S V;have kB:=S l;clear l V;go_upto_region 30 with fail
          rw[<-D kB];cases hin:Bh q.o (zy tabs k)
          focus
           have kr:=S (show G3 q (zy tabs k) (AM ts k) (Ae ms k) ⟨nm,tx⟩ from⟨HI,yX ⟨λh=>(by rw[Zz.2 h]at hin;cases hin),HE⟩⟩)
           have HJ:=S (Jm:tx.size<=maxLen)
           rw[hin]at t6
           clear hin
           go_upto_region 33 with fail
           obtain⟨Wm,rfl⟩:=Jx W6
           obtain⟨tf,rfl⟩:=Jx tx
           have hP:=S hx
           clear yf HL
          rotate_left
          focus
           have P:=S (Zz.1 hin)
           rw[hin]at t6
           obtain⟨g,c,s0,hg,H⟩:=hu.tb k K
           obtain⟨g2,c2,n0,kO,hR⟩:=hu.tr k K
           obtain⟨b0,b1,b2,b3⟩:=hu.bo
           obtain⟨_,_,_,r2,r3,r4,r5,_,_,_⟩:=hu.rq
           obtain⟨_,HY⟩:=HF.p.2 k K
           obtain⟨hU,kj,M⟩:=Lm HY
           obtain⟨xs,Q⟩:=Jx (zy tabs k)
           obtain⟨ns,Hd⟩:=Jx (AM ts k)
           rw[<-Q]at s0 H P
           rw[<-Hd]at n0 hR hU kj M
           obtain⟨hl,hs⟩:=(D h9) xs (by rw[Q];have:=D t;simp[zy,this,K])
           obtain⟨kl,HU,kg,kw⟩:=MR (o:=b) hy
           have kv:1<=Z (Ar q.o b xs):=by rw[EY];exact List.length_pos_iff.2 (λe=>by rw[e]at P;exact yV (D P) Js)
           have HC:=S (VE g c xs q.o b W6.drew hl H hg)
           have Hr:=S (λqa (hb:Below (O W6.1) W6 qa)=>Ur g2 c2 ns q.o b qa I (hR.y hb kO) (Jy hb.size) (by rw[<-bO q,<-D x];exact⟨kg,kw⟩))
           have H3:=S (λgu cu gn cn qa (h1:Au qa gu 0 (Ar q.o b xs)) (h2:gu<O qa.1) (h3:Z2 qa gn 0 (AV q.o b ns)) (h4:gn<O qa.1)=>fC gu 0 cu gn 0 cn (Ar q.o b xs) (AV q.o b ns) qa (by rw[EY];exact hl) (by rw[EZ];omega) h1 (Pw hs hD) h2 h3 (Wz M hD) h4)
           rw[EZ]at H3
           have hJ:=S (λqa (hb:Below (O W6.1) W6 qa)=>(by
            have kc:=λp (hp:p.block<O W6.1)=>hb.cell (p:=p) hp
            have hr:=(D hu)
            exact⟨(kc ⟨gS,k,JL⟩ hr.hS).trans s0,(kc ⟨gR,k,JL⟩ hr.hR).trans n0,hr.bo.below4 hb hr.hX,hr.rq.y hb hr.rq.h,(kc ⟨O wr.1,0,JL⟩ z6).trans y0,(kc ⟨O wr.1,1,JL⟩ z6).trans y1,(hb.frozen (p:=⟨O wr.1,1,JL⟩) z6).trans yf⟩:qa.cell? ⟨gS,k,JL⟩=E (i6 (E ⟨g,0,JL⟩) (Z xs) c)/\qa.cell? ⟨gR,k,JL⟩=E (i6 (E ⟨g2,0,JL⟩) (Z ns) c2)/\A4 qa X b/\E5 qa N q/\qa.cell? ⟨O wr.1,0,JL⟩=E (W nm)/\qa.cell? ⟨O wr.1,1,JL⟩=E (W tx)/\qa.frozen? ⟨O wr.1,1,JL⟩=Vt))
           have z:=S Q
           have k0:=S Hd
           have HW:=S (λqa=>Ut tx q.o b qa I (λ_ _=>kl) HU)
           unfold AJ at HC Hr
           clear hin H hR Q Hd hs HY kl kg kw M
           go_upto_region 31 with fail
           go_region_held3 (λqa=>qa.cell? ⟨gS,k,JL⟩=E (i6 (E ⟨g,0,JL⟩) (Z xs) c)/\qa.cell? ⟨gR,k,JL⟩=E (i6 (E ⟨g2,0,JL⟩) (Z ns) c2)/\qa.cell? ⟨X,0,JL⟩=E (W b.s)/\qa.cell? ⟨X,1,JL⟩=E (G b.k)/\qa.cell? ⟨X,2,JL⟩=E (G b.l)/\qa.cell? ⟨X,3,JL⟩=E (G b.sd)/\qa.cell? ⟨N,2,JL⟩=E (W q.o.s)/\qa.cell? ⟨N,3,JL⟩=E (G q.o.k)/\qa.cell? ⟨N,4,JL⟩=E (G q.o.l)/\qa.cell? ⟨N,5,JL⟩=E (G q.o.sd)) (go_keep)
            (
             first
             |(go_at_call 34;(with_reducible refine(D HC).mono ?_);rintro e wa ⟨⟨u,rfl,hru⟩,hba⟩;obtain⟨gu,cu,rfl,kJ,HQ⟩:=qG hru kv;have hC:Hid (Below (O W6.1) W6 wa):=(yN).drew.trans hba;obtain⟨a1,a2,⟨a3,a4,a5,a6⟩,⟨_,_,_,a7,a8,a9,aa,_,_,_⟩,_⟩:=(D hJ) wa hC;have HS:=S HQ;have HP:=S (Hr wa hC);clear hba hru HQ)
             |(go_at_call 36;(with_reducible refine(D HP).mono ?_);rintro e wb ⟨⟨u2,rfl,hru2⟩,hbb⟩;obtain⟨gn,cn,rfl,kH,HB⟩:=qH hru2 (EZ _ _ _) hU;have H7:Hid (Below (O W6.1) W6 wb):=hC.trans (hbb.mono hC.size);obtain⟨d1,d2,⟨d3,d4,d5,d6⟩,⟨_,_,_,d7,d8,d9,da,_,_,_⟩,_⟩:=(D hJ) wb H7;have HD:=S (H3 gu cu gn cn wb (HS.y hbb kJ) (Jy hbb.size) HB kH);clear hbb hru2 HB)
             |(go_at_call 35;(with_reducible refine(D HD).mono ?_);rintro e wc ⟨⟨pt,pv,rfl,HPI⟩,hbc⟩;have Hm:Hid (Below (O W6.1) W6 wc):=H7.trans (hbc.mono H7.size);obtain⟨f1,f2,⟨f3,f4,f5,f6⟩,⟨_,_,_,f7,f8,f9,fa,_,_,_⟩,x0,x1,xf⟩:=(D hJ) wc Hm;clear hbc))
           have Hc:=S (HW wc)
           have kG:=HPI.size
           clear a1 a2 a3 a4 a5 a6 a7 a8 a9 aa d1 d2 d3 d4 d5 d6 d7 d8 d9 da f1 f2 HC HP HD Hr H3 HW HS kv b0 b1 b2 b3 r2 r3 r4 r5 s0 n0
           go_wp2_with fail
           go_call D Hc as e wd ⟨⟨hd,rfl,hhz,HHI⟩,hbd⟩
           have kd:Hid (Below (O W6.1) W6 wd):=Hm.trans (hbd.mono Hm.size)
           obtain⟨_,_,_,_,e0,e1,ef⟩:=(D hJ) wd kd
           obtain⟨tf,hH⟩:=Jx (hd++pt)
           have kr:=S (show G3 q (zy tabs k) (AM ts k) (Ae ms k) ⟨nm,tf⟩ from⟨HI,yW ⟨by rw[<-D z];exact P,hd,pt,pv,by rw[<-D HE,<-D x];exact IL.of HHI,by rw[<-D z,<-D k0,<-D x];exact HPI,hH⟩⟩)
           have HJ:=S (by rw[hH,zQ];unfold maxLen;omega:tf.size<=maxLen)
           clear hbd Hc f3 f4 f5 f6 f7 f8 f9 fa x0 x1 xf
           go_upto_region 33 with fail
           rw[<-hH]
           obtain⟨Wm,hS⟩:=Jx (wd.setCell ⟨O wr.1,1,JL⟩ (W tf))
           rw[<-hS]
           replace y0:Wm.cell? ⟨O wr.1,0,JL⟩=E (W nm):=by rw[hS,yj _ _ _ _ (by simp)];exact e0
           replace y1:Wm.cell? ⟨O wr.1,1,JL⟩=E (W tf):=by rw[hS];exact yu _ _ _ e1
           have hP:=S (by rw[hS];exact(hx.trans (kd.mono I)).setCell (p:=⟨O wr.1,1,JL⟩) yk _:Below (O wr.1) wr Wm)
           clear hS hH kG hhz e0 e1 ef yf HL
          all_goals
           have zm:=hP.size
           have kh:Hid (ZE (Wm.alloc (JM #[W nm,W tf] 49)) (O WR.1) (i6 av (Z os) cv) os):=s.y (hP.alloc zm _)
           have ky:=S (Fx Wm ⟨nm,tf⟩)
           go_wp2_with (at_builtin;refine As FM underlying23 (.tmp 167) (.tmp 169) F rfl (O WR.1) _ (Z os) (zk os) F kh ⟨O Wm.1,0,JL⟩ 1 1 (zk [⟨nm,tf⟩]) F rfl ky (IY _) Jm I Jh ?_)
           intro v4 w4 hw f H6 HG
           have h5:=S (by unfold ZE;rw[Me,yr];exact hw:ZE w4 (O WR.1) v4 (os++[⟨nm,tf⟩]))
           have kN:Hid (Below (O WR.1) WR w4):=(Hz.trans ((hP.alloc zm _).mono zr)).grown f Jq (λq hq=>(s.lt q hq).1)
           have k8:=S (H2.step kr)
           have k3:=S (show Em (os++[⟨nm,tf⟩]) from λi hi=>by
            rw[SQ]
            by_cases e:i<Z os
            .rw[yU e];exact kn i e
            .simp at hi;rw[yS e,yU I];exact⟨k6,HJ⟩)
           clear hw f H6 HG
           go_wp2
           exact⟨⟨k+1,os++[⟨nm,tf⟩],I,Jn,k8,h5,kN,k3⟩,Ji⟩
         .obtain rfl:k=Z ms:=I;have kD:1<=Z os:=I;clear Hu;obtain⟨gO,rfl⟩:∃gO,av=E ⟨gO,0,JL⟩:=by obtain⟨g,c,e⟩:=s.has kD;injection e with e;exact⟨g,e⟩
          have kI:=S (Ng (E ⟨gO,0,JL⟩) cv os wr I s.arg kn);clear K;go_wp2_with fail;go_call D kI as e wz ⟨vz,t2,c2,x2,rfl,HT2,_,hbz⟩;obtain⟨Hg,Hh⟩:=HF.c6 h6 kt kK H2 HT2;have H5:=S (qd.y hbz);have k1:=S ((s.y hbz).base (show N<=O WR.1 from Nat.le_of_lt HR.rq.h));clear hbz;by_cases hc:c2=0
          .have HX:=S (Hh hc);clear Hg Hh;subst hc;go_wp2;go_ret2;exact⟨_,os,0,F,HX,by rw[<-D HN];exact k1,FP HN H5.bel⟩
          .have HX:=S (Hg hc);have HZ:(c2 != 0)=Vp:=Ju hc
           clear Hg Hh hc;go_wp2;go_ret2;exact⟨_,[],6,F,HX,by rw[<-D HN];exact S H5.nl,FP HN H5.bel⟩
   .have hE:(nm.toList==q.m.toList)=Vt:=by simp;exact λe=>he (Zd e)
    have HR:=S (HF.c3 Hk (λh=>he (by rw[CD,<-D hF]at h;simpa[<-qb] using h)));clear he qb H h1;go_wp2_with fail;go_quiet (fail);go_wp2;go_ret2;obtain⟨h2,h3⟩:=(D n) (w4.drewN nq) ⟨F,F,F,yk,λ_ _=>F⟩;exact⟨_,[],3,F,HR,by rw[<-D HN];exact S h2,FP HN h3⟩
  .have hI:((Z ds:Int)!=1)=Vp:=Jq;have HR:=S (HF.c3 Hk (λh=>h1 (by have:=yY List.length h;rw[<-D hF]at this;simpa using this)));clear h1;go_wp2_with fail;go_quiet (fail);go_wp2;go_ret2;obtain⟨h2,h3⟩:=(D n) (w4.drewN nq) ⟨F,F,F,yk,λ_ _=>F⟩;exact⟨_,[],3,F,HR,by rw[<-D HN];exact S h2,FP HN h3⟩
 .have HZ:(ct != 0)=Vp:=Ju hc
  have HR:=S (show Eb ms q [] 1 from⟨ts,ct,wt,HT,yW ⟨hc,F,F⟩⟩);clear hc;go_wp2;go_ret2;exact⟨_,[],1,F,HR,by rw[<-D HN];exact Hw,FP HN Hn⟩
