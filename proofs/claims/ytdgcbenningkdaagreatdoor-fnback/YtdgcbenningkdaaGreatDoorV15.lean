import Derived.Test.YtdgcbenningkdaaGreatDoorV13
import Derived.Test.YtdgcbenningkdaaGreatDoorV14
namespace Go.Proofs.YtdgcbenningkdaaGreatDoor
set_option linter.all false
set_option maxHeartbeats 0
set_option maxRecDepth 100000
open Proofs.Tryz RowKit
variable{N c cap g q rp v:Nat}{b w w0 w6 wr:World}{a:Option Addr}{bs:List UInt8}{ms:List zF}
open _root_.Array renaming size→O
open List renaming length→Z
open Option renaming some→E
open Obj renaming cells→JM
open Bool renaming false→Vt,true→Vp
open Proofs.Tryz renaming prog→Vb
open Ending renaming returned→i9
open _root_.ByteArray renaming empty→j6
def OB(a b:zD):Bool:=(a.k==b.k)&&(a.t.toList==b.t.toList)&&(a.a==b.a)&&(a.b==b.b)
theorem Wu(a b):OB a b=Vp↔a=b:=by unfold OB;obtain⟨k,t,x,y⟩:=a;obtain⟨c,d,e,f⟩:=b;grind [Zd]
def qA:prog.underlying 108=E (.struct (prog.fieldsOf 108)):=Jk
def zZk:prog.stoodInHeld 108=Vt:=Jk
def uE:prog.eqGuardType prog.depth 108=Vt:=Jk
def lB(a b w):(binOp .neq 108 (.agg #[G a.k,W a.t,G a.a,G a.b]) (.agg #[G b.k,W b.t,G b.a,G b.b])).run Vb w=.ok (.bool (!OB a b)) w:=by rw[run_neq_struct,run_equalIn_agg _ _ _ _ _ qA zZk];unfold Program.fieldsOf OB;rw[underlying108];cases c:(a.k==b.k)<;>cases d:(a.t.toList==b.t.toList)<;>cases e:(a.a==b.a)<;>cases f:(a.b==b.b)<;>simp[go_sem,c,d,e,f]
def qB{a b}(e:Z a=Z b)(h:∀j,j<Z a->Y a j=Y b j):a=b:=
 List.ext_getElem e λi c d=>by have:=h i c;simpa[Y,yq,c,d] using this
theorem T7(a s m K k l w)(hm:Z k<=1048576)(B:Z l<=1048576)(h:FX w a k)(M:FX w s l):Calls Vb 16 #[.agg #[.slice a (Z k) m],.agg #[.slice s (Z l) K]] w λe w'=>(∃v,e=i9 (.bool v)/\(v=Vp↔k=l))/\Below (O w.1) w w':=by
 obtain⟨f,o⟩:=Jx ((w.alloc (JM #[.slice a (Z k) m] 40)).alloc (JM #[.slice s (Z l) K] 40));have t:Below (O w.1) w f:=by rw[o];exact(zC).alloc Js _
 have N:=S (h.y t);have y:=S (M.y t);have p:=S t;have R:=S o;have c:O f.1=O w.1+2:=by rw[o];simp
 have t0:f.cell? (J (O w.1) 0)=E (.slice a (Z k) m):=by rw[o];exact Jc (@zC (w.alloc _) _) Jh Jg
 have t1:f.cell? (J (O w.1+1) 0)=E (.slice s (Z l) K):=by rw[o];simp[go_sem]
 clear h M t o;by_cases z:Z k=Z l
 .have P:((Z k:Int)!=Z l)=Vt:=by simp[z]
  have L:=S z;clear z;go_enter func16,ntmps16;go_wp2_with fail;rw[<-D R];go_loopw [5] (λi wr=>∃n:Nat,n<=Z k/\i=G n/\Hid (∀j,j<n->Y k j=Y l j)/\Below (O f.1) f wr) (λi _=>Z k-(intOf i).toNat);case atStart=>exact⟨0,yn,F,S (λj h=>I),yN⟩
  case round=>
   obtain⟨n,hn,rfl,g,H⟩:=hrel;have d0:=Jc H (show O w.1<_ by omega) t0;have d1:=Jc H (show O w.1+1<_ by omega) t1;by_cases d:n<Z k
   .have u:(n:Int)<Z k:=I;have Q:n<Z l:=by grind
    have A:(n:Int)<Z l:=I;rcases D N with h|⟨b,C,rfl,ho,T⟩
    .omega
    rcases D y with h|⟨b',U,rfl,x,X⟩
    .omega
    obtain⟨a0,a1,a2,a3⟩:=(ho n d).y H T;obtain⟨b0,b1,b2,b3⟩:=(x n Q).y H X;have hq:=λV=>lB (Y k n) (Y l n) V
    have hg:=uE;have q:=S H;go_wp2_with fail;go_quiet (fail);cases hsm:OB (Y k n) (Y l n)
    .have HN:=S (show k≠l from λe=>by grind [Wu,Y])
     go_wp2;go_ret;exact⟨⟨Vt,F,λe=>(by cases e),λe=>yV e HN⟩,p.trans ((below_drewN q _).mono p.size)⟩
    .have HN:=S (show ∀j,j<n+1->Y k j=Y l j from λj hj=>by grind [Wu,Hid])
     go_wp2;exact⟨⟨n+1,I,Jn,HN,below_drewN q _⟩,Ji⟩
   .have HE:Hid (k=l):=qB L (λj hj=>g j I);have q:=S (p.trans (H.mono p.size));go_wp2;go_ret;exact⟨⟨Vp,F,λ_=>HE,λ_=>F⟩,q⟩
 .have P:((Z k:Int)!=Z l)=Vp:=Jq;have L:=S z;go_enter func16,ntmps16;go_wp2;go_ret;exact⟨⟨Vt,F,λe=>(by cases e),λe=>yV (by rw[e]) L⟩,by grind [Hid]⟩
def M1(w)(v:Value)(h:JF):=∃a c,v=.slice a (Z h) c/\(Z h=0\/∃g,a=E (J g 0)/\g<O w.1/\∀i,i<Z h->∃x d,w.cell? (J g i)=E (.slice x (Z (AM h i)) d)/\FX w x (AM h i))
def M1.y{w f v H}(h:M1 w v H)(b:Qb w f):M1 f v H:=by obtain⟨a,c,rfl,h⟩:=h;refine⟨a,c,F,h.imp id ?_⟩;rintro⟨g,rfl,e,j⟩;refine⟨g,F,ym e b.size,λi m=>?_⟩;obtain⟨x,d,k,l⟩:=j i m;exact⟨x,d,Jc b e k,l.y b⟩
def Fd.at'{B v H}(h:Fd w B v H):M1 w v H:=by
 obtain⟨⟨a,c,rfl⟩,d|⟨g,k,f,j,_,e,h⟩⟩:=h
 .exact⟨a,c,F,yW d⟩
 .injection e with e1 e2 e3;subst e1;exact⟨_,c,F,yX ⟨g,F,h.hg,λi b=>⟨f i,j i,h.ce i b,(h.ro i b).arg⟩⟩⟩
def eE(u m p a f w)(h:A0 w u a m f p)(T:Z f<=1200):Calls Vb 54 #[Qp u,.agg #[Jl]] w λe U=>(∃s:JZ,e=i9 (W s)/\Hid (s=D9 [] f p))/\Hid (A0 U u a m f (Fb [] f p))/\Hid (zE w U u):=by
 have q:=h.lt;have H:=S h;go_enter func54,ntmps54;go_wp2_with fail;go_call GJ u m p a f _ (H.y zC) T as e V ⟨⟨k,rfl,hk,i⟩,o,n⟩;have t:=S ((zE.Q zC).trans n);have z1:O w.1+1<=O V.1:=by have:=n.size;simpa using this
 have b0:V.cell? (J (O w.1) 0)=E Jl:=(n.cell (b:=O w.1) Js I 0).trans Jg;have hA:¬ (k%8<4/\0<Z ([]:Jf)):=λh=>yV h.2 Js
 by_cases M:k%8=4
 .have g:=S M;have y:¬ (k:Int)%8<4:=I;have A:((k:Int)%8==4)=Vp:=Jq;have j:=S (by simp[D9,<-D i,D g]:(⟨#[40]⟩:JZ)=D9 [] f p);have l:=S (by simp[Fb,<-D i,D g]:Fb [] f p=Ac f p);go_wp2;go_ret;rw[D l];exact⟨⟨_,F,j⟩,o,t⟩
 by_cases N:k%8=5
 .have g:=S N;have y:¬ (k:Int)%8<4:=I;have A:((k:Int)%8==4)=Vt:=Jq;have L:((k:Int)%8==5)=Vp:=Jq;have j:=S (by simp[D9,<-D i,D g]:(⟨#[41]⟩:JZ)=D9 [] f p);have l:=S (by simp[Fb,<-D i,D g]:Fb [] f p=Ac f p);go_wp2;go_ret;rw[D l];exact⟨⟨_,F,j⟩,o,t⟩
 by_cases P:k%8=6
 .have g:=S P;have y:¬ (k:Int)%8<4:=I;have A:((k:Int)%8==4)=Vt:=Jq;have L:((k:Int)%8==5)=Vt:=Jq;have e3:((k:Int)%8==6)=Vp:=Jq;have e4:1+(k:Int)/8%4<=4:=I;have B:(0:Int)<=1+(k:Int)/8%4:=I;have j:=S (by simp[D9,<-D i,D g]:(⟨#[97,49,95,98]⟩:JZ).extract 0 (1+k/8%4)=D9 [] f p);have l:=S (by simp[Fb,<-D i,D g]:Fb [] f p=Ac f p);go_wp2;go_ret;rw[D l];exact⟨⟨_,F,j⟩,o,t⟩
 have x:(k%8<4/\Z ([]:Jf)=0)\/k%8=7:=I;have g:=S (show ¬ (k%8<4/\0<Z ([]:Jf))/\¬ k%8=4/\¬ k%8=5/\¬ k%8=6 from⟨hA,M,N,P⟩);have A:((k:Int)%8==4)=Vt:=Jq;have L:((k:Int)%8==5)=Vt:=Jq;have e3:((k:Int)%8==6)=Vt:=Jq;rcases x with⟨x,h8⟩|x;focus
  have y:(k:Int)%8<4:=I
  clear x h8
 rotate_left
 focus
  have y:¬ (k:Int)%8<4:=I
  clear x
 all_goals
  by_cases C:240<=k
  .have HB:=S C
   have B:(240:Int)<=k:=I
   have j:=S (by simp[D9,<-D i,D g,D HB]:Fs k=D9 [] f p)
   have l:=S (by simp[Fb,<-D i,D g,D HB]:Fb [] f p=Ac f p)
   go_wp2_with (go_at_call 22;refine(Rw _ _ I).mono ?_;rintro e w3 ⟨rfl,hx⟩;obtain rfl:=hx.symm)
   go_ret
   rw[D l]
   exact⟨⟨_,F,j⟩,o,t⟩
  by_cases R:224<=k
  .have HD:=S (yO C R)
   have B:¬ (240:Int)<=k:=I
   have e6:(224:Int)<=k:=I
   have j:=S (by simp[D9,<-D i,D g,D HD]:(⟨#[(Af f (Ac f p)).toUInt8]⟩:JZ)=D9 [] f p)
   have l:=S (by simp[Fb,<-D i,D g,D HD]:Fb [] f p=Ac f (Ac f p))
   go_wp2_with fail
   go_call GJ u m _ a f _ o T as e w2 ⟨⟨v,rfl,hv,HV⟩,X,z⟩
   have K:=S (t.trans z)
   have Q:=λd c=>zai d c
   go_wp2
   go_ret
   rw[D l]
   refine⟨⟨_,F,S ?_⟩,S (X.y zC),S (K.belowN zC)⟩
   rw[<-D j,<-D HV]
  .have HD:=S (yO C R)
   have B:¬ (240:Int)<=k:=I
   have e6:¬ (224:Int)<=k:=I
   have e7:(k:Int)/8%4<=4:=I
   have e8:(0:Int)<=k/8%4:=I
   have j:=S (by simp[D9,<-D i,D g,D HD]:(⟨#[49,48,50,55]⟩:JZ).extract (k/8%4) 4=D9 [] f p)
   have l:=S (by simp[Fb,<-D i,D g,D HD]:Fb [] f p=Ac f p)
   go_wp2
   go_ret
   rw[D l]
   exact⟨⟨_,F,j⟩,o,t⟩
def nN(a p):(D9 [] a p).size<=4:=by
 have b:(⟨#[97,49,95,98]⟩:JZ).size=4:=F;have c:(⟨#[49,48,50,55]⟩:JZ).size=4:=F;have d:=PG (Af a p);unfold D9;rw[yS (λh=>yV h.2 Js)];repeat' split
 .decide
 .decide
 .rw[yC];omega
 .omega
 .show 1<=4;omega
 .rw[yC];omega
def ON.one{s n C i v p q f m u}(h:ON s n C i v p m q)(M:ON s n C i v p u f):m=u/\q=f:=by
 obtain⟨hd,z,c,who,ws,q1,V,b,L,B,rfl,hL,R,hT,P,N⟩:=h;obtain⟨j,g,c',A,ws',U,k,w,o,l,rfl,K,X,H,y,Q⟩:=M;obtain⟨rfl,rfl,rfl⟩:=hL.one K;obtain⟨rfl,rfl⟩:=R.one X;have e:V=k/\q=f:=by
  rcases hT with⟨a,rfl,rfl⟩|⟨a,rfl,rfl⟩<;>rcases H with⟨d,rfl,rfl⟩|⟨d,rfl,rfl⟩
  .exact⟨F,F⟩
  .exact yV a d
  .exact yV d a
  .exact⟨F,F⟩
 obtain⟨rfl,rfl⟩:=e;obtain⟨rfl,rfl,rfl⟩:=P.one y;refine⟨?_,F⟩;rcases N with⟨a,rfl⟩|⟨a,t,T,rfl⟩<;>rcases Q with⟨d,rfl⟩|⟨d,t',x,rfl⟩
 .rfl
 .exact yV a d
 .exact yV d a
 .rw[T.one x]
theorem JX.one{a n d c}:∀{i:Nat}{ms ms':Jp}{q q':Nat},JX a n d c i ms q->JX a n d c i ms' q'->ms=ms'/\q=q'
 |0,_,_,_,_,h,h'=>⟨h.1.trans h'.1.symm,h.2.trans h'.2.symm⟩
 |i+1,_,_,_,_,h,h'=>by obtain⟨Q,k,m,e,f,rfl⟩:=h;obtain⟨b,g,j,K,H,rfl⟩:=h';obtain⟨rfl,rfl⟩:=JX.one e K;obtain⟨rfl,rfl⟩:=f.one H;exact⟨F,F⟩
def M8.one{c p q e d a}(h:M8 c p d q)(b:M8 c p a e):d=a/\q=e:=by obtain⟨k,j,f,h⟩:=h;obtain⟨i,g,H,b⟩:=b;obtain⟨rfl,rfl⟩:=f.one H;exact h.one b
def Ff(e:Jp)(g:ZB)(z:Nat):Nat->ZB->Prop
 |0,q=>q=g
 |d+1,q=>∃a h f b c l,Ff e g z d a/\ZC (Ae e ((z+d)%(Z e))).t h f b c l/\q=if 0<Z f/\a.m=j6 then⟨a.k,(Ae e ((z+d)%(Z e))).n,r f (z/4%(Z f)),a.t,a.l,a.sd⟩ else a
theorem Ff.one{a e z}:∀{d:Nat}{q q':ZB},Ff a e z d q->Ff a e z d q'->q=q'
 |0,_,_,h,h'=>h.trans h'.symm
 |d+1,_,_,⟨q1,us,os,b,c,l,h1,h2,h3⟩,⟨q1',us',os',b',c',l',h1',h2',h3'⟩=>by obtain rfl:=h1.one h1';obtain⟨rfl,rfl,_⟩:=h2.one h2';rw[h3,h3']
def IQ(k v:Nat):ZB:=⟨(1+k%2:Nat),j6,Ad.zero,Fs v,0,0⟩
def Ei(k v:Nat)(q:ZB):ZB:=if k%16<8/\q.k=1 then⟨q.k,q.m,q.o,(⟨#[64,36,37]⟩:JZ).extract (v%3) 3,q.l,q.sd⟩ else q
def BA(v:Nat)(q:ZB):ZB:=if q.k=2 then⟨q.k,q.m,q.o,j6,if 250<=v then((v*8:Nat):Int) else if 128<=v/\q.o.k=2 then((3*(v%6)+(1+v/6%3):Nat):Int) else((3*(v%6):Nat):Int)+AE q.o.k q.o.sd,if 128<=v/\q.o.k=2 then((1+v/6%3:Nat):Int) else q.o.sd⟩ else q
def EB(k v:Nat)(q:ZB):ZB:=if k%32=13 then⟨q.k,E4 v,q.o,q.t,q.l,q.sd⟩ else q
def Fq(k:Nat)(q:ZB):ZB:=if k%32=14 then⟨q.k,q.m,⟨q.o.s,q.o.k,q.o.l+1,q.o.sd⟩,q.t,q.l,q.sd⟩ else q
def GF(k:Nat)(q:ZB):ZB:=if k%32=22 then⟨q.k,q.m,q.o,q.t,q.l+1,q.sd⟩ else q
def G9(k v:Nat)(q:ZB):ZB:=if k%32=12 then⟨(v%4:Nat),q.m,q.o,q.t,q.l,q.sd⟩ else q
def CI(k v:Nat)(q:ZB):ZB:=G9 k v (GF k (Fq k (EB k v (BA v (Ei k v q)))))
def Nb(q:ZB):zF:=⟨⟨#[119,49]⟩,Es++q.m++GE++ZR (dW (ZU q))++⟨#[10,98,101,103,105,110,10,49]⟩⟩
def M9(c p k v z e q):=
 ∃b f a d,M8 c p b f/\a=(if k%8=7 then Dt c (1+k%7) b else b)/\Ff a (IQ k v) z (Z a) d/\q=CI k v d/\e=if k%16=5 then a++[Nb q] else a
def M9.one{b p k v z c a q f}(h:M9 b p k v z c q)(g:M9 b p k v z a f):c=a/\q=f:=by obtain⟨x,n,Q,o,i,rfl,j,rfl,rfl⟩:=h;obtain⟨d,l,e,m,H,rfl,K,rfl,rfl⟩:=g;obtain⟨rfl,rfl⟩:=i.one H;obtain rfl:=j.one K;exact⟨F,F⟩
def TO(a b q):=M9 a (Ac a (Ac a (Ac a 0))) (Af a 0) (Af a (Ac a 0)) (Af a (Ac a (Ac a 0))) b q
structure A6(w:JY)(N:Nat)(A:Array Value):Prop where
 c:∀j,j<A.size->w.cell? (J N j)=A[j]?
 fz:∀o,w.frozen? (J N o)=Vt
def A6.same{w' A}(h:A6 w N A)(e:w'.heap[N]?=w.heap[N]?):A6 w' N A:=
 ⟨λj b=>(yv (w:=w) (a:=J N j) e).trans (h.c j b),λo=>(yG (w:=w) (a:=J N o) e).trans (h.fz o)⟩
def A6.put{A}(h:A6 w N A)(i v)(a:i<A.size):A6 (w.setCell (J N i) v) N (A.setIfInBounds i v):=
 ⟨λj b=>by
  rw[Array.size_setIfInBounds]at b
  by_cases e:i=j
  .subst e
   have:=h.c i a
   rw[Array.getElem?_eq_getElem a]at this
   rw[yu _ _ _ this]
   simp[a]
  .rw[yj _ _ _ _ (by simp[e])]
   rw[Array.getElem?_setIfInBounds_ne e]
   exact h.c j b,λo=>(yx).trans (h.fz o)⟩
def A6.new(w:JY)(A t):A6 (w.alloc (JM A t)) (O w.1) A:=
 ⟨λj a=>Jg,λo=>Jg⟩
def A6.newAt(w:JY)(A t N)(h:N=O w.1):A6 (w.alloc (JM A t)) N A:=h ▸ A6.new w A t
structure Bc(e wr:JY)(d b:Nat)(a:Option Addr)(h:Jw)(g c:Nat)(f:Jp)(q:Nat):Prop where
 row:ZE wr (O e.1) (Ql g (Z f) c) f
 rd:A0 wr d a b h q
 kp:zE e wr d
 rpl:d<O e.1
def Bc.gB(h:Bc w0 wr rp cap a bs g c ms q):O w0.1<=g/\g<O wr.1:=h.row.lt g F
def Bc.y{k wr d j b a f g c i q}(h:Bc k wr j b a f g c i q)(e:Qb wr d):Bc k d j b a f g c i q:=
 ⟨h.row.y e,h.rd.y e,h.kp.trans (zE.Q e),h.rpl⟩
def Bc.read{b:JY}{f:Nat}(h:Bc w0 wr rp cap a bs g c ms q)(d:zE wr b rp)(i:A0 b rp a cap bs f):Bc w0 b rp cap a bs g c ms f:=by have j:=h.rpl;have l:=h.gB;exact⟨h.row.grown (za d) (λk d e=>by simp[Value.ownBlock]at d;injection e with e;omega),i,h.kp.trans d,h.rpl⟩
def Bc.turned{j f:Nat}{K:Jp}(h:Bc w0 b rp cap a bs g c ms q)(l:ZE w6 (O w0.1) (Ql j (Z K) f) K)(H:b.grownBy w6 (E g)):Bc w0 w6 rp cap a bs j f K q:=by
 have m:=h.rpl;have n:=h.gB;have e:∀{x:Nat},x<O b.1->x≠g->w6.heap[x]?=b.heap[x]?:=λhx k=>H.block _ hx (λe=>k (by injection e with e))
 exact⟨l,h.rd.kept (λi d=>e (Jy h.rd.lt) I),⟨H.os.trans h.kp.os,H.tape.trans h.kp.tape,H.output.trans h.kp.output,yy h.kp.size H.size,λi d a=>(e (ym d h.kp.size) I).trans (h.kp.block i d a)⟩,h.rpl⟩
def Bc.setT{k wr j d a f g c b q i}(h:Bc k wr j d a f g c b q)(l:i<Z b)(t):Bc k (wr.setCell (J g (i*2+1)) (W t)) j d a f g c (b.set i ⟨(Ae b i).n,t⟩) q:=by have m:=h.row.setT l t;have e:Z (b.set i (⟨(Ae b i).n,t⟩:zF))=Z b:=List.length_set;refine h.turned ?_ (zx wr g _ _);rw[e];exact m
def Bc.setN{k wr j d a f g c b q i}(h:Bc k wr j d a f g c b q)(l:i<Z b)(s):Bc k (wr.setCell (J g (i*2)) (W s)) j d a f g c (b.set i ⟨s,(Ae b i).t⟩) q:=by have m:=h.row.setN l s;have e:Z (b.set i (⟨s,(Ae b i).t⟩:zF))=Z b:=List.length_set;refine h.turned ?_ (zx wr g _ _);rw[e];exact m
def Bc.cells{i:Nat}(h:Bc w0 wr rp cap a bs g c ms q)(e:i<Z ms):wr.cell? (J g (i*2))=E (W (Ae ms i).n)/\wr.cell? (J g (i*2+1))=E (W (Ae ms i).t)/\wr.frozen? (J g (i*2))=Vt/\wr.frozen? (J g (i*2+1))=Vt:=by obtain⟨b,d⟩:=h.row.ops i e;simp only[jd]at b d;exact⟨b,d,World.ownsRow.frozenAt h.row _,World.ownsRow.frozenAt h.row _⟩
def Qg(j h d a f)(b:Jp->Prop)(e i):=
 ∃(g c q:Nat)(ms:Jp),e=i9 (Ql g (Z ms) c)/\1<=Z ms/\Z ms<=110/\Hid (Bu 100 3000000000000 ms)/\Hid (b ms)/\Hid (Bc j i h d a f g c ms q)
def MK{i:Nat}{d:Jp->Prop}{t:JZ}(h:Bc w0 b rp cap a bs g c ms q)(f:i<Z ms)(j:Bu 3 2000000000000 ms)(m:Z ms<=4)(l:t.size<=3000000000000)(k:d (ms.set i ⟨(Ae ms i).n,t⟩)):Qg w0 rp cap a bs d (i9 (Ql g (Z ms) c)) (b.setCell (J g (i*2+1)) (W t)):=by have e:Z (ms.set i (⟨(Ae ms i).n,t⟩:zF))=Z ms:=List.length_set;refine⟨g,c,q,ms.set i ⟨(Ae ms i).n,t⟩,by rw[e],I,I,S ((j.mono Jd Jd).set f ?_ l),S k,S (h.setT f t)⟩;have:=(j i).1;show(Ae ms i).n.size<=100;omega
def YM{i:Nat}{d:Jp->Prop}{t:JZ}(h:Bc w0 b rp cap a bs g c ms q)(f:i<Z ms)(j:Bu 3 2000000000000 ms)(m:Z ms<=4)(l:t.size<=100)(k:d (ms.set i ⟨t,(Ae ms i).t⟩)):Qg w0 rp cap a bs d (i9 (Ql g (Z ms) c)) (b.setCell (J g (i*2)) (W t)):=by have e:Z (ms.set i (⟨t,(Ae ms i).t⟩:zF))=Z ms:=List.length_set;refine⟨g,c,q,ms.set i ⟨t,(Ae ms i).t⟩,by rw[e],I,I,S ((j.mono Jd Jd).set f l ?_),S k,S (h.setN f t)⟩;have:=(j i).2;show(Ae ms i).t.size<=3000000000000;omega
def Tu{d:Jp->Prop}(h:Bc w0 b rp cap a bs g c ms q)(e:1<=Z ms)(f:Z ms<=110)(j:Bu 100 3000000000000 ms)(i:d ms):Qg w0 rp cap a bs d (i9 (Ql g (Z ms) c)) b:=⟨g,c,q,ms,F,e,f,S j,S i,S h⟩
def Bc.app{vs:Jp}{i:Value}(h:Bc w0 b rp cap a bs g c ms q)(k:1<=Z vs)(H:w6.ownsRow (O w0.1) 49 2 i (Z ms+Z vs) (zk ms++zk vs))(K:b.grownBy w6 (E g)):∃f e d,d=ms++vs/\i = Ql f (Z d) e/\Bc w0 w6 rp cap a bs f e d q:=by
 have j:ZE w6 (O w0.1) i (ms++vs):=by unfold ZE;rw[Me,yr];exact H
 obtain⟨f,e,rfl⟩:=j.has Jq;exact⟨f,e,ms++vs,F,F,h.turned j K⟩
def CZ{a b}(h:a)(k:Hid b):Hid (a/\b):=⟨h,k⟩
theorem nO{n}:∀{f:Nat}{ms:Jp},n<=Z ms->J0 n f ms=ms
 |0,ms,_=>rfl
 |f+1,ms,h=>by simp only[J0];rw[yS I]
def uF(w:JY):Fe (w.alloc (JM #[] 5)) (O w.1) (Ql (O w.1) 0 0) []:=
 ⟨O w.1,0,F,yk,Js,yk,yn,λj a=>yV a (yz _),λj u a=>by simp[Ag]at a⟩
def XS(c:UInt8)(j):List.replicate j c++[c]=List.replicate (j+1) c:=by rw[List.replicate_succ']
def Fe.str{B v l}(h:Fe w B v l):(convert 22 9 v).run Vb w=.ok (W ⟨l.toArray⟩) w:=by obtain⟨g,cap,rfl,_,_,_,_,_,a⟩:=h;exact Rk w g (Z l) cap l F (λj u b=>by rw[jO,jd];exact a j u b)
def iK(rp cap p g c a bs ms w0 w)(h:Bc w0 w rp cap a bs g c ms p)(hl:Z bs<=1200)(H0:1<=Z ms)(M:Z ms<=4)(hz:Bu 3 2000000000000 ms):Calls Vb 21 #[Qp rp,Ql g (Z ms) c] w (Qg w0 rp cap a bs (λms'=>ms'=Dt bs p ms)):=by
 have V:=S hz;clear hz;go_enter func21,ntmps21;go_wp2_with fail;go_call GJ rp cap p a bs _ (D h).rd hl as e w1 ⟨⟨k,rfl,hk,HK⟩,H1,HP1⟩;have hK:=S (h.read HP1 H1);clear h H1 HP1;go_wp2_with fail;go_call GJ rp cap (Ac bs p) a bs _ (D hK).rd hl as e w2 ⟨⟨ik,rfl,hik,HIK⟩,H2,HP2⟩;have hF:=S (hK.read HP2 H2);clear hK H2 HP2;obtain⟨i,HI⟩:∃i,Hid (i=ik%(Z ms)):=⟨_,S F⟩;have hi:i<Z ms:=by rw[D HI];exact Nat.mod_lt _ I
 have ku:(i:Int)<Z ms:=I;have ke:((Z ms:Int)==0)=Vt:=jc.2 I;have tmi:(ik:Int).tmod (Z ms:Int)=i:=by rw[yA I,D HI];simp
 have tmj:(ik:Int)%(Z ms:Int)=i:=by rw[D HI];simp
 go_wp2_with fail;go_call GJ rp cap (Ac bs (Ac bs p)) a bs _ (D hF).rd hl as e w3 ⟨⟨v,rfl,hv,HV⟩,H3,HP3⟩;have q:=S (hF.read HP3 H3);clear hF H3 HP3 tmi tmj ke;obtain⟨c0,c1,f0,f1⟩:=q.cells hi;obtain⟨nm,hu⟩:=Jx ((Ae ms i).n);obtain⟨tx,hw⟩:=Jx ((Ae ms i).t);have Hc:=(D V) i;rw[<-hu,<-hw]at Hc;obtain⟨k6,ky⟩:=Hc;rw[<-hu]at c0;rw[<-hw]at c1;have P:=S (yO hu hw);clear hu hw;have K:=S True.intro;by_cases hc:Af bs p%16=8
 .replace K:=CZ hc K;have t0:((k:Int)%16==8)=Vp:=by have:=D HK;simp;omega
  clear hc;obtain⟨l0,l1,lf0,lf1⟩:=q.cells (i:=Z ms-1) I;obtain⟨z,hz⟩:=Jx (Z ms-1);have ko:(Z ms:Int)-1=(z:Int):=I;have hY:(z:Int)<Z ms:=I;have Hd:z<Z ms:=I;rw[<-hz]at l0 l1 lf0 lf1;have HZ:=S hz;obtain⟨N,hN⟩:=Jx (63+v%3);have Hg:(64:Int)+v%3-1=(N:Int):=I;have Hl:N<=65:=I;have HN:=S hN;have qg:=S (uF w3);clear hN hz c0 c1 f0 f1;go_wp2;go_loopw [8] (λnv wr=>∃(j gy cy:Nat)(l:Jw),j<=N/\nv = Ql gy (Z l) cy/\Z l<=N/\Hid (l=List.replicate j 109)/\Hid (Fe wr (O w3.1) (Ql gy (Z l) cy) l)/\Hid (Below (O w3.1) w3 wr)) (λnv _=>N-QC nv);case atStart=>exact⟨0,_,0,[],yn,F,yn,S F,qg,S zC⟩
  case round=>
   clear qg;obtain⟨j,gy,cy,l,hj,rfl,k5,HE,HR,HB⟩:=hrel;have ha:Z l=j:=by rw[D HE];simp
   have hS:=HB.size;by_cases hA:Z l<N
   .have qa:(Z l:Int)<N:=I;have hn:=S (by rw[D HE];exact XS _ _:l++[109]=List.replicate (j+1) 109);have hM:j+1<=N:=I;clear ha;go_wp2_with (at_builtin;refine UR F (.tmp 32) (.tmp 33) F (O w3.1) _ l 109 F (HR.y zC) Jq (J (O wr.1) 0) F (by simp[Addr.add,go_sem]) I ?next);case next=>
     intro v6 w6 y A;obtain⟨g6,c6,rfl,_⟩:=id y;obtain⟨l6,qf⟩:=Jx (l++[(109:UInt8)]);rw[<-qf]at y hn;have ki:Z l6<=N:=by rw[qf];simp;omega
     have h6:=S (by rw[qf];simp:Z l6=Z l+1);have hO:=S y;have hP:=S ((HB.alloc hS (JM #[.int .u8 109] 5)).trans A);rw[<-qf];clear y A qf HR HB;go_wp2;exact⟨⟨j+1,g6,c6,l6,hM,F,ki,hn,hO,hP⟩,by have:=D h6;simp[QC];omega⟩
   .have qa:¬ (Z l:Int)<N:=I;have hb:j=N:=I;have kc:=HR.str;have l0':=Jc HB q.gB.2 l0;have lf0':=Vf HB q.gB.2 lf0;have h9:=S hb;clear hb ha;go_wp2;go_ret;have hQ:(⟨l.toArray⟩:JZ).size<=100:=by show l.toArray.size<=100;rw[List.size_toArray];omega
    refine YM (q.y HB) Hd V M hQ ?_;have hc:=D K;unfold Dt;rw[yU I,<-D HV,<-D HN,<-D HZ,D HE,D h9];rfl
 replace K:=CZ hc K;have t0:((k:Int)%16==8)=Vt:=by have:=D HK;simp;omega
 clear hc;by_cases hc:Af bs p%16=15
 .replace K:=CZ hc K;have t1:((k:Int)%16==15)=Vp:=by have:=D HK;simp;omega
  clear hc;clear c0 c1 f0 f1;obtain⟨i2,s,H,qc,qh⟩:=info_parts FM;have HQ:=S (yO s (yO H (yO qc qh)));have ht:=q.kp.size;have d:=@zC w3 (JM #[W D0.n,W D0.t] 49);have Hb:=S (show ZE (w3.alloc (JM #[W D0.n,W D0.t] 49)) (O w0.1) (Ql (O w3.1) 1 1) [D0] from by
   have:=yJ (base:=O w0.1) (e:=49) (size:=2) w3 #[W D0.n,W D0.t] 1 ht Jd F
   simpa[ZE,zk] using this)
  have He:=S (q.row.ops.y d q.gB.2);obtain⟨yl,hs⟩:=Jx (Na v);have h1:yl.size=2:=by rw[hs];unfold Na;split<;>rfl
  have eyl:(((v:Int)%2==1)=Vp/\yl=⟨#[121,50]⟩)\/(((v:Int)%2==1)=Vt/\yl=⟨#[121,49]⟩):=by
   by_cases e:v%2=1
   .exact yW ⟨Jq,by rw[hs];unfold Na;rw[yU e]⟩
   .exact yX ⟨Jq,by rw[hs];unfold Na;rw[yS e]⟩
  have H8:=S hs;have Hw:=S h1;clear s H qc qh hs h1;rcases eyl with⟨e2,ey⟩|⟨e2,ey⟩;all_goals
   have kg:=S ey
   clear ey
   go_wp2_with (at_builtin;refine As FM underlying23 (.tmp 50) (.tmp 51) F rfl (O w0.1) _ 1 (zk [D0]) F Hb (J g 0) (Z ms) c (zk ms) F (Pf ms) (Li He) (IY _) Jm I Jq ?_)
   intro v6 w6 X Q B L
   have A:Below (O w3.1) w3 w6:=d.grown Q Js (λx hx=>by have Hu:E (O w3.1)=E x:=hx;injection Hu with Hu;omega)
   have y:ZE w6 (O w0.1) v6 ([D0]++ms):=by unfold ZE;rw[Me,yr];exact X
   obtain⟨g6,c6,rfl⟩:=y.has Js
   obtain⟨us,hh⟩:=Jx ([D0]++ms)
   rw[<-hh]at y
   rw[<-hh]
   have hd:=q.y A
   have ho:=S (show Bc w0 w6 rp cap a bs g6 c6 us (Ac bs (Ac bs (Ac bs p))) from⟨y,hd.rd,hd.kp,hd.rpl⟩)
   have qf:Z us<=10:=by rw[hh];simp;omega
   have hR:=S hh
   have kj:=hd.kp.size
   clear X Q B L A y hh hd Hb He q d
   obtain⟨ty,hy⟩:=Jx ((⟨#[117,115,101,32]⟩:JZ)++yl++⟨#[10,98,101,103,105,110,10,49]⟩)
   have h3:ty.size=14:=by rw[hy,zQ,zQ];have:=D Hw;show 4+yl.size+8=14;omega
   have Hq:=S h3
   have Hf:=@zC w6 (JM #[W ⟨#[121,49]⟩,W ty,W Fo.n,W Fo.t] 49)
   have U:=S (ho.row.y Hf)
   have hW:=S (show ∀j u,(zk [(⟨⟨#[121,49]⟩,ty⟩:zF),Fo])[j]?=E u->(w6.alloc (JM #[W ⟨#[121,49]⟩,W ty,W Fo.n,W Fo.t] 49)).cell? ((J (O w6.1) 0).add j)=E u from λj u hj=>by
    rw[jO]
    have:=yF (w:=w6.alloc (JM #[W ⟨#[121,49]⟩,W ty,W Fo.n,W Fo.t] 49)) (b:=O w6.1) (jL w6 _) 0 4
    exact this j u (by simpa[zk] using hj))
   have hg:=hy
   rw[D kg]at hg
   have HJ:=S hg
   have Hj:=S hy
   clear hy hg h3
   go_wp2_with (at_builtin;rw[<-D HJ];refine As FM underlying23 (.tmp 53) (.tmp 59) F rfl (O w0.1) _ (Z us) (zk us) F U (J (O w6.1) 0) 2 2 (zk [⟨⟨#[121,49]⟩,ty⟩,Fo]) F rfl hW (IY _) ?c1 ?c2 ?c3 ?next2)
   case c1=>exact Jm
   case c2=>omega
   case c3=>simp;omega
   case next2=>
    intro v7 w7 hq T h5 Ht;obtain⟨g7,c7,Hy,hp,rfl,Hr⟩:=(ho.y Hf).app (vs:=[⟨⟨#[121,49]⟩,ty⟩,Fo]) Js hq T;have kb:=S Hr;have Hh:=S hp;have HP:=S (by rw[hp];simp:Z Hy=Z us+2);clear hq T h5 Ht hp Hr U hW;go_wp2;go_ret;have Hi:=D HP;have kq:Z us=Z ms+1:=by rw[D hR,yr];show 1+Z ms=_;omega
    refine Tu kb I I ?_ ?_
    .rw[D Hh,D hR];have h0:Bu 100 3000000000000 ([D0]++ms):=λj=>by
      cases j with
      |zero=>exact⟨by show D0.n.size<=_;decide,by show D0.t.size<=_;decide⟩
      |succ j=>exact(V.mono Jd Jd) j
     have e:[D0]++ms++[(⟨⟨#[121,49]⟩,ty⟩:zF),Fo]=([D0]++ms++[(⟨⟨#[121,49]⟩,ty⟩:zF)])++[Fo]:=Js;rw[e];exact(h0.snoc (by show(⟨#[121,49]⟩:JZ).size<=_;decide) (by show ty.size<=_;have:=D Hq;omega)).snoc Jd Jd
    .rw[D Hh,D hR];have hc:=D K;unfold Dt;rw[yS I,yU I,<-D HV];have e:QP v=⟨⟨#[121,49]⟩,ty⟩:=by unfold QP;rw[D Hj,<-D H8];rfl
     rw[e]
 replace K:=CZ hc K;have t1:((k:Int)%16==15)=Vt:=by have:=D HK;simp;omega
 clear hc;by_cases hc:Af bs p%8=0
 .replace K:=CZ hc K;have t2:((k:Int)%8==0)=Vp:=by have:=D HK;simp;omega
  clear hc;obtain⟨m,hm,kw⟩:∃m:Nat,m=v%5/\m<=4:=⟨_,F,I⟩;have tmv:(v:Int)%5=(m:Int):=I;have i1:(0:Int)<=m:=I;have i2:(m:Int)<=4:=I;have HH:=S hm;clear hm;go_wp2;go_ret;refine YM q hi V M ?_ ?_
  .rw[yC];have:(⟨#[109,95,49,32]⟩:JZ).size=4:=F;omega
  .have hc:=D K;unfold Dt;rw[yS I,yS I,yU I,<-D HIK,<-D HI,<-D HV,<-D HH]
 replace K:=CZ hc K;have t2:((k:Int)%8==0)=Vt:=by have:=D HK;simp;omega
 clear hc;by_cases hc:Af bs p%8=1
 .replace K:=CZ hc K;have t3:((k:Int)%8==1)=Vp:=by have:=D HK;simp;omega
  clear hc;have HX:=S (λqe=>RE v qe I);have hf:=RB v;obtain⟨nv,hB⟩:=Jx (E4 v);rw[<-hB]at HX hf;have HO:=S hB;have Hn:(Es++nv).size<=7:=by rw[zQ];show 4+nv.size<=7;omega
  have hJ:(Es++nv++GE).size<=8:=by rw[zQ];show _+1<=8;omega
  clear hB;go_upto_region 18 with fail
  go_region_with (first
   |(go_at_call 25;(with_reducible refine((D HX) w3.drew).mono ?_);rintro e w5 ⟨rfl,hb5⟩;have qb:=S (q.y ((yN).drew.trans (hb5.mono yk)));have c1':=Jc hb5 q.gB.2 c1;have f1':=Vf hb5 q.gB.2 f1;clear hb5))
  all_goals
   go_wp2
   go_ret
   refine MK qb hi V M ?_ ?_
   .rw[zQ];show(Es++nv++GE).size+tx.size<=_;omega
   .have hc:=D K
    unfold Dt
    rw[yS I,yS I,yS I,yU I,<-D HIK,<-D HI,<-D HV,<-D HO,<-(D P).2]
    rfl
 replace K:=CZ hc K;have t3:((k:Int)%8==1)=Vt:=by have:=D HK;simp;omega
 clear hc;by_cases hc:Af bs p%8=2
 .replace K:=CZ hc K;have t4:((k:Int)%8==2)=Vp:=by have:=D HK;simp;omega
  clear hc;obtain⟨l0,l1,_,_⟩:=q.cells (i:=Z ms-1) I;obtain⟨j,hj⟩:=Jx (Z ms-1);have HY:(Z ms:Int)-1=(j:Int):=I;have kv:(j:Int)<Z ms:=I;rw[<-hj]at l0;obtain⟨nl,hI⟩:=Jx ((Ae ms j).n);have hY:=((V) j).1;rw[<-hI]at l0 hY;have hV:=S (yO hI hj);clear hI hj l1;have Hn:(Es++nl).size<=7:=by rw[zQ];show 4+nl.size<=7;omega
  have hJ:(Es++nl++GE).size<=8:=by rw[zQ];show _+1<=8;omega
  have k3:IntKind.i64.wrap ((Z ms:Int)-1)=(j:Int):=by rw[HY];exact Go.IntWalk.i64_in _ I
  go_upto_region 20 with fail
  go_region;all_goals
   go_wp2
   go_ret
   refine MK (q.y (yN).drew) hi V M ?_ ?_
   .rw[zQ];show(Es++nl++GE).size+tx.size<=_;omega
   .have hc:=D K
    unfold Dt
    rw[yS I,yS I,yS I,yS I,yU I,<-D HIK,<-D HI,<-(D hV).2,<-(D hV).1,<-(D P).2]
    rfl
 replace K:=CZ hc K;have t4:((k:Int)%8==2)=Vt:=by have:=D HK;simp;omega
 clear hc;by_cases hc:Af bs p%8=3
 .replace K:=CZ hc K;have t5:((k:Int)%8==3)=Vp:=by have:=D HK;simp;omega
  clear hc;obtain⟨bv,hE⟩:=Jx (decide (v%2=0));have ebv:((v:Int).tmod 2==0)=bv:=by rw[hE,jI,yA I];simp;omega
  have H4:=S (TY rp cap _ bv a bs w3.drew (q.rd.y (yN).drew) hl);have Hz:=S hE;clear hE;go_upto_region 22 with fail
  go_region_with (first
   |(go_at_call 50;(with_reducible refine(D H4).mono ?_);rintro e w5 ⟨⟨o,rfl,HO5⟩,H5,HP5⟩;have qb:=S ((q.y (yN).drew).read HP5 H5);obtain⟨_,c1a,_,f1a⟩:=qb.cells hi;rw[<-(D P).2]at c1a;have kf:=(by rw[D HO5];exact Tq _ _ _:Cz o);have H9:=(by rw[D HO5];exact Tr _ _ _:o.s.size<=16);have he:=S (RC o w5 kf I);have Ha:=Nu H9;clear H5 HP5)
   |(go_at_call 27;(with_reducible refine(D he).mono ?_);rintro e w6 ⟨rfl,A⟩;have ho:=S (qb.y A);obtain⟨_,c1b,_,f1b⟩:=ho.cells hi;rw[<-(D P).2]at c1b;have hJ:(ZR (dW o)++(⟨#[10]⟩:JZ)).size<=51:=(by rw[zQ];show _+1<=51;omega);clear A))
  all_goals
   go_wp2
   go_ret
   refine MK ho hi V M ?_ ?_
   .rw[zQ];show(ZR (dW o)++(⟨#[10]⟩:JZ)).size+tx.size<=_;omega
   .have hc:=D K
    unfold Dt
    rw[yS I,yS I,yS I,yS I,yS I,yU I,<-D HIK,<-D HI,<-D HV,<-D Hz,<-D HO5,<-(D P).2]
    rfl
 replace K:=CZ hc K;have t5:((k:Int)%8==3)=Vt:=by have:=D HK;simp;omega
 clear hc;by_cases hc:Af bs p%8=5
 .replace K:=CZ hc K;have t6:((k:Int)%8==4)=Vt:=by have:=D HK;simp;omega
  have t7:((k:Int)%8==5)=Vp:=by have:=D HK;simp;omega
  clear hc;have HG:=S (eE rp cap _ a bs w3.drew (q.rd.y (yN).drew) hl);have ht:=nN bs (Ac bs (Ac bs (Ac bs p)));go_upto_region 27 with fail
  go_region_with (first
   |(go_at_call 54;(with_reducible refine(D HG).mono ?_);rintro e w5 ⟨⟨wd,rfl,HO5⟩,H5,HP5⟩;have qb:=S ((q.y (yN).drew).read HP5 H5);obtain⟨_,c1a,_,f1a⟩:=qb.cells hi;rw[<-(D P).2]at c1a;have kk:wd.size<=4:=(by rw[D HO5];exact ht);clear H5 HP5))
  all_goals
   go_wp2
   go_ret
   refine MK qb hi V M ?_ ?_
   .rw[zQ];omega
   .have hc:=D K
    unfold Dt
    rw[yS I,yS I,yS I,yS I,yS I,yS I,yS (λx=>yV x.1 I),yU I,<-D HIK,<-D HI,<-D HO5,<-(D P).2]
 replace K:=CZ hc K;have t7:((k:Int)%8==5)=Vt:=by have:=D HK;simp;omega
 clear hc;by_cases hc:Af bs p%16=6
 .replace K:=CZ hc K;have t6:((k:Int)%8==4)=Vt:=by have:=D HK;simp;omega
  have t8:((k:Int)%16==6)=Vp:=by have:=D HK;simp;omega
  clear hc;obtain⟨N,hN⟩:=Jx (100+v%2);have Hg:(100:Int)+v%2=(N:Int):=I;have Hl:N<=101:=I;have kz:100<=N:=I;have HN:=S hN;have hX:=S (show J0 N 101 ms=Dt bs p ms by
   have hc:=D K
   unfold Dt
   rw[yS I,yS I,yS I,yS I,yS I,yS I,yS (λx=>yV x.1 I),yS I,yU I,<-D HV,<-hN])
  obtain⟨i2,s,H,qc,qh⟩:=info_parts FM;have HQ:=S (yO s (yO H (yO qc qh)));have Hs:Hid (Bu 100 3000000000000 ms):=V.mono Jd Jd;clear s H qc qh hN c0 c1 f0 f1;go_wp2;go_loopg [1] (101) (λf mv wr=>∃(t g c:Nat)(us:Jp),t=f/\mv = Ql g (Z us) c/\1<=Z us/\Z us<=N/\N-Z us<=t/\Hid (J0 N t us=Dt bs p ms)/\Hid (Bu 100 3000000000000 us)/\Hid (Bc w0 wr rp cap a bs g c us (Ac bs (Ac bs (Ac bs p)))));case atStart=>exact⟨101,g,c,ms,F,F,H0,I,I,hX,Hs,q⟩
  case round=>
   clear hX Hs q;obtain⟨t,g,c,us,kn,rfl,HU,kt,k4,HF,Hv,HS⟩:=hrel;obtain⟨wo,ka⟩:=Jx wr;subst ka;by_cases hA:Z us<N
   .have qa:(Z us:Int)<N:=I;have he:=S (RT 7 (Z us) wo I Jd Jd I);have Ha:=N6 7 (Z us);obtain⟨n,hD⟩:=Jx (AN 7 (Z us));rw[<-hD]at he Ha;have HD:=S hD;clear hD;go_wp2_with fail;go_call D he as e w5 ⟨rfl,hb5⟩;obtain⟨nz,hf⟩:=Jx ((⟨#[122]⟩:JZ)++n);have km:nz.size<=8:=by rw[hf,zQ];show 1+n.size<=8;omega
    have qb:=S (HS.y hb5);have d:=@zC w5 (JM #[W nz,W L9] 49);have U:=S (qb.row.y d);have ht:=qb.kp.size;have Ho:=S hf;clear hb5 he hf;go_wp2_with (at_builtin;rw[<-D Ho];refine As FM underlying23 (.tmp 199) (.tmp 205) F rfl (O w0.1) _ (Z us) (zk us) F U (J (O w5.1) 0) 1 1 (zk [⟨nz,L9⟩]) F rfl (Fx w5 ⟨nz,L9⟩) (IY _) Jm I Jq ?_);intro v6 w6 X Q B L;obtain⟨g6,c6,R,qd,rfl,hr⟩:=(qb.y d).app (vs:=[⟨nz,L9⟩]) Js X Q;have hH:=S hr;have qf:Z R=Z us+1:=by rw[qd];simp
    obtain⟨f',H7⟩:∃f',t=f'+1:=⟨t-1,I⟩;have Hx:=S (show J0 N f' R=Dt bs p ms by
     rw[<-D HF,qd,D Ho,D HD,H7]
     conv=>rhs;simp only[J0]
     rw[yU hA])
    have Hp:=S (by rw[qd];exact Hv.snoc (by show nz.size<=_;omega) (by show L9.size<=_;decide):Bu 100 3000000000000 R);have Hi:1<=Z R:=I;have HT:Z R<=N:=I;have kd:N-Z R<=f':=I;clear X Q B L qd hr U qf;go_wp2_with fail;go_roundg f';case measure=>omega
    case rel=>exact⟨f',g6,c6,R,F,F,Hi,HT,kd,Hx,Hp,hH⟩
   .have qa:¬ (Z us:Int)<N:=I;have kh:=S (by rw[<-D HF,nO I]:us=Dt bs p ms);go_wp2;go_ret;exact Tu HS HU I Hv kh
 replace K:=CZ hc K;have t8:((k:Int)%16==6)=Vt:=by have:=D HK;simp;omega
 clear hc;by_cases hc:Af bs p%16=14
 .replace K:=CZ hc K;have t6:((k:Int)%8==4)=Vt:=by have:=D HK;simp;omega
  have t9:((k:Int)%16==14)=Vp:=by have:=D HK;simp;omega
  clear hc;obtain⟨N,hN⟩:=Jx (20000+v%2);have Hg:(20000:Int)+v%2=(N:Int):=I;have Hl:N<=20001:=I;have HN:=S hN;obtain⟨vy,Wy,Hk,hU,Hm⟩:=tY w3 tx I;obtain⟨g0,k0,rfl,_⟩:=id hU;have qg:=S hU;have hZ:=S Hm;have hG:Z tx.data.toList=tx.size:=Js;have hC:=S hG;clear hN hU Hm;rw[hG]at Hk;obtain⟨L0,h8⟩:=Jx tx.data.toList;rw[<-h8]at qg hC;have HC:=S h8;clear h8 hG;have C:=D hC;rw[<-C]at Hk;clear C;go_wp2;go_loopw [11] (λnv wr=>∃(j gy cy:Nat)(l:Jw),j<=N-tx.size/\nv = Ql gy (Z l) cy/\Hid (l=L0++List.replicate j 32)/\Hid (Fe wr (O w3.1) (Ql gy (Z l) cy) l)/\Hid (Below (O w3.1) w3 wr)) (λnv _=>N-QC nv);case atStart=>exact⟨0,g0,k0,L0,yn,F,S Js,qg,hZ⟩
  case round=>
   clear qg hZ;obtain⟨j,gy,cy,l,hj,rfl,HE,HR,HB⟩:=hrel;have ha:Z l=tx.size+j:=by rw[D HE,<-D hC];simp
   have hS:=HB.size;by_cases hA:Z l<N
   .have qa:(Z l:Int)<N:=I;have hn:=S (by rw[D HE,yD,XS]:l++[32]=L0++List.replicate (j+1) 32);have hM:j+1<=N-tx.size:=I;clear ha;go_wp2_with (at_builtin;refine UR F (.tmp 222) (.tmp 223) F (O w3.1) _ l 32 F (HR.y zC) Jq (J (O wr.1) 0) F (by simp[Addr.add,go_sem]) I ?next);case next=>
     intro v6 w6 y A;obtain⟨g6,c6,rfl,_⟩:=id y;obtain⟨l6,qf⟩:=Jx (l++[(32:UInt8)]);rw[<-qf]at y hn;have h6:=S (by rw[qf];simp:Z l6=Z l+1);have hO:=S y;have hP:=S ((HB.alloc hS (JM #[.int .u8 32] 5)).trans A);rw[<-qf];clear y A qf HR HB;go_wp2;exact⟨⟨j+1,g6,c6,l6,hM,F,hn,hO,hP⟩,by have:=D h6;simp[QC];omega⟩
   .have qa:¬ (Z l:Int)<N:=I;have hb:j=N-tx.size:=I;have kc:=HR.str;have l1':=Jc HB q.gB.2 c1;have lf1':=Vf HB q.gB.2 f1;have h9:=S hb;have HA:=S ha;clear hb ha;go_wp2;go_ret;have hQ:(⟨l.toArray⟩:JZ).size<=3000000000000:=by show l.toArray.size<=_;rw[List.size_toArray];have:=D HA;omega
    refine MK (q.y HB) hi V M hQ ?_;have et:(⟨l.toArray⟩:JZ)=tx++QG 32 (N-tx.size):=by rw[D HE,D HC,<-D h9];apply jy;simp[QG,jG]
    have hc:=D K;unfold Dt;rw[yS I,yS I,yS I,yS I,yS I,yS I,yS (λx=>yV x.1 I),yS I,yS I,yU I,<-D HIK,<-D HI,<-D HV,<-D HN,<-(D P).2,et]
 replace K:=CZ hc K;have t9:((k:Int)%16==14)=Vt:=by have:=D HK;simp;omega
 clear hc;have E6:=S (by rw[<-D HIK,<-D HI,(D P).2]:(Ae ms (Af bs (Ac bs p)%(Z ms))).t=tx);by_cases hc:Af bs p%8=4/\0<(Ae ms (Af bs (Ac bs p)%(Z ms))).t.size
 .replace K:=CZ hc K;have t6:((k:Int)%8==4)=Vp:=by have:=D HK;simp;omega
  clear hc;have C:0<tx.size:=by rw[<-D E6];exact K.1.2
  have HW:(0:Int)<tx.size:=I;have kr:((tx.size:Int)==0)=Vt:=jc.2 I;have k1:¬ tx=j6:=λe=>by rw[e]at C;exact yV C Jd
  have ks:¬ (tx.size:Int)=0:=I;have H6:=S (GJ rp cap _ a bs w3.drew (q.rd.y (yN).drew) hl);go_upto_region 24 with fail
  go_region_held3 (λqe=>qe.cell? (J g (i*2+1))=E (W tx)) (first|(go_keep;done)|exact c1a) (first
   |(go_at_call 19;(with_reducible refine(D H6).mono ?_);rintro e w5 ⟨⟨x,rfl,hx,HX5⟩,H5,HP5⟩;have qb:=S ((q.y (yN).drew).read HP5 H5);obtain⟨_,c1a,_,f1a⟩:=qb.cells hi;rw[<-(D P).2]at c1a;obtain⟨m,HM⟩:∃m,Hid (m=(v*256+x)%tx.size):=⟨_,S F⟩;have kx:m<tx.size:=(by rw[D HM];exact Nat.mod_lt _ C);have tm1:IntKind.i64.wrap ((v:Int)*256)=((v*256:Nat):Int):=(by rw[Go.IntWalk.i64_in _ (by omega)];omega);have tm2:IntKind.i64.wrap (((v*256:Nat):Int)+(x:Int))=((v*256+x:Nat):Int):=(by rw[Go.IntWalk.i64_in _ (by omega)];omega);have tm3:((v*256+x:Nat):Int).tmod (tx.size:Int)=m:=(by rw[yA I,D HM];simp);have tm4:((v:Int)*256+(x:Int)).tmod (tx.size:Int)=m:=(by rw[<-tm3];congr 1);have tm5:(IntKind.i64.wrap ((v:Int)*256+(x:Int))).tmod (tx.size:Int)=m:=(by rw[Go.IntWalk.i64_in _ (by omega)];exact tm4);have tm6:((v:Int)*256+(x:Int))%(tx.size:Int)=m:=(by rw[<-yA I];exact tm4);clear H5 HP5))
  all_goals
   have m1:(0:Int)<=m:=I
   have m2:(m:Int)<=tx.size:=I
   have m3:(m:Int)+1<=(tx.size:Int):=I
   have m4:IntKind.i64.wrap ((m:Int)+1)=(m:Int)+1:=Go.IntWalk.i64_in _ I
   have m5:((m:Int)+1).toNat=m+1:=I
   have m6:(0:Int)<=m+1:=I
   have Hn:(tx.extract 0 m).size<=2000000000000:=by rw[yC];omega
   have hJ:(tx.extract (m+1) tx.size).size<=2000000000000:=by rw[yC];omega
   have kl:(tx.extract 0 m).size+(tx.extract (m+1) tx.size).size<=2000000000000:=by rw[yC,yC];omega
   go_upto_region 25 with fail
   try rw[tm5]
   try rw[tm6]
   clear tm1 tm2 tm3 tm4 tm5 tm6
   go_region
   all_goals
    go_wp2
    go_ret
    refine MK (qb.y (yN).drew) hi V M ?_ ?_
    .rw[zQ];show(tx.extract 0 m).size+(tx.extract (m+1) tx.size).size<=_;omega
    .have hc:=D K
     have h0:=hc.1.2
     unfold Dt
     rw[yS I,yS I,yS I,yS I,yS I,yS I,yU ⟨I,h0⟩,<-D HIK,<-D HI,<-D HV,<-D HX5,<-(D P).2,<-D HM]
 replace K:=CZ hc K;by_cases h4:Af bs p%8=4;focus
  have HW:¬ (0:Int)<tx.size:=by rw[<-D E6];omega
  have t6:((k:Int)%8==4)=Vp:=by have:=D HK;simp;omega
 rotate_left
 focus have t6:((k:Int)%8==4)=Vt:=by have:=D HK;simp;omega
 all_goals
  clear hc h4
  have d:=@zC w3 (JM #[W nm,W tx] 49)
  obtain⟨i2,s,H,qc,qh⟩:=info_parts FM
  have U:=S (q.row.y d)
  have ht:O w0.1<=O w3.1:=q.kp.size
  have HQ:=S (yO s (yO H (yO qc qh)))
  clear s H qc qh
  go_wp2_with (at_builtin;refine As FM underlying23 (.tmp 231) (.tmp 236) F rfl (O w0.1) _ (Z ms) (zk ms) F U (J (O w3.1) 0) 1 1 (zk [⟨nm,tx⟩]) F rfl (Fx w3 ⟨nm,tx⟩) (IY _) Jm I Jq ?_)
  intro v6 w6 X Q B L
  obtain⟨g6,c6,HL,h2,rfl,hr⟩:=(q.y d).app (vs:=[⟨nm,tx⟩]) Js X Q
  have hH:=S hr
  have h7:=S h2
  clear X Q B L h2 hr U
  go_wp2
  go_ret
  have qf:Z HL=Z ms+1:=by rw[D h7];simp
  refine Tu hH I I ?_ ?_
  .rw[D h7]
   exact(V.mono Jd Jd).snoc (by show nm.size<=_;omega) (by show tx.size<=_;omega)
  .rw[D h7]
   have hc:=D K
   unfold Dt
   rw[yS I,yS I,yS I,yS I,yS I,yS I,yS (λx=>I),yS I,yS I,yS I,<-D HIK,<-D HI]
   rw[(D P).1,(D P).2]
def Bc.apart(h:Bc w0 b rp cap a bs g c ms q)(m:O w0.1<=N)(n:N≠g)(H:b.grownBy w6 (E N)):Bc w0 w6 rp cap a bs g c ms q:=by
 have l:=h.rpl;have e:∀{x:Nat},x<O b.1->x≠N->w6.heap[x]?=b.heap[x]?:=λhx j=>H.block _ hx (λe=>j (by injection e with e))
 exact⟨h.row.grown H (λk f e=>by simp[Value.ownBlock]at f;injection e with e;omega),h.rd.kept (λi d=>e (Jy h.rd.lt) I),⟨H.os.trans h.kp.os,H.tape.trans h.kp.tape,H.output.trans h.kp.output,yy h.kp.size H.size,λi d a=>(e (ym d h.kp.size) I).trans (h.kp.block i d a)⟩,h.rpl⟩
structure Dw(d wr:JY)(h b:Nat)(a:Option Addr)(e:Jw)(g c:Nat)(f:Jp)(p N:Nat)(q:ZB):Prop where
 sp:Bc d wr h b a e g c f p
 bx:A6 wr N (A5 q)
 hN:O d.1<=N
 hg:N≠g
def Dw.lt{p:Nat}{q:ZB}(h:Dw w0 wr rp cap a bs g c ms p N q):N<O wr.1:=jl ((h.bx.c 0 (Jd:0<9)).trans F)
def Dw.y{k wr d j b a e g c i p N q}(h:Dw k wr j b a e g c i p N q)(f:Qb wr d):Dw k d j b a e g c i p N q:=
 ⟨h.sp.y f,h.bx.same (f.block N h.lt),h.hN,h.hg⟩
def Dw.put{k wr i b a d g c f p N q q'}(h:Dw k wr i b a d g c f p N q)(j v)(l:j<9)(e:(A5 q).setIfInBounds j v=A5 q'):Dw k (wr.setCell (J N j) v) i b a d g c f p N q':=
 ⟨h.sp.apart h.hN h.hg (zx wr N j v),e ▸ h.bx.put j v l,h.hN,h.hg⟩
def Fi(q:ZB):=q.m.size<=100/\q.t.size<=3/\q.l=0/\q.sd=0/\(q.k=1\/q.k=2)/\(q.o=Ad.zero\/(Cz q.o/\q.o.s.size<=20000))
def zbz(k v):Fi (IQ k v):=⟨yn,PG v,F,F,by simp only[IQ];omega,yW F⟩
theorem Ff.z{g z k v t}(f:Bu 100 t g):∀{d:Nat}{q:ZB},Ff g (IQ k v) z d q->Fi q
 |0,_,h=>h ▸ zbz k v
 |d+1,_,⟨q',us,os,b,c,l,h1,h2,h3⟩=>by
  have a:=Ff.z f h1;rw[h3];split
  .rename_i h;have e:r os (z/4%(Z os))∈os:=by have:=Nat.mod_lt (z/4) h.1;simp[r,yq,this]
   exact⟨(f _).1,a.2.1,a.2.2.1,a.2.2.2.1,a.2.2.2.2.1,yX ⟨h2.tells.2 _ e,(Rr h2 _ e).1⟩⟩
  .exact a
def zbQ{q}(h:Fi q):0<=AE q.o.k q.o.sd/\AE q.o.k q.o.sd<=3:=by
 rcases h.2.2.2.2.2 with h|⟨⟨_,_,h⟩,_⟩
 .rw[h];decide
 .unfold AE;rcases h with⟨h,a⟩|⟨h,a⟩|⟨h,a⟩<;>rw[h]<;>simp<;>omega
def Qw{k q}(h:Fi q):Fi (Ei k v q)/\(Ei k v q).o=q.o/\(Ei k v q).k=q.k:=by
 unfold Ei;split
 .exact⟨⟨h.1,by simp only;rw[yC];exact yy (Nat.sub_le _ _) (Nat.min_le_left _ _),h.2.2⟩,F,F⟩
 .exact⟨h,F,F⟩
def Qx{q}(h:Fi q)(b:v<256):(BA v q).m.size<=100/\(BA v q).t.size<=3/\(BA v q).o=q.o/\(BA v q).k=q.k/\(∃n:Nat,(BA v q).l=(n:Int)/\n<=2100):=by
 have a:=zbQ h;unfold BA;split
 .refine⟨h.1,yn,F,F,?_⟩;simp only;split
  .exact⟨v*8,F,I⟩
  .split
   .exact⟨_,F,I⟩
   .exact⟨3*(v%6)+(AE q.o.k q.o.sd).toNat,I,I⟩
 .exact⟨h.1,h.2.1,F,F,0,h.2.2.1,I⟩
def Fi.lev{q}(h:Fi q):∃n:Nat,q.o.l=(n:Int)/\n<1000000:=by
 rcases h.2.2.2.2.2 with h|⟨⟨_,h,_⟩,_⟩
 .exact⟨0,by rw[h];rfl,I⟩
 .exact h
def Fi.txt{q}(h:Fi q):q.o.s.size<=20000:=by
 rcases h.2.2.2.2.2 with h|⟨_,h⟩
 .rw[h];exact yn
 .exact h
def TL(k v q):(EB k v q).o=q.o/\(EB k v q).l=q.l/\(EB k v q).t=q.t/\((EB k v q).m.size<=q.m.size\/(EB k v q).m.size<=3):=by
 unfold EB;split
 .exact⟨F,F,F,yX (RB v)⟩
 .exact⟨F,F,F,yW yk⟩
def cC(k q):(Fq k q).o.s=q.o.s/\(Fq k q).l=q.l/\(Fq k q).t=q.t/\(Fq k q).m=q.m:=by unfold Fq;split<;>exact⟨F,F,F,F⟩
def zb0(k q):(GF k q).o=q.o/\(GF k q).t=q.t/\(GF k q).m=q.m:=by unfold GF;split<;>exact⟨F,F,F⟩
def zb1(k v q):(G9 k v q).o=q.o/\(G9 k v q).t=q.t/\(G9 k v q).m=q.m:=by unfold G9;split<;>exact⟨F,F,F⟩
def TM{k q}(h:Fi q)(g:v<256):(CI k v q).m.size<=100/\(CI k v q).o.s.size<=20000/\(CI k v q).t.size<=3:=by have e:=Qw (k:=k) (v:=v) h;have f:=Qx e.1 g;have a:=TL k v (BA v (Ei k v q));have b:=cC k (EB k v (BA v (Ei k v q)));have c:=zb0 k (Fq k (EB k v (BA v (Ei k v q))));have d:=zb1 k v (GF k (Fq k (EB k v (BA v (Ei k v q)))));unfold CI;rw[d.1,d.2.1,d.2.2,c.1,c.2.1,c.2.2,b.1,b.2.2.1,b.2.2.2,a.1,a.2.2.1,f.2.2.1,e.2.1];exact⟨by rcases a.2.2.2 with h|h<;>omega,h.txt,f.2.1⟩
def cD{k q}(h:Fi q)(g:v<256)(j:k%16=5)(l:q.k=((1+k%2:Nat):Int)):(∃n:Nat,(ZU (CI k v q)).l=(n:Int)/\n<1000000)/\(((ZU (CI k v q)).k=1/\(ZU (CI k v q)).sd=0)\/((ZU (CI k v q)).k=3/\(ZU (CI k v q)).sd=0)\/((ZU (CI k v q)).k=2/\((ZU (CI k v q)).sd=1\/(ZU (CI k v q)).sd=2\/(ZU (CI k v q)).sd=3))\/((ZU (CI k v q)).k=0/\(ZU (CI k v q)).sd=0))/\(ZU (CI k v q)).s.size<=20000:=by
 have i:q.k=2:=I;have c:Ei k v q=q:=by unfold Ei;rw[yS I]
 have e:CI k v q=BA v q:=by unfold CI G9 GF Fq EB;rw[c,yS I,yS I,yS I,yS I]
 have b:=Qx h g;obtain⟨n,f,H⟩:=b.2.2.2.2;have d:ZU (BA v q)=⟨q.o.s,q.o.k,(BA v q).l,(BA v q).sd⟩:=by unfold ZU;rw[b.2.2.2.1,yS I,b.2.2.1]
 have a:(BA v q).sd=if 128<=v/\q.o.k=2 then((1+v/6%3:Nat):Int) else q.o.sd:=by unfold BA;rw[yU i]
 rw[e,d];refine⟨⟨n,f,I⟩,?_,h.txt⟩;simp only;rw[a];rcases h.2.2.2.2.2 with h|⟨⟨_,_,h⟩,_⟩
 .rw[h];right;right;right;exact⟨F,by rw[yS (λx=>yV x.2 Jd)];rfl⟩
 .rcases h with⟨h,h'⟩|⟨h,h'⟩|⟨h,h'⟩
  .left;exact⟨h,by rw[yS I];exact h'⟩
  .right;left;exact⟨h,by rw[yS I];exact h'⟩
  .right;right;left;refine⟨h,?_⟩;split
   .omega
   .exact h'
theorem Ff.k{e z k v}:∀{d:Nat}{q:ZB},Ff e (IQ k v) z d q->q.k=((1+k%2:Nat):Int)
 |0,_,h=>h ▸ F
 |d+1,_,⟨q',us,os,b,c,l,h1,h2,h3⟩=>by
  have a:=Ff.k h1;rw[h3];split
  .exact a
  .exact a
def RY(q w):Calls Vb 14 #[Bt q] w λe t=>e=i9 (AJ (ZU q))/\Qb w t:=by
 have j:=S (λa=>Rn q a);have o:=λb=>A6.newAt (w.alloc b) #[W ⟨#[]⟩,G 0,G 0,G 0] 25 (O w.1+1) Js
 unfold Bt AJ at j ⊢;go_enter func14,ntmps14;go_wp2_with fail;go_call (D j) _ as e d ⟨⟨v,rfl,_⟩,c⟩;have p:=S (((@zC w _).alloc Js _).trans (c.mono Jq));have B:O w.1+2<=O d.1:=Jz c.size
 have s:=(o _).same (c.block (O w.1+1) Js);have g:=λb=>s.same ((@zC d b).block (O w.1+1) I)
 have u:∀b,(d.alloc b).cell? (J (O w.1+1) 0)=E (W ⟨#[]⟩):=λb=>(g b).c 0 (Jd:0<4)
 have x:∀b,(d.alloc b).cell? (J (O w.1+1) 1)=E (G 0):=λb=>(g b).c 1 (Jd:1<4)
 have y:∀b,(d.alloc b).cell? (J (O w.1+1) 2)=E (G 0):=λb=>(g b).c 2 (Jd:2<4)
 have z:∀b,(d.alloc b).cell? (J (O w.1+1) 3)=E (G 0):=λb=>(g b).c 3 (Jd:3<4)
 have f:=λb=>(g b).fz
 have h:=S g;have A:¬ (O w.1)+1=O d.1:=I;go_wp2_with fail;refine yQ (v:=.agg #[W (ZU q).s,G (ZU q).k,G (ZU q).l,G (ZU q).sd]) ?res F ⟨F,(((((p.alloc I _).setCell Js _).setCell Js _).setCell Js _).setCell Js _)⟩;case res=>
  have i:=λb=>(((((h b).put 0 (W (ZU q).s) (Jd:0<4)).put 1 (G (ZU q).k) (Jd:1<4)).put 2 (G (ZU q).l) (Jd:2<4)).put 3 (G (ZU q).sd) (Jd:3<4)).c
  have k:=λb=>i b 0 (Jd:0<4)
  have l:=λb=>i b 1 (Jd:1<4)
  have m:=λb=>i b 2 (Jd:2<4)
  have n:=λb=>i b 3 (Jd:3<4)
  simp only[ye,yg,yh,jr,jm,jp]at k l m n;simp only[results,results14];simp[go_sem,k,l,m,n]
