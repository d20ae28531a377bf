import Derived.Test.YtdgcbenningkdaaGreatDoorV05
import Derived.Test.YtdgcbenningkdaaGreatDoorV09
namespace Go.Proofs.YtdgcbenningkdaaGreatDoor
set_option linter.all false
set_option maxHeartbeats 0
set_option maxRecDepth 100000
open Proofs.Tryz RowKit
open Go.Deep (BT)
variable{A B M b c ca cap ct f g ga gt n op p p0 q rp:Nat}{d w w' wr wr':World}{a:Option Addr}{bh:Bool}{bs:List UInt8}{ms:List zF}{ns xa:List Ad}{out:List (List Ad)}{t:ByteArray}{us ws:List ByteArray}{v:Value}
open _root_.Array renaming size→O
open List renaming length→Z
open Option renaming some→E,none→JL
open Obj renaming cells→JM
open Bool renaming false→Vt,true→Vp
open Proofs.Tryz renaming prog→Vb
open Value renaming slice→i6,ownBlock→i8
open Ending renaming returned→i9
open _root_.ByteArray renaming empty→j6
def A3(c:Jw):ET->Nat->Nat×ET
 |.nil,p=>(p,.nil)
 |.node b _ t l a,p=>
  (Ac c (A3 c a (A3 c l p).1).1,
   if Af c (A3 c a (A3 c l p).1).1%6=5 then .node 6 0 j6 (.node b 0 t (A3 c l p).2 (A3 c a (A3 c l p).1).2) .nil
   else .node b 0 t (A3 c l p).2 (A3 c a (A3 c l p).1).2)
theorem Of(c):∀(T:ET)(p:Nat),Ab T<=Ab (A3 c T p).2/\Ab (A3 c T p).2<=2*Ab T
 |.nil,p=>⟨yk,yn⟩
 |.node b o t l a,p=>by have d:=Of c l p;have e:=Of c a (A3 c l p).1;simp only[A3];split<;>simp only[Ab]<;>omega
theorem Qq(c):∀(T:ET)(p:Nat),Sh T->Sh (A3 c T p).2
 |.nil,p,h=>h.elim
 |.node b o t l a,p,⟨_,h⟩=>by
  have f:Sh (.node b 0 t (A3 c l p).2 (A3 c a (A3 c l p).1).2):=by
   refine⟨F,?_⟩;rcases h with⟨d,rfl,rfl⟩|⟨d,e,rfl⟩|⟨d,e,g⟩
   .exact yW ⟨d,F,F⟩
   .exact yX (yW ⟨d,Qq c l p e,F⟩)
   .exact yX (yX ⟨d,Qq c l p e,Qq c a _ g⟩)
  simp only[A3];split
  .exact⟨F,yX (yW ⟨Jd,f,F⟩)⟩
  .exact f
def Ez(n:Nat):ET->Prop
 |.nil=>True
 |.node _ _ t l a=>t.size<=n/\Ez n l/\Ez n a
theorem S8(c n):∀(T:ET)(p:Nat),Ez n T->Ez n (A3 c T p).2
 |.nil,p,h=>trivial
 |.node b o t l a,p,⟨h0,h1,h2⟩=>by
  have d:Ez n (.node b 0 t (A3 c l p).2 (A3 c a (A3 c l p).1).2):=⟨h0,S8 c n l p h1,S8 c n a _ h2⟩;simp only[A3];split
  .exact⟨yn,d,trivial⟩
  .exact d
theorem RX(n):∀(T:ET)(s:Nat),(∀o∈nd T s,o.t.size<=n)->Ez n T
 |.nil,s,h=>trivial
 |.node b o t l a,s,h=>by simp only[nd,ju,jE]at h;refine⟨?_,RX n l s λx hx=>h x (yW (yW hx)),RX n a _ λx hx=>h x (yW (yX hx))⟩;have:=h (tN b t l a s) (yX F);simpa[tN] using this
def P7(a n b t l T)(h:Ez n T):Ez n (Fk a b t l T):=by
 unfold Fk;split
 .exact⟨yn,h,trivial⟩
 .exact h
def CJ(T:ET):List ByteArray:=(Ak T).map (·.2)
theorem P8:∀(T:ET),Z (CJ T)<=2*Ab T
 |.nil=>yn
 |.node b o t l a=>by
  have c:=P8 l;have d:=P8 a;simp only[CJ,List.length_map]at c d ⊢;simp only[Ak,Ab];split
  .simp;omega
  .split
   .simp;omega
   .split
    .simp;omega
    .split
     .simp;omega
     .simp;omega
theorem To{n}(e:1<=n):∀(T:ET),Ez n T->∀s∈CJ T,s.size<=n
 |.nil,h=>λs c=>by simp[CJ,Ak]at c
 |.node b o t l a,⟨h0,h1,h2⟩=>by
  have d:=To e l h1;have f:=To e a h2;have g:opn.size<=n:=e;have i:Bs.size<=n:=e;simp only[CJ]at d f ⊢;simp only[Ak];intro s c;split at c
  .simp only[jC,List.map_append,List.map_nil,jH,ju,jE,List.not_mem_nil,or_false]at c;rcases c with rfl|c|rfl
   .exact g
   .exact d s c
   .exact i
  .split at c
   .simp only[jC,jH]at c;rcases c with rfl|c
    .exact h0
    .exact d s c
   .split at c
    .simp only[jC,List.map_append,List.map_nil,jH,ju,jE,List.not_mem_nil,or_false]at c;rcases c with c|rfl
     .exact d s c
     .exact h0
    .split at c
     .simp only[jC,List.map_append,List.map_nil,jH,ju]at c;rcases c with c|rfl|c
      .exact d s c
      .exact h0
      .exact f s c
     .simp only[jC,List.map_nil,jE]at c;subst c;exact h0
def QQ(k:Nat):ByteArray:=(⟨#[97]⟩:JZ)++(⟨#[49,50,51]⟩:JZ).extract 0 (k/8%4)
def BU(a:Jw)(b:Jf):Nat->List ByteArray->Bool->Nat->Nat->List ByteArray×Nat
 |0,ws,_,_,p=>(ws,p)
 |f+1,ws,bh,op,p=>
  if ¬ ((Z ws<30/\p<Z a)\/bh=Vt\/0<op) then(ws,p)
  else if bh=Vt then
   if Af a p%8=1/\Z ws<30 then BU a b f (ws++[⟨#[40]⟩]) Vt (op+1) (Ac a p)
   else if 4<Af a p%8/\(r b (Af a p/8%(Z b))).k=1 then BU a b f (ws++[(r b (Af a p/8%(Z b))).s]) Vt op (Ac a p)
   else BU a b f (ws++[QQ (Af a p)]) Vp op (Ac a p)
  else if 0<op/\(Af a p%8=0\/30<=Z ws\/Z a<=Ac a p) then BU a b f (ws++[⟨#[41]⟩]) Vp (op-1) (Ac a p)
  else if(r b (Af a p/8%(Z b))).k=3 then BU a b f (ws++[(r b (Af a p/8%(Z b))).s]) Vp op (Ac a p)
  else if(r b (Af a p/8%(Z b))).k=2 then BU a b f (ws++[(r b (Af a p/8%(Z b))).s]) Vt op (Ac a p)
  else if Z a<=Ac a p then(ws,Ac a p)
  else BU a b f ws Vp op (Ac a p)
def Fm(b:Jw)(a:Bool)(c p:Nat):Nat:=3*(Z b-p)+c+(if a=Vp then 0 else 1)
def EA(a:Jw)(b:Jf)(p:Nat):Nat×Jj:=AP a b Vt (2+Af a p%5) (Ac a p) []
def M7(a b p c q):=
 (Af a p%4=3/\BU a b 3601 [] Vt 0 (Ac a p)=(c,q)) \/
 (Af a p%4≠3/\∃d v,JK b (EA a b (Ac a p)).2 d v/\((v=Vt/\c=[⟨#[97]⟩]/\q=(EA a b (Ac a p)).1) \/
  (v=Vp/\∃T,Sh T/\d=nd T 0/\c=CJ (A3 a T (EA a b (Ac a p)).1).2/\q=(A3 a T (EA a b (Ac a p)).1).1)))
def M7.one{g j p q k l b}(h:M7 g j p l q)(f:M7 g j p b k):l=b/\q=k:=by
 rcases h with⟨a,e⟩|⟨a,u,v,s,h⟩<;>rcases f with⟨c,i⟩|⟨c,o,w,Q,f⟩
 .rw[e]at i;injection i with m n;exact⟨m,n⟩
 .exact yV a c
 .exact yV c a
 .obtain⟨rfl,rfl⟩:=s.one Q;rcases h with⟨rfl,rfl,rfl⟩|⟨rfl,T,hT,x,rfl,rfl⟩<;>rcases f with⟨d,rfl,rfl⟩|⟨d,t,K,H,rfl,rfl⟩
  .exact⟨F,F⟩
  .cases d
  .cases d
  .obtain rfl:=zat hT K (x.symm.trans H);exact⟨F,F⟩
def nF{c j}(hx:Z c<=127)(K:∀o∈c,o.t.size<=16)(h:JK ns c j Vp):∃T,Sh T/\j=nd T 0/\Ab T<=254/\Ez 16 T:=by
 rcases h with⟨⟨⟨_,s,_⟩,_⟩,_,rfl⟩|⟨_,u,_⟩
 .obtain⟨T,hs,hz,H⟩:=UB s;have v:=hs.pos;have n:B1 c T 0:=by rw[H];exact Gc T
  have e:=X4 ns c T 0 hs n 0 0;have i:0+Ab T-1=Z c-1:=I;rw[i]at e;have m:=IT T 0 hs n;rw[i]at m;have q:=E3 ns c (Z c) (Z c-1) 0 I m 0 0;rw[e,ZN]at q;refine⟨AZ ns T 0,zac ns T 0 hs,e,I,?_⟩;have p:Ez 16 T:=RX 16 T 0 (by rw[<-H];exact K);have:∀(T:ET)(l:Int),Ez 16 T->Ez 16 (AZ ns T l):=by
   intro T;induction T with
   |nil=>intro l _;exact trivial
   |node b o t l a ihl ihr=>
    rintro k ⟨f,d,g⟩;simp only[AZ];split
    .first|exact ihl _ d|exact ihl k d
    .first|exact P7 _ _ _ _ _ _ ⟨f,ihl _ d,ihr _ g⟩|(split<;>first|exact P7 _ _ _ _ _ _ ⟨f,trivial,trivial⟩|exact P7 _ _ _ _ _ _ ⟨f,ihl _ d,trivial⟩|exact P7 _ _ _ _ _ _ ⟨f,ihl _ d,ihr _ g⟩)
  exact this T 0 p
 .cases u
theorem tP:∀{T:ET},Sh T->1<=Z (Ak T)
 |.nil,h=>h.elim
 |.node b o t l a,⟨_,h⟩=>by
  simp only[Ak];split
  .simp
  .split
   .simp
   .split
    .simp
    .split
     .simp;omega
     .simp
def Gt(k:Nat)(a:Jp):Nat->Jv
 |0=>[]
 |j+1=>if k/2 ^ j%2=1 then Gt k a j++[(Ae a j).n] else Gt k a j
def Ev(k n i:Nat)(a:Jf):Nat->Jf
 |0=>[]
 |j+1=>if j%n=i\/(240<=k/\j%n=0) then Ev k n i a j++[r a j] else Ev k n i a j
def FZ(a:Jw)(n i:Nat)(b:Jf)(p:Nat):Jf×Nat:=
 if 0<i/\Af a p%32=31 then(Ev (Af a p) n i b (Z b)++[Ed (Af a (Ac a p)) (Af a (Ac a (Ac a p))) Vp],Ac a (Ac a (Ac a p)))
 else(Ev (Af a p) n i b (Z b),Ac a p)
def J9(b:Jw)(a:Jv)(q:Nat):ByteArray:=(Ba b a q (Z a)).1++Gz (Af b (Ba b a q (Z a)).2)
def QF(a:Jw)(b:Jv)(q:Nat):Nat:=Ac a (Ba a b q (Z b)).2
def ON(a:Jw)(n)(g:Jf)(i:Nat)(k:Jp)(p:Nat)(m:zF)(q:Nat):=
 ∃(j:JZ)(b:JE)(c o:Int)(ws:Jv)(l:Nat)(e:JZ)(out:JF)(d f:Int),
  j=MZ (Af a (FZ a n i g p).2) (Gt (Af a p) k i) (FZ a n i g p).1/\ZI (k++[⟨E4 i,j⟩]) b c o /\
  M7 a (if c=0 then zy b i else[]) (Ac a (FZ a n i g p).2) ws l /\
  ((c=0/\e=j++J9 a ws l/\q=QF a ws l)\/(c≠0/\e=⟨#[98,101,103,105,110,10,97]⟩/\q=Ac a (FZ a n i g p).2)) /\
  Zg (k++[⟨E4 i,e⟩]) out d f /\
  ((d=0/\m=⟨E4 i,e⟩)\/(d≠0/\∃h,GA e Ad.zero Ad.zero h/\m=⟨E4 i,h++⟨#[49]⟩⟩))
def JX(b:Jw)(n:Nat)(e:Jf)(c:Nat):Nat->Jp->Nat->Prop
 |0,ms,p=>ms=[]/\p=c
 |i+1,ms,p=>∃a d m,JX b n e c i a d/\ON b n e i a d m p/\ms=a++[m]
def M8(a p c q):=
 ∃xa b,Fa a (Ac a (Ac a p)) (3+Af a (Ac a p)%8) xa b/\JX a (1+Af a p%4) xa b (1+Af a p%4) c q
def Vc{H c}(h:Z2 w b H c)(a:w'.heap[b]?=w.heap[b]?):Z2 w' b H c:=λi j=>by obtain⟨d,e,f,g⟩:=h i j;exact⟨(yv (w:=w) a).trans d,(yv (w:=w) a).trans e,(yv (w:=w) a).trans f,(yv (w:=w) a).trans g⟩
def K2.nod{N o}(h:K2 w w' rp g)(d:Zb w N o)(a:N≠rp)(b:N≠g):Zb w' N o:=by have H:N<O w.1:=jl d.1;have c:=h.cell H a b;have f:=h.frozen H a b;obtain⟨e,i,j,k,l,m⟩:=d;exact⟨(c 0).trans e,(c 1).trans i,(c 2).trans j,(c 3).trans k,(f 2).trans l,(f 3).trans m⟩
def K2.set{o}(h:K2 w w' rp g)(v)(e:O w.1<=b):K2 w (w'.setCell (J b o) v) rp g:=
 ⟨h.os,h.tape,h.output,by simpa[World.setCell] using h.size,λi d a c=>(jh _ _ _ _ (I:i≠b)).trans (h.block i d a c)⟩
def OO(e d:Nat)(a)(f:Jw)(h l:Nat)(k:Jj)(B j p q:Nat)(i m:Jj):=
 ∀(g c:Nat)(b:JY),Z2 b h 0 k->B<=O b.1->AS b B g c i->Az b e a d f p ->
  Calls Vb 94 #[Qp e,Ql h (Z k) l,G j,Ql g (Z i) c] b (SR b e d a f B g q m)
def zbw(i c:Nat)(a)(d:Jw)(e f:Nat)(l:Jj)(B:Nat)(k:Int)(t:JZ)(n q p g:Nat)(j h:Jj)(m:zD):=
 (zY k=0/\h=j/\g=p/\m=⟨k,t,0,0⟩) \/
 (zY k=1/\OO i c a d e f l B n p g j h/\m=⟨k,t,(Z h:Int)-1,0⟩) \/
 (zY k=2/\∃o b,OO i c a d e f l B n p o j b/\OO i c a d e f l B q o g b h/\m=⟨k,t,(Z b:Int)-1,(Z h:Int)-1⟩/\Z b<=90000)
def Tp(rp cap a bs)(hl:Z bs<=1200)(bz cz i zs k t)(ja jb:Nat)(B p p2 us H Q vs m)(hX:bz<B)(hS:rp<B)(hR:bz≠rp)(hi:i<Z zs)(hP:Z zs<=20000)(ho:Y zs i=⟨k,t,(ja:Int),(jb:Int)⟩)(hN:Z us<=90000)(hE:Z H<=90000)(hc:zbw rp cap a bs bz cz zs B k t ja jb p p2 us H m)(hb:Q=H++[m])(h7:vs=if Af bs p2%6=5 then Q++[⟨6,j6,(Z Q:Int)-1,0⟩] else Q):OO rp cap a bs bz cz zs B i p (Ac bs p2) us vs:=by
 intro g c w hm hB hr hd;have hg:=hr.lt;have hW:(i:Int)<Z zs:=I;obtain⟨h0,h1,h2,h3⟩:=hm i hi;rw[ho]at h0 h1 h2 h3;simp only[jd]at h0 h1 h2 h3;have hV:Z Q<=90001:=by rw[hb];simp;omega
 have HR:=S hr;have HD:=S hd;have hx:=S hm;have hp:=S hb;have hu:=S h7;clear hr hd hm ho hb h7;go_enter func94,ntmps94;go_wp2_with fail;have N:Hid (Below (O w.1) w ((w.alloc (JM #[G k,W t,G ja,G jb] 108)).alloc (JM #[G k,W t,G 0,G 0] 108))):=(zC).alloc Js _;obtain⟨W0,j⟩:=Jx (((w.alloc (JM #[G k,W t,G ja,G jb] 108)).alloc (JM #[G k,W t,G 0,G 0] 108)));have L:=S (by rw[j];exact⟨Jg,Jg,Jg,Jg,Jg,Jg⟩:Zb W0 (O w.1) ⟨k,t,(ja:Int),(jb:Int)⟩);have C:=S (by rw[j];exact⟨Jg,Jg,Jg,Jg,Jg,Jg⟩:Zb W0 (O w.1+1) ⟨k,t,0,0⟩);have l:=S (by rw[j];exact K2.ofB N:K2 w W0 rp g);have f:=S (by rw[j];exact HR.y N:AS W0 B g c us);have hZ:=S (by rw[j];exact HD.y N:Az W0 rp a cap bs p);have qa:=S (by rw[j];exact hx.y N I:Z2 W0 bz 0 zs);have z0:O w.1+2=O W0.1:=by rw[j];simp
 rw[<-j];obtain⟨n0,n1,n2,n3,_,_⟩:=D L;obtain⟨m0,m1,m2,m3,f2,f3⟩:=D C;simp only at n0 n1 n2 n3 m0 m1 m2 m3;clear HR HD hx N j h0 h1 h2 h3;rcases D hc with⟨hk,hJ,hH,P⟩|⟨hk,V,P⟩|⟨hk,p1,A,V,R,P,hU⟩;focus
  have HK:=S hk
  have qh:=S P
  subst hJ
  subst hH
  clear hk P hc
  go_call zV (D HK) 0 F _ as e w' ⟨rfl,h⟩
  subst h
  go_wp2_with fail
  go_call zV (D HK) 0 F _ as e W2 ⟨rfl,h⟩
  have o:=S (by rw[D qh,h];exact D C:Zb W2 (O w.1+1) m)
  obtain⟨g2,qe⟩:=Jx g
  obtain⟨c2,ha⟩:=Jx c
  have u:=S (by rw[h,qe,ha];exact D f:AS W2 B g2 c2 H)
  have n:=S (by rw[h];exact D hZ:Az W2 rp a cap bs p2)
  have hY:=S (by rw[h];exact D l:K2 w W2 rp g)
  have z2:O w.1+2<=O W2.1:=by rw[h];omega
  have h8:g2=g\/O w.1+2<=g2:=yW qe
  rw[<-ha]
  have h9:(Ql g (Z H) c2:Value)=Ql g2 (Z H) c2:=by rw[qe]
  rw[h9]
  clear qe ha h9 h C L f hZ qa l n0 n1 n2 n3 m0 m1 m2 m3 f2 f3
 rotate_left
 focus
  have HK:=S hk
  have qh:=S P
  have qc:=S V
  clear hk P hc V
  go_call zV (D HK) 1 F _ as e w' ⟨rfl,h⟩
  subst h
  go_wp2_with fail
  have U:=(D qc) g c _ qa I f hZ
  (with_reducible refine U.mono ?_)
  clear U
  rintro e w5 ⟨g2,c2,rfl,y,hg5,HD5,K⟩
  have z5:=K.size
  have hF:=y.lt
  have M:=S (K.nod L I I)
  have z:=S (K.nod C I I)
  have d:=S (l.trans K (yW F))
  clear n0 n1 n2 n3 m0 m1 m2 m3 f2 f3 L C K l f hZ qa
  obtain⟨n0,n1,n2,n3,_,_⟩:=D M
  obtain⟨m0,m1,m2,m3,f2,f3⟩:=D z
  simp only at n0 n1 n2 n3 m0 m1 m2 m3
  go_wp2_with fail
  go_call zV (D HK) 1 F _ as e W2 ⟨rfl,h⟩
  have o:=S (by rw[D qh,h];exact z.set2 _:Zb W2 (O w.1+1) m)
  have u:=S (by rw[h];exact y.set _ _ _ I:AS W2 B g2 c2 H)
  have n:=S (by rw[h];exact HD5.set _ _ _ I:Az W2 rp a cap bs p2)
  have hY:=S (by rw[h];exact d.set _ I:K2 w W2 rp g)
  have z2:O w.1+2<=O W2.1:=by rw[h];simp[World.setCell];omega
  have h8:g2=g\/O w.1+2<=g2:=I
  clear h z M y HD5 d n0 n1 n2 n3 m0 m1 m2 m3 f2 f3
 rotate_left 2
 iterate 2
  focus
   obtain⟨mk0,mk1,mk2,mk3,_,_⟩:=D o
   have hM:=u.lt
   go_wp2_with (at_builtin;refine As BB underlying38 (.tmp 48) (.tmp 50) F rfl B _ (Z H) (zO H) F (u.y zC) (J (O W2.1) 0) 1 1 (zO [m]) F rfl (Zh W2 m) (zf _) Jm I Jq ?_)
   intro v4 w4 x q X qb
   obtain⟨g4,c4,rfl,b⟩:=AS.snoc x (by simp[X]) hp
   have hD:=S b
   have hK:=b.lt
   have qf:World.grownBy _ w4 (E g2):=q
   have hC:=S ((n.y (@zC W2 (JM #[G m.k,W m.t,G m.a,G m.b] 108))).row qf I)
   have hA:=S ((hY.trans (K2.ofB (@zC W2 (JM #[G m.k,W m.t,G m.a,G m.b] 108))) (yW F)).row qf I)
   have qg:g4=g\/O w.1<=g4:=by simp[i8]at qb;omega
   clear x q qf X b qb mk0 mk1 mk2 mk3 o u n hY
  rotate_left
 focus
  have HK:=S hk
  have qh:=S P
  have qc:=S V
  have hf:=S R
  subst P
  clear qh hk hc V R
  go_call zV (D HK) 2 F _ as e w' ⟨rfl,h⟩
  subst h
  go_wp2_with fail
  have U:=(D qc) g c _ qa I f hZ
  (with_reducible refine U.mono ?_)
  clear U
  rintro e w5 ⟨g1,c1,rfl,y,hg5,HD5,K⟩
  have z5:=K.size
  have hF:=y.lt
  have M:=S (K.nod L I I)
  have z:=S (K.nod C I I)
  have hq:=S (Vc qa (K.block bz I I I))
  have d:=S (l.trans K (yW F))
  clear n0 n1 n2 n3 m0 m1 m2 m3 f2 f3 L C K l f hZ qa
  obtain⟨n0,n1,n2,n3,_,_⟩:=D M
  obtain⟨m0,m1,m2,m3,f2,f3⟩:=D z
  simp only at n0 n1 n2 n3 m0 m1 m2 m3
  go_wp2_with fail
  go_call zV (D HK) 2 F _ as e W6 ⟨rfl,h⟩
  have hn:=S (by rw[h];exact z.set2 _:Zb W6 (O w.1+1) ⟨k,t,(Z A:Int)-1,0⟩)
  have hz:=S (by rw[h];exact M.other _ I:Zb W6 (O w.1) ⟨k,t,(ja:Int),(jb:Int)⟩)
  have qd:=S (by rw[h];exact y.set _ _ _ I:AS W6 B g1 c1 A)
  have s:=S (by rw[h];exact HD5.set _ _ _ I:Az W6 rp a cap bs p1)
  have h4:=S (by rw[h];exact d.set _ I:K2 w W6 rp g)
  have h5:=S (by rw[h];exact Vc hq (jh _ _ _ _ (I:bz≠O w.1+1)):Z2 W6 bz 0 zs)
  have z6:O w5.1=O W6.1:=by rw[h];simp[World.setCell]
  clear h z M y HD5 d hq n0 n1 n2 n3 m0 m1 m2 m3 f2 f3
  obtain⟨n0,n1,n2,n3,_,_⟩:=D hz
  simp only at n0 n1 n2 n3
  go_wp2_with fail
  have U:=(D hf) g1 c1 W6 h5 I qd s
  (with_reducible refine U.mono ?_)
  clear U
  rintro e w7 ⟨g2,c2,rfl,HR7,hg7,HD7,HK8⟩
  have z7:=HK8.size
  have hQ:=HR7.lt
  have hh:=S (HK8.nod hn I I)
  have hs:=S (h4.trans HK8 I)
  obtain⟨m0,m1,m2,m3,f2,f3⟩:=D hh
  simp only at m0 m1 m2 m3
  obtain⟨W2,h⟩:=Jx (w7.setCell (J (O w.1+1) 3) (G ((Z H:Int)-1)))
  have o:=S (by rw[h];exact hh.set3 _:Zb W2 (O w.1+1) ⟨k,t,(Z A:Int)-1,(Z H:Int)-1⟩)
  have u:=S (by rw[h];exact HR7.set _ _ _ I:AS W2 B g2 c2 H)
  have n:=S (by rw[h];exact HD7.set _ _ _ I:Az W2 rp a cap bs p2)
  have hY:=S (by rw[h];exact hs.set _ I:K2 w W2 rp g)
  have z2:O w.1+2<=O W2.1:=by rw[h];simp[World.setCell];omega
  have h8:g2=g\/O w.1+2<=g2:=I
  have hO:O w7.1=O W2.1:=by rw[h];simp[World.setCell]
  have ht:=S h
  clear h hz hn qd s h4 h5 HR7 HD7 HK8 hs n0 n1 n2 n3
  have hM:=u.lt
  go_wp2_with (at_builtin;rw[<-D ht];refine As BB underlying38 (.tmp 48) (.tmp 50) F rfl B _ (Z H) (zO H) F (u.y zC) (J (O W2.1) 0) 1 1 (zO [⟨k,t,(Z A:Int)-1,(Z H:Int)-1⟩]) F rfl (Zh W2 ⟨k,t,(Z A:Int)-1,(Z H:Int)-1⟩) (zf _) Jm I Jq ?_)
  intro v4 w4 x q X qb
  obtain⟨g4,c4,rfl,b⟩:=AS.snoc x (by simp[X]) hp
  have hD:=S b
  have hK:=b.lt
  have qf:World.grownBy _ w4 (E g2):=q
  have hC:=S ((n.y (@zC W2 (JM #[G k,W t,G ((Z A:Int)-1),G ((Z H:Int)-1)] 108))).row qf I)
  have hA:=S ((hY.trans (K2.ofB (@zC W2 (JM #[G k,W t,G ((Z A:Int)-1),G ((Z H:Int)-1)] 108))) (yW F)).row qf I)
  have qg:g4=g\/O w.1<=g4:=by simp[i8]at qb;omega
  clear x q qf X b qb m0 m1 m2 m3 f2 f3 hh ht o u n hY
 all_goals
  go_wp2_with fail
  go_call EX rp cap p2 a bs _ (D hC) hl as e w5 ⟨⟨v,rfl,hv,HV⟩,H5,HP5⟩
  have z5:=HP5.size
  have y:=S (hD.kept HP5 I)
  have K:=S (hA.trans (K2.of1 (g:=g) HP5) (yW F))
  have z5':=K.size
  by_cases h6:v%6=5
  .have e6:((v:Int)%6==5)=Vp:=Jq
   have hI:=S (by rw[D hu,<-D HV,yU h6];rfl:vs=Q++[⟨6,⟨#[]⟩,(Z Q:Int)-1,0⟩])
   go_wp2_with (at_builtin;refine As BB underlying38 (.tmp 56) (.tmp 61) F rfl B _ (Z Q) (zO Q) F (y.y zC) (J (O w5.1) 0) 1 1 (zO [⟨6,⟨#[]⟩,(Z Q:Int)-1,0⟩]) F rfl (Zh w5 ⟨6,⟨#[]⟩,(Z Q:Int)-1,0⟩) (zf _) Jm I Jq ?_)
   intro v6 w6 hj T he hy
   obtain⟨g6,c6,rfl,hG⟩:=AS.snoc hj (by simp[he]) hI
   have qd:=S hG
   have qf:World.grownBy _ w6 (E g4):=T
   have s:=S ((H5.y (@zC w5 (JM #[G 6,W ⟨#[]⟩,G ((Z Q:Int)-1),G 0] 108))).row qf I)
   have d:=S ((K.trans (K2.ofB (@zC w5 _)) (yW F)).row qf I)
   have hw:g6=g\/O w.1<=g6:=by simp[i8]at hy;omega
   go_wp2
   go_ret
   exact⟨g6,c6,F,qd,hw,s,d⟩
  .have e6:((v:Int)%6==5)=Vt:=Jq
   obtain rfl:vs=Q:=by rw[D hu,<-D HV,yS h6]
   go_wp2
   go_ret
   exact⟨g4,c4,F,y,qg,H5,K⟩
def zZX(k):CS (Fs k):=by
 have h:k%12<12:=Nat.mod_lt _ Jd;have d:∀j:Fin 12,(La.getD j.val ⟨#[]⟩).data.toList≠[]/\∀c∈(La.getD j.val ⟨#[]⟩).data.toList,33<=c.toNat:=Jd;obtain⟨a,b⟩:=d ⟨k%12,h⟩;have:=LF a b;have e:bB (La.getD (k%12) ⟨#[]⟩).data.toList=La.getD (k%12) ⟨#[]⟩:=by simp[bB]
 simp only[e]at this;exact this
def nG(k v a):0<=JN k v a/\JN k v a<1000000:=by
 have b:0<=AE (Cu k) (Cf k)/\AE (Cu k) (Cf k)<=10:=by
  unfold AE Cu Cf;repeat' split
  all_goals omega
 unfold JN;repeat' split
 all_goals omega
def Tq(k v c):Cz (Ed k v c):=by
 obtain⟨d,e⟩:=nG k v c;refine⟨zZX v,⟨(JN k v c).toNat,by show JN k v c=_;omega,I⟩,?_⟩;show(Cu k=1/\Cf k=0)\/(Cu k=3/\Cf k=0)\/(Cu k=2/\(Cf k=1\/Cf k=2\/Cf k=3));unfold Cu Cf;by_cases a:k%8<2
 .rw[yU a,yU a];exact yW ⟨F,F⟩
 .by_cases b:k%8=2
  .rw[yS a,yU b,yS a,yU b];exact yX (yW ⟨F,F⟩)
  .rw[yS a,yS b,yS a,yS b];refine yX (yX ⟨F,?_⟩);omega
def Tr(k v a):(Ed k v a).s.size<=16:=by have:=PG v;show(Fs v).size<=16;omega
theorem Fa.opT{c f}:∀{k:Nat}{xs:Jf}{p:Nat},Fa c f k xs p->∀o∈xs,Cz o/\o.s.size<=16
 |0,xs,p,h=>by obtain⟨rfl,_⟩:=h;exact λo a=>by cases a
 |k+1,xs,p,h=>by
  obtain⟨g,q,e,_,d⟩:=h;have b:=e.opT;rcases d with⟨_,rfl⟩|⟨_,rfl⟩
  .intro o a;rcases ju.1 a with a|a
   .exact b o a
   .rw[jE.1 a];exact⟨Tq _ _ _,Tr _ _ _⟩
  .exact b
theorem Sf{k n i a}:∀{j:Nat},j<=Z a->∀o∈Ev k n i a j,o∈a
 |0,_,o,h=>by cases h
 |j+1,hj,o,h=>by
  simp only[Ev]at h;split at h
  .rcases ju.1 h with h|h
   .exact Sf I o h
   .rw[jE.1 h];unfold r;rw[yq,yt I];exact List.getElem_mem _
  .exact Sf I o h
theorem XN{k n i xa}:∀j,Z (Ev k n i xa j)<=j
 |0=>yk
 |j+1=>by
  have:=XN (k:=k) (n:=n) (i:=i) (xa:=xa) j;simp only[Ev];split
  .simp;omega
  .omega
def zZY{bs n i p a}(h:∀o∈a,Cz o/\o.s.size<=16)(e:Z a<=10):(FZ bs n i a p).1.length<=11/\∀o∈(FZ bs n i a p).1,Cz o/\o.s.size<=16:=by
 have d:=XN (k:=Af bs p) (n:=n) (i:=i) (xa:=a) (Z a);have c:∀o∈Ev (Af bs p) n i a (Z a),Cz o/\o.s.size<=16:=λo b=>h o (Sf yk o b)
 unfold FZ;split
 .refine⟨Jq,λo b=>?_⟩;rcases ju.1 b with b|b
  .exact c o b
  .rw[jE.1 b];exact⟨Tq _ _ _,Tr _ _ _⟩
 .exact⟨by show(Z (Ev _ _ _ _ _))<=11;omega,c⟩
theorem XO{k z a}(h:∀i,(Ae a i).n.size<=z):∀j,Z (Gt k a j)<=j/\∀x∈Gt k a j,x.size<=z
 |0=>⟨yk,λx hx=>by cases hx⟩
 |j+1=>by
  obtain⟨c,b⟩:=XO (k:=k) h j;simp only[Gt];split
  .refine⟨Jq,λx hx=>?_⟩;rcases ju.1 hx with hx|hx
   .exact b x hx
   .rw[jE.1 hx];exact h j
  .exact⟨I,b⟩
def Ts{a z}(h:∀x∈a,x.size<=z)(j):(AG a j).size<=z:=by
 unfold AG;rw[yq];by_cases b:j<Z a
 .rw[yt b];exact h _ (List.getElem_mem b)
 .rw[List.getElem?_eq_none I];exact yn
def zbA{a z}(h:∀o∈a,o.s.size<=z)(j):(r a j).s.size<=z:=by
 unfold r;rw[yq];by_cases b:j<Z a
 .rw[yt b];exact h _ (List.getElem_mem b)
 .rw[List.getElem?_eq_none I];exact yn
def tQ(a):∃c,zM a c:=by
 by_cases d:500<Z a
 .exact⟨1,yW ⟨F,d⟩⟩
 have h:Z a<=500:=I;by_cases b:Bg a (Z a)
 .by_cases h3:Pr 3 a
  .exact⟨3,yX ⟨h,yX ⟨b,yW ⟨F,h3⟩⟩⟩⟩
  .by_cases h4:Pr 4 a
   .exact⟨4,yX ⟨h,yX ⟨b,yX ⟨h3,yW ⟨F,h4⟩⟩⟩⟩⟩
   .exact⟨0,yX ⟨h,yX ⟨b,yX ⟨h3,yX ⟨F,h4⟩⟩⟩⟩⟩
 .exact⟨2,yX ⟨h,yW ⟨F,b⟩⟩⟩
def zbB{a:Nat->Jf}{i}(h:¬ B6 a i):zM (a i) 0:=by
 obtain⟨c,b⟩:=tQ (a i);by_cases e:c=0
 .rw[<-e];exact b
 .exact yV ⟨c,b,e⟩ h
def ZI.valid{b}(h:ZI ms out 0 b):∀i,i<Z ms->zM (zy out i) 0:=by
 rcases h with⟨_,_,h,_⟩|⟨f,⟨_,_,_,_,_,h,_⟩|⟨e,h⟩⟩
 .cases h
 .cases h
 rcases h with⟨_,_,_,_,_,h,_⟩|⟨_,h⟩
 .cases h
 obtain⟨U,_,h⟩:=h;rcases h with⟨_,_,_,_,_,h,_⟩|⟨_,h⟩
 .cases h
 rcases h with⟨_,_,_,_,_,h,_⟩|⟨_,h⟩
 .cases h
 obtain⟨a,_,h⟩:=h;rcases h with⟨_,_,_,_,_,h,_⟩|⟨d,h⟩
 .cases h
 obtain⟨rfl,_⟩:=h;intro i c;rw[Z0 c];exact zbB (d i c)
def tR{a}(h:Bg a (Z a)):(∀i,(r a i).s.size<=16)/\∀j,j<Z a->0<=(r a j).k/\(r a j).k<=9:=by
 have e:∀o:Ad,o.ok=Vp->o.s.size<=16/\0<=o.k/\o.k<=9:=λo c=>by unfold Ad.ok Bv DR Iv at c;simp only[jB,Bool.or_eq_true,jM,beq_iff_eq]at c;obtain⟨⟨⟨⟨⟨_,_⟩,f⟩,_⟩,_⟩,b⟩:=c;refine⟨f,?_⟩;rcases b with⟨b,_⟩|⟨b|b,_⟩<;>omega
 refine⟨λi=>?_,λj g=>(e _ (h j g)).2⟩;by_cases d:i<Z a
 .exact(e _ (h i d)).1
 .have:r a i=Ad.zero:=by unfold r;simp[List.getD,List.getElem?_eq_none (Nat.le_of_not_lt d)]
  rw[this];show 0<=16;omega
def tS:¬ Bb ws Ad.zero:=by
 rintro⟨k,t,l,_,⟨_,⟨_,h⟩|⟨_,h⟩⟩|⟨a,_,_,_,h⟩⟩
 .have:(0:Int)=1:=yY Ad.k h;exact yV this Jd
 .have:(0:Int)=3:=yY Ad.k h;exact yV this Jd
 .have:(0:Int)=2:=yY Ad.k h;exact yV this Jd
def Ws{a}(c:∀s∈a,s.size<=16)(f:Z a<=4000):(J9 bs a q).size<=72010:=by
 have h:=Ts c;have:∀i,(Ba bs a q i).1.size<=2+18*i:=by
  intro i;induction i with
  |zero=>have:=Mr (Af bs q);simp only[Ba];omega
  |succ i ih=>have b:=VZ a i (Af bs (Ba bs a q i).2);have e:=h i;show((Ba bs a q i).1++DT a i (Af bs (Ba bs a q i).2)++AG a i).size<=_;rw[zQ,zQ];omega
 have d:=this (Z a);have b:=Mr (Af bs (Ba bs a q (Z a)).2);unfold J9;rw[zQ];omega
theorem YK(a b q)(h:q<=Z a):∀i,(Ba a b q i).2<=Z a
 |0=>MN h
 |i+1=>MN (YK a b q h i)
def nH(rp cap a M)(hl:Z M<=1200)(bz cz zs B)(c:bz<B)(C:rp<B)(A:bz≠rp)(V:Z zs<=20000):∀(T:ET),Sh T->∀(s:Nat)(us:Jj)(p:Nat),B1 zs T s->s+Ab T<=Z zs->Z us+2*Ab T<=80000 ->
  OO rp cap a M bz cz zs B (s+Ab T-1) p (A3 M T p).1 us (us++nd (A3 M T p).2 (Z us)):=by
 intro T;induction T with
 |nil=>intro h;exact h.elim
 |node b o t l z ihl ihr=>
  rintro⟨rfl,h⟩ s us p ⟨h1,h2,h3⟩ hz hlen;simp only[Ab]at hz hlen;have e:s+Ab (.node b 0 t l z)-1=s+Ab l+Ab z:=by simp only[Ab];omega
  rw[e];have Q:∀ja jb:Nat,(if zY (b:Int)=0 then(0:Int) else((s+Ab l:Nat):Int)-1)=(ja:Int)->(if zY (b:Int)=2 then((s+Ab l+Ab z:Nat):Int)-1 else 0)=(jb:Int)->Y zs (s+Ab l+Ab z)=⟨(b:Int),t,(ja:Int),(jb:Int)⟩:=λja jb ha hb=>by rw[h3,tN,ha,hb]
  have z1:=Of M l p;have z2:=Of M z (A3 M l p).1;obtain⟨L,hL⟩:=Jx ((A3 M l p).2);obtain⟨p1,j⟩:=Jx ((A3 M l p).1);obtain⟨R,hR⟩:=Jx ((A3 M z p1).2);obtain⟨N,n⟩:=Jx ((A3 M z p1).1);have em:A3 M (.node b 0 t l z) p=(Ac M N,if Af M N%6=5 then .node 6 0 j6 (.node b 0 t L R) .nil else .node b 0 t L R):=by simp only[A3,<-j,<-hL,<-n,<-hR]
  rw[em];rw[<-j]at z2;rw[<-hL]at z1;rw[<-hR]at z2;obtain⟨q,X⟩:=Jx (us++nd L (Z us));have v:Z q=Z us+Ab L:=by rw[X,yr,ZN]
  obtain⟨K,x⟩:=Jx (q++nd R (Z q));have P:Z K=Z us+Ab L+Ab R:=by rw[x,yr,ZN];omega
  obtain⟨H,w⟩:=Jx (K++[tN b t L R (Z us)]);have g:Z H=Z us+Ab L+Ab R+1:=by rw[w,yr,P];rfl
  have i:us++nd (.node b 0 t L R) (Z us)=H:=by rw[w,x,v,X];simp[nd]
  have U:us++nd (Ac M N,if Af M N%6=5 then .node 6 0 j6 (.node b 0 t L R) .nil else .node b 0 t L R).2 (Z us)=if Af M N%6=5 then H++[⟨6,j6,(Z H:Int)-1,0⟩] else H:=by
   simp only;split
   .have:us++nd (.node 6 0 j6 (.node b 0 t L R) .nil) (Z us)=(us++nd (.node b 0 t L R) (Z us))++[tN 6 j6 (.node b 0 t L R) .nil (Z us)]:=by rw[yD];congr 1;simp[nd]
    rw[this,i];have:tN 6 j6 (.node b 0 t L R) .nil (Z us)=⟨6,j6,(Z H:Int)-1,0⟩:=by unfold tN;rw[yS Jd,yS Jd,g];simp only[Ab];congr 1;omega
    rw[this]
   .exact i
  rcases h with⟨hk,rfl,rfl⟩|⟨hk,y,rfl⟩|⟨hk,y,k⟩
  .have f:L=.nil:=hL;have m:p1=p:=j;subst m;have d:R=.nil:=hR;have u:N=p1:=n;subst f d u;have e1:q=us:=by rw[X];simp[nd]
   have e2:K=us:=by rw[x,e1];simp[nd]
   refine Tp rp cap a M hl bz cz _ zs (b:Int) t 0 0 B N N us K H _ _ c C A (by simp only[Ab]at hz ⊢;omega) V (Q 0 0 (by rw[yU hk];rfl) (by rw[yS I];rfl)) I (by simp only[Ab]at P;omega) (yW ⟨hk,e2,F,?_⟩) w U;unfold tN;rw[yU hk,yS I]
  .have hp:=y.pos;have d:R=.nil:=hR;have u:N=p1:=n;subst d u;have e2:K=q:=by rw[x];simp[nd]
   refine Tp rp cap a M hl bz cz _ zs (b:Int) t (s+Ab l-1) 0 B p N us K H _ _ c C A (by simp only[Ab]at hz ⊢;omega) V (Q _ 0 (by rw[yS I];omega) (by rw[yS I];rfl)) I (by simp only[Ab]at P;omega) (yX (yW ⟨hk,?_,?_⟩)) w U
   .rw[e2,X,hL,j];exact ihl y s us p h1 I I
   .unfold tN;rw[yS I,yS I,e2,v]
  .have hp:=y.pos;have hq:=k.pos;refine Tp rp cap a M hl bz cz _ zs (b:Int) t (s+Ab l-1) (s+Ab l+Ab z-1) B p N us K H _ _ c C A I V (Q _ _ (by rw[yS I];omega) (by rw[yU hk];omega)) I I (yX (yX ⟨hk,p1,q,?_,?_,?_,I⟩)) w U
   .rw[X,hL,j];exact ihl y s us p h1 I I
   .rw[x,hR,n];exact ihr k (s+Ab l) q p1 h2 I I
   .unfold tN;rw[yS I,yU hk,v,P]
def zbx(w a e b):=
 ∃g c,e=i9 (Ql g (Z a) c)/\Hid (zu b (O w.1) (Ql g (Z a) c) a)/\Hid (Qb w b)
def L1(b d)(c:Jj)(j:Nat)(e:Jv):=∀a:JY,Z2 a b 0 c->b<O a.1 ->
 Calls Vb 95 #[Ql b (Z c) d,G j] a (zbx a e)
def zby(b c e k t f h d):=
 (zY k=0/\d=[t])\/(k=3/\∃a,0<Z a/\L1 b c e f a/\d=[t]++a)\/(k=6/\∃a,0<Z a/\L1 b c e f a/\d=[opn]++a++[Bs]) \/
 (k=5/\∃a,0<Z a/\L1 b c e f a/\d=a++[t])\/(k=4/\∃a g,0<Z a/\0<Z g/\L1 b c e f a/\L1 b c e h g/\d=a++[t]++g)
def GK{c f a}(h:Below B w c)(b:c.grownBy f a)(j:∀k,a=E k->B<=k)(g:B<=O c.1):Below B w f:=
 ⟨b.os.trans h.os,b.tape.trans h.tape,b.output.trans h.output,yy h.size b.size,λi d=>(b.block i (ym d g) (λe=>Jy (j i e.symm))).trans (h.block i d)⟩
def zu.news(h:zu w B (Ql g n c) us):∀j u,(zU us)[j]?=E u->w.cell? ((J g 0).add j)=E u:=by intro j u a;rw[jO];simp only[zU,List.getElem?_map,jx]at a;obtain⟨x,hx,rfl⟩:=a;exact h.cells j x hx
def zu.has(h:zu w B v us)(a:1<=Z us):∃g c,v = Ql g (Z us) c:=by
 obtain⟨_,⟨rfl,b⟩|⟨g,cap,H,rfl,_⟩⟩:=h
 .omega
 .exact⟨g,_,F⟩
def zu.nil(a:B<=O w.1):zu (w.alloc (JM #[] 9)) B (Ql (O w.1) 0 0) []:=
 yJ (base:=B) (e:=9) (size:=1) w #[] 0 a yn F
def zu.lit(a:B<=O w.1)(t):zu (w.alloc (JM #[.string t] 9)) B (i6 (E ⟨O w.1,0,JL⟩) 1 1) [t]:=
 yJ (base:=B) (e:=9) (size:=1) w #[.string t] 1 a Jm F
def zu.join{vs}(h:w.ownsRow B 9 1 v (Z us+Z vs) (zU us++zU vs))(e:ws=us++vs):zu w B v ws:=by subst e;unfold zu;rw[Zi,yr];exact h
def pX{b}(h:w.ownsRow B 9 1 v n b)(a:Qb w w'):w'.ownsRow B 9 1 v n b:=
 jD h (row:=JL) ⟨a.os,a.tape,a.output,a.size,λi c _=>a.block i c⟩ (by
  cases e:v.ownBlock with
  |none=>exact yW F
  |some k=>exact yX (λx=>by cases x))
def tT(h:w.cell? (J g 0)=E (W t)):∀j u,(zU [t])[j]?=E u->w.cell? ((J g 0).add j)=E u:=by
 intro j u a;rw[jO,jd];match j,a with
 |0,a=>simp[zU]at a;subst a;exact h
def Og(bz cz i zs k t)(ja jb:Nat)(ws)(hi:i<Z zs)(hF:Z zs<=20000)(ho:Y zs i=⟨k,t,(ja:Int),(jb:Int)⟩)(hD:Z ws<=90000)(hc:zby bz cz zs k t ja jb ws):L1 bz cz zs i ws:=by
 intro w T h9;have hO:(i:Int)<Z zs:=I;obtain⟨h0,h1,h2,h3⟩:=T i hi;rw[ho]at h0 h1 h2 h3;simp only[jd]at h0 h1 h2 h3;have hj:=S T;clear T ho;go_enter func95,ntmps95;go_wp2_with fail;obtain⟨W0,hQ⟩:=Jx ((w.alloc (JM #[.int .i64 k,.string t,.int .i64 (ja:Int),.int .i64 (jb:Int)] 108)));have hq:=S (by rw[hQ];exact⟨Jg,Jg,Jg,Jg,Jg,Jg⟩:Zb W0 (O w.1) ⟨k,t,(ja:Int),(jb:Int)⟩);have c:=S (by rw[hQ];exact zC:Below (O w.1) w W0);have hn:=S (hj.y c h9);have z0:O w.1+1=O W0.1:=by rw[hQ];simp
 rw[<-hQ];obtain⟨n0,n1,n2,n3,_,_⟩:=D hq;simp only at n0 n1 n2 n3;clear hj hQ h0 h1 h2 h3;rcases D hc with⟨hk,v⟩|⟨hk,w1,l,A,v⟩|⟨hk,w1,l,A,v⟩|⟨hk,w1,l,A,v⟩|⟨hk,w1,w2,l,hG,A,g,v⟩
 .have HK:=S hk;have a:=S v;clear hk v hc;go_call zV (D HK) 0 F _ as e W0' ⟨rfl,L⟩;subst L;go_wp2;go_ret;have e1:Z ws=1:=by rw[D a];rfl
  refine⟨O W0'.1,1,?_,S ?_,S (c.alloc c.size _)⟩
  .rw[e1];rfl
  .rw[e1,D a];exact zu.lit c.size t
 all_goals
  have a:=S v
  have hs:=yY List.length v
  simp only[yr,yB,je]at hs
  have he:=S A
  first|(have f:=S g;clear g)|skip
  subst hk
  first|(with_reducible refine(zV (show zY 4=2 from F) 2 F _).mono ?_)|(with_reducible refine(zV (show zY 3=1 from F) 1 F _).mono ?_)|(with_reducible refine(zV (show zY 5=1 from F) 1 F _).mono ?_)|(with_reducible refine(zV (show zY 6=1 from F) 1 F _).mono ?_)
  intro e w' L
  obtain⟨rfl,L⟩:=L
  subst L
  go_wp2_with fail
  have hW:=(D he) _ hn I
  go_call hW as e W1 ⟨g1,c1,rfl,HR1,HB1⟩
  have z1:=HB1.size
  have hM:O w.1<O W1.1:=I
  have hJ:¬ (O w.1)=O W1.1:=I
  have hN:=HR1.lt g1 F
  have hw:=S (hq.y HB1)
  have C:=S (c.trans (HB1.mono c.size))
  obtain⟨p0,p1,p2,p3,_,_⟩:=D hw
  simp only at p0 p1 p2 p3
  have M:=S (zu.nil (w:=W1) (B:=O w.1) I)
 .have s:=S ((HR1.y (@zC W1 (JM #[] 9))).y (@zC _ (JM #[.string t] 9)));go_wp2_with (at_builtin;refine As Z7 underlying63 (.tmp 27) (.tmp 30) F rfl (O w.1) _ 0 (zU []) F (M.y zC) ⟨O W1.1+1,0,JL⟩ 1 1 (zU [t]) F rfl (by have:=Zu (W1.alloc (JM #[] 9)) t;simpa using this) (ZA _) Jm I Jq ?_);intro v4 w4 U P ha hP;have hR:zu w4 (O w.1) v4 [t]:=zu.join (us:=[]) U F;obtain⟨g4,c4,rfl⟩:=hR.has Js;have hX:=S hR;have H:World.grownBy _ w4 (E (O W1.1)):=P;have o:=S (s.grown H (λk hk=>by simp[i8]at hk;intro e;injection e with e;omega));have hu:g4=O W1.1\/O W1.1+2<=g4:=by simp[i8]at hP;omega
  have hZ:=S (GK (((C.alloc C.size (JM #[] 9))).alloc Jq (JM #[.string t] 9)) H (λk hk=>by injection hk with hk;omega) Jq);have z4:=H.size;simp at z4;go_wp2_with (at_builtin;refine As Z7 underlying63 (.tmp 31) (.tmp 32) F rfl (O w.1) _ 1 (zU [t]) F hX ⟨g1,0,JL⟩ (Z w1) c1 (zU w1) F (by simp[zU]) (o.news) (ZA _) Jm I I ?_);intro v5 w5 q K hV y;have d:zu w5 (O w.1) v5 ws:=zu.join (us:=[t]) q a;obtain⟨g5,c5,rfl⟩:=d.has I;have qc:=S d;have H:World.grownBy _ w5 (E g4):=K;have j:=S (GK hZ H (λk hk=>by injection hk with hk;omega) I);go_wp2;go_ret;exact⟨g5,c5,F,qc,j⟩
 .have s:=S ((HR1.y (@zC W1 (JM #[] 9))).y (@zC _ (JM #[.string (⟨#[40]⟩:JZ)] 9)));go_wp2_with (at_builtin;refine As Z7 underlying63 (.tmp 37) (.tmp 38) F rfl (O w.1) _ 0 (zU []) F (M.y zC) ⟨O W1.1+1,0,JL⟩ 1 1 (zU [(⟨#[40]⟩:JZ)]) F rfl (by have:=Zu (W1.alloc (JM #[] 9)) (⟨#[40]⟩:JZ);simpa using this) (ZA _) Jm I Jq ?_);intro v4 w4 U P ha hP;have hR:zu w4 (O w.1) v4 [(⟨#[40]⟩:JZ)]:=zu.join (us:=[]) U F;obtain⟨g4,c4,rfl⟩:=hR.has Js;have hX:=S hR;have H:World.grownBy _ w4 (E (O W1.1)):=P;have o:=S (s.grown H (λk hk=>by simp[i8]at hk;intro e;injection e with e;omega));have hu:g4=O W1.1\/O W1.1+2<=g4:=by simp[i8]at hP;omega
  have hZ:=S (GK (((C.alloc C.size (JM #[] 9))).alloc Jq (JM #[.string (⟨#[40]⟩:JZ)] 9)) H (λk hk=>by injection hk with hk;omega) Jq);have z4:=H.size;simp at z4;go_wp2_with (at_builtin;refine As Z7 underlying63 (.tmp 39) (.tmp 40) F rfl (O w.1) _ 1 (zU [(⟨#[40]⟩:JZ)]) F hX ⟨g1,0,JL⟩ (Z w1) c1 (zU w1) F (by simp[zU]) (o.news) (ZA _) Jm I I ?_);intro v5 w5 q K hV y;obtain⟨x,hU⟩:∃x,Hid (x=[(⟨#[40]⟩:JZ)]++w1):=⟨_,S F⟩;have u:Z x=1+Z w1:=by rw[D hU];simp;omega
  have d:zu w5 (O w.1) v5 x:=zu.join (us:=[(⟨#[40]⟩:JZ)]) q hU;obtain⟨g5,c5,rfl⟩:=d.has I;have qc:=S d;have H:World.grownBy _ w5 (E g4):=K;have j:=S (GK hZ H (λk hk=>by injection hk with hk;omega) I);have hH:=d.lt g5 F;go_wp2_with (at_builtin;refine As Z7 underlying63 (.tmp 41) (.tmp 42) F rfl (O w.1) _ (Z x) (zU x) F (qc.y zC) ⟨O w5.1,0,JL⟩ 1 1 (zU [(⟨#[41]⟩:JZ)]) F rfl (Zu w5 (⟨#[41]⟩:JZ)) (ZA _) Jm I Jq ?_);intro v6 w6 X Q hy hY;have hd:zu w6 (O w.1) v6 ws:=zu.join (us:=x) (vs:=[⟨#[41]⟩]) (by rw[u];exact X) (by rw[D a,D hU];rfl);obtain⟨g6,c6,rfl⟩:=hd.has I;have hS:=S hd;have H:World.grownBy _ w6 (E g5):=Q;have z:=S (GK (j.alloc j.size (JM #[.string (⟨#[41]⟩:JZ)] 9)) H (λk hk=>by injection hk with hk;omega) Jq);go_wp2;go_ret;exact⟨g6,c6,F,hS,z⟩
 all_goals
  have n:=S (HR1.y (@zC W1 (JM #[] 9)))
  have hb:=S (C.alloc C.size (JM #[] 9))
  have qa:(W1.alloc (JM #[] 9)).drew.cell? ⟨O w.1,1,JL⟩=E (.string t):=((@zC W1 (JM #[] 9)).drew.cell (p:=⟨O w.1,1,JL⟩) (I:O w.1<O W1.1)).trans p1
  have qb:((W1.alloc (JM #[] 9)).alloc (JM #[.string t] 9)).drew.cell? ⟨O w.1,1,JL⟩=E (.string t):=(((@zC W1 (JM #[] 9)).alloc Js (JM #[.string t] 9)).drew.cell (p:=⟨O w.1,1,JL⟩) (I:O w.1<O W1.1)).trans p1
  have ra:(W1.alloc (JM #[] 9)).drew.cell? ⟨O w.1,3,JL⟩=E (.int .i64 (jb:Int)):=((@zC W1 (JM #[] 9)).drew.cell (p:=⟨O w.1,3,JL⟩) (I:O w.1<O W1.1)).trans p3
  have rb:((W1.alloc (JM #[] 9)).alloc (JM #[.string t] 9)).drew.cell? ⟨O w.1,3,JL⟩=E (.int .i64 (jb:Int)):=(((@zC W1 (JM #[] 9)).alloc Js (JM #[.string t] 9)).drew.cell (p:=⟨O w.1,3,JL⟩) (I:O w.1<O W1.1)).trans p3
  have hp:=S (hn.y HB1 I)
  have hB:=S (hp.y (B:=O W1.1) (@zC W1 (JM #[] 9)).drew I)
  have h6:=S (hp.y (B:=O W1.1) ((@zC W1 (JM #[] 9)).alloc Js (JM #[.string t] 9)).drew I)
  have xb:((W1.alloc (JM #[] 9)).alloc (JM #[.string t] 9)).drew.cell? ⟨O W1.1+1,0,JL⟩=E (.string t):=Jg
  obtain⟨x,hU⟩:∃x,Hid (x=w1++[t]):=⟨_,S F⟩
  have u:Z x=Z w1+1:=by rw[D hU];simp
  go_wp2_with fail
  go_region_held_law (λw'=>w'.cell? ⟨O w.1,1,JL⟩=E (.string t)) (first|(go_keep;done)|exact q5|exact((@zC w5 _).cell (p:=⟨O w.1,1,JL⟩) (I:O w.1<O w5.1)).trans q5|exact q6)
   (first|(refine De Z7 underlying63 _ _ (by rfl) (by rfl) (O w.1) _ 0 (zU []) (by rfl) (by exact M.y (yN).drew) ⟨g1,0,JL⟩ (Z w1) c1 (zU w1) (by rfl) (by simp[zU]) (by exact(n.y (yN).drew).news) (ZA _) l Jm I Jq _ F ?_;intro g5 c5 w5 q K y hf;have H:World.grownBy _ w5 (E (O W1.1)):=K;have h4:O W1.1<=g5:=(by rcases(show E (O W1.1)=E g5\/_ from y) with h|h;(injection h with h;omega);(rw[h];simp<;>omega));have z5:O W1.1+1<=O w5.1:=(Jz H.size);have r5:=(zJ H (b:=O w.1) Jq Jq 3).trans ra;have R:=S (GG hB H Jq Jq);have q5:=(zJ H (b:=O w.1) Jq Jq 1).trans qa;have hg:=S q;have hh:=S (show w5.ownsRow (O w.1) 9 1 (i6 (E ⟨g5,0,JL⟩) (Z w1) c5) (Z w1) (zU w1) from(by simpa[zU] using q));have j:=S (GK hb.drew H (λk hk=>by injection hk with hk;omega) Jh);clear q K H y)|(refine De Z7 underlying63 _ _ (by rfl) (by rfl) (O w.1) _ 0 (zU []) (by rfl) (by exact((M.y (@zC _ (JM #[.string t] 9))).y (yN).drew)) ⟨g1,0,JL⟩ (Z w1) c1 (zU w1) (by rfl) (by simp[zU]) (by exact((n.y (@zC _ (JM #[.string t] 9))).y (yN).drew).news) (ZA _) l Jm I Jq _ F ?_;intro g5 c5 w5 q K y hf;have H:World.grownBy _ w5 (E (O W1.1)):=K;have h4:O W1.1<=g5:=(by rcases(show E (O W1.1)=E g5\/_ from y) with h|h;(injection h with h;omega);(rw[h];simp<;>omega));have z5:O W1.1+1<=O w5.1:=(Jz H.size);have r5:=(zJ H (b:=O w.1) Jq Jq 3).trans rb;have R:=S (GG h6 H Jq Jq);have q5:=(zJ H (b:=O w.1) Jq Jq 1).trans qb;have hg:=S q;have hh:=S (show w5.ownsRow (O w.1) 9 1 (i6 (E ⟨g5,0,JL⟩) (Z w1) c5) (Z w1) (zU w1) from(by simpa[zU] using q));have j:=S (GK (hb.alloc Jq (JM #[.string t] 9)).drew H (λk hk=>by injection hk with hk;omega) Jh);have x5:=(zJ H (b:=O W1.1+1) Js Js 0).trans xb;clear q K H y)|(refine De Z7 underlying63 _ _ (by rfl) (by rfl) (O w.1) _ (Z w1) (zU w1) (by rfl) (by exact(pX hh (@zC _ (JM #[.string t] 9)))) ⟨O w5.1,0,JL⟩ 1 1 (zU [t]) (by rfl) (by simp[zU]) (by exact(Zu w5 t)) (ZA _) Jd Jm I Jq _ F ?_;intro g6 c6 w6 X Q hY V;have H:World.grownBy _ w6 (E g5):=Q;have hS:=S (show zu w6 (O w.1) (i6 (E ⟨g6,0,JL⟩) (Z x) c6) x from(by have h:=zu.join (us:=w1) (vs:=[t]) X hU;rw[u];exact h));have z:=S (GK (j.alloc j.size (JM #[.string t] 9)) H (λk hk=>by injection hk with hk;omega) Jh);have q6:=(zJ H (b:=O w.1) Jh (by intro e;injection e with e;omega) 1).trans (((@zC w5 (JM #[.string t] 9)).cell (p:=⟨O w.1,1,JL⟩) (I:O w.1<O w5.1)).trans q5);have h7:=V;have r6:=(zJ H (b:=O w.1) Jh (by intro e;injection e with e;omega) 3).trans (((@zC w5 (JM #[.string t] 9)).cell (p:=⟨O w.1,3,JL⟩) (I:O w.1<O w5.1)).trans r5);have hm:=S (GG (R.y (@zC w5 (JM #[.string t] 9)) I) H Jh (by intro e;injection e with e;omega));have hx:O w.1<=g6:=(by rcases(show E g5=E g6\/_ from hY) with h|h;(injection h with h;omega);(rw[h];first|(simp<;>omega)|omega));have z6:O w5.1<=O w6.1:=(by have:=H.size;first|(simp at this;omega)|omega);clear X Q H hY V)|(refine De Z7 underlying63 _ _ (by rfl) (by rfl) (O w.1) _ (0+Z w1) (zU []++zU w1) (by rfl) (by exact hg) ⟨O W1.1+1,0,JL⟩ 1 1 (zU [t]) (by rfl) (by simp[zU]) (by exact(tT x5)) (ZA _) Jd Jm I Jh _ F ?_;intro g6 c6 w6 X Q hY V;have H:World.grownBy _ w6 (E g5):=Q;have hS:=S (show zu w6 (O w.1) (i6 (E ⟨g6,0,JL⟩) (Z x) c6) x from(by rw[u];exact zu.join (us:=w1) (vs:=[t]) (by simpa[zU] using X) hU));have z:=S (GK j H (λk hk=>by injection hk with hk;omega) Jh);have q6:=(zJ H (b:=O w.1) Jh (by intro e;injection e with e;omega) 1).trans q5;have h7:=V;have r6:=(zJ H (b:=O w.1) Jh (by intro e;injection e with e;omega) 3).trans r5;have hm:=S (GG R H Jh (by intro e;injection e with e;omega));have hx:O w.1<=g6:=(by rcases(show E g5=E g6\/_ from hY) with h|h;(injection h with h;omega);(rw[h];first|(simp<;>omega)|omega));have z6:O w5.1<=O w6.1:=(by have:=H.size;first|(simp at this;omega)|omega);clear X Q H hY V))
  all_goals simp only[yc,ya,yb,ye,yh,yg]
  all_goals
   first
    |(
     have _:=f
     have hE:O w.1<O w6.1:=I
     go_wp2_with fail
     have hW:=(D f) _ hm I
     go_call hW as e w7 ⟨g7,c7,rfl,HR7,HB7⟩
     have z7:=HB7.size
     have hK:=HR7.lt g7 F
     have ht:=S (hS.y HB7)
     have h8:=S (z.trans (HB7.mono z.size))
     have hr:=S u
     have hA:=S hs
     have hI:Z w1+1+Z w2<=90000:=I
     go_wp2_with (at_builtin;refine As Z7 underlying63 (.tmp 61) (.tmp 65) F rfl (O w.1) _ (Z w1+1) (zU x) F (by have:=D ht;unfold zu at this;rw[D hr]at this;exact this) ⟨g7,0,JL⟩ (Z w2) c7 (zU w2) F (by simp[zU]) HR7.news (ZA _) Jm I I ?_)
     intro v9 w9 N m hz hC
     have hl:zu w9 (O w.1) v9 ws:=zu.join (us:=x) (vs:=w2) (by rw[D hr];exact N) (by rw[D a,D hU])
     obtain⟨g9,c9,rfl⟩:=hl.has (Jy (D hA))
     have h5:=S hl
     have H:World.grownBy _ w9 (E g6):=m
     have hv:=S (GK h8 H (λk hk=>by injection hk with hk;omega) I)
     go_wp2
     go_ret
     exact⟨g9,c9,F,h5,hv⟩)
    |(
     obtain rfl:ws=x:=by rw[D a,D hU]
     go_wp2
     go_ret
     refine⟨g6,c6,?_,hS,z⟩
     first
      |(
       show i9 (i6 (E ⟨g6,0,JL⟩) (Z w1+1) c6)=_
       rw[u])
      |(
       show i9 (i6 (E ⟨g6,0,JL⟩) (0+Z w1+1) c6)=_
       rw[u,jd]))
def tU(h:zY (b:Int)=1):b=3\/b=5\/b=6:=by
 unfold zY at h;split at h
 .omega
 .split at h
  .omega
  .omega
def tV(h:zY (b:Int)=2):b=4:=by
 unfold zY at h;split at h
 .omega
 .split at h<;>omega
def tW(h:zY (b:Int)=0):b≠3/\b≠4/\b≠5/\b≠6:=by refine⟨?_,?_,?_,?_⟩<;>(rintro rfl;revert h;decide)
def P9{T}(h:Sh T):0<Z (CJ T):=by have:=tP h;unfold CJ;rw[List.length_map];omega
def iZ(g i d)(Q:Z d<=20000):∀(T:ET),Sh T->∀(s:Nat),B1 d T s->s+Ab T<=Z d->L1 g i d (s+Ab T-1) (CJ T):=by
 intro T;induction T with
 |nil=>intro h;exact h.elim
 |node b o t l c ihl ihr=>
  rintro j s ⟨p,u,v⟩ k;have a:=P8 (.node b o t l c);obtain⟨rfl,h⟩:=j;simp only[Ab]at k a;have e:s+Ab (.node b 0 t l c)-1=s+Ab l+Ab c:=by simp only[Ab];omega
  rw[e];have K:∀m n:Nat,(if zY (b:Int)=0 then(0:Int) else((s+Ab l:Nat):Int)-1)=(m:Int)->(if zY (b:Int)=2 then((s+Ab l+Ab c:Nat):Int)-1 else 0)=(n:Int)->Y d (s+Ab l+Ab c)=⟨(b:Int),t,(m:Int),(n:Int)⟩:=λm n w z=>by rw[v,tN,w,z]
  rcases h with⟨f,rfl,rfl⟩|⟨f,H,rfl⟩|⟨f,H,y⟩
  .obtain⟨b3,b4,b5,b6⟩:=tW f;have A:CJ (.node b 0 t .nil .nil)=[t]:=by simp only[CJ,Ak];rw[yS b6,yS b3,yS b5,yS b4];rfl
   exact Og g i _ d (b:Int) t 0 0 _ (by simp only[Ab]at k ⊢;omega) Q (K 0 0 (by rw[yU f];rfl) (by rw[yS I];rfl)) (by simp only[Ab]at a;omega) (yW ⟨f,A⟩)
  .have hp:=H.pos;have x:=P9 H;have q:=ihl H s p I;have X:=K (s+Ab l-1) 0 (by rw[yS I];omega) (by rw[yS I];rfl);rcases tU f with rfl|rfl|rfl
   .exact Og g i _ d 3 t (s+Ab l-1) 0 _ (by simp only[Ab]at k ⊢;omega) Q X I (yX (yW ⟨F,CJ l,x,q,by simp[CJ,Ak]⟩))
   .exact Og g i _ d 5 t (s+Ab l-1) 0 _ (by simp only[Ab]at k ⊢;omega) Q X I (yX (yX (yX (yW ⟨F,CJ l,x,q,by simp[CJ,Ak]⟩))))
   .exact Og g i _ d 6 t (s+Ab l-1) 0 _ (by simp only[Ab]at k ⊢;omega) Q X I (yX (yX (yW ⟨F,CJ l,x,q,by simp[CJ,Ak]⟩)))
  .have hp:=H.pos;have B:=y.pos;obtain rfl:=tV f;exact Og g i _ d 4 t (s+Ab l-1) (s+Ab l+Ab c-1) _ I Q (K _ _ (by rw[yS I];omega) (by rw[yU f];omega)) I (yX (yX (yX (yX ⟨F,CJ l,CJ c,P9 H,P9 y,ihl H s p I,ihr y (s+Ab l) u I,by simp[CJ,Ak]⟩))))
structure BF(c:Jw)(ns:Jf)(e:Nat)(a:Jv)(b:Bool)(d p f:Nat):Prop where
 me:Fm c b d p<=f
 eq:BU c ns 3601 [] Vt 0 e=BU c ns f a b d p
 one:b=Vp->1<=Z a
 nf:Z a+f<=3601
 opn:d<=Z a
def BF.start(a c b)(d:Z a<=1200):BF a c b [] Vt 0 b 3601:=
 ⟨by unfold Fm;simp;omega,F,(λh=>by cases h),Js,yn⟩
def BF.len(h:BF bs ns p0 ws bh op p f):Z ws<=3601/\op<=3601:=by have:=h.nf;have:=h.opn;omega
def BF.fin(h:BF bs ns p0 ws bh op p f)(a:¬ ((Z ws<30/\p<Z bs)\/bh=Vt\/0<op)):BU bs ns 3601 [] Vt 0 p0=(ws,p):=by
 rw[h.eq];cases f with
 |zero=>rfl
 |succ f=>simp only[BU];rw[yU a]
def SG(h:Af bs p≠0):p<Z bs:=by
 by_cases a:p<Z bs
 .exact a
 .exact yV (by simp[Af,a]) h
def BF.go{f:Nat}(h:BF bs ns p0 ws bh op p f){a:Jv}{b:Bool}{c d:Nat}(i:∀f,BU bs ns (f+1) ws bh op p=BU bs ns f a b c d)(l:Fm bs b c d<Fm bs bh op p)(m:Z a<=Z ws+1)(H:c<=Z a)(g:b=Vp->1<=Z a):∃e,e<f/\BF bs ns p0 a b c d e:=by
 have j:=h.me;have k:=h.nf;cases f with
 |zero=>omega
 |succ f=>exact⟨f,I,I,h.eq.trans (i f),g,I,H⟩
def BF.stepA{k:Nat}(h:BF bs ns p0 ws Vt op p f)(d:k=Af bs p)(b:k%8=1)(e:Z ws<30):∃a,a<f/\BF bs ns p0 (ws++[⟨#[40]⟩]) Vt (op+1) (Ac bs p) a:=by
 subst d;have g:p<Z bs:=SG I;have c:Ac bs p=p+1:=by simp[Ac,g]
 have i:=h.opn;refine h.go (λf=>?_) ?_ Js Jq (λh=>by cases h)
 .simp only[BU];rw[yS Js,yU trivial,yU ⟨b,e⟩]
 .unfold Fm;rw[c];simp;omega
def BF.stepB{k:Nat}(h:BF bs ns p0 ws Vt op p f)(g:k=Af bs p)(b:¬ (k%8=1/\Z ws<30))(c:4<k%8)(d:(r ns (k/8%(Z ns))).k=1):∃a,a<f/\BF bs ns p0 (ws++[(r ns (k/8%(Z ns))).s]) Vt op (Ac bs p) a:=by
 subst g;have i:p<Z bs:=SG I;have e:Ac bs p=p+1:=by simp[Ac,i]
 have j:=h.opn;refine h.go (λf=>?_) ?_ Js Jq (λh=>by cases h)
 .simp only[BU];rw[yS Js,yU trivial,yS b,yU ⟨c,d⟩]
 .unfold Fm;rw[e];simp;omega
def BF.stepC{k:Nat}(h:BF bs ns p0 ws Vt op p f)(d:k=Af bs p)(b:¬ (k%8=1/\Z ws<30))(c:¬ (4<k%8/\(r ns (k/8%(Z ns))).k=1)):∃a,a<f/\BF bs ns p0 (ws++[QQ k]) Vp op (Ac bs p) a:=by
 subst d;have e:p<=Ac bs p:=by unfold Ac;split<;>omega
 have g:=h.opn;refine h.go (λf=>?_) ?_ Js Jq (λ_=>Js)
 .simp only[BU];rw[yS Js,yU trivial,yS b,yS c]
 .unfold Fm;simp;omega
def BF.stepD{k:Nat}(h:BF bs ns p0 ws Vp op p f)(d:k=Af bs p)(b:0<op)(c:k%8=0\/30<=Z ws\/Z bs<=Ac bs p):∃a,a<f/\BF bs ns p0 (ws++[⟨#[41]⟩]) Vp (op-1) (Ac bs p) a:=by
 subst d;have e:p<=Ac bs p:=by unfold Ac;split<;>omega
 have g:=h.opn;refine h.go (λf=>?_) ?_ Js Jq (λ_=>Js)
 .simp only[BU];rw[yS (λh=>h (yX (yX b))),yS Js,yU ⟨b,c⟩]
 .unfold Fm;simp;omega
def BF.stepE{k:Nat}(h:BF bs ns p0 ws Vp op p f)(l:k=Af bs p)(i:p<Z bs)(m:Z ws<30)(c:¬ (0<op/\(k%8=0\/30<=Z ws\/Z bs<=Ac bs p))):((r ns (k/8%(Z ns))).k=3->∃a,a<f/\BF bs ns p0 (ws++[(r ns (k/8%(Z ns))).s]) Vp op (Ac bs p) a) /\
  ((r ns (k/8%(Z ns))).k=2->∃a,a<f/\BF bs ns p0 (ws++[(r ns (k/8%(Z ns))).s]) Vt op (Ac bs p) a) /\
  ((r ns (k/8%(Z ns))).k≠3->(r ns (k/8%(Z ns))).k≠2->¬ (Z bs)<=Ac bs p->∃a,a<f/\BF bs ns p0 ws Vp op (Ac bs p) a) /\
  ((r ns (k/8%(Z ns))).k≠3->(r ns (k/8%(Z ns))).k≠2->Z bs<=Ac bs p->BU bs ns 3601 [] Vt 0 p0=(ws,Ac bs p)):=by
 subst l;have g:Ac bs p=p+1:=by simp[Ac,i]
 have n:=h.opn;have j:=h.one F;have H:¬ ¬ ((Z ws<30/\p<Z bs)\/(Vp:Bool)=Vt\/0<op):=λh=>h (yW ⟨m,i⟩)
 have K:=h.me;refine⟨λb=>h.go (λf=>?_) ?_ Js Jq (λ_=>Js),λb=>h.go (λf=>?_) ?_ Js Jq (λh=>by cases h),λb d e=>h.go (λf=>?_) ?_ I I (λ_=>j),λb d e=>?_⟩
 .simp only[BU];rw[yS H,yS Js,yS c,yU b]
 .unfold Fm;rw[g];simp;omega
 .simp only[BU];rw[yS H,yS Js,yS c,yS (by rw[b];decide),yU b]
 .unfold Fm;rw[g];simp;omega
 .simp only[BU];rw[yS H,yS Js,yS c,yS b,yS d,yS e]
 .unfold Fm;rw[g];simp;omega
 .rw[h.eq];cases f with
  |zero=>unfold Fm at K;simp at K;omega
  |succ f=>simp only[BU];rw[yS H,yS Js,yS c,yS b,yS d,yU e]
structure Du(w wr:JY)(d b:Nat)(a:Option Addr)(f:Jw)(i h:Nat)(ns:Jf)(g c:Nat)(e:Jv)(p:Nat):Prop where
 row:zu wr (O w.1) (Ql g (Z e) c) e
 rd:Az wr d a b f p
 kp:zE w wr d
 tb:wr.cell? (J (O w.1) 0)=E (Ql i (Z ns) h)
 gne:O w.1<g
 rpl:d<O w.1
 sz:∀s∈e,s.size<=16
def Du.y{w wr d l b a f j i k g c m p}(h:Du w wr l b a f j i k g c m p)(e:Qb wr d):Du w d l b a f j i k g c m p:=
 ⟨h.row.y e,h.rd.y e,h.kp.trans (zE.Q e),Jc e (jl h.tb) h.tb,h.gne,h.rpl,h.sz⟩
def Du.read{f:Nat}(h:Du w wr rp cap a bs gt ct ns g c ws p)(d:zE wr wr' rp)(i:Az wr' rp a cap bs f):Du w wr' rp cap a bs gt ct ns g c ws f:=by have H:=h.rpl;have j:=h.gne;exact⟨h.row.grown (za d) (λk d e=>by simp[i8]at d;injection e with e;omega),i,h.kp.trans d,(d.cell (b:=O w.1) (jl h.tb) I 0).trans h.tb,h.gne,h.rpl,h.sz⟩
def Du.app{u:JY}{n:Value}(h:Du w d rp cap a bs gt ct ns g c ws p)(z:t.size<=16)(K:u.ownsRow (O w.1) 9 1 n (Z ws+1) (zU ws++zU [t]))(H:(d.alloc (JM #[W t] 9)).grownBy u (E g))(Q:n.ownBlock=E g\/∃k,n.ownBlock=E k/\O w.1<k):∃m o j,j=ws++[t]/\n = Ql m (Z j) o/\Du w u rp cap a bs gt ct ns m o j p:=by
 have f:=h.y (@zC d (JM #[W t] 9));have C:=f.kp.size;have y:zu u (O w.1) n (ws++[t]):=zu.join K F;obtain⟨m,o,rfl⟩:=y.has Js;have q:=h.rpl;have A:=h.gne;have x:O w.1<m:=by
  rcases Q with e|⟨k,e,B⟩
  .simp[i8]at e;omega
  .simp[i8]at e;omega
 refine⟨m,o,ws++[t],F,F,y,f.rd.row H I,⟨H.os.trans f.kp.os,H.tape.trans f.kp.tape,H.output.trans f.kp.output,yy f.kp.size H.size,λi v a=>(H.block i (ym v f.kp.size) (λe=>by injection e with e;omega)).trans (f.kp.block i v a)⟩,?_,x,q,?_⟩
 .exact(zJ H (b:=O w.1) (jl f.tb) (by intro e;injection e with e;omega) 0).trans f.tb
 .intro s l;rcases ju.1 l with l|l
  .exact h.sz s l
  .simp at l;subst l;exact z
def tX(o){u0 u1 u2 u3}(c:d.cell? (J b 0)=E u0)(f:d.cell? (J b 1)=E u1)(g:d.cell? (J b 2)=E u2)(k:d.cell? (J b 3)=E u3):A4 ((((d.setCell (J b 0) (W o.s)).setCell (J b 1) (G o.k)).setCell (J b 2) (G o.l)).setCell (J b 3) (G o.sd)).drew b o:=by
 refine A4.y (w:=(((d.setCell (J b 0) (W o.s)).setCell (J b 1) (G o.k)).setCell (J b 2) (G o.l)).setCell (J b 3) (G o.sd)) ?_ (yN).drew;have a:∀(i j:Nat)(v:Value)(X:JY),i≠j->(X.setCell (J b i) v).cell? (J b j)=X.cell? (J b j):=λi j v X h=>yj _ _ _ _ (λe=>h (by injection e with _ e))
 have l:=yu d (J b 0) (W o.s) c;have m:=yu (d.setCell (J b 0) (W o.s)) (J b 1) (G o.k) ((a 0 1 _ _ Jd).trans f);have n:=yu ((d.setCell (J b 0) (W o.s)).setCell (J b 1) (G o.k)) (J b 2) (G o.l) ((a 1 2 _ _ Jd).trans ((a 0 2 _ _ Jd).trans g));have p:=yu (((d.setCell (J b 0) (W o.s)).setCell (J b 1) (G o.k)).setCell (J b 2) (G o.l)) (J b 3) (G o.sd) ((a 2 3 _ _ Jd).trans ((a 1 3 _ _ Jd).trans ((a 0 3 _ _ Jd).trans k)));exact⟨(a 3 0 _ _ Jd).trans ((a 2 0 _ _ Jd).trans ((a 1 0 _ _ Jd).trans l)),(a 3 1 _ _ Jd).trans ((a 2 1 _ _ Jd).trans m),(a 3 2 _ _ Jd).trans n,p⟩
def nI(h:Below B w d)(a:B<=b)(c e f g):Below B w ((((d.setCell (J b 0) c).setCell (J b 1) e).setCell (J b 2) f).setCell (J b 3) g).drew:=
 ((((h.setCell a c).setCell a e).setCell a f).setCell a g).drew
def zZZ(w):∃d,d=w.alloc (JM #[W ⟨#[]⟩,G 0,G 0,G 0] 25)/\Qb w d/\(d.cell? (J (O w.1) 0)=E (W ⟨#[]⟩)/\d.cell? (J (O w.1) 1)=E (G 0)/\d.cell? (J (O w.1) 2)=E (G 0)/\d.cell? (J (O w.1) 3)=E (G 0)) /\
  d.frozen? (J (O w.1) 0)=Vt/\d.frozen? (J (O w.1) 1)=Vt/\d.frozen? (J (O w.1) 2)=Vt/\d.frozen? (J (O w.1) 3)=Vt:=
 ⟨_,F,zC,⟨Jg,Jg,Jg,Jg⟩,Jg,Jg,Jg,Jg⟩
def zbC(k n:Nat)(a:k<256)(b:n≠0):∃m,m=k/8%n/\m<n/\((k:Int)/8%(n:Int)=m)/\((m:Int)<n)/\((0:Int)<=m)/\(IntKind.i64.wrap ((k:Int)/8)=(k:Int)/8)/\(((n:Int)==0)=Vt)/\(((k:Int)/8).tmod (n:Int)=m)/\(0:Int)<n:=by have h:=Nat.mod_lt (k/8) (I:0<n);refine⟨_,F,h,Js,I,I,Go.IntWalk.i64_in _ I,jc.2 I,?_,I⟩;rw[yA I];simp
def GR{m:Array Oper}{k:List Oper}{o:Oper}{b:Act}{Q:Exit->Act->World->Prop}(j:o.guard=JL)(s x:Operand)(C:o.op=.call { callee:=.builtin .append,args:=#[s,x],argTypes:=#[63,63] })(L:b.eval s = Ql g (Z ws) c)(h:Du w d rp cap a bs gt ct ns g c ws p)(B:Nat)(y:O d.1=B)(hx:b.eval x = Ql B 1 1)(M:t.size<=16)(N:Z ws<=90000)(l:∀z n H A,H=ws++[t]->Du w A rp cap a bs gt ct ns z n H p->wpList Vb m Q k (b.put o.dst (Ql z (Z H) n)) A):wpList Vb m Q (o::k) b (d.alloc (JM #[W t] 9)):=by obtain⟨R,u,U,V,v⟩:=Ic Z7;subst y;refine As Z7 underlying63 s x j C (O w.1) _ (Z ws) (zU ws) L (h.y zC).row (J (O d.1) 0) 1 1 (zU [t]) hx F (Zu d t) (ZA _) Jm I (by have:=h.kp.size;simp;omega) ?_;intro T A q K P X;obtain⟨z,n,H,f,rfl,i⟩:=h.app M q K (X.imp id (λe=>⟨_,e,by have:O w.1<O d.1:=jl h.tb;simp;omega⟩));exact l z n H A f i
def Tt(w h d a i)(b:List ByteArray->Nat->Prop)(e f):=
 ∃(g c q:Nat)(ws:Jv),e=i9 (Ql g (Z ws) c)/\Hid (zu f (O w.1) (Ql g (Z ws) c) ws)/\1<=Z ws/\Z ws<=4000/\Hid (∀s∈ws,s.size<=16)/\Hid (b ws q)/\Hid (Az f h a d i q)/\Hid (zE w f h)
def Du.post{b:Jv}(h:Du w d rp cap a bs gt ct ns g c b p)(e:1<=Z b)(i:Z b<=3601)(f:BU bs ns 3601 [] Vt 0 p0=(b,p)):Tt w rp cap a bs (λb q=>BU bs ns 3601 [] Vt 0 p0=(b,q)) (i9 (Ql g (Z b) c)) d:=
 ⟨g,c,p,b,F,S h.row,e,I,S h.sz,S f,S h.rd,S h.kp⟩
def nJ(rp cap p gt ct a bs ns w)(h:Az w rp a cap bs p)(hl:Z bs<=1200)(h7:Z ns<=100000)(ht:Au w gt 0 ns)(hx:gt<O w.1)(ho:gt≠rp)(hs:∀i,(r ns i).s.size<=16):Calls Vb 92 #[Qp rp,.agg #[Ql gt (Z ns) ct]] w (Tt w rp cap a bs (λws q=>BU bs ns 3601 [] Vt 0 p=(ws,q))):=by
 have hr:=h.lt;have H:=S h;have hu:=S hs;clear h hs;go_enter func92,ntmps92;go_wp2_with fail;have hd:=S (show Du w ((w.alloc (JM #[Ql gt (Z ns) ct] 45)).alloc (JM #[] 9)) rp cap a bs gt ct ns (O w.1+1) 0 [] p from by
  have hb:Below (O w.1) w ((w.alloc (JM #[Ql gt (Z ns) ct] 45)).alloc (JM #[] 9)):=(zC).alloc Js _
  refine⟨?_,H.y hb,zE.Q hb,Jg,I,hr,λs hs=>by simp at hs⟩
  have:=zu.nil (w:=w.alloc (JM #[Ql gt (Z ns) ct] 45)) (B:=O w.1) Js
  simpa using this)
 go_loopg [5,6,7] (3601) (λk ov bv nv wr=>∃(g c:Nat)(ws:Jv)(bh:Bool)(op q:Nat),ov = Ql g (Z ws) c/\bv=.bool bh/\nv=G op/\Hid (Du w wr rp cap a bs gt ct ns g c ws q)/\Hid (BF bs ns p ws bh op q k));case atStart=>exact⟨O w.1+1,0,[],Vt,0,p,F,F,F,hd,S (BF.start bs ns p hl)⟩
 case round=>
  clear H hd;obtain⟨g,c,ws,bh,op,q,rfl,rfl,rfl,HS,HP⟩:=hrel;obtain⟨N,h4⟩:=HP.len;obtain⟨L,HL⟩:∃L,Hid (L=Z bs-q):=⟨_,S F⟩;have h9:=HS.kp.size;have h8:=HS.rd.le;go_upto_region 4 with fail
  go_cut [26] from 11 to 121 (λs26 wc=>∃bC:Bool,s26=.bool bC/\Hid (bC=decide ((Z ws<30/\q<Z bs)\/bh=Vt\/0<op))/\Hid (Du w wc rp cap a bs gt ct ns g c ws q));case first=>
   cases bh with
   |false=>
    by_cases hn:Z ws<30
    .have hF:(Z ws:Int)<30:=I;have V:=S (MC rp cap q a bs _ HS.rd hl);rw[<-D HL]at V;go_wp2_with fail;go_call D V as e w2 ⟨rfl,H2,hb2⟩;have v:=S (HS.y hb2);clear V H2 hb2;by_cases hL:L=0
     .have hP:¬ (0:Int)<L:=I;go_wp2;go_meet;case rel=>exact⟨_,F,S (by have:=D HL;simp<;>omega),v⟩
     .have hP:(0:Int)<L:=I;go_wp2;go_meet;case rel=>exact⟨_,F,S (by have:=D HL;simp<;>omega),v⟩
    .have hF:¬ (Z ws:Int)<30:=I;have v:=HS;go_wp2;go_meet;case rel=>exact⟨_,F,S (by have:=D HL;simp<;>omega),v⟩
   |true=>
    by_cases hn:Z ws<30
    .have hF:(Z ws:Int)<30:=I;have V:=S (MC rp cap q a bs _ HS.rd hl);rw[<-D HL]at V;go_wp2_with fail;go_call D V as e w2 ⟨rfl,H2,hb2⟩;have v:=S (HS.y hb2);clear V H2 hb2;by_cases hL:L=0
     .have hP:¬ (0:Int)<L:=I;by_cases M:0<op
      .have b:(0:Int)<op:=I;go_wp2;go_meet;case rel=>exact⟨_,F,S (by have:=D HL;simp<;>omega),v⟩
      .have b:¬ (0:Int)<op:=I;go_wp2;go_meet;case rel=>exact⟨_,F,S (by have:=D HL;simp<;>omega),v⟩
     .have hP:(0:Int)<L:=I;go_wp2;go_meet;case rel=>exact⟨_,F,S (by have:=D HL;simp<;>omega),v⟩
    .have hF:¬ (Z ws:Int)<30:=I;have v:=HS;by_cases M:0<op
     .have b:(0:Int)<op:=I;go_wp2;go_meet;case rel=>exact⟨_,F,S (by have:=D HL;simp<;>omega),v⟩
     .have b:¬ (0:Int)<op:=I;go_wp2;go_meet;case rel=>exact⟨_,F,S (by have:=D HL;simp<;>omega),v⟩
  case rest=>
   obtain⟨bC,rfl,HC,v⟩:=hcut;cases bC with
   |false=>
    have hD:=D HC;rw[eq_comm,yZ]at hD;have hb:bh=Vp:=by cases bh;exact yV (yX (yW F)) hD;rfl
    subst hb;have h1:=HP.one F;have HF:=S (HP.fin hD);clear HC hD;go_wp2;go_ret;exact v.post h1 N HF
   |true=>
    go_wp2_with fail;go_call EX rp cap q a bs _ (D v).rd hl as e w3 ⟨⟨k,rfl,hk,HK⟩,H3,HP3⟩;have l:=S (v.read HP3 H3);have tb3:=l.tb;have z3:=l.kp.size;have hi:O w.1<O w3.1:=jl tb3;have h5:¬ (O w.1)=O w3.1:=I;have h6:¬ (O w3.1)=O w.1:=I;clear v H3 HP3;go_upto_if 33 with fail
    go_cut [9] from 11 to 121 (λs9 wc=>∃o:Ad,s9 = Qp (O w3.1)/\Hid (o=r ns (k/8%(Z ns)))/\Hid (A4 wc (O w3.1) o)/\Hid (Du w wc rp cap a bs gt ct ns g c ws (Ac bs q)));case first=>
     by_cases h0:Z ns=0
     .have e0:¬ (0:Int)<Z ns:=I;have Q:=S (l.y (@zC w3 (JM #[W ⟨#[]⟩,G 0,G 0,G 0] 25)));have hH:=S (by rw[jg.1 h0];rfl:Ad.zero=r ns (k/8%(Z ns)));clear l h0;go_wp2;go_meet;case rel=>exact⟨Ad.zero,F,hH,S ⟨by simp[go_sem,Ad.zero],by simp[go_sem,Ad.zero],by simp[go_sem,Ad.zero],by simp[go_sem,Ad.zero]⟩,Q⟩
     .obtain⟨m,hg,hv,e4,e5,e6,e7,e9,e10,e0⟩:=zbC k (Z ns) hk h0;have he:gt<O w3.1:=I;obtain⟨W4,ha,hI,⟨x0,x1,x2,x3⟩,y0,y1,y2,y3⟩:=zZZ w3;have hp:=S ((l.kp.ops ht hx ho).y hI he);obtain⟨b0,b1,b2,b3⟩:=(D hp) m hv;simp only[jd]at b0 b1 b2 b3;obtain⟨o,hJ⟩:=Jx (r ns m);rw[<-hJ]at b0 b1 b2 b3;have nn3:¬ gt=O w3.1:=I;have nn2:¬ (O w3.1)=gt:=I;go_wp2_with fail;have tb4:=Jc hI hi tb3;rw[<-ha];have hH:=S (by rw[hJ,hg]:o=r ns (k/8%(Z ns)));clear ha tb3 hJ hg;go_region_held3 (λhK=>hK.cell? (J (O w.1) 0)=E (Ql gt (Z ns) ct)/\hK.cell? (J gt (m*4))=E (W o.s)/\hK.cell? (J gt (m*4+1))=E (G o.k)/\hK.cell? (J gt (m*4+2))=E (G o.l)/\hK.cell? (J gt (m*4+3))=E (G o.sd)) (go_keep) (fail);obtain⟨W5,n⟩:=Jx (((((W4.setCell (J (O w3.1) 0) (W o.s)).setCell (J (O w3.1) 1) (G o.k)).setCell (J (O w3.1) 2) (G o.l)).setCell (J (O w3.1) 3) (G o.sd)).drew);rw[<-n];have f:=S (by rw[n];exact tX o x0 x1 x2 x3:A4 W5 (O w3.1) o);have Q:=S (l.y (by rw[n];exact nI hI yk _ _ _ _:Below (O w3.1) w3 W5));clear n;go_wp2;go_meet;case rel=>exact⟨o,F,hH,f,Q⟩
    case rest=>
     obtain⟨o,rfl,hH,f,Q⟩:=hcut;rename World=>W5
     have hG:o.s.size<=16:=by rw[D hH];exact hu _
     obtain⟨q0,q1,q2,q3⟩:=D f;cases bh with
     |false=>
      by_cases h1:k%8=1/\Z ws<30
      .obtain⟨hf,hn⟩:=h1;have e81:((k:Int)%8==1)=Vp:=Jq;have hF:(Z ws:Int)<30:=I;go_wp2_with (at_builtin;refine GR (t:=⟨#[40]⟩) F (.tmp 54) (.tmp 55) F rfl Q (O W5.1) F rfl Jd I ?next);case next=>
        intro g6 c6 X w6 x y;obtain⟨f6,hN,K⟩:=HP.stepA HK hf hn;rw[show _=X from x.symm]at K;have P:=S y;have j:=S K;clear y K x Q;go_wp2_with fail;go_roundg f6;case measure=>exact hN
        case rel=>exact⟨g6,c6,X,Vt,op+1,Ac bs q,F,F,(by first|rfl|(congr 1;omega)),P,j⟩
      .have hA:=h1;by_cases h2:4<k%8/\o.k=1
       .obtain⟨hO,hh⟩:=h2;have e81:((k:Int)%8==1)=Vt:=Jq;have e84:(4:Int)<k%8:=I;have eo1:(o.k==1)=Vp:=by simp[hh]
        go_wp2_with (at_builtin;refine GR (t:=o.s) F (.tmp 67) (.tmp 70) F rfl Q (O W5.1) F rfl (hG) I ?next);case next=>
         intro g6 c6 X w6 x y;obtain⟨f6,hN,K⟩:=HP.stepB HK hA hO (by rw[<-D hH];exact hh);rw[<-D hH]at K;rw[show _=X from x.symm]at K;have P:=S y;have j:=S K;clear y K x Q;go_wp2_with fail;go_roundg f6;case measure=>exact hN
         case rel=>exact⟨g6,c6,X,Vt,op,Ac bs q,F,F,(by first|rfl|(congr 1;omega)),P,j⟩
       .have hB:¬ (4<k%8/\(r ns (k/8%(Z ns))).k=1):=by rw[<-D hH];exact h2
        by_cases hf:k%8=1;case' pos=>
         have e81:((k:Int)%8==1)=Vp:=Jq;have hF:¬ (Z ws:Int)<30:=I;have e84:¬ (4:Int)<k%8:=I
        case' neg=>
         have e81:((k:Int)%8==1)=Vt:=Jq;by_cases hO:4<k%8;case' pos=>
          have e84:(4:Int)<k%8:=I;have eo1:(o.k==1)=Vt:=Jq
         case' neg=>have e84:¬ (4:Int)<k%8:=I
        all_goals
         have i1:(0:Int)<=k/8%4:=I
         have i2:(k:Int)/8%4<=3:=I
         go_wp2_with (at_builtin;refine GR (t:=(⟨#[97]⟩:JZ)++(⟨#[49,50,51]⟩:JZ).extract 0 (k/8%4)) F (.tmp 72) (.tmp 78) F rfl Q (O W5.1) F rfl (by rw[ByteArray.size_append,yC];show 1+_<=16;have:(⟨#[49,50,51]⟩:JZ).size=3:=F;omega) I ?next)
         case next=>
          intro g6 c6 X w6 x y;obtain⟨f6,hN,K⟩:=HP.stepC HK hA hB;rw[show ws++[QQ k]=X from x.symm]at K;have P:=S y;have j:=S K;clear y K x Q;go_wp2_with fail;go_roundg f6;case measure=>exact hN
          case rel=>exact⟨g6,c6,X,Vp,op,Ac bs q,F,F,(by first|rfl|(congr 1;omega)),P,j⟩
     |true=>
      by_cases M:0<op
      .have b:(0:Int)<op:=I;by_cases hm:k%8=0
       .have e80:((k:Int)%8==0)=Vp:=Jq;go_wp2_with (at_builtin;refine GR (t:=⟨#[41]⟩) F (.tmp 97) (.tmp 98) F rfl Q (O W5.1) F rfl Jd I ?next);case next=>
         intro g6 c6 X w6 x y;obtain⟨f6,hN,K⟩:=HP.stepD HK M (yW hm);rw[show _=X from x.symm]at K;have P:=S y;have j:=S K;clear y K x Q;go_wp2_with fail;go_roundg f6;case measure=>exact hN
         case rel=>exact⟨g6,c6,X,Vp,op-1,Ac bs q,F,F,(by first|rfl|(congr 1;omega)),P,j⟩
       .have e80:((k:Int)%8==0)=Vt:=Jq;by_cases hn:Z ws<30
        .have T:¬ (30:Int)<=Z ws:=I;have hq:q<Z bs:=SG (by rw[<-D HK];omega);have V:=S (MC rp cap (Ac bs q) a bs _ Q.rd hl);obtain⟨LM,R⟩:∃LM,Hid (LM=Z bs-Ac bs q):=⟨_,S F⟩;rw[<-D R]at V;go_wp2_with fail;go_call D V as e w5 ⟨rfl,H5,hb5⟩;have hc:=S (Q.y hb5);have hy:=S (f.y hb5);clear V H5 q0 q1 q2 q3 Q f hb5;obtain⟨q0,q1,q2,q3⟩:=D hy;have Q:=hc;clear hc;rename World=>W5
         by_cases hM:LM=0
         .have hw:((LM:Nat):Int)<=0:=I;go_wp2_with (at_builtin;refine GR (t:=⟨#[41]⟩) F (.tmp 97) (.tmp 98) F rfl Q (O W5.1) F rfl Jd I ?next);case next=>
           intro g6 c6 X w6 x y;obtain⟨f6,hN,K⟩:=HP.stepD HK M (yX (yX (Jy (D R))));rw[show _=X from x.symm]at K;have P:=S y;have j:=S K;clear y K x Q;go_wp2_with fail;go_roundg f6;case measure=>exact hN
           case rel=>exact⟨g6,c6,X,Vp,op-1,Ac bs q,F,F,(by first|rfl|(congr 1;omega)),P,j⟩
         .have hw:¬ ((LM:Nat):Int)<=0:=I;have hE:¬ (0<op/\(k%8=0\/30<=Z ws\/Z bs<=Ac bs q)):=Jy (D R)
          by_cases U:o.k=3
          .have eo3:(o.k==3)=Vp:=by simp[U]
           go_wp2_with (at_builtin;refine GR (t:=o.s) F (.tmp 105) (.tmp 108) F rfl Q (O W5.1) F rfl (hG) I ?next);case next=>
            intro g6 c6 X w6 x y;obtain⟨f6,hN,K⟩:=(HP.stepE HK hq hn hE).1 (by rw[<-D hH];exact U);rw[<-D hH]at K;rw[show _=X from x.symm]at K;have P:=S y;have j:=S K;clear y K x Q;go_wp2_with fail;go_roundg f6;case measure=>exact hN
            case rel=>exact⟨g6,c6,X,Vp,op,Ac bs q,F,F,(by first|rfl|(congr 1;omega)),P,j⟩
          .have eo3:(o.k==3)=Vt:=by simp[U]
           by_cases u:o.k=2
           .have eo2:(o.k==2)=Vp:=by simp[u]
            go_wp2_with (at_builtin;refine GR (t:=o.s) F (.tmp 113) (.tmp 116) F rfl Q (O W5.1) F rfl (hG) I ?next);case next=>
             intro g6 c6 X w6 x y;obtain⟨f6,hN,K⟩:=(HP.stepE HK hq hn hE).2.1 (by rw[<-D hH];exact u);rw[<-D hH]at K;rw[show _=X from x.symm]at K;have P:=S y;have j:=S K;clear y K x Q;go_wp2_with fail;go_roundg f6;case measure=>exact hN
             case rel=>exact⟨g6,c6,X,Vt,op,Ac bs q,F,F,(by first|rfl|(congr 1;omega)),P,j⟩
           .have eo2:(o.k==2)=Vt:=by simp[u]
            have C:=S (MC rp cap (Ac bs q) a bs _ Q.rd hl);obtain⟨L2,d⟩:∃L2,Hid (L2=Z bs-Ac bs q):=⟨_,S F⟩;rw[<-D d]at C;go_wp2_with fail;go_call D C as e w8 ⟨rfl,H8,hb8⟩;have hC:=S (Q.y hb8);clear C H8 Q hb8;have A:=(HP.stepE HK hq hn hE).2.2;have h3:(r ns (k/8%(Z ns))).k≠3:=by rw[<-D hH];exact U
            have h2:(r ns (k/8%(Z ns))).k≠2:=by rw[<-D hH];exact u
            by_cases hj:L2=0
            .have z:((L2:Nat):Int)<=0:=I;have HF:=S (A.2 h3 h2 (Jy (D d)));have h1:=HP.one F;clear A h3 h2;go_wp2;go_ret;exact hC.post h1 N HF
            .have z:¬ ((L2:Nat):Int)<=0:=I;obtain⟨f6,hN,K⟩:=A.1 h3 h2 (Jy (D d));have j:=S K;clear K A h3 h2;go_wp2_with fail;go_roundg f6;case measure=>exact hN
             case rel=>exact⟨g,c,ws,Vp,op,Ac bs q,F,F,F,hC,j⟩
        .have T:(30:Int)<=Z ws:=I;go_wp2_with (at_builtin;refine GR (t:=⟨#[41]⟩) F (.tmp 97) (.tmp 98) F rfl Q (O W5.1) F rfl Jd I ?next);case next=>
          intro g6 c6 X w6 x y;obtain⟨f6,hN,K⟩:=HP.stepD HK M (yX (yW I));rw[show _=X from x.symm]at K;have P:=S y;have j:=S K;clear y K x Q;go_wp2_with fail;go_roundg f6;case measure=>exact hN
          case rel=>exact⟨g6,c6,X,Vp,op-1,Ac bs q,F,F,(by first|rfl|(congr 1;omega)),P,j⟩
      .have b:¬ (0:Int)<op:=I;have hz:Z ws<30/\q<Z bs:=by
        have hD:=D HC;rw[eq_comm,decide_eq_true_iff]at hD;rcases hD with h|h|h
        .exact h
        .cases h
        .omega
       obtain⟨hn,hq⟩:=hz;have hE:¬ (0<op/\(k%8=0\/30<=Z ws\/Z bs<=Ac bs q)):=I;by_cases U:o.k=3
       .have eo3:(o.k==3)=Vp:=by simp[U]
        go_wp2_with (at_builtin;refine GR (t:=o.s) F (.tmp 105) (.tmp 108) F rfl Q (O W5.1) F rfl (hG) I ?next);case next=>
         intro g6 c6 X w6 x y;obtain⟨f6,hN,K⟩:=(HP.stepE HK hq hn hE).1 (by rw[<-D hH];exact U);rw[<-D hH]at K;rw[show _=X from x.symm]at K;have P:=S y;have j:=S K;clear y K x Q;go_wp2_with fail;go_roundg f6;case measure=>exact hN
         case rel=>exact⟨g6,c6,X,Vp,op,Ac bs q,F,F,(by first|rfl|(congr 1;omega)),P,j⟩
       .have eo3:(o.k==3)=Vt:=by simp[U]
        by_cases u:o.k=2
        .have eo2:(o.k==2)=Vp:=by simp[u]
         go_wp2_with (at_builtin;refine GR (t:=o.s) F (.tmp 113) (.tmp 116) F rfl Q (O W5.1) F rfl (hG) I ?next);case next=>
          intro g6 c6 X w6 x y;obtain⟨f6,hN,K⟩:=(HP.stepE HK hq hn hE).2.1 (by rw[<-D hH];exact u);rw[<-D hH]at K;rw[show _=X from x.symm]at K;have P:=S y;have j:=S K;clear y K x Q;go_wp2_with fail;go_roundg f6;case measure=>exact hN
          case rel=>exact⟨g6,c6,X,Vt,op,Ac bs q,F,F,(by first|rfl|(congr 1;omega)),P,j⟩
        .have eo2:(o.k==2)=Vt:=by simp[u]
         have C:=S (MC rp cap (Ac bs q) a bs _ Q.rd hl);obtain⟨L2,d⟩:∃L2,Hid (L2=Z bs-Ac bs q):=⟨_,S F⟩;rw[<-D d]at C;go_wp2_with fail;go_call D C as e w8 ⟨rfl,H8,hb8⟩;have hC:=S (Q.y hb8);clear C H8 Q hb8;have A:=(HP.stepE HK hq hn hE).2.2;have h3:(r ns (k/8%(Z ns))).k≠3:=by rw[<-D hH];exact U
         have h2:(r ns (k/8%(Z ns))).k≠2:=by rw[<-D hH];exact u
         by_cases hj:L2=0
         .have z:((L2:Nat):Int)<=0:=I;have HF:=S (A.2 h3 h2 (Jy (D d)));have h1:=HP.one F;clear A h3 h2;go_wp2;go_ret;exact hC.post h1 N HF
         .have z:¬ ((L2:Nat):Int)<=0:=I;obtain⟨f6,hN,K⟩:=A.1 h3 h2 (Jy (D d));have j:=S K;clear K A h3 h2;go_wp2_with fail;go_roundg f6;case measure=>exact hN
          case rel=>exact⟨g,c,ws,Vp,op,Ac bs q,F,F,F,hC,j⟩
def zu.low{b}(h:zu w B v us)(f:b<=B):zu w b v us:=by
 obtain⟨c,a|⟨g,cap,H,a,d,e⟩⟩:=h
 .exact⟨c,yW a⟩
 .exact⟨c,yX ⟨g,cap,H,a,yy f d,e⟩⟩
def zE.k2{c}(h:zE w d rp)(b:K2 d c rp g)(f:O w.1<=g):zE w c rp:=
 ⟨b.os.trans h.os,b.tape.trans h.tape,b.output.trans h.output,yy h.size b.size,λi e a=>(b.block i (ym e h.size) a I).trans (h.block i e a)⟩
def OR(a d c b):=Z b=0\/∃g,c=E (J g 0)/\d<g/\ZD a g b (Z b)
def ZS.grR{b a}(h:ZS w n b a)(i:rp<n)(f:∀g,n<=g->ZD w g a (Z a)->ZD d g a (Z a)):OR d rp b a:=by
 rcases h with⟨h,_⟩|⟨g,rfl,e,c⟩
 .exact yW h
 .exact yX ⟨g,F,I,f g e c⟩
def zZa(a b p):1<=(EA a b p).2.length/\(EA a b p).2.length<=127:=by
 have h:=NY a b Vt (2+Af a p%5) (Ac a p) [];have H:(2:Nat) ^ (2+Af a p%5+1)<=128:=Jy (Nat.pow_le_pow_right (Jd:0<2) (I:2+Af a p%5+1<=7))
 simp only[je]at h;unfold EA;omega
def zbD{b}(h:∀i,(r b i).s.size<=16)(a p):∀o∈(EA a b p).2,o.t.size<=16:=SS h a Vt _ _ [] (λo c=>by simp at c)
def Ew(w g a):=g<O w.1/\Au w g 0 a
def Ew.lt1(h:Ew w g ns):g<O w.1:=h.1
def Ew.ops(h:Ew w g ns):Au w g 0 ns:=h.2
def Ew.y{w c g B b}(h:Ew w g b)(a:Below B w c)(d:g<B):Ew c g b:=⟨ym h.1 a.size,h.2.y a d⟩
def BY.tabO(h:BY w g ns (Z ns)):Ew w g ns:=⟨h.lt1,h.ops⟩
def zE.tabO(h:zE w w' rp)(a:Ew w g ns)(H:g≠rp):Ew w' g ns:=⟨ym a.1 h.size,h.ops a.2 a.1 H⟩
def dP(rp cap p gt ct a bs ns w)(h:Az w rp a cap bs p)(hl:Z bs<=1200)(hD:Z ns<=500)(ht:Ew w gt ns)(hP:gt≠rp)(hs:∀i,(r ns i).s.size<=16)(hm:∀j,j<Z ns->0<=(r ns j).k/\(r ns j).k<=9):Calls Vb 53 #[.pointer (E ⟨rp,0,JL⟩),.agg #[.slice (E ⟨gt,0,JL⟩) (Z ns) ct]] w (Tt w rp cap a bs (λws q=>M7 bs ns p ws q)):=by
 have hH:=h.lt;have hI:=ht.lt1;have H:=S h;have HT:=S ht;have hR:=S hs;have hj:=S hm;clear h ht hs hm;go_enter func53,ntmps53;go_wp2_with fail;have n:=S (@zC w (JM #[.slice (E ⟨gt,0,JL⟩) (Z ns) ct] 45));go_call EX rp cap p a bs _ ((D H).y (D n)) hl as e w1 ⟨⟨k,rfl,hk,HK⟩,H1,HP1⟩;have z1:O w.1+1<=O w1.1:=by have:=HP1.size;simpa using this
 have tb1:w1.cell? ⟨O w.1,0,JL⟩=E (i6 (E ⟨gt,0,JL⟩) (Z ns) ct):=(HP1.cell (b:=O w.1) Js I 0).trans Jg;have hO:=S ((zE.Q (g:=rp) n).trans HP1);have hU:=S (hO.tabO HT hP);clear H n HP1 HT;by_cases hQ:k%4=3
 .have e3:((k:Int)%4==3)=Vp:=Jq;have HX:=S (nJ rp cap (Ac bs p) gt ct a bs ns w1 H1 hl I hU.ops hU.lt1 hP hR);go_wp2_with fail;go_call D HX as e w2 ⟨g,c,q,ws,rfl,HR,h1,h2,HS,HD,H2,HP2⟩;clear HX;go_wp2;go_ret;refine⟨g,c,q,ws,F,S ?_,h1,h2,HS,S (yW ⟨by rw[<-D HK];exact hQ,HD⟩),H2,S (hO.trans HP2)⟩;exact zu.low HR I
 .have e3:((k:Int)%4==3)=Vt:=Jq;obtain⟨y,HY⟩:∃y,Hid (EA bs ns (Ac bs p)=y):=⟨_,S F⟩;have R:=zZa bs ns (Ac bs p);have hK:=S (zbD hR bs (Ac bs p));rw[D HY]at R hK;obtain⟨y1,xs⟩:=y;simp only at R hK;obtain⟨h7,t⟩:=R;have L:=S (hU.y (@yN (O w1.1) w1).drew hU.lt1);have hN:=S (hU.y (@zC w1 (JM #[Jl] 40)).drew hU.lt1);have z:=S (TZ rp cap (Ac bs p) gt ct a bs ns Vt w1.drew (H1.y (yN).drew) hl I hj L.ops L.lt1 hP);have l:=S (TZ rp cap (Ac bs p) gt ct a bs ns Vt (w1.alloc (JM #[Jl] 40)).drew (H1.y (@zC w1 (JM #[Jl] 40)).drew) hl I hj hN.ops hN.lt1 hP);have P:Hid (AP bs ns Vt (2+Af bs (Ac bs p)%5) (Ac bs (Ac bs p)) []=(y1,xs)):=D HY;rw[D P]at z l;simp only at z l;have hu:=S (hO.trans (zE.Q (g:=rp) (@yN (O w1.1) w1).drew));have hr:=S (hO.trans (zE.Q (g:=rp) (@zC w1 (JM #[Jl] 40)).drew));have tA:w1.drew.cell? ⟨O w.1,0,JL⟩=E (i6 (E ⟨gt,0,JL⟩) (Z ns) ct):=tb1;have tB:(w1.alloc (JM #[Jl] 40)).drew.cell? ⟨O w.1,0,JL⟩=E (i6 (E ⟨gt,0,JL⟩) (Z ns) ct):=((@zC w1 (JM #[Jl] 40)).drew.cell (p:=⟨O w.1,0,JL⟩) (I:O w.1<O w1.1)).trans tb1;have xB:(w1.alloc (JM #[Jl] 40)).drew.cell? ⟨O w1.1,0,JL⟩=E Jl:=Jg;have fB:(w1.alloc (JM #[Jl] 40)).drew.frozen? ⟨O w1.1,0,JL⟩=Vt:=Jg;have hc:Hid (ZO ns):=λi _=>by have:=(D hR) i;unfold maxLen;omega
  have hb:=S (show C5 xs from λi hi=>by
   have:=(D hK) (Y xs i) (by unfold Y;rw[yq,yt hi];exact List.getElem_mem hi)
   unfold maxLen;omega)
  clear HY;go_wp2_with fail;go_region_held3 (λhS=>hS.cell? ⟨O w.1,0,JL⟩=E (i6 (E ⟨gt,0,JL⟩) (Z ns) ct)) (first|(go_keep;done)|exact tb2|exact tb3|exact(yj _ _ _ _ (λe=>by injection e with e;omega)).trans tb3|exact((zC).cell (p:=⟨O w.1,0,JL⟩) (I:O w.1<O w2.1)).trans tb2)
   (first
    |(go_at_call 93;(with_reducible refine(D z).mono ?_);rintro e w2 ⟨⟨gn,cn,rfl,hcn,hgn,hN2⟩,H2,HP2⟩;have z2:O w1.1<=O w2.1:=HP2.size;have X:=S (HP2.tabO L hP);have x:=S hN2;have hv:O w1.1<=gn:=hgn;have d:=S (hu.trans HP2);have tb2:=(HP2.cell (b:=O w.1) (I:O w.1<O w1.1) I 0).trans tA;clear HP2 hN2 hgn)
    |(go_at_call 93;(with_reducible refine(D l).mono ?_);rintro e w2 ⟨⟨gn,cn,rfl,hcn,hgn,hN2⟩,H2,HP2⟩;have z2:O w1.1+1<=O w2.1:=(by have:=HP2.size;simpa using this);have X:=S (HP2.tabO hN hP);have x:=S hN2;have hv:O w1.1<=gn:=(by have:O w1.1+1<=gn:=(Ju hgn);omega);have d:=S (hr.trans HP2);have tb2:=(HP2.cell (b:=O w.1) Jq I 0).trans tB;have x2:=(HP2.cell (b:=O w1.1) Js I 0).trans xB;have f2:=(HP2.frozen (b:=O w1.1) Js I 0).trans fB;clear HP2 hN2 hgn)
    |(go_at_call 61;have Q:=Q4 gt 0 ct gn 0 cn ns xs w2 I I X.ops hc X.lt1 x.ops hb x.lt1;(with_reducible refine Q.mono ?_);clear Q;rintro e w3 ⟨⟨a3,c3,us,v,rfl,HO3,HG3⟩,hb3⟩;have z3:=hb3.size;have H3:=S (H2.y hb3);have u:=S (d.trans (zE.Q hb3));have tb3:=Jc hb3 I tb2;(try have x3:=Jc hb3 I x2);(try have f3:=Vf hb3 I f2);clear hb3)
    |(go_at_call 61;have Q:=Q4 gt 0 ct gn 0 cn ns xs (w2.alloc (JM #[Jl] 40)) I I (X.y zC X.lt1).ops hc (by have:=X.lt1;simp;omega) (x.y zC x.lt1).ops hb (by have:=x.lt1;simp;omega);(with_reducible refine Q.mono ?_);clear Q;rintro e w3 ⟨⟨a3,c3,us,v,rfl,HO3,HG3⟩,hb3⟩;have z3:O w2.1+1<=O w3.1:=(by have:=hb3.size;simpa using this);have H3:=S ((H2.y zC).y hb3);have u:=S ((d.trans (zE.Q (@zC _ (JM #[Jl] 40)))).trans (zE.Q hb3));have tb3:=(hb3.cell (p:=⟨O w.1,0,JL⟩) Jq).trans (((@zC w2 (JM #[Jl] 40)).cell (p:=⟨O w.1,0,JL⟩) (I:O w.1<O w2.1)).trans tb2);have x3:w3.cell? ⟨O w2.1,0,JL⟩=E Jl:=(hb3.cell (p:=⟨O w2.1,0,JL⟩) Js).trans Jg;have f3:w3.frozen? ⟨O w2.1,0,JL⟩=Vt:=(hb3.frozen (p:=⟨O w2.1,0,JL⟩) Js).trans Jg;clear hb3))
  obtain⟨W4,K⟩:=Jx (w3.alloc (JM #[.slice a3 (Z us) c3] 40));have t4:W4.cell? ⟨O w3.1,0,JL⟩=E (i6 a3 (Z us) c3):=by rw[K];simp[go_sem]
  have B:=S (by rw[K];exact HO3.grR I (λg _ hf=>hf.y zC hf.lt1):OR W4 rp a3 us);have H4:=S (by rw[K];exact H3.y zC:Az W4 rp a cap bs y1);have U:=S (by rw[K];exact u.trans (zE.Q zC):zE w W4 rp);rw[<-K];clear K;rotate_left
  obtain⟨W4,K⟩:=Jx (w3.setCell ⟨O w2.1,0,JL⟩ (i6 a3 (Z us) c3));have t4:W4.cell? ⟨O w2.1,0,JL⟩=E (i6 a3 (Z us) c3):=by rw[K];exact yu _ _ _ x3
  have B:=S (by rw[K];exact HO3.grR Jq (λg hg hf=>hf.setCell _ _ _ (by simp at hg;omega)):OR W4 rp a3 us);have H4:=S (by rw[K];exact H3.set _ _ _ I:Az W4 rp a cap bs y1);have U:=S (by rw[K];exact u.setNew _ _ I:zE w W4 rp);rw[<-K];clear K x3 f3;rotate_left
  obtain⟨W4,K⟩:=Jx (w3.setCell ⟨O w1.1,0,JL⟩ (i6 a3 (Z us) c3));have t4:W4.cell? ⟨O w1.1,0,JL⟩=E (i6 a3 (Z us) c3):=by rw[K];exact yu _ _ _ x3
  have B:=S (by rw[K];exact HO3.grR I (λg hg hf=>hf.setCell _ _ _ I):OR W4 rp a3 us);have H4:=S (by rw[K];exact H3.set _ _ _ I:Az W4 rp a cap bs y1);have U:=S (by rw[K];exact u.setNew _ _ I:zE w W4 rp);rw[<-K];clear K x3 f3 x2 f2;rotate_left
  all_goals
   clear z l L hN hu hr X x d H2 H3 u HO3 tA tB xB fB tb2 tb3
   have z4:=U.size
   have lt4:=jl t4
   cases v with
   |false=>
    go_wp2;go_ret;refine⟨O W4.1,1,y1,[⟨#[97]⟩],F,S (zu.lit I _),Jd,Jd,S (λs hs=>by simp at hs;subst hs;decide),S (yX ⟨by rw[<-D HK];exact hQ,us,Vt,?_,yW ⟨F,F,?_⟩⟩),S (H4.y zC),S (U.trans (zE.Q zC))⟩
    .have:=D HG3;rw[show EA bs ns (Ac bs p)=(y1,xs) from D P];exact this
    .rw[show EA bs ns (Ac bs p)=(y1,xs) from D P]
   |true=>
    obtain⟨T,hT,C,h5,hW⟩:=nF t hK HG3;have hp:=hT.pos;have hV:Z us=Ab T:=by rw[C,ZN]
    obtain⟨g3,rfl,hJ,A⟩:∃g,a3=E ⟨g,0,JL⟩/\rp<g/\ZD W4 g us (Z us):=by
     rcases D B with h|h
     .omega
     .exact h
    have m:=A.lt1;have hE:=S A;have HT:=S hT;have h3:=S C;have hB:=S hW;have hx:Z us<=254:=I;have hF:1<=Z us:=I;have f:=@zC W4 (JM #[] 108);have h6:=S (show AS (W4.alloc (JM #[] 108)) (O W4.1) (O W4.1) 0 [] by
     have:=yJ (base:=O W4.1) (e:=108) (size:=4) W4 #[] 0 yk yn F
     simpa[AS,zO] using this)
    have Q:=nH rp cap a bs hl g3 c3 us (O W4.1) m I I I T hT 0 [] y1 (by rw[C];exact Gc T) I Jq (O W4.1) 0 _ (A.ops.y f m) Js h6 (H4.y f);obtain⟨T',V⟩:∃T',Hid (T'=(A3 bs T y1).2):=⟨_,S F⟩;obtain⟨q',hh⟩:∃q',Hid (q'=(A3 bs T y1).1):=⟨_,S F⟩;rw[<-D V,<-D hh,jF,je,jd,<-hV]at Q;have h8:Ab T'<=508:=by rw[D V];have:=(Of bs T y1).2;omega
    have o:=S (by rw[D V];exact Qq bs T y1 hT:Sh T');have hw:=S (by rw[D V];exact S8 bs 16 T y1 hW:Ez 16 T');obtain⟨vs,N⟩:∃vs,Hid (vs=nd T' 0):=⟨_,S F⟩;rw[<-D N]at Q;have ha:Z vs=Ab T':=by rw[D N,ZN]
    have h4:Z vs<=508:=I;have h9:1<=Z vs:=Jy o.pos
    obtain⟨j,hq⟩:=Jx (Z us-1);have ej:(Z us:Int)-1=(j:Int):=I;rw[<-hq]at Q;have hn:=S Q;have hd:=S ha;have h0:=S f;clear Q hV ha C hW hT A hq B h5 hp f;go_wp2_with fail;go_call D hn as e w5 ⟨g5,c5,rfl,HR5,hg5,H5,HK5⟩;have z5:O W4.1+1<=O w5.1:=by have:=HK5.size;simpa using this
    obtain⟨hG,M⟩:=Ib HR5;have hM:=iZ g5 c5 vs I T' o 0 (by rw[D N];exact Gc T') (by rw[D hd];omega) w5 M.ops M.lt1;rw[jd,<-D hd]at hM;obtain⟨j2,ho⟩:=Jx (Z vs-1);have ej2:(Z vs:Int)-1=(j2:Int):=I;rw[<-ho]at hM;have hz:=S hM;have he:=S (U.trans (zE.Q (g:=rp) h0));have hy:=S (he.k2 HK5 I);clear hM hn ho M HK5 he;go_wp2_with fail;go_call D hz as e w6 ⟨g6,c6,rfl,HR6,HB6⟩;have z6:=HB6.size;go_wp2;go_ret;have hC:=P9 o;have hA:=P8 T';refine⟨g6,c6,q',CJ T',F,S (zu.low HR6 I),I,I,S (To Jd T' hw),S (yX ⟨by rw[<-D HK];exact hQ,us,Vp,?_,yX ⟨F,T,HT,h3,?_,?_⟩⟩),S (H5.y HB6),S (hy.trans (zE.Q HB6))⟩
    .rw[show EA bs ns (Ac bs p)=(y1,xs) from D P];exact HG3
    .rw[show EA bs ns (Ac bs p)=(y1,xs) from D P,D V]
    .rw[show EA bs ns (Ac bs p)=(y1,xs) from D P,D hh]
def Bu(n t a):=∀i,(Ae a i).n.size<=n/\(Ae a i).t.size<=t
def Bu.nil(n t):Bu n t []:=λi=>⟨yn,yn⟩
def Bu.snoc{t}{m:zF}(h:Bu n t ms)(a:m.n.size<=n)(b:m.t.size<=t):Bu n t (ms++[m]):=λi=>by
 rw[SQ];split
 .exact h i
 .split
  .exact⟨a,b⟩
  .exact⟨yn,yn⟩
def Bu.set{t m i}(h:Bu n t ms)(c:i<Z ms)(a:m.n.size<=n)(b:m.t.size<=t):Bu n t (ms.set i m):=λj=>by
 rw[wJ c];split
 .exact⟨a,b⟩
 .exact h j
def Bu.mono{t a b}(h:Bu n t ms)(c:n<=a)(d:t<=b):Bu a b ms:=λi=>⟨yy (h i).1 c,yy (h i).2 d⟩
def Bu.sized{t}(h:Bu n t ms)(a:n<=1000000000000000000)(b:t<=1000000000000000000):Em ms:=λi _=>by have:=h i;unfold maxLen;omega
structure Ef(w wr:JY)(e d:Nat)(a:Option Addr)(i:Jw)(A b j:Nat)(h:Jf)(g c:Nat)(f:Jp)(q:Nat):Prop where
 row:ZE wr (O w.1) (Ql g (Z f) c) f
 rd:Az wr e a d i q
 kp:zE w wr e
 al:wr.cell? (J A 0)=E (Ql b (Z h) j)
 tb:Ew wr b h
 gA:g≠A
 gg:g≠b
 hA:O w.1<=A
 hg:O w.1<=b
 rpl:e<O w.1
def Ef.y{w wr e l b a f A j i m g c k q}(h:Ef w wr l b a f A j i m g c k q)(d:Qb wr e):Ef w e l b a f A j i m g c k q:=
 ⟨h.row.y d,h.rd.y d,h.kp.trans (zE.Q d),Jc d (jl h.al) h.al,h.tb.y d h.tb.1,h.gA,h.gg,h.hA,h.hg,h.rpl⟩
def Ef.read{f:Nat}(h:Ef w wr rp cap a bs A ga ca xa g c ms q)(d:zE wr wr' rp)(i:Az wr' rp a cap bs f):Ef w wr' rp cap a bs A ga ca xa g c ms f:=by have j:=h.rpl;have l:=h.hA;have m:=h.hg;have n:=(h.row.lt g F).1;exact⟨h.row.grown (za d) (λk d e=>by simp[i8]at d;injection e with e;omega),i,h.kp.trans d,(d.cell (b:=A) (jl h.al) I 0).trans h.al,d.tabO h.tb I,h.gA,h.gg,h.hA,h.hg,h.rpl⟩
def Ef.turn(h:Ef w wr rp cap a bs A ga ca xa g c ms q)(d:wr.grownBy wr' (E b))(y:O w.1<=b)(v:b≠g)(u:b≠A)(l:b≠ga):Ef w wr' rp cap a bs A ga ca xa g c ms q:=by
 have H:=h.rpl;have e:∀{x:Nat},x<O wr.1->x≠b->wr'.heap[x]?=wr.heap[x]?:=λhx m=>d.block _ hx (λe=>m (by injection e with e))
 have f:∀{x o:Nat},x<O wr.1->x≠b->wr'.cell? (J x o)=wr.cell? (J x o):=λhx m=>yv (w:=wr) (e hx m)
 refine⟨h.row.grown d (λk d e=>by simp[i8]at d;injection e with e;omega),h.rd.kept (λi j=>e (Jy h.rd.lt) I),⟨d.os.trans h.kp.os,d.tape.trans h.kp.tape,d.output.trans h.kp.output,yy h.kp.size d.size,λi j a=>(e (ym j h.kp.size) I).trans (h.kp.block i j a)⟩,(f (jl h.al) (Ne.symm u)).trans h.al,⟨ym h.tb.1 d.size,λi j=>?_⟩,h.gA,h.gg,h.hA,h.hg,h.rpl⟩;obtain⟨n,p,s,t⟩:=h.tb.2 i j;exact⟨(f h.tb.1 (Ne.symm l)).trans n,(f h.tb.1 (Ne.symm l)).trans p,(f h.tb.1 (Ne.symm l)).trans s,(f h.tb.1 (Ne.symm l)).trans t⟩
def Ef.app{p:JY}{m:zF}{u:Value}(h:Ef w d rp cap a bs A ga ca xa g c ms q)(Q:p.ownsRow (O w.1) 49 2 u (Z ms+1) (zk ms++zk [m]))(H:d.grownBy p (E g))(y:u.ownBlock=E g\/∃k,u.ownBlock=E k/\O d.1<=k):∃l v n,n=ms++[m]/\u = Ql l (Z n) v/\Ef w p rp cap a bs A ga ca xa l v n q:=by
 have B:ZE p (O w.1) u (ms++[m]):=by unfold ZE;rw[Me,yr];exact Q
 obtain⟨l,v,rfl⟩:=B.has Js;have j:=h.rpl;have P:=h.hA;have R:=h.hg;have b:=(h.row.lt g F).1;have e:∀{x:Nat},x<O d.1->x≠g->p.heap[x]?=d.heap[x]?:=λhx z=>H.block _ hx (λe=>z (by injection e with e))
 have s:∀{x o:Nat},x<O d.1->x≠g->p.cell? (J x o)=d.cell? (J x o):=λhx z=>yv (w:=d) (e hx z)
 have f:A<O d.1:=jl h.al;have K:=h.tb.1;have X:l≠A/\l≠ga:=by
  rcases y with e|⟨k,e,T⟩
  .have:l=g:=by simpa[i8] using e
   rw[this];exact⟨h.gA,h.gg⟩
  .have:l=k:=by simpa[i8] using e
   omega
 refine⟨l,v,ms++[m],F,F,B,h.rd.kept (λi t=>e (Jy h.rd.lt) I),⟨H.os.trans h.kp.os,H.tape.trans h.kp.tape,H.output.trans h.kp.output,yy h.kp.size H.size,λi t a=>(e (ym t h.kp.size) I).trans (h.kp.block i t a)⟩,(s f (Ne.symm h.gA)).trans h.al,⟨ym K H.size,λi t=>?_⟩,X.1,X.2,h.hA,h.hg,h.rpl⟩;obtain⟨C,L,M,N⟩:=h.tb.2 i t;exact⟨(s K (Ne.symm h.gg)).trans C,(s K (Ne.symm h.gg)).trans L,(s K (Ne.symm h.gg)).trans M,(s K (Ne.symm h.gg)).trans N⟩
def Sg{a}(h:zM a 0):Z a<=500/\Bg a (Z a):=by
 rcases h with⟨h,_⟩|⟨b,⟨h,_⟩|⟨c,_⟩⟩
 .cases h
 .cases h
 .exact⟨b,c⟩
def zu.atE(h:zu w B (Ql g n c) us)(i)(a:i<Z us):w.cell? (J g i)=E (W (Go.Proofs.YtdgcbenningkdaaGreatDoor.AG us i)):=by have:=h.cells i (Go.Proofs.YtdgcbenningkdaaGreatDoor.AG us i) (by unfold Go.Proofs.YtdgcbenningkdaaGreatDoor.AG;rw[yq,yt a];rfl);simpa using this
structure CR(w wr:JY)(j d:Nat)(a:Option Addr)(f:Jw)(A e h:Nat)(l:Jf)(g c:Nat)(i:Jp)(q L b:Nat)(k:Value):Prop where
 pr:Ef w wr j d a f A e h l g c i q
 lg:g<L
 lA:A<L
 la:e<L
 lw:O w.1<=L
 lS:L<=b
 sc:wr.cell? (J b 0)=E k
 sf:wr.frozen? (J b 0)=Vt
def CR.y{w wr d m b a i A k j o g c l q L e n}(h:CR w wr m b a i A k j o g c l q L e n)(f:Qb wr d):CR w d m b a i A k j o g c l q L e n:=
 ⟨h.pr.y f,h.lg,h.lA,h.la,h.lw,h.lS,Jc f (jl h.sc) h.sc,(f.frozen (p:=J e 0) (jl h.sc)).trans h.sf⟩
def CR.read{w wr e i d a j A m l s g c n q o L f p}(h:CR w wr i d a j A m l s g c n q L f p)(k:zE wr e i)(t:Az e i a d j o):CR w e i d a j A m l s g c n o L f p:=by have u:=h.pr.rpl;have v:=h.lw;have x:=h.lS;exact⟨h.pr.read k t,h.lg,h.lA,h.la,h.lw,h.lS,(k.cell (b:=f) (jl h.sc) I 0).trans h.sc,(k.frozen (b:=f) (jl h.sc) I 0).trans h.sf⟩
def CR.grow{L d:Nat}{i:Value}(h:CR w wr rp cap a bs A ga ca xa g c ms q L d i)(f:wr.grownBy wr' (E b))(o:L<=b)(j:b≠d):CR w wr' rp cap a bs A ga ca xa g c ms q L d i:=by have k:=h.lg;have l:=h.lA;have m:=h.la;have n:=h.lw;have e:=f.block d (jl h.sc) (λx=>j (by injection x with x;exact x.symm));exact⟨h.pr.turn f I I I I,h.lg,h.lA,h.la,h.lw,h.lS,(yv (w:=wr) (a:=J d 0) e).trans h.sc,(yG (w:=wr) (a:=J d 0) e).trans h.sf⟩
def CR.put{L d:Nat}{e:Value}(h:CR w wr rp cap a bs A ga ca xa g c ms q L d e)(b:Value):CR w (wr.setCell (J d 0) b) rp cap a bs A ga ca xa g c ms q L d b:=by have f:=h.lg;have i:=h.lA;have j:=h.la;have k:=h.lw;have l:=h.lS;exact⟨h.pr.turn (zx wr d 0 b) I I I I,h.lg,h.lA,h.la,h.lw,h.lS,yu _ _ _ h.sc,(yx).trans h.sf⟩
structure Ca(wr:JY)(M:Nat)(n t:JZ):Prop where
 c0:wr.cell? (J M 0)=E (W n)
 c1:wr.cell? (J M 1)=E (W t)
 f1:wr.frozen? (J M 1)=Vt
def Ca.lt{n}(h:Ca wr M n t):M<O wr.1:=jl h.c0
def Ca.same{n}(h:Ca wr M n t)(e:wr'.heap[M]?=wr.heap[M]?):Ca wr' M n t:=
 ⟨(yv (w:=wr) (a:=J M 0) e).trans h.c0,(yv (w:=wr) (a:=J M 1) e).trans h.c1,(yG (w:=wr) (a:=J M 1) e).trans h.f1⟩
def Ca.y{n}(h:Ca wr M n t)(a:Qb wr wr'):Ca wr' M n t:=h.same (a.block M h.lt)
def Ca.kept{n}(h:Ca wr M n t)(a:zE wr wr' rp)(b:M≠rp):Ca wr' M n t:=h.same (a.block M h.lt b)
def Ca.other{o n}(h:Ca wr M n t)(a:b≠M):Ca (wr.setCell (J b o) v) M n t:=h.same ((zx wr b o v).block M h.lt (λe=>a (by injection e with e;exact e.symm)))
def Ca.put{n}(h:Ca wr M n t)(a):Ca (wr.setCell ⟨M,1,JL⟩ (W a)) M n a:=
 ⟨(yj _ _ _ _ Js).trans h.c0,yu _ _ _ h.c1,(yx).trans h.f1⟩
def Ca.new(wr:JY)(n t):Ca (wr.alloc (JM #[W n,W t] 49)) (O wr.1) n t:=⟨Jg,Jg,Jg⟩
def GS.low{a}(h:GS w B v out)(b:a<=B):GS w a v out:=by obtain⟨g,c,rfl,h⟩:=h;refine⟨g,c,F,h.imp id λh=>⟨yy b h.1,h.2.1,λi k=>?_⟩⟩;obtain⟨t,d,f,j⟩:=h.2.2 i k;exact⟨t,d,f,λq e=>yy b (j q e)⟩
def QG(c:UInt8)(n:Nat):ByteArray:=⟨(List.replicate n c).toArray⟩
def GE:ByteArray:=⟨#[10]⟩
def L9:ByteArray:=⟨#[98,101,103,105,110,10,49]⟩
def D0:zF:=⟨⟨#[120,49]⟩,⟨#[117,115,101,32,121,49,10,98,101,103,105,110,10,49]⟩⟩
def Na(v:Nat):ByteArray:=if v%2=1 then⟨#[121,50]⟩ else⟨#[121,49]⟩
def QP(v:Nat):zF:=⟨⟨#[121,49]⟩,Es++Na v++⟨#[10,98,101,103,105,110,10,49]⟩⟩
def Fo:zF:=⟨⟨#[121,50]⟩,⟨#[117,115,101,32,121,49,10,98,101,103,105,110,10,49]⟩⟩
def J0(n:Nat):Nat->Jp->Jp
 |0,ms=>ms
 |f+1,ms=>if Z ms<n then J0 n f (ms++[⟨⟨#[122]⟩++AN 7 (Z ms),L9⟩]) else ms
def Dt(a:Jw)(p:Nat)(b:Jp):Jp:=
 if Af a p%16=8 then b.set (Z b-1) ⟨QG 109 (63+Af a (Ac a (Ac a p))%3),(Ae b (Z b-1)).t⟩
 else if Af a p%16=15 then[D0]++b++[QP (Af a (Ac a (Ac a p))),Fo]
 else if Af a p%8=0 then b.set (Af a (Ac a p)%(Z b)) ⟨(⟨#[109,95,49,32]⟩:JZ).extract 0 (Af a (Ac a (Ac a p))%5),(Ae b (Af a (Ac a p)%(Z b))).t⟩
 else if Af a p%8=1 then b.set (Af a (Ac a p)%(Z b)) ⟨(Ae b (Af a (Ac a p)%(Z b))).n,Es++E4 (Af a (Ac a (Ac a p)))++GE++(Ae b (Af a (Ac a p)%(Z b))).t⟩
 else if Af a p%8=2 then b.set (Af a (Ac a p)%(Z b)) ⟨(Ae b (Af a (Ac a p)%(Z b))).n,Es++(Ae b (Z b-1)).n++GE++(Ae b (Af a (Ac a p)%(Z b))).t⟩
 else if Af a p%8=3 then b.set (Af a (Ac a p)%(Z b)) ⟨(Ae b (Af a (Ac a p)%(Z b))).n,ZR (dW (Ed (Af a (Ac a (Ac a (Ac a p)))) (Af a (Ac a (Ac a (Ac a (Ac a p))))) (decide (Af a (Ac a (Ac a p))%2=0))))++GE++(Ae b (Af a (Ac a p)%(Z b))).t⟩
 else if Af a p%8=4/\0<(Ae b (Af a (Ac a p)%(Z b))).t.size then
  b.set (Af a (Ac a p)%(Z b)) ⟨(Ae b (Af a (Ac a p)%(Z b))).n,(Ae b (Af a (Ac a p)%(Z b))).t.extract 0 ((Af a (Ac a (Ac a p))*256+Af a (Ac a (Ac a (Ac a p))))%(Ae b (Af a (Ac a p)%(Z b))).t.size)++(Ae b (Af a (Ac a p)%(Z b))).t.extract ((Af a (Ac a (Ac a p))*256+Af a (Ac a (Ac a (Ac a p))))%(Ae b (Af a (Ac a p)%(Z b))).t.size+1) (Ae b (Af a (Ac a p)%(Z b))).t.size⟩
 else if Af a p%8=5 then b.set (Af a (Ac a p)%(Z b)) ⟨(Ae b (Af a (Ac a p)%(Z b))).n,(Ae b (Af a (Ac a p)%(Z b))).t++D9 [] a (Ac a (Ac a (Ac a p)))⟩
 else if Af a p%16=6 then J0 (100+Af a (Ac a (Ac a p))%2) 101 b
 else if Af a p%16=14 then b.set (Af a (Ac a p)%(Z b)) ⟨(Ae b (Af a (Ac a p)%(Z b))).n,(Ae b (Af a (Ac a p)%(Z b))).t++QG 32 (20000+Af a (Ac a (Ac a p))%2-(Ae b (Af a (Ac a p)%(Z b))).t.size)⟩
 else b++[Ae b (Af a (Ac a p)%(Z b))]
