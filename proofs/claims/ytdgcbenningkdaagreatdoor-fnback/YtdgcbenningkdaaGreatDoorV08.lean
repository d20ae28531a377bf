import Derived.Deep.DeepCutAuto
import Derived.Test.YtdgcbenningkdaaGreatDoorV02
namespace Go.Proofs.YtdgcbenningkdaaGreatDoor
set_option linter.all false
set_option maxHeartbeats 0
set_option maxRecDepth 100000
open Proofs.Tryz RowKit
open Go.Deep (BT)
variable{B N b g i off:Nat}{ns:List Ad}{o:zD}{u:Value}{us vs:List ZJ}{w w':World}{x:ZJ}{xs:List zD}
open _root_.Array renaming size→O
open List renaming length→Z
open Option renaming some→E,none→JL
open Obj renaming cells→JM
open Bool renaming false→Vt,true→Vp
open Proofs.Tryz renaming prog→Vb
open Value renaming agg→b9,tuple→i5,slice→i6,bool→i7,ownBlock→i8
def Dn(c:Jf):ET->Prop
 |.nil=>False
 |.node b o t l a=>o=0/\(((b=1\/b=2)/\l=.nil/\a=.nil)\/(b=6/\t=ByteArray.empty/\Dn c l/\a=.nil)\/((b=3\/b=5)/\AC c (b,t)=Vp/\Dn c l/\a=.nil)\/(b=4/\AC c (b,t)=Vp/\Dn c l/\Dn c a))
theorem ZF.well{g}:∀{T:ET},ZF g T->Dn g T
 |.nil,h=>h
 |.node b o t l a,⟨h0,h⟩=>by
  refine⟨h0,?_⟩;rcases h with h|⟨c,d,e,f⟩|⟨c,d,e,f,_⟩|⟨c,d,e,i,_⟩
  .exact yW h
  .exact yX (yW ⟨c,d,e.well,f⟩)
  .exact yX (yX (yW ⟨c,d,e.well,f⟩))
  .exact yX (yX (yX ⟨c,d,e.well,i.well⟩))
theorem Dn.sh{e}:∀{T:ET},Dn e T->Sh T
 |.nil,h=>h.elim
 |.node b o t l a,⟨h0,h⟩=>by
  refine⟨h0,?_⟩;rcases h with⟨h|h,rfl,rfl⟩|⟨rfl,_,c,rfl⟩|⟨h|h,_,c,rfl⟩|⟨rfl,_,c,d⟩
  .subst h;exact yW ⟨Jd,F,F⟩
  .subst h;exact yW ⟨Jd,F,F⟩
  .exact yX (yW ⟨Jd,c.sh,F⟩)
  .subst h;exact yX (yW ⟨Jd,c.sh,F⟩)
  .subst h;exact yX (yW ⟨Jd,c.sh,F⟩)
  .exact yX (yX ⟨Jd,c.sh,d.sh⟩)
theorem N1{t}(h:AC ns (b,t)=Vp):(Al ns (rt b t)).s=t:=by grind [LS,ED]
theorem pE(Q:∀i,i<Z xs->BK (Y xs i))(K:DM ns xs):∀(T:ET)(s:Nat),Sh T->B1 xs T s->s+Ab T<=Z xs->Dn ns T:=by
 intro T;induction T with
 |nil=>intro s h;exact h.elim
 |node b o t l a ihl ihr=>
  rintro s ⟨u,d⟩ ⟨k,v,w⟩ x;simp only[Ab]at x;have m:s+Ab l+Ab a<Z xs:=I;have n:=Q _ m;have c:=K _ m;rw[w]at n c;have H:Zx (tN b t l a s)->AC ns (b,t)=Vp:=λq=>by
   have:=c q;unfold AC;cases e:Ax ns t ((b:Int)-2) with
   |none=>exact yV e this
   |some j=>rfl
  refine⟨u,?_⟩;rcases n.2 with⟨e,_⟩|⟨e,_⟩|⟨e,p⟩|⟨e,_⟩
  .have e':b=1:=by grind [tN]
   subst e';rcases d with⟨_,f,g⟩|⟨c,_⟩|⟨c,_⟩
   .grind
   .exact yV c Jd
   .exact yV c Jd
  .have e':b=2:=by grind [tN]
   subst e';rcases d with⟨_,f,g⟩|⟨c,_⟩|⟨c,_⟩
   .grind
   .exact yV c Jd
   .exact yV c Jd
  .have e':b=6:=by grind [tN]
   subst e';rcases d with⟨c,_⟩|⟨_,f,g⟩|⟨c,_⟩
   .exact yV c Jd
   .subst g;refine yX (yW ⟨F,?_,ihl s f k I,F⟩);have:t.size=0:=p;exact ByteArray.size_eq_zero_iff.1 this
   .exact yV c Jd
  .rcases e with e|e|e
   .have e':b=3:=by grind [tN]
    subst e';rcases d with⟨c,_⟩|⟨_,f,g⟩|⟨c,_⟩
    .exact yV c Jd
    .subst g;exact yX (yX (yW ⟨yW F,H ⟨by simp[tN],by simp[tN]⟩,ihl s f k I,F⟩))
    .exact yV c Jd
   .have e':b=4:=by grind [tN]
    subst e';rcases d with⟨c,_⟩|⟨c,_⟩|⟨_,f,g⟩
    .exact yV c Jd
    .exact yV c Jd
    .exact yX (yX (yX ⟨F,H ⟨by simp[tN],by simp[tN]⟩,ihl s f k I,ihr _ g v I⟩))
   .have e':b=5:=by grind [tN]
    subst e';rcases d with⟨c,_⟩|⟨_,f,g⟩|⟨c,_⟩
    .exact yV c Jd
    .subst g;exact yX (yX (yW ⟨yX F,H ⟨by simp[tN],by simp[tN]⟩,ihl s f k I,F⟩))
    .exact yV c Jd
theorem UK(h:Zk xs)(H:DM ns xs):∃T,Dn ns T/\Ab T=Z xs/\xs=nd T 0:=by obtain⟨T,a,b,hx⟩:=UB h;refine⟨T,pE h.2.2.2 H T 0 a (by grind [Gc]) I,b,hx⟩
theorem sL(e:zM ns 0):∀(T:ET)(l:Int),Dn ns T->l<=1001->ZF ns (AZ ns T l)/\l<=Ay ns (AZ ns T l):=by
 intro T;induction T with
 |nil=>intro l h;exact h.elim
 |node b o t l a ihl ihr=>
  rintro H ⟨q,h⟩ n;simp only[AZ];split
  .grind
  .rename_i h6;have:ZF ns (.node b 0 t (AZ ns l (zl ns (rt b t) Vt)) (AZ ns a (zl ns (rt b t) Vp))):=by
    refine⟨F,?_⟩;rcases h with⟨h,rfl,rfl⟩|⟨h,_⟩|⟨h,c,d,rfl⟩|⟨h,c,d,u⟩
    .exact yW ⟨h,F,F⟩
    .grind
    .have f:=Bq e (s:=(b,t)) I c;have i:=f.hi;have j:=f.pre;have p:=f.post;have m:zl ns (rt b t) Vt<=1001:=by grind [sH]
     obtain⟨g,k⟩:=ihl _ d m;exact yX (yX (yW ⟨h,c,g,F,k⟩))
    .have f:=Bq e (s:=(b,t)) I c;have i:=f.hi;have j:=f.mid h;grind [zl,rt,sH]
   unfold Fk;split
   .refine⟨⟨F,yX (yW ⟨F,F,this,F⟩)⟩,?_⟩;grind [Ay,Ih]
   .rename_i hn;refine⟨this,?_⟩;simp only[Ay];show H<=AY ns (rt b t);omega
def cV(b a f d w)(k:Z d<=1048576)(m:Au w b a d)(l:ZO d)(g:b<O w.1)(j:zM d 0):Calls Vb 33 #[b9 #[Je b a (Z d) f]] w λe w'=>e=.returned (G 0)/\Qb w w':=by go_call Lc b a f d w k m l g as e w' ⟨⟨c,rfl,h⟩,i⟩;exact⟨by rw[Z3 h j],i⟩
def cW(b z B bn q cn L t w)(hm:Z L<=1048576)(f:Z t<=1048576)(hw:Au w b z L)(d:ZO L)(hB:b<O w.1)(a:Z2 w bn q t)(C:C5 t)(V:bn<O w.1)(hc:zM L 0):Calls Vb 100 #[b9 #[Je b z (Z L) B],b9 #[Je bn q (Z t) cn]] w λe w'=>Bj e (Zk t/\DM L t)/\Qb w w':=by
 go_enter func100,ntmps100;go_wp2_with fail;go_call cV b z B L _ hm (hw.y ((zC).alloc Js _) hB) d Jq hc as e w1 ⟨rfl,N⟩;have K:Qb w w1:=((zC).alloc Js _).trans (N.mono Jq);have c0:w1.cell? (J (O w.1) 0)=E (Je b z (Z L) B):=Jc N Jh Jg;have c1:w1.cell? (J (O w.1+1) 0)=E (Je bn q (Z t) cn):=(N.cell (p:=(J (O w.1+1) 0)) Js).trans Jg;have z1:O w.1+2<=O w1.1:=Jz N.size
 go_wp2_with fail;go_call TW bn q cn t _ f (a.y K V) C I as e w2 ⟨⟨v,rfl,hv⟩,R⟩;have HV:=S hv;have X:=K.trans (R.mono K.size);have e0:=Jc R (I:O w.1<O w1.1) c0;have e1:=Jc R I c1;have z2:=yy z1 R.size;cases v
 .go_wp2;go_ret;exact⟨⟨_,F,zT (λh=>jq (HV.2 h.1))⟩,X⟩
 have HO:=S (HV.1 F);have c:=S (show Cs [(O w.1,0,Je b z (Z L) B),(O w.1+1,0,Je bn q (Z t) cn)] w2 from λp hp=>by
  simp only[jH,List.not_mem_nil,or_false]at hp
  rcases hp with rfl|rfl
  .exact e0
  .exact e1)
 go_wp2;go_loopw [5] (λiv wr=>∃k:Nat,k<=Z t/\iv=G k/\Hid (∀i,i<k->Zx (Y t i)->Ax L (Y t i).t ((Y t i).k-2)≠JL)/\Hid (Cs [(O w.1,0,Je b z (Z L) B),(O w.1+1,0,Je bn q (Z t) cn)] wr)/\Qb w wr) (λiv _=>Z t-(intOf iv).toNat);case atStart=>exact⟨0,yn,F,S (λi hi=>yV hi (yz i)),c,X⟩
 case round=>
  obtain⟨k,hk,rfl,o,s,Q⟩:=hrel;have c0:=(D s) (O w.1,0,Je b z (Z L) B) Js;have c1:=(D s) (O w.1+1,0,Je bn q (Z t) cn) Js;simp only at c0 c1;by_cases A:k<Z t
  .have l:(k:Int)<Z t:=I;obtain⟨a0,a1,a2,a3⟩:=((a) k A).y Q V;have U:=S (s.y (@zC wr (JM #[G (Y t k).k,W (Y t k).t,G (Y t k).a,G (Y t k).b] 108)));have K:Qb w (wr.alloc (JM #[G (Y t k).k,W (Y t k).t,G (Y t k).a,G (Y t k).b] 108)):=Q.alloc Q.size _;by_cases ho:Zx (Y t k)
   .have HD:=S (by rw[eq_comm,decide_eq_true_iff];exact ho:Vp=decide (3<=(Y t k).k/\(Y t k).k<=5));have h3:=ho.1;have h5:=ho.2;have y:=S ho;go_wp2_with fail;go_call IZ (Y t k) _ Vp HD as e w3 ⟨rfl,M⟩;have u:=S (U.y M);have H:=K.trans (M.mono K.size);have n0:w3.cell? (J (O wr.1) 0)=E (G (Y t k).k):=Jc M Jh Jg;have n1:w3.cell? (J (O wr.1) 1)=E (W (Y t k).t):=Jc M Jh Jg;have d0:=(D u) (O w.1,0,Je b z (Z L) B) Js;simp only at d0;have n:IntKind.i64.wrap ((Y t k).k-2)=(Y t k).k-2:=by rw[IntKind.wrap_i64];omega
    cases hf:Ax L (Y t k).t ((Y t k).k-2) with
    |none=>have HF:=S hf;have P:=S (by rw[hf];rfl:fI (Ax L (Y t k).t ((Y t k).k-2)) = -1);go_wp2_with fail;refine(Pm b z B L (Y t k).t ((Y t k).k-2) _ hm (hw.y H hB) (ym hB H.size)).mono ?_;rw[D P];rintro e w4 ⟨rfl,T⟩;go_wp2;go_ret;exact⟨⟨_,F,zT (λh=>h.2 k A y HF)⟩,H.trans (T.mono H.size)⟩
    |some j=>
     have HF:=S hf;have P:=S (by rw[hf];rfl:fI (Ax L (Y t k).t ((Y t k).k-2))=(j:Int));go_wp2_with fail;refine(Pm b z B L (Y t k).t ((Y t k).k-2) _ hm (hw.y H hB) (ym hB H.size)).mono ?_;rw[D P];rintro e w4 ⟨rfl,T⟩;have m:¬ (j:Int)<0:=I;go_wp2;refine⟨⟨k+1,I,Jn,S (λi hi x=>?_),S (u.y T),H.trans (T.mono H.size)⟩,Ji⟩;by_cases e:i=k
     .subst e;rw[D HF];simp
     .exact o i I x
   .have HD:=S (by rw[eq_comm,yZ];exact ho:Vt=decide (3<=(Y t k).k/\(Y t k).k<=5));have y:=S ho;go_wp2_with fail;go_call IZ (Y t k) _ Vt HD as e w3 ⟨rfl,M⟩;go_wp2;refine⟨⟨k+1,I,Jn,S (λi hi x=>?_),S (U.y M),K.trans (M.mono K.size)⟩,Ji⟩;by_cases e:i=k
    .subst e;exact yV x y
    .exact o i I x
  .have g:k=Z t:=I;go_wp2;go_ret;exact⟨⟨_,F,Zt ⟨HO,λi hi x=>o i I x⟩⟩,Q⟩
def Zb(w:JY)(N)(o:zD):=w.cell? (J N 0)=E (G o.k)/\w.cell? (J N 1)=E (W o.t)/\w.cell? (J N 2)=E (G o.a)/\w.cell? (J N 3)=E (G o.b)/\w.frozen? (J N 2)=Vt/\w.frozen? (J N 3)=Vt
def Zb.grown{row}(h:Zb w N o)(b:w.grownBy w' row)(H:row≠E N):Zb w' N o:=by
 obtain⟨a,d,g,i,j,k⟩:=h;have K:N<O w.1:=jl a;have c:=zJ b K H;have f:∀o,w'.frozen? (J N o)=w.frozen? (J N o):=λo=>yG (w:=w) (b.block N K (λe=>H e.symm))
 exact⟨(c 0).trans a,(c 1).trans d,(c 2).trans g,(c 3).trans i,(f 2).trans j,(f 3).trans k⟩
def Zb.y(h:Zb w N o)(a:Qb w w'):Zb w' N o:=h.grown (zH a JL) Js
def Zb.set2(h:Zb w N o)(v):Zb (w.setCell (J N 2) (G v)) N ⟨o.k,o.t,v,o.b⟩:=by
 obtain⟨a,b,d,e,f,g⟩:=h;have c:∀j,j≠2->(w.setCell (J N 2) (G v)).cell? (J N j)=w.cell? (J N j):=λj i=>yj _ _ _ _ (λx=>i (by injection x with _ x;exact x.symm))
 exact⟨(c 0 I).trans a,(c 1 I).trans b,yu _ _ _ d,(c 3 I).trans e,(yx).trans f,(yx).trans g⟩
def Zb.set3(h:Zb w N o)(v):Zb (w.setCell (J N 3) (G v)) N ⟨o.k,o.t,o.a,v⟩:=by
 obtain⟨a,b,d,e,f,g⟩:=h;have c:∀j,j≠3->(w.setCell (J N 3) (G v)).cell? (J N j)=w.cell? (J N j):=λj i=>yj _ _ _ _ (λx=>i (by injection x with _ x;exact x.symm))
 exact⟨(c 0 I).trans a,(c 1 I).trans b,(c 2 I).trans d,yu _ _ _ e,(yx).trans f,(yx).trans g⟩
def Zb.other{j}(h:Zb w N o)(v)(H:g≠N):Zb (w.setCell (J g j) v) N o:=
 h.grown (row:=E g) ⟨F,F,F,Jt,λi _ a=>jh _ _ _ _ (λe=>a (by rw[e]))⟩ (Ju H)
def A4(w:JY)(N)(p:Ad):=w.cell? (J N 0)=E (W p.s)/\w.cell? (J N 1)=E (G p.k)/\w.cell? (J N 2)=E (G p.l)/\w.cell? (J N 3)=E (G p.sd)
def A4.grown{o row}(h:A4 w N o)(f:w.grownBy w' row)(H:row≠E N):A4 w' N o:=by obtain⟨a,b,d,e⟩:=h;have K:N<O w.1:=jl a;have c:=zJ f K H;exact⟨(c 0).trans a,(c 1).trans b,(c 2).trans d,(c 3).trans e⟩
def A4.y{o}(h:A4 w N o)(a:Qb w w'):A4 w' N o:=h.grown (zH a JL) Js
def A4.other{j o}(h:A4 w N o)(v)(H:g≠N):A4 (w.setCell (J g j) v) N o:=
 h.grown (row:=E g) ⟨F,F,F,Jt,λi _ a=>jh _ _ _ _ (λe=>a (by rw[e]))⟩ (Ju H)
def Pq{d a}(h:Au w b off d)(m:w.grownBy w' a)(q:b<B)(p:B<=O w.1)(o:∀k,a=E k->B<=k):Au w' b off d:=λi n=>by obtain⟨f,g,j,l⟩:=h i n;have c:=zJ m (b:=b) I (λe=>Jy (o _ e));exact⟨(c _).trans f,(c _).trans g,(c _).trans j,(c _).trans l⟩
def mW{a}(h:Z2 w b off xs)(l:w.grownBy w' a)(p:b<B)(o:B<=O w.1)(n:∀k,a=E k->B<=k):Z2 w' b off xs:=λi m=>by obtain⟨d,f,g,j⟩:=h i m;have c:=zJ l (b:=b) I (λe=>Jy (n _ e));exact⟨(c _).trans d,(c _).trans f,(c _).trans g,(c _).trans j⟩
def Z5.base{b}(h:Z5 w B u b):∀g,u.ownBlock=E g->B<=g:=λg a=>(ji h g a).1
def Z5.other{j a}(h:Z5 w B u a)(v)(H:u.ownBlock≠E g):Z5 (w.setCell (J g j) v) B u a:=NH h g j v H
theorem V6(b):∀m i,i<=m->∃a,er b m=er b i++a
 |0,i,h=>by obtain rfl:i=0:=I;exact⟨[],F⟩
 |m+1,i,h=>by
  by_cases e:i=m+1
  .subst e;exact⟨[],Js⟩
  .obtain⟨a,hr⟩:=V6 b m i I;by_cases c:(Y b m).k=6
   .rw[Py c];exact⟨a,hr⟩
   .rw[Lw c,hr];exact⟨a++[BS b (Y b m)],Js⟩
def TG{m}(e:i<m)(d:(Y xs i).k≠6):Am xs i<Z (er xs m)/\Y (er xs m) (Am xs i)=BS xs (Y xs i):=by obtain⟨a,c⟩:=V6 xs m (i+1) e;have b:=D5 xs i;rw[Lw d]at c;rw[c];refine⟨by simp[b],?_⟩;unfold Y;simp[List.getD,List.getElem?_append,b]
def RI(a:(Y xs i).k≠6):Am xs (i+1)=Am xs i+1:=by show(if(Y xs i).k=6 then Am xs i else Am xs i+1)=_;rw[yS a]
def pF(a:(Y xs i).k=6):Am xs (i+1)=Am xs i:=by show(if(Y xs i).k=6 then Am xs i else Am xs i+1)=_;rw[yU a]
def Zf(a:List ZJ):JD:=a.flatMap λx=>[W x.t,i7 x.o,i7 x.i]
def Q3(a b):Zf (a++b)=Zf a++Zf b:=by simp[Zf]
theorem V7:∀(b:List ZJ)(i:Nat),i<Z b->(Zf b)[i*3]?=E (W (A1 b i).t)/\(Zf b)[i*3+1]?=E (i7 (A1 b i).o)/\(Zf b)[i*3+2]?=E (i7 (A1 b i).i)
 |[],i,h=>yV h (yz i)
 |o::a,0,_=>⟨F,F,F⟩
 |o::a,i+1,h=>by
  have c:=V7 a i (Ju h);have e:∀j,(Zf (o::a))[(i+1)*3+j]?=(Zf a)[i*3+j]?:=λj=>by have:(i+1)*3+j=(i*3+j)+3:=I;rw[this];rfl
  exact⟨(e 0).trans c.1,(e 1).trans c.2.1,(e 2).trans c.2.2⟩
def Mn(c):∀u∈Zf c,u.oneCell'=Vp:=by intro u b;simp only[Zf,List.mem_flatMap]at b;obtain⟨o,_,a⟩:=b;simp at a;rcases a with rfl|rfl|rfl<;>rfl
def MX:(prog.info? 126).map (λi=>(i.zero,i.size,i.bytes))=E (E (b9 #[W ⟨#[]⟩,i7 Vt,i7 Vt]),3,24):=Jk
theorem ND(w:JY)(x):∀j u,(Zf [x])[j]?=E u->(w.alloc (JM #[W x.t,i7 x.o,i7 x.i] 126)).cell? ((J (O w.1) 0).add j)=E u:=by intro j u a;rw[jO];have:=yF (w:=w.alloc (JM #[W x.t,i7 x.o,i7 x.i] 126)) (b:=O w.1) (jL w _) 0 3;exact this j u (by grind [Zf])
def C9(w:JY)(B:Nat)(u:Value)(a):=w.ownsRow B 126 3 u (Z a) (Zf a)
theorem Pg(h:C9 w B u us):∃a c,u=i6 a (Z us) c:=by obtain⟨_,⟨d,e⟩|⟨g,b,H,d,_⟩⟩:=h;all_goals grind
def C9.y(h:C9 w B u us)(a:Qb w w'):C9 w' B u us:=
 jD h (zH a JL) (by cases u.ownBlock with
 |none=>exact yW F
 |some k=>exact yX Js)
def C9.lt{w B u b}(h:C9 w B u b):∀g,u.ownBlock=E g->B<=g/\g<O w.1:=λg a=>ji h g a
def QD(w:JY)(g:Nat)(a):=∀i,i<Z a->w.cell? (J g (i*3))=E (W (A1 a i).t)/\w.cell? (J g (i*3+1))=E (i7 (A1 a i).o)/\w.cell? (J g (i*3+2))=E (i7 (A1 a i).i)
def QD.y{c}(h:QD w g c)(b:Below B w w')(a:g<B):QD w' g c:=λi j=>by obtain⟨d,e,f⟩:=h i j;exact⟨Jc b a d,Jc b a e,Jc b a f⟩
def C9.ops{c}(h:C9 w B (Ql g (Z us) c) us):QD w g us:=λi f=>by
 obtain⟨a,b,d⟩:=V7 us i f;have e:=λj (k:j<3)=>jK h (i*3+j) I
 exact⟨Ju ((e 0 I).trans a),Ju ((e 1 I).trans b),Ju ((e 2 I).trans d)⟩
def JW(w:JY)(B:Nat)(u:Value)(c)(x:Ending)(b:JY):=
 ∃a,x=.returned a/\Hid (C9 b B a c)/\Hid (w.grownBy b u.ownBlock)/\Hid (a.ownBlock=u.ownBlock\/∃k,a.ownBlock=E k/\O w.1<=k)
def JW.up{a}(h:Qb w a){x}(e:JW a B u vs x w'):JW w B u vs x w':=by obtain⟨g,rfl,f,c,d⟩:=e;have:=h.size;exact⟨g,F,f,S (ze h c),S (d.imp id (λ⟨k,b,i⟩=>⟨k,b,I⟩))⟩
def JW.join{c u1}(a:w.grownBy c u.ownBlock)(b:u1.ownBlock=u.ownBlock\/∃k,u1.ownBlock=E k/\O w.1<=k){x}(d:JW c B u1 vs x w'):JW w B u vs x w':=by obtain⟨h,rfl,e,f,g⟩:=d;exact⟨h,F,e,S (zi a f b),S (Ek a b _ g)⟩
def Xv{H a K b U}(d:b=a++CO ns o H (Z a) U)(c:K=a++U):(AY ns o<H->b=K++[⟨6,ByteArray.empty,(Z K:Int)-1,0⟩])/\(¬ AY ns o<H->b=K):=by
 constructor
 .intro h;rw[d,CO,yU h,c,yD,yr]
 .intro h;rw[d,CO,yS h,c]
def wU(b off cap bz offz cz j ns zs o H B u us vs w)(hm:Z ns<=1048576)(hw:Au w b off ns)(hb:b<B)(hd:Z2 w bz offz zs)(hs:bz<B)(hB:B<=O w.1)(q:Z5 w B u us)(hj:j<Z zs)(hq:Z zs<=20000)(ho:Y zs j=⟨o.k,o.t,0,0⟩)(hk:zY o.k=0)(hp:Z us<=90000)(n:vs=us++CO ns o H (Z us) [⟨o.k,o.t,0,0⟩]):Calls Vb 101 #[b9 #[Je b off (Z ns) cap],Je bz offz (Z zs) cz,G j,G H,u] w (EU w B u vs):=by
 have ht:(j:Int)<Z zs:=I;have hn:bz<O w.1:=I;obtain⟨h0,h1,h2,h3⟩:=hd j hj;rw[ho]at h0 h1 h2 h3;simp only at h0 h1 h2 h3;have hE:¬ (3<=o.k/\o.k<=5):=by intro h;have:o.k=3\/o.k=4\/o.k=5:=I;rcases this with e|e|e<;>rw[e]at hk<;>simp[zY]at hk
 have HD:=S (by rw[eq_comm,yZ];exact hE:Vt=decide (3<=o.k/\o.k<=5));have R:Hid (3<=o.k->o.k<=5->Ax ns o.t (o.k-2)≠JL):=λa b=>yV ⟨a,b⟩ hE
 obtain⟨K,p⟩:∃K,Hid (K=us++[⟨o.k,o.t,0,0⟩]):=⟨_,S F⟩;have hr:Z K<=90001:=by rw[D p,yr];simp;omega
 have i:=S (Xv n p);have f:=S q.base;have z:∀x,O w.1<=x->x<O w.1+3->u.ownBlock≠E x:=λx hx _ e=>Jy (q.lt _ e)
 obtain⟨a1,c1,rfl⟩:=Za q;obtain⟨u,hu⟩:=Jx (i6 a1 (Z us) c1);have hz:=S z;have ha:Hid (∀o1 o2 o3:Obj,Qb w (((w.alloc o1).alloc o2).alloc o3)):=λo1 o2 o3=>((@zC w o1).alloc Js o2).alloc Jq o3
 have hF:=S (by rw[hu]:EU w B (i6 a1 (Z us) c1) vs=EU w B u vs);rw[D hF];have L:=S hu;go_enter func101,ntmps101;go_wp2_with fail;go_call IZ ⟨o.k,o.t,0,0⟩ _ Vt HD as e w1 ⟨rfl,hb1⟩;have Q:Qb w w1:=((ha) _ _ _).trans (hb1.mono Jq);have hh:=S (q.y Q);have t:Hid (w.grownBy w1 u.ownBlock):=zH Q _;have hv:Hid ((i6 a1 (Z us) c1).ownBlock=u.ownBlock\/∃k,(i6 a1 (Z us) c1).ownBlock=E k/\O w.1<=k):=yW (by rw[D L]);rw[<-D L]at f;have g:Hid (w1.cell? (J (O w.1) 0)=E (Je b off (Z ns) cap)):=Jc hb1 Jh Jg;have s:Hid (Zb w1 (O w.1+1) ⟨o.k,o.t,0,0⟩):=Zb.y ⟨Jg,Jg,Jg,Jg,Jg,Jg⟩ hb1;have M:Hid (Zb w1 (O w.1+1+1) ⟨o.k,o.t,0,0⟩):=Zb.y ⟨Jg,Jg,Jg,Jg,Jg,Jg⟩ hb1;have z1:=Q.size;obtain⟨mk0,mk1,mk2,mk3,_,_⟩:=D M;simp only at mk0 mk1 mk2 mk3;go_wp2_with (at_builtin;refine As BB underlying38 (.tmp 56) (.tmp 58) F rfl B _ (Z us) (zO us) F (hh.y zC) (J (O (w1).1) 0) 1 1 (zO [⟨o.k,o.t,0,0⟩]) F rfl (Ju (Zh (w1) ⟨o.k,o.t,0,0⟩)) (zf _) Jm I (by first|omega|(have:=t.size;simp at this ⊢;omega)) ?_);intro v4 w4 d X hg hy;have P:Z5 w4 B v4 (us++[⟨o.k,o.t,0,0⟩]):=by unfold Z5;rw[Zp,yr];exact d
 rw[<-D p]at P;have C:=S (ze (@zC (w1) _) X);have hi:Hid (v4.ownBlock=(i6 a1 (Z us) c1).ownBlock\/∃k,v4.ownBlock=E k/\O (w1).1<=k):=hy.imp id (λh=>⟨_,h,by first|exact yk|simp⟩);have v:=S (zi t C hv);have V:=S (Ek t hv v4.ownBlock hi);have hA:=S (s.grown C (D hz _ I I));have t4:=(zJ C (b:=O w.1) (jl g) (D hz _ I I) 0).trans g;have T:=S (Pq hw v hb hB f);have z4:=v.size;obtain⟨n0,n1,n2,n3,_,_⟩:=D hA;simp only at n0 n1 n2 n3;obtain⟨a4,c4,rfl⟩:=Za P;have hf:=S P;go_wp2_with fail;go_call O4 b off cap ns ⟨o.k,o.t,0,0⟩ _ hm T I R as e w5 ⟨rfl,hb5⟩;have he:AY ns ⟨o.k,o.t,0,0⟩=AY ns o:=F;rw[he];have A:=S (zi v (zH hb5 u.ownBlock) (yW F));have l:=S (hf.y hb5);have z5:=yy z4 hb5.size;by_cases hl:AY ns o<H
 .have U:=S (i.1 I);go_wp2_with (at_builtin;refine As BB underlying38 (.tmp 65) (.tmp 70) F rfl B _ (Z K) (zO K) F (l.y zC) (J (O w5.1) 0) 1 1 (zO [⟨6,⟨#[]⟩,(Z K:Int)-1,0⟩]) F rfl (Ju (Zh w5 ⟨6,⟨#[]⟩,(Z K:Int)-1,0⟩)) (zf _) ?b4 ?b5 ?b6 ?next2);case b4=>exact Jm
  case b5=>omega
  case b6=>first|omega|(simp;omega)
  case next2=>
   intro v6 w6 c y hc m;have hD:=S (show Z5 w6 B v6 vs by
    rw[D U]
    unfold Z5
    rw[Zp,yr]
    exact c)
   have hC:=S (ze (@zC w5 _) y);have hG:=S (zi A hC V);have N:=S (Ek A V v6.ownBlock (m.imp id (λh=>⟨_,h,by first|exact yk|simp⟩)));go_wp2;go_ret;exact⟨v6,F,hD,hG,N⟩
 .have U:=S (i.2 I);go_wp2;go_ret;exact⟨_,F,by rw[D U];exact l,A,V⟩
def Zb.as{o'}(h:Zb w N o)(e:o'=o):Zb w N o':=by rw[e];exact h
def bY(b off cap bz offz cz j ja jb jj:Nat)(ns zs o c kb B u us K qe vs w)(hm:Z ns<=1048576)(hW:ZO ns)(hw:Au w b off ns)(hb:b<B)(h6:Z2 w bz offz zs)(Hh:bz<B)(hB:B<=O w.1)(A:Z5 w B u us)(hj:j<Z zs)(Hn:Z zs<=20000)(ho:Y zs j=⟨o.k,o.t,(ja:Int),(jb:Int)⟩)(qg:Zx o)(hf:Ax ns o.t (o.k-2)=E jj)(Hl:Z qe<=90000)(Hm:Z K<=90000){U}(hG:qe=us++U)(hs:vs=us++CO ns o c (Z us) (U++[⟨o.k,o.t,(Z K:Int)-1,kb⟩]))(hc:∀qd,Au qd b off ns->Z2 qd bz offz zs->B<=O qd.1->Z5 qd B u us->Calls Vb 101 #[b9 #[Je b off (Z ns) cap],Je bz offz (Z zs) cz,G ja,G (Zn (r ns jj).s (r ns jj).k (r ns jj).l (r ns jj).sd Vt),u] qd (EU qd B u K))(hk:(zY o.k=1/\qe=K/\kb=0)\/(zY o.k=2/\kb=(Z qe:Int)-1/\∀u' qd,Au qd b off ns->Z2 qd bz offz zs->B<=O qd.1->Z5 qd B u' K->Calls Vb 101 #[b9 #[Je b off (Z ns) cap],Je bz offz (Z zs) cz,G jb,G (Zn (r ns jj).s (r ns jj).k (r ns jj).l (r ns jj).sd Vp),u'] qd (EU qd B u' qe))):Calls Vb 101 #[b9 #[Je b off (Z ns) cap],Je bz offz (Z zs) cz,G j,G c,u] w (EU w B u vs):=by
 obtain⟨nd,hz⟩:∃nd:zD,nd=⟨o.k,o.t,(Z K:Int)-1,kb⟩:=⟨_,F⟩;rw[<-hz]at hs;obtain⟨a,f⟩:∃a,Hid (a=us++(U++[nd])):=⟨_,S F⟩;have s:a=qe++[nd]:=by rw[D f,<-yD,<-hG]
 have Ho:Z a<=90001:=by rw[s,yr];simp;omega
 have Hp:(j:Int)<Z zs:=I;have h7:bz<O w.1:=I;have hQ:b<O w.1:=I;obtain⟨h0,h1,h2,h3⟩:=h6 j hj;rw[ho]at h0 h1 h2 h3;simp only at h0 h1 h2 h3;have HD:=S (by rw[eq_comm,decide_eq_true_iff];exact qg:Vp=decide (3<=o.k/\o.k<=5));have hU:=qg.1;have hV:=qg.2;have HF:=S hf;have hS:=(ED hf).1;have hA:=S (hW jj hS);have Hb:Hid (3<=o.k->o.k<=5->Ax ns o.t (o.k-2)≠JL):=λ_ _=>by rw[hf];simp
 have hD:=S (Xv hs f);have N:=S A.base;have T:∀x,O w.1<=x->u.ownBlock≠E x:=λx hx e=>Jy (A.lt _ e)
 obtain⟨a0,c0,rfl⟩:=Za A;obtain⟨u,hu⟩:=Jx (i6 a0 (Z us) c0);have l:=S T;have h5:=S h6;have hE:Hid (∀o1 o2 o3:Obj,Qb w (((w.alloc o1).alloc o2).alloc o3)):=λo1 o2 o3=>((@zC w o1).alloc Js o2).alloc Jq o3
 have hO:=S (by rw[hu]:EU w B (i6 a0 (Z us) c0) vs=EU w B u vs);rw[D hO];have hI:=S hu;rw[<-hu]at N;have HC:=S hc;have HK:=S hk;have hC:=S hz;have Hg:=S s;clear hk hG f s hz;clear h6 ho hs T hu hO hc qg hf;go_enter func101,ntmps101;go_wp2_with fail;go_call IZ ⟨o.k,o.t,(ja:Int),(jb:Int)⟩ _ Vp HD as e w1 ⟨rfl,hb1⟩;have C:Qb w w1:=((hE) _ _ _).trans (hb1.mono Jq);have t1:w1.cell? (J (O w.1) 0)=E (Je b off (Z ns) cap):=Jc hb1 Jh Jg;have hq:Hid (Zb w1 (O w.1+1) ⟨o.k,o.t,(ja:Int),(jb:Int)⟩):=Zb.y ⟨Jg,Jg,Jg,Jg,Jg,Jg⟩ hb1;have hN:Hid (Zb w1 (O w.1+1+1) ⟨o.k,o.t,0,0⟩):=Zb.y ⟨Jg,Jg,Jg,Jg,Jg,Jg⟩ hb1;have z1:O w.1+3<=O w1.1:=Jz hb1.size
 obtain⟨n0,n1,n2,n3,_,_⟩:=D hq;simp only at n0 n1 n2 n3;clear hb1 hE;go_wp2_with fail;go_call Rt b off cap ns ⟨o.k,o.t,(ja:Int),(jb:Int)⟩ jj _ hm (hw.y C hQ) I hU hV HF as e w2 ⟨rfl,hb2⟩;have L:=C.trans (hb2.mono C.size);have z2:O w.1+3<=O w2.1:=yy z1 hb2.size;have m:Qb w2 (w2.alloc (JM #[W (r ns jj).s,G (r ns jj).k,G (r ns jj).l,G (r ns jj).sd] 25)).drew:=(zC).drew;have H:Hid ((w2.alloc (JM #[W (r ns jj).s,G (r ns jj).k,G (r ns jj).l,G (r ns jj).sd] 25)).drew.cell? (J (O w.1) 0)=E (Je b off (Z ns) cap)):=(m.cell (p:=J (O w.1) 0) (show O w.1<O w2.1 by omega)).trans ((hb2.cell (p:=J (O w.1) 0) (show O w.1<O w1.1 by omega)).trans t1);have Q:=S ((hq.y hb2).y m);have X:=S ((hN.y hb2).y m);have q:Hid (A4 (w2.alloc (JM #[W (r ns jj).s,G (r ns jj).k,G (r ns jj).l,G (r ns jj).sd] 25)).drew (O w2.1) (r ns jj)):=A4.y (w:=w2.alloc (JM #[W (r ns jj).s,G (r ns jj).k,G (r ns jj).l,G (r ns jj).sd] 25)) ⟨Jg,Jg,Jg,Jg⟩ (yN).drew;have V:=S (L.trans (m.mono L.size));replace A:=S (A.y V);have ha:=S (Js:O w2.1+1<=(w2.alloc (JM #[W (r ns jj).s,G (r ns jj).k,G (r ns jj).l,G (r ns jj).sd] 25)).drew.heap.size);clear hb2 m t1 hq hN n0 n1 n2 n3 C L;go_wp2_with fail;go_region_held (λw'=>w'.cell? (J (O w.1) 0)=E (Je b off (Z ns) cap)/\w'.cell? (J (O w.1+1) 2)=E (G ja)/\w'.cell? (J (O w2.1) 0)=E (W (r ns jj).s)/\w'.cell? (J (O w2.1) 1)=E (G (r ns jj).k)/\w'.cell? (J (O w2.1) 2)=E (G (r ns jj).l)/\w'.cell? (J (O w2.1) 3)=E (G (r ns jj).sd)) (first|(go_keep;done)|exact⟨H,Q.2.2.1,q.1,q.2.1,q.2.2.1,q.2.2.2⟩)
  (first|(go_at_call 148;refine(OY (r ns jj).s (r ns jj).k (r ns jj).l (r ns jj).sd Vt _ hA).mono ?_;rintro e w3 ⟨rfl,hb3⟩;have n:=hb3;replace H:=S (Jc hb3 (jl H) H);replace Q:=S (Q.y hb3);replace X:=S (X.y hb3);replace q:=S (q.y hb3);replace A:=S (A.y hb3);replace V:=S (V.trans (n.mono V.size));replace ha:=S (yy ha hb3.size);clear hb3 n)|(go_at_call 101;refine(HC _ (hw.y V hQ) (h5.y V h7) (yy hB V.size) A).mono ?_;rintro x w5 ⟨u1,rfl,hr5,hg5,ho5⟩;replace H:=S ((zJ hg5 (b:=O w.1) (jl H) (l _ I) 0).trans H);replace Q:=S (Q.grown hg5 (l _ I));replace X:=S (X.grown hg5 (l _ I));replace q:=S (q.grown hg5 (l _ I));have y:=S (ze V hg5);have qb:=S (ho5.imp id (λ⟨k,h1,h2⟩=>⟨k,h1,yy ha h2⟩):u1.ownBlock=(i6 a0 (Z us) c0).ownBlock\/∃k,u1.ownBlock=E k/\O w2.1+1<=k);obtain⟨a1,c1,rfl⟩:=Za hr5;have P:=hr5;clear hg5 ho5 hr5 A V))
 rw[<-D hI]at y qb;have v:=S (show ∀x,O w.1<=x->x<O w2.1+1->(i6 a1 (Z K) c1).ownBlock≠E x from λx hx h4 e=>by
  rcases D qb with h|⟨k,h1,h2⟩
  .exact l x hx (by rw[<-D hI,<-h];exact e)
  .rw[h1]at e;injection e with e;omega)
 have qa:Hid (∀x,O w.1<=x->x<O w.1+3->(i6 a1 (Z K) c1).ownBlock≠E x):=λx hx h4=>v x hx I
 have d:Hid ((i6 a1 (Z K) c1).ownBlock=u.ownBlock\/∃k,(i6 a1 (Z K) c1).ownBlock=E k/\O w.1<=k):=qb.imp id (λ⟨k,h1,h2⟩=>⟨k,h1,I⟩);have mc:=D X;obtain⟨mm0,mm1,mm2,mm3,mm4,mm5⟩:=mc;simp only at mm0 mm1 mm2 mm3;have nc:=D Q;obtain⟨nn0,nn1,nn2,nn3,_,_⟩:=nc;simp only at nn0 nn1 nn2 nn3;have n0':(w5.setCell (J (O w.1+1+1) 2) (G ((Z K:Int)-1))).cell? (J (O w.1+1) 0)=E (G o.k):=(yj _ _ _ _ (λx=>by injection x with x1;omega)).trans nn0;replace X:=S (X.set2 ((Z K:Int)-1));replace Q:=S (Q.other (g:=O w.1+1+1) (j:=2) (G ((Z K:Int)-1)) I);replace H:=S ((yj w5 (J (O w.1+1+1) 2) (J (O w.1) 0) (G ((Z K:Int)-1)) (λx=>by injection x with x1;omega)).trans H);replace P:=S (P.other (g:=O w.1+1+1) (j:=2) (G ((Z K:Int)-1)) (qa _ I I));replace y:=S (zi y (⟨F,F,F,Jt,λi _ hi=>jh _ _ _ _ (λe=>hi (by rw[e]))⟩:w5.grownBy (w5.setCell (J (O w.1+1+1) 2) (G ((Z K:Int)-1))) (E (O w.1+1+1))) (yX ⟨_,F,I⟩));rcases D HK with⟨M,hJ,hn⟩|⟨M,hn,h8⟩;focus
  subst hJ
  have hp:=S M
  have hK:=S (X.as (o':=nd) (by rw[D hC,hn]))
 rotate_left
 focus
  have hp:=S M
  have hY:=S h8
  clear M h8
  replace q:=S (q.other (g:=O w.1+1+1) (j:=2) (G ((Z K:Int)-1)) I)
  have t:Hid (O w2.1+1<=O w5.1):=ym (by have:=jl q.1;simpa[World.setCell] using this) yk
  clear nn0 nn1 nn2 nn3 mm0 mm1 mm3 mm5 HC n0'
  replace H:=S ((show Below (w5.setCell (J (O w.1+1+1) 2) (G ((Z K:Int)-1))).heap.size (w5.setCell (J (O w.1+1+1) 2) (G ((Z K:Int)-1))) (w5.setCell (J (O w.1+1+1) 2) (G ((Z K:Int)-1))).drew from(yN).drew).cell (p:=J (O w.1) 0) (jl H) |>.trans H)
  replace Q:=S (Q.y (yN).drew)
  replace X:=S (X.y (yN).drew)
  replace q:=S (q.y (yN).drew)
  replace P:=S (P.y (yN).drew)
  replace y:=S (zi y (zH ((yN).drew) u.ownBlock) (yW F))
  replace t:=S (by have:=D t;simpa[World.setCell] using this:O w2.1+1<=(w5.setCell (J (O w.1+1+1) 2) (G ((Z K:Int)-1))).drew.heap.size)
  have n0':(w5.setCell (J (O w.1+1+1) 2) (G ((Z K:Int)-1))).cell? (J (O w.1+1) 0)=E (G o.k):=Q.1
  go_wp2_with (go_at_call 103;refine(zV hp 2 F _).mono ?_;rintro e w' ⟨rfl,rfl⟩)
  clear n0' mm2 mm4
  go_region_held (λw'=>w'.cell? (J (O w.1) 0)=E (Je b off (Z ns) cap)/\w'.cell? (J (O w.1+1) 3)=E (G jb)/\w'.cell? (J (O w2.1) 0)=E (W (r ns jj).s)/\w'.cell? (J (O w2.1) 1)=E (G (r ns jj).k)/\w'.cell? (J (O w2.1) 2)=E (G (r ns jj).l)/\w'.cell? (J (O w2.1) 3)=E (G (r ns jj).sd)) (first|(go_keep;done)|exact⟨H,Q.2.2.2.1,q.1,q.2.1,q.2.2.1,q.2.2.2⟩)
   (first|(go_at_call 148;refine(OY (r ns jj).s (r ns jj).k (r ns jj).l (r ns jj).sd Vp _ hA).mono ?_;rintro e w6 ⟨rfl,hb3⟩;have n:=hb3;replace H:=S (Jc hb3 (jl H) H);replace Q:=S (Q.y hb3);replace X:=S (X.y hb3);replace q:=S (q.y hb3);replace P:=S (P.y hb3);replace y:=S (zi y (zH hb3 u.ownBlock) (yW F));replace t:=S (yy t hb3.size);clear hb3 n)|(go_at_call 101;refine(hY _ _ (Pq hw y hb hB N) (mW h5 y Hh hB N) (yy hB y.size) P).mono ?_;rintro x w7 ⟨u2,rfl,hr7,hg7,ho7⟩;replace H:=S ((zJ hg7 (b:=O w.1) (jl H) (v _ I I) 0).trans H);replace Q:=S (Q.grown hg7 (v _ I I));replace X:=S (X.grown hg7 (v _ I I));replace q:=S (q.grown hg7 (v _ I I));replace y:=S (zi y hg7 d);have hd:=S (ho7.imp id (λ⟨k,h1,h2⟩=>⟨k,h1,yy t h2⟩):u2.ownBlock=(i6 a1 (Z K) c1).ownBlock\/∃k,u2.ownBlock=E k/\O w2.1+1<=k);obtain⟨a1,c1,rfl⟩:=Za hr7;replace P:=hr7;clear hg7 ho7 hr7))
  have z:=S (show ∀x,O w.1<=x->x<O w.1+3->(i6 a1 (Z qe) c1).ownBlock≠E x from λx hx h4 e=>by
   rcases D hd with h|⟨k,h1,h2⟩
   .exact qa x hx h4 (by rw[<-h];exact e)
   .rw[h1]at e;injection e with e;omega)
  have qf:=S (show(i6 a1 (Z qe) c1).ownBlock=u.ownBlock\/∃k,(i6 a1 (Z qe) c1).ownBlock=E k/\O w.1<=k by
   rcases D hd with h|⟨k,h1,h2⟩
   .rw[h];exact d
   .exact yX ⟨k,h1,I⟩)
  clear qa d v qb hd
  have qa:=z
  have d:=qf
  clear z qf
  obtain⟨mm0,mm1,mm2,mm3,mm4,mm5⟩:=D X
  simp only at mm0 mm1 mm2 mm3
  replace X:=S (X.set3 ((Z qe:Int)-1))
  replace Q:=S (Q.other (g:=O w.1+1+1) (j:=3) (G ((Z qe:Int)-1)) I)
  replace H:=S ((yj w7 (J (O w.1+1+1) 3) (J (O w.1) 0) (G ((Z qe:Int)-1)) (λx=>by injection x with x1;omega)).trans H)
  replace P:=S (P.other (g:=O w.1+1+1) (j:=3) (G ((Z qe:Int)-1)) (qa _ I I))
  replace y:=S (zi y (⟨F,F,F,Jt,λi _ hi=>jh _ _ _ _ (λe=>hi (by rw[e]))⟩:w7.grownBy (w7.setCell (J (O w.1+1+1) 3) (G ((Z qe:Int)-1))) (E (O w.1+1+1))) (yX ⟨_,F,I⟩))
  have hK:=S (X.as (o':=nd) (by rw[D hC,hn]))
 all_goals
  have Hc:=Q
  have h9:=H
  clear X Q H q l h5
  obtain⟨mk0,mk1,mk2,mk3,_,_⟩:=D hK
  go_wp2_with (first|(go_at_call 103;refine(zV hp 1 F _).mono ?_;rintro e w' ⟨rfl,rfl⟩)|(at_builtin;refine As BB underlying38 (.tmp 56) (.tmp 58) F rfl B _ (Z qe) (zO qe) F (P.y zC) _ 1 1 (zO [nd]) F rfl (GH _ _ nd Jt) (zf _) Jm I (by first|omega|(have:=y.size;simp at this ⊢;omega)) ?_))
  intro v4 w4 hy R Hk hF
  have hM:Z5 w4 B v4 a:=Mz Hg hy
  have hh:=S (ze zC R)
  have hr:=S (zi y hh d)
  have he:=S (Ek y d v4.ownBlock (hF.imp id (λh=>⟨_,h,by first|exact yk|simp⟩)))
  have hZ:=S (Hc.grown hh (D qa _ I I))
  have t4:w4.cell? (J (O w.1) 0)=E (Je b off (Z ns) cap):=(zJ hh (b:=O w.1) (jl h9) (D qa _ I I) 0).trans h9
  have Hf:=S (Pq hw hr hb hB N)
  have z4:=hr.size
  obtain⟨n0,n1,n2,n3,_,_⟩:=D hZ
  simp only at n0 n1 n2 n3
  obtain⟨a4,c4,rfl⟩:=Za hM
  have Hj:=S hM
  go_wp2_with fail
  go_call O4 b off cap ns ⟨o.k,o.t,(ja:Int),(jb:Int)⟩ _ hm Hf I Hb as e w5 ⟨rfl,hb5⟩
  have Hi:AY ns ⟨o.k,o.t,(ja:Int),(jb:Int)⟩=AY ns o:=F
  rw[Hi]
  have hg:=S (zi hr (zH hb5 u.ownBlock) (yW F))
  have hH:=S (Hj.y hb5)
  have z5:O w.1<=O w5.1:=yy z4 hb5.size
  by_cases hl:AY ns o<c
  .have ht:=S (hD.1 I)
   go_wp2_with (at_builtin;refine As BB underlying38 (.tmp 65) (.tmp 70) F rfl B _ (Z a) (zO a) F (hH.y zC) (J (O w5.1) 0) 1 1 (zO [⟨6,⟨#[]⟩,(Z a:Int)-1,0⟩]) F rfl (Ju (Zh w5 ⟨6,⟨#[]⟩,(Z a:Int)-1,0⟩)) (zf _) Jm I Jh ?_)
   intro v6 w6 hv qc hX hP
   have He:=S (Mz ht hv)
   have Hd:=S (ze (@zC w5 _) qc)
   have Ha:=S (zi hg Hd he)
   have hR:=S (Ek hg he v6.ownBlock (hP.imp id (λh=>⟨_,h,by first|exact yk|simp⟩)))
   go_wp2
   go_ret
   exact⟨v6,F,He,Ha,hR⟩
  .have ht:=S (hD.2 I)
   go_wp2
   go_ret
   exact⟨_,F,by rw[D ht];exact hH,hg,he⟩
def N2(h:Zk xs)(a:1<=i):1<=Am xs i:=by have:=Xd xs 1 i a;rw[VA h]at this;exact this
theorem Nf(b off cap bz offz cz ns xs zs)(hm:Z ns<=1048576)(p:ZO ns)(K:Zk xs)(v:DM ns xs)(Q:zs=er xs (Z xs)):∀n i f,i<n->i<Z xs->AU xs i=E f->∀(j:Nat)(H:Int)(B:Nat)(u:Value)(us vs:Jj)(w:JY),j+1=Am xs (i+1)->Au w b off ns->b<B->Z2 w bz offz zs->bz<B->B<=O w.1->Z5 w B u us->Z us+2*(i+1-f)<=80000->vs=us++gS ns xs i H (Z us) ->
  Calls Vb 101 #[b9 #[Je b off (Z ns) cap],Je bz offz (Z zs) cz,G j,G H,u] w (EU w B u vs)
 |0,_,_,h,_,_=>yV h (yz _)
 |n+1,i,f,h,hi,hf=>by
  intro j H B u us vs w hj hw hb s y hB hn hp k;have t:Z zs<=20000:=by rw[Q,D5];have:=GQ xs (Z xs);have:=K.2.1;omega
  have M:Zx (Y xs i)->∃j,Ax ns (Y xs i).t ((Y xs i).k-2)=E j:=λho=>by
   cases e:Ax ns (Y xs i).t ((Y xs i).k-2) with
   |none=>exact yV e (v i hi ho)
   |some j=>exact⟨j,F⟩
  rcases Ge hf with⟨hk,ha,L,hc⟩|⟨hk,P,ha,L,q⟩|⟨hk,P,L,f2,d,N,ha,q⟩
  .have h6:(Y xs i).k≠6:=λe=>by rw[e]at hk;simp[zY]at hk
   obtain⟨X,x⟩:=TG (m:=Z xs) hi h6;rw[RI h6]at hj;have ej:j=Am xs i:=I;subst ej;rw[<-Q]at X x;refine wU b off cap bz offz cz _ ns zs (Y xs i) H B u us vs w hm hw hb s y hB hn X t ?_ hk I ?_
   .rw[x];simp[BS,hk]
   .rw[k,LB hk]
  .have hg:=Ct q;have o:=N2 K P;have l:i-1+1=i:=I;have hh:=E3 ns xs i (i-1) f I q;by_cases h6:(Y xs i).k=6
   .refine Nf b off cap bz offz cz ns xs zs hm p K v Q n (i-1) f I I q j H B u us vs w ?_ hw hb s y hB hn I ?_
    .rw[hj,pF h6,l]
    .rw[k,My h6 P q]
   .obtain⟨X,x⟩:=TG (m:=Z xs) hi h6;rw[RI h6]at hj;have ej:j=Am xs i:=I;subst ej;rw[<-Q]at X x;have C:Zx (Y xs i):=by
     unfold zY at hk;unfold Zx;split at hk
     .omega
     .split at hk<;>omega
    obtain⟨jj,a⟩:=M C;have he:∀bb,zl ns (Y xs i) bb=Zn (r ns jj).s (r ns jj).k (r ns jj).l (r ns jj).sd bb:=λbb=>by unfold zl;rw[a];rfl
    obtain⟨U,hU⟩:=Jx (gS ns xs (i-1) (zl ns (Y xs i) Vt) (Z us));have g:=(hh (zl ns (Y xs i) Vt) (Z us)).2;rw[<-hU]at g;refine bY b off cap bz offz cz _ (Am xs i-1) 0 jj ns zs (Y xs i) H 0 B u us (us++U) (us++U) vs w hm p hw hb s y hB hn X t ?_ C a (by rw[yr];omega) (by rw[yr];omega) F ?_ ?_ (yW ⟨hk,F,F⟩)
    .rw[x];have e1:((i:Int)-1).toNat+1=i:=I;unfold BS Fp;rw[hk,ha,e1,yS Jd,yS Jd];congr 1<;>omega
    .rw[k,LL hk h6 P q H (Z us) hU,yr]
    .intro hl hW V c A;rw[<-he Vt];exact Nf b off cap bz offz cz ns xs zs hm p K v Q n (i-1) f I I q (Am xs i-1) _ B u us _ hl (by rw[l];omega) hW hb V y c A I (by rw[hU])
  .have hg:=Ct d;have T:=Ct q;have o:=N2 K P;have hd:=N2 K N;have l:i-1+1=i:=I;have hq:f2-1+1=f2:=I;have h6:(Y xs i).k≠6:=λe=>by rw[e]at hk;simp[zY]at hk
   obtain⟨X,x⟩:=TG (m:=Z xs) hi h6;rw[RI h6]at hj;have ej:j=Am xs i:=I;subst ej;rw[<-Q]at X x;have C:Zx (Y xs i):=by
    unfold zY at hk;unfold Zx;split at hk
    .omega
    .split at hk<;>omega
   obtain⟨jj,a⟩:=M C;have he:∀bb,zl ns (Y xs i) bb=Zn (r ns jj).s (r ns jj).k (r ns jj).l (r ns jj).sd bb:=λbb=>by unfold zl;rw[a];rfl
   obtain⟨U,hU⟩:=Jx (gS ns xs (f2-1) (zl ns (Y xs i) Vt) (Z us));obtain⟨U2,z⟩:=Jx (gS ns xs (i-1) (zl ns (Y xs i) Vp) (Z us+Z U));have g:=(E3 ns xs i (f2-1) f I q (zl ns (Y xs i) Vt) (Z us)).2;have R:=(E3 ns xs i (i-1) f2 I d (zl ns (Y xs i) Vp) (Z us+Z U)).2;rw[<-hU]at g;rw[<-z]at R;refine bY b off cap bz offz cz _ (Am xs f2-1) (Am xs i-1) jj ns zs (Y xs i) H _ B u us (us++U) (us++U++U2) vs w hm p hw hb s y hB hn X t ?_ C a (by rw[yr,yr];omega) (by rw[yr];omega) (yD _ _ _) ?_ ?_ (yX ⟨hk,F,?_⟩)
   .rw[x];have e1:((i:Int)-1).toNat+1=i:=I;have e2:((f2:Int)-1).toNat+1=f2:=I;unfold BS Fp;rw[hk,ha,L,e1,e2,yS Jd,yU rfl];congr 1<;>omega
   .rw[k,MP hk P d N ha q H (Z us) hU z];simp only[yr]
   .intro hl hW V c A;rw[<-he Vt];exact Nf b off cap bz offz cz ns xs zs hm p K v Q n (f2-1) f I I q (Am xs f2-1) _ B u us _ hl (by rw[hq];omega) hW hb V y c A I (by rw[hU])
   .intro u' hl hW V c A;rw[<-he Vp];exact Nf b off cap bz offz cz ns xs zs hm p K v Q n (i-1) f2 I I d (Am xs i-1) _ B u' (us++U) _ hl (by rw[l];omega) hW hb V y c A (by rw[yr];omega) (by rw[z,yr])
def dE(b a f k H l d)(p:Jj)(w)(n:Z d<=1048576)(o:Au w b a d)(q:ZO d)(m:b<O w.1)(i:¬ zM d 0):Calls Vb 100 #[b9 #[Je b a (Z d) f],b9 #[Je k H (Z p) l]] w λe w'=>e=.returned (i7 Vt)/\Qb w w':=by
 have j:=S i;clear i;go_enter func100,ntmps100;go_wp2_with fail;go_call Lc b a f d _ n (o.y ((zC).alloc Js _) m) q Jq as e s ⟨⟨c,rfl,h⟩,g⟩;have Q:(c != 0)=Vp:=by rw[bne_iff_ne];intro e;exact(D j) (e ▸ h)
 have K:Qb w s:=((zC).alloc Js _).trans (g.mono Jq);clear h g;go_wp2;go_ret;exact⟨F,K⟩
def dF(b a f g H j c d w)(l:Z c<=1048576)(X:Z d<=1048576)(m:Au w b a c)(K:ZO c)(k:b<O w.1)(q:Z2 w g H d)(Q:C5 d)(x:g<O w.1):Calls Vb 100 #[b9 #[Je b a (Z c) f],b9 #[Je g H (Z d) j]] w λe w'=>Bj e (zM c 0/\Zk d/\DM c d)/\Qb w w':=by
 by_cases i:zM c 0
 .go_call cW b a f g H j c d w l X m K k q Q x i as e w' ⟨⟨v,rfl,hv⟩,hb⟩;exact⟨⟨v,F,⟨λh=>⟨i,hv.1 h⟩,λh=>hv.2 h.2⟩⟩,hb⟩
 .go_call dE b a f g H j c d w l m K k i as e w' ⟨rfl,hb⟩;exact⟨⟨Vt,F,zT (λh=>i h.1)⟩,hb⟩
def Q4(b off cap bn H cn ns xs w)(hm:Z ns<=1048576)(m:Z xs<=1048576)(hw:Au w b off ns)(L:ZO ns)(hB:b<O w.1)(he:Z2 w bn H xs)(z:C5 xs)(B:bn<O w.1):Calls Vb 61 #[b9 #[Je b off (Z ns) cap],b9 #[Je bn H (Z xs) cn]] w λe w'=>(∃(a:Option Addr)(c:Nat)(us:Jj)(v:Bool),e=.returned (i5 #[b9 #[.slice a (Z us) c],i7 v])/\Hid (ZS w' (O w.1) a us)/\Hid (JK ns xs us v))/\Below (O w.1) w w':=by
 have u:Hid (∀o1 o2 o3:Obj,Below (O w.1) w (((w.alloc o1).alloc o2).alloc o3)):=λo1 o2 o3=>((@zC w o1).alloc Js o2).alloc Jq o3
 go_enter func61,ntmps61;go_wp2_with fail;go_call dF b off cap bn H cn ns xs _ hm m (hw.y (u _ _ _) hB) L Jq (he.y (u _ _ _) B) z Jq as e w1 ⟨⟨v,rfl,hv⟩,hb1⟩;have HV:=S hv;have q:Below (O w.1) w w1:=((u) _ _ _).trans (hb1.mono Jq);have z1:O w.1+3<=O w1.1:=Jz hb1.size
 have hn:=S (show Cs [(O w.1,0,Je b off (Z ns) cap),(O w.1+1,0,Je bn H (Z xs) cn),(O w.1+1+1,0,Jl)] w1 from Cs.y (λp hp=>by
  simp only[jH,List.not_mem_nil,or_false]at hp
  rcases hp with rfl|rfl|rfl
  .simp[go_sem]
  .simp[go_sem]
  .simp[go_sem]) hb1)
 have d1:w1.frozen? (J (O w.1+1+1) 0)=Vt:=(hb1.frozen (p:=(J (O w.1+1+1) 0)) Js).trans Jg;have c0:=(D hn) (O w.1,0,Je b off (Z ns) cap) Js;have c1:=(D hn) (O w.1+1,0,Je bn H (Z xs) cn) Js;have c2:=(D hn) (O w.1+1+1,0,Jl) Js;simp only at c0 c1 c2;clear hv hb1 u;cases v
 .have HF:Hid (∀hl:JY,hl=w1.setCell (J (O w.1+1+1) 0) Jl->Below (O w.1) w hl):=λhl hW=>by rw[hW];exact q.setCell Jq _
  go_wp2_with fail;refine yQ (v:=i5 #[b9 #[Jl],i7 Vt]) ?res F ⟨⟨JL,0,[],Vt,F,S (yW ⟨F,F⟩),S (yX ⟨λh=>jq (HV.2 h.1),F,F⟩)⟩,HF _ F⟩;case res=>simp[results,results61,go_sem,c2]
 have HY:=S (HV.1 F);clear HV;have hs:=HY.2.1.2.1;have h1:=HY.2.1.1;go_wp2_with fail;go_call TX bn H cn xs _ m (he.y q B) z (ym B q.size) as e w2 ⟨⟨a2,k2,zs,v,rfl,hown,her⟩,hb2⟩;have hj:v=Vp/\zs=er xs (Z xs):=by
  rcases D her with⟨_,h,h'⟩|⟨h,_⟩
  .exact⟨h,h'⟩
  .exact yV HY.2.1 h
 obtain⟨rfl,hz⟩:=hj;have k:Z zs=Am xs (Z xs):=by rw[hz,D5]
 have o:=N2 HY.2.1 h1;have s:=GQ xs (Z xs);obtain⟨g2,rfl,hd,K⟩:∃g,a2=E (J g 0)/\O w1.1<=g/\ZD w2 g zs (Z zs):=by
  rcases D hown with⟨h,_⟩|h
  .omega
  .exact h
 have M:=K.1;have N:=S (K.ops);have n:=S hz;have X:=q.trans (hb2.mono q.size);have z2:=hb2.size;have A:=S (hn.y hb2);have d2:=Vf hb2 I d1;have ht:=S k;have T:Z zs<=20000:=I;have ha:1<=Z zs:=I;clear hown her K hb2 hn hz c0 c1 c2 d1 k o s q;obtain⟨W3,y⟩:∃W3,Hid (W3=(w2.alloc (JM #[Ql g2 (Z zs) k2] 40)).alloc (JM #[] 108)):=⟨_,S F⟩;have j:Below (O w2.1) w2 W3:=by rw[D y];exact(zC).alloc Js _
 have s3:O W3.1=O w2.1+2:=by rw[D y];simp
 have hf:=X.trans (j.mono X.size);have l:=S (show Z5 W3 (O w2.1+1) (Ql (O w2.1+1) 0 0) [] by
  rw[D y]
  have:=yJ (base:=O w2.1+1) (e:=108) (size:=4) (w2.alloc (JM #[Ql g2 (Z zs) k2] 40)) #[] 0 Js yn F
  simpa[Z5,zO] using this)
 have f:=S (A.y j);have d3:=Vf j I d2;obtain⟨vs,V⟩:=Jx (gS ns xs (Z xs-1) 0 0);have P:=E3 ns xs (Z xs) (Z xs-1) 0 I HY.2.1.2.2.1 0 0;rw[<-V]at P;have ei:(Z zs:Int)-1=((Z zs-1:Nat):Int):=I;have Q:=S (Nf b off cap g2 0 k2 ns xs zs hm L HY.2.1 HY.2.2 n (Z xs) (Z xs-1) 0 I I HY.2.1.2.2.1 (Z zs-1) 0 (O w2.1+1) (Ql (O w2.1+1) 0 0) [] vs W3 (by rw[Nat.sub_add_cancel h1,<-D ht];omega) (hw.y hf hB) (Jy X.size) (N.y j M) I I l (by rw[je];omega) (by rw[jF,je];exact V));rw[D y]at Q;have C:=S V;have t:=P.1;have hk:=P.2;have c0:w2.cell? (J (O w.1) 0)=E (Je b off (Z ns) cap):=(D A) (O w.1,0,Je b off (Z ns) cap) Js;have hT:O w.1<O w2.1:=I;clear V P l;go_wp2_with fail;refine Q.mono ?_;rw[<-D y];rintro x w4 ⟨u',rfl,hr,hg,ho⟩;obtain⟨g4,c4,rfl,hc,K⟩:=(show Z5 w4 (O w2.1+1) u' vs->∃g c,u' = Ql g (Z vs) c/\O w2.1+1<=g/\ZD w4 g vs (Z vs) from λh=>by
  have hh:=h
  unfold Z5 at hh
  obtain⟨_,⟨rfl,h0⟩|⟨g,cap,hb,rfl,_⟩⟩:=h
  .omega
  .have:=Ib hh
   exact⟨g,cap,F,this.1,this.2⟩) hr
 have e1:w4.cell? (J (O w.1+1+1) 0)=E Jl:=(zJ hg (b:=O w.1+1+1) I (by simp[i8];omega) 0).trans (f (O w.1+1+1,0,Jl) Js);have f1:w4.frozen? (J (O w.1+1+1) 0)=Vt:=(yG (w:=W3) (hg.block (O w.1+1+1) I (by simp[i8];omega))).trans d3;have U:Below (O w.1) w w4:=hf.trans ⟨hg.os,hg.tape,hg.output,hg.size,λi hi=>hg.block i (Jy hf.size) (by simp[i8];have:=X.size;omega)⟩;have d:=S K;clear hr hg ho K Q A f d2 d3 c0 j y;by_cases hq:Z vs<=20000
 .have R:¬ (20000:Int)<Z vs:=I;go_wp2_with fail;refine yQ (v:=i5 #[b9 #[Ql g4 (Z vs) c4],i7 Vp]) ?res F ⟨⟨E (J g4 0),c4,vs,Vp,F,S (yX ⟨g4,F,I,?_⟩),S (yW ⟨⟨HY,by rw[<-D C];exact hq⟩,F,C⟩)⟩,?_⟩;case res=>simp[results,results61,go_sem,e1]
  .exact d.setCell _ _ _ I
  .exact U.setCell Jq _
 .have R:(20000:Int)<Z vs:=I;go_wp2_with fail;refine yQ (v:=i5 #[b9 #[Jl],i7 Vt]) ?res F ⟨⟨JL,0,[],Vt,F,S (yW ⟨F,F⟩),S (yX ⟨λh=>hq (by rw[D C];exact h.2),F,F⟩)⟩,?_⟩;case res=>simp[results,results61,go_sem,e1]
  .exact U.setCell Jq _
def Gq(w:JY)(a)(x:ZJ):=w.cell? (J a 0)=E (W x.t)/\w.cell? (J a 1)=E (i7 x.o)/\w.cell? (J a 2)=E (i7 x.i)
def wV{a:JY}(x)(c:∃u,a.cell? (J b 0)=E u)(d:∃u,a.cell? (J b 1)=E u)(e:∃u,a.cell? (J b 2)=E u):Gq (a.setCells b 0 [W x.t,i7 x.o,i7 x.i]) b x:=by
 have h:=World.cell?_setCells_in b [W x.t,i7 x.o,i7 x.i] 0 a (λj f=>by
  simp only[yB,je]at f
  obtain⟨u0,c⟩:=c
  obtain⟨u1,d⟩:=d
  obtain⟨u2,e⟩:=e
  match j,f with
  |0,_=>rw[c];rfl
  |1,_=>rw[d];rfl
  |2,_=>rw[e];rfl)
 exact⟨Ju (h 0 Js),Ju (h 1 Js),Ju (h 2 Js)⟩
def sM{a}(h:Zb a N o)(c)(H:b≠N):Zb (a.setCells b 0 c) N o:=
 h.grown (za (Ld c 0 a)) (λe=>H (jz e))
def GG{a}(h:Z2 w b off xs)(k:w.grownBy w' a)(j:b<O w.1)(H:a≠E b):Z2 w' b off xs:=λi l=>by
 obtain⟨c,d,f,g⟩:=h i l;have e:=λo=>zJ k j H o
 exact⟨(e _).trans c,(e _).trans d,(e _).trans f,(e _).trans g⟩
def Gq.grown{a row}(h:Gq w a x)(f:w.grownBy w' row)(H:row≠E a):Gq w' a x:=by
 obtain⟨b,c,d⟩:=h;have e:=λo=>zJ f (jl b) H o
 exact⟨(e _).trans b,(e _).trans c,(e _).trans d⟩
def Gq.y{a}(h:Gq w a x)(b:Qb w w'):Gq w' a x:=h.grown (row:=JL) (zH b JL) Js
def SY(A a)(k b c:Int)(x:ZJ)(w:JY):=w.cell? (J A 0)=E (G k)/\w.cell? (J A 2)=E (G b)/\w.cell? (J A 3)=E (G c)/\w.cell? (J a 0)=E (W x.t)/\w.cell? (J a 1)=E (i7 x.o)/\w.cell? (J a 2)=E (i7 x.i)
def SY.grown{A f k l m row}(h:SY A f k l m x w)(j:w.grownBy w' row)(n:row≠E A)(p:row≠E f):SY A f k l m x w':=by
 obtain⟨z,a,b,c,d,e⟩:=h;have g:=λo=>zJ j (jl a) n o
 have i:=λo=>zJ j (jl c) p o
 exact⟨(g _).trans z,(g _).trans a,(g _).trans b,(i _).trans c,(i _).trans d,(i _).trans e⟩
def SY.y{A a k b c}(h:SY A a k b c x w)(d:Qb w w'):SY A a k b c x w':=h.grown (row:=JL) (zH d JL) Js Js
def Gq.news{a}(h:Gq w a x):∀j u,(Zf [x])[j]?=E u->w.cell? ((J a 0).add j)=E u:=by
 intro j u b;rw[jO,jd];obtain⟨c,d,e⟩:=h;match j,b with
 |0,b=>simp[Zf]at b;subst b;exact c
 |1,b=>simp[Zf]at b;subst b;exact d
 |2,b=>simp[Zf]at b;subst b;exact e
def Qu{a b}{H x:Nat}(h:b=a\/∃k,b=E k/\H<=k)(d:a≠E x)(hx:x<H):b≠E x:=λe=>by
 rcases h with h|⟨k,c,f⟩
 .exact d (h.symm.trans e)
 .rw[c]at e;injection e with e;omega
def bZ{v:Value}{H x}(q:v.ownBlock=E g\/g=H)(K:v.ownBlock≠E x)(hx:x<H):E g≠E x:=λe=>by
 injection e with e;rcases q with h|h
 .exact K (by rw[h,e])
 .omega
def M5(e d g:Nat)(f:Jj)(B:Nat)(j:Nat)(a b):=∀(u:Value)(c:JY),Z2 c e d f->B<=O c.1->C9 c B u a ->
 Calls Vb 62 #[Je e d (Z f) g,G j,u] c (JW c B u b)
def zbp(d b e h B k t i j f g):=
 (zY k=0/\g=f++[⟨t,Vt,Vt⟩])\/(k=3/\∃a,a=f++[⟨t,Vp,Vt⟩]/\M5 d b e h B i a g) \/
 (k=6/\∃a c,a=f++[⟨opn,Vt,Vt⟩]/\M5 d b e h B i a c/\g=c++[⟨Bs,Vt,Vt⟩]/\Z c<=90000) \/
 (k=5/\∃a,M5 d b e h B i f a/\g=a++[⟨t,Vp,Vt⟩]/\Z a<=90000) \/
 (k=4/\∃a c,M5 d b e h B i f a/\c=a++[⟨t,Vp,Vp⟩]/\M5 d b e h B j c g/\Z a<=90000)
def PK{v}(h:vs=us++[x])(a:w.ownsRow B 126 3 v (Z us+[x].length) (Zf us++Zf [x])):C9 w B v vs:=by rw[h];unfold C9;rw[Q3,yr];exact a
def wW(w:JY)(x):Gq (w.alloc (JM #[W x.t,i7 x.o,i7 x.i] 126)).drew (O w.1) x:=⟨Jg,Jg,Jg⟩
def Ol(bz offz cz i zs k t)(ja jb:Nat)(B u us vs w)(hD:Z2 w bz offz zs)(Hb:bz<B)(hB:B<=O w.1)(f:C9 w B u us)(hi:i<Z zs)(hY:Z zs<=20000)(ho:Y zs i=⟨k,t,(ja:Int),(jb:Int)⟩)(hX:Z us<=90000)(hc:zbp bz offz cz zs B k t ja jb us vs):Calls Vb 62 #[Je bz offz (Z zs) cz,G i,u] w (JW w B u vs):=by
 have Ha:(i:Int)<Z zs:=I;obtain⟨h0,h1,h2,h3⟩:=hD i hi;rw[ho]at h0 h1 h2 h3;obtain⟨vo,HD⟩:∃vo,Hid (vo=decide (3<=k/\k<=5)):=⟨_,S F⟩;obtain⟨av,cv,rfl⟩:=Pg f;have hP:∀x,O w.1<=x->(i6 av (Z us) cv).ownBlock≠E x:=λx hx e=>Jy ((f.lt _ e).2)
 have hJ:(i6 av (Z us) cv).ownBlock≠E bz:=λe=>Jy ((f.lt _ e).1)
 have P:=S hP;have qc:=S hJ;have hA:=S hD;clear hD ho hP hJ;go_enter func62,ntmps62;go_wp2_with fail;have HN:=S (show Zb (w.alloc (JM #[G k,W t,G ja,G jb] 108)) (O w.1) ⟨k,t,(ja:Int),(jb:Int)⟩ from⟨Jg,Jg,Jg,Jg,Jg,Jg⟩);have hp:Hid (Qb w (w.alloc (JM #[G k,W t,G ja,G jb] 108))):=zC;clear h0 h1 h2 h3;go_cut [8] (λs8 wc=>∃b8:Nat,s8 = Qp b8/\O w.1<=b8/\Hid (Gq wc b8 ⟨t,vo,k==4⟩)/\Hid (Zb wc (O w.1) ⟨k,t,(ja:Int),(jb:Int)⟩)/\Hid (Qb w wc));case first=>
  clear hc f P qc hA;have hy:=S (HN.y (yN).drew);have hM:=S ((HN.y (@zC _ (JM #[W ⟨#[]⟩,i7 Vt,i7 Vt] 126))).y (yN).drew);have h6:=S hp.drew;have hG:=S (hp.alloc hp.size (JM #[W ⟨#[]⟩,i7 Vt,i7 Vt] 126)).drew;obtain⟨q0,q1,q2,q3,_,_⟩:=D hy;simp only at q0 q1 q2 q3;go_region_held (λw'=>w'.cell? (J (O w.1) 0)=E (G k)/\w'.cell? (J (O w.1) 1)=E (W t)/\w'.cell? (J (O w.1) 2)=E (G ja)/\w'.cell? (J (O w.1) 3)=E (G jb)) (first|(go_keep;done)|exact⟨p0,p1,p2,p3⟩|exact⟨Jc zC Jh p0,Jc zC Jh p1,Jc zC Jh p2,Jc zC Jh p3⟩)
   ((go_at_call 102;refine(IZ ⟨k,t,(ja:Int),(jb:Int)⟩ _ vo HD).mono ?_;rintro e w1 ⟨rfl,hb1⟩;(first|(have hl:=S (hy.y hb1);have hs:=S (h6.trans (hb1.mono h6.size));have z1:O w.1+1<=O w1.1:=(Jz hb1.size))|(have hl:=S (hM.y hb1);have hs:=S (hG.trans (hb1.mono hG.size));have z1:O w.1+1+1<=O w1.1:=(Jz hb1.size);have d0:w1.cell? (J (O w.1+1) 0)=E (W ⟨#[]⟩):=(hb1.cell (p:=(J (O w.1+1) 0)) Js).trans Jg;have d1:w1.cell? (J (O w.1+1) 1)=E (i7 Vt):=(hb1.cell (p:=(J (O w.1+1) 1)) Js).trans Jg;have d2:w1.cell? (J (O w.1+1) 2)=E (i7 Vt):=(hb1.cell (p:=(J (O w.1+1) 2)) Js).trans Jg;have e0:w1.frozen? (J (O w.1+1) 0)=Vt:=(hb1.frozen (p:=(J (O w.1+1) 0)) Js).trans Jg;have e1:w1.frozen? (J (O w.1+1) 1)=Vt:=(hb1.frozen (p:=(J (O w.1+1) 1)) Js).trans Jg;have e2:w1.frozen? (J (O w.1+1) 2)=Vt:=(hb1.frozen (p:=(J (O w.1+1) 2)) Js).trans Jg));obtain⟨p0,p1,p2,p3,_,_⟩:=D hl;simp only at p0 p1 p2 p3;clear hb1))
  all_goals
   clear q0 q1 q2 q3 hy hM h6 hG
   go_wp2
   go_meet
   case rel=>
    go_light
    first
     |exact⟨O w1.1,F,I,S ⟨Jg,Jg,Jg⟩,S (hl.y zC),S (hs.alloc hs.size _)⟩
     |exact⟨O w.1+1,F,I,S (wV ⟨t,vo,k==4⟩ ⟨_,d0⟩ ⟨_,d1⟩ ⟨_,d2⟩),S (sM (b:=O w.1+1) hl [W t,i7 vo,i7 (k==4)] I),S (zX (g:=O w.1+1) I [W t,i7 vo,i7 (k==4)] 0 w1 hs)⟩
 case rest=>
  obtain⟨b8,rfl,c,o,he,V⟩:=hcut;obtain⟨n0,n1,n2,n3,_,_⟩:=D he;obtain⟨x0,x1,x2⟩:=D o;simp only at x0 x1 x2 n0 n1 n2 n3;have zc:=V.size;have qd:b8<O wc.1:=jl x0;have hf:O w.1<O wc.1:=jl n0;have n:=S (f.y V);have hg:=S (hA.y V I);clear HN hp f hA;rcases D hc with⟨hk,qh⟩|⟨rfl,q,qj,qi⟩|⟨rfl,q,hq,qj,qi,qh,hZ⟩|⟨hk,q,qi,hh,hR⟩|⟨hk,q,hq,qi,hh,s,hR⟩
  .have HK:=S hk;have HV:=S qh;obtain⟨ha,h4⟩:vo=Vt/\(k==4)=Vt:=by
    have hn:¬ (3<=k/\k<=5):=by intro h;have:k=3\/k=4\/k=5:=I;rcases this with e|e|e<;>rw[e]at hk<;>simp[zY]at hk
    refine⟨by rw[D HD];simpa using hn,?_⟩;simp only[jc,ne_eq];intro e;rw[e]at hk;simp[zY]at hk
   subst ha;rw[h4]at x2;clear hk qh o he n1 n2 n3 hc h4;go_wp2_with fail;go_call zV HK 0 F _ as e w' ⟨rfl,a⟩;have qb:=a.symm;subst qb;go_wp2_with (at_builtin;refine As MX underlying123 (.tmp 25) (.tmp 27) F rfl B _ (Z us) (Zf us) F (n.y zC) (J (O wc.1) 0) 1 1 (Zf [⟨t,Vt,Vt⟩]) F rfl (Ju (ND wc ⟨t,Vt,Vt⟩)) (Mn _) Jm I Jh ?_);intro v4 w4 X H hF y;have HO:=S (PK HV X);have HG:=S (ze (V.alloc V.size _) H);have HA:Hid (v4.ownBlock=(i6 av (Z us) cv).ownBlock\/∃k,v4.ownBlock=E k/\O w.1<=k):=y.imp id (λh=>⟨_,h,by first|omega|(simp;omega)⟩);clear X H hF y;go_wp2;go_ret;exact⟨v4,F,HO,HG,HA⟩
  .have hw:=S qj;have U:=S qi;have ha:vo=Vp:=by rw[D HD];decide
   subst ha;have h4:((3:Int)==4)=Vt:=Jd;rw[h4]at x2;have z:=S (show SY (O w.1) b8 3 (ja:Int) (jb:Int) ⟨t,Vp,Vt⟩ wc from⟨n0,n2,n3,x0,x1,x2⟩);clear qj qi o he hc h4;go_wp2_with fail;go_call zV (show zY 3=1 from F) 1 F _ as e w' ⟨rfl,a⟩;have qb:=a.symm;subst qb;go_wp2_with fail;go_region_held_law (λw'=>w'.cell? (J (O w.1) 0)=E (G 3)/\w'.cell? (J (O w.1) 2)=E (G ja)/\w'.cell? (J (O w.1) 3)=E (G jb)/\w'.cell? (J b8 0)=E (W t)/\w'.cell? (J b8 1)=E (i7 Vp)/\w'.cell? (J b8 2)=E (i7 Vt)) (first|(go_keep;done)|exact D d|exact qe)
    (first|(refine De MX underlying123 (.tmp 35) (.tmp 37) (by rfl) (by rfl) B _ (Z us) (Zf us) (by rfl) (by exact((n.y zC).y (yN).drew)) (J (O wc.1) 0) 1 1 (Zf [⟨t,Vp,Vt⟩]) (by rfl) F (by exact(λj u hj=>ND wc ⟨t,Vp,Vt⟩ j u hj)) (Mn _) Jd Jm I Jq _ F ?_;intro g4 c4 w4 X H y hQ;have T:Hid (∀x,O w.1<=x->x<O wc.1->E g4≠E x):=λx hx hr=>bZ y (P x hx) Jq;have d:=S ((z.y ((zC).drew)).grown H (P _ yk) (P _ c));have hE:=S (by unfold C9;rw[D hw,Q3,yr];exact X:C9 w4 B (Ql g4 (Z us+1) c4) q);have h9:=S (GG (hg.y ((zC).drew) I) H Jq qc);have qa:=S (ze ((V.alloc V.size _).drew) H);have hv:Hid ((i6 (E (J g4 0)) (Z us+1) c4).ownBlock=(i6 av (Z us) cv).ownBlock\/∃k,(i6 (E (J g4 0)) (Z us+1) c4).ownBlock=E k/\O w.1<=k):=y.imp (λh=>h.symm) (λh=>⟨_,F,(by subst h;simp;omega)⟩);have z4:=qa.size;clear X H y)|(go_at_call 62;refine(U _ w4 h9 I hE).mono ?_;intro x w5 M;have qe:Hid (SY (O w.1) b8 3 (ja:Int) (jb:Int) ⟨t,Vp,Vt⟩ w5):=(by obtain⟨_,_,_,g5,_⟩:=M;exact S (d.grown g5 (T _ yk hf) (T _ c qd)));obtain⟨u5,rfl,r5,g5,o5⟩:=M.join qa hv))
   go_wp2;go_ret;exact⟨u5,F,r5,g5,o5⟩
  .have hw:=S qj;have U:=S qi;have HV:=S qh;have ha:vo=Vt:=by rw[D HD];decide
   subst ha;have h4:((6:Int)==4)=Vt:=Jd;rw[h4]at x2;have z:=S (show SY (O w.1) b8 6 (ja:Int) (jb:Int) ⟨t,Vt,Vt⟩ wc from⟨n0,n2,n3,x0,x1,x2⟩);clear qj qi qh o he hc h4;go_wp2_with fail;go_call zV (show zY 6=1 from F) 1 F _ as e w' ⟨rfl,a⟩;have qb:=a.symm;subst qb;go_wp2_with fail;go_region_held_law (λw'=>w'.cell? (J (O w.1) 0)=E (G 6)/\w'.cell? (J (O w.1) 2)=E (G ja)/\w'.cell? (J (O w.1) 3)=E (G jb)/\w'.cell? (J b8 0)=E (W t)/\w'.cell? (J b8 1)=E (i7 Vt)/\w'.cell? (J b8 2)=E (i7 Vt)) (first|(go_keep;done)|exact D d|exact qe)
    (first|(refine De MX underlying123 (.tmp 46) (.tmp 48) (by rfl) (by rfl) B _ (Z us) (Zf us) (by rfl) (by exact((n.y zC).y (yN).drew)) (J (O wc.1) 0) 1 1 (Zf [⟨⟨#[40]⟩,Vt,Vt⟩]) (by rfl) F (by exact(λj u hj=>ND wc ⟨⟨#[40]⟩,Vt,Vt⟩ j u hj)) (Mn _) Jd Jm I Jq _ F ?_;intro g4 c4 w4 X H y hQ;have T:Hid (∀x,O w.1<=x->x<O wc.1->E g4≠E x):=λx hx hr=>bZ y (P x hx) Jq;have d:=S ((z.y ((zC).drew)).grown H (P _ yk) (P _ c));have hE:=S (by unfold C9;rw[D hw,Q3,yr];exact X:C9 w4 B (Ql g4 (Z us+1) c4) q);have h9:=S (GG (hg.y ((zC).drew) I) H Jq qc);have qa:=S (ze ((V.alloc V.size _).drew) H);have hv:Hid ((i6 (E (J g4 0)) (Z us+1) c4).ownBlock=(i6 av (Z us) cv).ownBlock\/∃k,(i6 (E (J g4 0)) (Z us+1) c4).ownBlock=E k/\O w.1<=k):=y.imp (λh=>h.symm) (λh=>⟨_,F,(by subst h;simp;omega)⟩);have z4:=qa.size;clear X H y)|(go_at_call 62;refine(U _ w4 h9 I hE).mono ?_;intro x w5 M;have qe:Hid (SY (O w.1) b8 6 (ja:Int) (jb:Int) ⟨t,Vt,Vt⟩ w5):=(by obtain⟨_,_,_,g5,_⟩:=M;exact S (d.grown g5 (T _ yk hf) (T _ c qd)));obtain⟨u5,rfl,r5,g5,o5⟩:=M.join qa hv;obtain⟨a5,k5,rfl⟩:=Pg r5))
   have z5:=g5.size;clear n0 n1 n2 n3 x0 x1 x2;go_wp2_with (at_builtin;refine As MX underlying123 (.tmp 51) (.tmp 53) F rfl B _ (Z hq) (Zf hq) F (r5.y zC) (J (O w5.1) 0) 1 1 (Zf [⟨⟨#[41]⟩,Vt,Vt⟩]) F rfl (Ju (ND w5 ⟨⟨#[41]⟩,Vt,Vt⟩)) (Mn _) Jm I Jh ?_);intro v6 w6 Q K h7 v;have HO:=S (PK HV Q);have hN:=S (ze (@zC w5 _) K);have hV:=S (zi g5 hN o5);have N:=S (Ek g5 o5 v6.ownBlock (v.imp id (λh=>⟨_,h,by first|exact yk|simp⟩)));clear Q K h7 v hN;go_wp2;go_ret;exact⟨v6,F,HO,hV,N⟩
  all_goals
   obtain⟨bi,hm⟩:∃b:Bool,b=(k==4):=⟨_,F⟩
   rw[<-hm]at x2
  focus
   have HV:=S (by rw[hm,hk];exact hh:vs=q++[⟨t,Vp,bi⟩])
   have hC:=S (by rw[hk];rfl:zY k=1)
  rotate_left
  focus
   have HV:=S (by rw[hm,hk];exact hh:hq=q++[⟨t,Vp,bi⟩])
   have hC:=S (by rw[hk];rfl:zY k=2)
   have zq:=S s
   clear s
  all_goals
   have U:=S qi
   clear hh hm
   subst hk
   obtain rfl:vo=Vp:=by rw[D HD];decide
   have z:=S (show SY (O w.1) b8 _ (ja:Int) (jb:Int) ⟨t,Vp,bi⟩ wc from⟨n0,n2,n3,x0,x1,x2⟩)
   have hd:=S (z.y (yN).drew)
   have ht:Hid (Z2 wc.drew bz offz zs):=hg.y (B:=O wc.1) (yN).drew I
   have hK:=S (n.y (yN).drew)
   have h5:=S (@zC wc (JM #[W t,i7 Vp,i7 bi] 126))
   have m:=S ((z.y h5).y (yN).drew)
   have hS:=S (wW wc ⟨t,Vp,bi⟩)
   have hu:=S (hg.y (B:=O wc.1) h5.drew I)
   have hH:=S ((n.y h5).y (yN).drew)
   clear qi o he hc
   go_wp2_with fail
   first|(refine(zV hC 1 F _).mono ?_)|(refine(zV hC 2 F _).mono ?_)
   intro e w' a
   obtain⟨rfl,a⟩:=a
   have qb:=a.symm
   subst qb
   go_wp2_with fail
   first|(have _:=zq;generalize L:(4:Int)=kk at n0 z hd m)|(generalize L:(5:Int)=kk at n0 z hd m)
   replace L:=S L
   go_region_held_law (λw'=>w'.cell? (J (O w.1) 0)=E (G kk)/\w'.cell? (J (O w.1) 2)=E (G ja)/\w'.cell? (J (O w.1) 3)=E (G jb)/\w'.cell? (J b8 0)=E (W t)/\w'.cell? (J b8 1)=E (i7 Vp)/\w'.cell? (J b8 2)=E (i7 bi)) (first|(go_keep;done)|exact D qe|exact qe.y zC|exact qf)
    (first|(go_at_call 62;have hb:=(D U) _ wc.drew ht Jq hK;(with_reducible refine hb.mono ?_);clear hb;rintro x w5 ⟨u5,rfl,r5,g5,o5⟩;obtain⟨a5,k5,rfl⟩:=Pg r5;have qe:=S (hd.grown g5 (P _ yk) (P _ c));have C:=S (ze (V.drew) g5);have A:Hid (∀x,O w.1<=x->x<O wc.1->(i6 a5 (Z q) k5).ownBlock≠E x):=λx hx hr=>Qu o5 (P x hx) (Ju hr);have hz:=S (GG ht g5 Jq qc);have qg:=S (Qu o5 qc Jq);have R:=S (o5.imp id (λ⟨k,h1,h2⟩=>⟨k,h1,(by simp at h2;omega)⟩):(i6 a5 (Z q) k5).ownBlock=(i6 av (Z us) cv).ownBlock\/∃k,(i6 a5 (Z q) k5).ownBlock=E k/\O w.1<=k);have z5:O wc.1<=O w5.1:=(Jz g5.size);clear g5 o5)|(go_at_call 62;have hb:=(D U) _ _ hu Jq hH;(with_reducible refine hb.mono ?_);clear hb;rintro x w5 ⟨u5,rfl,r5,g5,o5⟩;obtain⟨a5,k5,rfl⟩:=Pg r5;have qe:=S (m.grown g5 (P _ yk) (P _ c));have hW:=S (hS.grown g5 (P _ zc));have C:=S (ze ((V.alloc V.size _).drew) g5);have A:Hid (∀x,O w.1<=x->x<O wc.1->(i6 a5 (Z q) k5).ownBlock≠E x):=λx hx hr=>Qu o5 (P x hx) Jq;have hz:=S (GG hu g5 Jq qc);have qg:=S (Qu o5 qc Jq);have R:=S (o5.imp id (λ⟨k,h1,h2⟩=>⟨k,h1,(by simp at h2;omega)⟩):(i6 a5 (Z q) k5).ownBlock=(i6 av (Z us) cv).ownBlock\/∃k,(i6 a5 (Z q) k5).ownBlock=E k/\O w.1<=k);have z5:O wc.1<=O w5.1:=(Jz g5.size);clear g5 o5)|(refine De MX underlying123 (.tmp 59) (.tmp 61) (by rfl) (by rfl) B _ (Z q) (Zf q) (by rfl) (by exact(r5.y zC)) (J (O w5.1) 0) 1 1 (Zf [⟨t,Vp,bi⟩]) (by rfl) F (by exact(λj u hj=>ND w5 ⟨t,Vp,bi⟩ j u hj)) (Mn _) Jd Jm I (by first|(simp;omega)|omega) _ F ?_;intro g6 c6 w6 Q K v hO;have qf:=S ((qe.y zC).grown K (A _ yk hf) (A _ c qd));have l:=S (zi C (ze (@zC w5 _) K) R);have hI:=S (GG (hz.y zC I) K Jq qg);have h8:=S (PK HV Q);have N:=S (Ek C R (i6 (E (J g6 0)) (Z q+1) c6).ownBlock (v.imp (λh=>h.symm) (λh=>⟨_,F,(by subst h;first|simp|exact yk)⟩)));clear Q K v)|(refine De MX underlying123 (.tmp 59) (.tmp 61) (by rfl) (by rfl) B _ (Z q) (Zf q) (by rfl) (by exact r5) (J (O wc.1) 0) 1 1 (Zf [⟨t,Vp,bi⟩]) (by rfl) F (by exact(hW.news)) (Mn _) Jd Jm I (by first|(simp;omega)|omega) _ F ?_;intro g6 c6 w6 Q K v hO;have qf:=S (qe.grown K (A _ yk hf) (A _ c qd));have l:=S (zi C K R);have hI:=S (GG hz K I qg);have h8:=S (PK HV Q);have N:=S (Ek C R (i6 (E (J g6 0)) (Z q+1) c6).ownBlock (v.imp (λh=>h.symm) (λh=>⟨_,F,(by subst h;first|simp|exact yk)⟩)));clear Q K v))
   all_goals
    replace L:=D L
    subst L
    obtain⟨m0,m2,m3,_,_,_⟩:=D qf
    have z6:=l.size
    go_wp2_with fail
    first
     |(
      refine(zq _ _ hI I h8).mono ?_
      intro x w7 hU
      obtain⟨u7,rfl,r7,g7,o7⟩:=hU.join l N
      go_wp2
      go_ret
      exact⟨u7,F,r7,g7,o7⟩)
     |(
      go_ret
      exact⟨_,F,h8,l,N⟩)
