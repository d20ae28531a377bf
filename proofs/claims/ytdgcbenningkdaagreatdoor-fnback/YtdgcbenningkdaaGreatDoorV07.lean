import Derived.Test.YtdgcbenningkdaaGreatDoorV02
import Derived.Test.YtdgcbenningkdaaGreatDoorV03
namespace Go.Proofs.YtdgcbenningkdaaGreatDoor
set_option linter.all false
set_option maxHeartbeats 0
set_option maxRecDepth 100000
open Proofs.Tryz RowKit
open Go.Deep (BT)
variable{b bb bf c d g h i n o p:Nat}{e:Value}{least:Int}{ns:List Ad}{t:ByteArray}{ts:List zR}{w w':World}
open _root_.Array renaming size→O
open List renaming length→Z
open Option renaming some→E,none→JL
open Obj renaming cells→JM
open Bool renaming false→Vt,true→Vp
open Proofs.Tryz renaming prog→Vb
open Value renaming agg→b9,tuple→i5,bool→i7
open Ending renaming returned→i9
open _root_.ByteArray renaming empty→j6
def CA(a:Int)(s:Aq):Int:=a+(if s.1=6 then 1 else 0)-(if s.1=7 then 1 else 0)
def BI(a:Int)(b:JB):Int:=b.foldl CA a
def C7(a:Jf)(h:Option (Nat×Aq))(x:Nat×Aq):Option (Nat×Aq):=match h with
 |none=>E x
 |some b=>if Ao a x.2<Ao a b.2\/(Ao a x.2=Ao a b.2/\CB a x.2≠2) then E x else E b
def Av(b:Jf):JB->Nat->Int->Option (Nat×Aq)->Option (Nat×Aq)
 |[],_,_,best=>best
 |s::a,i,op,best=>Av b a (i+1) (CA op s) (if CA op s≠0\/¬ (3<=s.1/\s.1<=5) then best else C7 b best (i,s))
theorem Nl(c a b):BI c (a++b)=BI (BI c a) b:=by simp[BI]
theorem El(b s a):BI b (s::a)=BI (CA b s) a:=rfl
theorem Zj(e):∀(a b:JB)(i:Nat)(d:Int)(h:Option (Nat×Aq)),Av e (a++b) i d h=Av e b (i+Z a) (BI d a) (Av e a i d h)
 |[],b,i,d,h=>rfl
 |s::c,b,i,d,h=>by simp only[List.cons_append,Av,yB,El];rw[Zj e c b];congr 1;omega
theorem ZP{a s}(h:s.1≠6/\s.1≠7):CA a s=a:=by grind [CA]
theorem Jo{a}:CA a (6,opn)=a+1:=by simp[CA]
theorem Po{a}:CA a (7,Bs)=a-1:=by simp[CA]
theorem FD(h:b=1\/b=2):Ak (.node b 0 t .nil .nil)=[(b,t)]:=by grind [Ak]
theorem FG{l a}:Ak (.node 6 0 t l a)=(6,opn)::(Ak l++[(7,Bs)]):=by simp[Ak]
theorem EF{l a}:Ak (.node 3 0 t l a)=(3,t)::Ak l:=by simp[Ak]
theorem EQ{l a}:Ak (.node 5 0 t l a)=Ak l++[(5,t)]:=by simp[Ak]
theorem Gi{l a}:Ak (.node 4 0 t l a)=Ak l++((4,t)::Ak a):=by simp[Ak]
theorem JH:∀(T:ET),ZF ns T->∀c,BI c (Ak T)=c:=by
 intro T;induction T with
 |nil=>intro h;exact h.elim
 |node b o t l a ihl ihr=>
  rintro⟨rfl,h⟩ c;rcases h with⟨K,rfl,rfl⟩|⟨rfl,rfl,d,rfl⟩|⟨H,e,d,rfl,i⟩|⟨rfl,e,d,j,f,g⟩
  .rw[FD K,El,ZP ⟨Jq,Jq⟩];rfl
  .rw[FG,El,Jo,Nl,ihl d,El,Po];show c+1-1=c;omega
  .rcases H with rfl|rfl
   .grind [EF,El,ZP]
   .rw[EQ,Nl,ihl d,El,ZP ⟨Js,Js⟩];rfl
  .grind [Gi,Nl,El,ZP]
theorem Rz:∀(T:ET),ZF ns T->∀(i:Nat)(c:Int) H,0<c->Av ns (Ak T) i c H=H:=by
 intro T;induction T with
 |nil=>intro h;exact h.elim
 |node b o t l a ihl ihr=>
  rintro⟨rfl,h⟩ i c H f;rcases h with⟨q,rfl,rfl⟩|⟨rfl,rfl,d,rfl⟩|⟨K,e,d,rfl,k⟩|⟨rfl,e,d,m,g,j⟩
  .grind [FD,Av]
  .grind [FG,Av,Jo,Zj]
  .grind [EF,Av,ZP,EQ,Zj,JH]
  .grind [Gi,Zj,JH,Av,ZP]
theorem WH(g:zM ns 0)(c)(p:c.2.1=3\/c.2.1=4\/c.2.1=5)(K:AC ns c.2=Vp):∀(T:ET),ZF ns T->∀(i:Nat),(Ao ns c.2<Ay ns T\/(Ao ns c.2<=Ay ns T/\CB ns c.2=2))->Av ns (Ak T) i 0 (E c)=E c:=by
 intro T;induction T with
 |nil=>intro h;exact h.elim
 |node b o t l a ihl ihr=>
  rintro⟨rfl,h⟩ i e;simp only[Ay]at e;have y:∀(j:Nat)(s:Aq),(s.1=3\/s.1=4\/s.1=5)->AC ns s=Vp->(Ao ns c.2<Ao ns s\/(Ao ns c.2<=Ao ns s/\CB ns c.2=2))->C7 ns (E c) (j,s)=E c:=λj s x d u=>by grind [C7,RP]
  rcases h with⟨q,rfl,rfl⟩|⟨rfl,rfl,k,rfl⟩|⟨H,d,k,rfl,v⟩|⟨rfl,d,k,w,m,n⟩
  .grind [FD,Av]
  .grind [FG,Av,Jo,Zj,Rz]
  .rcases H with rfl|rfl
   .have f:=(Bq g (yW F) d).pre F;grind [EF,Av,ZP]
   .have f:=(Bq g (yX (yX F)) d).post F;grind [EQ,Zj,JH,Av,ZP]
  .have f:=(Bq g (yX (yW F)) d).mid F;grind [Gi,Zj,JH,Av,ZP]
def MH(a:Jf)(m)(h:Option (Nat×Aq)):=∀b,h=E b->m<=Ao a b.2
theorem Yt(d:zM ns 0)(m):∀(T:ET),ZF ns T->∀(i:Nat) H,m<=Ay ns T->MH ns m H->MH ns m (Av ns (Ak T) i 0 H):=by
 intro T;induction T with
 |nil=>intro h;exact h.elim
 |node b o t l a ihl ihr=>
  rintro⟨rfl,h⟩ i H q e;simp only[Ay]at q;have w:∀(j:Nat)(s:Aq) H,m<=Ao ns s->MH ns m H->MH ns m (C7 ns H (j,s)):=λj s H k e x hx=>by
   cases H with
   |none=>simp only[C7,jw]at hx;subst hx;exact k
   |some y=>
    simp only[C7]at hx;split at hx
    .grind
    .exact e x hx
  rcases h with⟨Q,rfl,rfl⟩|⟨rfl,rfl,g,rfl⟩|⟨K,c,g,rfl,u⟩|⟨rfl,c,g,v,n,p⟩
  .grind [FD,Av]
  .grind [FG,Av,Jo,Zj,Rz]
  .rcases K with rfl|rfl
   .have f:=(Bq d (yW F) c).pre F;grind [EF,Av,ZP]
   .have f:=(Bq d (yX (yX F)) c).post F;grind [EQ,Zj,JH,Av,ZP]
  .have f:=(Bq d (yX (yW F)) c).mid F;grind [Gi,Zj,JH,Av,ZP]
def Cw(c:Jf)(b:Nat)(t:JZ)(l a:ET):Bool:=decide (sH c (b,t) Vt<=Ay c l)&&(decide (b≠4)||decide (sH c (b,t) Vp<=Ay c a))
def A8(b:Jf):Nat->JB->Option ET
 |0,_=>JL
 |n+1,ss=>match Av b ss 0 0 JL with
  |none=>(match ss with
   |[]=>JL
   |s::a=>if s.1=6 then(A8 b n a.dropLast).map (λT=>.node 6 0 j6 T .nil) else E (.node s.1 0 s.2 .nil .nil))
  |some x=>
   if(x.2.1=3/\x.1≠0)\/(x.2.1=5/\x.1+1≠Z ss) then JL
   else if x.2.1=3 then(match A8 b n (ss.drop 1) with
    |none=>JL
    |some T=>if Cw b 3 x.2.2 T .nil then E (.node 3 0 x.2.2 T .nil) else JL)
   else if x.2.1=5 then(match A8 b n (ss.take x.1) with
    |none=>JL
    |some T=>if Cw b 5 x.2.2 T .nil then E (.node 5 0 x.2.2 T .nil) else JL)
   else(match A8 b n (ss.take x.1) with
    |none=>JL
    |some T=>(match A8 b n (ss.drop (x.1+1)) with
     |none=>JL
     |some T2=>if Cw b 4 x.2.2 T T2 then E (.node 4 0 x.2.2 T T2) else JL))
def WI{m}:MH ns m none:=λb e=>by cases e
theorem V2{m H x}(h:MH ns m H)(a:Ao ns x.2<m\/(Ao ns x.2<=m/\CB ns x.2≠2)):C7 ns H x=E x:=by
 cases H with
 |none=>rfl
 |some b=>have:=h b F;grind [C7,Ao]
theorem oX(d:zM ns 0):∀(T:ET),ZF ns T->∀n,Ab T<=n->A8 ns n (Ak T)=E T:=by
 intro T;induction T with
 |nil=>intro h;exact h.elim
 |node b o t l a ihl ihr=>
  rintro⟨rfl,h⟩ n k;simp only[Ab]at k;obtain⟨n,rfl⟩:∃m,n=m+1:=⟨n-1,I⟩;rcases h with⟨K,rfl,rfl⟩|⟨rfl,rfl,c,rfl⟩|⟨H,g,c,rfl,j⟩|⟨rfl,g,c,s,i,q⟩
  .grind [Av,FD,A8]
  .have e:Av ns ((6,opn)::(Ak l++[(7,Bs)])) 0 0 JL=none:=by grind [Av,Jo,Zj,Rz]
   grind [FG,A8]
  .rcases H with rfl|rfl
   .have f:=(Bq d (yW F) g).pre F;have e:Av ns ((3,t)::Ak l) 0 0 JL=E (0,(3,t)):=by simp only[Av];rw[ZP ⟨Js,Js⟩,yS Js];exact WH d (0,(3,t)) (yW F) g l c _ (yX ⟨by grind,f.2⟩)
    grind [EF,A8,Cw]
   .have f:=(Bq d (yX (yX F)) g).post F;have e:Av ns (Ak l++[(5,t)]) 0 0 JL=E (Z (Ak l),(5,t)):=by rw[Zj,JH l c];simp only[Av];rw[ZP ⟨Js,Js⟩,yS Js,jd];exact V2 (Yt d (sH ns (5,t) Vt) l c 0 JL j WI) (yX ⟨by grind,by grind⟩)
    rw[EQ];simp only[A8,e];grind [Cw]
  .have f:=(Bq d (yX (yW F)) g).mid F;have e:Av ns (Ak l++((4,t)::Ak a)) 0 0 JL=E (Z (Ak l),(4,t)):=by rw[Zj,JH l c];simp only[Av];rw[ZP ⟨Js,Js⟩,yS Js,jd,V2 (Yt d (sH ns (4,t) Vt) l c 0 JL i WI) (by grind)];grind [WH,Ak,Ao,CB]
   rw[Gi];simp only[A8,e];rw[yS Js,yS Jd,yS Jd,List.take_left,ihl c n I];have p:(Ak l++(4,t)::Ak a).drop (Z (Ak l)+1)=Ak a:=by have:Ak l++(4,t)::Ak a=(Ak l++[(4,t)])++Ak a:=Js;grind
   grind [Cw]
theorem Sp{m}:∀(g:JB)(i:Nat)(e:Int) b x,Av m g i e b=E x->b=E x\/∃L R,g=L++x.2::R/\x.1=i+Z L/\(3<=x.2.1/\x.2.1<=5)/\BI e L=0
 |[],i,e,b,x,h=>yW h
 |s::a,i,e,b,x,h=>by
  simp only[Av]at h;have f:(∃L R,a=L++x.2::R/\x.1=i+1+Z L/\(3<=x.2.1/\x.2.1<=5)/\BI (CA e s) L=0)->∃L R,s::a=L++x.2::R/\x.1=i+Z L/\(3<=x.2.1/\x.2.1<=5)/\BI e L=0:=by rintro⟨L,R,rfl,n,k,l⟩;exact⟨s::L,R,F,Jq,k,l⟩
  rcases Sp a _ _ _ x h with c|j
  .split at c
   .exact yW c
   .rename_i hc;have K:3<=s.1/\s.1<=5:=Decidable.byContradiction λh=>hc (yX h)
    have H:CA e s=0:=Decidable.byContradiction λh=>hc (yW h)
    have d:x=(i,s)->∃L R,s::a=L++x.2::R/\x.1=i+Z L/\(3<=x.2.1/\x.2.1<=5)/\BI e L=0:=by rintro rfl;exact⟨[],a,F,Js,K,by rw[ZP ⟨I,I⟩]at H;exact H⟩
    cases b with
    |none=>simp only[C7,jw]at c;exact yX (d c.symm)
    |some y=>
     simp only[C7]at c;split at c
     .simp only[jw]at c;exact yX (d c.symm)
     .exact yW c
  .exact yX (f j)
theorem Ok{d}:∀(e:JB)(i:Nat)(c:Int) b,Av d e i c (E b)≠JL
 |[],i,c,b,h=>by cases h
 |s::a,i,c,b,h=>by
  simp only[Av]at h;split at h
  .exact Ok a _ _ _ h
  .simp only[C7]at h;split at h
   .exact Ok a _ _ _ h
   .exact Ok a _ _ _ h
theorem aL{L R}{s:Aq}(c:3<=s.1/\s.1<=5)(a:BI 0 L=0):Av ns (L++s::R) 0 0 JL≠none:=by
 rw[Zj,a];simp only[Av];rw[ZP ⟨I,I⟩,yS (λh=>by grind)];cases Av ns L 0 0 JL with
 |none=>exact Ok _ _ _ _
 |some b=>grind [C7,Ok]
theorem Qj{f}:∀(i:JB)(g c:Bool×Nat),AR f g i=E c->BI (g.2:Int) i=(c.2:Int)
 |[],g,c,h=>by simp only[AR,jw]at h;subst h;rfl
 |s::b,(Vt,d),c,h=>by
  simp only[AR]at h;cases e:Bd f (Vt,d) s with
  |none=>rw[e]at h;cases h
  |some s1=>
   rw[e]at h;have:=Qj b s1 c h;rw[El];rcases MB e with⟨a,rfl⟩|⟨a,_,rfl⟩|⟨rfl,rfl⟩
   .rw[ZP ⟨I,I⟩];exact this
   .rw[ZP ⟨I,I⟩];exact this
   .rw[Jo];simpa using this
 |s::b,(Vp,d),c,h=>by
  simp only[AR]at h;cases e:Bd f (Vp,d) s with
  |none=>rw[e]at h;cases h
  |some s1=>
   rw[e]at h;have:=Qj b s1 c h;rw[El];rcases MG e with⟨a,_,rfl⟩|⟨a,_,rfl⟩|⟨rfl,k,rfl⟩
   .rw[ZP ⟨I,I⟩];exact this
   .rw[ZP ⟨I,I⟩];exact this
   .rw[Po];have j:((d-1:Nat):Int)=(d:Int)-1:=I;simpa[j] using this
theorem Lh{m}:∀(b:JB)(n:Bool)(d j:Nat)(g:Bool×Nat),AR m (n,d+1+j) b=E g->g.2<=d->∃c f,b=c++(7,Bs)::f/\AR m (n,j) c=E (Vp,0)/\AR m (Vp,d) f=E g
 |[],n,d,j,g,h,hd=>by simp only[AR,jw]at h;subst h;simp only at hd;omega
 |s::b,Vt,d,j,g,h,hd=>by
  simp only[AR]at h;cases e:Bd m (Vt,d+1+j) s with
  |none=>rw[e]at h;cases h
  |some s1=>
   rw[e]at h;simp only at h;rcases MB e with⟨a,rfl⟩|⟨a,l,rfl⟩|⟨rfl,rfl⟩
   .obtain⟨c,f,rfl,i,k⟩:=Lh b Vp d j g h hd;exact⟨s::c,f,F,by simp only[AR,SM a];exact i,k⟩
   .obtain⟨c,f,rfl,i,k⟩:=Lh b Vt d j g h hd;exact⟨s::c,f,F,by simp only[AR,Tj a l];exact i,k⟩
   .obtain⟨c,f,rfl,i,k⟩:=Lh b Vt d (j+1) g h hd;exact⟨(6,opn)::c,f,F,by simp only[AR,SN];exact i,k⟩
 |s::b,Vp,d,j,g,h,hd=>by
  simp only[AR]at h;cases e:Bd m (Vp,d+1+j) s with
  |none=>rw[e]at h;cases h
  |some s1=>
   rw[e]at h;simp only at h;rcases MG e with⟨a,l,rfl⟩|⟨a,l,rfl⟩|⟨rfl,_,rfl⟩
   .obtain⟨c,f,rfl,i,k⟩:=Lh b Vt d j g h hd;exact⟨s::c,f,F,by simp only[AR,Tk a l];exact i,k⟩
   .obtain⟨c,f,rfl,i,k⟩:=Lh b Vp d j g h hd;exact⟨s::c,f,F,by simp only[AR,SO a l];exact i,k⟩
   .cases j with
    |zero=>exact⟨[],b,F,F,Ju h⟩
    |succ j=>have o:d+1+(j+1)-1=d+1+j:=I;rw[o]at h;obtain⟨c,f,rfl,i,k⟩:=Lh b Vp d j g h hd;exact⟨(7,Bs)::c,f,F,by simp only[AR,Sk];exact i,k⟩
def BW(a b):=AR a (Vt,0) b=E (Vp,0)
def BW.ne{a}(h:BW ns a):a≠[]:=λe=>by subst e;unfold BW at h;simp[AR]at h
theorem WJ{d}(h:BW ns d)(g:Av ns d 0 0 JL=JL):(∃s,(s.1=1\/s.1=2)/\d=[s])\/∃q,d=(6,opn)::(q++[(7,Bs)])/\BW ns q:=by
 have H:∀(L R:JB),d=L++R->BI 0 L=0->AR ns (Vp,0) R=E (Vp,0)->R=[]:=λL R e f i=>by
  cases R with
  |nil=>rfl
  |cons z R=>grind [AR,Bd,MG,aL]
 cases d with
 |nil=>exact yV F h.ne
 |cons s c=>
  unfold BW at h;simp only[AR]at h;cases e:Bd ns (Vt,0) s with
  |none=>rw[e]at h;cases h
  |some st=>
   rw[e]at h;simp only at h;rcases MB e with⟨a,rfl⟩|⟨a,j,rfl⟩|⟨rfl,rfl⟩
   .have:=H [s] c F (by rw[El,ZP ⟨I,I⟩];rfl) h;grind
   .exact yV g (aL (ns:=ns) (L:=[]) (R:=c) (s:=s) I F)
   .obtain⟨r1,r2,rfl,h1,h2⟩:=Lh c Vt 0 0 (Vp,0) h yk;have f:=Qj r1 _ _ h1;have:=H ((6,opn)::(r1++[(7,Bs)])) r2 Js (by
     rw[El,Jo,Nl]
     have k:∀(l:JB)(a b:Int),BI (a+b) l=BI a l+b:=λl=>by
      induction l with
      |nil=>intro a b;rfl
      |cons z l ih=>
       intro a b
       rw[El,El]
       have:CA (a+b) z=CA a z+b:=by grind [CA]
       rw[this,ih]
     grind [BI,El,Po]) h2
    subst this;exact yX ⟨r1,Js,h1⟩
theorem WK{f}(h:BW ns f){x}(l:Av ns f 0 0 JL=E x):∃L R,f=L++x.2::R/\x.1=Z L/\AC ns x.2=Vp /\
  ((x.2.1=3/\(L=[]->BW ns R))\/(x.2.1=5/\BW ns L)\/(x.2.1=4/\BW ns L/\BW ns R)):=by
 rcases Sp f 0 0 JL x l with i|⟨L,R,rfl,m,n,o⟩
 .cases i
 .refine⟨L,R,F,I,?_⟩;unfold BW at h;rw[Np]at h;cases e:AR ns (Vt,0) L with
  |none=>rw[e]at h;cases h
  |some st=>
   rw[e]at h;have k:=Qj L _ _ e;obtain⟨g,d⟩:=st;simp only at k h;have j:d=0:=by grind
   subst j;simp only[AR]at h;cases c:Bd ns (g,0) x.2 with
   |none=>rw[c]at h;cases h
   |some st'=>
    rw[c]at h;simp only at h;cases g with
    |false=>
     rcases MB c with⟨a,rfl⟩|⟨a,b,rfl⟩|⟨a,rfl⟩
     .omega
     .exact⟨b,yW ⟨a,λ_=>h⟩⟩
     .grind
    |true=>
     rcases MG c with⟨a,b,rfl⟩|⟨a,b,rfl⟩|⟨a,_,rfl⟩
     .exact⟨b,yX (yX ⟨a,e,h⟩)⟩
     .exact⟨b,yX (yW ⟨a,e⟩)⟩
     .grind
theorem Gd{i}(f:zM i 0):∀(n:Nat)(j:JB)(T:ET),BW i j->A8 i n j=E T->ZF i T/\Ak T=j
 |0,_,_,_,h=>by simp[A8]at h
 |n+1,j,T,hs,h=>by
  simp only[A8]at h;split at h
  .rename_i hr;rcases WJ hs hr with⟨s,H,rfl⟩|⟨q,rfl,w⟩
   .simp only at h;rw[yS I]at h;injection h with h;subst h;refine⟨⟨F,yW ⟨H,F,F⟩⟩,?_⟩;rw[FD H]
   .simp only at h;rw[yU trivial,List.dropLast_concat]at h;obtain⟨c,d,rfl⟩:=jx.1 h;obtain⟨g,e⟩:=Gd f n q c w d;exact⟨⟨F,yX (yW ⟨F,F,g,F⟩)⟩,by rw[FG,e]⟩
  .rename_i x hr;obtain⟨L,R,rfl,hx,l,u⟩:=WK hs hr;split at h
   .cases h
   .rename_i hn;have p:∀m,m=Z L+1->(L++x.2::R).drop m=R:=λm v=>by subst v;have:L++x.2::R=(L++[x.2])++R:=Js;rw[this];exact List.drop_left' Js
    rcases u with⟨a,k⟩|⟨a,hL⟩|⟨a,hL,k⟩
    .have K:L=[]:=by
      have:x.1=0:=Decidable.byContradiction λh=>hn (yW ⟨a,h⟩)
      exact List.eq_nil_of_length_eq_zero I
     subst K;rw[yU a]at h;simp only[jF,List.drop_succ_cons,List.drop_zero]at h;split at h
     .cases h
     .rename_i c d;split at h
      .rename_i hf;injection h with h;subst h;obtain⟨g,e⟩:=Gd f n R c (k F) d;have b:((3,x.2.2):Aq)=x.2:=Prod.ext a.symm F;simp only[Cw,jB,jM]at hf;refine⟨⟨F,yX (yX (yW ⟨yW F,by rw[b];exact l,g,F,hf.1⟩))⟩,?_⟩;rw[EF,e,b];rfl
      .cases h
    .have Q:R=[]:=by
      have:x.1+1=Z (L++x.2::R):=Decidable.byContradiction λh=>hn (yX ⟨a,h⟩)
      simp only[yr,yB]at this;exact List.eq_nil_of_length_eq_zero I
     subst Q;rw[yS I,yU a,hx,List.take_left]at h;split at h
     .cases h
     .rename_i c d;split at h
      .rename_i hf;injection h with h;subst h;obtain⟨g,e⟩:=Gd f n L c hL d;have b:((5,x.2.2):Aq)=x.2:=Prod.ext a.symm F;simp only[Cw,jB,jM]at hf;refine⟨⟨F,yX (yX (yW ⟨yX F,by rw[b];exact l,g,F,hf.1⟩))⟩,?_⟩;rw[EQ,e,b]
      .cases h
    .rw[yS I,yS I,hx,List.take_left,p _ rfl]at h;split at h
     .cases h
     .rename_i c d;split at h
      .cases h
      .rename_i T2 h2;split at h
       .rename_i hf;injection h with h;subst h;obtain⟨g,e⟩:=Gd f n L c hL d;obtain⟨t,o⟩:=Gd f n R T2 k h2;have b:((4,x.2.2):Aq)=x.2:=Prod.ext a.symm F;simp only[Cw,jB,Bool.or_eq_true,jM,ne_eq,not_true,false_or]at hf;refine⟨⟨F,yX (yX (yX ⟨F,by rw[b];exact l,g,t,hf.1,hf.2⟩))⟩,?_⟩;rw[Gi,e,o,b]
       .cases h
def MO:∀(T:ET),ZF ns T->Ab T<=Z (Ak T):=by
 intro T;induction T with
 |nil=>intro h;exact h.elim
 |node b o t l a ihl ihr=>
  rintro⟨rfl,h⟩;rcases h with⟨K,rfl,rfl⟩|⟨rfl,rfl,c,rfl⟩|⟨H,d,c,rfl,i⟩|⟨rfl,d,c,e,f,g⟩
  .rw[FD K];simp[Ab]
  .have:=ihl c;rw[FG];simp[Ab];omega
  .have:=ihl c;rcases H with rfl|rfl
   .rw[EF];simp[Ab];omega
   .rw[EQ];simp[Ab];omega
  .have:=ihl c;have:=ihr e;rw[Gi];simp[Ab];omega
def zak(b:zM ns 0){a}(c:BW ns a)(d:Z a<=n)(T):A8 ns n a=E T↔RD ns 0 JL (a++[BH])=E (T,[BH]):=by
 rw[<-Y9 b c T];constructor
 .exact Gd b n a T c
 .rintro⟨g,rfl⟩;exact oX b T g n (yy (MO T g) d)
def Aw(b:Jf)(a:JA)(i:Nat):Aq:=
 if(Aa a i).k=3 then((zh b a i).toNat+2,(Aa a i).t)
 else if(Aa a i).k=4 then(6,opn) else if(Aa a i).k=5 then(7,Bs) else if(Aa a i).k=7 then BH else((Aa a i).k.toNat,(Aa a i).t)
def Aj(b:Jf)(c:JA)(a n:Nat):JB:=(List.range' a n).map (Aw b c)
def DI(b c a n):Z (Aj b c a n)=n:=by simp[Aj]
theorem PH(b c a n):Aj b c a (n+1)=Aw b c a::Aj b c (a+1) n:=by simp[Aj,List.range'_succ]
theorem NZ(b c a m n):Aj b c a (m+n)=Aj b c a m++Aj b c (a+m) n:=by
 induction m generalizing a with
 |zero=>simp[Aj]
 |succ m ih=>grind [PH]
theorem Lt(b c a n):Aj b c a (n+1)=Aj b c a n++[Aw b c (a+n)]:=by rw[NZ];rfl
def MV(a)(t:zR):=
 ((t.k=1\/t.k=2)/\¬ Bf a t.t/\t.t≠opn)\/(t.k=3/\Bf a t.t/\t.t≠opn)\/(t.k=4/\t.t=opn/\¬ Bf a t.t)\/(t.k=5/\t.t=Bs/\¬ Bf a t.t)\/t.k=6\/(t.k=7/\t.t=⟨#[]⟩/\¬ Bf a t.t)
theorem RH(c:ZZ ns)(b:Bf ns t):Ai (bt t 0)=6/\1<=t.size:=by obtain⟨j,a,rfl⟩:=b;have:=c j a;grind
theorem sA(m:ZZ ns){s k}(g)(h:Dm ns s i n k):MV ns ⟨(k:Int),g,s.extract i (i+n)⟩:=by
 obtain⟨j,d,h⟩:=h;have f:bt (sub s i n) 0=bt s i:=by grind [GP]
 have q:(sub s i n).size=n:=FB d;have H:Ai (bt s i)≠6->¬ Bf ns (sub s i n):=λb l=>b (by grind [RH])
 have K:Ai (bt s i)≠4->sub s i n≠opn:=λb e=>b (by rw[<-f,e];decide)
 change MV ns ⟨(k:Int),g,sub s i n⟩;rcases h with⟨c,rfl,_⟩|⟨c,rfl,_⟩|⟨c,rfl,rfl⟩|⟨c,rfl,rfl⟩|⟨c,⟨rfl,a,_⟩|⟨rfl,_⟩⟩|⟨c,rfl,_⟩
 .exact yW ⟨yW F,H I,K I⟩
 .exact yW ⟨yX F,H I,K I⟩
 .refine yX (yX (yW ⟨F,?_,H I⟩));exact(I8 q).2 (by grind [Pz])
 .refine yX (yX (yX (yW ⟨F,?_,H I⟩)));exact(I8 q).2 (by grind [Pi])
 .exact yX (yW ⟨F,a,K I⟩)
 .exact yX (yX (yX (yX (yW F))))
 .exact yX (yX (yX (yX (yW F))))
theorem SU{b}(a:ZZ b){s}:∀(ts:JA)(i:Nat),Zr b s i ts->∀j,j<Z ts->MV b (Aa ts j)
 |[],i,h,j,hj=>by simp at hj
 |t::out,i,h,j,hj=>by
  rcases h with⟨rfl,_,_,rfl⟩|⟨p,n,k,_,_,_,_,f,rfl,e⟩
  .have:j=0:=by simp at hj;omega
   subst this;refine yX (yX (yX (yX (yX ⟨F,F,λd=>?_⟩))));have c:=(RH a d).2;simp[Aa]at c;have g:(⟨#[]⟩:JZ).size=0:=F;omega
  .cases j with
   |zero=>exact sA a _ f
   |succ j=>exact SU a out _ e j (Ju hj)
theorem Is{q:Nat}{k}(h:ZL ns t k=Vp)(a:(q:Int)-2=k):AC ns (q,t)=Vp:=by
 unfold AC;simp only[a];cases d:Ax ns t k with
 |some j=>rfl
 |none=>obtain⟨j,e,b,c⟩:=(DG _ _ _).1 h;grind [Xe]
theorem PI(b a t c):ZT b a t Vt c=if t.k=1\/t.k=2\/t.k=4 then 0 else if t.k=3/\ZL b t.t 1=Vp then 1 else -1:=by grind [ZT]
theorem NK(c a t b):ZT c a t Vp b=if t.k=3/\ZL c t.t 2=Vp then 2 else if t.k=3/\ZL c t.t 3=Vp then 3
  else if t.k=5/\0<b then 0 else if t.k=7/\b=0/\a=Vp then 0 else -1:=by
 grind [ZT]
theorem aM(g:i+1<Z ts)(a:0<=zh ns ts i):Bd ns (BC ns ts i,BM ts i) (Aw ns ts i)=E (BC ns ts (i+1),BM ts (i+1)):=by
 have h:decide (i+1=Z ts)=Vt:=Jq;simp only[BC,BM];unfold Aw;unfold zh at a ⊢;rw[h]at a ⊢;generalize Aa ts i=t at a ⊢;generalize BM ts i=b at a ⊢;generalize BC ns ts i=c at a ⊢;cases c
 .grind [PI,SM,C8,C3,SN,ZL,Tj,Is]
 .rw[NK]at a ⊢;by_cases d:t.k=3/\ZL ns t.t 2=Vp
  .grind [Tk,Is,C8,C3]
  .rw[yS d]at a;by_cases e:t.k=3/\ZL ns t.t 3=Vp
   .grind [SO,Is,C8,C3]
   .rw[yS e]at a;by_cases f:t.k=5/\0<b
    .rw[yS I,yS I,yU f.1];obtain⟨m,rfl⟩:∃m,b=m+1:=⟨b-1,I⟩;grind [Sk,C8,C3]
    .grind
theorem SV{b a}:∀n,n<Z a->CM b a n->AR b (Vt,0) (Aj b a 0 n)=E (BC b a n,BM a n)
 |0,_,_=>rfl
 |n+1,hn,hf=>by rw[Lt,Np,SV n I (λi c=>hf i I)];simp only[jd,AR];rw[aM I (hf n I)]
theorem SW(b:CM ns ts (Z ts))(c:0<Z ts)(d:(Aa ts (Z ts-1)).k=7):BW ns (Aj ns ts 0 (Z ts-1))/\Aj ns ts 0 (Z ts)=Aj ns ts 0 (Z ts-1)++[BH]:=by
 have g:=b (Z ts-1) I;have a:BC ns ts (Z ts-1)=Vp/\BM ts (Z ts-1)=0:=by grind [zh,ZT,BC,Aa,BM]
 refine⟨?_,?_⟩
 .unfold BW;rw[SV _ (by omega) (λi f=>b i (by omega)),a.1,a.2]
 .have e:Z ts=Z ts-1+1:=I;grind [Lt,Aw,BH]
theorem oY(e:0<=zh ns ts i)(g:BC ns ts i=Vt)(f:MV ns (Aa ts i)):(((Aa ts i).k=1\/(Aa ts i).k=2)/\¬ Bf ns (Aa ts i).t/\(Aa ts i).t≠opn/\Aw ns ts i=((Aa ts i).k.toNat,(Aa ts i).t)) \/
  ((Aa ts i).k=3/\ZL ns (Aa ts i).t 1=Vp/\(Aa ts i).t≠opn/\Aw ns ts i=(3,(Aa ts i).t)) \/
  ((Aa ts i).k=4/\(Aa ts i).t=opn/\Aw ns ts i=(6,opn)):=by
 unfold Aw;unfold zh at e ⊢;rw[g,PI]at e ⊢;by_cases k:(Aa ts i).k=1\/(Aa ts i).k=2\/(Aa ts i).k=4
 .rcases f with⟨a,b,c⟩|⟨a,b,c⟩|⟨a,b,c⟩|⟨a,b,c⟩|a|⟨a,b,c⟩;all_goals grind
 .rw[yS k]at e ⊢;by_cases c:(Aa ts i).k=3/\ZL ns (Aa ts i).t 1=Vp
  .rw[yU c.1,yU c];refine yX (yW ⟨c.1,c.2,?_,F⟩);rcases f with⟨a,b,d⟩|⟨a,b,d⟩|⟨a,b,d⟩|⟨a,b,d⟩|a|⟨a,b,d⟩
   .exact d
   .exact d
   all_goals omega
  .grind
theorem mR(d:0<=zh ns ts i)(g:BC ns ts i=Vp)(j:MV ns (Aa ts i)):((Aa ts i).k=3/\ZL ns (Aa ts i).t 2=Vp/\Aw ns ts i=(4,(Aa ts i).t)) \/
  ((Aa ts i).k=3/\ZL ns (Aa ts i).t 3=Vp/\Aw ns ts i=(5,(Aa ts i).t)) \/
  (¬ Bf ns (Aa ts i).t/\(Aw ns ts i).1≠4/\(Aw ns ts i).1≠5):=by
 unfold Aw;unfold zh at d ⊢;rw[g,NK]at d ⊢;by_cases e:(Aa ts i).k=3/\ZL ns (Aa ts i).t 2=Vp
 .grind
 .rw[yS e]at d ⊢;by_cases f:(Aa ts i).k=3/\ZL ns (Aa ts i).t 3=Vp
  .grind
  .rw[yS f]at d;have l:(Aa ts i).k=5\/(Aa ts i).k=7:=by grind
   have h:¬ Bf ns (Aa ts i).t:=by rcases j with⟨a,b,c⟩|⟨a,b,c⟩|⟨a,b,c⟩|⟨a,b,c⟩|a|⟨a,b,c⟩;all_goals grind
   refine yX (yX ⟨h,?_⟩);rw[yS I,yS I];by_cases k:(Aa ts i).k=5
   .grind
   .rw[yS k,yU I];exact⟨Jd,Jd⟩
def hT:ET->Nat
 |.nil=>0
 |.node _ _ _ l a=>1+max (hT l) (hT a)
theorem Ou:∀T:ET,hT T<=Ab T
 |.nil=>yk
 |.node _ _ _ l a=>by have:=Ou l;have:=Ou a;simp only[hT,Ab];omega
def Eo(e:Value)(h:Nat):=∃T v f b,e=.iface T v/\(∀w,(method 459 T v "loop.example/s0059/impl.height").run Vb w=.ok (f,b) w)/\(∀a w,(callFunc f a).run Vb w=.ok (.enter f a) w) /\
 ∀w,Calls Vb f #[b] w λx w'=>x=i9 (G h)/\Qb w w'
theorem UJ(t w):Calls Vb 294 #[b9 #[W t]] w λx w'=>x=i9 (G ((1:Nat):Int))/\Qb w w':=by go_enter func294,ntmps294;go_wp2;go_ret;exact⟨F,by grind [zC]⟩
def Q2(g:Eo e h)(i:h<=100000)(w):Calls Vb 285 #[b9 #[e]] w λx w'=>x=i9 (G ((1+h:Nat):Int))/\Qb w w':=by obtain⟨T,v,f,a,rfl,K,q,H⟩:=g;have c:=S H;have d:((1+h:Nat):Int)=1+(h:Int):=I;go_enter func285,ntmps285;go_wp2_with fail;go_call c _ as x j ⟨rfl,b⟩;go_wp2;go_ret;rw[d];exact⟨F,(zC).trans (b.mono Js)⟩
def gC{m i}(p:Ad)(o:Eo e h)(y:Eo m i)(u:h<=100000)(a:i<=100000)(w):Calls Vb 292 #[b9 #[W p.s,G p.k,G p.l,G p.sd,e,m]] w λx w'=>x=i9 (G ((1+max h i:Nat):Int))/\Qb w w':=by
 obtain⟨T,v,f,c,rfl,P,V,Q⟩:=o;obtain⟨g,k,t,z,rfl,j,b,q⟩:=y;have l:=S Q;have X:=S q;go_enter func292,ntmps292;go_wp2_with fail;have H:=S ((@zC w (JM #[W p.s,G p.k,G p.l,G p.sd,.iface T v,.iface g k] 277)).drew);have K:=S (show Cs [(O w.1,4,.iface T v),(O w.1,5,.iface g k)] ((w.alloc (JM #[W p.s,G p.k,G p.l,G p.sd,.iface T v,.iface g k] 277)).drew) from by
  intro x hx
  simp only[jH,List.not_mem_nil,or_false]at hx
  rcases hx with rfl|rfl
  .simp[go_sem]
  .simp[go_sem])
 go_region_held (λw'=>w'.cell? (J (O w.1) 4)=E (.iface T v)/\w'.cell? (J (O w.1) 5)=E (.iface g k)) (first|(go_keep;done)|exact⟨K (O w.1,4,.iface T v) Js,K (O w.1,5,.iface g k) Js⟩)
  (first|((with_reducible refine((D l) _).mono ?_);rintro x s ⟨rfl,d⟩;replace K:=S (K.y d);replace H:=S (H.trans (d.mono H.size));clear d l)|((with_reducible refine((D X) _).mono ?_);rintro x s ⟨rfl,d⟩;replace K:=S (K.y d);replace H:=S (H.trans (d.mono H.size));clear d X))
 have n:IntKind.i64.wrap (1+max (h:Int) (i:Int))=((1+max h i:Nat):Int):=by rw[IntKind.wrap_i64];omega
 rw[n];go_wp2;go_ret;exact⟨F,H⟩
def wK(t):Eo (IE t) 1:=⟨_,_,294,b9 #[W t],F,λw=>Jk,λa w=>Jk,UJ t⟩
def sB(t):Eo (Iu t) 1:=⟨_,_,294,b9 #[W t],F,λw=>Jk,λa w=>Jk,UJ t⟩
def wL(b:Eo e h)(c:h<=100000):Eo (EK e) (1+h):=⟨_,_,285,b9 #[e],F,λw=>Jk,λa w=>Jk,Q2 b c⟩
def wM(p)(b:Eo e h)(c:h<=100000):Eo (Er p e) (1+h):=⟨_,_,285,b9 #[e],F,λw=>Jk,λa w=>Jk,Q2 b c⟩
def sC(p)(b:Eo e h)(c:h<=100000):Eo (D8 p e) (1+h):=⟨_,_,285,b9 #[e],F,λw=>Jk,λa w=>Jk,Q2 b c⟩
def wN(p){c b}(d:Eo e h)(H:Eo c b)(f:h<=100000)(K:b<=100000):Eo (DS p e c) (1+max h b):=⟨_,_,292,_,F,λw=>Jk,λa w=>Jk,gC p d H f K⟩
theorem It(a:b=3\/b=4\/b=5)(c:AC ns (b,t)=Vp):Ao ns (b,t)=(Al ns (rt b t)).l:=by grind [AC,Ao,AY,Al,rt,Ax]
def sD(f):∀T:ET,ZF f T->hT T<=100000->Eo (Bm f T) (hT T):=by
 intro T;induction T with
 |nil=>intro h;exact h.elim
 |node b o t l a ihl ihr=>
  intro g i;simp only[hT]at i;rcases g with⟨rfl,⟨d,rfl,rfl⟩|⟨rfl,rfl,c,rfl⟩|⟨d,j,c,rfl,_⟩|⟨rfl,j,c,k,_⟩⟩
  .rcases d with rfl|rfl
   .exact wK t
   .exact sB t
  .have:=wL (ihl c I) I;have e:hT (.node 6 0 j6 l .nil)=1+hT l:=by simp[hT]
   rw[e];exact this
  .have e:∀b,hT (.node b 0 t l .nil)=1+hT l:=λb=>by simp[hT]
   rw[e];rcases d with rfl|rfl
   .exact wM _ (ihl c I) I
   .exact sC _ (ihl c I) I
  .exact wN _ (ihl c I) (ihr k I) I I
def WL(c):∀T:ET,ZF c T->GU (Bm c T) (Ay c T):=by
 intro T g;cases T with
 |nil=>exact g.elim
 |node b o t l a=>
  rcases g with⟨rfl,⟨d,rfl,rfl⟩|⟨rfl,rfl,h,rfl⟩|⟨d,f,h,rfl,_⟩|⟨rfl,f,h,i,_⟩⟩
  .have e:Ay c (.node b 0 t .nil .nil)=1001:=Ih c b t I;rw[e];rcases d with rfl|rfl
   .exact X6 t
   .exact Xf t
  .have e:Ay c (.node 6 0 j6 l .nil)=1001:=Ih c 6 _ I;rw[e];exact wD _
  .have e:Ay c (.node b 0 t l .nil)=(Al c (rt b t)).l:=It I f;rw[e];rcases d with rfl|rfl
   .exact Ym _ _
   .exact Xg _ _
  .have e:Ay c (.node 4 0 t l a)=(Al c (rt 4 t)).l:=It I f;rw[e];exact Yn _ _ _
theorem WM(a:AC ns (b,t)=Vp):(Al ns (rt b t)).s=t:=by grind [LS,ED]
theorem sE(d):∀T:ET,ZF d T->E8 (Bm d T) (nd T):=by
 intro T;induction T with
 |nil=>intro h;exact h.elim
 |node b o t l a ihl ihr=>
  intro i;rcases i with⟨rfl,⟨f,rfl,rfl⟩|⟨rfl,rfl,c,rfl⟩|⟨f,g,c,rfl,_⟩|⟨rfl,g,c,j,_⟩⟩
  .rcases f with rfl|rfl
   .exact vV t
   .exact rP t
  .have e:nd (.node 6 0 j6 l .nil)=E9 (nd l) 6 j6:=by grind [nd,E9,tN,ZN,zY,Ab]
   rw[e];exact vW (ihl c)
  .have hs:=WM g;rcases f with rfl|rfl
   .have e:nd (.node 3 0 t l .nil)=E9 (nd l) 3 (Al d (rt 3 t)).s:=by grind [nd,E9,tN,ZN,zY,Ab]
    rw[e];exact vX (ihl c) _
   .have e:nd (.node 5 0 t l .nil)=E9 (nd l) 5 (Al d (rt 5 t)).s:=by grind [nd,E9,tN,ZN,zY,Ab]
    rw[e];exact rQ (ihl c) _
  .have hs:=WM g;have e:nd (.node 4 0 t l a)=Ox (nd l) (nd a) (Al d (rt 4 t)).s:=by grind [nd,Ox,tN,ZN,zY,Ab]
   rw[e];exact vY (ihl c) (ihr j) _
open Go.Maps
def Bo(w:JY)(p)(g o n c:Nat)(i:Nat)(b a:Nat):=
 w.cell? (J p 0)=E (Je g o n c)/\w.cell? (J p 1)=E (G i)/\w.cell? (J p 2)=E (.map (E b))/\w.cell? (J p 3)=E (.map (E a))/\w.frozen? (J p 1)=Vt
def Bo.y(h:Bo w p g o n c i bf bb)(a:Qb w w'):Bo w' p g o n c i bf bb:=
 have H:=jl h.1
 ⟨Jc a H h.1,Jc a H h.2.1,Jc a H h.2.2.1,Jc a H h.2.2.2.1,(a.frozen (p:=J p 1) H).trans h.2.2.2.2⟩
def Bo.set(h:Bo w p g o n c i bf bb)(j:Nat):Bo (w.setCell ⟨p,1,JL⟩ (G j)) p g o n c j bf bb:=
 ⟨(yj _ _ _ _ Js).trans h.1,yu _ _ _ h.2.1,(yj _ _ _ _ Js).trans h.2.2.1,(yj _ _ _ _ Js).trans h.2.2.2.1,(yx).trans h.2.2.2.2⟩
def zE.setP(v):zE w (w.setCell (J p 1) v) p:=⟨F,F,F,Jt,λ_ _ a=>jh _ _ _ _ a⟩
def Qk:Ending:=.panicked [{ v:=.iface 207 (b9 #[G 5,G 0]),recovered:=Vt }]
def sF(w:JY)(l h:Int)(p g o n c i d b:Nat)(x)(a:JY):=
 Hid (zE w a p)/\((l<h/\x=Qk)\/(h<=l/\x=i9 (i5 #[])/\Hid (Bo a p g o n c (i+1) d b)))
def Xs{l}(h:GU e l)(p g o n c i t s H w)(j:Bo w p g o n c i t s)(L:i<=100000):Calls Vb 207 #[Qp p,e,G H] w (sF w l H p g o n c i t s):=by
 obtain⟨T,v,f,b,rfl,y,a,K⟩:=h;have u:=S K;go_enter func207,ntmps207;go_wp2_with fail;go_call u _ as x M ⟨rfl,d⟩;replace j:=S (j.y d);have m:=S (zE.Q (g:=p) d);by_cases A:l<H
 .have k:=S A;go_wp2;exact⟨F,m,yW ⟨k,F⟩⟩
 .have X:H<=l:=I;have k:=S X;have B:=j.2.1;have C:=j.2.2.2.2;have z:((i+1:Nat):Int)=(i:Int)+1:=I;have q:=S (j.set (i+1));rw[z]at q;have Q:=S (m.trans (zE.setP (p:=p) (G ((i:Int)+1))));go_wp2;go_end0;exact⟨Q,yX ⟨k,F,q⟩⟩
def Fc(c:Jf)(b:Int)(s:Aq)(a:JB):Option (ET×JB):=
 if s.1=3 then(if Ao c s<b then JL else(match RD c (sH c s Vt) JL a with
  |none=>JL
  |some x=>E (.node 3 0 s.2 x.1 .nil,x.2)))
 else if s.1=6 then(match RD c 0 JL a with
  |none=>JL
  |some x=>E (.node 6 0 j6 x.1 .nil,x.2.tail))
 else E (.node s.1 0 s.2 .nil .nil,a)
theorem zal(c b s a):RD c b JL (s::a)=(match Fc c b s a with
  |none=>JL
  |some x=>RD c b (E x.1) x.2):=by
 grind [P0,Fc,Ao,RD,sH]
theorem PJ(e:zM ns 0){s}(b:s.1=3\/s.1=4\/s.1=5)(d:AC ns s=Vp):sH ns s Vt<=1001/\(s.1=4->sH ns s Vp<=1001):=by
 have f:=Bq e b d;have g:=f.hi;rcases b with h|h|h
 .have:=(f.pre h).1;grind
 .rcases f.mid h with⟨_,a,c⟩|⟨_,a,c⟩|⟨_,a,c⟩<;>exact⟨I,λ_=>I⟩
 .have:=(f.post h).1;grind
theorem V3(f:zM ns 0){a y}(o:AW ns (Vt,d+1) a)(p:RD ns 0 JL a=E y):∃q,y.2=(7,Bs)::q/\AW ns (Vp,d) q/\ZF ns y.1/\a=Ak y.1++(7,Bs)::q:=by
 obtain⟨b,j,k,c,l⟩:=DF f _ 0 JL a (d+1) y I o (λL e=>by cases e) p;obtain⟨T,q⟩:=y;simp only[yM,jF]at b j k c l;cases q with
 |nil=>exact(Lx b).elim
 |cons z q=>
  have u:z=(7,Bs)/\AW ns (Vp,d) q:=by
   rcases I4 b with⟨_,_,t⟩|⟨g,h,_⟩|⟨i,h,_⟩|⟨m,_,n⟩
   .omega
   .have:=c z q F (yW g);have:=(Bq f (s:=z) (yX (yW g)) h).lo;omega
   .have:=c z q F (yX i);have:=(Bq f (s:=z) (yX (yX i)) h).lo;omega
   .exact⟨m,n⟩
  grind
theorem V4(f:zM ns 0){s a x}(u:least<=1001)(o:AW ns (Vt,d) (s::a))(h:Fc ns least s a=E x):AW ns (Vp,d) x.2/\ZF ns x.1/\least<=Ay ns x.1/\s::a=Ak x.1++x.2:=by
 unfold Fc at h;rcases Ns o with⟨b,H⟩|⟨b,g,H⟩|⟨rfl,H⟩
 .rw[yS I,yS I]at h;injection h with h;subst h;have K:Ay ns (.node s.1 0 s.2 .nil .nil)=1001:=Ih ns _ _ I;refine⟨H,⟨F,yW ⟨b,F,F⟩⟩,by grind,?_⟩;rw[FD b];rfl
 .rw[yU b]at h;by_cases Q:Ao ns s<least
  .grind
  .rw[yS Q]at h;cases c:RD ns (sH ns s Vt) JL a with
   |none=>rw[c]at h;cases h
   |some y=>rw[c]at h;injection h with h;subst h;obtain⟨i,j,k,_,p⟩:=DF f _ _ JL a d y (PJ f (yW b) g).1 H (λL e=>by cases e) c;obtain⟨v,w⟩:=s;simp only at b;subst b;refine⟨i,⟨F,yX (yX (yW ⟨yW F,g,j,F,k⟩))⟩,by grind [Ay],?_⟩;grind [EF,yM]
 .rw[yS Jd,yU rfl]at h;cases c:RD ns 0 JL a with
  |none=>rw[c]at h;cases h
  |some y=>rw[c]at h;injection h with h;subst h;obtain⟨q,l,m,n,t⟩:=V3 f H c;have K:Ay ns (.node 6 0 j6 y.1 .nil)=1001:=Ih ns _ _ I;rw[l];refine⟨m,⟨F,yX (yW ⟨F,F,n,F⟩)⟩,by grind,?_⟩;grind [FG]
def RA{m a b}(h:Aj ns ts i m=a++b):b=Aj ns ts (i+m-Z b) (Z b)/\Z b<=m:=by have c:=yY List.length h;rw[DI,yr]at c;have e:m=Z a+Z b:=c;rw[e,NZ]at h;have f:=List.append_inj' h (by rw[DI]);refine⟨?_,I⟩;have d:i+m-Z b=i+Z a:=I;rw[d];exact f.2.symm
theorem Yu{a b e f}(h:AW ns (a,d) f)(g:AW ns (b,e) f):a=b:=by
 cases f with
 |nil=>exact(Lx h).elim
 |cons s c=>
  have j:∀{d e:Nat},AW ns (Vt,d) (s::c)->AW ns (Vp,e) (s::c)->False:=by
   intro d e h g;have k:s.1=1\/s.1=2\/s.1=3\/s.1=6:=by rcases Ns h with⟨i,_⟩|⟨i,_⟩|⟨i,_⟩;all_goals grind
   have l:s.1=4\/s.1=5\/s.1=7\/s.1=8:=by
    rcases I4 g with⟨x,_⟩|⟨x,_⟩|⟨x,_⟩|⟨x,_⟩
    .rw[x];decide
    .omega
    .omega
    .rw[x];decide
   omega
  cases a<;>cases b
  all_goals grind
def IA(d:Jf)(w:JY)(p g o n c h f:Nat)(b:Option (ET×JB))(x)(e:JY):=
 Hid (zE w e p)/\((b=JL/\x=Qk)\/∃T a,b=E (T,a)/\x=i9 (Bm d T)/\Hid (ZF d T)/\Hid (Bo e p g o n c (n-Z a) h f))
def NC{T}(h:ZF ns T):∃c v,Bm ns T=.iface c v:=by
 cases T with
 |nil=>exact h.elim
 |node b o t l a=>exact NA _ _ _ _
def Cy(w:JY)(a)(q:Ad):=
 w.cell? (J a 0)=E (W q.s)/\w.cell? (J a 1)=E (G q.k)/\w.cell? (J a 2)=E (G q.l)/\w.cell? (J a 3)=E (G q.sd)
def Cy.kept{a q}(h:Cy w a q)(b:zE w w' p)(H:a≠p):Cy w' a q:=
 have K:=jl h.1
 ⟨(b.cell K H 0).trans h.1,(b.cell K H 1).trans h.2.1,(b.cell K H 2).trans h.2.2.1,(b.cell K H 3).trans h.2.2.2⟩
def MW(e h p g o n c d b i a f):=
 ∀w,zE h w p->Bo w p g o n c i d b->Calls Vb 167 #[Qp p,G a] w (IA e w p g o n c d b (RD e a JL f))
theorem mS(hv:zM ns 0)(p g o n c B A i d t k w)(U:MW ns w p g o n c B A i 0 t)(R:Bo w p g o n c i B A)(hn:n<=100000)(a:Z t<=n)(hf:AW ns (Vt,d+1) t)(s)(H:s=(match RD ns 0 JL t with
   |none=>JL
   |some x=>E (.node 6 0 j6 x.1 .nil,x.2.tail))):Calls Vb 163 #[Qp p,G k] w (IA ns w p g o n c B A s):=by
 have N:=U w (zE.refl _ _) R;have h:=S H;clear U R H;go_enter func163,ntmps163;go_wp2_with fail;refine N.mono ?_;clear N;rintro x w1 ⟨z,⟨h0,rfl⟩|⟨T,f,u,rfl,M,l⟩⟩
 .rw[h0]at h;exact⟨F,z,yW ⟨h,F⟩⟩
 .have b:=S u;obtain⟨q,L⟩:∃q,f=(7,Bs)::q:=by obtain⟨q,e,_⟩:=V3 hv hf u;exact⟨q,e⟩
  have K:Z f<=Z t:=En ns _ _ _ _ _ u;have X:Z f=Z q+1:=by rw[L];rfl
  obtain⟨m,P⟩:=Jx (n-Z f);rw[<-P]at l;have c1:=l.2.1;have c4:=l.2.2.2.2;have e1:((m+1:Nat):Int)=(m:Int)+1:=I;have Q:=S (l.set (m+1));rw[e1]at Q;have y:=S (z.trans (zE.setP (p:=p) (G ((m:Int)+1))));have HM:=S (I:m+1=n-Z q);have HQ:=S L;obtain⟨Ty,v,C⟩:=NC M;have V:=S (by rw[<-C];rfl:Bm ns (.node 6 0 j6 T .nil)=EK (.iface Ty v));rw[C];have j:m<=100000:=I;clear l z L K u X P C;go_wp2;go_ret;refine⟨y,yX ⟨.node 6 0 j6 T .nil,q,?_,by rw[D V];rfl,S ⟨F,yX (yW ⟨F,F,M,F⟩)⟩,?_⟩⟩
  .rw[D h,D b,D HQ];rfl
  .rw[<-D HM];exact Q
theorem sG(p g o n c L C i t ss f w l s m)(na:l≠p)(nb:s≠p)(nh:m≠p)(hk:AC ns (3,t)=Vp)(hr:MW ns w p g o n c L C i (sH ns (3,t) Vt) ss)(hp:Bo w p g o n c i L C)(u:Cy w l (Al ns (rt 3 t)))(h2:w.cell? (J s 0)=E (Qp p))(M:w.cell? (J m 0)=E (G (sH ns (3,t) Vt)))(k)(H:k=(if Ao ns (3,t)<f then JL else(match RD ns (sH ns (3,t) Vt) JL ss with
   |none=>JL
   |some x=>E (.node 3 0 t x.1 .nil,x.2))))(Q:∀T e,k=E (T,e)->ZF ns T):Calls Vb 205 #[G f,Qp l,Qp s,Qp m] w (IA ns w p g o n c L C k):=by
 have B:=hr w.drew (zE.Q ((yN).drew)) (hp.y ((yN).drew));obtain⟨U,a1,a2,a3⟩:=u;rw[It (ns:=ns) (b:=3) (t:=t) (yW rfl) hk]at H;have h:=S H;have d:=S Q;clear H Q;have HL:=S (It (ns:=ns) (b:=3) (t:=t) (yW F) hk);have R:Hid (∀T,Bm ns (.node 3 0 t T .nil)=Er (Al ns (rt 3 t)) (Bm ns T)):=λT=>F
 generalize Al ns (rt 3 t)=q at U a1 a2 a3 HL R h;generalize sH ns (3,t) Vt=hl at M B h;clear hr hp;by_cases y:q.l<f
 .have A:=S y;go_enter func205,ntmps205;go_wp2;exact⟨F,S (zE.refl _ _),yW ⟨by rw[D h,yU (D A)],F⟩⟩
 .have V:f<=q.l:=I;have A:=S y;go_enter func205,ntmps205;go_wp2_with fail;go_region_held (λw'=>(w'.cell? (J l 0)=E (W q.s)/\w'.cell? (J l 1)=E (G q.k)/\w'.cell? (J l 2)=E (G q.l)/\w'.cell? (J l 3)=E (G q.sd))/\w'.cell? (J s 0)=E (Qp p)/\w'.cell? (J m 0)=E (G hl)) (first|(go_keep;done)|exact⟨(show Cy w l q from⟨U,a1,a2,a3⟩).kept K na,(K.cell (jl h2) nb 0).trans h2,(K.cell (jl M) nh 0).trans M⟩)
   (first|(go_at_call 167;(refine B.mono ?_;rintro x w1 ⟨z,⟨h0,rfl⟩|⟨T,e,u,rfl,HG,HP⟩⟩;(focus(have hn:k=none:=(by rw[D h,h0];simp);exact⟨F,S ((zE.Q ((yN).drew)).trans z),yW ⟨hn,F⟩⟩));have K:=S ((zE.Q (g:=p) ((@yN (O w.1) w).drew)).trans z);have P:=S u;obtain⟨Ty,v,N⟩:=NC HG;have a:=S N;rw[N];clear u N B z)))
  have j:=S (by rw[D R,D a]:Bm ns (.node 3 0 t T .nil)=Er q (.iface Ty v));have X:=S (show k=E (.node 3 0 t T .nil,e) by
   have:=D A
   rw[D h,yS I,D P])
  go_wp2;go_ret;exact⟨K,yX ⟨_,_,X,by rw[D j];rfl,S (d _ _ X),HP⟩⟩
def bX(d:Jf)(w:JY)(p g o n c h f:Nat)(b:Option (ET×JB))(x)(e:JY):=
 Hid (zE w e p)/\((b=JL/\x=Qk)\/∃T a,b=E (T,a)/\x=i9 (i5 #[Bm d T,i7 Vp])/\Hid (ZF d T)/\Hid (Bo e p g o n c (n-Z a) h f))
def wO(e t a w c k j l)(n:AC ns (4,t)=Vp)(m:Cy w c (Al ns (rt 4 t)))(d:Ao ns (4,t)<a):Calls Vb 206 #[e,G a,Qp c,Qp k,Qp j,Qp l] w λx w'=>x=i9 (i5 #[.nilIface,i7 Vt])/\w'=w:=by obtain⟨f,g,h,i⟩:=m;rw[It (ns:=ns) (b:=4) (t:=t) (yX (yW rfl)) n]at d;generalize Al ns (rt 4 t)=q at f g h i d;go_enter func206,ntmps206;go_wp2;exact yQ (v:=i5 #[.nilIface,i7 Vt]) (by simp[results,results206,go_sem]) F ⟨F,F⟩
def sI(e t a w c k j)(m:AC ns (5,t)=Vp)(l:Cy w c (Al ns (rt 5 t)))(d:Ao ns (5,t)<a):Calls Vb 208 #[e,G a,Qp c,Qp k,Qp j] w λx w'=>x=i9 (i5 #[.nilIface,i7 Vt])/\w'=w:=by obtain⟨f,g,h,i⟩:=l;rw[It (ns:=ns) (b:=5) (t:=t) (yX (yX rfl)) m]at d;generalize Al ns (rt 5 t)=q at f g h i d;go_enter func208,ntmps208;go_wp2;exact yQ (v:=i5 #[.nilIface,i7 Vt]) (by simp[results,results208,go_sem]) F ⟨F,F⟩
def oZ(p g o n c s m i t a L d w l y u)(na:l≠p)(nb:y≠p)(nh:u≠p)(hk:AC ns (5,t)=Vp)(hL:ZF ns L)(M:i+1+Z a=n)(hn:n<=100000)(P:Bo w p g o n c i s m)(B:Cy w l (Al ns (rt 5 t)))(h2:w.cell? (J y 0)=E (Qp p))(h3:w.cell? (J u 0)=E (G (sH ns (5,t) Vt)))(N:d<=Ao ns (5,t))(e)(H:e=(if Ay ns L<sH ns (5,t) Vt then JL else E (.node 5 0 t L .nil,a)))(K:∀T a,e=E (T,a)->ZF ns T):Calls Vb 208 #[Bm ns L,G d,Qp l,Qp y,Qp u] w (bX ns w p g o n c s m e):=by
 have k:=Xs (WL ns L hL) p g o n c i s m (sH ns (5,t) Vt) w P I;have z:=S B;obtain⟨a0,a1,a2,a3⟩:=B;rw[It (ns:=ns) (b:=5) (t:=t) (yX (yX rfl)) hk]at N;have h:=S H;have X:=S K;clear H K;have f:=S (show Bm ns (.node 5 0 t L .nil)=D8 (Al ns (rt 5 t)) (Bm ns L) from F);generalize Al ns (rt 5 t)=q at a0 a1 a2 a3 N f z;generalize sH ns (5,t) Vt=hh at h3 k h;obtain⟨Ty,v,C⟩:=NC hL;rw[C]at k f ⊢;have R:=S M;clear P M C;go_enter func208,ntmps208;go_wp2_with fail;go_call k as x w1 ⟨j,⟨A,rfl⟩|⟨A,rfl,V⟩⟩
 .exact⟨F,j,yW ⟨by rw[D h,yU A],F⟩⟩
 .have Q:=S (by rw[D h,yS I]:e=E (.node 5 0 t L .nil,a));obtain⟨b0,b1,b2,b3⟩:=z.kept j na;have U:=S (by have:=D R;omega:i+1=n-Z a);go_wp2_with fail;refine yQ (v:=i5 #[D8 q (.iface Ty v),i7 Vp]) (by simp[results,results208,go_sem,D8]) F ?_;exact⟨j,yX ⟨_,_,Q,by rw[D f],S (X _ _ Q),by rw[<-D U];exact V⟩⟩
theorem sJ(p g o n c M C i t e L f w m N bh R)(na:m≠p)(nb:N≠p)(nh:bh≠p)(nq:R≠p)(hk:AC ns (4,t)=Vp)(hL:ZF ns L)(hi:i<=100000)(hr:MW ns w p g o n c M C (i+1) (sH ns (4,t) Vp) e)(hp:Bo w p g o n c i M C)(B:Cy w m (Al ns (rt 4 t)))(h2:w.cell? (J N 0)=E (Qp p))(h3:w.cell? (J bh 0)=E (G (sH ns (4,t) Vt)))(h4:w.cell? (J R 0)=E (G (sH ns (4,t) Vp)))(hl:f<=Ao ns (4,t))(k)(H:k=(if Ay ns L<sH ns (4,t) Vt then JL else(match RD ns (sH ns (4,t) Vp) JL e with
   |none=>JL
   |some x=>E (.node 4 0 t L x.1,x.2))))(y:∀T e,k=E (T,e)->ZF ns T):Calls Vb 206 #[Bm ns L,G f,Qp m,Qp N,Qp bh,Qp R] w (bX ns w p g o n c M C k):=by
 have HT:=Xs (WL ns L hL) p g o n c i M C (sH ns (4,t) Vt) w hp I;have HO:=S B;obtain⟨a0,a1,a2,a3⟩:=B;rw[It (ns:=ns) (b:=4) (t:=t) (yX (yW rfl)) hk]at hl;have h:=S H;have P:=S y;clear H y;have HE:Hid (∀T,Bm ns (.node 4 0 t L T)=DS (Al ns (rt 4 t)) (Bm ns L) (Bm ns T)):=λT=>F
 generalize Al ns (rt 4 t)=q at a0 a1 a2 a3 hl HE HO;generalize sH ns (4,t) Vt=hh at h3 HT h;generalize sH ns (4,t) Vp=hs at h4 hr h;obtain⟨Ty,v,he⟩:=NC hL;rw[he]at HT HE ⊢;clear hp he;go_enter func206,ntmps206;go_wp2_with fail;go_call HT as x s ⟨z,⟨h0,rfl⟩|⟨h0,rfl,HP⟩⟩
 .exact⟨F,z,yW ⟨by rw[D h,yU h0],F⟩⟩
 .have j:=zE.Q (g:=p) ((@yN (O s.1) s).drew);have HX:=(D hr) s.drew (z.trans j) (HP.y ((@yN (O s.1) s).drew));have Q:=S (z.trans j);obtain⟨b0,b1,b2,b3⟩:=HO.kept z na;have d2:=(z.cell (jl h2) nb 0).trans h2;have d4:=(z.cell (jl h4) nq 0).trans h4;have HN:=S (I:¬ Ay ns L<hh);go_wp2_with fail;go_region_held (λw'=>(w'.cell? (J m 0)=E (W q.s)/\w'.cell? (J m 1)=E (G q.k)/\w'.cell? (J m 2)=E (G q.l)/\w'.cell? (J m 3)=E (G q.sd))/\w'.cell? (J N 0)=E (Qp p)/\w'.cell? (J R 0)=E (G hs)) (first|(go_keep;done)|exact⟨(show Cy s m q from⟨b0,b1,b2,b3⟩).kept X na,(X.cell (jl d2) nb 0).trans d2,(X.cell (jl d4) nq 0).trans d4⟩)
   (first|(go_at_call 167;refine HX.mono ?_;rintro x w2 ⟨l,⟨h0,rfl⟩|⟨T,r2,B,rfl,HG,HP⟩⟩;(focus(have hn:k=none:=(by rw[D h,h0];simp);exact⟨F,S (Q.trans l),yW ⟨hn,F⟩⟩));have U:=S (Q.trans l);have X:=S ((zE.Q (g:=p) ((@yN (O s.1) s).drew)).trans l);have a:=S B;obtain⟨A,v2,K⟩:=NC HG;have u:=S K;rw[K];clear B K HX l Q))
  have V:=S (by rw[D HE,D u]:Bm ns (.node 4 0 t L T)=DS q (.iface Ty v) (.iface A v2));have d:=S (by have:=D HN;rw[D h,yS I,D a]:k=E (.node 4 0 t L T,r2));go_wp2_with fail;refine yQ (v:=i5 #[DS q (.iface Ty v) (.iface A v2),i7 Vp]) (by simp[results,results206,go_sem,DS]) F ?_;exact⟨U,yX ⟨_,_,d,by rw[D V],S (P _ _ d),HP⟩⟩
theorem Pp(h:i<n):AB (CY ns ts n) i=zh ns ts i:=by grind [AB,CY]
def L8(a b i):=
 ((Aa b i).k=3/\(1<=zh a b i/\zh a b i<=3)/\Aw a b i=((zh a b i).toNat+2,(Aa b i).t)/\∃j,Ax a (Aa b i).t (zh a b i)=E j/\Ao a (Aw a b i)=(r a j).l/\CB a (Aw a b i)=AE (r a j).k (r a j).sd) \/
 ((Aa b i).k≠3/\zh a b i=0/\¬ (3<=(Aw a b i).1/\(Aw a b i).1<=5))
theorem zbo{a}(h:ZL ns t a=Vp)(d:1<=a/\a<=3):∃j,Ax ns t a=E j/\Ao ns (a.toNat+2,t)=(r ns j).l/\CB ns (a.toNat+2,t)=AE (r ns j).k (r ns j).sd:=by
 have e:((a.toNat+2:Nat):Int)-2=a:=I;have c:=Is h e;cases b:Ax ns t a with
 |none=>grind [AC]
 |some j=>grind [Al,rt,r,It,CB]
theorem zam(a:0<=zh ns ts i):L8 ns ts i:=by
 unfold L8;have e:((Aa ts i).k=3/\((zh ns ts i=1/\ZL ns (Aa ts i).t 1=Vp)\/(zh ns ts i=2/\ZL ns (Aa ts i).t 2=Vp)\/(zh ns ts i=3/\ZL ns (Aa ts i).t 3=Vp))) \/
   (((Aa ts i).k=1\/(Aa ts i).k=2\/(Aa ts i).k=4\/(Aa ts i).k=5\/(Aa ts i).k=7)/\zh ns ts i=0):=by
  unfold zh at a ⊢;generalize Aa ts i=t at a ⊢;generalize BM ts i=k at a ⊢;generalize decide (i+1=Z ts)=q at a ⊢;generalize BC ns ts i=l at a ⊢;cases l
  .rw[PI]at a ⊢;by_cases j:t.k=1\/t.k=2\/t.k=4
   .rw[yU j];exact yX ⟨I,F⟩
   .rw[yS j]at a ⊢;by_cases c:t.k=3/\ZL ns t.t 1=Vp
    .rw[yU c];exact yW ⟨c.1,yW ⟨F,c.2⟩⟩
    .rw[yS c]at a;omega
  .rw[NK]at a ⊢;by_cases b:t.k=3/\ZL ns t.t 2=Vp
   .rw[yU b];exact yW ⟨b.1,yX (yW ⟨F,b.2⟩)⟩
   .rw[yS b]at a ⊢;by_cases d:t.k=3/\ZL ns t.t 3=Vp
    .rw[yU d];exact yW ⟨d.1,yX (yX ⟨F,d.2⟩)⟩
    .rw[yS d]at a ⊢;by_cases f:t.k=5/\0<k
     .rw[yU f];exact yX ⟨I,F⟩
     .rw[yS f]at a ⊢;by_cases g:t.k=7/\k=0/\q=Vp
      .rw[yU g];exact yX ⟨I,F⟩
      .rw[yS g]at a;omega
 rcases e with⟨u,h⟩|⟨s,m⟩
 .grind [Aw,zh,Aa,ZL,zbo]
 .right;refine⟨I,m,?_⟩;unfold Aw;rw[yS I];by_cases n:(Aa ts i).k=4
  .grind
  .rw[yS n];by_cases o:(Aa ts i).k=5
   .grind
   .rw[yS o];by_cases p:(Aa ts i).k=7
    .rw[yU p];decide
    .grind
theorem zan(h:L8 ns ts i)(j:1<=(Aa ts i).k/\(Aa ts i).k<=7/\(Aa ts i).k≠6)(d):CA d (Aw ns ts i)=d+(if(Aa ts i).k=4 then 1 else 0)-(if(Aa ts i).k=5 then 1 else 0):=by
 rcases h with⟨a,l,f,_⟩|⟨a,g,k⟩
 .grind [ZP]
 .unfold Aw;rw[yS a];by_cases b:(Aa ts i).k=4
  .grind [Jo]
  .rw[yS b];by_cases c:(Aa ts i).k=5
   .grind [Po]
   .rw[yS c,yS b,yS c];by_cases e:(Aa ts i).k=7
    .rw[yU e,ZP Jd];omega
    .grind [ZP]
theorem zao(a s):a-1<=CA a s/\CA a s<=a+1:=by grind [CA]
theorem aN:∀(c:JB)(b:Int),b-(Z c:Int)<=BI b c/\BI b c<=b+(Z c:Int)
 |[],b=>by simp[BI]
 |s::a,b=>by rw[El];have d:=aN a (CA b s);have e:=zao b s;simp only[yB];omega
def FO(x:Option (Nat×Aq)):Int:=match x with
 |none=>-1
 |some x=>(x.1:Int)
def wP(b c a n):Av b (Aj b c a (n+1)) a 0 JL=(if CA (BI 0 (Aj b c a n)) (Aw b c (a+n))≠0\/¬ (3<=(Aw b c (a+n)).1/\(Aw b c (a+n)).1<=5) then Av b (Aj b c a n) a 0 JL else C7 b (Av b (Aj b c a n) a 0 JL) (a+n,Aw b c (a+n))):=by rw[Lt,Zj,DI];rfl
def Yv(b c a n):BI 0 (Aj b c a (n+1))=CA (BI 0 (Aj b c a n)) (Aw b c (a+n)):=by rw[Lt,Nl];rfl
theorem Yw{a L R s}(h:Aj ns ts a n=L++s::R):s=Aw ns ts (a+Z L)/\Z L<n/\L=Aj ns ts a (Z L)/\R=Aj ns ts (a+Z L+1) (n-Z L-1):=by have b:=yY List.length h;rw[DI,yr,yB]at b;have e:n=Z L+(Z R+1):=I;rw[e,NZ,PH]at h;have c:=List.append_inj h (by rw[DI]);grind
theorem wQ{a x}(h:Av ns (Aj ns ts a n) a 0 JL=E x):a<=x.1/\x.1<a+n/\x.2=Aw ns ts x.1/\(3<=x.2.1/\x.2.1<=5):=by
 rcases Sp _ _ _ _ _ h with h|⟨L,R,b,c,d,_⟩
 .cases h
 .have:=Yw b;grind
def OU(k:Nat)(x:Option (Nat×Aq)):Option (Nat×Aq):=x.map (λx=>(x.1+k,x.2))
theorem V5(d k):∀(f:JB)(i:Nat)(c:Int)(h:Option (Nat×Aq)),Av d f (i+k) c (OU k h)=OU k (Av d f i c h)
 |[],i,c,h=>rfl
 |s::a,i,c,h=>by
  simp only[Av];have e:i+k+1=(i+1)+k:=I;rw[e];rw[<-V5 d k a];congr 1;split
  .rfl
  .cases h with
   |none=>rfl
   |some b=>simp only[C7,OU,Option.map];split<;>rfl
def aO(b c a):Av b c a 0 JL=OU a (Av b c 0 0 JL):=by have:=V5 b a c 0 0 JL;rw[jd]at this;exact this
def OH(w p b)(a:ByteArray->Option Value):=
 a opn=E (.func (.func 163) #[Qp p] #[]) /\
 ∀t,t≠opn->(ZL b t 1=Vt->a t=JL)/\(ZL b t 1=Vp->∃c e d,a t=E (.func (.func 205) #[] #[Qp c,Qp e,Qp d]) /\
  c≠p/\e≠p/\d≠p/\Cy w c (Al b (rt 3 t))/\w.cell? (J e 0)=E (Qp p)/\w.cell? (J d 0)=E (G (sH b (3,t) Vt)))
def OI(w p b)(a:ByteArray->Option Value):=
 ∀t,(¬ Bf b t->a t=JL) /\
 (ZL b t 2=Vp->∃c e d f,a t=E (.func (.func 206) #[] #[Qp c,Qp e,Qp d,Qp f]) /\
  c≠p/\e≠p/\d≠p/\f≠p/\Cy w c (Al b (rt 4 t))/\w.cell? (J e 0)=E (Qp p)/\w.cell? (J d 0)=E (G (sH b (4,t) Vt))/\w.cell? (J f 0)=E (G (sH b (4,t) Vp))) /\
 (ZL b t 3=Vp->∃c e d,a t=E (.func (.func 208) #[] #[Qp c,Qp e,Qp d]) /\
  c≠p/\e≠p/\d≠p/\Cy w c (Al b (rt 5 t))/\w.cell? (J e 0)=E (Qp p)/\w.cell? (J d 0)=E (G (sH b (5,t) Vt)))
def OH.kept{w w' p j}{a:ByteArray->Option Value}(h:OH w p j a)(b:zE w w' p):OH w' p j a:=by refine⟨h.1,λt e=>⟨(h.2 t e).1,λq=>?_⟩⟩;obtain⟨k,m,l,n,f,g,i,o,c,d⟩:=(h.2 t e).2 q;exact⟨k,m,l,n,f,g,i,o.kept b f,(b.cell (jl c) g 0).trans c,(b.cell (jl d) i 0).trans d⟩
def OI.kept{w w' p d}{a:ByteArray->Option Value}(h:OI w p d a)(b:zE w w' p):OI w' p d a:=by
 refine λt=>⟨(h t).1,λc=>?_,λc=>?_⟩
 .obtain⟨ba,bp,bh,bs,h0,n1,n2,n3,n4,h1,h2,h3,h4⟩:=(h t).2.1 c;exact⟨ba,bp,bh,bs,h0,n1,n2,n3,n4,h1.kept b n1,(b.cell (jl h2) n2 0).trans h2,(b.cell (jl h3) n3 0).trans h3,(b.cell (jl h4) n4 0).trans h4⟩
 .obtain⟨ba,bp,bh,h0,n1,n2,n3,h1,h2,h3⟩:=(h t).2.2 c;exact⟨ba,bp,bh,h0,n1,n2,n3,h1.kept b n1,(b.cell (jl h2) n2 0).trans h2,(b.cell (jl h3) n3 0).trans h3⟩
def zE.grown(h:zE w w' p):w.grownBy w' (E p):=⟨h.os,h.tape,h.output,h.size,λi a H=>h.block i a (λe=>H (by rw[e]))⟩
def PC(w p g o c b d e):=
 g≠p/\c≠p/\b≠p/\Ci w g o e/\(∃m a,AI w c m a/\OH w p d a)/\(∃m a,AI w b m a/\OI w p d a)
def PC.kept{w w' p g o f d s t}(h:PC w p g o f d s t)(b:zE w w' p):PC w' p g o f d s t:=by obtain⟨c,n,q,z,⟨m,a,x,v⟩,⟨A,u,K,H⟩⟩:=h;refine⟨c,n,q,λi y=>?_,⟨m,a,x.kept b.grown (λe=>n (by injection e)),v.kept b⟩,⟨A,u,K.kept b.grown (λe=>q (by injection e)),H.kept b⟩⟩;obtain⟨j,k,l⟩:=z i y;exact⟨(b.cell (jl j) c _).trans j,(b.cell (jl k) c _).trans k,(b.cell (jl l) c _).trans l⟩
def mT(p g o c n l i f w)(d:PC w p g o n l ns ts)(L:Bo w p g o (Z ts) c i n l)(T:i<Z ts)(hn:Z ts<=100000)(hz:(Aa ts i).t.size<=maxLen)(hk:(Aa ts i).k=1\/(Aa ts i).k=2)(P:¬ Bf ns (Aa ts i).t)(b:(Aa ts i).t≠opn):Calls Vb 209 #[Qp p,G f] w (IA ns w p g o (Z ts) c n l (E (.node (Aa ts i).k.toNat 0 (Aa ts i).t .nil .nil,Aj ns ts (i+1) (Z ts-(i+1))))):=by
 obtain⟨n1,n2,n3,M,⟨m,a,C,B⟩,_⟩:=d;obtain⟨R,t1,t2⟩:=M i T;have t:=S C;have A:=S L;obtain⟨N,q1,q2,q3,q4⟩:=L;have y:=jl N;have v:=jl R;simp only at y v;have V:p≠O w.1:=I;have u:g≠O w.1:=I;have X:=S (show a (Aa ts i).t=JL from(B.2 _ b).1 (by
  cases h:ZL ns (Aa ts i).t 1 with
  |false=>rfl
  |true=>
   obtain⟨j,U,s,_⟩:=(DG _ _ _).1 h
   exact yV ⟨j,U,s⟩ P))
 clear C B;go_enter func209,ntmps209;go_wp2;go_region;go_wp2_with fail;have Q:Hid (zE w (((w.setCell (J p 1) (G ((i:Int)+1))).alloc (JM #[G (Aa ts i).k,W (Aa ts i).g,W (Aa ts i).t] 142)).drew).drew p):=(zE.setP _).trans (zE.Q (((zC).drew).drew));have s:((i+1:Nat):Int)=(i:Int)+1:=I;have K:=A.set (i+1);rw[s]at K;replace K:=S (K.y (((@zC _ (JM #[G (Aa ts i).k,W (Aa ts i).g,W (Aa ts i).t] 142)).drew).drew));have x:=(t.kept Q.grown (λe=>n2 (by injection e))).look (ty:=214) (e:=219) (z:=.nilFunc) underlying214 Jk hz;rw[D X]at x;simp only[Option.getD,Option.isSome]at x;clear t A N q1 q2 q3 q4 M R t1 t2;obtain⟨w0,w1,w2,w3,w4⟩:=D K;have q:=S (by rw[DI];omega:Z ts-(Aj ns ts (i+1) (Z ts-(i+1))).length=i+1);rcases hk with H|H
 .have hb:((Aa ts i).k==1)=Vp:=by rw[H];rfl
  have k:=S (by rw[H];rfl:(Aa ts i).k.toNat=1);clear H;go_region;go_wp2;go_ret;refine⟨Q,yX ⟨_,_,F,?_,?_,?_⟩⟩
  .rw[D k];rfl
  .rw[D k];exact S ⟨F,yW ⟨yW F,F,F⟩⟩
  .rw[D q];exact K
 .have hb:((Aa ts i).k==1)=Vt:=by rw[H];rfl
  have k:=S (by rw[H];rfl:(Aa ts i).k.toNat=2);clear H;go_region;go_wp2;go_ret;refine⟨Q,yX ⟨_,_,F,?_,?_,?_⟩⟩
  .rw[D k];rfl
  .rw[D k];exact S ⟨F,yW ⟨yX F,F,F⟩⟩
  .rw[D q];exact K
theorem mU(hv:zM ns 0)(p g o c C B i d n w)(P:PC w p g o C B ns ts)(hp:Bo w p g o (Z ts) c i C B)(hi:i<Z ts)(hn:Z ts<=100000)(hz:(Aa ts i).t.size<=maxLen)(q:(Aa ts i).t=opn)(hf:AW ns (Vt,d+1) (Aj ns ts (i+1) (Z ts-(i+1))))(hr:MW ns w p g o (Z ts) c C B (i+1) 0 (Aj ns ts (i+1) (Z ts-(i+1))))(s)(K:s=(match RD ns 0 JL (Aj ns ts (i+1) (Z ts-(i+1))) with
   |none=>JL
   |some x=>E (.node 6 0 j6 x.1 .nil,x.2.tail))):Calls Vb 209 #[Qp p,G n] w (IA ns w p g o (Z ts) c C B s):=by
 obtain⟨n1,n2,n3,ht,⟨m,b,hG,V⟩,_⟩:=P;obtain⟨t0,t1,t2⟩:=ht i hi;have N:=S hG;have R:=S hp;obtain⟨q0,q1,q2,q3,q4⟩:=hp;have j:=jl q0;have k:=jl t0;simp only at j k;have a:p≠O w.1:=I;have A:g≠O w.1:=I;have y:=S (by rw[q];exact V.1:b (Aa ts i).t=E (.func (.func 163) #[Qp p] #[]));have Q:=S K;clear K q;clear hG V;go_enter func209,ntmps209;go_wp2;go_region;go_wp2_with fail;have H:Hid (zE w (((w.setCell (J p 1) (G ((i:Int)+1))).alloc (JM #[G (Aa ts i).k,W (Aa ts i).g,W (Aa ts i).t] 142)).drew).drew p):=(zE.setP _).trans (zE.Q (((zC).drew).drew));have e1:((i+1:Nat):Int)=(i:Int)+1:=I;have h:=R.set (i+1);rw[e1]at h;replace h:=S (h.y (((@zC _ (JM #[G (Aa ts i).k,W (Aa ts i).g,W (Aa ts i).t] 142)).drew).drew));have X:=(N.kept H.grown (λe=>n2 (by injection e))).look (ty:=214) (e:=219) (z:=.nilFunc) underlying214 Jk hz;rw[D y]at X;simp only[Option.getD,Option.isSome]at X;clear N R q0 q1 q2 q3 q4 ht t0 t1 t2;obtain⟨w0,w1,w2,w3,w4⟩:=D h;have HX:=mS hv p g o (Z ts) c C B (i+1) d (Aj ns ts (i+1) (Z ts-(i+1))) n _ (λw' u U=>hr w' (H.trans u) U) h hn (by rw[DI];omega) hf s Q;go_region;go_wp2_with fail;go_call HX as x w5 ⟨t,⟨h0,rfl⟩|⟨T,l,h1,rfl,L,M⟩⟩
 .exact⟨F,S (H.trans t),yW ⟨h0,F⟩⟩
 .have f:=S h1;have v:=S (H.trans t);go_wp2;go_ret;exact⟨v,yX ⟨_,_,f,F,L,M⟩⟩
theorem pA(p g o c N M i t w)(v:PC w p g o N M ns ts)(hp:Bo w p g o (Z ts) c i N M)(hi:i<Z ts)(hn:Z ts<=100000)(hz:(Aa ts i).t.size<=maxLen)(X:ZL ns (Aa ts i).t 1=Vp)(a:(Aa ts i).t≠opn)(hr:MW ns w p g o (Z ts) c N M (i+1) (sH ns (3,(Aa ts i).t) Vt) (Aj ns ts (i+1) (Z ts-(i+1))))(B)(q:B=(if Ao ns (3,(Aa ts i).t)<t then JL else(match RD ns (sH ns (3,(Aa ts i).t) Vt) JL (Aj ns ts (i+1) (Z ts-(i+1))) with
   |none=>JL
   |some x=>E (.node 3 0 (Aa ts i).t x.1 .nil,x.2))))(n:∀T s,B=E (T,s)->ZF ns T):Calls Vb 209 #[Qp p,G t] w (IA ns w p g o (Z ts) c N M B):=by
 obtain⟨n1,n2,n3,ht,⟨m,k,hG,hB⟩,_⟩:=v;obtain⟨t0,t1,t2⟩:=ht i hi;have HG:=S hG;have HP:=S hp;obtain⟨q0,q1,q2,q3,q4⟩:=hp;have P:=jl q0;have l:=jl t0;simp only at P l;have d:p≠O w.1:=I;have f:g≠O w.1:=I;obtain⟨ba,bp,bh,Q,m1,m2,m3,k1,k2,k3⟩:=(hB.2 _ a).2 X;have u:=S Q;have K:=S (yO k1 (yO k2 k3));have j:=S q;have V:=S n;clear q n k1 k2 k3 Q;clear hG hB;go_enter func209,ntmps209;go_wp2;go_region;go_wp2_with fail;have h:Hid (zE w (((w.setCell (J p 1) (G ((i:Int)+1))).alloc (JM #[G (Aa ts i).k,W (Aa ts i).g,W (Aa ts i).t] 142)).drew).drew p):=(zE.setP _).trans (zE.Q (((zC).drew).drew));have e1:((i+1:Nat):Int)=(i:Int)+1:=I;have H:=HP.set (i+1);rw[e1]at H;replace H:=S (H.y (((@zC _ (JM #[G (Aa ts i).k,W (Aa ts i).g,W (Aa ts i).t] 142)).drew).drew));have y:=(HG.kept h.grown (λe=>n2 (by injection e))).look (ty:=214) (e:=219) (z:=.nilFunc) underlying214 Jk hz;rw[D u]at y;simp only[Option.getD,Option.isSome]at y;clear HG HP q0 q1 q2 q3 q4 ht t0 t1 t2;obtain⟨w0,w1,w2,w3,w4⟩:=D H;have HX:=sG p g o (Z ts) c N M (i+1) (Aa ts i).t (Aj ns ts (i+1) (Z ts-(i+1))) t _ ba bp bh m1 m2 m3 (Is X Jd) (λw' b C=>hr w' (h.trans b) C) H (K.1.kept h m1) ((h.cell (jl K.2.1) m2 0).trans K.2.1) ((h.cell (jl K.2.2) m3 0).trans K.2.2) B j V;go_region;go_wp2_with fail;go_call HX as x w5 ⟨L,⟨h0,rfl⟩|⟨T,s,h1,rfl,R,HP5⟩⟩
 .exact⟨F,S (h.trans L),yW ⟨h0,F⟩⟩
 .have U:=S h1;have A:=S (h.trans L);go_wp2;go_ret;exact⟨A,yX ⟨_,_,U,F,R,HP5⟩⟩
structure OJ(ns:Jf)(a:JA):Prop where
 code:zM ns 0
 all:∀i,i<Z a->AW ns (BC ns a i,BM a i) (Aj ns a i (Z a-i))
 role:∀i,i<Z a->0<=zh ns a i
 tok:∀i,i<Z a->MV ns (Aa a i)
 size:∀i,i<Z a->(Aa a i).t.size<=maxLen
 len:Z a<=100000
def NL(a:i<Z ts):Aj ns ts i (Z ts-i)=Aw ns ts i::Aj ns ts (i+1) (Z ts-(i+1)):=by have e:Z ts-i=Z ts-(i+1)+1:=I;rw[e,PH]
def SX{b}(h:AW ns b (Aj ns ts i (Z ts-i))):i<Z ts:=by
 by_cases a:i<Z ts
 .exact a
 .have e:Z ts-i=0:=I;rw[e]at h;exact(Lx h).elim
def SZ(b a p g o c f e m):=
 ∀(i d:Nat)(least:Int)(w:JY),Z a-i<m->least<=1001->AW b (Vt,d) (Aj b a i (Z a-i))->PC w p g o f e b a->Bo w p g o (Z a) c i f e ->
  Calls Vb 167 #[Qp p,G least] w (IA b w p g o (Z a) c f e (RD b least JL (Aj b a i (Z a-i))))
def pB(m:OJ ns ts)(i d:Nat)(l:Int)(w:JY)(N:SZ ns ts p g o c bf bb (Z ts-i))(M:l<=1001)(A:AW ns (Vt,d) (Aj ns ts i (Z ts-i)))(q:PC w p g o bf bb ns ts)(C:Bo w p g o (Z ts) c i bf bb):Calls Vb 209 #[Qp p,G l] w (IA ns w p g o (Z ts) c bf bb (Fc ns l (Aw ns ts i) (Aj ns ts (i+1) (Z ts-(i+1))))):=by
 have n:=SX A;have L:=Yu (m.all i n) A;have K:=A;rw[NL n]at K;have X:∀(z:Nat)(t:Int),t<=1001->AW ns (Vt,z) (Aj ns ts (i+1) (Z ts-(i+1)))->MW ns w p g o (Z ts) c bf bb (i+1) t (Aj ns ts (i+1) (Z ts-(i+1))):=
  λz t v y w' u a=>N (i+1) z t w' I v y (q.kept u) a
 have b:∀T k,Fc ns l (Aw ns ts i) (Aj ns ts (i+1) (Z ts-(i+1)))=E (T,k)->ZF ns T:=λT k h=>(V4 m.code M K h).2.1
 rcases oY (m.role i n) L (m.tok i n) with⟨B,V,Q,H⟩|⟨B,f,Q,H⟩|⟨B,P,H⟩
 .have:=mT p g o c bf bb i l w q C n m.len (m.size i n) B V Q;have e:Fc ns l (Aw ns ts i) (Aj ns ts (i+1) (Z ts-(i+1)))=E (.node (Aa ts i).k.toNat 0 (Aa ts i).t .nil .nil,Aj ns ts (i+1) (Z ts-(i+1))):=by rw[H];unfold Fc;rw[yS Jr,yS Jr]
  rw[e];exact this
 .have U:AC ns (3,(Aa ts i).t)=Vp:=Is f Jd;refine pA p g o c bf bb i l w q C n m.len (m.size i n) f Q (X d _ ?_ ?_) _ ?_ b
  .exact(PJ m.code (s:=(3,(Aa ts i).t)) (yW F) U).1
  .rw[H]at K;rcases Ns K with⟨x,_⟩|⟨_,_,x⟩|⟨x,_⟩
   .simp at x
   .exact x
   .simp at x
  .rw[H];unfold Fc;rw[yU rfl]<;>rfl
 .have j:AW ns (Vt,d+1) (Aj ns ts (i+1) (Z ts-(i+1))):=by
   rw[H]at K;rcases Ns K with⟨x,_⟩|⟨x,_,_⟩|⟨_,x⟩
   .simp at x
   .simp at x
   .exact x
  refine mU m.code p g o c bf bb i d l w q C n m.len (m.size i n) P j (X (d+1) 0 I j) _ ?_;rw[H];unfold Fc;rw[yS Jd,yU rfl]<;>rfl
def Uo(g o c i f w)(L:Z f+Zm f (Z f)<=1048576)(z:i<Z f)(C:Z f<=c)(P:c<=maxLen)(n:Ci w g o f)(l:g<O w.1)(M:(Aa f i).g.size<=1048576):Calls Vb 78 #[Je g o (Z f) c,G i] w λe w'=>e=i9 (G (FU f i:Int))/\Qb w w':=by
 have H:Z (f.take i)=i:=Jq;have d:=NI f i (Z f) I;have X:Qb w w.drew:=(yN).drew;have k:=dV g o c (f.take i) w.drew (by rw[H,NJ f i i yk];omega) (λj u=>by
  rw[H]at u
  have h:=(n j I).y X l
  unfold LJ at h ⊢
  rw[Sn u]
  exact h) l
 rw[H]at k;have s:Z (Ce (f.take i) i)=Zm f i:=by rw[Lr,NJ f i i yk]
 obtain⟨b,m⟩:∃b:JZ,b=⟨(Ce (f.take i) i).toArray⟩:=⟨_,F⟩;rw[<-m]at k;have q:b.size=Zm f i:=by rw[m,<-s];simp[ByteArray.size]
 obtain⟨N,A,R⟩:=n i z;have a:(i:Int)<Z f:=I;have B:=S q;have Q:=S (by unfold FU;rw[q];omega:(FU f i:Int)=b.size+((Aa f i).g.size:Int));have v:b.size<=1048576:=I;clear m s q d H n X;go_enter func78,ntmps78;go_wp2_with fail;have K:Hid (Qb w w.drew):=(yN).drew;go_region_held (λw'=>w'.cell? (J g (o+i*3+1))=E (W (Aa f i).g)) (first|(go_keep;done)|exact(K.cell (p:=(J g (o+i*3+1))) l).trans A)
  (first|(go_at_call 135;refine k.mono ?_;rintro x T ⟨rfl,t⟩;replace K:=S (K.trans t);clear k t))
 have y:IntKind.i64.wrap ((b.size:Int)+((Aa f i).g.size:Int))=(b.size:Int)+((Aa f i).g.size:Int):=by rw[IntKind.wrap_i64];omega
 rw[y,<-D Q];go_wp2;go_ret;exact⟨F,K⟩
def Xt(b H l n s ct gr cr i j g o m w)(hm:Z g<=1048576)(z:Au w b H g)(hB:b<O w.1)(ht:Ci w n s o)(y:n<O w.1)(u:∀i,i<Z m->w.cell? (J gr i)=E (G (AB m i)))(hi:i<Z o)(q:i<Z m)(t:Ax g (Aa o i).t (AB m i)=E j):Calls Vb 190 #[b9 #[Je b H (Z g) l],Je n s (Z o) ct,Ql gr (Z m) cr,G i] w λe w'=>e=i9 (b9 #[W (r g j).s,G (r g j).k,G (r g j).l,G (r g j).sd])/\Below (O w.1) w w':=by
 have hj:=(ED t).1;have V:(j:Int)<Z g:=I;have P:(i:Int)<Z o:=I;have a:(i:Int)<Z m:=I;have d:=S (by rw[t];rfl:fI (Ax g (Aa o i).t (AB m i))=(j:Int));have X:gr<O w.1:=jl (u i q);obtain⟨c,k⟩:=Jx ((w.alloc (JM #[Je b H (Z g) l] 45)).alloc (JM #[W ⟨#[]⟩,G 0,G 0,G 0] 25));have K:Below (O w.1) w c:=by rw[k];exact(zC).alloc Js _
 have h:=S (by rw[k];show(O ((w.alloc _).alloc _).1)=_;simp:O c.drew.1=O w.1+2);have x:O c.1=O w.1+2:=D h;have Q:=S (K.drew);have q0:c.cell? (J (O w.1) 0)=E (Je b H (Z g) l):=by rw[k];simp[go_sem]
 have q1:=(K.cell (p:=(J n (s+i*3+2))) y).trans (ht i hi).2.2;have q2:=Jc K X (u i q);obtain⟨r0,r1,r2,r3⟩:=(z j hj).y K hB;have t0:c.cell? (J (O w.1+1) 0)=E (W ⟨#[]⟩):=by rw[k];simp[go_sem]
 have u0:c.frozen? (J (O w.1+1) 0)=Vt:=by rw[k];simp[go_sem]
 have t1:c.cell? (J (O w.1+1) 1)=E (G 0):=by rw[k];simp[go_sem]
 have u1:c.frozen? (J (O w.1+1) 1)=Vt:=by rw[k];simp[go_sem]
 have t2:c.cell? (J (O w.1+1) 2)=E (G 0):=by rw[k];simp[go_sem]
 have u2:c.frozen? (J (O w.1+1) 2)=Vt:=by rw[k];simp[go_sem]
 have t3:c.cell? (J (O w.1+1) 3)=E (G 0):=by rw[k];simp[go_sem]
 have u3:c.frozen? (J (O w.1+1) 3)=Vt:=by rw[k];simp[go_sem]
 have HX:=Pm b H l g (Aa o i).t (AB m i) c.drew hm (z.y Q hB) (by rw[D h];omega);rw[D d]at HX;have n1:b≠O w.1+1:=I;have n2:O w.1+1≠b:=I;have n3:n≠O w.1+1:=I;have n4:O w.1+1≠n:=I;have n5:gr≠O w.1+1:=I;have n6:O w.1+1≠gr:=I;have HW:=S k;clear k t z ht u K x;go_enter func190,ntmps190;go_wp2_with fail;rw[<-D HW];go_region_held (λw'=>w'.cell? (J (O w.1) 0)=E (Je b H (Z g) l)/\w'.cell? (J n (s+i*3+2))=E (W (Aa o i).t)/\w'.cell? (J gr i)=E (G (AB m i))/\w'.cell? (J b (H+j*4))=E (W (r g j).s)/\w'.cell? (J b (H+j*4+1))=E (G (r g j).k)/\w'.cell? (J b (H+j*4+2))=E (G (r g j).l)/\w'.cell? (J b (H+j*4+3))=E (G (r g j).sd)) (first|(go_keep;done)|exact⟨A,B,C,L,M,N,R⟩)
  (first|(go_at_call 146;refine HX.mono ?_;rintro e w2 ⟨rfl,f⟩;have A:=(f.cell (p:=J (O w.1) 0) (by simp only[D h];omega)).trans (show c.drew.cell? _=_ from q0);have B:=(f.cell (p:=(J n (s+i*3+2))) (by simp only[D h];omega)).trans (show c.drew.cell? _=_ from q1);have C:=(f.cell (p:=J gr i) (by simp only[D h];omega)).trans (show c.drew.cell? _=_ from q2);have L:=(f.cell (p:=(J b (H+j*4))) (by simp only[D h];omega)).trans (show c.drew.cell? _=_ from r0);have M:=(f.cell (p:=(J b (H+j*4+1))) (by simp only[D h];omega)).trans (show c.drew.cell? _=_ from r1);have N:=(f.cell (p:=(J b (H+j*4+2))) (by simp only[D h];omega)).trans (show c.drew.cell? _=_ from r2);have R:=(f.cell (p:=(J b (H+j*4+3))) (by simp only[D h];omega)).trans (show c.drew.cell? _=_ from r3);have T:=(f.cell (p:=(J (O w.1+1) 0)) (by simp only[D h];omega)).trans (show c.drew.cell? _=_ from t0);have u0':=(f.frozen (p:=(J (O w.1+1) 0)) (by simp only[D h];omega)).trans (show c.drew.frozen? _=_ from u0);have U:=(f.cell (p:=(J (O w.1+1) 1)) (by simp only[D h];omega)).trans (show c.drew.cell? _=_ from t1);have u1':=(f.frozen (p:=(J (O w.1+1) 1)) (by simp only[D h];omega)).trans (show c.drew.frozen? _=_ from u1);have t2':=(f.cell (p:=(J (O w.1+1) 2)) (by simp only[D h];omega)).trans (show c.drew.cell? _=_ from t2);have u2':=(f.frozen (p:=(J (O w.1+1) 2)) (by simp only[D h];omega)).trans (show c.drew.frozen? _=_ from u2);have t3':=(f.cell (p:=(J (O w.1+1) 3)) (by simp only[D h];omega)).trans (show c.drew.cell? _=_ from t3);have u3':=(f.frozen (p:=(J (O w.1+1) 3)) (by simp only[D h];omega)).trans (show c.drew.frozen? _=_ from u3);have B2:=S (Q.trans (f.mono (by rw[D h];omega)));clear f))
 go_wp2_with fail;refine yQ (v:=b9 #[W (r g j).s,G (r g j).k,G (r g j).l,G (r g j).sd]) ?res F ⟨F,?_⟩;case res=>simp[results,results190,go_sem,T,U,t2',t3']
 exact zX (I:O w.1<=O w.1+1) [W (r g j).s,G (r g j).k,G (r g j).l,G (r g j).sd] 0 w2 B2
def LZ(w:JY)(p:Nat):Nat:=match w.cell? (J p 1) with
 |some v=>(intOf v).toNat
 |none=>0
def Bo.isN(h:Bo w p g o n c i bf bb):LZ w p=i:=by unfold LZ;rw[h.2.1];simp[intOf]
def Qt(b e w p g o c i h d a f T j wr):=
 ZF b T/\Bo wr p g o (Z e) c j i h/\zE w wr p/\AW b (Vp,d) (Aj b e j (Z e-j))/\a<=Ay b T/\f=RD b a (E T) (Aj b e j (Z e-j))
theorem wR(j:zM ns 0){T c b g}(hT:ZF ns T)(o:AW ns (Vt,d) b)(i:AC ns (4,t)=Vp)(p:least<=Ao ns (4,t))(h:(if Ay ns T<sH ns (4,t) Vt then JL else(match RD ns (sH ns (4,t) Vp) JL b with
   |none=>JL
   |some x=>E (BT.node 4 0 t T x.1,x.2)))=E (c,g)):ZF ns c/\AW ns (Vp,d) g/\least<=Ay ns c/\∃a,b=a++g:=by
 by_cases H:Ay ns T<sH ns (4,t) Vt
 .rw[yU H]at h;cases h
 .rw[yS H]at h;cases f:RD ns (sH ns (4,t) Vp) JL b with
  |none=>rw[f]at h;cases h
  |some y=>rw[f]at h;simp only[jw,Prod.mk.injEq]at h;obtain⟨rfl,rfl⟩:=h;obtain⟨k,l,m,_,n⟩:=DF j _ _ JL b d y ((PJ j (s:=(4,t)) (yX (yW F)) i).2 F) o (λL e=>by cases e) f;exact⟨⟨F,yX (yX (yX ⟨F,i,hT,l,I,m⟩))⟩,k,p,Ak y.1,n⟩
def sK{T b}{a c:JB}(hT:ZF ns T)(d:AC ns (5,t)=Vp)(e:least<=Ao ns (5,t))(h:(if Ay ns T<sH ns (5,t) Vt then JL else E (BT.node 5 0 t T .nil,a))=E (b,c)):ZF ns b/\least<=Ay ns b/\c=a:=by
 by_cases H:Ay ns T<sH ns (5,t) Vt
 .rw[yU H]at h;cases h
 .rw[yS H]at h;simp only[jw,Prod.mk.injEq]at h;obtain⟨rfl,rfl⟩:=h;exact⟨⟨F,yX (yX (yW ⟨yX F,d,hT,F,I⟩))⟩,e,F⟩
def pC(hF:OJ ns ts)(i d:Nat)(least:Int)(w:JY)(hs:SZ ns ts p g o c bf bb (Z ts-i))(hl:least<=1001)(hf:AW ns (Vt,d) (Aj ns ts i (Z ts-i)))(l:PC w p g o bf bb ns ts)(hp:Bo w p g o (Z ts) c i bf bb)(res:Option (ET×JB))(hr:res=RD ns least JL (Aj ns ts i (Z ts-i))):Calls Vb 167 #[Qp p,G least] w (IA ns w p g o (Z ts) c bf bb res):=by
 have hi:=SX hf;have HX:=pB hF i d least w hs hl hf l hp;have C:=S (show res=(match Fc ns least (Aw ns ts i) (Aj ns ts (i+1) (Z ts-(i+1))) with
  |none=>JL
  |some x=>RD ns least (E x.1) x.2) by rw[hr,NL hi,zal]<;>rfl)
 have hv:=S (show ∀x,Fc ns least (Aw ns ts i) (Aj ns ts (i+1) (Z ts-(i+1)))=E x->AW ns (Vp,d) x.2/\ZF ns x.1/\least<=Ay ns x.1/\Aj ns ts i (Z ts-i)=Ak x.1++x.2/\Z x.2<Z ts-i from λx hx=>by
  have hA:=hf
  rw[NL hi]at hA
  have h:=V4 hF.code hl hA hx
  rw[<-NL hi]at h
  refine⟨h.1,h.2.1,h.2.2.1,h.2.2.2,?_⟩
  have e:=yY List.length h.2.2.2
  rw[DI,yr]at e
  have:1<=Z (Ak x.1):=yy (Sh.pos h.2.1.sh) (MO x.1 h.2.1)
  omega)
 generalize Fc ns least (Aw ns ts i) (Aj ns ts (i+1) (Z ts-(i+1)))=fr at HX C hv;clear hp hr hf;go_enter func167,ntmps167;go_wp2_with fail;refine HX.mono ?_;clear HX;rintro x w1 ⟨HK,⟨h0,rfl⟩|⟨T0,r0,h1,rfl,HG,HP⟩⟩
 .have hn:res=none:=by rw[D C,h0]
  exact⟨F,HK,yW ⟨hn,F⟩⟩
 .have V:=S (show Qt ns ts w p g o c bf bb d least res T0 (Z ts-Z r0) w1 from by
   obtain⟨a1,a2,a3,a4,a5⟩:=(D hv) _ h1
   have H:=RA a4
   have e:i+(Z ts-i)-Z r0=Z ts-Z r0:=I
   simp only[e]at H
   have e2:Z ts-(Z ts-Z r0)=Z r0:=I
   refine⟨a2,HP,HK,?_,a3,?_⟩
   .rw[e2,<-H.1];exact a1
   .rw[e2,<-H.1,D C,h1])
  have hE:i<Z ts-Z r0:=by have:=((hv) _ h1).2.2.2.2;simp only at this;omega
  have ha:=S hE;go_wp2;go_loopw [5] (λlv wr=>∃(T:ET)(j:Nat),lv=Bm ns T/\i<j/\Hid (Qt ns ts w p g o c bf bb d least res T j wr)) (λ_ wr=>Z ts-LZ wr p);case atStart=>exact⟨T0,_,F,ha,V⟩
  case round=>
   obtain⟨T,j,rfl,hq,V⟩:=hrel;have b:=zE.Q (g:=p) ((@yN (O wr.1) wr).drew);obtain⟨b1,b2,b3,b4,b5,b6⟩:=D V;have hj:=SX b4;have hb:BC ns ts j=Vp:=Yu (hF.all j hj) b4;obtain⟨n1,n2,n3,ht,_,⟨m,hu,hG,hB⟩⟩:=l.kept b3;have hc:=S (l.kept (b3.trans b));obtain⟨t0,t1,t2⟩:=ht j hj;have B:=S (b2.y ((@yN (O wr.1) wr).drew));have hy:=S (b3.trans b);have R:=S b2.isN;obtain⟨q0,q1,q2,q3,q4⟩:=b2;have v:=(hG.kept b.grown (λe=>n3 (by injection e))).look (ty:=215) (e:=224) (z:=.nilFunc) underlying215 Jk (hF.size j hj);have P:=NL (ns:=ns) hj;have k:=b4;rw[P]at b6 k;rw[P1]at b6;have hz:=S b1;have U:(Aj ns ts j (Z ts-j)).length=Z ts-j:=DI _ _ _ _;rcases mR (hF.role j hj) hb (hF.tok j hj) with⟨hk,u,hd⟩|⟨hk,u,he⟩|⟨hm,h4,h5⟩
   .obtain⟨ba,bp,bh,bs,g0,m1,m2,m3,m4,k1,k2,k3,k4⟩:=((hB.kept b) _).2.1 u;rw[g0]at v;simp only[Option.getD,Option.isSome]at v;have f:AC ns (4,(Aa ts j).t)=Vp:=Is u Jd;rw[hd]at b6 k P;simp only[true_and]at b6;by_cases N:Ao ns (4,(Aa ts j).t)<least
    .have HR:=S (show res=E (T,Aj ns ts j (Z ts-j)) by rw[b6,yS I,yS Js,<-P])
     have HE:=S (by rw[U];omega:Z ts-(Aj ns ts j (Z ts-j)).length=j);have HX:=wO (ns:=ns) (Bm ns T) (Aa ts j).t least wr.drew ba bp bh bs f k1 N;go_wp2;go_region;go_wp2_with fail;go_call HX as x w2 ⟨rfl,hw2⟩;have hw:=hw2.symm;subst hw;go_wp2;go_ret;exact⟨hy,yX ⟨_,_,HR,F,hz,by rw[D HE];exact B⟩⟩
    .have q:least<=Ao ns (4,(Aa ts j).t):=I;have t:AW ns (Vt,d) (Aj ns ts (j+1) (Z ts-(j+1))):=by
      rcases I4 k with⟨x,_⟩|⟨_,_,x⟩|⟨x,_⟩|⟨x,_⟩
      .simp[BH]at x
      .exact x
      .simp at x
      .simp at x
     obtain⟨nx,X⟩:∃nx,nx=(if Ay ns T<sH ns (4,(Aa ts j).t) Vt then JL else(match RD ns (sH ns (4,(Aa ts j).t) Vp) JL (Aj ns ts (j+1) (Z ts-(j+1))) with
      |none=>JL
      |some x=>E (BT.node 4 0 (Aa ts j).t T x.1,x.2))):=⟨_,F⟩
     have K:∀T' r',nx=E (T',r')->ZF ns T'/\AW ns (Vp,d) r'/\least<=Ay ns T'/\∃a,Aj ns ts (j+1) (Z ts-(j+1))=a++r':=λT' r' h=>wR hF.code b1 t f q (by rw[<-X];exact h)
     have M:=S K;have HR:=S (show res=nx.bind (λx=>RD ns least (E x.1) x.2) by
      rw[b6,yU q,X]
      by_cases hx:Ay ns T<sH ns (4,(Aa ts j).t) Vt
      .rw[yU hx,yU hx];rfl
      .rw[yS hx,yS hx]
       cases RD ns (sH ns (4,(Aa ts j).t) Vp) JL (Aj ns ts (j+1) (Z ts-(j+1))) with
       |none=>rfl
       |some y=>rfl)
     have HX:=sJ p g o (Z ts) c bf bb j (Aa ts j).t (Aj ns ts (j+1) (Z ts-(j+1))) T least wr.drew ba bp bh bs m1 m2 m3 m4 f b1 (Jy hF.len) (λw' hh ho=>hs (j+1) d _ w' I ((PJ hF.code (s:=(4,(Aa ts j).t)) (yX (yW F)) f).2 F) t (hc.kept hh) ho) B k1 k2 k3 k4 q nx X (λT' r' h=>(K T' r' h).1);go_wp2;go_region;go_wp2_with fail;go_call HX as x w2 ⟨HK2,⟨h0,rfl⟩|⟨T',r',h1,rfl,HG',HP'⟩⟩
     .have hn:res=none:=by rw[D HR,h0];rfl
      exact⟨F,S (hy.trans HK2),yW ⟨hn,F⟩⟩
     .obtain⟨c1,c2,c3,a,c4⟩:=(D M) _ _ h1;have H:=RA c4;have hg:=H.2;have e1:j+1+(Z ts-(j+1))-Z r'=Z ts-Z r':=I;have e2:Z ts-(Z ts-Z r')=Z r':=I;have hC:=H.1;rw[e1]at hC;have Q:=S (show Qt ns ts w p g o c bf bb d least res T' (Z ts-Z r') w2 from
       ⟨c1,HP',hy.trans HK2,by rw[e2,<-hC];exact c2,c3,by rw[e2,<-hC,D HR,h1];rfl⟩)
      have L:=S (by rw[(D HP').isN,D R];omega:Z ts-LZ w2 p<Z ts-LZ wr p);have A:=S (I:i<Z ts-Z r');go_wp2;exact⟨⟨T',_,F,A,Q⟩,L⟩
   .obtain⟨ba,bp,bh,g0,m1,m2,m3,k1,k2,k3⟩:=((hB.kept b) _).2.2 u;rw[g0]at v;simp only[Option.getD,Option.isSome]at v;have n:AC ns (5,(Aa ts j).t)=Vp:=Is u Jd;rw[he]at b6 k P;rw[yS Js]at b6;simp only[true_and]at b6;by_cases N:Ao ns (5,(Aa ts j).t)<least
    .have HR:=S (show res=E (T,Aj ns ts j (Z ts-j)) by rw[b6,yS I,<-P])
     have HE:=S (by rw[U];omega:Z ts-(Aj ns ts j (Z ts-j)).length=j);have HX:=sI (ns:=ns) (Bm ns T) (Aa ts j).t least wr.drew ba bp bh n k1 N;go_wp2;go_region;go_wp2_with fail;go_call HX as x w2 ⟨rfl,hw2⟩;have hw:=hw2.symm;subst hw;go_wp2;go_ret;exact⟨hy,yX ⟨_,_,HR,F,hz,by rw[D HE];exact B⟩⟩
    .have q:least<=Ao ns (5,(Aa ts j).t):=I;have t:AW ns (Vp,d) (Aj ns ts (j+1) (Z ts-(j+1))):=by
      rcases I4 k with⟨x,_⟩|⟨x,_⟩|⟨_,_,x⟩|⟨x,_⟩
      .simp[BH]at x
      .simp at x
      .exact x
      .simp at x
     obtain⟨nx,X⟩:=Jx ((if Ay ns T<sH ns (5,(Aa ts j).t) Vt then JL else E (BT.node 5 0 (Aa ts j).t T .nil,Aj ns ts (j+1) (Z ts-(j+1)))));have K:∀T' r',nx=E (T',r')->ZF ns T'/\AW ns (Vp,d) r'/\least<=Ay ns T'/\∃a,Aj ns ts (j+1) (Z ts-(j+1))=a++r':=λT' r' h=>by obtain⟨x1,x2,x3⟩:=sK b1 n q (by rw[<-X];exact h);exact⟨x1,by rw[x3];exact t,x2,[],by rw[x3];rfl⟩
     have M:=S K;have HR:=S (show res=nx.bind (λx=>RD ns least (E x.1) x.2) by
      rw[b6,yU q,X]
      by_cases hx:Ay ns T<sH ns (5,(Aa ts j).t) Vt
      .rw[yU hx,yU hx];rfl
      .rw[yS hx,yS hx];rfl)
     have HX:=oZ p g o (Z ts) c bf bb j (Aa ts j).t (Aj ns ts (j+1) (Z ts-(j+1))) T least wr.drew ba bp bh m1 m2 m3 n b1 (by rw[DI];omega) hF.len B k1 k2 k3 q nx X (λT' r' h=>(K T' r' h).1);go_wp2;go_region;go_wp2_with fail;go_call HX as x w2 ⟨HK2,⟨h0,rfl⟩|⟨T',r',h1,rfl,HG',HP'⟩⟩
     .have hn:res=none:=by rw[D HR,h0];rfl
      exact⟨F,S (hy.trans HK2),yW ⟨hn,F⟩⟩
     .obtain⟨c1,c2,c3,a,c4⟩:=(D M) _ _ h1;have H:=RA c4;have hg:=H.2;have e1:j+1+(Z ts-(j+1))-Z r'=Z ts-Z r':=I;have e2:Z ts-(Z ts-Z r')=Z r':=I;have hC:=H.1;rw[e1]at hC;have Q:=S (show Qt ns ts w p g o c bf bb d least res T' (Z ts-Z r') w2 from
       ⟨c1,HP',hy.trans HK2,by rw[e2,<-hC];exact c2,c3,by rw[e2,<-hC,D HR,h1];rfl⟩)
      have L:=S (by rw[(D HP').isN,D R];omega:Z ts-LZ w2 p<Z ts-LZ wr p);have A:=S (I:i<Z ts-Z r');go_wp2;exact⟨⟨T',_,F,A,Q⟩,L⟩
   .have hD:hu (Aa ts j).t=none:=(hB _).1 hm;rw[hD]at v;simp only[Option.getD,Option.isSome]at v;have HR:=S (show res=E (T,Aj ns ts j (Z ts-j)) by rw[b6,yS (λx=>h4 x.1),yS (λx=>h5 x.1),<-P])
    have HE:=S (by rw[U];omega:Z ts-(Aj ns ts j (Z ts-j)).length=j);go_wp2;go_region;go_wp2;go_ret;exact⟨hy,yX ⟨_,_,HR,F,hz,by rw[D HE];exact B⟩⟩
theorem Xu{b e}(a:OJ b e){p g o c j f}:∀m,SZ b e p g o c j f m
 |0=>λi d least w h=>yV h (yz _)
 |m+1=>λi d least w h n l H q=>
  pC a i d least w (λs k t w' u=>Xu a m s k t w' I) n l H q _ F
def wT:Ending:=.panicked [{ v:=.iface 207 (b9 #[G 6,G 0]),recovered:=Vt }]
def Nm{B u a}(h:Z5 w B u a)(f:1<=Z a):∃g c,u = Ql g (Z a) c/\B<=g/\ZD w g a (Z a):=by
 have d:=h;unfold Z5 at d;obtain⟨_,⟨rfl,e⟩|⟨g,b,H,rfl,_⟩⟩:=h
 .omega
 .have:=Ib d;exact⟨g,b,F,this.1,this.2⟩
def zE.setNf(h:zE w w' p)(c:O w.1<=b)(o v):zE w (w'.setCell (J b o) v) p:=
 ⟨h.os,h.tape,h.output,by simpa[World.setCell] using h.size,λi a H=>(jh _ _ _ _ (I:i≠b)).trans (h.block i a H)⟩
def pD(f:Jf)(w:JY)(p:Nat)(b:Option (ET×JB))(x)(d:JY):=
 Hid (zE w d p)/\((b=JL/\x=Qk)\/∃T a,b=E (T,a)/\Hid (ZF f T)/\((1000<hT T/\x=wT) \/
  (hT T<=1000/\∃c e,x=i9 (b9 #[Ql c (Z (nd T 0)) e])/\O w.1<=c/\Hid (ZD d c (nd T 0) (Z (nd T 0))))))
def mV(hF:OJ ns ts)(w:JY)(hf:AW ns (Vt,0) (Aj ns ts 0 (Z ts)))(k:PC w p g o bf bb ns ts)(hp:Bo w p g o (Z ts) c 0 bf bb)(res:Option (ET×JB))(K:res=RD ns 0 JL (Aj ns ts 0 (Z ts))):Calls Vb 116 #[Qp p] w (pD ns w p res):=by
 have hm:=jl hp.1;simp only at hm;have hb:p≠O w.1:=I;have U:=@zC w (JM #[Jl] 40);have u:=zE.Q (g:=p) U;have HX:=Xu hF (Z ts-0+1) 0 0 0 _ (Nat.lt_succ_self _) I (by rw[Nat.sub_zero];exact hf) (k.kept u) (hp.y U);rw[Nat.sub_zero,<-K]at HX;have HT:=S (show ∀T hs,res=E (T,hs)->Ab T<=100000 from λT hs h=>by
  rw[K]at h
  have h1:=DF hF.code _ _ JL _ 0 _ I hf (λL e=>by cases e) h
  have e:=yY List.length h1.2.2.2.2
  simp only[yM,jF,yr]at e
  rw[DI]at e
  have:=MO T h1.2.1
  have:=hF.len
  omega)
 have hl:=S u;clear hF k hp hf K U u;go_enter func116,ntmps116;go_wp2_with fail;refine HX.mono ?_;clear HX;rintro x w1 ⟨HK,⟨h0,rfl⟩|⟨T,hs,h1,rfl,HG,HP⟩⟩
 .exact⟨F,S (hl.trans HK),yW ⟨h0,F⟩⟩
 .have hn:=(D HT) T hs h1;have hh:=Ou T;have c1:w1.cell? (J (O w.1) 0)=E Jl:=(HK.cell (b:=O w.1) Js I 0).trans Jg;have d1:w1.frozen? (J (O w.1) 0)=Vt:=(HK.frozen (b:=O w.1) Js I 0).trans Jg;have M:=S (hl.trans HK);have m:O w.1<O w1.1:=Jz HK.size
  have HR:=S h1;obtain⟨Ty,v,f,q,he,ho,ha,X⟩:=sD ns T HG I;have HC:=S X;have HE:=S he;rw[he];obtain⟨hq,j⟩:∃h0,h0=hT T:=⟨_,F⟩;have N:=S j;have hc:hq<=100000:=I;rw[<-j]at HC;clear HK h1 X he HT hl HP j hh;go_wp2_with fail;go_call HC _ as x w2 ⟨rfl,hb2⟩;have c2:=Jc hb2 m c1;have d2:=Vf hb2 m d1;have V:=S (M.trans (zE.Q hb2));have A:O w.1<O w2.1:=Jy hb2.size
  clear hb2 c1 d1 M ho ha HC;by_cases n:1000<hq
  .have t:(1000:Int)<hq:=I;have HN:=S (by rw[<-D N];exact n:1000<hT T);go_wp2;exact⟨F,V,yX ⟨T,hs,HR,HG,yW ⟨HN,F⟩⟩⟩
  .have t:(hq:Int)<=1000:=I;have HN:=S (by rw[<-D N];omega:hT T<=1000);obtain⟨Ty',v',f',P,hg,hj,H⟩:=sE ns T HG;rw[D HE]at P;obtain⟨rfl,rfl⟩:Ty=Ty'/\v=v':=by injection P with a b;exact⟨a,b⟩
   obtain⟨vs,Q⟩:=Jx (nd T 0);have d:Z vs=Ab T:=by rw[Q,ZN]
   have z:1<=Z vs:=by rw[d];exact Sh.pos HG.sh
   have y:=S (H (O w2.1) Jl [] vs w2 jt yk (by rw[je,<-Q];omega) (by rw[jF,je];exact Q));have l:=S Q;have s:=S z;clear Q d H P n hn z;go_wp2_with fail;go_call y as x w3 ⟨u',rfl,HRW,HGR,HOW⟩;obtain⟨g3,c3,rfl,hr,C⟩:=Nm HRW s;have e1:=(zJ HGR (b:=O w.1) A Jb 0).trans c2;have f1:=(yG (w:=w2) (HGR.block (O w.1) A Jb)).trans d2;have hk:Qb w2 w3:=⟨HGR.os,HGR.tape,HGR.output,HGR.size,λi hi=>HGR.block i hi Jb⟩;have R:=S (V.trans (zE.Q hk));have B:=S C;have hd:O w.1<g3:=I;clear HRW HGR HOW c2 d2 hj hg C y hk V hr;go_wp2_with fail;refine yQ (v:=b9 #[Ql g3 (Z vs) c3]) ?res F ⟨?kk,yX ⟨T,hs,HR,HG,yX ⟨HN,g3,c3,?vv,I,?ff⟩⟩⟩;case res=>simp[results,results116,go_sem,e1]
   case kk=>exact S (R.setNf yk _ _)
   case vv=>rw[<-D l]
   case ff=>rw[<-D l];exact S (B.setCell _ _ _ I)
