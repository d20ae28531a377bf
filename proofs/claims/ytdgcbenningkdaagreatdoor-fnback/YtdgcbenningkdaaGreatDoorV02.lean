import Derived.Deep.Trees
import Derived.Deep.RegionHeldLaw
import Derived.Test.YtdgcbenningkdaaGreatDoorV00
namespace Go.Proofs.YtdgcbenningkdaaGreatDoor
set_option linter.all false
set_option maxHeartbeats 0
set_option maxRecDepth 100000
open Proofs.Tryz RowKit
variable{B d f g i j:Nat}{a:Nat -> List zD}{e u v:Value}{kd:Int}{ns:List Ad}{o:zD}{st:Bool × Nat}{t:ByteArray}{us vs xs:List zD}{w w' w1:World}
open _root_.Array renaming size→O
open List renaming length→Z
open Option renaming some→E,none→JL
open Obj renaming cells→JM
open Bool renaming false→Vt,true→Vp
open Proofs.Tryz renaming prog→Vb
open Value renaming agg→b9,tuple→i5,slice→i6,bool→i7,ownBlock→i8
open Ending renaming returned→i9
open _root_.ByteArray renaming empty→j6
def zY(k:Int):Nat:=if k=4 then 2 else if k=3\/k=5\/k=6 then 1 else 0
theorem Mq(k):zY k=0\/zY k=1\/zY k=2:=by grind [zY]
def BK(o:zD):=o.t.size<=20000/\((o.k=1/\C2 o.t)\/(o.k=2/\Cv o.t)\/(o.k=6/\o.t.size=0)\/((o.k=3\/o.k=4\/o.k=5)/\DR o.t=Vp))
def Eh(a:Jj):Nat->Nat->Option Nat
 |0,_=>JL
 |n+1,i=>
  if zY (Y a i).k=0 then(if(Y a i).a=0/\(Y a i).b=0 then E i else JL)
  else if zY (Y a i).k=1 then(if 1<=i/\(Y a i).a=(i:Int)-1/\(Y a i).b=0 then Eh a n (i-1) else JL)
  else if 1<=i/\(Y a i).b=(i:Int)-1 then
   (match Eh a n (i-1) with
   |none=>JL
   |some f=>if 1<=f/\(Y a i).a=(f:Int)-1 then Eh a n (f-1) else JL)
  else JL
theorem Oc(a):∀n i f,Eh a n i=E f->f<=i
 |0,i,f,h=>by simp[Eh]at h
 |n+1,i,f,h=>by
  unfold Eh at h;split at h
  .split at h
   .injection h with h;omega
   .cases h
  .split at h
   .split at h
    .have:=Oc a n _ _ h;omega
    .cases h
   .split at h
    .split at h
     .cases h
     .rename_i f' H;have b:=Oc a n _ _ H;split at h
      .have:=Oc a n _ _ h;omega
      .cases h
    .cases h
theorem NG(a):∀n m i,i<n->i<m->Eh a n i=Eh a m i
 |0,_,_,h,_=>yV h (yz _)
 |_+1,0,_,_,h=>yV h (yz _)
 |n+1,m+1,i,h,h'=>by
  unfold Eh;by_cases c:1<=i
  .have e:=NG a n m (i-1) I I;rw[e];cases d:Eh a m (i-1) with
   |none=>rfl
   |some f=>have H:=Oc a _ _ _ d;have b:=NG a n m (f-1) I I;simp only[b]
  .simp[c]
def AU(a:Jj)(i:Nat):Option Nat:=Eh a (i+1) i
def Ct(h:AU xs i=E f):f<=i:=Oc xs _ _ _ h
theorem Px(h:zY (Y xs i).k=0):AU xs i=if(Y xs i).a=0/\(Y xs i).b=0 then E i else none:=by grind [AU,Eh]
theorem PU(h:zY (Y xs i).k=1):AU xs i=if 1<=i/\(Y xs i).a=(i:Int)-1/\(Y xs i).b=0 then AU xs (i-1) else none:=by grind [AU,Eh,NG]
theorem PV(h:zY (Y xs i).k=2)(b:1<=i)(d:(Y xs i).b=(i:Int)-1)(a:AU xs (i-1)=E f)(K:1<=f)(c:(Y xs i).a=(f:Int)-1):AU xs i=AU xs (f-1):=by have H:=Ct a;grind [AU,Eh,NG]
theorem T8(h:zY (Y xs i).k=2)(a:¬ (1<=i/\(Y xs i).b=(i:Int)-1/\∃f,AU xs (i-1)=E f/\1<=f/\(Y xs i).a=(f:Int)-1)):AU xs i=none:=by grind [AU,Eh,Y,NG]
theorem Ge(h:AU xs i=E f):(zY (Y xs i).k=0/\(Y xs i).a=0/\(Y xs i).b=0/\f=i) \/
  (zY (Y xs i).k=1/\1<=i/\(Y xs i).a=(i:Int)-1/\(Y xs i).b=0/\AU xs (i-1)=E f) \/
  (zY (Y xs i).k=2/\1<=i/\(Y xs i).b=(i:Int)-1/\∃a,AU xs (i-1)=E a/\1<=a/\(Y xs i).a=(a:Int)-1/\AU xs (a-1)=E f):=by
 rcases Mq (Y xs i).k with b|b|b
 .grind [Px]
 .rw[PU b]at h;grind
 .by_cases hn:1<=i/\(Y xs i).b=(i:Int)-1/\∃f,AU xs (i-1)=E f/\1<=f/\(Y xs i).a=(f:Int)-1;all_goals grind [PV,T8]
def D7(o:zD)(k:Nat)(b:List Nat):Option (List Nat):=
 if zY o.k=0 then(if o.a=0/\o.b=0 then E (k::b) else JL)
 else if zY o.k=1 then(match b with
  |t::a=>if o.a=(t:Int)/\o.b=0 then E (k::a) else JL
  |[]=>JL)
 else(match b with
  |t2::t1::a=>if o.a=(t1:Int)/\o.b=(t2:Int) then E (k::a) else JL
  |_=>JL)
def CW(a:Jj):Nat->Option (List Nat)
 |0=>E []
 |k+1=>(match CW a k with
  |none=>JL
  |some st=>D7 (Y a k) k st)
theorem Lv{k a}(h:CW xs k=E a):CW xs (k+1)=D7 (Y xs k) k a:=by grind [CW]
theorem Xc{a k}(h:CW a k=JL):∀m,k<=m->CW a m=JL
 |0,hm=>by obtain rfl:k=0:=I;exact h
 |m+1,hm=>by
  by_cases e:k=m+1
  .subst e;exact h
  .simp only[CW,Xc h m I]
theorem Pa(a):∀n i f st,i<n->AU a i=E f->CW a f=E st->CW a (i+1)=E (i::st)
 |0,_,_,_,hi,_,_=>yV hi (yz _)
 |n+1,i,f,st,hi,h,hs=>by
  rcases Ge h with⟨d,b,c,rfl⟩|⟨d,g,b,c,j⟩|⟨d,g,c,e,H,m,b,j⟩
  .rw[Lv hs];simp[D7,d,b,c]
  .have:=Pa a n (i-1) f st I j hs;rw[Nat.sub_add_cancel g]at this;rw[Lv this];unfold D7;rw[yS I,yU d];simp only;rw[yU ⟨by rw[b];omega,c⟩]
  .have K:=Ct H;have k:=Pa a n (e-1) f st I j hs;rw[Nat.sub_add_cancel m]at k;have l:=Pa a n (i-1) e ((e-1)::st) I H k;rw[Nat.sub_add_cancel g]at l;rw[Lv l];unfold D7;rw[yS I,yS I];simp only;rw[yU ⟨by rw[b];omega,by rw[c];omega⟩]
def bT(b:Jj):Nat->List Nat->Prop
 |k,[]=>k=0
 |k,s::a=>s+1=k/\∃f,AU b s=E f/\bT b f a
theorem Rd(b):∀k st,CW b k=E st->bT b k st
 |0,st,h=>by simp only[CW,jw]at h;subst h;rfl
 |k+1,st',h=>by
  cases g:CW b k with
  |none=>simp only[CW,g]at h;cases h
  |some st=>
   have i:=Rd b k st g;rw[Lv g]at h;unfold D7 at h;split at h
   .rename_i c;split at h
    .rename_i hc;injection h with h;subst h;exact⟨F,k,by rw[Px c,yU hc],i⟩
    .cases h
   .split at h
    .rename_i c;split at h
     .rename_i t a;obtain⟨e,f,n,d⟩:=i;split at h
      .rename_i hc;injection h with h;subst h;refine⟨F,f,?_,d⟩;rw[PU c,yU ⟨I,by rw[hc.1];omega,hc.2⟩];have:k-1=t:=I;rw[this];exact n
      .cases h
     .cases h
    .rename_i q Q;have c:zY (Y b k).k=2:=by rcases Mq (Y b k).k with h|h|h<;>omega
     split at h
     .rename_i t2 t1 a;obtain⟨e,j,K,o,m,H,d⟩:=i;split at h
      .rename_i hc;injection h with h;subst h;refine⟨F,m,?_,d⟩;have l:k-1=t2:=I;rw[PV c I (by rw[hc.2];omega) (f:=j) (by rw[l];exact K) I (by rw[hc.1];omega)];have:j-1=t1:=I;rw[this];exact H
      .cases h
     .cases h
theorem RO(h:1<=Z xs):AU xs (Z xs-1)=E 0↔∃st,CW xs (Z xs)=E st/\Z st=1:=by
 constructor
 .intro a;have:=Pa xs (Z xs) (Z xs-1) 0 [] I a F;grind
 .rintro⟨st,hs,hl⟩;have b:=Rd xs _ _ hs;match st,hl with
  |[x],_=>obtain⟨e,f,a,c⟩:=b;have H:f=0:=c;grind
def Zk(a):=1<=Z a/\Z a<=20000/\AU a (Z a-1)=E 0/\∀i,i<Z a->BK (Y a i)
def Zk.stkS(h:Zk xs){k}(b:k<=Z xs):∃st,CW xs k=E st:=by
 obtain⟨st,a,_⟩:=(RO h.1).1 h.2.2.1;cases e:CW xs k with
 |some st'=>exact⟨st',F⟩
 |none=>rw[Xc e _ b]at a;cases a
def zab(a k):=
 (zY (Y a k).k=0/\(Y a k).a=0/\(Y a k).b=0) \/
 (zY (Y a k).k=1/\1<=k/\(Y a k).a=(k:Int)-1/\(Y a k).b=0) \/
 (zY (Y a k).k=2/\2<=k/\(Y a k).b=(k:Int)-1/\0<=(Y a k).a/\(Y a k).a<(k:Int)-1)
def Zk.kidsAt(h:Zk xs){k}(b:k<Z xs):zab xs k:=by
 obtain⟨st,l⟩:=h.stkS (k:=k+1) I;have d:=Rd xs _ _ l;match st,d with
 |[],d=>cases d
 |s::a,d=>
  obtain⟨e,f,i,_⟩:=d;obtain rfl:s=k:=I;rcases Ge i with⟨b,g,c,rfl⟩|⟨b,j,g,c,i⟩|⟨b,j,c,m,H,n,g,i⟩
  .exact yW ⟨b,g,c⟩
  .exact yX (yW ⟨b,j,g,c⟩)
  .have:=Ct H;exact yX (yX ⟨b,I,c,I,I⟩)
theorem Zk.first(h:Zk xs):zY (Y xs 0).k=0:=by rcases h.kidsAt (k:=0) (Jy h.1) with h|h|h;all_goals grind
def Am(a:Jj):Nat->Nat
 |0=>0
 |k+1=>if(Y a k).k=6 then Am a k else Am a k+1
theorem GQ(a):∀k,Am a k<=k
 |0=>yk
 |k+1=>by have:=GQ a k;unfold Am;split<;>omega
theorem Xd(a):∀j k,j<=k->Am a j<=Am a k
 |j,0,h=>by obtain rfl:j=0:=I;exact yk
 |j,k+1,h=>by
  by_cases e:j=k+1
  .subst e;exact yk
  .have:=Xd a j k I;have b:Am a (k+1)=if(Y a k).k=6 then Am a k else Am a k+1:=F;rw[b];split<;>omega
def Fp(b:Jj)(a:Int):Int:=(Am b (a.toNat+1):Int)-1
def BS(a:Jj)(o:zD):zD:=⟨o.k,o.t,if zY o.k=0 then 0 else Fp a o.a,if zY o.k=2 then Fp a o.b else 0⟩
def er(a:Jj):Nat->Jj
 |0=>[]
 |k+1=>if(Y a k).k=6 then er a k else er a k++[BS a (Y a k)]
theorem D5(a):∀k,Z (er a k)=Am a k
 |0=>rfl
 |k+1=>by
  unfold er Am;split
  .exact D5 a k
  .simp[D5 a k]
theorem Py{k}(h:(Y xs k).k=6):er xs (k+1)=er xs k:=by grind [Y,er,BS]
theorem Lw{k}(h:(Y xs k).k≠6):er xs (k+1)=er xs k++[BS xs (Y xs k)]:=by grind [Y,er,BS]
theorem VA(h:Zk xs):Am xs 1=1:=by have:=h.first;grind [Am,zY]
def Zy(a b v):=(Zk a/\v=Vp/\b=er a (Z a))\/(¬ Zk a/\v=Vt/\b=[])
theorem Zy.one{b v d}(h:Zy xs us v)(c:Zy xs b d):us=b/\v=d:=by
 rcases h with⟨a,rfl,rfl⟩|⟨a,rfl,rfl⟩
 .rcases c with⟨_,rfl,rfl⟩|⟨a',_⟩;all_goals grind
 .rcases c with⟨a',_⟩|⟨_,rfl,rfl⟩;all_goals grind
def Zy.len{v}(h:Zy xs us v):Z us<=20000:=by
 rcases h with⟨a,_,rfl⟩|⟨_,_,rfl⟩
 .rw[D5];have:=GQ xs (Z xs);have:=a.2.1;omega
 .simp
def mB(k w):Calls Vb 103 #[G k] w λe w'=>e=i9 (G (zY k:Int))/\w'=w:=by
 by_cases b:k=4
 .subst b;go_enter func103,ntmps103;go_wp2;go_ret;exact⟨zK (by simp[zY]),F⟩
 by_cases a:k=3
 .subst a;go_enter func103,ntmps103;go_wp2;go_ret;exact⟨zK (by simp[zY]),F⟩
 by_cases c:k=5
 .subst c;go_enter func103,ntmps103;go_wp2;go_ret;exact⟨zK (by simp[zY]),F⟩
 by_cases d:k=6
 .subst d;go_enter func103,ntmps103;go_wp2;go_ret;exact⟨zK (by simp[zY]),F⟩
 have h:(k==4)=Vt:=Ju b
 have g:(k==3)=Vt:=Ju a
 have i:(k==5)=Vt:=Ju c
 have j:(k==6)=Vt:=Ju d
 have f:=S (by simp[zY,b,a,c,d]:zY k=0);go_enter func103,ntmps103;go_wp2;go_ret;exact⟨zK (by rw[D f];rfl),F⟩
def zV{k n}(h:zY k=n)(z)(a:(n:Int)=z)(w):Calls Vb 103 #[G k] w λe w'=>e=i9 (G z)/\w'=w:=by subst a;subst h;exact mB k w
def Cc(a:Jj)(i:Nat):Int:=match AU a i with
 |some f=>(f:Int)
 |none=>-1
def R4(h:AU xs i=E f):Cc xs i=(f:Int):=by unfold Cc;rw[h]
def Gf(h:AU xs i=JL):Cc xs i = -1:=by unfold Cc;rw[h]
def UX(a n b w):Calls Vb 140 #[.slice a n b,G (-1)] w λe w'=>e=i9 (G (-1))/\w'=w:=by go_enter func140,ntmps140;go_wp2;go_ret;exact⟨F,F⟩
theorem Rs(b Q B d)(hm:Z d<=1048576):∀(n i:Nat)(w:JY),i<n->i<Z d->Z2 w b Q d->b<O w.1 ->
  Calls Vb 140 #[Je b Q (Z d) B,G i] w λe w'=>e=i9 (G (Cc d i))/\Qb w w'
 |0,_,_,h,_,_,_=>yV h (yz _)
 |n+1,i,w,hin,hi,hw,hB=>by
  obtain⟨h0,h1,L,M⟩:=hw i hi;have u:=S (Rs b Q B d hm n);have t:=S hw;have P:(i:Int)<Z d:=I;have a:¬ (i:Int)<0:=I;clear hw;rcases Mq (Y d i).k with o|o|o
  .have HK:=S o;have s:=S (Px o);clear o;by_cases l:(Y d i).a=0
   .rw[l]at L;by_cases k:(Y d i).b=0
    .rw[k]at M;have m:Hid (Cc d i=(i:Int)):=R4 (by rw[D s,yU ⟨l,k⟩]);clear l k;go_enter func140,ntmps140;go_wp2_with (go_at_call 103;refine(zV HK 0 F _).mono ?_;rintro e w' ⟨rfl,rfl⟩);go_ret;exact⟨zK m.symm,zC⟩
    .have x:((Y d i).b==0)=Vt:=Ju k
     have K:((Y d i).b != 0)=Vp:=Ju k
     have m:Hid (Cc d i = -1):=Gf (by rw[D s,yS (λh=>k h.2)]);clear l k;go_enter func140,ntmps140;go_wp2_with (go_at_call 103;refine(zV HK 0 F _).mono ?_;rintro e w' ⟨rfl,rfl⟩);go_ret;exact⟨zK m.symm,zC⟩
   .have X:((Y d i).a==0)=Vt:=Ju l
    have q:((Y d i).a != 0)=Vp:=Ju l
    have m:Hid (Cc d i = -1):=Gf (by rw[D s,yS (λh=>l h.1)]);clear l;go_enter func140,ntmps140;go_wp2_with (go_at_call 103;refine(zV HK 0 F _).mono ?_;rintro e w' ⟨rfl,rfl⟩);go_ret;exact⟨zK m.symm,zC⟩
  .have HK:=S o;have s:=S (PU o);clear o;by_cases l:(Y d i).a=(i:Int)-1
   .rw[l]at L;by_cases k:(Y d i).b=0
    .rw[k]at M;by_cases H:1<=i
     .have m:=S (by unfold Cc;rw[D s,yU ⟨H,l,k⟩]:Cc d i=Cc d (i-1));have C:(i:Int)-1=((i-1:Nat):Int):=I;clear l k;go_enter func140,ntmps140;go_wp2_with (first|(go_at_call 103;refine(zV HK 1 F _).mono ?_;rintro e w' ⟨rfl,rfl⟩)|(go_at_call 140;refine(u (i-1) _ I I (t.y zC hB) Jq).mono ?_;rintro e w' ⟨rfl,g⟩));go_ret;exact⟨zK m.symm,(zC).trans (g.mono Js)⟩
     .have m:Hid (Cc d i = -1):=Gf (by rw[D s,yS (λh=>H h.1)]);have C:(i:Int)-1 = -1:=I;clear l k H;go_enter func140,ntmps140;go_wp2_with (first|(go_at_call 103;refine(zV HK 1 F _).mono ?_;rintro e w' ⟨rfl,rfl⟩)|(go_at_call 140;refine(UX _ _ _ _).mono ?_;rintro e w' ⟨rfl,rfl⟩));go_ret;exact⟨zK m.symm,zC⟩
    .have x:((Y d i).b==0)=Vt:=Ju k
     have K:((Y d i).b != 0)=Vp:=Ju k
     have m:Hid (Cc d i = -1):=Gf (by rw[D s,yS (λh=>k h.2.2)]);clear l k;go_enter func140,ntmps140;go_wp2_with (go_at_call 103;refine(zV HK 1 F _).mono ?_;rintro e w' ⟨rfl,rfl⟩);go_ret;exact⟨zK m.symm,zC⟩
   .have X:((Y d i).a==(i:Int)-1)=Vt:=Ju l
    have q:((Y d i).a != (i:Int)-1)=Vp:=Ju l
    have m:Hid (Cc d i = -1):=Gf (by rw[D s,yS (λh=>l h.2.1)]);clear l;go_enter func140,ntmps140;go_wp2_with (go_at_call 103;refine(zV HK 1 F _).mono ?_;rintro e w' ⟨rfl,rfl⟩);go_ret;exact⟨zK m.symm,zC⟩
  .have HK:=S o;have A:=S (T8 (xs:=d) (i:=i) o);have T:=S (λ(p1:1<=i) p2 f p3 p4 p5=>PV (xs:=d) (i:=i) (f:=f) o p1 p2 p3 p4 p5);clear o;by_cases k:(Y d i).b=(i:Int)-1;case neg=>
    have x:((Y d i).b==(i:Int)-1)=Vt:=Ju k
    have K:((Y d i).b != (i:Int)-1)=Vp:=Ju k
    have m:Hid (Cc d i = -1):=Gf (A (λh=>k h.2.1));clear k;go_enter func140,ntmps140;go_wp2_with (go_at_call 103;refine(zV HK 2 F _).mono ?_;rintro e w' ⟨rfl,rfl⟩);go_ret;exact⟨zK m.symm,zC⟩
   rw[k]at M;by_cases H:1<=i;case neg=>
    have m:Hid (Cc d i = -1):=Gf (A (λh=>H h.1));have C:(i:Int)-1 = -1:=I;clear k H;go_enter func140,ntmps140;go_wp2_with (first|(go_at_call 103;refine(zV HK 2 F _).mono ?_;rintro e w' ⟨rfl,rfl⟩)|(go_at_call 140;refine(UX _ _ _ _).mono ?_;rintro e w' ⟨rfl,rfl⟩));go_ret;exact⟨zK m.symm,zC⟩
   have C:(i:Int)-1=((i-1:Nat):Int):=I;cases p:AU d (i-1) with
   |none=>have m:Hid (Cc d i = -1):=Gf (A (λ⟨_,_,f,h,_⟩=>by rw[p]at h;cases h));have z:=S (Gf p);clear k p;go_enter func140,ntmps140;go_wp2_with (first|(go_at_call 103;refine(zV HK 2 F _).mono ?_;rintro e w' ⟨rfl,rfl⟩)|(go_at_call 140;refine(u (i-1) _ I I (t.y zC hB) Jq).mono ?_;rw[D z];rintro e w' ⟨rfl,g⟩));go_ret;exact⟨zK m.symm,(zC).trans (g.mono Js)⟩
   |some f=>
    have j:=Ct p;have z:=S (R4 p);by_cases y:1<=f;case neg=>
     have m:Hid (Cc d i = -1):=Gf (A (λ⟨_,_,f',h,R,_⟩=>by rw[p]at h;injection h with h;omega));have c:(f:Int)<1:=I;clear k p;go_enter func140,ntmps140;go_wp2_with (first|(go_at_call 103;refine(zV HK 2 F _).mono ?_;rintro e w' ⟨rfl,rfl⟩)|(go_at_call 140;refine(u (i-1) _ I I (t.y zC hB) Jq).mono ?_;rw[D z];rintro e w' ⟨rfl,g⟩));go_ret;exact⟨zK m.symm,(zC).trans (g.mono Js)⟩
    have c:¬ (f:Int)<1:=I;have v:(f:Int)<=1048576:=I;by_cases l:(Y d i).a=(f:Int)-1;case neg=>
     have X:((Y d i).a==(f:Int)-1)=Vt:=Ju l
     have q:((Y d i).a != (f:Int)-1)=Vp:=Ju l
     have m:Hid (Cc d i = -1):=Gf (A (λ⟨_,_,f',h,_,R⟩=>by rw[p]at h;injection h with h;subst h;exact l R));clear k p l;go_enter func140,ntmps140;go_wp2_with (first|(go_at_call 103;refine(zV HK 2 F _).mono ?_;rintro e w' ⟨rfl,rfl⟩)|(go_at_call 140;refine(u (i-1) _ I I (t.y zC hB) Jq).mono ?_;rw[D z];rintro e w' ⟨rfl,g⟩;have U:w'.cell? (J (O w.1) 2)=E (G (Y d i).a):=Jc g Jh Jg));go_ret;exact⟨zK m.symm,(zC).trans (g.mono Js)⟩
    rw[l]at L;have m:=S (by unfold Cc;rw[(D T) H k f p y l]:Cc d i=Cc d (f-1));have V:(f:Int)-1=((f-1:Nat):Int):=I;clear k p l;go_enter func140,ntmps140;go_wp2_with (go_at_call 103;refine(zV HK 2 F _).mono ?_;rintro e w' ⟨rfl,rfl⟩);refine(u (i-1) _ I I (t.y zC hB) Jq).mono ?_;rw[D z];rintro e w1 ⟨rfl,g⟩;have U:w1.cell? (J (O w.1) 2)=E (G ((f:Int)-1)):=Jc g Jh (by simp[go_sem,V]);go_wp2_with fail;go_call u (f-1) _ I I (t.y ((zC).trans (g.mono Js)) hB) (Jz g.size) as e w2 ⟨rfl,N⟩;go_wp2;go_ret;exact⟨zK m.symm,((zC).trans (g.mono Js)).trans (N.mono (Jz g.size))⟩
theorem OY(s k l a b w)(g:s.size<=maxLen):Calls Vb 148 #[b9 #[W s,G k,G l,G a],i7 b] w λe w'=>e=i9 (G (Zn s k l a b))/\Qb w w':=by
 cases d:Bv s k l a
 .have f:=S (WN s k l a b d);go_enter func148,ntmps148;go_wp2_with (go_at_call 31;refine(Nq _ _ _ _ _ g).mono ?_;rintro e w' ⟨rfl,c⟩);go_ret;exact⟨zK f.symm,(zC).trans (c.mono Js)⟩
 .obtain⟨⟨H,K⟩,h⟩:=Ii s k l a d;rcases h with⟨rfl,rfl⟩|⟨rfl,rfl⟩|⟨rfl,rfl⟩|⟨rfl,rfl⟩|⟨rfl,rfl⟩<;>cases b;all_goals
   have f:=S (d)
   go_enter func148,ntmps148
   go_wp2_with (go_at_call 31;refine(Nq _ _ _ _ _ g).mono ?_;rintro e w' ⟨rfl,c⟩;obtain⟨i,j⟩:=JT c)
   go_ret
   exact⟨zK (by grind [Zn,J1,Hid]),(zC).trans (c.mono Js)⟩
def eJ(s k l a b w)(K:1<=l)(q:l<=1000):Calls Vb 227 #[b9 #[W s,G k,G l,G a],i7 b] w λe w'=>e=i9 (G (J1 l a b))/\Qb w w':=by
 cases b
 .by_cases h:a=1
  .have h':(a==1)=Vp:=Ju h
   have H:=S h;go_enter func227,ntmps227;go_wp2;go_ret;exact⟨zK (by simp[J1,D H]),zC⟩
  .have h':(a==1)=Vt:=Ju h
   go_enter func227,ntmps227;go_wp2;go_ret;exact⟨zK (by simp[J1,h]),zC⟩
 .by_cases h:a=2
  .have h':(a==2)=Vp:=Ju h
   have H:=S h;go_enter func227,ntmps227;go_wp2;go_ret;exact⟨zK (by simp[J1,D H]),zC⟩
  .have h':(a==2)=Vt:=Ju h
   go_enter func227,ntmps227;go_wp2;go_ret;exact⟨zK (by simp[J1,h]),zC⟩
theorem Lg(s k l c b w)(f:s.size<=maxLen):Calls Vb 204 #[b9 #[W s,G k,G l,G c],i7 b] w λe w'=>e=i9 (G (Zn s k l c b))/\Qb w w':=by
 cases g:Bv s k l c
 .have i:=S (WN s k l c b g);go_enter func204,ntmps204;go_wp2_with (go_at_call 70;refine(Md _ _ _ _ _ f).mono ?_;rintro e w' ⟨rfl,a⟩);go_ret;exact⟨zK i.symm,(zC).trans (a.mono Js)⟩
 .obtain⟨⟨H,K⟩,h⟩:=Ii s k l c g;have i:=S g;by_cases j:k=2
  .subst j;go_enter func204,ntmps204;go_wp2_with (first|(go_at_call 70;refine(Md _ _ _ _ _ f).mono ?_;rintro e w' ⟨rfl,a⟩;obtain⟨m,n⟩:=JT a)|(go_at_call 227;refine(eJ _ _ _ _ _ _ H K).mono ?_;rintro e w1 ⟨rfl,d⟩));go_ret;exact⟨zK (by grind [Zn,Hid]),(zC).trans ((a.mono Js).trans (d.mono (Jz a.size)))⟩
  .have q:(k==2)=Vt:=by grind
   cases b
   all_goals
    go_enter func204,ntmps204
    go_wp2_with (first|(go_at_call 70;refine(Md _ _ _ _ _ f).mono ?_;rintro e w' ⟨rfl,a⟩;obtain⟨m,n⟩:=JT a))
    go_ret
    exact⟨zK (by grind [Zn,Hid]),(zC).trans (a.mono Js)⟩
def Io(a:Jf)(t:JZ)(b:Int):Nat->Nat->Option Nat
 |0,_=>JL
 |m+1,i=>if(r a i).s=t/\(r a i).k=b then E i else Io a t b m (i+1)
def Ax(a:Jf)(t:JZ)(b:Int):Option Nat:=Io a t b (Z a) 0
theorem T9{a t b}:∀{m i j:Nat},Io a t b m i=E j->i<=j/\j<i+m/\(r a j).s=t/\(r a j).k=b
 |0,_,_,h=>by cases h
 |m+1,i,j,h=>by
  unfold Io at h;split at h
  .rename_i hc;injection h with h;subst h;exact⟨yk,I,hc.1,hc.2⟩
  .have:=T9 h;exact⟨I,I,this.2.2⟩
theorem Ua{a t b}:∀{m i:Nat},Io a t b m i=JL->∀j,i<=j->j<i+m->¬ ((r a j).s=t/\(r a j).k=b)
 |0,_,_,_,h1,h2=>I
 |m+1,i,h,j,h1,h2=>by
  unfold Io at h;split at h
  .cases h
  .rename_i hc;by_cases e:j=i
   .subst e;exact hc
   .exact Ua h j I I
theorem ED{a}(h:Ax a t kd=E j):j<Z a/\(r a j).s=t/\(r a j).k=kd:=by have:=T9 h;grind
theorem Xe{a}(h:Ax a t kd=JL)(b:j<Z a):¬ ((r a j).s=t/\(r a j).k=kd):=
 Ua h j yn I
theorem Ub{a t b}:∀(k m i:Nat),(∀j,i<=j->j<i+k->¬ ((r a j).s=t/\(r a j).k=b))->Io a t b (k+m) i=Io a t b m (i+k)
 |0,m,i,_=>by rw[jd,Nat.add_zero]
 |k+1,m,i,h=>by have e:k+1+m=(k+m)+1:=I;rw[e];show(if(r a i).s=t/\(r a i).k=b then E i else Io a t b (k+m) (i+1))=_;rw[yS (h i yk (by omega)),Ub k m (i+1) (λj c d=>h j (by omega) (by omega))];congr 1;omega
theorem oC{a k}(c:k<Z a)(h:∀j,j<k->¬ ((r a j).s=t/\(r a j).k=kd))(H:(r a k).s=t/\(r a k).k=kd):Ax a t kd=E k:=by have e:Z a=k+((Z a-k-1)+1):=I;unfold Ax;rw[e,Ub k _ 0 (λj _ b=>h j (by omega))];show(if(r a (0+k)).s=t/\(r a (0+k)).k=kd then E (0+k) else _)=_;grind
def XW{a}(h:∀j,j<Z a->¬ ((r a j).s=t/\(r a j).k=kd)):Ax a t kd=none:=by
 cases e:Ax a t kd with
 |none=>rfl
 |some j=>exact yV (ED e).2 (h j (ED e).1)
theorem PW{a}(d:zM a 0)(b:j<Z a)(h:(r a j).s=t/\(r a j).k=kd):Ax a t kd=E j:=by
 cases e:Ax a t kd with
 |none=>exact yV h (Xe e b)
 |some i=>
  obtain⟨c,f,g⟩:=ED e;by_cases H:i=j
  .rw[H]
  .exfalso;have K:¬ Pr 3 a:=by rcases d with⟨h,_⟩|⟨_,⟨h,_⟩|⟨_,⟨h,_⟩|⟨h,_⟩⟩⟩;all_goals grind
   apply K;rcases Nat.lt_trichotomy i j with e|e|e
   .exact⟨j,i,e,b,by grind [cl]⟩
   .grind
   .exact⟨i,j,e,c,by grind [cl]⟩
def Zx(o:zD):=3<=o.k/\o.k<=5
def AY(a:Jf)(o:zD):Int:=if 3<=o.k/\o.k<=5 then(match Ax a o.t (o.k-2) with
 |some j=>(r a j).l
 |none=>1001) else 1001
def GT(a:Jf)(j:Nat)(b:Bool):Int:=Zn (r a j).s (r a j).k (r a j).l (r a j).sd b
def DM(b a):=∀i,i<Z a->Zx (Y a i)->Ax b (Y a i).t ((Y a i).k-2)≠JL
def GX(b a i):=∀j,Zx (Y a i)->Ax b (Y a i).t ((Y a i).k-2)=E j ->
 GT b j Vt<=AY b (Y a (Y a i).a.toNat)/\(zY (Y a i).k=1\/GT b j Vp<=AY b (Y a (Y a i).b.toNat))
def zl(a:Jf)(o:zD)(b:Bool):Int:=match Ax a o.t (o.k-2) with
 |some j=>GT a j b
 |none=>0
def CO(a:Jf)(o:zD)(h:Int)(s:Nat)(u:Jj):Jj:=
 if AY a o<h then u++[⟨6,j6,((s+Z u:Nat):Int)-1,0⟩] else u
def gr(b:Jf)(a:Jj):Nat->Nat->Int->Nat->Jj
 |0,_,_,_=>[]
 |n+1,i,least,s=>
  if(Y a i).k=6 then gr b a n (i-1) least s
  else if zY (Y a i).k=0 then CO b (Y a i) least s [⟨(Y a i).k,(Y a i).t,0,0⟩]
  else if zY (Y a i).k=1 then
   CO b (Y a i) least s (gr b a n (i-1) (zl b (Y a i) Vt) s++[⟨(Y a i).k,(Y a i).t,((s+Z (gr b a n (i-1) (zl b (Y a i) Vt) s):Nat):Int)-1,0⟩])
  else
   CO b (Y a i) least s ((gr b a n (Y a i).a.toNat (zl b (Y a i) Vt) s++gr b a n (i-1) (zl b (Y a i) Vp) (s+Z (gr b a n (Y a i).a.toNat (zl b (Y a i) Vt) s))) ++
    [⟨(Y a i).k,(Y a i).t,((s+Z (gr b a n (Y a i).a.toNat (zl b (Y a i) Vt) s):Nat):Int)-1,((s+Z (gr b a n (Y a i).a.toNat (zl b (Y a i) Vt) s)+(gr b a n (i-1) (zl b (Y a i) Vp) (s+Z (gr b a n (Y a i).a.toNat (zl b (Y a i) Vt) s))).length:Nat):Int)-1⟩])
theorem LA(d a):∀n m i f,i<n->i<m->AU a i=E f->∀l s,gr d a n i l s=gr d a m i l s
 |0,_,_,_,h,_,_=>yV h (yz _)
 |_+1,0,_,_,_,h,_=>yV h (yz _)
 |n+1,m+1,i,f,h,h',hf=>by
  intro l s;rcases Ge hf with⟨b,j,t,X⟩|⟨b,Q,j,q,H⟩|⟨b,Q,q,g,K,y,j,H⟩
  .have c:(Y a i).k≠6:=λe=>by rw[e]at b;simp[zY]at b
   simp only[gr,yS c,b,if_true]
  .have e:=LA d a n m (i-1) f I I H;simp only[gr,e];by_cases c:(Y a i).k=6
   .rw[yU c,yU c]
   .simp only[yS c,b,if_true,Nat.one_ne_zero,if_false]
  .have c:(Y a i).k≠6:=λe=>by rw[e]at b;simp[zY]at b
   have x:=Ct K;have k:=LA d a n m (i-1) g I I K;have o:=LA d a n m (g-1) f I I H;have p:(Y a i).a.toNat=g-1:=I;simp only[gr,yS c,p,k,o]
def gS(a:Jf)(b:Jj)(i:Nat)(l:Int)(s:Nat):Jj:=gr a b (i+1) i l s
theorem LB(a:zY (Y xs i).k=0)(l s):gS ns xs i l s=CO ns (Y xs i) l s [⟨(Y xs i).k,(Y xs i).t,0,0⟩]:=by grind [Y,zY,gS,gr]
theorem My(c:(Y xs i).k=6)(a:1<=i)(b:AU xs (i-1)=E f)(l s):gS ns xs i l s=gS ns xs (i-1) l s:=by grind [gS,gr,LA]
theorem LL(d:zY (Y xs i).k=1)(b:(Y xs i).k≠6)(a:1<=i)(c:AU xs (i-1)=E f)(l s){u}(e:u=gS ns xs (i-1) (zl ns (Y xs i) Vt) s):gS ns xs i l s=CO ns (Y xs i) l s (u++[⟨(Y xs i).k,(Y xs i).t,((s+Z u:Nat):Int)-1,0⟩]):=by grind [LA,gS,gr]
theorem MP{a}(n:zY (Y xs i).k=2)(g:1<=i)(h:AU xs (i-1)=E a)(j:1<=a)(m:(Y xs i).a=(a:Int)-1)(b:AU xs (a-1)=E f)(l s){u1 u2}(K:u1=gS ns xs (a-1) (zl ns (Y xs i) Vt) s)(q:u2=gS ns xs (i-1) (zl ns (Y xs i) Vp) (s+Z u1)):gS ns xs i l s=CO ns (Y xs i) l s ((u1++u2)++[⟨(Y xs i).k,(Y xs i).t,((s+Z u1:Nat):Int)-1,((s+Z u1+Z u2:Nat):Int)-1⟩]):=by
 have k:(Y xs i).k≠6:=λe=>by grind [zY]
 have H:=Ct h;have c:=LA ns xs i (i-1+1) (i-1) a I I h;have d:=LA ns xs i (a-1+1) (a-1) f I I b;grind [Y,gS,gr]
theorem R5(a o l s u):Z u<=Z (CO a o l s u)/\Z (CO a o l s u)<=Z u+1:=by grind [CO]
theorem E3(d c):∀n i f,i<n->AU c i=E f->∀l s,1<=Z (gS d c i l s)/\Z (gS d c i l s)<=2*(i+1-f)
 |0,_,_,h,_=>yV h (yz _)
 |n+1,i,f,h,hf=>by
  intro l s;rcases Ge hf with⟨e,m,u,a⟩|⟨e,K,m,b,H⟩|⟨e,K,b,g,q,y,m,H⟩
  .rw[LB e];have:=R5 d (Y c i) l s [⟨(Y c i).k,(Y c i).t,0,0⟩];simp only[yB,je]at this;omega
  .have X:=Ct H;by_cases p:(Y c i).k=6
   .rw[My p K H];have:=E3 d c n (i-1) f I H l s;omega
   .rw[LL e p K H l s rfl];have o:=E3 d c n (i-1) f I H (zl d (Y c i) Vt) s;have k:=R5 d (Y c i) l s (gS d c (i-1) (zl d (Y c i) Vt) s++[⟨(Y c i).k,(Y c i).t,((s+Z (gS d c (i-1) (zl d (Y c i) Vt) s):Nat):Int)-1,0⟩]);simp only[yr,yB,je]at k;omega
  .have X:=Ct q;have j:=Ct H;obtain⟨u1,Q⟩:=Jx (gS d c (g-1) (zl d (Y c i) Vt) s);obtain⟨u2,x⟩:=Jx (gS d c (i-1) (zl d (Y c i) Vp) (s+Z u1));rw[MP e K q y m H l s Q x];have o:=E3 d c n (g-1) f I H (zl d (Y c i) Vt) s;have k:=E3 d c n (i-1) g I q (zl d (Y c i) Vp) (s+Z u1);rw[<-Q]at o;rw[<-x]at k;have t:=R5 d (Y c i) l s ((u1++u2)++[⟨(Y c i).k,(Y c i).t,((s+Z u1:Nat):Int)-1,((s+Z u1+Z u2:Nat):Int)-1⟩]);simp only[yr,yB,je]at t;omega
theorem Nr(b a):∀n i f,i<n->AU a i=E f->∀l s c,Z (gS b a i l s)=Z (gS b a i l c)
 |0,_,_,h,_=>yV h (yz _)
 |n+1,i,f,h,hf=>by
  intro l s c;have cl:∀u j:Jj,Z u=Z j->Z (CO b (Y a i) l s u)=Z (CO b (Y a i) l c j):=by intro u j o;unfold CO;split<;>simp[o]
  rcases Ge hf with⟨d,g,p,y⟩|⟨d,K,g,x,H⟩|⟨d,K,x,e,q,Q,g,H⟩
  .rw[LB d,LB d];exact cl _ _ F
  .by_cases h6:(Y a i).k=6
   .rw[My h6 K H,My h6 K H];exact Nr b a n (i-1) f I H l s c
   .rw[LL d h6 K H l s rfl,LL d h6 K H l c rfl];apply cl;simp[Nr b a n (i-1) f I H (zl b (Y a i) Vt) s c]
  .have X:=Ct q;rw[MP d K q Q g H l s rfl rfl,MP d K q Q g H l c rfl rfl];apply cl;have k:=Nr b a n (e-1) f I H (zl b (Y a i) Vt) s c;have m:=Nr b a n (i-1) e I q (zl b (Y a i) Vp) (s+Z (gS b a (e-1) (zl b (Y a i) Vt) s)) (c+Z (gS b a (e-1) (zl b (Y a i) Vt) c));simp only[yr,yB,je];rw[m,k]
def JK(b a c v):=
 (((zM b 0/\Zk a/\DM b a)/\(gS b a (Z a-1) 0 0).length<=20000)/\v=Vp/\c=gS b a (Z a-1) 0 0) \/
 (¬ ((zM b 0/\Zk a/\DM b a)/\(gS b a (Z a-1) 0 0).length<=20000)/\v=Vt/\c=[])
theorem JK.one{b v d}(h:JK ns xs us v)(c:JK ns xs b d):us=b/\v=d:=by
 rcases h with⟨a,rfl,rfl⟩|⟨a,rfl,rfl⟩
 .rcases c with⟨_,rfl,rfl⟩|⟨a',_⟩;all_goals grind
 .rcases c with⟨a',_⟩|⟨_,rfl,rfl⟩;all_goals grind
def JK.len{v}(h:JK ns xs us v):Z us<=20000:=by
 rcases h with⟨a,_,rfl⟩|⟨_,_,rfl⟩
 .exact a.2
 .simp
def IE(t:JZ):Value:=.iface 293 (b9 #[W t])
def Iu(t:JZ):Value:=.iface 295 (b9 #[W t])
def Er(p:Ad)(e:Value):Value:=.iface 274 (b9 #[W p.s,G p.k,G p.l,G p.sd,e])
def D8(p:Ad)(e:Value):Value:=.iface 278 (b9 #[W p.s,G p.k,G p.l,G p.sd,e])
def DS(p:Ad)(e a:Value):Value:=.iface 277 (b9 #[W p.s,G p.k,G p.l,G p.sd,e,a])
def EK(e:Value):Value:=.iface 270 (b9 #[e])
def Al(a:Jf)(o:zD):Ad:=match Ax a o.t (o.k-2) with
 |some j=>r a j
 |none=>⟨j6,0,0,0⟩
def AT(p:Ad)(o:zD)(e a:Value):Value:=
 if o.k=1 then IE o.t else if o.k=2 then Iu o.t else if o.k=3 then Er p e else if o.k=4 then DS p e a else if o.k=5 then D8 p e else EK e
def Dy(b:Jf)(a:Jj):Nat->JD
 |0=>[]
 |k+1=>Dy b a k++[AT (Al b (Y a k)) (Y a k) ((Dy b a k).getD (Y a k).a.toNat .nilIface) ((Dy b a k).getD (Y a k).b.toNat .nilIface)]
theorem PX(a b):∀k,Z (Dy a b k)=k
 |0=>rfl
 |k+1=>by simp[Dy,PX a b k]
def CU(a:Jf)(b:Jj)(i:Nat):Value:=(Dy a b (i+1)).getD i .nilIface
theorem LN(b a i):CU b a i=AT (Al b (Y a i)) (Y a i) ((Dy b a i).getD (Y a i).a.toNat .nilIface) ((Dy b a i).getD (Y a i).b.toNat .nilIface):=by grind [PX,CU,Dy]
theorem Ip(a b):∀k i,i<k->(Dy a b k).getD i .nilIface=CU a b i
 |0,_,h=>yV h (yz _)
 |k+1,i,h=>by
  by_cases e:i=k
  .subst e;rfl
  .have hl:=PX a b k;rw[<-Ip a b k i I];show(Dy a b k++[_]).getD i .nilIface=_;simp[List.getD,List.getElem?_append,hl,(I:i<k)]
def vR(f:1<=i)(d:(Y xs i).a=(i:Int)-1)(b)(a:zY (Y xs i).k=1):CU ns xs i=AT (Al ns (Y xs i)) (Y xs i) (CU ns xs (i-1)) b:=by
 rw[LN,d];have:((i:Int)-1).toNat=i-1:=I;rw[this,Ip ns xs i (i-1) I];have c:(Y xs i).k≠4:=λe=>by rw[e]at a;simp[zY]at a
 simp only[AT,yS c]
def vU(d:1<=i)(a:(Y xs i).a=(j:Int))(c:j<i)(b:(Y xs i).b=(i:Int)-1):CU ns xs i=AT (Al ns (Y xs i)) (Y xs i) (CU ns xs j) (CU ns xs (i-1)):=by rw[LN,a,b];have:((i:Int)-1).toNat=i-1:=I;rw[this,Ip ns xs i (i-1) I,Int.toNat_natCast,Ip ns xs i j c]
def EH(a:Jf)(o:zD)(h:Int)(e:Value):Value:=if AY a o<h then EK e else e
def ft(b:Jf)(a:Jj):Nat->Nat->Int->Value
 |0,_,_=>.nilIface
 |n+1,i,least=>
  if(Y a i).k=6 then ft b a n (i-1) least
  else if zY (Y a i).k=0 then EH b (Y a i) least (AT (Al b (Y a i)) (Y a i) .nilIface .nilIface)
  else if zY (Y a i).k=1 then EH b (Y a i) least (AT (Al b (Y a i)) (Y a i) (ft b a n (i-1) (zl b (Y a i) Vt)) .nilIface)
  else EH b (Y a i) least (AT (Al b (Y a i)) (Y a i) (ft b a n (Y a i).a.toNat (zl b (Y a i) Vt)) (ft b a n (i-1) (zl b (Y a i) Vp)))
theorem MF(d a):∀n m i f,i<n->i<m->AU a i=E f->∀l,ft d a n i l=ft d a m i l
 |0,_,_,_,h,_,_=>yV h (yz _)
 |_+1,0,_,_,_,h,_=>yV h (yz _)
 |n+1,m+1,i,f,h,h',hf=>by
  intro l;rcases Ge hf with⟨b,j,s,X⟩|⟨b,Q,j,q,H⟩|⟨b,Q,q,g,K,y,j,H⟩
  .have c:(Y a i).k≠6:=λe=>by rw[e]at b;simp[zY]at b
   simp only[ft,yS c,b,if_true]
  .have e:=MF d a n m (i-1) f I I H;simp only[ft,e];by_cases c:(Y a i).k=6
   .rw[yU c,yU c]
   .simp only[yS c,b,if_true,Nat.one_ne_zero,if_false]
  .have c:(Y a i).k≠6:=λe=>by rw[e]at b;simp[zY]at b
   have x:=Ct K;have k:=MF d a n m (i-1) g I I K;have o:=MF d a n m (g-1) f I I H;have p:(Y a i).a.toNat=g-1:=I;simp only[ft,yS c,p,k,o]
def fS(a:Jf)(b:Jj)(i:Nat)(l:Int):Value:=ft a b (i+1) i l
theorem PY(a:zY (Y xs i).k=0)(l):fS ns xs i l=EH ns (Y xs i) l (AT (Al ns (Y xs i)) (Y xs i) .nilIface .nilIface):=by grind [Y,zY,fS,ft]
theorem Si(c:(Y xs i).k=6)(a:1<=i)(b:AU xs (i-1)=E f)(l):fS ns xs i l=fS ns xs (i-1) l:=by grind [fS,ft,MF]
theorem Qh(d:zY (Y xs i).k=1)(b:(Y xs i).k≠6)(a:1<=i)(c:AU xs (i-1)=E f)(l):fS ns xs i l=EH ns (Y xs i) l (AT (Al ns (Y xs i)) (Y xs i) (fS ns xs (i-1) (zl ns (Y xs i) Vt)) .nilIface):=by grind [MF,fS,ft]
theorem Tg{a}(k:zY (Y xs i).k=2)(b:1<=i)(h:AU xs (i-1)=E a)(c:1<=a)(g:(Y xs i).a=(a:Int)-1)(j:AU xs (a-1)=E f)(l):fS ns xs i l=EH ns (Y xs i) l (AT (Al ns (Y xs i)) (Y xs i) (fS ns xs (a-1) (zl ns (Y xs i) Vt)) (fS ns xs (i-1) (zl ns (Y xs i) Vp))):=by
 have d:(Y xs i).k≠6:=λe=>by grind [zY]
 have H:=Ct h;grind [MF,Y,fS,ft]
def VB(h:20000<o.t.size):¬ BK o:=λa=>Jy a.1
def XX(h:o.t.size<=20000)(a:o.k=1):BK o↔C2 o.t:=by unfold BK;rw[a];simp[h]
def XY(h:o.t.size<=20000)(a:o.k=2):BK o↔Cv o.t:=by unfold BK;rw[a];simp[h]
def XZ(a:o.k=6):BK o↔o.t.size=0:=by
 unfold BK;rw[a];refine⟨λh=>?_,λh=>⟨I,yX (yX (yW ⟨F,h⟩))⟩⟩;rcases h.2 with h|h|h|h
 .omega
 .omega
 .exact h.2
 .omega
def X2(h:o.t.size<=20000)(a:o.k=3\/o.k=4\/o.k=5):BK o↔DR o.t=Vp:=by unfold BK;rcases a with a|a|a<;>rw[a]<;>simp[h]
def SJ(a:¬ (o.k=1\/o.k=2\/o.k=3\/o.k=4\/o.k=5\/o.k=6)):¬ BK o:=by
 unfold BK;rintro⟨_,h|h|h|h⟩
 .omega
 .omega
 .omega
 .omega
def fQ(o w)(i:o.t.size<=maxLen):Calls Vb 141 #[b9 #[G o.k,W o.t,G o.a,G o.b]] w λe w'=>Bj e (BK o)/\Qb w w':=by
 have b:=S i;unfold maxLen at i;by_cases q:20000<o.t.size
 .have H:(20000:Int)<o.t.size:=I;have j:=S (VB q);go_enter func141,ntmps141;go_wp2;go_ret;exact⟨⟨_,F,zT j⟩,zC⟩
 have H:¬ (20000:Int)<o.t.size:=I;have K:o.t.size<=20000:=I;by_cases d:o.k=1
 .have HT:=S (XX K d);rw[d];go_enter func141,ntmps141;go_wp2_with (go_at_call 145;refine(Nh _ _ b).mono ?_;rintro e w' ⟨⟨v,rfl,c⟩,rfl⟩);go_ret;exact⟨⟨_,F,c.trans HT.symm⟩,zC⟩
 by_cases f:o.k=2
 .have HT:=S (XY K f);rw[f];go_enter func141,ntmps141;go_wp2_with (go_at_call 43;refine(Rc _ _ b).mono ?_;rintro e w' ⟨⟨v,rfl,c⟩,rfl⟩);go_ret;exact⟨⟨_,F,c.trans HT.symm⟩,zC⟩
 by_cases g:o.k=6
 .have HT:=S (XZ g);rw[g];by_cases a:o.t.size=0
  .rw[Pk a];go_enter func141,ntmps141;go_wp2;go_ret;exact⟨⟨_,F,Zt (HT.2 a)⟩,zC⟩
  .have Q:o.t.toList.isEmpty=Vt:=Pj a;go_enter func141,ntmps141;go_wp2;go_ret;exact⟨⟨_,F,zT (λh=>a (HT.1 h))⟩,zC⟩
 have k:(o.k==1)=Vt:=Ju d
 have l:(o.k==2)=Vt:=Ju f
 have m:(o.k==6)=Vt:=Ju g
 by_cases n:3<=o.k
 .by_cases k5:o.k<=5
  .have HT:=S (X2 K I);go_enter func141,ntmps141;go_wp2_with (go_at_call 59;refine(Rj _ _ b).mono ?_;rintro e w' ⟨rfl,rfl⟩);go_ret;exact⟨⟨_,F,HT.symm⟩,zC⟩
  .have HT:=S (SJ (o:=o) I);go_enter func141,ntmps141;go_wp2;go_ret;exact⟨⟨_,F,zT HT⟩,zC⟩
 .have HT:=S (SJ (o:=o) I);go_enter func141,ntmps141;go_wp2;go_ret;exact⟨⟨_,F,zT HT⟩,zC⟩
def TW(b K g d w)(A:Z d<=1048576)(t:Z2 w b K d)(M:C5 d)(o:b<O w.1):Calls Vb 85 #[b9 #[Je b K (Z d) g]] w λe w'=>Bj e (Zk d)/\Qb w w':=by
 by_cases T:Z d<1
 .have y:(Z d:Int)<1:=I;have m:Hid (¬ Zk d):=λh=>Jy h.1
  go_enter func85,ntmps85;go_wp2;go_ret;exact⟨⟨_,F,zT m⟩,zC⟩
 have y:¬ (Z d:Int)<1:=I;by_cases U:20000<Z d
 .have c:(20000:Int)<Z d:=I;have m:Hid (¬ Zk d):=λh=>Jy h.2.1
  go_enter func85,ntmps85;go_wp2;go_ret;exact⟨⟨_,F,zT m⟩,zC⟩
 have c:¬ (20000:Int)<Z d:=I;have R:(Z d:Int)-1=((Z d-1:Nat):Int):=I;by_cases n:AU d (Z d-1)=E 0;case neg=>
  have P:(Cc d (Z d-1)!=0)=Vp:=by
   unfold Cc;cases L:AU d (Z d-1) with
   |none=>rfl
   |some f=>simp only[bne_iff_ne,ne_eq];intro e;have:f=0:=I;subst this;exact n L
  have m:Hid (¬ Zk d):=λh=>n h.2.2.1
  go_enter func85,ntmps85;go_wp2_with (go_at_call 140;refine(Rs b K g d A (Z d) (Z d-1) _ I I (t.y zC o) Jq).mono ?_;rintro e w' ⟨rfl,l⟩);go_ret;exact⟨⟨_,F,zT m⟩,(zC).trans (l.mono Js)⟩
 have C:=S (R4 n);have B:=S n;go_enter func85,ntmps85;go_wp2_with fail;refine(Rs b K g d A (Z d) (Z d-1) _ I I (t.y zC o) Jq).mono ?_;rw[D C];rintro e w1 ⟨rfl,l⟩;have X:=(zC).trans (l.mono Js);go_wp2;go_loopw [4] (λi wr=>∃k:Nat,k<=Z d/\i=G k/\Hid (∀j,j<k->BK (Y d j))/\Qb w wr) (λi _=>Z d-(intOf i).toNat);case atStart=>exact⟨0,yn,F,S (λj z=>yV z (yz j)),X⟩
 case round=>
  obtain⟨k,hk,rfl,x,H⟩:=hrel;by_cases Q:k<Z d
  .obtain⟨c0,c1,c2,c3⟩:=((t) k Q).y H o;have a:(k:Int)<Z d:=I;go_wp2_with fail;go_call fQ (Y d k) _ (M k Q) as e w2 ⟨⟨v,rfl,N⟩,s⟩;have q:=H.trans (s.mono H.size);have u:=S N;cases v
   .go_wp2;go_ret;exact⟨⟨_,F,zT (λh=>jq (u.2 (h.2.2.2 k Q)))⟩,q⟩
   .go_wp2;refine⟨⟨k+1,I,Jn,S (λj z=>?_),q⟩,Ji⟩;by_cases e:j=k
    .subst e;exact u.1 F
    .exact x j I
  .have p:k=Z d:=I;go_wp2;go_ret;exact⟨⟨_,F,Zt ⟨I,I,B,λi V=>x i I⟩⟩,H⟩
def Za{n e d}(h:w.ownsRow B e 4 u n d):∃a c,u=i6 a n c:=by
 obtain⟨_,⟨rfl,rfl⟩|⟨g,b,H,rfl,_⟩⟩:=h
 .exact⟨JL,0,F⟩
 .exact⟨_,_,F⟩
def Z5(w:JY)(B:Nat)(u)(a:Jj):=w.ownsRow B 108 4 u (Z a) (zO a)
def Z5.y(h:Z5 w B u us)(a:Qb w w'):Z5 w' B u us:=
 jD h (zH a JL) (by cases u.ownBlock with
 |none=>exact yW F
 |some k=>exact yX Js)
def Z5.lt{w B u b}(h:Z5 w B u b):∀g,u.ownBlock=E g->g<O w.1:=λg a=>(ji h g a).2
def EU(w:JY)(B:Nat)(u:Value)(c:Jj)(x)(b:JY):=
 ∃a,x=i9 a/\Hid (Z5 b B a c)/\Hid (w.grownBy b u.ownBlock)/\Hid (a.ownBlock=u.ownBlock\/∃k,a.ownBlock=E k/\O w.1<=k)
def E8(e:Value)(b:Nat->Jj):=∃T v f,e=.iface T v/\(∀w,(method 459 T v "loop.example/s0059/impl.appendTo").run Vb w=.ok (f,v) w)/\(∀a w,(callFunc f a).run Vb w=.ok (.enter f a) w) /\
 ∀(B:Nat)(u:Value)(us vs:Jj)(w:JY),Z5 w B u us->B<=O w.1->Z us+(b (Z us)).length<=100000->vs=us++b (Z us)->Calls Vb f #[v,u] w (EU w B u vs)
def Mz{x}(h:vs=us++[x])(a:w.ownsRow B 108 4 v (Z us+[x].length) (zO us++zO [x])):Z5 w B v vs:=by rw[h];unfold Z5;rw[Zp,yr];exact a
def vV(t):E8 (IE t) (λ_=>[⟨1,t,0,0⟩]):=by refine⟨_,_,295,F,λw=>Jk,λa w=>Jk,?_⟩;intro B u us vs w K j Q y;obtain⟨a,c,rfl⟩:=Za K;have g:=S K;have i:=S y;simp only[yB,je]at Q;go_enter func295,ntmps295;go_wp2_with (at_builtin;refine As BB underlying38 (.tmp 5) (.tmp 10) F rfl B _ (Z us) (zO us) F ((g.y zC).y zC) (J (O w.1+1) 0) 1 1 (zO [⟨1,t,0,0⟩]) F rfl (Ju (Zh (w.alloc _) ⟨1,t,0,0⟩)) (zf _) Jm I Jh ?_);intro b l q H X x;have f:=S (Mz i q);have e:=S (ze ((zC).alloc Js _) H);have d:Hid (b.ownBlock=(i6 a (Z us) c).ownBlock\/∃k,b.ownBlock=E k/\O w.1<=k):=x.imp id (λh=>⟨_,h,by first|omega|(simp;omega)⟩);go_wp2;go_ret;exact⟨b,F,f,e,d⟩
def rP(t):E8 (Iu t) (λ_=>[⟨2,t,0,0⟩]):=by refine⟨_,_,296,F,λw=>Jk,λa w=>Jk,?_⟩;intro B u us vs w K j Q y;obtain⟨a,c,rfl⟩:=Za K;have g:=S K;have i:=S y;simp only[yB,je]at Q;go_enter func296,ntmps296;go_wp2_with (at_builtin;refine As BB underlying38 (.tmp 5) (.tmp 10) F rfl B _ (Z us) (zO us) F ((g.y zC).y zC) (J (O w.1+1) 0) 1 1 (zO [⟨2,t,0,0⟩]) F rfl (Ju (Zh (w.alloc _) ⟨2,t,0,0⟩)) (zf _) Jm I Jh ?_);intro b l q H X x;have f:=S (Mz i q);have e:=S (ze ((zC).alloc Js _) H);have d:Hid (b.ownBlock=(i6 a (Z us) c).ownBlock\/∃k,b.ownBlock=E k/\O w.1<=k):=x.imp id (λh=>⟨_,h,by first|omega|(simp;omega)⟩);go_wp2;go_ret;exact⟨b,F,f,e,d⟩
def E9(a:Nat->Jj)(k:Int)(t:JZ)(s:Nat):Jj:=a s++[⟨k,t,((s+Z (a s):Nat):Int)-1,0⟩]
def QY(h:E8 e a)(k t B u m z w)(K:Z5 w B u m)(hB:B<=O w.1)(X:Z m+(E9 a k t (Z m)).length<=100000)(P:z=m++E9 a k t (Z m)):Calls Vb 288 #[b9 #[e],u,G k,W t] w (EU w B u z):=by
 obtain⟨T,v,f,rfl,hm,d,q⟩:=h;have HC:=S q;obtain⟨l,c,rfl⟩:=Za K;obtain⟨H,j⟩:∃H,Hid (H=m++a (Z m)):=⟨_,S F⟩;have A:Z H=Z m+(a (Z m)).length:=by rw[D j,yr]
 have b:Z H+1<=100000:=by simp only[E9,yr,yB,je]at X;omega
 have V:=S (I:Z m+(a (Z m)).length<=100000);have HV:=S (show z=H++[⟨k,t,(Z H:Int)-1,0⟩] by rw[P,D j,E9,yr,yD])
 clear q P X A;go_enter func288,ntmps288;go_wp2_with fail;go_call HC B _ m H _ (K.y zC) Jq V j as x w1 ⟨u1,rfl,s,n,o⟩;obtain⟨L,M,rfl⟩:=Za s;have y:=S (ze zC n);have g:Hid ((i6 L (Z H) M).ownBlock=(i6 l (Z m) c).ownBlock\/∃k,(i6 L (Z H) M).ownBlock=E k/\O w.1<=k):=o.imp id (λ⟨k,h1,h2⟩=>⟨k,h1,by simp at h2;omega⟩);have hz:=y.size;clear n o hm d;go_wp2_with (at_builtin;refine As BB underlying38 (.tmp 13) (.tmp 20) F rfl B _ (Z H) (zO H) F (s.y zC) (J (O w1.1) 0) 1 1 (zO [⟨k,t,(Z H:Int)-1,0⟩]) F rfl (Ju (Zh w1 ⟨k,t,(Z H:Int)-1,0⟩)) (zf _) Jm I Jh ?_);intro N w4 i Q C p;have HO:=S (Mz HV i);have U:=S (ze zC Q);have HG:=S (zi y U g);have R:=S (Ek y g N.ownBlock (p.imp id (λh=>⟨_,h,by first|omega|simp⟩)));go_wp2;go_ret;exact⟨N,F,HO,HG,R⟩
def SK(h:Qb w w1){x}(d:EU w1 B u vs x w'):EU w B u vs x w':=by obtain⟨f,rfl,e,b,c⟩:=d;have:=h.size;exact⟨f,F,e,S (ze h b),S (c.imp id (λ⟨k,a,g⟩=>⟨k,a,I⟩))⟩
def vW(h:E8 e a):E8 (EK e) (E9 a 6 j6):=by refine⟨_,_,287,F,λw=>Jk,λb w=>Jk,?_⟩;intro B u us vs w K n H Q;have c:=S h;obtain⟨T,v,f,rfl,o,X,q⟩:=h;have d:=S K;have g:=S Q;go_enter func287,ntmps287;go_wp2_with fail;refine(QY c 6 j6 B _ us vs _ (d.y zC) Jq H g).mono ?_;intro x w1 k;obtain⟨m,rfl,l,i,j⟩:=SK zC k;go_wp2;go_ret;exact⟨m,F,l,i,j⟩
def vX(h:E8 e a)(p):E8 (Er p e) (E9 a 3 p.s):=by refine⟨_,_,290,F,λw=>Jk,λb w=>Jk,?_⟩;intro B u us vs w K n H Q;have c:=S h;obtain⟨T,v,f,rfl,o,X,q⟩:=h;have d:=S K;have g:=S Q;go_enter func290,ntmps290;go_wp2_with fail;refine(QY c 3 p.s B _ us vs _ (d.y zC) Jq H g).mono ?_;intro x w1 k;obtain⟨m,rfl,l,i,j⟩:=SK zC k;go_wp2;go_ret;exact⟨m,F,l,i,j⟩
def rQ(h:E8 e a)(p):E8 (D8 p e) (E9 a 5 p.s):=by refine⟨_,_,293,F,λw=>Jk,λb w=>Jk,?_⟩;intro B u us vs w K n H Q;have c:=S h;obtain⟨T,v,f,rfl,o,X,q⟩:=h;have d:=S K;have g:=S Q;go_enter func293,ntmps293;go_wp2_with fail;refine(QY c 5 p.s B _ us vs _ (d.y zC) Jq H g).mono ?_;intro x w1 k;obtain⟨m,rfl,l,i,j⟩:=SK zC k;go_wp2;go_ret;exact⟨m,F,l,i,j⟩
def Ox(a b:Nat->Jj)(t:JZ)(s:Nat):Jj:=(a s++b (s+Z (a s)))++[⟨4,t,((s+Z (a s):Nat):Int)-1,((s+Z (a s)+(b (s+Z (a s))).length:Nat):Int)-1⟩]
def vY{e'}{ha:Nat->Jj}(h:E8 e a)(h':E8 e' ha)(p):E8 (DS p e e') (Ox a ha p.s):=by
 refine⟨_,_,291,F,λw=>Jk,λhh w=>Jk,?_⟩;intro B u us vs w X hB hg s;obtain⟨T,v,f,rfl,hm,hi,Q⟩:=h;obtain⟨T',v',f',rfl,hf,R,q⟩:=h';have HC:=S Q;have M:=S q;obtain⟨hh,c,rfl⟩:=Za X;have HR:=S X;obtain⟨H,V⟩:∃H,Hid (H=us++a (Z us)):=⟨_,S F⟩;have j:Z H=Z us+(a (Z us)).length:=by rw[D V,yr]
 obtain⟨K,hc⟩:∃K,Hid (K=H++ha (Z H)):=⟨_,S F⟩;have i:Z K=Z H+(ha (Z H)).length:=by rw[D hc,yr]
 have L:Z K+1<=100000:=by simp only[Ox,yr,yB,je,<-j]at hg;omega
 have N:=S (I:Z us+(a (Z us)).length<=100000);have o:=S (I:Z H+(ha (Z H)).length<=100000);have m:Z H<=100000:=I;have HV:=S (show vs=K++[⟨4,p.s,(Z H:Int)-1,(Z K:Int)-1⟩] by
  have e:K=us++(a (Z us)++ha (Z H)):=hc.trans ((yY (·++ha (Z H)) V).trans (yD _ _ _))
  rw[s]
  unfold Ox
  rw[<-j,<-i,<-yD,<-e])
 clear Q X s hg q j i;go_enter func291,ntmps291;go_wp2_with fail;go_call HC B _ us H _ (HR.y zC) Jq N V as x w1 ⟨u1,rfl,hr1,hg1,ho1⟩;obtain⟨a1,c1,rfl⟩:=Za hr1;have U:(i6 hh (Z us) c).ownBlock≠E (O w.1):=λe=>Jy (HR.lt _ e)
 have q0:w1.cell? (J (O w.1) 0)=E (W p.s):=(zJ hg1 (b:=O w.1) Js U 0).trans Jg;have q5:w1.cell? (J (O w.1) 5)=E (.iface T' v'):=(zJ hg1 (b:=O w.1) Js U 5).trans Jg;have C:=S (ze zC hg1);have l:=S ho1;have z:Hid ((i6 a1 (Z H) c1).ownBlock=(i6 hh (Z us) c).ownBlock\/∃k,(i6 a1 (Z H) c1).ownBlock=E k/\O w.1<=k):=ho1.imp id (λ⟨k,h1,h2⟩=>⟨k,h1,by simp at h2;omega⟩);have hz:=C.size;have t:O w.1+1<=O w1.1:=Jz hg1.size
 have d:(i6 a1 (Z H) c1).ownBlock≠E (O w.1):=λe=>by
  rcases D l with h|⟨k,h1,h2⟩
  .exact U (h.symm.trans e)
  .rw[h1]at e;injection e with e;simp at h2;omega
 clear hg1 ho1 hm hi l;go_wp2_with fail;go_call M B _ H K _ hr1 I o hc as x w2 ⟨u2,rfl,hr2,hg2,ho2⟩;obtain⟨a2,c2,rfl⟩:=Za hr2;have r0:w2.cell? (J (O w.1) 0)=E (W p.s):=(zJ hg2 (b:=O w.1) I d 0).trans q0;have A:=S (zi C hg2 z);have hb:=S (Ek C z _ ho2);have he:=A.size;go_wp2_with (at_builtin;refine As BB underlying38 (.tmp 17) (.tmp 27) F rfl B _ (Z K) (zO K) F (hr2.y zC) (J (O w2.1) 0) 1 1 (zO [⟨4,p.s,(Z H:Int)-1,(Z K:Int)-1⟩]) F rfl (Ju (Zh w2 ⟨4,p.s,(Z H:Int)-1,(Z K:Int)-1⟩)) (zf _) Jm I Jh ?_);intro v4 w4 P y hd g;have HO:=S (Mz HV P);have n:=S (ze zC y);have HG:=S (zi A n hb);have HA:=S (Ek A hb v4.ownBlock (g.imp id (λh=>⟨_,h,by first|omega|simp⟩)));go_wp2;go_ret;exact⟨v4,F,HO,HG,HA⟩
open Go.Deep (BT)
abbrev ET:=BT ByteArray
def Ab:ET->Nat
 |.nil=>0
 |.node _ _ _ l a=>Ab l+Ab a+1
def tN(b:Nat)(t:JZ)(l a:ET)(s:Nat):zD:=
 ⟨(b:Int),t,if zY (b:Int)=0 then 0 else((s+Ab l:Nat):Int)-1,if zY (b:Int)=2 then((s+Ab l+Ab a:Nat):Int)-1 else 0⟩
def nd:ET->Nat->Jj
 |.nil,_=>[]
 |.node b _ t l a,s=>nd l s++nd a (s+Ab l)++[tN b t l a s]
theorem ZN:∀(T:ET)(s:Nat),Z (nd T s)=Ab T
 |.nil,_=>rfl
 |.node b o t l a,s=>by simp[nd,Ab,ZN l,ZN a];omega
def Sh:ET->Prop
 |.nil=>False
 |.node b o _ l a=>o=0/\((zY (b:Int)=0/\l=.nil/\a=.nil)\/(zY (b:Int)=1/\Sh l/\a=.nil)\/(zY (b:Int)=2/\Sh l/\Sh a))
theorem Sh.pos:∀{T:ET},Sh T->1<=Ab T
 |.nil,h=>h.elim
 |.node _ _ _ _ _,_=>by simp[Ab]
def B1(c:Jj):ET->Nat->Prop
 |.nil,_=>True
 |.node b _ t l a,s=>B1 c l s/\B1 c a (s+Ab l)/\Y c (s+Ab l+Ab a)=tN b t l a s
theorem QX{a}(h:i<Z xs):Y (xs++a) i=Y xs i:=by grind [Y]
theorem OV{a}(h:Z xs<=i):Y (xs++a) i=Y a (i-Z xs):=by grind [Y]
theorem B1.congr{d e}:∀{T:ET}{s:Nat},B1 d T s->(∀i,s<=i->i<s+Ab T->Y e i=Y d i)->B1 e T s
 |.nil,_,_,_=>trivial
 |.node b o t l a,s,⟨h1,h2,h3⟩,h=>by simp only[Ab]at h;refine⟨h1.congr λi c H=>h i c I,h2.congr λi c H=>h i I I,?_⟩;rw[h _ (by omega) (by omega)];exact h3
theorem vZ(c d):∀(T:ET)(s:Nat),s=Z c->B1 (c++(nd T s++d)) T s:=by
 intro T;induction T generalizing c d with
 |nil=>intro _ _;trivial
 |node b o t l a ihl ihr=>
  intro s f;subst f;refine⟨?_,?_,?_⟩
  .grind [nd,Ab,tN]
  .grind [nd,tN,Ab,ZN]
  .rw[OV I];have e:Z c+Ab l+Ab a-Z c=Ab l+Ab a:=I;rw[e,QX (by simp[nd,ZN])];simp only[nd];rw[OV (by simp[ZN])];simp[ZN,Y]
theorem Gc(T):B1 (nd T 0) T 0:=by have:=vZ [] [] T 0 F;grind
theorem iG:∀(T:ET)(s:Nat),B1 xs T s->∀j,j<Ab T->Y xs (s+j)=Y (nd T s) j:=by
 intro T;induction T with
 |nil=>intro s _ j c;simp[Ab]at c
 |node b o t l a ihl ihr=>
  rintro s ⟨f,g,h⟩ j c;simp only[Ab]at c;simp only[nd];by_cases d:j<Ab l
  .grind [QX,ZN]
  .by_cases c2:j<Ab l+Ab a
   .grind [Ab,QX,ZN,OV]
   .have e:j=Ab l+Ab a:=I;subst e;grind [OV,ZN,Y]
theorem mC{T}(h:B1 xs T 0)(a:Z xs=Ab T):xs=nd T 0:=by apply List.ext_getElem (by rw[ZN,a]);intro i b c;have:=iG T 0 h i I;grind [Y]
theorem IT:∀(T:ET)(s:Nat),Sh T->B1 xs T s->AU xs (s+Ab T-1)=E s:=by
 intro T;induction T with
 |nil=>intro s h;exact h.elim
 |node b o t l a ihl ihr=>
  rintro s ⟨_,g⟩ ⟨i,m,c⟩;have e:s+Ab (.node b o t l a)-1=s+Ab l+Ab a:=by grind [Ab]
  rw[e];rcases g with⟨d,rfl,rfl⟩|⟨d,f,rfl⟩|⟨d,f,j⟩
  .simp only[Ab,Nat.add_zero]at c ⊢;have H:zY (Y xs s).k=0:=by rw[c];exact d
   rw[Px H,yU];rw[c];simp[tN,d]
  .simp only[Ab,Nat.add_zero]at c ⊢;have n:=f.pos;have H:zY (Y xs (s+Ab l)).k=1:=by rw[c];exact d
   rw[PU H,yU]
   .exact ihl s f i
   .rw[c];simp[tN,d];omega
  .have n:=f.pos;have p:=j.pos;have H:zY (Y xs (s+Ab l+Ab a)).k=2:=by rw[c];exact d
   have k:=ihr (s+Ab l) j m;rw[PV H I (by rw[c];simp[tN,d]) k I (by rw[c];simp[tN,d])];exact ihl s f i
theorem O1(c)(q:∀i,i<Z c->0<=(Y c i).k):∀n i f,i<n->i<Z c->AU c i=E f->∃T,Sh T/\f+Ab T=i+1/\B1 c T f
 |0,_,_,h,_,_=>yV h (yz _)
 |n+1,i,f,h,hi,hf=>by
  have H:(((Y c i).k.toNat:Nat):Int)=(Y c i).k:=Int.toNat_of_nonneg (q i hi);rcases Ge hf with⟨d,s,C,b⟩|⟨d,P,s,p,K⟩|⟨d,P,p,k,x,U,s,K⟩
  .refine⟨.node (Y c i).k.toNat 0 (Y c i).t .nil .nil,⟨F,yW ⟨by rw[H];exact d,F,F⟩⟩,by simp[Ab];omega,trivial,trivial,?_⟩;simp only[Ab,Nat.add_zero,tN,H,d];rw[b];generalize Y c i=o at *;cases o
   simp_all
  .have y:=Ct K;obtain⟨T,t,M,A⟩:=O1 c q n (i-1) f I I K;have B:=t.pos;refine⟨.node (Y c i).k.toNat 0 (Y c i).t T .nil,⟨F,yX (yW ⟨by rw[H];exact d,t,F⟩)⟩,by simp[Ab];omega,A,trivial,?_⟩;have e:f+Ab T+Ab (BT.nil:ET)=i:=by simp[Ab];omega
   rw[e];simp only[tN,H,d];have m:((f+Ab T:Nat):Int)-1=(i:Int)-1:=I;rw[m];generalize Y c i=o at *;cases o
   simp_all
  .have y:=Ct x;have v:=Ct K;obtain⟨g,X,V,j⟩:=O1 c q n (k-1) f I I K;obtain⟨l,Q,u,a⟩:=O1 c q n (i-1) k I I x;have B:=X.pos;have L:=Q.pos;have z:f+Ab g=k:=I;refine⟨.node (Y c i).k.toNat 0 (Y c i).t g l,⟨F,yX (yX ⟨by rw[H];exact d,X,Q⟩)⟩,by simp[Ab];omega,j,by rw[z];exact a,?_⟩;have e:f+Ab g+Ab l=i:=I;rw[e];simp only[tN,H,d];have m:((f+Ab g:Nat):Int)-1=(k:Int)-1:=I;have w:((f+Ab g+Ab l:Nat):Int)-1=(i:Int)-1:=I;rw[m,w];generalize Y c i=o at *;cases o
   simp_all
def BK.nonneg(h:BK o):0<=o.k:=by rcases h.2 with⟨h,_⟩|⟨h,_⟩|⟨h,_⟩|⟨h|h|h,_⟩<;>omega
theorem UB(h:Zk xs):∃T,Sh T/\Ab T=Z xs/\xs=nd T 0:=by
 obtain⟨T,c,d,b⟩:=O1 xs (λi a=>(h.2.2.2 i a).nonneg) (Z xs) (Z xs-1) 0 (Jy h.1) (Jy h.1) h.2.2.1;have e:Ab T=Z xs:=Jy h.1
 grind [mC]
def rt(b:Nat)(t:JZ):zD:=⟨(b:Int),t,0,0⟩
def Fk(a:Jf)(b:Nat)(t:JZ)(h:Int)(T:ET):ET:=if AY a (rt b t)<h then .node 6 0 j6 T .nil else T
def AZ(c:Jf):ET->Int->ET
 |.nil,_=>.nil
 |.node b _ t l a,least=>if b=6 then AZ c l least else Fk c b t least (.node b 0 t (AZ c l (zl c (rt b t) Vt)) (AZ c a (zl c (rt b t) Vp)))
def Bm(c:Jf):ET->Value
 |.nil=>.nilIface
 |.node b _ t l a=>AT (Al c (rt b t)) (rt b t) (Bm c l) (Bm c a)
theorem X3(a o)(b:Nat)(t)(c:o.k=(b:Int))(d:o.t=t):AY a o=AY a (rt b t):=by grind [AY,rt]
theorem MA(a o)(b:Nat)(t)(d:o.k=(b:Int))(e:o.t=t)(c):zl a o c=zl a (rt b t) c:=by grind [zl,rt]
theorem Th(a o)(b:Nat)(t)(c:o.k=(b:Int))(d:o.t=t):Al a o=Al a (rt b t):=by grind [Al,rt]
theorem Ti(p o)(b:Nat)(t)(c:o.k=(b:Int))(d:o.t=t)(e a):AT p o e a=AT p (rt b t) e a:=by grind [AT,rt]
theorem zac(d):∀(T:ET)(l:Int),Sh T->Sh (AZ d T l):=by
 intro T;induction T with
 |nil=>intro l h;exact h.elim
 |node b o t l a ihl ihr=>
  rintro H ⟨f,h⟩;simp only[AZ];split
  .rename_i h6;subst h6;rcases h with⟨c,_⟩|⟨_,e,_⟩|⟨c,_⟩
   .exact yV c Jd
   .exact ihl _ e
   .grind
  .have:Sh (.node b 0 t (AZ d l (zl d (rt b t) Vt)) (AZ d a (zl d (rt b t) Vp))):=by
    refine⟨F,?_⟩;rcases h with⟨c,rfl,rfl⟩|⟨c,e,rfl⟩|⟨c,e,g⟩
    .exact yW ⟨c,F,F⟩
    .exact yX (yW ⟨c,ihl _ e,F⟩)
    .grind
   unfold Fk;split
   .exact⟨F,yX (yW ⟨Jd,this,F⟩)⟩
   .exact this
theorem SL(a o)(b:Nat)(t)(c:o.k=(b:Int))(d:o.t=t)(h s T u)(e:u=nd T s):CO a o h s u=nd (Fk a b t h T) s:=by grind [CO,Fk,X3,nd,tN,ZN,Ab,zY]
theorem X4(d f):∀(T:ET)(s:Nat),Sh T->B1 f T s->∀(l:Int)(p:Nat),gS d f (s+Ab T-1) l p=nd (AZ d T l) p:=by
 intro T;induction T with
 |nil=>intro s h;exact h.elim
 |node b o t l a ihl ihr=>
  rintro s ⟨z,u⟩ ⟨k,v,m⟩ c p;have e:s+Ab (.node b o t l a)-1=s+Ab l+Ab a:=by grind [Ab]
  rw[e];have hK:(Y f (s+Ab l+Ab a)).k=(b:Int):=by rw[m];rfl
  have hT:(Y f (s+Ab l+Ab a)).t=t:=by rw[m];rfl
  have K:((Y f (s+Ab l+Ab a)).k=6)↔b=6:=by grind
  rcases u with⟨j,rfl,rfl⟩|⟨j,g,rfl⟩|⟨j,g,n⟩
  .have H:zY (Y f (s+Ab (BT.nil:ET)+Ab (BT.nil:ET))).k=0:=by grind
   have i:¬ b=6:=λe=>by subst e;exact yV j Jd
   rw[LB H];simp only[AZ,yS i];refine SL d _ b t hK hT c p _ _ ?_;rw[hK,hT];simp[nd,tN,j,Ab,AZ]
  .have hp:=g.pos;simp only[Ab,Nat.add_zero]at hK hT K m ⊢;have H:zY (Y f (s+Ab l)).k=1:=by grind
   have q:=IT l s g k;by_cases i:b=6
   .grind [My,AZ]
   .rw[LL H (λx=>i (K.1 x)) I q c p (ihl s g k _ p).symm];simp only[AZ,yS i];rw[MA d _ b t hK hT];refine SL d _ b t hK hT c p _ _ ?_;simp[nd,tN,hK,hT,j,Ab,ZN,AZ]
  .have hp:=g.pos;have A:=n.pos;have H:zY (Y f (s+Ab l+Ab a)).k=2:=by grind
   have i:¬ b=6:=λe=>by subst e;exact yV j Jd
   have y:=IT a (s+Ab l) n v;have w:=IT l s g k;rw[MP H I y I (by grind [tN]) w c p (ihl s g k _ p).symm (ihr (s+Ab l) n v _ _).symm];simp only[AZ,yS i];rw[MA d _ b t hK hT,MA d _ b t hK hT];refine SL d _ b t hK hT c p _ _ ?_;rw[hK,hT];grind [nd,tN,Ab,ZN]
theorem Sj(a o)(b:Nat)(t)(c:o.k=(b:Int))(d:o.t=t)(h T e)(f:e=Bm a T):EH a o h e=Bm a (Fk a b t h T):=by grind [EH,Fk,X3,Bm,AT,rt]
theorem wA(d f):∀(T:ET)(s:Nat),Sh T->B1 f T s->∀(l:Int),fS d f (s+Ab T-1) l=Bm d (AZ d T l):=by
 intro T;induction T with
 |nil=>intro s h;exact h.elim
 |node b o t l a ihl ihr=>
  rintro s ⟨y,p⟩ ⟨j,u,m⟩ c;have e:s+Ab (.node b o t l a)-1=s+Ab l+Ab a:=by grind [Ab]
  rw[e];have hK:(Y f (s+Ab l+Ab a)).k=(b:Int):=by rw[m];rfl
  have hT:(Y f (s+Ab l+Ab a)).t=t:=by rw[m];rfl
  have K:((Y f (s+Ab l+Ab a)).k=6)↔b=6:=by grind
  rcases p with⟨k,rfl,rfl⟩|⟨k,g,rfl⟩|⟨k,g,n⟩
  .have H:zY (Y f (s+Ab (BT.nil:ET)+Ab (BT.nil:ET))).k=0:=by grind
   have i:¬ b=6:=λe=>by subst e;exact yV k Jd
   rw[PY H];simp only[AZ,yS i];refine Sj d _ b t hK hT c _ _ ?_;rw[Th d _ b t hK hT,Ti _ _ b t hK hT];simp[Bm,AZ]
  .have hp:=g.pos;simp only[Ab,Nat.add_zero]at hK hT K m ⊢;have H:zY (Y f (s+Ab l)).k=1:=by grind
   have q:=IT l s g j;by_cases i:b=6
   .grind [Si,AZ]
   .rw[Qh H (λx=>i (K.1 x)) I q,ihl s g j];simp only[AZ,yS i];rw[MA d _ b t hK hT];refine Sj d _ b t hK hT c _ _ ?_;rw[Th d _ b t hK hT,Ti _ _ b t hK hT];simp[Bm,AZ]
  .have hp:=g.pos;have z:=n.pos;have H:zY (Y f (s+Ab l+Ab a)).k=2:=by grind
   have i:¬ b=6:=λe=>by subst e;exact yV k Jd
   have w:=IT a (s+Ab l) n u;have v:=IT l s g j;rw[Tg H I w I (by grind [tN]) v,ihl s g j,ihr (s+Ab l) n u];simp only[AZ,yS i];rw[MA d _ b t hK hT,MA d _ b t hK hT];refine Sj d _ b t hK hT c _ _ ?_;rw[Th d _ b t hK hT,Ti _ _ b t hK hT];simp[Bm]
structure ZJ where
 t:JZ
 o:Bool
 i:Bool
def ZJ.zero:ZJ:=⟨⟨#[]⟩,Vt,Vt⟩
def A1(a:List ZJ)(i:Nat):ZJ:=a.getD i ZJ.zero
def opn:ByteArray:=⟨#[40]⟩
def Bs:ByteArray:=⟨#[41]⟩
def blk:ByteArray:=⟨#[32]⟩
abbrev Aq:=Nat×ByteArray
abbrev JB:=List Aq
def Ak:ET->JB
 |.nil=>[]
 |.node b _ t l a=>
  if b=6 then(6,opn)::(Ak l++[(7,Bs)])
  else if b=3 then(3,t)::Ak l
  else if b=5 then Ak l++[(5,t)]
  else if b=4 then Ak l++((4,t)::Ak a)
  else[(b,t)]
def wS(s:Aq):ZJ:=⟨s.2,decide (3<=s.1/\s.1<=5),decide (s.1=4)⟩
def yT(T:ET):List ZJ:=(Ak T).map wS
theorem PZ:∀{T:ET},Sh T->1<=Z (Ak T)
 |.nil,h=>h.elim
 |.node b o t l a,h=>by
  simp only[Ak];split
  .simp
  .split
   .simp
   .split
    .simp
    .split
     .simp;omega
     .simp
theorem oD:∀{T:ET},Sh T->∀s d,Ak T=s::d->s.1≠4/\s.1≠5/\s.1≠7\/s.1>6\/s.1=0:=by
 intro T;induction T with
 |nil=>intro h;exact h.elim
 |node b o t l d ihl ihr=>
  rintro⟨_,h⟩ s q g;have m:∀k:JB,Sh l->Ak l++k=s::q->s.1≠4/\s.1≠5/\s.1≠7\/s.1>6\/s.1=0:=λk i n=>by
   have j:=PZ i;cases e:Ak l with
   |nil=>rw[e]at j;simp at j
   |cons a c=>grind
  simp only[Ak]at g;split at g
  .grind
  .split at g
   .grind
   .split at g
    .rename_i h5;subst h5;rcases h with⟨f,_⟩|⟨_,i,_⟩|⟨f,_⟩
     .exact yV f Jd
     .grind
     .grind
    .split at g
     .rename_i h4;subst h4;rcases h with⟨f,_⟩|⟨f,_⟩|⟨_,i,_⟩
      .exact yV f Jd
      .grind
      .grind
     .grind
theorem Y8{T}(h:Sh T):1<=Z (yT T):=by grind [yT,PZ]
theorem rR{T}(h:Sh T):(A1 (yT T) 0).i=Vt:=by
 cases e:Ak T with
 |nil=>have:=PZ h;rw[e]at this;simp at this
 |cons s a=>grind [oD,yT,A1,wS]
def Ec(a b:ZJ):Bool:=b.i||a.i||(b.o&&a.o)
def BL(a:List ZJ):Nat->Jw
 |0=>[]
 |k+1=>BL a k++((if k≠0/\Ec (A1 a (k-1)) (A1 a k)=Vp then[32] else[])++(A1 a k).t.data.toList)
def kW(x:ZJ):Int:=if x.i then 3 else if x.o then 2 else 1
def Dl(a b:Int):Bool:=decide (a=3\/b=3\/(a=2/\b=2))
def AK(a:List ByteArray×Int)(x:ZJ):List ByteArray×Int:=(a.1++((if Dl a.2 (kW x) then[blk] else[])++[x.t]),kW x)
def FT(a:Jv):Jw:=(a.map (λs=>s.data.toList)).flatten
def iH(a b):FT (a++b)=FT a++FT b:=by simp[FT]
theorem rS(a b):Dl (kW a) (kW b)=Ec a b:=by grind [kW,Dl,Ec]
theorem rT(x)(h:x.i=Vt):Dl 0 (kW x)=Vt:=by grind [kW,Dl]
theorem mD(a k)(h:k<Z a):a.take (k+1)=a.take k++[A1 a k]:=by rw[jP h];grind [A1]
theorem UC(a)(b:(A1 a 0).i=Vt):∀k,k<=Z a->FT ((a.take k).foldl AK ([],0)).1=BL a k/\((a.take k).foldl AK ([],0)).2=(if k=0 then 0 else kW (A1 a (k-1)))
 |0,_=>by simp[FT,BL]
 |k+1,hk=>by
  obtain⟨d,e⟩:=UC a b k I;rw[mD a k I,List.foldl_append];simp only[List.foldl_cons,List.foldl_nil,AK,iH,d,e,BL];refine⟨?_,Js⟩;congr 1;by_cases h:k=0
  .subst h;simp[rT _ b,FT]
  .have hb:=rS (A1 a (k-1)) (A1 a k);simp only[yS h,h,ne_eq,not_false_eq_true,true_and];by_cases c:Ec (A1 a (k-1)) (A1 a k)=Vp
   .simp[c,hb,FT,blk]
   .simp[c,hb,FT]
def Ao(a:Jf)(s:Aq):Int:=AY a (rt s.1 s.2)
def sH(a:Jf)(s:Aq)(b:Bool):Int:=zl a (rt s.1 s.2) b
def CB(a:Jf)(s:Aq):Int:=AE (Al a (rt s.1 s.2)).k (Al a (rt s.1 s.2)).sd
def AC(a:Jf)(s:Aq):Bool:=(Ax a s.2 ((s.1:Int)-2)).isSome
structure cP(ns:Jf)(s:Aq):Prop where
 lo:1<=Ao ns s
 hi:Ao ns s<=1000
 pre:s.1=3->sH ns s Vt=Ao ns s/\CB ns s=2
 post:s.1=5->sH ns s Vt=Ao ns s/\CB ns s=1
 mid:s.1=4->(CB ns s=1/\sH ns s Vt=Ao ns s/\sH ns s Vp=Ao ns s+1)\/(CB ns s=2/\sH ns s Vt=Ao ns s+1/\sH ns s Vp=Ao ns s)\/(CB ns s=3/\sH ns s Vt=Ao ns s+1/\sH ns s Vp=Ao ns s+1)
theorem No(h:zM ns 0):Bg ns (Z ns)/\¬ Pr 4 ns:=by rcases h with⟨h,_⟩|⟨_,⟨h,_⟩|⟨H,⟨h,_⟩|⟨_,⟨h,_⟩|⟨_,a⟩⟩⟩⟩;all_goals grind
theorem LS{s}(a:AC ns s=Vp):∃j,j<Z ns/\Ax ns s.2 ((s.1:Int)-2)=E j/\(r ns j).k=(s.1:Int)-2/\Al ns (rt s.1 s.2)=r ns j:=by unfold AC at a;obtain⟨j,b⟩:=Option.isSome_iff_exists.1 a;have:=ED b;grind [Al,rt]
theorem Bq(h:zM ns 0){s}(m:s.1=3\/s.1=4\/s.1=5)(d:AC ns s=Vp):cP ns s:=by
 obtain⟨j,c,a,X,l⟩:=LS d;have q:=(No h).1 j c;have x:Ao ns s=(r ns j).l:=by grind [Ao,AY,rt]
 have k:∀b,sH ns s b=Zn (r ns j).s (r ns j).k (r ns j).l (r ns j).sd b:=λb=>by unfold sH zl rt;simp only;rw[a];rfl
 have Q:CB ns s=AE (r ns j).k (r ns j).sd:=by grind [CB]
 have K:Bv (r ns j).s (r ns j).k (r ns j).l (r ns j).sd=Vp:=q;have H:=K;unfold Bv Iv at H;simp only[jB,Bool.or_eq_true,jM,beq_iff_eq]at H;obtain⟨⟨⟨_,f⟩,g⟩,i⟩:=H;refine⟨I,I,λe=>?_,λe=>?_,λe=>?_⟩;all_goals grind [r,Zn,AE,J1]
theorem RP(h:zM ns 0){s c}(n:s.1=3\/s.1=4\/s.1=5)(X:c.1=3\/c.1=4\/c.1=5)(i:AC ns s=Vp)(q:AC ns c=Vp)(l:Ao ns s=Ao ns c):CB ns s=CB ns c:=by
 obtain⟨j,g,m,b,k⟩:=LS i;obtain⟨d,K,a,Q,H⟩:=LS q;have y:Ao ns s=(r ns j).l:=by grind [Ao,AY,rt]
 have x:Ao ns c=(r ns d).l:=by grind [Ao,AY,rt]
 unfold CB;rw[k,H];by_cases f:AE (r ns j).k (r ns j).sd=AE (r ns d).k (r ns d).sd
 .exact f
 .exfalso;apply(No h).2;rcases Nat.lt_trichotomy j d with e|e|e
  .exact⟨d,j,e,K,by grind [cl]⟩
  .grind
  .exact⟨j,d,e,g,by grind [cl]⟩
def Ay(a:Jf):ET->Int
 |.nil=>1001
 |.node b _ t _ _=>Ao a (b,t)
def ZF(c:Jf):ET->Prop
 |.nil=>False
 |.node b o t l a=>o=0/\(((b=1\/b=2)/\l=.nil/\a=.nil) \/
   (b=6/\t=j6/\ZF c l/\a=.nil) \/
   ((b=3\/b=5)/\AC c (b,t)=Vp/\ZF c l/\a=.nil/\sH c (b,t) Vt<=Ay c l) \/
   (b=4/\AC c (b,t)=Vp/\ZF c l/\ZF c a/\sH c (b,t) Vt<=Ay c l/\sH c (b,t) Vp<=Ay c a))
theorem Ih(a b t)(h:¬ (b=3\/b=4\/b=5)):Ao a (b,t)=1001:=by grind [Ao,AY,rt]
theorem ZF.sh{e}:∀{T:ET},ZF e T->Sh T
 |.nil,h=>h.elim
 |.node b o t l a,⟨h0,h⟩=>by
  refine⟨h0,?_⟩;rcases h with⟨h|h,rfl,rfl⟩|⟨rfl,_,c,rfl⟩|⟨h|h,_,c,rfl,_⟩|⟨rfl,_,c,d,_⟩
  .subst h;exact yW ⟨Jd,F,F⟩
  .subst h;exact yW ⟨Jd,F,F⟩
  .exact yX (yW ⟨Jd,c.sh,F⟩)
  .subst h;exact yX (yW ⟨Jd,c.sh,F⟩)
  .subst h;exact yX (yW ⟨Jd,c.sh,F⟩)
  .exact yX (yX ⟨Jd,c.sh,d.sh⟩)
def rd(b:Jf):Nat->Int->Option ET->JB->Option (ET×JB)
 |0,_,_,_=>JL
 |_+1,_,JL,[]=>JL
 |n+1,least,JL,s::a=>
  if s.1=3 then(if Ao b s<least then JL else(match rd b n (sH b s Vt) JL a with
   |none=>JL
   |some x=>rd b n least (E (.node 3 0 s.2 x.1 .nil)) x.2))
  else if s.1=6 then(match rd b n 0 JL a with
   |none=>JL
   |some x=>rd b n least (E (.node 6 0 j6 x.1 .nil)) x.2.tail)
  else rd b n least (E (.node s.1 0 s.2 .nil .nil)) a
 |_+1,_,E T,[]=>E (T,[])
 |n+1,least,E T,s::a=>
  if s.1=4/\least<=Ao b s then(if Ay b T<sH b s Vt then JL else(match rd b n (sH b s Vp) JL a with
   |none=>JL
   |some x=>rd b n least (E (.node 4 0 s.2 T x.1)) x.2))
  else if s.1=5/\least<=Ao b s then(if Ay b T<sH b s Vt then JL else rd b n least (E (.node 5 0 s.2 T .nil)) a)
  else E (T,s::a)
theorem En(c):∀n b g f x,rd c n b g f=E x->Z x.2<=Z f
 |0,_,_,_,_,h=>by simp[rd]at h
 |n+1,b,JL,[],x,h=>by simp[rd]at h
 |n+1,b,JL,s::a,x,h=>by
  simp only[rd]at h;split at h
  .split at h
   .cases h
   .split at h
    .cases h
    .rename_i y hy;have e:=En c n _ _ _ _ hy;have d:=En c n _ _ _ _ h;simp only[yB];omega
  .split at h
   .split at h
    .cases h
    .rename_i y hy;have e:=En c n _ _ _ _ hy;have d:=En c n _ _ _ _ h;have i:Z y.2.tail<=Z y.2:=Js;simp only[yB];omega
   .have d:=En c n _ _ _ _ h;simp only[yB];omega
 |n+1,b,E T,[],x,h=>by simp only[rd,jw]at h;subst h;simp
 |n+1,b,E T,s::a,x,h=>by
  simp only[rd]at h;split at h
  .split at h
   .cases h
   .split at h
    .cases h
    .rename_i y hy;have e:=En c n _ _ _ _ hy;have d:=En c n _ _ _ _ h;simp only[yB];omega
  .split at h
   .split at h
    .cases h
    .have d:=En c n _ _ _ _ h;simp only[yB];omega
   .simp only[jw]at h;subst h;simp
theorem NQ(c):∀n m b e f,Z f<n->Z f<m->rd c n b e f=rd c m b e f
 |0,_,_,_,_,h,_=>yV h (yz _)
 |_+1,0,_,_,_,_,h=>yV h (yz _)
 |n+1,m+1,b,JL,[],_,_=>by simp[rd]
 |n+1,m+1,b,E T,[],_,_=>by simp[rd]
 |n+1,m+1,b,JL,s::a,h,h'=>by
  simp only[yB]at h h';have g:=λl=>NQ c n m l JL a I I
  have d:=λl e q=>λ(i:Z q<=Z a)=>NQ c n m l e q I I
  simp only[rd,g];split
  .split
   .rfl
   .cases hy:rd c m (sH c s Vt) JL a with
    |none=>rfl
    |some y=>exact d _ _ _ (En c m _ _ _ _ hy)
  .split
   .cases hy:rd c m 0 JL a with
    |none=>rfl
    |some y=>exact d _ _ _ (by have:=En c m _ _ _ _ hy;simp;omega)
   .exact d _ _ _ yk
 |n+1,m+1,b,E T,s::a,h,h'=>by
  simp only[yB]at h h';have g:=λl=>NQ c n m l JL a I I
  have d:=λl e q=>λ(i:Z q<=Z a)=>NQ c n m l e q I I
  simp only[rd,g];split
  .split
   .rfl
   .cases hy:rd c m (sH c s Vp) JL a with
    |none=>rfl
    |some y=>exact d _ _ _ (En c m _ _ _ _ hy)
  .split
   .split
    .rfl
    .exact d _ _ _ yk
   .rfl
def RD(c:Jf)(h:Int)(b:Option ET)(a:JB):Option (ET×JB):=rd c (Z a+1) h b a
def bU(a n H c b)(h:Z b<n):rd a n H c b=RD a H c b:=
 NQ a _ _ _ _ _ h (Nat.lt_succ_self _)
theorem P0(b h s a):RD b h JL (s::a) =
  if s.1=3 then(if Ao b s<h then JL else(match RD b (sH b s Vt) JL a with
   |none=>JL
   |some x=>RD b h (E (.node 3 0 s.2 x.1 .nil)) x.2))
  else if s.1=6 then(match RD b 0 JL a with
   |none=>JL
   |some x=>RD b h (E (.node 6 0 j6 x.1 .nil)) x.2.tail)
  else RD b h (E (.node s.1 0 s.2 .nil .nil)) a:=by
 have e:RD b h JL (s::a)=rd b (Z a+1+1) h JL (s::a):=F;have f:∀l,rd b (Z a+1) l JL a=RD b l JL a:=λl=>F
 have d:∀l c q,Z q<=Z a->rd b (Z a+1) l c q=RD b l c q:=λl c q g=>bU b _ l c q I
 rw[e];simp only[rd,f];split
 .split
  .rfl
  .cases hy:RD b (sH b s Vt) JL a with
   |none=>rfl
   |some y=>exact d _ _ _ (En b _ _ _ _ _ hy)
 .split
  .cases hy:RD b 0 JL a with
   |none=>rfl
   |some y=>exact d _ _ _ (by have:=En b _ _ _ _ _ hy;simp;omega)
  .rfl
theorem P1(b h T s a):RD b h (E T) (s::a) =
  if s.1=4/\h<=Ao b s then(if Ay b T<sH b s Vt then JL else(match RD b (sH b s Vp) JL a with
   |none=>JL
   |some x=>RD b h (E (.node 4 0 s.2 T x.1)) x.2))
  else if s.1=5/\h<=Ao b s then(if Ay b T<sH b s Vt then JL else RD b h (E (.node 5 0 s.2 T .nil)) a)
  else E (T,s::a):=by
 have e:RD b h (E T) (s::a)=rd b (Z a+1+1) h (E T) (s::a):=F;have d:∀l,rd b (Z a+1) l JL a=RD b l JL a:=λl=>F
 have f:∀l c q,Z q<=Z a->rd b (Z a+1) l c q=RD b l c q:=λl c q g=>bU b _ l c q I
 rw[e];simp only[rd,d];split
 .split
  .rfl
  .cases hy:RD b (sH b s Vp) JL a with
   |none=>rfl
   |some y=>exact f _ _ _ (En b _ _ _ _ _ hy)
 .grind
def JV(b h c):=∀s a,c=s::a->(s.1=4\/s.1=5)->Ao b s<h
theorem P2{H b}(h:JV ns H b)(T):RD ns H (E T) b=E (T,b):=by
 cases b with
 |nil=>rfl
 |cons s a=>have c:=h s a F;grind [P1]
def MS(c:Jf):ET->JB->Prop
 |.nil,_=>True
 |.node b _ t l a,ss=>(b=3->JV c (sH c (b,t) Vt) ss/\MS c l ss)/\(b=4->JV c (sH c (b,t) Vp) ss/\MS c a ss)
theorem Pb{H s a}(h:¬ (s.1=4\/s.1=5)):JV ns H (s::a):=λg f e c=>by injection e with b d;subst b;exact yV c h
theorem O2{c s a}(h:¬ (s.1=4\/s.1=5)):∀T:ET,MS c T (s::a)
 |.nil=>trivial
 |.node b o t l q=>⟨λ_=>⟨Pb h,O2 h l⟩,λ_=>⟨Pb h,O2 h q⟩⟩
theorem UD(d:zM ns 0){q a}:∀T:ET,ZF ns T->Ao ns q<Ay ns T->MS ns T (q::a):=by
 intro T;induction T with
 |nil=>intro h;exact h.elim
 |node b o t l rr ihl ihr=>
  rintro⟨_,h⟩ p;have st:∀m:Int,Ao ns q<m->JV ns m (q::a):=λm n v u e _=>by grind
  refine⟨λe=>?_,λe=>?_⟩
  .subst e;rcases h with⟨h|h,_⟩|⟨h,_⟩|⟨_,c,g,_,k⟩|⟨h,_⟩
   .omega
   .omega
   .omega
   .have f:=(Bq d (yW F) c).pre F;grind [Ay]
   .omega
  .subst e;rcases h with⟨h|h,_⟩|⟨h,_⟩|⟨h|h,_⟩|⟨_,c,g,s,i,j⟩
   .omega
   .omega
   .omega
   .omega
   .omega
   .have f:=(Bq d (yX (yW F)) c).mid F;grind [Ay]
theorem VC(c:zM ns 0){q a}(k:q.1=4\/q.1=5)(K:AC ns q=Vp):∀T:ET,ZF ns T->sH ns q Vt<=Ay ns T->MS ns T (q::a):=by
 intro T hT x;have g:=Bq c I K;have i:sH ns q Vt=Ao ns q+1\/(sH ns q Vt=Ao ns q/\CB ns q=1):=by
  rcases k with e|e
  .rcases g.mid e with h|h|h;all_goals grind
  .exact yX (g.post e)
 by_cases Q:Ao ns q<Ay ns T
 .exact UD c T hT Q
 .have H:Ay ns T=Ao ns q/\CB ns q=1:=by grind
  cases T with
  |nil=>exact hT.elim
  |node b o t l rr=>
   obtain⟨_,h⟩:=hT;simp only[Ay]at H;have st:∀m:Int,Ao ns q<m->JV ns m (q::a):=λm s w v e _=>by grind
   refine⟨λe=>?_,λe=>?_⟩
   .subst e;rcases h with⟨h|h,_⟩|⟨h,_⟩|⟨_,d,j,_,i⟩|⟨h,_⟩
    .omega
    .omega
    .omega
    .have f:=(Bq c (yW F) d).pre F;grind [RP]
    .omega
   .subst e;rcases h with⟨h|h,_⟩|⟨h,_⟩|⟨h|h,_⟩|⟨_,d,j,u,n,p⟩
    .omega
    .omega
    .omega
    .omega
    .omega
    .have f:=(Bq c (yX (yW F)) d).mid F;grind [RP,sH,Ao,UD]
theorem rU(j:zM ns 0):∀(T:ET),ZF ns T->∀(H:Int)(c:JB),H<=Ay ns T->MS ns T c->RD ns H JL (Ak T++c)=RD ns H (E T) c:=by
 intro T;induction T with
 |nil=>intro h;exact h.elim
 |node b o t l a ihl ihr=>
  rintro⟨rfl,h⟩ H c Q g;simp only[Ay]at Q;rcases h with⟨y,rfl,rfl⟩|⟨rfl,rfl,i,rfl⟩|⟨X,d,i,rfl,u⟩|⟨rfl,d,i,v,n,p⟩
  .grind [Ak,RD,P0]
  .have e:Ak (.node 6 0 j6 l .nil)++c=(6,opn)::(Ak l++((7,Bs)::c)):=by simp[Ak]
   rw[e,P0];simp only;rw[yS Jd,yU trivial];have w:¬ ((7,Bs):Aq).1=4/\¬ ((7,Bs):Aq).1=5:=⟨Jd,Jd⟩;have m:(0:Int)<=Ay ns l:=by
    cases l with
    |nil=>exact i.elim
    |node bb oo tt ll rr=>
     simp only[Ay];by_cases k:bb=3\/bb=4\/bb=5
     .have x:AC ns (bb,tt)=Vp:=by rcases i.2 with⟨h|h,_⟩|⟨h,_⟩|⟨_,d,_⟩|⟨_,d,_⟩;all_goals grind
      have:=(Bq j (s:=(bb,tt)) k x).lo;omega
     .grind [Ih]
   grind [O2,P2,Pb]
  .rcases X with rfl|rfl
   .have f:=(Bq j (yW F) d).pre F;have e:Ak (.node 3 0 t l .nil)++c=(3,t)::(Ak l++c):=by simp[Ak]
    obtain⟨K,q⟩:=g.1 F;grind [P0,P2]
   .have f:=(Bq j (yX (yX F)) d).post F;grind [Ak,VC,P1]
  .have f:=(Bq j (yX (yW F)) d).mid F;have e:Ak (.node 4 0 t l a)++c=Ak l++((4,t)::(Ak a++c)):=by simp[Ak]
   obtain⟨K,q⟩:=g.2 F;grind [VC,P1,P2]
def QA(s:Aq):Bool:=decide (s.1=6/\s.2.data=opn.data)
def OE(s:Aq):Bool:=decide (s.1=7/\s.2.data=Bs.data)
theorem bV{a b:JZ}(h:a.data=b.data):a=b:=by cases a;cases b;simp_all
theorem wB{s}(h:QA s=Vp):s=(6,opn):=by grind [QA,bV]
theorem wC{s}(h:OE s=Vp):s=(7,Bs):=by grind [OE,bV]
def Bd(b:Jf)(a:Bool×Nat)(s:Aq):Option (Bool×Nat):=
 if a.1=Vt then
  (if s.1=1\/s.1=2 then E (Vp,a.2) else if s.1=3/\AC b s=Vp then E (Vt,a.2) else if QA s=Vp then E (Vt,a.2+1) else JL)
 else
  (if s.1=4/\AC b s=Vp then E (Vt,a.2) else if s.1=5/\AC b s=Vp then E (Vp,a.2) else if OE s=Vp/\0<a.2 then E (Vp,a.2-1) else JL)
def AR(b:Jf):Bool×Nat->JB->Option (Bool×Nat)
 |st,[]=>E st
 |st,s::a=>(match Bd b st s with
  |none=>JL
  |some st'=>AR b st' a)
theorem Np(d):∀(a b:JB)(st:Bool×Nat),AR d st (a++b)=(match AR d st a with
  |none=>JL
  |some st'=>AR d st' b)
 |[],b,st=>rfl
 |s::c,b,st=>by
  simp only[List.cons_append,AR];cases Bd d st s with
  |none=>rfl
  |some st'=>exact Np d c b st'
theorem MB{s}(h:Bd ns (Vt,d) s=E st):((s.1=1\/s.1=2)/\st=(Vp,d))\/(s.1=3/\AC ns s=Vp/\st=(Vt,d))\/(s=(6,opn)/\st=(Vt,d+1)):=by grind [Bd,wB]
theorem MG{s}(h:Bd ns (Vp,d) s=E st):(s.1=4/\AC ns s=Vp/\st=(Vt,d))\/(s.1=5/\AC ns s=Vp/\st=(Vp,d))\/(s=(7,Bs)/\0<d/\st=(Vp,d-1)):=by grind [Bd,wC]
theorem SM{s}(h:s.1=1\/s.1=2):Bd ns (Vt,d) s=E (Vp,d):=by grind [Bd]
theorem Tj{s}(h:s.1=3)(a:AC ns s=Vp):Bd ns (Vt,d) s=E (Vt,d):=by grind [Bd]
theorem SN:Bd ns (Vt,d) (6,opn)=E (Vt,d+1):=by grind [Bd,QA]
theorem Tk{s}(h:s.1=4)(a:AC ns s=Vp):Bd ns (Vp,d) s=E (Vt,d):=by grind [Bd]
theorem SO{s}(h:s.1=5)(a:AC ns s=Vp):Bd ns (Vp,d) s=E (Vp,d):=by grind [Bd]
theorem Sk:Bd ns (Vp,d+1) (7,Bs)=E (Vp,d):=by grind [Bd,OE]
def BH:Aq:=(8,j6)
def AW(a c b):=∃q,b=q++[BH]/\AR a c q=E (Vp,0)
def Lx(h:AW ns st []):False:=by obtain⟨q,h,_⟩:=h;simp at h
theorem VD{s b}(h:AW ns st (s::b)):(s=BH/\b=[]/\st=(Vp,0))\/∃c,Bd ns st s=E c/\AW ns c b:=by
 obtain⟨q,h,d⟩:=h;cases q with
 |nil=>grind [AR]
 |cons a q=>
  rw[List.cons_append]at h;injection h with f g;subst f;simp only[AR]at d;cases e:Bd ns st s with
  |none=>rw[e]at d;cases d
  |some c=>rw[e]at d;exact yX ⟨c,F,q,g,d⟩
theorem Ns{s a}(h:AW ns (Vt,d) (s::a)):((s.1=1\/s.1=2)/\AW ns (Vp,d) a)\/(s.1=3/\AC ns s=Vp/\AW ns (Vt,d) a)\/(s=(6,opn)/\AW ns (Vt,d+1) a):=by grind [VD,MB]
theorem I4{s a}(h:AW ns (Vp,d) (s::a)):(s=BH/\a=[]/\d=0)\/(s.1=4/\AC ns s=Vp/\AW ns (Vt,d) a)\/(s.1=5/\AC ns s=Vp/\AW ns (Vp,d) a)\/(s=(7,Bs)/\0<d/\AW ns (Vp,d-1) a):=by rcases VD h with⟨b,c,f⟩|⟨e,b,c⟩;all_goals grind [MG]
def yM:Option ET->JB
 |none=>[]
 |some T=>Ak T
theorem DF{g}(l:zM g 0):∀(n:Nat)(H:Int)(M:Option ET)(P:JB)(d:Nat)(x:ET×JB),H<=1001->AW g (M.isSome,d) P->(∀L,M=E L->ZF g L/\H<=Ay g L)->rd g n H M P=E x ->
  AW g (Vp,d) x.2/\ZF g x.1/\H<=Ay g x.1/\JV g H x.2/\yM M++P=Ak x.1++x.2
 |0,_,_,_,_,_,_,_,_,h=>by simp[rd]at h
 |n+1,H,JL,[],d,x,_,hf,_,h=>(Lx hf).elim
 |n+1,H,E T,[],d,x,_,hf,_,h=>(Lx hf).elim
 |n+1,H,JL,s::c,d,x,hl,hf,hm,h=>by
  simp only[rd]at h;rcases Ns hf with⟨t,K⟩|⟨t,u,K⟩|⟨t,K⟩
  .rw[yS I,yS I]at h;have Q:Ay g (.node s.1 0 s.2 .nil .nil)=1001:=Ih g _ _ I;have:=DF l n H (E (.node s.1 0 s.2 .nil .nil)) c d x hl K (λL e=>by
    injection e with e;subst e
    exact⟨⟨F,yW ⟨t,F,F⟩⟩,I⟩) h
   refine⟨this.1,this.2.1,this.2.2.1,this.2.2.2.1,?_⟩;rw[<-this.2.2.2.2];simp only[yM,Ak];rw[yS I,yS I,yS I,yS I];rfl
  .rw[yU t]at h;have f:=(Bq l (s:=s) (yW t) u);have fp:=f.pre t;have fh:=f.hi;split at h
   .cases h
   .rename_i j;split at h
    .cases h
    .rename_i y hy;obtain⟨v,w,A,B,p⟩:=DF l n _ JL c d y I K (λL e=>by cases e) hy;have i:((3,s.2):Aq)=s:=Prod.ext t.symm F;have Q:Ay g (.node 3 0 s.2 y.1 .nil)=Ao g s:=by simp only[Ay,i]
     have:=DF l n H (E (.node 3 0 s.2 y.1 .nil)) y.2 d x hl v (λL e=>by
      injection e with e;subst e
      exact⟨⟨F,yX (yX (yW ⟨yW F,by rw[i];exact u,w,F,by rw[i];exact A⟩))⟩,I⟩) h
     refine⟨this.1,this.2.1,this.2.2.1,this.2.2.2.1,?_⟩;rw[<-this.2.2.2.2];simp only[yM,jF]at p ⊢;rw[p];simp[Ak,i]
  .subst t;simp only at h;rw[yS Jd,yU trivial]at h;split at h
   .cases h
   .rename_i y hy;obtain⟨v,w,A,B,p⟩:=DF l n 0 JL c (d+1) y I K (λL e=>by cases e) hy;obtain⟨T,q⟩:=y;simp only at v w A B p h;cases q with
    |nil=>exact(Lx v).elim
    |cons z q=>
     have hz:z=(7,Bs)/\AW g (Vp,d) q:=by
      rcases I4 v with⟨_,_,h0⟩|⟨R,X,_⟩|⟨U,X,_⟩|⟨h7,_,h8⟩
      .omega
      .have:=B z q F (yW R);have:=(Bq l (s:=z) (yX (yW R)) X).lo;omega
      .have:=B z q F (yX U);have:=(Bq l (s:=z) (yX (yX U)) X).lo;omega
      .exact⟨h7,h8⟩
     obtain⟨rfl,hq⟩:=hz;simp only[List.tail_cons]at h;have Q:Ay g (.node 6 0 j6 T .nil)=1001:=Ih g _ _ I;have:=DF l n H (E (.node 6 0 j6 T .nil)) q d x hl hq (λL e=>by
      injection e with e;subst e
      exact⟨⟨F,yX (yW ⟨F,F,w,F⟩)⟩,I⟩) h
     refine⟨this.1,this.2.1,this.2.2.1,this.2.2.2.1,?_⟩;rw[<-this.2.2.2.2];simp only[yM,jF]at p ⊢;rw[p];simp[Ak]
 |n+1,H,E T,s::c,d,x,hl,hf,hm,h=>by
  obtain⟨hT,a⟩:=hm T F;simp only[rd]at h;have C:(¬ (s.1=4/\H<=Ao g s))->(¬ (s.1=5/\H<=Ao g s))->AW g (Vp,d) x.2/\ZF g x.1/\H<=Ay g x.1/\JV g H x.2/\yM (E T)++s::c=Ak x.1++x.2:=λm o=>by rw[yS m,yS o]at h;injection h with h;subst h;refine⟨hf,hT,a,λs' r' e t=>?_,F⟩;injection e with V e2;subst V;omega
  by_cases m:s.1=4/\H<=Ao g s
  .rw[yU m]at h;have b:AC g s=Vp/\AW g (Vt,d) c:=by
    rcases I4 hf with⟨k,_⟩|⟨_,k,N⟩|⟨k,_⟩|⟨k,_⟩
    .rw[k]at m;exact yV m.1 Jd
    .exact⟨k,N⟩
    .omega
    .rw[k]at m;exact yV m.1 Jd
   obtain⟨u,K⟩:=b;have f:=(Bq l (s:=s) (yX (yW m.1)) u);have fp:=f.mid m.1;have fh:=f.hi;split at h
   .cases h
   .rename_i j;split at h
    .cases h
    .rename_i y hy;obtain⟨v,w,A,B,p⟩:=DF l n _ JL c d y I K (λL e=>by cases e) hy;have i:((4,s.2):Aq)=s:=Prod.ext m.1.symm F;have Q:Ay g (.node 4 0 s.2 T y.1)=Ao g s:=by simp only[Ay,i]
     have:=DF l n H (E (.node 4 0 s.2 T y.1)) y.2 d x hl v (λL e=>by
      injection e with e;subst e
      exact⟨⟨F,yX (yX (yX ⟨F,by rw[i];exact u,hT,w,by rw[i];omega,by rw[i];exact A⟩))⟩,I⟩) h
     refine⟨this.1,this.2.1,this.2.2.1,this.2.2.2.1,?_⟩;rw[<-this.2.2.2.2];simp only[yM,jF]at p ⊢;rw[p];simp[Ak,i]
  .by_cases o:s.1=5/\H<=Ao g s
   .rw[yS m,yU o]at h;have b:AC g s=Vp/\AW g (Vp,d) c:=by
     rcases I4 hf with⟨k,_⟩|⟨k,_⟩|⟨_,k,N⟩|⟨k,_⟩
     .rw[k]at o;exact yV o.1 Jd
     .omega
     .exact⟨k,N⟩
     .rw[k]at o;exact yV o.1 Jd
    obtain⟨u,K⟩:=b;have f:=(Bq l (s:=s) (yX (yX o.1)) u);split at h
    .cases h
    .rename_i j;have i:((5,s.2):Aq)=s:=Prod.ext o.1.symm F;have Q:Ay g (.node 5 0 s.2 T .nil)=Ao g s:=by simp only[Ay,i]
     have:=DF l n H (E (.node 5 0 s.2 T .nil)) c d x hl K (λL e=>by
      injection e with e;subst e
      exact⟨⟨F,yX (yX (yW ⟨yX F,by rw[i];exact u,hT,F,by rw[i];omega⟩))⟩,I⟩) h
     refine⟨this.1,this.2.1,this.2.2.1,this.2.2.2.1,?_⟩;rw[<-this.2.2.2.2];simp[yM,Ak,i]
   .exact C m o
def Y9(c:zM ns 0){a}(k:AR ns (Vt,0) a=E (Vp,0))(T):(ZF ns T/\Ak T=a)↔RD ns 0 JL (a++[BH])=E (T,[BH]):=by
 constructor
 .rintro⟨hT,rfl⟩;have j:(0:Int)<=Ay ns T:=by
   cases T with
   |nil=>exact hT.elim
   |node bb oo tt ll rr=>
    simp only[Ay];by_cases f:bb=3\/bb=4\/bb=5
    .have H:AC ns (bb,tt)=Vp:=by
      rcases hT.2 with⟨h|h,_⟩|⟨h,_⟩|⟨_,b,_⟩|⟨_,b,_⟩
      .omega
      .omega
      .omega
      .exact b
      .exact b
     have:=(Bq c (s:=(bb,tt)) f H).lo;omega
    .rw[Ih ns bb tt f];omega
  have g:¬ (BH.1=4\/BH.1=5):=Jd;rw[rU c T hT 0 [BH] j (O2 g T),P2 (Pb g)]
 .intro h;obtain⟨_,i,_,_,d⟩:=DF c _ 0 JL (a++[BH]) 0 (T,[BH]) I ⟨a,F,k⟩ (λL e=>by cases e) h;refine⟨i,?_⟩;simp only[yM,jF]at d;exact(List.append_cancel_right d).symm
def zad(d:zM ns 0){a}(k:AR ns (Vt,0) a=E (Vp,0)){x}(h:RD ns 0 JL (a++[BH])=E x):x.2=[BH]:=by
 obtain⟨b,_,_,c,_⟩:=DF d _ 0 JL (a++[BH]) 0 x I ⟨a,F,k⟩ (λL e=>by cases e) h;obtain⟨T,q⟩:=x;simp only at b c ⊢;cases q with
 |nil=>exact(Lx b).elim
 |cons z q=>
  rcases I4 b with⟨i,j,_⟩|⟨f,H,_⟩|⟨g,H,_⟩|⟨_,l,_⟩
  .rw[i,j]
  .have:=c z q F (yW f);have:=(Bq d (s:=z) (yX (yW f)) H).lo;omega
  .have:=c z q F (yX g);have:=(Bq d (s:=z) (yX (yX g)) H).lo;omega
  .omega
def zE.grownRow{d row}(h:zE w w1 g)(b:w1.grownBy d row)(f:∀k,row=E k->k=g\/O w.1<=k):zE w d g:=
 ⟨b.os.trans h.os,b.tape.trans h.tape,b.output.trans h.output,yy h.size b.size,λi c a=>(b.block i (ym c h.size) (λe=>by rcases f i e.symm with h|h;exact a h;omega)).trans (h.block i c a)⟩
def zE.setRow(h:zE w w1 g)(b o v)(c:b=g\/O w.1<=b):zE w (w1.setCell (J b o) v) g:=
 h.grownRow (row:=E b) ⟨F,F,F,Jt,λi _ d=>jh _ _ _ _ (λe=>d (by rw[e]))⟩ (λk a=>by injection a with a;subst a;exact c)
def NH{e a n c}(h:w.ownsRow B e a v n c)(b o u)(d:v.ownBlock≠E b):(w.setCell (J b o) u).ownsRow B e a v n c:=
 h.kept (row:=E b) ⟨F,F,F,Jt,λi _ f=>jh _ _ _ _ (λe=>f (by rw[e]))⟩ (yX d)
def AS(w:JY)(B g c)(a:Jj):=w.ownsRow B 108 4 (Ql g (Z a) c) (Z a) (zO a)
def AS.kept{w w' B g c g' a}(h:AS w B g c a)(b:zE w w' g')(H:g'≠g):AS w' B g c a:=
 jD h (za b) (yX (by simp[i8];omega))
def AS.y{c}(h:AS w B g c us)(a:Qb w w'):AS w' B g c us:=
 jD h (zH a JL) (yX Jb)
def AS.set{c}(h:AS w B g c us)(b o u)(a:b≠g):AS (w.setCell (J b o) u) B g c us:=
 NH h b o u (by simp[i8];omega)
def AS.lt{w B g c a}(h:AS w B g c a):B<=g/\g<O w.1:=ji h g F
def AS.snoc(h:w.ownsRow B 108 4 v (Z us+1) (zO us++zO [o]))(b:v ≠ Jl)(e:vs=us++[o]):∃g c,v = Ql g (Z vs) c/\AS w B g c vs:=by subst e;obtain⟨g,c,rfl⟩:=gX h b;have a:Z us+1=Z (us++[o]):=Js;rw[<-Zp,a]at h;exact⟨g,c,by rw[a],h⟩
def GH(w:JY)(n o)(a:O w.1=n):∀j u,(zO [o])[j]?=E u->(w.alloc (JM #[G o.k,W o.t,G o.a,G o.b] 108)).cell? ((J n 0).add j)=E u:=by subst a;exact Zh w o
theorem Uc(b a cap xs)(hm:Z xs<=20000):∀(n i f B g c:Nat)(us vs:Jj)(w:JY),i<n->i<Z xs->Hid (AU xs i=E f)->Hid (us=er xs f)->Hid (vs=er xs (i+1))->Z2 w b a xs->b<B->B<=O w.1->AS w B g c us ->
  Calls Vb 86 #[Je b a (Z xs) cap,G i,Ql g (Z us) c] w λe w'=>(∃g' c',e=i9 (Ql g' (Z vs) c')/\Hid (AS w' B g' c' vs)/\(g'=g\/O w.1<=g'))/\Hid (zE w w' g)
 |0,_,_,_,_,_,_,_,_,h,_,_,_,_,_,_,_,_=>yV h (yz _)
 |n+1,i,f,B,g,c,us,vs,w,hin,hi,hf,hus,hvs,hw,hb,hB,hrow=>by
  obtain⟨h0,h1,h2,h3⟩:=hw i hi;have IH:=S (Uc b a cap xs hm n);have HW:=S hw;have HR:=S hrow;have hg:=hrow.lt;have hu:(i:Int)<Z xs:=I;have hc:Z us<=20000:=by have a1:=GQ xs f;have a2:=Ct hf;rw[D hus,D5];omega
  rcases Ge hf with⟨hk,ha,C,hv⟩|⟨hk,s,ha,C,A⟩|⟨hk,s,C,f2,hl,hh,ha,A⟩
  .have HK:=S hk;have h6:((Y xs i).k==6)=Vt:=by rw[jc];intro e;rw[e]at hk;simp[zY]at hk
   have HV:=S (show vs=us++[⟨(Y xs i).k,(Y xs i).t,0,0⟩] by
    rw[D hvs,D hus,hv,Lw (Ju h6)]
    simp[BS,hk])
   go_enter func86,ntmps86;go_wp2_with (first|(go_at_call 103;refine(zV HK 0 F _).mono ?_;rintro e w' ⟨rfl,rfl⟩)|(at_builtin;refine As BB underlying38 (.tmp 52) (.tmp 54) F rfl B _ (Z us) (zO us) F (((HR.y zC).y zC).y zC) (J (O w.1+1+1) 0) 1 1 (zO [⟨(Y xs i).k,(Y xs i).t,0,0⟩]) F rfl (Ju (Zh ((w.alloc _).alloc _) ⟨(Y xs i).k,(Y xs i).t,0,0⟩)) (zf _) Jm I Jq ?_));intro v4 w4 Q K x y;obtain⟨g4,c4,rfl,hp⟩:=AS.snoc Q (by simp[x]) HV;have u:=S hp;have V:=S (((zE.Q (g:=g) (((zC).alloc Js _).alloc Jq _))).grownRow K (λk hk=>by simp[i8]at hk;omega));have P:g4=g\/O w.1<=g4:=by simp[i8]at y;omega
   go_wp2;go_ret;exact⟨⟨g4,c4,F,u,P⟩,V⟩
  .have HK:=S hk;have ei:(i:Int)-1=((i-1:Nat):Int):=I;rw[ha,ei]at h2;have U:i-1+1=i:=I;by_cases h6:(Y xs i).k=6
   .have v:=S (by rw[D hvs,Py h6,U]:vs=er xs (i-1+1));rw[h6]at h0;go_enter func86,ntmps86;go_wp2_with fail;go_call IH (i-1) f B g c us vs _ I I (S A) hus v (HW.y zC I) hb Jq (HR.y zC) as e w1 ⟨⟨g1,c1,rfl,hr1,hg1⟩,hk1⟩;have m:=S ((zE.Q (g:=g) zC).trans hk1);have p:g1=g\/O w.1<=g1:=by simp at hg1;omega
    go_wp2;go_ret;exact⟨⟨g1,c1,F,hr1,p⟩,m⟩
   .have hq:((Y xs i).k==6)=Vt:=Ju h6
    obtain⟨H,X⟩:∃H,Hid (H=er xs (i-1+1)):=⟨_,S F⟩;have N:Z H<=20000:=by have:=GQ xs (i-1+1);rw[D X,D5];omega
    obtain⟨nd,ht⟩:∃nd:zD,Hid (nd=⟨(Y xs i).k,(Y xs i).t,(Z H:Int)-1,0⟩):=⟨_,S F⟩;have v:=S (show vs=H++[nd] by
     rw[D hvs,Lw h6,D ht,D X,D5,U]
     congr 2
     unfold BS Fp
     rw[hk,ha]
     have:((i:Int)-1).toNat+1=i:=I
     rw[this]
     simp)
    go_enter func86,ntmps86;go_wp2_with (go_at_call 103;refine(zV HK 1 F _).mono ?_;rintro e w' ⟨rfl,rfl⟩);go_call IH (i-1) f B g c us H _ I I (S A) hus X (HW.y ((zC).alloc Js _) I) hb Jq ((HR.y zC).y zC) as e w1 ⟨⟨g1,c1,rfl,hr1,hg1⟩,hk1⟩;have hn:=hr1.lt;have z:O w.1+2<=O w1.1:=Jz hk1.size
    have p:g1=g\/O w.1+2<=g1:=by simp at hg1;omega
    have p0:w1.cell? (J (O w.1) 0)=E (G (Y xs i).k):=(hk1.cell (b:=O w.1) Jq I 0).trans Jg;have q0:w1.cell? (J (O w.1+1) 0)=E (G (Y xs i).k):=(hk1.cell (b:=O w.1+1) Js I 0).trans Jg;have q1:w1.cell? (J (O w.1+1) 1)=E (W (Y xs i).t):=(hk1.cell (b:=O w.1+1) Js I 1).trans Jg;have q2:w1.cell? (J (O w.1+1) 2)=E (G 0):=(hk1.cell (b:=O w.1+1) Js I 2).trans Jg;have q3:w1.cell? (J (O w.1+1) 3)=E (G 0):=(hk1.cell (b:=O w.1+1) Js I 3).trans Jg;have r2:w1.frozen? (J (O w.1+1) 2)=Vt:=(hk1.frozen (b:=O w.1+1) Js I 2).trans Jg;have t:=S ((zE.Q (g:=g) ((@zC w _).alloc Js _)).trans hk1);have ST:Hid (AS ((w1.setCell (J (O w.1+1) 2) (G ((Z H:Int)-1))).alloc (JM #[G nd.k,W nd.t,G nd.a,G nd.b] 108)) B g1 c1 H):=(hr1.set _ _ _ I).y zC;have NW:=S (GH (w1.setCell (J (O w.1+1) 2) (G ((Z H:Int)-1))) (O w1.1) nd Jt);rw[D ht]at ST NW;simp only at ST NW;go_wp2_with (first|(go_at_call 103;refine(zV HK 1 F _).mono ?_;rintro e w' ⟨rfl,rfl⟩)|(at_builtin;refine As BB underlying38 (.tmp 52) (.tmp 54) F rfl B _ (Z H) (zO H) F ST (J (O w1.1) 0) 1 1 (zO [nd]) F rfl (by rw[D ht];exact NW) (zf _) Jm I Jq ?_));intro v4 w4 Q K x y;obtain⟨g4,c4,rfl,hp⟩:=AS.snoc Q (by simp[x]) v;have u:=S hp;have V:=S (((t.setRow (O w.1+1) 2 (G ((Z H:Int)-1)) I).trans (zE.Q zC)).grownRow K (λk hk=>by simp[i8]at hk;omega));have P:g4=g\/O w.1<=g4:=by simp[i8]at y;omega
    go_wp2;go_ret;exact⟨⟨g4,c4,F,u,P⟩,V⟩
  .have HK:=S hk;have ei:(i:Int)-1=((i-1:Nat):Int):=I;have ef:(f2:Int)-1=((f2-1:Nat):Int):=I;rw[ha,ef]at h2;rw[C,ei]at h3;have hd:=Ct hl;have U:i-1+1=i:=I;have l:f2-1+1=f2:=I;have h6:(Y xs i).k≠6:=λe=>by rw[e]at hk;simp[zY]at hk
   have hq:((Y xs i).k==6)=Vt:=Ju h6
   obtain⟨H,X⟩:∃H,Hid (H=er xs (f2-1+1)):=⟨_,S F⟩;obtain⟨q,d⟩:∃q,Hid (q=er xs (i-1+1)):=⟨_,S F⟩;have N:Z H<=20000:=by have:=GQ xs (f2-1+1);rw[D X,D5];omega
   have he:Z q<=20000:=by have:=GQ xs (i-1+1);rw[D d,D5];omega
   obtain⟨nd,ht⟩:∃nd:zD,Hid (nd=⟨(Y xs i).k,(Y xs i).t,(Z H:Int)-1,(Z q:Int)-1⟩):=⟨_,S F⟩;have v:=S (show vs=q++[nd] by
    rw[D hvs,Lw h6,D ht,D X,D d,D5,D5,U,l]
    congr 2
    unfold BS Fp
    rw[hk,ha,C]
    have e1:((i:Int)-1).toNat+1=i:=I
    have e2:((f2:Int)-1).toNat+1=f2:=I
    rw[e1,e2]
    simp)
   have M:=S (by rw[D X,l]:H=er xs f2);go_enter func86,ntmps86;go_wp2_with (go_at_call 103;refine(zV HK 2 F _).mono ?_;rintro e w' ⟨rfl,rfl⟩);go_call IH (f2-1) f B g c us H _ I I (S A) hus X (HW.y ((zC).alloc Js _) I) hb Jq ((HR.y zC).y zC) as e w1 ⟨⟨g1,c1,rfl,hr1,hg1⟩,hk1⟩;have hn:=hr1.lt;have z:O w.1+2<=O w1.1:=Jz hk1.size
   have p:g1=g\/O w.1+2<=g1:=by simp at hg1;omega
   have p0:w1.cell? (J (O w.1) 0)=E (G (Y xs i).k):=(hk1.cell (b:=O w.1) Jq I 0).trans Jg;have p3:w1.cell? (J (O w.1) 3)=E (G ((i-1:Nat):Int)):=(hk1.cell (b:=O w.1) Jq I 3).trans Jg;have q0:w1.cell? (J (O w.1+1) 0)=E (G (Y xs i).k):=(hk1.cell (b:=O w.1+1) Js I 0).trans Jg;have q1:w1.cell? (J (O w.1+1) 1)=E (W (Y xs i).t):=(hk1.cell (b:=O w.1+1) Js I 1).trans Jg;have q2:w1.cell? (J (O w.1+1) 2)=E (G 0):=(hk1.cell (b:=O w.1+1) Js I 2).trans Jg;have q3:w1.cell? (J (O w.1+1) 3)=E (G 0):=(hk1.cell (b:=O w.1+1) Js I 3).trans Jg;have r2:w1.frozen? (J (O w.1+1) 2)=Vt:=(hk1.frozen (b:=O w.1+1) Js I 2).trans Jg;have r3:w1.frozen? (J (O w.1+1) 3)=Vt:=(hk1.frozen (b:=O w.1+1) Js I 3).trans Jg;have t:=S ((zE.Q (g:=g) ((@zC w _).alloc Js _)).trans hk1);go_wp2_with (go_at_call 103;refine(zV HK 2 F _).mono ?_;rintro e w' ⟨rfl,rfl⟩);have L:=S (t.setRow (O w.1+1) 2 (G ((Z H:Int)-1)) (yX I));refine(IH (i-1) f2 B g1 c1 H q _ I I (S hl) M d (λj hj=>?_) hb (by simp[World.setCell];omega) (hr1.set _ _ _ I)).mono ?_
   .have e:=L.cell (b:=b) I I;obtain⟨a0,a1,a2,a3⟩:=(D HW) j hj;exact⟨(e _).trans a0,(e _).trans a1,(e _).trans a2,(e _).trans a3⟩
   rintro e w2 ⟨⟨g2,c2,rfl,hr2,hg2⟩,hk2⟩;have hr:=hr2.lt;have hs:O w1.1<=O w2.1:=by have:=hk2.size;simpa[World.setCell] using this
   have T:g2=g1\/O w1.1<=g2:=by simpa[World.setCell] using hg2
   have sc:∀o,(w1.setCell (J (O w.1+1) 2) (G ((Z H:Int)-1))).heap.size=O w1.1/\(o≠2->(w1.setCell (J (O w.1+1) 2) (G ((Z H:Int)-1))).cell? (J (O w.1+1) o)=w1.cell? (J (O w.1+1) o)):=λo=>⟨Jt,λho=>yj _ _ _ _ (λe=>ho (by injection e with _ e;exact e.symm))⟩
   have s0:w2.cell? (J (O w.1+1) 0)=E (G (Y xs i).k):=(hk2.cell (b:=O w.1+1) (by rw[(sc 0).1];omega) I 0).trans (((sc 0).2 I).trans q0);have s1:w2.cell? (J (O w.1+1) 1)=E (W (Y xs i).t):=(hk2.cell (b:=O w.1+1) (by rw[(sc 0).1];omega) I 1).trans (((sc 1).2 I).trans q1);have s2:w2.cell? (J (O w.1+1) 2)=E (G ((Z H:Int)-1)):=(hk2.cell (b:=O w.1+1) (by rw[(sc 0).1];omega) I 2).trans (yu _ _ _ q2);have s3:w2.cell? (J (O w.1+1) 3)=E (G 0):=(hk2.cell (b:=O w.1+1) (by rw[(sc 0).1];omega) I 3).trans (((sc 3).2 I).trans q3);have t3:w2.frozen? (J (O w.1+1) 3)=Vt:=(hk2.frozen (b:=O w.1+1) (by rw[(sc 0).1];omega) I 3).trans ((yx).trans r3);have R:=S (L.grownRow (za hk2) (λk hk=>by injection hk with hk;subst hk;omega));have ST:Hid (AS ((w2.setCell (J (O w.1+1) 3) (G ((Z q:Int)-1))).alloc (JM #[G nd.k,W nd.t,G nd.a,G nd.b] 108)) B g2 c2 q):=(hr2.set _ _ _ I).y zC;have NW:=S (GH (w2.setCell (J (O w.1+1) 3) (G ((Z q:Int)-1))) (O w2.1) nd Jt);rw[D ht]at ST NW;simp only at ST NW;go_wp2_with (at_builtin;refine As BB underlying38 (.tmp 52) (.tmp 54) F rfl B _ (Z q) (zO q) F ST (J (O w2.1) 0) 1 1 (zO [nd]) F rfl (by rw[D ht];exact NW) (zf _) Jm I Jq ?_);intro v4 w4 Q K x y;obtain⟨g4,c4,rfl,hp⟩:=AS.snoc Q (by simp[x]) v;have u:=S hp;have V:=S (((R.setRow (O w.1+1) 3 (G ((Z q:Int)-1)) I).trans (zE.Q zC)).grownRow K (λk hk=>by simp[i8]at hk;omega));have P:g4=g\/O w.1<=g4:=by simp[i8]at y;omega
   go_wp2;go_ret;exact⟨⟨g4,c4,F,u,P⟩,V⟩
def TX(b K i f w)(C:Z f<=1048576)(u:Z2 w b K f)(L:C5 f)(t:b<O w.1):Calls Vb 47 #[b9 #[Je b K (Z f) i]] w λe w'=>(∃(a:Option Addr)(c:Nat)(us:Jj)(v:Bool),e=i9 (i5 #[b9 #[.slice a (Z us) c],i7 v])/\Hid (ZS w' (O w.1) a us)/\Hid (Zy f us v))/\Qb w w':=by
 go_enter func47,ntmps47;go_wp2_with fail;go_call TW b K i f _ C (u.y ((zC).alloc Js _) t) L Jq as e w1 ⟨⟨v,rfl,M⟩,g⟩;have n:=S M;have H:Qb w w1:=((zC).alloc Js _).trans (g.mono Jq);have U:O w.1+2<=O w1.1:=Jz g.size
 have N:w1.cell? (J (O w.1) 0)=E (Je b K (Z f) i):=Jc g Jh Jg;have o:w1.cell? (J (O w.1+1) 0)=E Jl:=(g.cell (p:=(J (O w.1+1) 0)) Js).trans Jg;have z:w1.frozen? (J (O w.1+1) 0)=Vt:=(g.frozen (p:=(J (O w.1+1) 0)) Js).trans Jg;cases v
 .go_wp2_with fail;refine yQ (v:=i5 #[b9 #[Jl],i7 Vt]) ?res F ⟨⟨JL,0,[],Vt,F,S (yW ⟨F,F⟩),S (yX ⟨λh=>jq (n.2 h),F,F⟩)⟩,?_⟩;case res=>simp[results,results47,go_sem,o]
  exact H.setCell Js _
 .have HO:=S (n.1 F);have y:=HO.2.1;have T:=HO.1;have P:(Z f:Int)-1=((Z f-1:Nat):Int):=I;have X:Z f-1+1=Z f:=I;obtain⟨vs,Q⟩:∃vs,Hid (vs=er f (Z f-1+1)):=⟨_,S F⟩;have x:=S (show AS (w1.alloc (JM #[] 108)) (O w1.1) (O w1.1) 0 [] by
   have:=yJ (base:=O w1.1) (e:=108) (size:=4) w1 #[] 0 yk yn F
   simpa[AS,zO] using this)
  go_wp2_with fail;go_call Uc b K i f y (Z f) (Z f-1) 0 (O w1.1) (O w1.1) 0 [] vs _ I I (S HO.2.2.1) (S F) Q (u.y (H.trans ((zC).mono H.size)) t) I Js x as e l ⟨⟨m,s,rfl,k,B⟩,j⟩;have d:=k.lt;have V:O w1.1<O l.1:=Jz j.size
  have A:l.cell? (J (O w.1+1) 0)=E Jl:=(j.cell (b:=O w.1+1) Jq I 0).trans (((zC).cell (p:=(J (O w.1+1) 0)) (I:O w.1+1<O w1.1)).trans o);have R:l.frozen? (J (O w.1+1) 0)=Vt:=(j.frozen (b:=O w.1+1) Jq I 0).trans (((zC).frozen (p:=(J (O w.1+1) 0)) (I:O w.1+1<O w1.1)).trans z);have q:Qb w l:=(H.trans ((zC).mono H.size)).trans (j.y Jq I);go_wp2_with fail;refine yQ (v:=i5 #[b9 #[Ql m (Z vs) s],i7 Vp]) ?res F ⟨⟨E (J m 0),s,vs,Vp,F,S (yX ⟨m,F,I,?_⟩),S (yW ⟨HO,F,by rw[D Q,X]⟩)⟩,?_⟩;case res=>simp[results,results47,go_sem,A]
  .exact(Ib k).2.setCell _ _ _ I
  .exact q.setCell Js _
def GU(e:Value)(l):=∃T v f b,e=.iface T v/\(∀w,(method 459 T v "loop.example/s0059/impl.level").run Vb w=.ok (f,b) w)/\(∀a w,(callFunc f a).run Vb w=.ok (.enter f a) w) /\
 ∀w,Calls Vb f #[b] w λx w'=>x=i9 (G l)/\Qb w w'
theorem Re(w):Calls Vb 286 #[b9 #[]] w λx w'=>x=i9 (G 1001)/\Qb w w':=by go_enter func286,ntmps286;go_wp2;go_ret;exact⟨F,by grind [zC]⟩
theorem QZ(p:Ad)(w):Calls Vb 289 #[b9 #[W p.s,G p.k,G p.l,G p.sd]] w λx w'=>x=i9 (G p.l)/\Qb w w':=by go_enter func289,ntmps289;go_wp2;go_ret;exact⟨F,by grind [zC]⟩
def X6(t):GU (IE t) 1001:=⟨_,_,286,b9 #[],F,λw=>Jk,λa w=>Jk,Re⟩
def Xf(t):GU (Iu t) 1001:=⟨_,_,286,b9 #[],F,λw=>Jk,λa w=>Jk,Re⟩
def wD(e):GU (EK e) 1001:=⟨_,_,286,b9 #[],F,λw=>Jk,λa w=>Jk,Re⟩
def Ym(p e):GU (Er p e) p.l:=⟨_,_,289,b9 #[W p.s,G p.k,G p.l,G p.sd],F,λw=>Jk,λa w=>Jk,QZ p⟩
def Xg(p e):GU (D8 p e) p.l:=⟨_,_,289,b9 #[W p.s,G p.k,G p.l,G p.sd],F,λw=>Jk,λa w=>Jk,QZ p⟩
def Yn(p e b):GU (DS p e b) p.l:=⟨_,_,289,b9 #[W p.s,G p.k,G p.l,G p.sd],F,λw=>Jk,λa w=>Jk,QZ p⟩
def B7(w:JY)(g m:Nat):=w.cell? (J g 0)=E (G m)/\w.frozen? (J g 0)=Vt
def B7.y{m}(h:B7 w g m)(a:Qb w w'):B7 w' g m:=
 ⟨Jc a (jl h.1) h.1,(a.frozen (p:=J g 0) (jl h.1)).trans h.2⟩
def B7.set{m}(h:B7 w g m)(n:Nat):B7 (w.setCell (J g 0) (G n)) g n:=
 ⟨yu _ _ _ h.1,(yx).trans h.2⟩
def zE.setG(v):zE w (w.setCell (J g 0) v) g:=⟨F,F,F,Jt,λ_ _ a=>jh _ _ _ _ a⟩
def IF(l h:Int):Nat:=if l<h then 2 else 1
def EL(l h:Int)(e:Value):Value:=if l<h then EK e else e
theorem O3{l}(h:GU e l)(g m H w)(i:B7 w g m)(L:m<=100000):Calls Vb 242 #[Qp g,e,G H] w λx w'=>x=i9 (EL l H e)/\Hid (B7 w' g (m+IF l H))/\Hid (zE w w' g):=by
 obtain⟨T,v,f,c,rfl,a,P,q⟩:=h;have s:=S q;have A:=i.1;have B:=i.2;have p:=jl i.1;have Q:=S (i.set (m+1));have o:((m+1:Nat):Int)=(m:Int)+1:=I;have z:((m+1+1:Nat):Int)=(m:Int)+1+1:=I;rw[o]at Q;go_enter func242,ntmps242;go_wp2_with fail;go_call s _ as x w1 ⟨rfl,d⟩;have X:=S ((zE.setG (w:=w) (g:=g) (G ((m:Int)+1))).trans (zE.Q d));have K:=S (Q.y d);have u:=K.1;have C:=K.2;rw[o]at u;by_cases k:l<H
 .have j:¬ H<=l:=I;have t:Hid (IF l H=2):=yU k;have n:Hid (EL l H (.iface T v)=EK (.iface T v)):=yU k;have b:=S (K.set (m+1+1));rw[z]at b;have y:=S (X.trans (zE.setG (w:=w1) (g:=g) (G ((m:Int)+1+1))));go_wp2;go_ret;exact⟨by rw[D n];rfl,by grind [Hid],y⟩
 .have j:H<=l:=I;have t:Hid (IF l H=1):=yS k;have n:Hid (EL l H (.iface T v)=.iface T v):=yS k;go_wp2;go_ret;exact⟨by rw[D n];rfl,by grind [Hid],X⟩
def NA(p o e a):∃T v,AT p o e a=.iface T v:=by
 unfold AT;split
 .exact⟨_,_,F⟩
 .split
  .exact⟨_,_,F⟩
  .split
   .exact⟨_,_,F⟩
   .split
    .exact⟨_,_,F⟩
    .split
     .exact⟨_,_,F⟩
     .exact⟨_,_,F⟩
def Lq(a b i):∃T v,CU a b i=.iface T v:=by rw[LN];exact NA _ _ _ _
theorem Nt(l h T v):∃a b,EL l h (.iface T v)=.iface a b:=by
 unfold EL;split
 .exact⟨_,_,F⟩
 .grind
def AL(T v A z):=∀w,(Instr.typeAssert (.iface T v) 227 A Vp).run Vb w=.ok (i5 #[z,i7 Vt]) w
def zG:Value:=b9 #[.nilIface]
def zP:Value:=b9 #[W ⟨#[]⟩,G 0,G 0,G 0,.nilIface]
def zI:Value:=b9 #[W ⟨#[]⟩,G 0,G 0,G 0,.nilIface,.nilIface]
def zae(v):AL 293 v 270 zG/\AL 293 v 274 zP/\AL 293 v 277 zI/\AL 293 v 278 zP:=
 ⟨λw=>Jk,λw=>Jk,λw=>Jk,λw=>Jk⟩
def wE(v):AL 295 v 270 zG/\AL 295 v 274 zP/\AL 295 v 277 zI/\AL 295 v 278 zP:=
 ⟨λw=>Jk,λw=>Jk,λw=>Jk,λw=>Jk⟩
def zaf(v):AL 274 v 270 zG:=λw=>Jk
def aA(v):AL 277 v 270 zG/\AL 277 v 274 zP:=⟨λw=>Jk,λw=>Jk⟩
def Yo(v):AL 278 v 270 zG/\AL 278 v 274 zP/\AL 278 v 277 zI:=⟨λw=>Jk,λw=>Jk,λw=>Jk⟩
def aB(v):∀w,(Instr.typeAssert (.iface 270 v) 227 270 Vp).run Vb w=.ok (i5 #[v,i7 Vp]) w:=λw=>Jk
def aC(v):∀w,(Instr.typeAssert (.iface 274 v) 227 274 Vp).run Vb w=.ok (i5 #[v,i7 Vp]) w:=λw=>Jk
def aD(v):∀w,(Instr.typeAssert (.iface 277 v) 227 277 Vp).run Vb w=.ok (i5 #[v,i7 Vp]) w:=λw=>Jk
def Yp(v):∀w,(Instr.typeAssert (.iface 278 v) 227 278 Vp).run Vb w=.ok (i5 #[v,i7 Vp]) w:=λw=>Jk
def EV(w g m e x a):=x=i9 e/\Hid (B7 a g m)/\Hid (zE w a g)
def Xh{T}(e:AL T v 270 zG/\AL T v 274 zP/\AL T v 277 zI/\AL T v 278 zP){l}(h:GU (.iface T v) l)(g m H w)(c:B7 w g m)(d:m<=100000):Calls Vb 221 #[Qp g,.iface T v,G H] w (EV w g (m+IF l H) (EL l H (.iface T v))):=by obtain⟨f,i,j,k⟩:=e;unfold AL zG at f;unfold AL zP at i k;unfold AL zI at j;go_enter func221,ntmps221;go_wp2_with fail;go_call O3 h g m H _ c d as x w1 ⟨rfl,a,b⟩;obtain⟨n,o,K⟩:=Nt l H T v;rw[K];go_wp2;go_ret;exact⟨by rw[K];rfl,a,b⟩
def wF{T}(g m h w)(k:∃a b,e=.iface a b)(j:∀o,Calls Vb 221 #[Qp g,.iface T v,G h] (w.alloc o) (EV (w.alloc o) g m e)):Calls Vb 221 #[Qp g,EK (.iface T v),G h] w (EV w g m e):=by obtain⟨a,b,rfl⟩:=k;have l:=aB (b9 #[.iface T v]);have c:=S j;unfold EK;go_enter func221,ntmps221;go_wp2_with fail;go_call c _ as x w1 ⟨rfl,d,f⟩;have i:=S ((zE.Q zC).trans f);go_wp2;go_ret;exact⟨F,d,i⟩
def LT{b o a c d e}(H:B≠b)(h:w.cell? (J b o)=E u):((((w.setCell (J B 0) a).setCell (J B 1) c).setCell (J B 2) d).setCell (J B 3) e).cell? (J b o)=E u:=by rw[World.cell?_setCell_far _ _ _ _ H,World.cell?_setCell_far _ _ _ _ H,World.cell?_setCell_far _ _ _ _ H,World.cell?_setCell_far _ _ _ _ H];exact h
def fI:Option Nat->Int
 |some j=>(j:Int)
 |none=>-1
theorem Pm(b H c a t d w)(p:Z a<=1048576)(g:Au w b H a)(m:b<O w.1):Calls Vb 146 #[b9 #[Je b H (Z a) c],W t,G d] w λe w'=>e=i9 (G (fI (Ax a t d)))/\Qb w w':=by
 go_enter func146,ntmps146;go_wp2;have K:Au (w.alloc (JM #[Je b H (Z a) c] 45)) b H a:=g.y zC m;have l:=S K;clear K g;go_loop [7] (λi=>∃k:Nat,k<=Z a/\i=G k/\Hid (∀j,j<k->¬ ((r a j).s=t/\(r a j).k=d))) (λi=>Z a-(intOf i).toNat);case atStart=>exact⟨0,yn,F,S (λj h=>I)⟩
 case round=>
  obtain⟨k,o,rfl,f⟩:=hrel;by_cases Q:k<Z a
  .obtain⟨a0,a1,a2,a3⟩:=(D l) k Q;have q:=S (show ∀(_:¬ ((r a k).s=t/\(r a k).k=d)),∀j,j<k+1->¬ ((r a j).s=t/\(r a j).k=d) from λX j n=>by
    by_cases e:j=k
    .subst e;exact X
    .exact f j I)
   go_wp2
   .rename_i y x _;go_ret;refine⟨zK ?_,zC⟩;rw[oC Q (D f) ⟨Ny y,Ju x⟩];rfl
   .refine⟨⟨k+1,I,Jn,S (q ?_)⟩,Ji⟩;rintro⟨_,h⟩;simp_all
   .refine⟨⟨k+1,I,Jn,S (q ?_)⟩,Ji⟩;rintro⟨h,_⟩;simp_all
  .go_wp2;go_ret;refine⟨zK ?_,zC⟩;rw[XW (λj n=>(D f) j I)];rfl
def IZ(o:zD)(w v)(a:v=decide (3<=o.k/\o.k<=5)):Calls Vb 102 #[b9 #[G o.k,W o.t,G o.a,G o.b]] w λe w'=>e=i9 (i7 v)/\Qb w w':=by
 by_cases b:3<=o.k
 .by_cases h5:o.k<=5
  .have HV:=S (by rw[a];simp[b,h5]:v=Vp);clear a;go_enter func102,ntmps102;go_wp2;go_ret;exact⟨zv HV.symm,zC⟩
  .have HV:=S (by rw[a];simp[h5]:v=Vt);clear a;go_enter func102,ntmps102;go_wp2;go_ret;exact⟨zv HV.symm,zC⟩
 .have HV:=S (by rw[a];simp[b]:v=Vt);clear a;go_enter func102,ntmps102;go_wp2;go_ret;exact⟨zv HV.symm,zC⟩
def Gn(a:Qb w w'){e}(h:w.cell? (J d e)=E v):w'.cell? (J d e)=E v:=Jc a (jl h) h
def Rt(b h g f)(o:zD)(j w)(P:Z f<=1048576)(t:Au w b h f)(m:b<O w.1)(h3:3<=o.k)(h5:o.k<=5)(n:Ax f o.t (o.k-2)=E j):Calls Vb 147 #[b9 #[Je b h (Z f) g],b9 #[G o.k,W o.t,G o.a,G o.b]] w λe w'=>e=i9 (b9 #[W (r f j).s,G (r f j).k,G (r f j).l,G (r f j).sd])/\Qb w w':=by
 have N:=(ED n).1;have c:(j:Int)<Z f:=I;have x:=S (by rw[n];rfl:fI (Ax f o.t (o.k-2))=(j:Int));clear n;go_enter func147,ntmps147;go_wp2_with fail;have y:b≠O w.1+1+1:=I;have X:O w.1+1+1≠b:=I;have Q:=S (by rw[IntKind.wrap_i64];omega:IntKind.i64.wrap (o.k-2)=o.k-2);obtain⟨a,k⟩:=Jx ((((w.alloc (JM #[Je b h (Z f) g] 45)).alloc (JM #[G o.k,W o.t,G o.a,G o.b] 108)).alloc (JM #[W ⟨#[]⟩,G 0,G 0,G 0] 25)));have i:=S (by rw[k];exact(((@zC w _).alloc Js _).alloc Jq _).drew:Qb w a.drew);obtain⟨z,A,B,s,C,L,M⟩:a.drew.cell? (J (O w.1) 0)=E (Je b h (Z f) g)/\a.drew.cell? (J (O w.1+1) 0)=E (G o.k)/\a.drew.cell? (J (O w.1+1) 1)=E (W o.t)/\a.drew.cell? (J (O w.1+1+1) 0)=E (W ⟨#[]⟩)/\a.drew.cell? (J (O w.1+1+1) 1)=E (G 0)/\a.drew.cell? (J (O w.1+1+1) 2)=E (G 0)/\a.drew.cell? (J (O w.1+1+1) 3)=E (G 0):=by rw[k];exact⟨Jg,Jg,Jg,Jg,Jg,Jg,Jg⟩
 have K:=S (by rw[k];intro q;simp[go_sem]:∀q,a.drew.frozen? (J (O w.1+1+1) q)=Vt);obtain⟨R,T,U,V⟩:=((t) j N).y i m;have H:=S (ym m i.size);rw[<-k];clear k;go_region_held (λw'=>w'.cell? (J (O w.1) 0)=E (Je b h (Z f) g)/\w'.cell? (J (O w.1+1) 0)=E (G o.k)/\w'.cell? (J (O w.1+1) 1)=E (W o.t)/\w'.cell? (J b (h+j*4))=E (W (r f j).s)/\w'.cell? (J b (h+j*4+1))=E (G (r f j).k)/\w'.cell? (J b (h+j*4+2))=E (G (r f j).l)/\w'.cell? (J b (h+j*4+3))=E (G (r f j).sd)) (first|(go_keep;done)|(refine⟨LT I ?_,LT I ?_,LT I ?_,LT I ?_,LT I ?_,LT I ?_,LT I ?_⟩<;>simp[*]))
  (first|(go_at_call 146;have l:=Pm b h g f o.t (o.k-2) a.drew P (t.y i m) H;rw[D x]at l;rw[D Q];refine l.mono ?_;clear l;rintro e w2 ⟨rfl,d⟩;have q0:=Gn d z;have q1:=Gn d A;have q2:=Gn d B;have s0:=Gn d R;have s1:=Gn d T;have s2:=Gn d U;have s3:=Gn d V;have t0:=Gn d s;have t1:=Gn d C;have t2:=Gn d L;have t3:=Gn d M;have u:=λq=>(d.frozen (p:=(J (O w.1+1+1) q)) (show O w.1+1+1<O a.drew.1 from jl s)).trans (K q);have u0:=u 0;have u1:=u 1;have u2:=u 2;have u3:=u 3;have B2:=S (i.trans (d.mono i.size));clear d u))
 go_wp2;refine yQ (v:=b9 #[W (r f j).s,G (r f j).k,G (r f j).l,G (r f j).sd]) ?res F ⟨F,?_⟩;case res=>simp[results,results147,go_sem,t0,t1,t2,t3]
 exact zX (I:O w.1<=O w.1+1+1) [W (r f j).s,G (r f j).k,G (r f j).l,G (r f j).sd] 0 w2 B2
def Vd(a s k l b):(Instr.field 25 (b9 #[W s,G k,G l,G b]) 2).run Vb a=.ok (G l) a:=Jk
def Yq{a}(b:3<=o.k)(c:o.k<=5)(d:Ax a o.t (o.k-2)=E j):AY a o=(r a j).l:=by unfold AY;rw[yU ⟨b,c⟩,d]
def Sl{xs}(h:¬ (3<=o.k/\o.k<=5)):AY xs o=1001:=by unfold AY;rw[yS h]
def O4(b K d c o w)(t:Z c<=1048576)(l:Au w b K c)(m:b<O w.1)(q:3<=o.k->o.k<=5->Ax c o.t (o.k-2)≠JL):Calls Vb 149 #[b9 #[Je b K (Z c) d],b9 #[G o.k,W o.t,G o.a,G o.b]] w λe w'=>e=i9 (G (AY c o))/\Qb w w':=by
 by_cases H:3<=o.k/\o.k<=5
 .obtain⟨h3,h5⟩:=H;cases f:Ax c o.t (o.k-2) with
  |none=>exact yV f (q h3 h5)
  |some j=>have i:=S (Yq h3 h5 f);have s:=S l;have n:=S f;have g:=S (by simp[h3,h5]:Vp=decide (3<=o.k/\o.k<=5));clear l f q;go_enter func149,ntmps149;go_wp2_with fail;go_call IZ o _ Vp g as e w1 ⟨rfl,a⟩;have h:Qb w w1:=((zC).alloc Js _).trans (a.mono Jq);have u:w1.cell? (J (O w.1) 0)=E (Je b K (Z c) d):=Jc a Jh Jg;have v:w1.cell? (J (O w.1+1) 0)=E (G o.k):=(a.cell (p:=(J (O w.1+1) 0)) Js).trans Jg;have y:w1.cell? (J (O w.1+1) 1)=E (W o.t):=(a.cell (p:=(J (O w.1+1) 1)) Js).trans Jg;have z:w1.cell? (J (O w.1+1) 2)=E (G o.a):=(a.cell (p:=(J (O w.1+1) 2)) Js).trans Jg;have A:w1.cell? (J (O w.1+1) 3)=E (G o.b):=(a.cell (p:=(J (O w.1+1) 3)) Js).trans Jg;have Q:=ym m h.size;clear a;go_wp2_with fail;go_call Rt b K d c o j _ t (s.y h m) Q h3 h5 n as e B ⟨rfl,k⟩;have x:=Vd;go_wp2;go_ret;exact⟨zK i.symm,h.trans (k.mono h.size)⟩
 .have i:=S (Sl (xs:=c) H);have g:=S (by simp[H]:Vt=decide (3<=o.k/\o.k<=5));clear l H q;go_enter func149,ntmps149;go_wp2_with fail;go_call IZ o _ Vt g as e w1 ⟨rfl,a⟩;go_wp2;go_ret;exact⟨zK i.symm,((zC).alloc Js _).trans (a.mono Jq)⟩
def Cs(a:List (Nat×Nat×Value))(w:JY):=∀p∈a,w.cell? (J p.1 p.2.1)=E p.2.2
def Cs.y{a}(h:Cs a w)(c:Qb w w'):Cs a w':=
 λp b=>Jc c (jl (h p b)) (h p b)
def Pc{a}(h:Below B a w)(c:w'.os=w.os)(d:w'.tape=w.tape)(e:w'.output=w.output)(b:w'.heap=w.heap):Below B a w':=
 ⟨c.trans h.os,d.trans h.tape,e.trans h.output,by rw[b];exact h.size,λi f=>by rw[b];exact h.block i f⟩
def Sm{b a}(d:Zx (Y a i))(c:Ax b (Y a i).t ((Y a i).k-2)=E j):GX b a i↔GT b j Vt<=AY b (Y a (Y a i).a.toNat)/\(zY (Y a i).k=1\/GT b j Vp<=AY b (Y a (Y a i).b.toNat)):=by
 constructor
 .intro h;exact h j d c
 .intro h j' _ H;rw[c]at H;injection H with H;subst H;exact h
def VS(b Q cap bn H cn i xs ns w)(hm:Z xs<=1048576)(T:Z ns<=1048576)(hw:Au w b Q xs)(k:ZO xs)(hB:b<O w.1)(l:Z2 w bn H ns)(u:bn<O w.1)(hi:i<Z ns)(ho:Zx (Y ns i))(j)(hf:Ax xs (Y ns i).t ((Y ns i).k-2)=E j)(ka kb:Nat)(a:(Y ns i).a=(ka:Int))(C:(Y ns i).b=(kb:Int))(f:ka<Z ns)(d:kb<Z ns)(X:zY (Y ns i).k=1\/zY (Y ns i).k=2)(g:3<=(Y ns ka).k->(Y ns ka).k<=5->Ax xs (Y ns ka).t ((Y ns ka).k-2)≠JL)(U:zY (Y ns i).k=2->3<=(Y ns kb).k->(Y ns kb).k<=5->Ax xs (Y ns kb).t ((Y ns kb).k-2)≠JL):Calls Vb 139 #[b9 #[Je b Q (Z xs) cap],Je bn H (Z ns) cn,G i] w λe w'=>Bj e (GX xs ns i)/\Qb w w':=by
 have hb:(i:Int)<Z ns:=I;obtain⟨h0,h1,h2,h3⟩:=l i hi;have s:=S l;have hj:=(ED hf).1;have v:=S (show GX xs ns i↔GT xs j Vt<=AY xs (Y ns ka)/\(zY (Y ns i).k=1\/GT xs j Vp<=AY xs (Y ns kb)) by rw[Sm ho hf,a,C];simp)
 have HD:=S (by rw[eq_comm,decide_eq_true_iff];exact ho:Vp=decide (3<=(Y ns i).k/\(Y ns i).k<=5));have HF:=S hf;have m:=ho.1;have n:=ho.2;have ha:=S g;have c:=S U;have A:=S (k j hj);rw[a]at h2;rw[C]at h3;have hd:(ka:Int)<Z ns:=I;have R:(kb:Int)<Z ns:=I;go_enter func139,ntmps139;go_wp2_with fail;go_call IZ ⟨(Y ns i).k,(Y ns i).t,(ka:Int),(kb:Int)⟩ _ Vp HD as e w1 ⟨rfl,hb1⟩;have y:Qb w w1:=((zC).alloc Js _).trans (hb1.mono Jq);have hc:=S (show Cs [(O w.1,0,Je b Q (Z xs) cap),(O w.1+1,0,G (Y ns i).k),(O w.1+1,1,W (Y ns i).t),(O w.1+1,2,G ka),(O w.1+1,3,G kb)] w1 from λp hp=>by
  simp only[jH,List.not_mem_nil,or_false]at hp
  rcases hp with rfl|rfl|rfl|rfl|rfl
  .exact Jc hb1 Jh Jg
  .exact(hb1.cell (p:=(J (O w.1+1) 0)) Js).trans Jg
  .exact(hb1.cell (p:=(J (O w.1+1) 1)) Js).trans Jg
  .exact(hb1.cell (p:=(J (O w.1+1) 2)) Js).trans Jg
  .exact(hb1.cell (p:=(J (O w.1+1) 3)) Js).trans Jg)
 have c0:=(D hc) (O w.1,0,Je b Q (Z xs) cap) Js;have d0:=(D hc) (O w.1+1,0,G (Y ns i).k) Js;have d1:=(D hc) (O w.1+1,1,W (Y ns i).t) Js;have d2:=(D hc) (O w.1+1,2,G ka) Js;have d3:=(D hc) (O w.1+1,3,G kb) Js;simp only at c0 d0 d1 d2 d3;go_wp2_with fail;go_call Rt b Q cap xs ⟨(Y ns i).k,(Y ns i).t,(ka:Int),(kb:Int)⟩ j _ hm (hw.y y hB) (ym hB y.size) m n HF as e w2 ⟨rfl,hb2⟩;have x:=y.trans (hb2.mono y.size);have L:=S (hc.y hb2);have K:=S (show Cs [(O w.1,0,Je b Q (Z xs) cap),(O w.1+1,0,G (Y ns i).k),(O w.1+1,1,W (Y ns i).t),(O w.1+1,2,G ka),(O w.1+1,3,G kb),(O w2.1,0,W (r xs j).s),(O w2.1,1,G (r xs j).k),(O w2.1,2,G (r xs j).l),(O w2.1,3,G (r xs j).sd),(bn,H+ka*4,G (Y ns ka).k),(bn,H+ka*4+1,W (Y ns ka).t),(bn,H+ka*4+2,G (Y ns ka).a),(bn,H+ka*4+3,G (Y ns ka).b),(bn,H+kb*4,G (Y ns kb).k),(bn,H+kb*4+1,W (Y ns kb).t),(bn,H+kb*4+2,G (Y ns kb).a),(bn,H+kb*4+3,G (Y ns kb).b)] (w2.alloc (JM #[W (r xs j).s,G (r xs j).k,G (r xs j).l,G (r xs j).sd] 25)).drew from λp hp=>by
  simp only[jH,List.not_mem_nil,or_false]at hp
  have B:Cs [(O w.1,0,Je b Q (Z xs) cap),(O w.1+1,0,G (Y ns i).k),(O w.1+1,1,W (Y ns i).t),(O w.1+1,2,G ka),(O w.1+1,3,G kb)] (w2.alloc (JM #[W (r xs j).s,G (r xs j).k,G (r xs j).l,G (r xs j).sd] 25)).drew:=L.y ((zC).drew)
  have z:=((s) ka f).y (x.trans (((@zC w2 (JM #[W (r xs j).s,G (r xs j).k,G (r xs j).l,G (r xs j).sd] 25)).drew).mono x.size)) u
  have P:=((s) kb d).y (x.trans (((@zC w2 (JM #[W (r xs j).s,G (r xs j).k,G (r xs j).l,G (r xs j).sd] 25)).drew).mono x.size)) u
  rcases hp with rfl|rfl|rfl|rfl|rfl|rfl|rfl|rfl|rfl|rfl|rfl|rfl|rfl|rfl|rfl|rfl|rfl
  iterate 5 exact B _ Js
  iterate 4 exact(show(w2.alloc (JM #[W (r xs j).s,G (r xs j).k,G (r xs j).l,G (r xs j).sd] 25)).cell? _=_ by simp[go_sem])
  exact z.1
  exact z.2.1
  exact z.2.2.1
  exact z.2.2.2
  exact P.1
  exact P.2.1
  exact P.2.2.1
  exact P.2.2.2)
 have q:Hid (Qb w (w2.alloc (JM #[W (r xs j).s,G (r xs j).k,G (r xs j).l,G (r xs j).sd] 25)).drew):=x.trans (((@zC w2 (JM #[W (r xs j).s,G (r xs j).k,G (r xs j).l,G (r xs j).sd] 25)).drew).mono x.size);have M:=S (show GT xs j Vt=Zn (r xs j).s (r xs j).k (r xs j).l (r xs j).sd Vt from F);have N:=S (show GT xs j Vp=Zn (r xs j).s (r xs j).k (r xs j).l (r xs j).sd Vp from F);rw[D M,D N]at v;by_cases hA:AY xs (Y ns ka)<Zn (r xs j).s (r xs j).k (r xs j).l (r xs j).sd Vt;focus have HN:Hid (¬ GX xs ns i):=λh=>Jy ((v.1 h).1)
 all_goals
  go_wp2_with fail
  go_region_held (λw'=>w'.cell? (J (O w.1) 0)=E (Je b Q (Z xs) cap)/\w'.cell? (J (O w.1+1) 2)=E (G ka)/\w'.cell? (J (O w2.1) 0)=E (W (r xs j).s)/\w'.cell? (J (O w2.1) 1)=E (G (r xs j).k)/\w'.cell? (J (O w2.1) 2)=E (G (r xs j).l)/\w'.cell? (J (O w2.1) 3)=E (G (r xs j).sd)/\w'.cell? (J bn (H+ka*4))=E (G (Y ns ka).k)/\w'.cell? (J bn (H+ka*4+1))=E (W (Y ns ka).t)/\w'.cell? (J bn (H+ka*4+2))=E (G (Y ns ka).a)/\w'.cell? (J bn (H+ka*4+3))=E (G (Y ns ka).b)) (first|(go_keep;done)|exact⟨K (O w.1,0,Je b Q (Z xs) cap) Js,K (O w.1+1,2,G ka) Js,K (O w2.1,0,W (r xs j).s) Js,K (O w2.1,1,G (r xs j).k) Js,K (O w2.1,2,G (r xs j).l) Js,K (O w2.1,3,G (r xs j).sd) Js,K (bn,H+ka*4,G (Y ns ka).k) Js,K (bn,H+ka*4+1,W (Y ns ka).t) Js,K (bn,H+ka*4+2,G (Y ns ka).a) Js,K (bn,H+ka*4+3,G (Y ns ka).b) Js⟩)
   (first|(go_at_call 149;have HX:=O4 b Q cap xs (Y ns ka) _ hm (hw.y q hB) (ym hB q.size) ha;refine HX.mono ?_;clear HX;rintro e w3 ⟨rfl,hb3⟩;replace K:=S (K.y hb3);replace q:=S (q.trans (hb3.mono q.size));clear hb3)|(go_at_call 148;refine(OY (r xs j).s (r xs j).k (r xs j).l (r xs j).sd Vt _ A).mono ?_;rintro e w4 ⟨rfl,hb4⟩;replace K:=S (K.y hb4);replace q:=S (q.trans (hb4.mono q.size));clear hb4))
 all_goals first|(have _:=HN;go_wp2;go_ret;exact⟨⟨_,F,zT HN⟩,q⟩)|skip
 rcases X with X|X
 .have V:=S X;have HY:Hid (GX xs ns i):=v.2 ⟨I,yW X⟩;have d0:=(D K) (O w.1+1,0,G (Y ns i).k) Js;simp only at d0;go_wp2_with fail;go_quiet ((go_at_call 103;exact Calls.quiet_of_same (zV V 1 F _)));go_wp2;go_ret;exact⟨⟨_,F,Zt HY⟩,Pc q F rfl rfl rfl⟩
 .have V:=S X;have o:=S (c X);have t:=S (show GX xs ns i↔Zn (r xs j).s (r xs j).k (r xs j).l (r xs j).sd Vp<=AY xs (Y ns kb) by
   rw[D v]
   constructor
   .rintro⟨_,h|h⟩
    .omega
    .exact h
   .intro h;exact⟨I,yX h⟩)
  replace K:=S (K.y (yN).drew);replace q:=S q.drew;go_wp2_with fail;go_region_held (λw'=>w'.cell? (J (O w.1) 0)=E (Je b Q (Z xs) cap)/\w'.cell? (J (O w.1+1) 0)=E (G (Y ns i).k)/\w'.cell? (J (O w.1+1) 3)=E (G kb)/\w'.cell? (J (O w2.1) 0)=E (W (r xs j).s)/\w'.cell? (J (O w2.1) 1)=E (G (r xs j).k)/\w'.cell? (J (O w2.1) 2)=E (G (r xs j).l)/\w'.cell? (J (O w2.1) 3)=E (G (r xs j).sd)/\w'.cell? (J bn (H+kb*4))=E (G (Y ns kb).k)/\w'.cell? (J bn (H+kb*4+1))=E (W (Y ns kb).t)/\w'.cell? (J bn (H+kb*4+2))=E (G (Y ns kb).a)/\w'.cell? (J bn (H+kb*4+3))=E (G (Y ns kb).b)) (first|(go_keep;done)|exact⟨K (O w.1,0,Je b Q (Z xs) cap) Js,K (O w.1+1,0,G (Y ns i).k) Js,K (O w.1+1,3,G kb) Js,K (O w2.1,0,W (r xs j).s) Js,K (O w2.1,1,G (r xs j).k) Js,K (O w2.1,2,G (r xs j).l) Js,K (O w2.1,3,G (r xs j).sd) Js,K (bn,H+kb*4,G (Y ns kb).k) Js,K (bn,H+kb*4+1,W (Y ns kb).t) Js,K (bn,H+kb*4+2,G (Y ns kb).a) Js,K (bn,H+kb*4+3,G (Y ns kb).b) Js⟩)
   (first|(go_at_call 103;refine(zV V 2 F _).mono ?_;rintro e w5 ⟨rfl,hx5⟩;obtain rfl:=hx5.symm)|(go_at_call 149;have HX:=O4 b Q cap xs (Y ns kb) _ hm (hw.y q hB) (ym hB q.size) o;refine HX.mono ?_;clear HX;rintro e w3 ⟨rfl,hb3⟩;replace K:=S (K.y hb3);replace q:=S (q.trans (hb3.mono q.size));clear hb3)|(go_at_call 148;refine(OY (r xs j).s (r xs j).k (r xs j).l (r xs j).sd Vp _ A).mono ?_;rintro e w4 ⟨rfl,hb4⟩;replace K:=S (K.y hb4);replace q:=S (q.trans (hb4.mono q.size));clear hb4))
  all_goals go_wp2
  all_goals go_ret
  all_goals exact⟨⟨_,F,(by unfold DO;rw[D t];simp)⟩,q⟩
def Ve(b H f i w)(x:Z i<=1048576)(A:Z2 w b H i)(z:C5 i)(l:b<O w.1):Calls Vb 11 #[b9 #[Je b H (Z i) f]] w λe w'=>(∃(a:Option Addr)(c:Nat)(us:Jj)(v:Bool),e=i9 (b9 #[.slice a (Z us) c])/\Hid (ZS w' (O w.1) a us)/\Hid (Zy i us v))/\Qb w w':=by
 have K:Hid (Qb w ((w.alloc (JM #[Je b H (Z i) f] 40)).alloc (JM #[Jl] 40))):=(zC).alloc Js _;have m:=S (TX b H f i _ x (A.y K l) z (ym l K.size));go_enter func11,ntmps11;go_wp2_with fail;go_call D m as e w1 ⟨⟨a,c,us,v,rfl,t,s⟩,d⟩;have M:O w.1+2<=O w1.1:=by have:=d.size;simpa using this
 have n:w1.cell? (J (O w.1+1) 0)=E Jl:=(d.cell (p:=(J (O w.1+1) 0)) Js).trans Jg;have L:w1.frozen? (J (O w.1+1) 0)=Vt:=(d.frozen (p:=(J (O w.1+1) 0)) Js).trans Jg;have B:O w.1+1<O w1.1:=I;have C:¬ (O w.1)+1=O w1.1:=I;have j:=S (K.trans (d.mono Jq));go_wp2_with fail;have Q:=S (show ZS ((w1.setCell (J (O w.1+1) 0) (i6 a (Z us) c)).alloc (JM #[.slice a (Z us) c] 40)) (O w.1) a us from by
  have o:=(t.grown (za (Ld [.slice a (Z us) c] 0 w1 (g:=O w.1+1))) (λq k=>by injection k with k;subst k;simp)).step (@zC _ (JM #[.slice a (Z us) c] 40))
  rcases o with h|⟨g,rfl,y,u⟩
  .exact yW h
  .exact yX ⟨g,F,by simp at y;omega,u⟩)
 refine yQ (v:=b9 #[.slice a (Z us) c]) ?res F ⟨⟨a,c,us,v,F,Q,s⟩,(j.setCell Js _).alloc (by simp[World.setCell];omega) _⟩;case res=>simp[results,results11,go_sem,n,B,C]
