import Derived.Shelf.Strings.Cut
import Derived.Shelf.Strings.Split
import Derived.Shelf.Strconv.Atoi
import Derived.Lib.SmallJoins
import Derived.Deep.RegionHeld3
import Derived.Test.YtdgcbenningkdaaGreatDoorV01
import Derived.Test.YtdgcbenningkdaaGreatDoorV07
import Derived.Test.YtdgcbenningkdaaGreatDoorV08
namespace Go.Proofs.YtdgcbenningkdaaGreatDoor
set_option linter.all false
set_option maxHeartbeats 0
set_option maxRecDepth 100000
open Proofs.Tryz RowKit
variable{B i n:Nat}{T:Nat -> List Ad}{a b s t x:ByteArray}{c:Int}{ms:List zF}{ns:List Ad}{o:Ad}{out:List (List zD)}{ta:List (Option Addr)}{ts:List zR}{tv:List Value}{us xs:List zD}{v:Value}{w w':World}
open _root_.Array renaming size→O
open List renaming length→Z
open Option renaming some→E,none→JL
open Obj renaming cells→JM
open Bool renaming false→Vt,true→Vp
open Proofs.Tryz renaming prog→Vb
open Ending renaming returned→i9
open _root_.ByteArray renaming empty→j6
theorem zap{a:Nat->Jf}(h:¬ B6 a i):Z (a i)<=500:=
 Nat.le_of_not_lt λx=>h ⟨1,yW ⟨F,x⟩,Jd⟩
theorem ZI.small{b d}(h:ZI ms b c d):Z b<=100/\∀o∈b,Z o<=500:=by
 have nil:∀{x y:Int},b=[]/\c=x/\d=y->Z b<=100/\∀o∈b,Z o<=500:=λh=>by grind
 rcases h with⟨_,h⟩|⟨e,⟨_,_,_,_,h⟩|⟨_,h⟩⟩
 .exact nil h
 .exact nil h
 rcases h with⟨_,_,_,_,h⟩|⟨_,h⟩
 .exact nil h
 obtain⟨U,_,h⟩:=h;rcases h with⟨_,_,_,_,h⟩|⟨_,h⟩
 .exact nil h
 rcases h with⟨_,_,_,_,h⟩|⟨_,h⟩
 .exact nil h
 obtain⟨a,_,h⟩:=h;rcases h with⟨_,_,_,_,h⟩|⟨f,h⟩
 .exact nil h
 grind [zap]
theorem A2.body{s}:∀(ls:List (Nat×Nat))(n:Nat)(us:Jv)(os:Jf){u:Jv}{o:Jf}{b:JZ}{c l:Int},A2 s ls n us os u o b c l->b.size<=s.size
 |[],n,us,os,_,_,_,_,_,h=>by obtain⟨rfl,rfl,rfl,rfl,rfl⟩:=h;exact yn
 |p::a,n,us,os,u,o,b,c,l,h=>by
  rcases h with⟨_,rfl,rfl,rfl,rfl,rfl⟩|⟨_,⟨e,d,f,h⟩|⟨_,rfl,rfl,rfl,rfl,rfl⟩⟩
  .unfold CE;split
   .rw[yC];omega
   .exact yn
  .exact A2.body a _ _ _ h
  .exact yn
def V8{u o l}(h:ZC s u o b c l):b.size<=20000:=by
 rcases h with⟨_,rfl,rfl,rfl,rfl,rfl⟩|⟨a,h⟩
 .exact yn
 .exact yy (A2.body _ _ _ _ h) a
theorem ZI.good{b c}(h:ZI ms b 0 c):Z ms<=100/\(∀i,i<Z ms->¬ B2 ms i)/\Z b=Z ms:=by
 rcases h with⟨_,_,h,_⟩|⟨e,⟨_,_,_,_,_,h,_⟩|⟨d,h⟩⟩
 .cases h
 .cases h
 refine⟨e,d,?_⟩;rcases h with⟨_,_,_,_,_,h,_⟩|⟨_,h⟩
 .cases h
 obtain⟨U,_,h⟩:=h;rcases h with⟨_,_,_,_,_,h,_⟩|⟨_,h⟩
 .cases h
 rcases h with⟨_,_,_,_,_,h,_⟩|⟨_,h⟩
 .cases h
 obtain⟨a,_,h⟩:=h;rcases h with⟨_,_,_,_,_,h,_⟩|⟨f,h⟩
 .cases h
 grind
open Go.Shelf
def iO:Go.Shelf.Ren:=⟨fun|145=>194|220=>224|219=>232|217=>228|225=>248|224=>249|267=>250|266=>246|314=>259|n=>n,fun|9=>9|4=>4|59=>253|3=>3|5=>5|46=>315|146=>333|51=>332|n=>n,fun|1=>0|n=>n⟩
def wX:Go.Proofs.Lays.n145 Vb iO:=by constructor<;>first|kernel_rfl|(intro w;kernel_rfl)
def iP:Go.Shelf.Ren:=⟨fun|146=>125|221=>173|268=>212|138=>213|143=>214|195=>229|197=>230|218=>231|219=>232|260=>247|217=>228|225=>248|224=>249|267=>250|266=>246|314=>259|n=>n,fun|9=>9|31=>63|3=>3|4=>4|0=>0|105=>300|21=>21|5=>5|46=>315|119=>328|139=>331|138=>330|146=>333|51=>332|n=>n,fun|1=>0|3=>3|4=>4|n=>n⟩
def Yx:Go.Proofs.Lays.n146 Vb iP:=by constructor<;>first|kernel_rfl|(intro w;kernel_rfl)
def iQ:Go.Shelf.Ren:=⟨fun|172=>175|244=>215|245=>216|247=>233|279=>234|280=>235|281=>236|282=>237|287=>251|316=>252|171=>178|205=>253|321=>260|322=>261|243=>217|246=>238|283=>254|284=>255|285=>256|286=>257|129=>263|317=>262|318=>264|319=>265|320=>266|337=>267|338=>268|n=>n,fun|9=>9|3=>3|75=>234|76=>235|4=>4|5=>5|167=>302|37=>22|0=>0|85=>303|2=>2|168=>305|53=>316|175=>317|46=>315|210=>320|127=>284|145=>338|143=>336|21=>21|171=>322|173=>325|212=>340|51=>332|20=>20|213=>341|232=>344|233=>345|80=>241|n=>n,fun|15=>1|16=>2|17=>5|18=>6|19=>7|n=>n⟩
def wY:Go.Proofs.Lays.n172 Vb iQ:=by constructor<;>first|kernel_rfl|(intro w;kernel_rfl)
def CP(w:JY):=∃m:Int,w.cell? (J 0 0)=E (G m)
def CP.lt(h:CP w):0<O w.1:=by obtain⟨m,h⟩:=h;exact jk _ _ h
def CP.y(h:CP w)(a:Qb w w'):CP w':=by have b:=h.lt;obtain⟨m,h⟩:=h;exact⟨m,Jc a b h⟩
def CP.below'(h:CP w)(b:Below B w w')(a:0<B):CP w':=by obtain⟨m,h⟩:=h;exact⟨m,Jc b a h⟩
def Up{a}(h:Below B a w)(n):Below B a (w.drewN n):=h.trans ⟨F,F,F,yk,λ_ _=>F⟩
theorem zaq(s b a)(f:b=s.extract a s.size)(d:a<=s.size)(j:s.size<=20000)(w)(c:CP w):Calls Vb 194 #[W b,W ⟨#[10]⟩] w λe w'=>e=i9 (.tuple #[W (s.extract a (nx 10 s a)),W (CE s (nx 10 s a)),.bool (decide (nx 10 s a<s.size))])/\Qb w w':=by obtain⟨m,c⟩:=c;subst f;obtain⟨g,h,i⟩:=zaR s a d;go_call Any.strings_Cut wX (s.extract a s.size) ⟨#[10]⟩ m w (by rw[ZW];omega) c as e w' ⟨rfl,n,rfl⟩;refine⟨?_,Up yN n⟩;grind
def pG(s)(g:s.size<=20000)(w)(c:CP w):Calls Vb 125 #[W s,W ⟨#[32]⟩] w λe w'=>∃a:Jv,Hid (Gw a=AA s)/\Z a<=s.size+1/\e=i9 (Ql (O w.1) (Z a) (Z a))/\w'=w.alloc (JM (a.map Value.string).toArray 9):=by obtain⟨m,c⟩:=c;have b:1<=(⟨#[32]⟩:JZ).size:=yk;go_call Any.strings_Split Yx Jk s ⟨#[32]⟩ m w I c b as e w' ⟨rfl,rfl⟩;have d:=Lib.splitB_all ⟨#[32]⟩ b 0 _ s F;have f:=Lib.countB_le ⟨#[32]⟩ b s.size s yk;refine⟨Lib.splitB ⟨#[32]⟩ 0 (Lib.countB s ⟨#[32]⟩) s,S (lP s),I,by rw[d],F⟩
theorem Xw(t)(h:∀i,i<t.size->48<=(bt t i).toNat/\(bt t i).toNat<=57):∀k,k<=t.size->Lib.decFrom 0 (t.data.toList.take k)=E (Zq t k)
 |0,_=>by simp[Lib.decFrom,Zq]
 |k+1,hk=>by refine Lib.decFrom_take t.data.toList k 0 (Zq t k) (bt t k) _ (Xw t h k I) (PQ I) ?_;unfold Lib.digitVal;rw[yU (h k I)]
theorem sN(t)(h:LX t):Lib.atoi t.data.toList=E (Zq t t.size:Int):=by
 obtain⟨m,n,e⟩:=h;have f:=Xw t e t.size yk;rw[List.take_of_length_le (by exact yk)]at f;have c:=PQ (s:=t) (j:=0) I;obtain⟨b,a,i⟩:∃b a,t.data.toList=b::a:=by
  cases hx:t.data.toList with
  |nil=>rw[hx]at c;simp at c
  |cons b a=>exact⟨b,a,F⟩
 rw[i]at f c ⊢;have g:b=bt t 0:=by grind
 have d:=e 0 I;rw[<-g]at d;have l:(b==45)=Vt:=by simp only[jc,ne_eq];rintro rfl;exact yV d.1 Jd
 have k:(b==43)=Vt:=by simp only[jc,ne_eq];rintro rfl;exact yV d.1 Jd
 unfold Lib.atoi Lib.decNat;grind
def wZ(t)(h:DP t=Vp)(w):Calls Vb 175 #[W t] w λe w'=>e=i9 (.tuple #[G (Zq t t.size:Int),.nilIface])/\Qb w w':=by have a:=(Mw t).1 h;go_call Any.strconv_Atoi wY t _ (Jy a.2.1) (sN t a) w as e w' ⟨rfl,u,rfl⟩;exact⟨F,Joins.below_bytesWorld _ _ _ _ yk⟩
open Go.Deep (BT)
def IS(a:Jj):Nat->Nat->ET
 |0,_=>.nil
 |n+1,i=>if zY (Y a i).k=0 then .node (Y a i).k.toNat 0 (Y a i).t .nil .nil
  else if zY (Y a i).k=1 then .node (Y a i).k.toNat 0 (Y a i).t (IS a n (i-1)) .nil
  else .node (Y a i).k.toNat 0 (Y a i).t (IS a n (Y a i).a.toNat) (IS a n (i-1))
theorem sO:∀(T:ET)(s:Nat),Sh T->B1 xs T s->∀n,Ab T<=n->IS xs n (s+Ab T-1)=T:=by
 intro T;induction T with
 |nil=>intro s h;exact h.elim
 |node b o t l a ihl ihr=>
  rintro s ⟨rfl,g⟩ ⟨i,q,j⟩ n v;simp only[Ab]at v;obtain⟨n,rfl⟩:∃m,n=m+1:=⟨n-1,I⟩;have e:s+Ab (.node b 0 t l a)-1=s+Ab l+Ab a:=by grind [Ab]
  rw[e];have hK:(Y xs (s+Ab l+Ab a)).k=(b:Int):=by rw[j];rfl
  have hT:(Y xs (s+Ab l+Ab a)).t=t:=by rw[j];rfl
  have f:((b:Int)).toNat=b:=I;rcases g with⟨c,rfl,rfl⟩|⟨c,d,rfl⟩|⟨c,d,k⟩
  .simp only[IS,hK,hT,c,if_true,f]
  .have hp:=d.pos;have p:s+Ab l+Ab (BT.nil:ET)-1=s+Ab l-1:=by simp[Ab]
   simp only[IS,hK,hT,c,f,p,ihl s d i n I];simp
  .have hp:=d.pos;have w:=k.pos;have u:(Y xs (s+Ab l+Ab a)).a.toNat=s+Ab l-1:=by grind [tN]
   simp only[IS,hK,hT,c,f,u,ihl s d i n I,ihr (s+Ab l) k q n I];simp
def JQ(a:Jj):ET:=IS a (Z a) (Z a-1)
theorem Ps{T}(h:Sh T):JQ (nd T 0)=T:=by have:=sO T 0 h (Gc T) (Ab T) yk;grind [JQ,ZN]
def IP:ET->Prop
 |.nil=>True
 |.node _ _ t l a=>t.size<=20000/\IP l/\IP a
def sP(h:∀i,i<Z xs->BK (Y xs i)):∀(T:ET)(s:Nat),B1 xs T s->s+Ab T<=Z xs->IP T:=by
 intro T;induction T with
 |nil=>intro s _ _;trivial
 |node b o t l a ihl ihr=>rintro s ⟨d,e,f⟩ g;simp only[Ab]at g;have c:=h (s+Ab l+Ab a) I;rw[f]at c;exact⟨c.1,ihl s d I,ihr _ e I⟩
def xA(f):∀(T:ET)(l:Int),IP T->IP (AZ f T l):=by
 intro T;induction T with
 |nil=>intro l _;trivial
 |node b o t l a ihl ihr=>
  rintro h ⟨d,c,e⟩;simp only[AZ];split
  .exact ihl _ c
  .unfold Fk;split
   .exact⟨Jd,⟨d,ihl _ c,ihr _ e⟩,trivial⟩
   .exact⟨d,ihl _ c,ihr _ e⟩
theorem RS:∀(T:ET),IP T->∀s∈Ak T,s.2.size<=20000:=by
 intro T;induction T with
 |nil=>intro _ s c;simp[Ak]at c
 |node b o t l a ihl ihr=>rintro⟨f,g,h⟩ s c;have d:opn.size<=20000:=Jd;have e:Bs.size<=20000:=Jd;grind [Ak]
theorem Om:∀(T:ET),Z (Ak T)<=2*Ab T
 |.nil=>by simp[Ak]
 |.node b o t l a=>by
  have c:=Om l;have d:=Om a;simp only[Ak,Ab];split
  .simp;omega
  .split
   .simp;omega
   .split
    .simp;omega
    .split
     .simp;omega
     .simp;omega
theorem Sq(a)(h:∀x∈a,x.t.size<=20000):∀k,k<=Z a->Z (BL a k)<=20001*k
 |0,_=>by simp[BL]
 |k+1,hk=>by
  have b:=Sq a h k I;have hx:(A1 a k).t.size<=20000:=h _ (by simp[A1,List.getD,(I:k<Z a)]);have H:(A1 a k).t.data.toList.length<=20000:=Ju hx
  simp only[BL,yr];split
  .simp only[yB,je];omega
  .simp only[je];omega
def Ia(T:ET):Jw:=BL (yT T) (Z (yT T))
theorem Yy{T}(h:IP T)(n)(d:Ab T<=n):Z (Ia T)<=20001*(2*n):=by
 have b:=Om T;have c:=Sq (yT T) (λx hx=>by
  simp only[yT,List.mem_map]at hx
  obtain⟨s,a,rfl⟩:=hx
  exact RS T h s a) (Z (yT T)) yk
 grind [yT,Ak,Ia]
def FH(b:Jf)(a:Jj)(s:JZ)(v):=
 (((zM b 0/\Zk a/\DM b a)/\(gS b a (Z a-1) 0 0).length<=20000)/\v=Vp/\s=⟨(Ia (AZ b (JQ a) 0)).toArray⟩) \/
 (¬ ((zM b 0/\Zk a/\DM b a)/\(gS b a (Z a-1) 0 0).length<=20000)/\v=Vt/\s=⟨#[]⟩)
theorem FH.one{c v d}(h:FH ns xs s v)(b:FH ns xs c d):s=c/\v=d:=by
 rcases h with⟨a,rfl,rfl⟩|⟨a,rfl,rfl⟩
 .rcases b with⟨_,rfl,rfl⟩|⟨a',_⟩;all_goals grind
 .rcases b with⟨a',_⟩|⟨_,rfl,rfl⟩;all_goals grind
theorem Ph(h:(zM ns 0/\Zk xs/\DM ns xs)/\(gS ns xs (Z xs-1) 0 0).length<=20000):∃a,a=AZ ns (JQ xs) 0/\ZF ns a/\IP a/\Ab a<=20000/\gS ns xs (Z xs-1) 0 0=nd a 0/\fS ns xs (Z xs-1) 0=Bm ns a:=by
 obtain⟨⟨d,H,Q⟩,x⟩:=h;obtain⟨T,hT,e,hx⟩:=UK H Q;have q:JQ xs=T:=by rw[hx];exact Ps hT.sh
 have K:B1 xs T 0:=by grind [Gc]
 have c:=X4 ns xs T 0 hT.sh K 0 0;have b:=wA ns xs T 0 hT.sh K 0;rw[jd,e]at c b;refine⟨AZ ns (JQ xs) 0,F,?_,?_,?_,?_,?_⟩
 .rw[q];exact(sL d T 0 hT I).1
 .rw[q];exact xA ns T 0 (sP H.2.2.2 T 0 K I)
 .grind [ZN]
 .grind
 .grind
open Go.Maps
def Qv(d w:JY)(K)(p:Nat)(q:Ad)(x:Value):=
 ∃a c b,x=.func (.func K) #[] #[Qp a,Qp c,Qp b]/\O d.1<=a/\O d.1<=c/\O d.1<=b /\
  Cy w a q/\w.cell? (J c 0)=E (Qp p)/\w.cell? (J b 0)=E (G (Zn q.s q.k q.l q.sd Vt))
def dX(p q w)(n:q.s.size<=maxLen):Calls Vb 164 #[Qp p,.agg #[W q.s,G q.k,G q.l,G q.sd]] w λx w'=>(∃v,x=i9 v/\Hid (Qv w w' 205 p q v))/\Below (O w.1) w w':=by
 obtain⟨a,d⟩:=Jx ((w.alloc (JM #[Qp p] 178)).alloc (JM #[W q.s,G q.k,G q.l,G q.sd] 25));have Q:O a.1=O w.1+2:=by rw[d];simp
 have H:Below (O w.1) w a:=by rw[d];exact(zC).alloc Js _
 have l:a.cell? (J (O w.1) 0)=E (Qp p):=by rw[d];simp[go_sem]
 have m:Cy a (O w.1+1) q:=by rw[d];exact⟨Jg,Jg,Jg,Jg⟩
 have j:=Lg q.s q.k q.l q.sd Vt a n;have i:=S (yO l m);have e:=S Q;have f:=S H;rw[d]at j;have k:=S d;go_enter func164,ntmps164;go_wp2_with fail;refine j.mono ?_;rw[<-D k];rintro x c ⟨rfl,b⟩;have X:O w.1+2<=O c.1:=by have:=b.size;rw[D e]at this;exact this
 have K:Below (O w.1) w (c.alloc (JM #[G (Zn q.s q.k q.l q.sd Vt)] 3)):=(f.trans (b.mono f.size)).alloc I _;have o:O w.1<O a.1:=by rw[D e];omega
 have y:O w.1+1<O a.1:=by rw[D e];omega
 have s:(c.alloc (JM #[G (Zn q.s q.k q.l q.sd Vt)] 3)).cell? (J (O w.1) 0)=E (Qp p):=Jc zC Jh (Jc b o i.1);have t:Cy (c.alloc (JM #[G (Zn q.s q.k q.l q.sd Vt)] 3)) (O w.1+1) q:=(i.2.kept (zE.Q (g:=O a.1) b) I).kept (zE.Q (g:=O a.1) zC) I;have u:(c.alloc (JM #[G (Zn q.s q.k q.l q.sd Vt)] 3)).cell? (J (O c.1) 0)=E (G (Zn q.s q.k q.l q.sd Vt)):=Jg;have h:=S (show Qv w (c.alloc (JM #[G (Zn q.s q.k q.l q.sd Vt)] 3)) 205 p q (.func (.func 205) #[] #[Qp (O w.1+1),Qp (O w.1),Qp (O c.1)]) from⟨_,_,_,F,I,I,I,t,s,u⟩);go_wp2;go_ret;exact⟨⟨_,F,h⟩,K⟩
def dD(p q w)(n:q.s.size<=maxLen):Calls Vb 166 #[Qp p,.agg #[W q.s,G q.k,G q.l,G q.sd]] w λx w'=>(∃v,x=i9 v/\Hid (Qv w w' 208 p q v))/\Below (O w.1) w w':=by
 obtain⟨a,d⟩:=Jx ((w.alloc (JM #[Qp p] 178)).alloc (JM #[W q.s,G q.k,G q.l,G q.sd] 25));have Q:O a.1=O w.1+2:=by rw[d];simp
 have H:Below (O w.1) w a:=by rw[d];exact(zC).alloc Js _
 have l:a.cell? (J (O w.1) 0)=E (Qp p):=by rw[d];simp[go_sem]
 have m:Cy a (O w.1+1) q:=by rw[d];exact⟨Jg,Jg,Jg,Jg⟩
 have j:=Lg q.s q.k q.l q.sd Vt a n;have i:=S (yO l m);have e:=S Q;have f:=S H;rw[d]at j;have k:=S d;go_enter func166,ntmps166;go_wp2_with fail;refine j.mono ?_;rw[<-D k];rintro x c ⟨rfl,b⟩;have X:O w.1+2<=O c.1:=by have:=b.size;rw[D e]at this;exact this
 have K:Below (O w.1) w (c.alloc (JM #[G (Zn q.s q.k q.l q.sd Vt)] 3)):=(f.trans (b.mono f.size)).alloc I _;have o:O w.1<O a.1:=by rw[D e];omega
 have y:O w.1+1<O a.1:=by rw[D e];omega
 have s:(c.alloc (JM #[G (Zn q.s q.k q.l q.sd Vt)] 3)).cell? (J (O w.1) 0)=E (Qp p):=Jc zC Jh (Jc b o i.1);have t:Cy (c.alloc (JM #[G (Zn q.s q.k q.l q.sd Vt)] 3)) (O w.1+1) q:=(i.2.kept (zE.Q (g:=O a.1) b) I).kept (zE.Q (g:=O a.1) zC) I;have u:(c.alloc (JM #[G (Zn q.s q.k q.l q.sd Vt)] 3)).cell? (J (O c.1) 0)=E (G (Zn q.s q.k q.l q.sd Vt)):=Jg;have h:=S (show Qv w (c.alloc (JM #[G (Zn q.s q.k q.l q.sd Vt)] 3)) 208 p q (.func (.func 208) #[] #[Qp (O w.1+1),Qp (O w.1),Qp (O c.1)]) from⟨_,_,_,F,I,I,I,t,s,u⟩);go_wp2;go_ret;exact⟨⟨_,F,h⟩,K⟩
theorem DK.two{B P a:Nat->Prop}{R b}(h:DK n B P R)(c:DK n B a b):(∃i,i<n/\P i/\a i)\/((∀i,i<n->¬ B i)/\R/\b):=by rcases h with⟨i,k,e,d,f⟩|⟨d,g⟩<;>rcases c with⟨j,l,K,H,Q⟩|⟨H,q⟩;all_goals grind
theorem ZG.eq{U a}(h:ZG ms U)(b:ZG ms a):U=a:=by
 refine List.ext_getElem (h.1.trans b.1.symm) λi c d=>?_
 have:=h.one b i (by rw[<-h.1];exact c);grind [Ah]
theorem Fj.one{c U}{a T:Nat->Jf}{rk:Nat->Nat}(d:Fj c U a)(hT:Fj c U T)(e:∀i,i<Z c->∀u∈(Ah U i).us,An c u<Z c/\rk (An c u)<rk i):∀b i,i<Z c->rk i<b->a i=T i
 |0,i,_,h=>I
 |b+1,i,hi,h=>by
  rw[d i hi,hT i hi];refine Q9 _ _ λu g=>?_
  obtain⟨f,j⟩:=e i hi u g;exact Fj.one d hT e b _ f I
theorem ZI.one{t o g c s p l}(h:ZI t o c p)(f:ZI t g s l):o=g/\c=s/\p=l:=by
 have n:∀{x:Nat}{k:Int},(o=[]/\c=k/\p=(x:Int))->(g=[]/\s=k/\l=(x:Int))->o=g/\c=s/\p=l:=λa b=>⟨a.1.trans b.1.symm,a.2.1.trans b.2.1.symm,a.2.2.trans b.2.2.symm⟩
 rcases h with⟨a,h⟩|⟨a,h⟩<;>rcases f with⟨C,f⟩|⟨C,f⟩
 .grind
 .omega
 .omega
 rcases h.two f with⟨i,_,h,f⟩|⟨h2,h,f⟩
 .exact n h f
 rcases DK.two h f with⟨i,_,h,f⟩|⟨V,⟨U,hU,h⟩,⟨U',K,f⟩⟩
 .exact n h f
 obtain rfl:=hU.eq K;rcases h.two f with⟨i,_,h,f⟩|⟨A,h,f⟩
 .exact n h f
 rcases DK.two h f with⟨i,_,h,f⟩|⟨X,⟨d,hS,h⟩,⟨T,hT,f⟩⟩
 .exact n h f
 obtain⟨z,hr,q⟩:=Ow V A X;have e:∀i,i<Z t->d i=T i:=λi m=>hS.one hT (rk:=z) (λi m u B=>⟨(NX m (A i m) B).1,hr i m u B⟩) (z i+1) i m I
 have v:∀i,i<Z t->(B6 d i↔B6 T i):=λi m=>by grind [B6]
 have H:DK (Z t) (B6 d) (λi=>g=[]/\s=6/\l=(i:Int)) (g=(List.range (Z t)).map T/\s=0/\l=0):=by
  rcases f with⟨i,m,b,w,y⟩|⟨w,y⟩
  .exact yW ⟨i,m,(v i m).2 b,λj hj x=>w j hj ((v j I).1 x),y⟩
  .exact yX ⟨λi m x=>w i m ((v i m).1 x),y⟩
 rcases h.two H with⟨i,_,h,f⟩|⟨_,⟨L,M,N⟩,⟨P,Q,R⟩⟩
 .exact n h f
 .refine⟨?_,M.trans Q.symm,N.trans R.symm⟩;rw[L,P];exact List.map_congr_left λi m=>e i (List.mem_range.1 m)
theorem I1{b s}:∀(ts:JA)(i:Nat),Zr b s i ts->0<Z ts/\(Aa ts (Z ts-1)).k=7
 |[],_,h=>h.elim
 |t::out,i,h=>by
  rcases h with⟨rfl,_,_,rfl⟩|⟨p,n,k,_,_,_,_,_,rfl,a⟩
  .exact⟨Js,F⟩
  .obtain⟨h1,h2⟩:=I1 out _ a;refine⟨Js,?_⟩;have e:Z (⟨(k:Int),s.extract i p,s.extract p (p+n)⟩::out:JA)-1=(Z out-1)+1:=Jq;rw[e];exact h2
theorem Mi{b s}:∀(ts:JA)(i:Nat),Zr b s i ts->∀j,j<Z ts->(Aa ts j).g.size<=s.size/\(Aa ts j).t.size<=s.size
 |[],_,h,_,_=>h.elim
 |t::out,i,h,j,hj=>by
  rcases h with⟨rfl,_,_,rfl⟩|⟨p,n,k,_,_,_,_,_,rfl,a⟩
  .have:j=0:=by simp at hj;omega
   subst this;refine⟨?_,?_⟩
   .simp[Aa,yC]
   .simp[Aa];exact yn
  .cases j with
   |zero=>exact⟨by simp[Aa,yC];omega,by simp[Aa,yC];omega⟩
   |succ j=>exact Mi out _ a j (Ju hj)
theorem P4(c:CM ns ts (Z ts))(d:0<Z ts/\(Aa ts (Z ts-1)).k=7):∀i,i<Z ts->AW ns (BC ns ts i,BM ts i) (Aj ns ts i (Z ts-i)):=by
 intro i g;obtain⟨h,H⟩:=SW c d.1 d.2;have k:Z ts-1=i+(Z ts-1-i):=I;have a:Aj ns ts 0 (Z ts-1)=Aj ns ts 0 i++Aj ns ts i (Z ts-1-i):=by grind [NZ]
 have f:Aj ns ts i (Z ts-i)=Aj ns ts i (Z ts-1-i)++[BH]:=by have e:Z ts=i+(Z ts-i):=I;have b:=NZ ns ts 0 i (Z ts-i);rw[<-e,jd,H,a,yD]at b;exact(List.append_cancel_left b).symm
 refine⟨Aj ns ts i (Z ts-1-i),f,?_⟩;unfold BW at h;rw[a,Np,SV i g (λj l=>c j I)]at h;exact h
def xC(c:zM ns 0)(h:Bg ns (Z ns))(d:s.size<=20000)(hx:Zr ns s 0 ts)(a:CM ns ts (Z ts)):OJ ns ts where
 code:=c
 all:=P4 a (I1 ts 0 hx)
 role:=a
 tok:=SU (Mg h) ts 0 hx
 size:=λi b=>by have:=(Mi ts 0 hx i b).2;unfold maxLen;omega
 len:=Jy (Zr.len ts 0 hx)
def LP(b)(d:JA)(e:Jj)(c p:Int):=
 (RD b 0 JL (Aj b d 0 (Z d))=JL/\e=[]/\c=5/\p=0) \/
 ∃T a,RD b 0 JL (Aj b d 0 (Z d))=E (T,a)/\((1000<hT T/\e=[]/\c=6/\p=0)\/(hT T<=1000/\e=nd T 0/\c=0/\p=0))
def Qm(b a d c p):=
 (∃i,i<Z a/\(Aa a i).k=6/\(∀j,j<i->(Aa a j).k≠6)/\d=[]/\c=3/\p=(FU a i:Int)) \/
 ((∀j,j<Z a->(Aa a j).k≠6) /\
  ((∃i,i<Z a/\CM b a i/\zh b a i<0/\d=[]/\c=4/\p=(FU a i:Int))\/(CM b a (Z a)/\LP b a d c p)))
def Zs(a s b c p):=
 (¬ zM a 0/\b=[]/\c=1/\p=0) \/
 (zM a 0/\((20000<s.size/\b=[]/\c=2/\p=0)\/(s.size<=20000/\∃ts,Zr a s 0 ts/\Qm a ts b c p)))
theorem LP.one{b e p f}(h:LP ns ts us c p)(d:LP ns ts b e f):us=b/\c=e/\p=f:=by
 rcases h with⟨g,rfl,rfl,rfl⟩|⟨T,a,g,h⟩
 .rcases d with⟨h2,rfl,rfl,rfl⟩|⟨T',r',h2,d⟩;all_goals grind
 .rcases d with⟨h2,rfl,rfl,rfl⟩|⟨T',r',h2,d⟩;all_goals grind
theorem Qm.one{m q s g c k p o}(h:Qm m q s c p)(d:Qm m q g k o):s=g/\c=k/\p=o:=by
 rcases h with⟨i,l,t,u,rfl,rfl,rfl⟩|⟨a,h⟩
 .rcases d with⟨j,hj,b1,b2,rfl,rfl,rfl⟩|⟨b,d⟩;all_goals grind
 .rcases d with⟨j,hj,b1,b2,rfl,rfl,rfl⟩|⟨b,d⟩
  .exact yV b1 (a j hj)
  .rcases h with⟨i,l,f,n,rfl,rfl,rfl⟩|⟨f,h⟩
   .rcases d with⟨j,hj,f',n',rfl,rfl,rfl⟩|⟨f',d⟩
    .rcases(I:i=j\/i<j\/j<i) with e|e|e
     .subst e;exact⟨F,F,F⟩
     .have:=f' i e;omega
     .have:=f j e;omega
    .have:=f' i l;omega
   .rcases d with⟨j,hj,f',n',rfl,rfl,rfl⟩|⟨f',d⟩
    .have:=f j hj;omega
    .exact h.one d
theorem Zs.one{g s j d c f p i}(h:Zs g s j c p)(a:Zs g s d f i):j=d/\c=f/\p=i:=by
 rcases h with⟨n,rfl,rfl,rfl⟩|⟨n,h⟩
 .rcases a with⟨n',rfl,rfl,rfl⟩|⟨n',a⟩;all_goals grind
 .rcases a with⟨n',rfl,rfl,rfl⟩|⟨n',a⟩
  .grind
  .rcases h with⟨b,rfl,rfl,rfl⟩|⟨b,ts,hx,h⟩
   .grind
   .rcases a with⟨b',rfl,rfl,rfl⟩|⟨b',ts',H,a⟩
    .omega
    .have e:=Zr.one _ _ _ hx H;subst e;exact h.one a
def AM(a:JF)(i:Nat):Jj:=a.getD i []
theorem V9(h:i<Z out):AM (out++[us]) i=AM out i:=by grind [AM]
theorem Wa:AM (out++[us]) (Z out)=us:=by grind [AM]
def F6(T:Nat->Jf)(b:Nat->ByteArray)(i a c):=∃p,Zs (T i) (b i) a c p
def F6.one{T:Nat->Jf}{b:Nat->ByteArray}{i f a c e}(h:F6 T b i f c)(d:F6 T b i a e):f=a/\c=e:=by obtain⟨p,h⟩:=h;obtain⟨k,d⟩:=d;obtain⟨g,j,_⟩:=h.one d;exact⟨g,j⟩
def DU(T:Nat->Jf)(b:Nat->ByteArray)(k a):=Z a=k/\∀i,i<k->F6 T b i (AM a i) 0
def DU.nil(T:Nat->Jf)(b:Nat->ByteArray):DU T b 0 []:=⟨F,λi a=>yV a (yz i)⟩
theorem DU.step{b:Nat->ByteArray}{k}(h:DU T b k out)(a:F6 T b k us 0):DU T b (k+1) (out++[us]):=by
 refine⟨by simp[h.1],λi c=>?_⟩;by_cases e:i<k
 .rw[V9 (by rw[h.1];exact e)];exact h.2 i e
 .obtain rfl:i=k:=I;have e:AM (out++[us]) i=us:=by rw[<-h.1];exact Wa
  grind
def FW(T:Nat->Jf)(b:Nat->ByteArray)(n a c d):=
 (∃k us e t,k<n/\DU T b k t/\F6 T b k us e/\e≠0/\a=[]/\c=10+e/\d=(k:Int))\/(DU T b n a/\c=0/\d=0)
def FW.hit{b:Nat->ByteArray}{k t a d}(h:FW T b n out c a)(q:k<n)(s:DU T b k t)(f:F6 T b k us d)(l:d≠0):out=[]/\c=10+d/\a=(k:Int):=by
 rcases h with⟨g,u,m,v,i,o,j,p,rfl,rfl,rfl⟩|⟨i,_⟩
 .have e:g=k:=by
   rcases Nat.lt_trichotomy g k with e|e|e
   .exact yV (((s.2 g e).one j).2).symm p
   .exact e
   .exact yV (((o.2 k e).one f).2).symm l
  subst e;exact⟨F,by rw[(j.one f).2],F⟩
 .exact yV (((i.2 k q).one f).2).symm l
theorem FW.miss{b:Nat->ByteArray}{t d}(h:FW T b n out c d)(e:DU T b n t):out=t/\c=0/\d=0:=by
 rcases h with⟨l,m,g,p,a,o,j,k,_⟩|⟨a,rfl,rfl⟩
 .exact yV (((e.2 l a).one j).2).symm k
 .refine⟨List.ext_getElem (by rw[a.1,e.1]) λi f H=>?_,F,F⟩;have:=(a.2 i (by rw[<-a.1];exact f)).one (e.2 i (by rw[<-a.1];exact f));grind [AM]
def Zg(f b c d):=∃a e g,ZI f a e g/\((e≠0/\b=[]/\c=e/\d=g)\/(e=0/\∃U,ZG f U/\FW (zy a) (λi=>(Ah U i).b) (Z f) b c d))
def Xx:(prog.info? 40).map (λi=>(i.zero,i.size,i.bytes))=E (E (.agg #[Jl]),1,24):=Jk
def Gr(w:JY)(B:Nat)(v)(a:JD):=w.ownsRow B 40 1 v (Z a) a
def I6{e s d}(h:w.ownsRow B e s v n d)(k:∀g,v.ownBlock=E g->w'.heap[g]?=w.heap[g]?):w'.ownsRow B e s v n d:=by
 obtain⟨a,b|⟨g,c,H,b,f,i,j⟩⟩:=h
 .exact⟨a,yW b⟩
 .exact⟨a,yX ⟨g,c,H,b,f,(k g (by rw[b];rfl)).trans i,j⟩⟩
def ZS.same{a}(h:ZS w n a us)(x:O w.1<=O w'.1)(v:∀q,a.map (·.block)=E q->w'.heap[q]?=w.heap[q]?):ZS w' n a us:=by
 rcases h with h|⟨g,rfl,u,p,b,s⟩
 .exact yW h
 .have hb:=v g F;have e:∀o,w'.cell? (J g o)=w.cell? (J g o):=λo=>yv (w:=w) hb
  have f:∀o,w'.frozen? (J g o)=w.frozen? (J g o):=λo=>yG (w:=w) hb
  refine yX ⟨g,F,u,ym p x,λj c=>⟨by rw[e];exact(b j c).1,by rw[f];exact(b j c).2⟩,λi t=>?_⟩;obtain⟨d,k,l,m⟩:=s i t;exact⟨(e _).trans d,(e _).trans k,(e _).trans l,(e _).trans m⟩
def ZS.base{b a}(h:ZS w n a us)(f:b<=n):ZS w b a us:=by
 rcases h with h|⟨g,c,e,d⟩
 .exact yW h
 .exact yX ⟨g,c,I,d⟩
structure Dx(w:JY)(B:Nat)(v:Value)(tv:JD)(ta:List (Option Addr))(b:JF):Prop where
 row:Gr w B v tv
 len:Z tv=Z b/\Z ta=Z b
 el:∀j,j<Z b->∃a c,tv[j]?=E (.slice a (Z (AM b j)) c)/\ta[j]?=E a/\ZS w B a (AM b j)/\∀q,a.map (·.block)=E q->v.ownBlock≠E q
 ap:∀i j:Nat,i<j->∀a d:Option Addr,ta[i]?=E a->ta[j]?=E d->∀q,a.map (·.block)=E q->d.map (·.block)≠E q
def Dx.nil(w B):Dx w B Jl [] [] []:=⟨jt,⟨F,F⟩,λj b=>yV b (yz j),λi j _ a c h=>by simp at h⟩
def Dx.keep(h:Dx w B v tv ta out)(m:O w.1<=O w'.1)(d:∀q,B<=q->q<O w.1->w'.heap[q]?=w.heap[q]?):Dx w' B v tv ta out:=by refine⟨I6 h.row (λg e=>d g (ji h.row g e).1 (ji h.row g e).2),h.len,λj l=>?_,h.ap⟩;obtain⟨a,c,f,i,b,k⟩:=h.el j l;exact⟨a,c,f,i,b.same m (λq e=>d q (b.lt q e).1 (b.lt q e).2),k⟩
theorem Dx.step{f s:JY}{n:Nat}{l:Value}{a:Option Addr}(h:Dx w B v tv ta out)(C:B<=O w.1)(V:O w.1<=O f.1)(N:∀q,B<=q->q<O w.1->f.heap[q]?=w.heap[q]?)(k:ZS f (O w.1) a us)(p:f.grownBy s v.ownBlock)(M:Gr s B l (tv++[.slice a (Z us) n]))(Q:l.ownBlock=v.ownBlock\/∃q,l.ownBlock=E q/\O f.1<=q):Dx s B l (tv++[.slice a (Z us) n]) (ta++[a]) (out++[us]):=by
 have X:=p.size;have U:=h.len;have P:∀g,v.ownBlock=E g->B<=g/\g<O w.1:=λg e=>ji h.row g e
 have u:∀g,g<O f.1->v.ownBlock≠E g->l.ownBlock≠E g:=λg A t e=>by grind
 have z:∀q,a.map (·.block)=E q->v.ownBlock≠E q:=λq e o=>by have:=(k.lt q e).1;have:=(P q o).2;omega
 refine⟨M,Jq,λj L=>?_,λi j H x y hx m q e=>?_⟩
 .by_cases e:j<Z out
  .obtain⟨x,c,A,t,d,h4⟩:=h.el j e;rw[V9 e];refine⟨x,c,by grind,by grind,d.same I (λq b=>(p.block q (Jy ((d.lt q b).2)) (λe=>h4 q b e.symm)).trans (N q (d.lt q b).1 (d.lt q b).2)),λq b=>u q (Jy ((d.lt q b).2)) (h4 q b)⟩
  .obtain rfl:j=Z out:=by grind
   rw[Wa];refine⟨a,n,by grind,by grind,(k.same I (λq b=>p.block q (k.lt q b).2 (λe=>z q b e.symm))).base C,λq b=>u q (k.lt q b).2 (z q b)⟩
 .have L:j<Z out+1:=by grind
  have K:ta[i]?=E x:=by grind
  by_cases T:j<Z out
  .exact h.ap i j H x y K (by grind) q e
  .obtain rfl:j=Z ta:=I;rw[List.getElem?_concat_length]at m;injection m with m;subst m;intro o;obtain⟨R,c,_,t,d,_⟩:=h.el i I;have:x=R:=by grind
   subst this;have:=(d.lt q e).2;have:=(k.lt q o).1;omega
structure zb7(w:JY)(B g:Nat)(ta:Nat->Option Addr)(tc:Nat->Nat)(a:JF):Prop where
 hg:g<O w.1
 ce:∀i,i<Z a->w.cell? (J g i)=E (.slice (ta i) (Z (AM a i)) (tc i))
 ro:∀i,i<Z a->ZS w B (ta i) (AM a i)
 ng:∀i,i<Z a->(ta i).map (·.block)≠E g
 ap:∀i j,i<Z a->j<Z a->i≠j->∀q,(ta i).map (·.block)=E q->(ta j).map (·.block)≠E q
def Fd(w B v b):=(∃a c,v=.slice a (Z b) c)/\(Z b=0\/∃g c ta d,B<=g/\v = Ql g (Z b) c/\zb7 w B g ta d b)
theorem Fd.grown{w j B v a row}(h:Fd w B v a)(d:w.grownBy j row)(n:∀q,row=E q->q<B):Fd j B v a:=by obtain⟨k,l⟩:=h;refine⟨k,l.imp id ?_⟩;rintro⟨g,c,ta,o,m,e,h⟩;have p:=d.size;have H:=h.hg;exact⟨g,c,ta,o,m,e,⟨I,λi f=>(zJ d (b:=g) H (λx=>by grind) i).trans (h.ce i f),λi f=>(h.ro i f).grown d n,h.ng,h.ap⟩⟩
def Fd.low{a}(h:Fd w B v out)(f:a<=B):Fd w a v out:=by obtain⟨b,d⟩:=h;refine⟨b,d.imp id ?_⟩;rintro⟨g,c,ta,k,l,e,h⟩;exact⟨g,c,ta,k,I,e,⟨h.hg,h.ce,λi j=>(h.ro i j).base f,h.ng,h.ap⟩⟩
theorem Dx.res(h:Dx w B v tv ta out):Fd w B v out:=by
 have s:=h.len;have H:=h.row;obtain⟨a,c,rfl⟩:∃a c,v=.slice a (Z tv) c:=zS h.row;refine⟨⟨a,c,by rw[s.1]⟩,?_⟩;by_cases A:Z out=0
 .exact yW A
 obtain⟨_,⟨p,C⟩|⟨g,t,Q,p,C,R,T⟩⟩:=id h.row
 .grind
 .have ha:a=E (J g 0):=by injection p
  subst ha;have b:∀i,i<Z out->∃x c,tv[i]?=E (.slice x (Z (AM out i)) c)/\ta[i]?=E x/\ZS w B x (AM out i)/\(∀q,x.map (·.block)=E q->g≠q)/\ta.getD i JL=x:=λi d=>by obtain⟨x,c,m,f,n,k⟩:=h.el i d;exact⟨x,c,m,f,n,λq e x=>k q e (by rw[<-x];rfl),by grind⟩
  refine yX ⟨g,c,λi=>ta.getD i JL,λi=>match tv[i]? with|some (.slice _ _ c)=>c|_=>0,(ji H g F).1,by rw[s.1],⟨(ji H g F).2,λi d=>?_,λi d=>?_,λi d=>?_,λi j d L K q e=>?_⟩⟩
  .obtain⟨x,c',m,f,n,_,k⟩:=b i d;have:=jK H i I;grind
  .grind
  .grind
  .obtain⟨x,c',m,f,n,_,k⟩:=b i d;obtain⟨y,M,N,o,P,_,z⟩:=b j L;simp only[k]at e;simp only[z];rcases Nat.lt_trichotomy i j with l|l|l
   .exact h.ap i j l x y f o q e
   .grind
   .exact λu=>h.ap j i l y x o f q u e
def FW.one{b:Nat->ByteArray}{a g e d}(h:FW T b n out c e)(i:FW T b n a g d):out=a/\c=g/\e=d:=by
 rcases i with⟨k,us,o,t,f,j,l,m,rfl,rfl,rfl⟩|⟨f,rfl,rfl⟩
 .exact h.hit f j l m
 .exact h.miss f
theorem Zg.one{k f b c j g d}(h:Zg k f c g)(e:Zg k b j d):f=b/\c=j/\g=d:=by
 obtain⟨l,s,t,hL,h⟩:=h;obtain⟨i,n,p,H,e⟩:=e;obtain⟨rfl,rfl,rfl⟩:=hL.one H;rcases h with⟨a,rfl,rfl,rfl⟩|⟨a,U,o,h⟩<;>rcases e with⟨m,rfl,rfl,rfl⟩|⟨m,q,K,e⟩
 .grind
 .grind
 .grind
 .obtain rfl:=o.eq K;exact h.one e
theorem Gg(h:i<a.size):bt (a++b) i=bt a i:=by unfold bt;rw[jG,Array.getElem?_append_left (Ju h)]
def EE(i):bt (a++b) (a.size+i)=bt b i:=by
 unfold bt;rw[jG,Array.getElem?_append_right (show a.data.size<=a.size+i from Nat.le_add_right _ _)];have e:a.size+i-a.data.size=i:=by show a.data.size+i-a.data.size=i;omega
 rw[e]
def Z1(a b c:JZ):a++b++c=a++(b++c):=by apply jy;simp[jG,Array.append_assoc]
theorem zQ(a b:JZ):(a++b).size=a.size+b.size:=Js
theorem aP(a:JZ):a.size=Z a.data.toList:=rfl
theorem aQ(h:a.data.toList=b.data.toList):a=b:=by apply jy;exact Array.ext' h
theorem aR(s:JZ)(i j):(s.extract i j).data.toList=(s.data.toList.drop i).take (j-i):=by rw[ByteArray.data_extract,Array.toList_extract,List.extract_eq_take_drop]
theorem On(a b:JZ):(a++b).data.toList=a.data.toList++b.data.toList:=by rw[jG,Array.toList_append]
theorem MI(a l b:JZ):(a++(l++b)).extract a.size (a.size+l.size)=l:=by grind [aQ,aR,On,aP]
theorem S1(a b:JZ):(a++b).extract a.size (a++b).size=b:=by grind [aQ,aR,On,zQ,aP]
def one(c:UInt8):ByteArray:=⟨#[c]⟩
theorem ZY(c):(one c).size=1:=rfl
theorem Oo(c):bt (one c) 0=c:=rfl
def Fh(c l):=∀i,i<l.size->bt l i≠c
theorem Tm{c}(a l d)(h:Fh c l):nx c (a++(l++(one c++d))) a.size=a.size+l.size:=by
 have g:(a++(l++(one c++d))).size=a.size+(l.size+(1+d.size)):=by grind [zQ,ZY]
 refine JP I I I (λk e f=>?_) (λ_=>?_)
 .obtain⟨j,rfl⟩:=Nat.exists_eq_add_of_le e;rw[EE,Gg I];exact h j I
 .rw[EE];have:=EE (a:=l) (b:=one c++d) 0;grind [Gg,ZY,Oo]
def uT{c}(a l)(h:Fh c l):nx c (a++l) a.size=a.size+l.size:=by have e:=zQ a l;refine JP I I I (λk b d=>?_) (λh=>I);obtain⟨j,rfl⟩:=Nat.exists_eq_add_of_le b;rw[EE];exact h j I
def CS(x):=1<=x.size/\Fh 32 x/\Fh 10 x
def ZR:List ByteArray->ByteArray
 |[]=>j6
 |[x]=>x
 |x::y::a=>x++(one 32++ZR (y::a))
theorem Xy:∀(c:Jv)(a:JZ),c≠[]->(∀x∈c,CS x)->Fy (a++ZR c) a.size=c
 |[],_,h,_=>yV F h
 |[x],a,_,h=>by have hx:=h x Js;have d:=zQ a x;show Fy (a++x) a.size=[x];rw[Mf _ _ (by omega)];rw[uT a x hx.2.1,yU (Jy hx.1),yS I];have:=S1 a x;rw[d]at this;rw[this];rfl
 |x::y::b,a,_,h=>by
  have hx:=h x Js;have d:(a++(x++(one 32++ZR (y::b)))).size=a.size+(x.size+(1+(ZR (y::b)).size)):=by rw[zQ,zQ,zQ,ZY]
  have f:=Xy (y::b) (a++x++one 32) Js (λz e=>h z (by simp at e ⊢;right;exact e));have g:a++x++one 32++ZR (y::b)=a++(x++(one 32++ZR (y::b))):=by rw[Z1,Z1]
  have i:(a++x++one 32).size=a.size+x.size+1:=by rw[zQ,zQ,ZY]
  rw[g,i]at f;show Fy (a++(x++(one 32++ZR (y::b)))) a.size=_;rw[Mf _ _ (by omega)];rw[Tm a x _ hx.2.1,yU (Jy hx.1),yU I,MI,f];rfl
def pH{a}(b:a≠[])(h:∀x∈a,CS x):AA (ZR a)=a:=by
 have:=Xy a j6 b h;have e:j6++ZR a=ZR a:=by apply jy;simp[jG]
 rw[e]at this;exact this
theorem Xz:∀(g:Jv),(∀x∈g,CS x)->Fh 10 (ZR g)
 |[],_=>λi d=>by simp[ZR]at d
 |[x],h=>(h x Js).2.2
 |x::y::c,h=>λi d=>by
  have m:=Xz (y::c) (λz f=>h z (by simp at f ⊢;right;exact f));simp only[ZR]at d ⊢;rw[zQ,zQ,ZY]at d;by_cases e:i<x.size
  .rw[Gg e];exact(h x Js).2.2 i e
  .obtain⟨j,rfl⟩:=Nat.exists_eq_add_of_le (Nat.le_of_not_lt e);rw[EE];by_cases l:j<1
   .obtain rfl:j=0:=I;rw[Gg (by rw[ZY];omega)];decide
   .obtain⟨k,rfl⟩:=Nat.exists_eq_add_of_le (Nat.le_of_not_lt l);have:=EE (a:=one 32) (b:=ZR (y::c)) k;rw[ZY]at this;rw[this];exact m k I
def DB:List ByteArray->ByteArray->ByteArray
 |[],b=>b
 |l::a,b=>l++(one 10++DB a b)
def KY(a t k):=(k=1/\C2 t)\/(k=2/\Cv t)\/(k=3/\Bf a t)\/(k=4/\t=opn)\/(k=5/\t=Bs)
def TP(k R):=0<R.size->((k=1\/k=2)->Ai (bt R 0)≠2/\Ai (bt R 0)≠3)/\(k=3->Ai (bt R 0)≠6)
theorem LQ(b:ZZ ns)(h:Bf ns t):1<=t.size/\∀q,q<t.size->Ai (bt t q)=6:=by obtain⟨j,a,rfl⟩:=h;exact⟨(b j a).1,(b j a).2.2⟩
theorem S2(a:ZZ ns){k}(h:KY ns t k):1<=t.size:=by
 rcases h with⟨_,h⟩|⟨_,h⟩|⟨_,h⟩|⟨_,rfl⟩|⟨_,rfl⟩
 .exact h.1
 .exact h.1
 .grind [LQ]
 .decide
 .decide
theorem pI(a:ZZ ns){k}(h:KY ns t k):Ai (bt t 0)≠1:=by
 rcases h with⟨_,h⟩|⟨_,h⟩|⟨_,h⟩|⟨_,rfl⟩|⟨_,rfl⟩
 .rw[h.2 0 h.1];decide
 .rcases h.2 0 h.1 with e|⟨e,_⟩;all_goals grind
 .rw[(LQ a h).2 0 (LQ a h).1];decide
 .decide
 .decide
theorem mX(n:ZZ ns)(P w R){k}(h:KY ns w k)(l:TP k R):Dm ns (P++(w++R)) P.size w.size k:=by
 have f:=S2 n h;have t:(P++(w++R)).size=P.size+(w.size+R.size):=by grind
 have g:∀j,j<w.size->bt (P++(w++R)) (P.size+j)=bt w j:=λj c=>by rw[EE,Gg c]
 have d:bt (P++(w++R)) P.size=bt w 0:=g 0 f;have i:bt (P++(w++R)) (P.size+w.size)=bt R 0:=by rw[EE];have:=EE (a:=w) (b:=R) 0;grind
 have o:P.size+w.size<(P++(w++R)).size->0<R.size:=λx=>I
 refine⟨f,I,?_⟩;rcases h with⟨rfl,h⟩|⟨rfl,h⟩|⟨rfl,h⟩|⟨rfl,rfl⟩|⟨rfl,rfl⟩
 .exact yW ⟨by rw[d];exact h.2 0 f,F,λj c=>by rw[g j c];exact h.2 j c,λx=>by rw[i];exact((l (o x)).1 (yW F)).1⟩
 .refine yX (yW ⟨?_,F,λj c=>?_,λx=>?_⟩)
  .rw[d];rcases h.2 0 f with e|⟨e,_⟩;all_goals grind
  .rw[g j c];rcases h.2 j c with e|⟨_,e⟩;all_goals grind
  .rw[i];have:=(l (o x)).1 (yX F);grind
 .have hc:=LQ n h;have e:sub (P++(w++R)) P.size w.size=w:=MI P w R;refine yX (yX (yX (yX (yW ⟨by grind,yW ⟨F,by grind,λm p q s=>?_⟩⟩))));have K:=LQ n s;have H:0<R.size:=I;have:=K.2 w.size (by grind [FB]);rw[GP q p,i]at this;exact(l H).2 F this
 .exact yX (yX (yW ⟨by rw[d];decide,F,F⟩))
 .exact yX (yX (yX (yW ⟨by rw[d];decide,F,F⟩)))
structure L4 where
 g:JZ
 w:JZ
 k:Nat
def BX:List L4->ByteArray->ByteArray
 |[],e=>e
 |x::a,e=>x.g++(x.w++BX a e)
def Bl(g):=∀i,i<g.size->Ai (bt g i)=1
def Qn(b:Jf):List L4->ByteArray->Prop
 |[],e=>Bl e
 |x::a,e=>Bl x.g/\KY b x.w x.k/\TP x.k (BX a e)/\Qn b a e
def OK(x:L4):zR:=⟨(x.k:Int),x.g,x.w⟩
theorem Wb{d}(g:ZZ d):∀(xs:List L4)(e a:JZ),Qn d xs e->Zr d (a++BX xs e) a.size (xs.map OK++[⟨7,e,⟨#[]⟩⟩])
 |[],e,a,h=>by
  have C:=zQ a e;have:=Zr.fin (xs:=d) (s:=a++e) (i:=a.size) I (λq l f=>by
   obtain⟨j,rfl⟩:=Nat.exists_eq_add_of_le l
   rw[EE]
   exact h j I)
  rw[S1]at this;exact this
 |x::c,e,a,h=>by
  obtain⟨l,f,y,z⟩:=h;have p:=Wb g c e (a++x.g++x.w) z;have B:=S2 g f;have t:a++x.g++x.w++BX c e=a++(x.g++(x.w++BX c e)):=by rw[Z1,Z1]
  have u:(a++x.g++x.w).size=a.size+x.g.size+x.w.size:=by rw[zQ,zQ]
  have v:(a++x.g)++(x.w++BX c e)=a++(x.g++(x.w++BX c e)):=by rw[Z1]
  have w:(a++x.g).size=a.size+x.g.size:=zQ _ _;have C:(a++(x.g++(x.w++BX c e))).size=a.size+(x.g.size+(x.w.size+(BX c e).size)):=by rw[zQ,zQ,zQ]
  rw[t,u]at p;have o:=mX g (a++x.g) x.w (BX c e) f y;have hx:=MI (a++x.g) x.w (BX c e);have m:=EE (a:=a++x.g) (b:=x.w++BX c e) 0;rw[v,w]at o hx m;have A:=MI a x.g (x.w++BX c e);have:=Zr.tok (xs:=d) (s:=a++(x.g++(x.w++BX c e))) (i:=a.size) (j:=a.size+x.g.size) (n:=x.w.size) (k:=x.k) I I (λq H K=>by
   obtain⟨j,rfl⟩:=Nat.exists_eq_add_of_le H
   rw[EE,Gg I]
   exact l j I) (by
   rw[Nat.add_zero]at m
   rw[m,Gg B]
   exact pI g f) o p
  rw[A,hx]at this;exact this
def iR(c:ZZ ns)(a e)(h:Qn ns a e):Zr ns (BX a e) 0 (a.map OK++[⟨7,e,⟨#[]⟩⟩]):=by
 have:=Wb c a e j6 h;have b:j6++BX a e=BX a e:=by apply jy;simp[jG]
 rw[b]at this;exact this
def Oy(a:JA):Jw:=a.flatMap λt=>t.g.data.toList++t.t.data.toList
theorem UL(a):∀k,k<=Z a->Ce a k=Oy (a.take k)
 |0,_=>rfl
 |k+1,h=>by
  have b:=UL a k I;have e:a.take (k+1)=a.take k++[Aa a k]:=by rw[jQ,yt I];simp[Aa,List.getD,yt (I:k<Z a)]
  rw[e];show Ce a k++(Aa a k).g.data.toList++(Aa a k).t.data.toList=_;rw[b];simp[Oy]
theorem Vn(a):Ce a (Z a)=Oy a:=by grind [UL]
def Sr(s:JZ)(i j):(s.extract i j).data.toList=(s.data.toList.drop i).take (j-i):=by simp[ByteArray.data_extract,List.extract_eq_take_drop]
theorem Vo{c s}:∀(us:JA)(i:Nat),Zr c s i us->Oy us=s.data.toList.drop i/\Z us+i<=s.size+1
 |[],_,h=>h.elim
 |t::out,i,h=>by
  have q:Z s.data.toList=s.size:=Js;rcases h with⟨rfl,e,_,rfl⟩|⟨j,n,k,Q,f,_,_,H,rfl,K⟩
  .refine⟨?_,Jq⟩;show(s.extract i s.size).data.toList++[]++[]=_;rw[Sr,List.append_nil,List.append_nil,List.take_of_length_le (by rw[List.length_drop,q];exact yk)]
  .obtain⟨ih1,ih2⟩:=Vo out (j+n) K;have d:=H.1;refine⟨?_,Jq⟩;show(s.extract i j).data.toList++(s.extract j (j+n)).data.toList++Oy out=_;rw[ih1,Sr,Sr];have a:s.data.toList.drop (j+n)=(s.data.toList.drop j).drop n:=by rw[List.drop_drop]
   have b:s.data.toList.drop j=(s.data.toList.drop i).drop (j-i):=by rw[List.drop_drop];congr 1;omega
   rw[yD,a,Nat.add_sub_cancel_left,List.take_append_drop,b,List.take_append_drop]
def Ms{d a}(h:Zr d s 0 a):(⟨(Ce a (Z a)).toArray⟩:JZ)=s/\Z a<=s.size+1/\Zm a (Z a)=s.size:=by obtain⟨b,e⟩:=Vo a 0 h;rw[List.drop_zero]at b;have c:=Lr a (Z a);rw[Vn,b]at c;refine⟨?_,I,by rw[<-c];simp⟩;rw[Vn,b]
theorem N3(c s):∀(n a:Nat),a<=s.size->∀p∈G8 c s n a,p.1<=p.2/\p.2<=s.size/\∀k,p.1<=k->k<p.2->bt s k≠c
 |0,a,_,p,b=>by simp[G8]at b
 |n+1,a,ha,p,b=>by
  obtain⟨d,e,f,_⟩:=D2 c s a ha;simp only[G8,jH]at b;rcases b with rfl|b
  .exact⟨d,e,f⟩
  .by_cases h:nx c s a<s.size
   .rw[yU h]at b;exact N3 c s n _ I p b
   .rw[yS h]at b;cases b
theorem S3{c a b}(e:b<=s.size)(h:∀k,a<=k->k<b->bt s k≠c):Fh c (s.extract a b):=λi d=>by rw[ZW]at d;rw[Od s a b i d];exact h _ I I
theorem uU{l}(e:Fh 10 l)(h:x∈AA l):CS x:=by
 unfold AA at h;obtain⟨p,a,rfl⟩:=List.mem_map.1 h;obtain⟨a,K⟩:=List.mem_filter.1 a;obtain⟨f,c,d⟩:=N3 32 l _ 0 yn p a;have H:p.1<p.2:=by grind
 refine⟨by rw[ZW];omega,S3 c d,λi b=>?_⟩;rw[ZW]at b;rw[Od l _ _ i b];exact e _ I
def Cz(o:Ad):=CS o.s/\(∃n:Nat,o.l=(n:Int)/\n<1000000)/\((o.k=1/\o.sd=0)\/(o.k=3/\o.sd=0)\/(o.k=2/\(o.sd=1\/o.sd=2\/o.sd=3)))
theorem Bb.tells{d}(h:Bb d o)(b:∀x∈d,CS x):Cz o:=by
 obtain⟨k,t,l,c,h⟩:=h;have a:Zq l l.size<1000000:=by have e:=PA l c.2.2 l.size yk;have f:10 ^ l.size<=10 ^ 6:=Nat.pow_le_pow_right Jd c.2.1;omega
 rcases h with⟨rfl,⟨_,rfl⟩|⟨_,rfl⟩⟩|⟨i,rfl,_,g,rfl⟩
 .exact⟨b t Js,⟨_,F,a⟩,yW ⟨F,F⟩⟩
 .exact⟨b t Js,⟨_,F,a⟩,yX (yW ⟨F,F⟩)⟩
 .refine⟨b t Js,⟨_,F,a⟩,yX (yX ⟨F,?_⟩)⟩;grind [Bn]
theorem A2.tells{s}:∀(ls:List (Nat×Nat))(n:Nat)(us:Jv)(os:Jf){u:Jv}{o:Jf}{b:JZ}{c l:Int},(∀p∈ls,Fh 10 (s.extract p.1 p.2))->(∀x∈us,CS x)->(∀x∈os,Cz x)->A2 s ls n us os u o b c l->(∀x∈u,CS x)/\∀x∈o,Cz x
 |[],n,us,os,_,_,_,_,_,_,_,_,h=>by obtain⟨rfl,rfl,rfl,rfl,rfl⟩:=h;exact⟨λx hx=>(by cases hx),λx hx=>(by cases hx)⟩
 |p::a,n,us,os,u,o,b,c,l,hl,hu,ho,h=>by
  have i:=hl p Js;rcases h with⟨_,rfl,rfl,rfl,rfl,rfl⟩|⟨_,⟨f,e,g,h⟩|⟨_,rfl,rfl,rfl,rfl,rfl⟩⟩
  .exact⟨hu,ho⟩
  .have hw:∀x∈AA (s.extract p.1 p.2),CS x:=λx hx=>uU i hx
   refine A2.tells a (n+1) f e (λq j=>hl q (by simp[j])) ?_ ?_ h
   .rcases g with⟨_,rfl,rfl⟩|⟨x,hx,rfl,rfl⟩|⟨o',H,rfl,rfl⟩
    .exact hu
    .intro z d;rcases ju.1 d with d|d
     .exact hu z d
     .refine hw z ?_;rw[hx];simp at d;simp[d]
    .exact hu
   .rcases g with⟨_,rfl,rfl⟩|⟨x,hx,rfl,rfl⟩|⟨o',H,rfl,rfl⟩
    .exact ho
    .exact ho
    .intro z d;rcases ju.1 d with d|d
     .exact ho z d
     .simp at d;rw[d];exact H.tells hw
  .exact⟨λx hx=>(by cases hx),λx hx=>(by cases hx)⟩
theorem ZC.tells{s u o b c l}(h:ZC s u o b c l):(∀x∈u,CS x)/\∀x∈o,Cz x:=by
 rcases h with⟨_,rfl,rfl,_⟩|⟨_,h⟩
 .grind
 .refine A2.tells _ _ _ _ (λp e=>?_) (λx hx=>by cases hx) (λx hx=>by cases hx) h;obtain⟨_,a,d⟩:=N3 10 s _ 0 yn p e;exact S3 a d
def AN:Nat->Nat->ByteArray
 |0,_=>j6
 |f+1,n=>if n<10 then one (UInt8.ofNat (48+n)) else AN f (n/10)++one (UInt8.ofNat (48+n%10))
theorem pJ{c}:Zq (a++one c) (a.size+1)=Zq a a.size*10+(c.toNat-48):=by
 have h:∀k,k<=a.size->Zq (a++one c) k=Zq a k:=λk d=>by
  induction k with
  |zero=>rfl
  |succ k ih=>grind [Zq,Gg]
 have e:bt (a++one c) a.size=c:=by have:=EE (a:=a) (b:=one c) 0;rw[Nat.add_zero]at this;rw[this];rfl
 grind [Zq]
theorem Pt{d}(h:d<10):(UInt8.ofNat (48+d)).toNat=48+d:=by simp only[UInt8.toNat_ofNat'];grind
theorem Yz:∀(f n k:Nat),n<10 ^ f->n<10 ^ k->1<=k->1<=f->(1<=(AN f n).size/\(AN f n).size<=k/\∀i,i<(AN f n).size->48<=(bt (AN f n) i).toNat/\(bt (AN f n) i).toNat<=57)/\Zq (AN f n) (AN f n).size=n
 |0,n,k,_,_,_,h=>I
 |f+1,n,k,hf,hk,h1,_=>by
  by_cases h:n<10
  .simp only[AN,yU h];refine⟨⟨by rw[ZY];omega,by rw[ZY];exact h1,λi d=>?_⟩,?_⟩
   .rw[ZY]at d;obtain rfl:i=0:=I;rw[Oo,Pt h];omega
   .show Zq (one _) 1=n;simp only[Zq];rw[Oo,Pt h];omega
  .simp only[AN,yS h];have m:(10:Nat) ^ (f+1)=10 ^ f*10:=Nat.pow_succ ..;have H:1<=f:=by
    rcases Nat.eq_zero_or_pos f with rfl|x
    .simp at hf;omega
    .exact x
   obtain⟨c,rfl⟩:∃c,k=c+1:=⟨k-1,I⟩;have o:(10:Nat) ^ (c+1)=10 ^ c*10:=Nat.pow_succ ..;have K:1<=c:=by
    rcases Nat.eq_zero_or_pos c with rfl|x
    .simp at hk;omega
    .exact x
   obtain⟨⟨p,q,j⟩,l⟩:=Yz f (n/10) c I I K H;have g:(AN f (n/10)++one (UInt8.ofNat (48+n%10))).size=(AN f (n/10)).size+1:=by rw[zQ,ZY]
   refine⟨⟨I,I,λi d=>?_⟩,?_⟩
   .by_cases e:i<(AN f (n/10)).size
    .rw[Gg e];exact j i e
    .obtain rfl:i=(AN f (n/10)).size:=I;have:=EE (a:=AN f (n/10)) (b:=one (UInt8.ofNat (48+n%10))) 0;rw[Nat.add_zero]at this;rw[this,Oo,Pt (Nat.mod_lt _ (by decide))];have:=Nat.mod_lt n (Jd:0<10);omega
   .rw[g,pJ,l,Pt (Nat.mod_lt _ (by decide))];omega
def Fr(a:Int):ByteArray:=if a=1 then Gl else if a=2 then Gk else Gm
def dW(o:Ad):List ByteArray:=
 if o.k=1 then[DH,o.s,AN 7 o.l.toNat] else if o.k=3 then[Z9,o.s,AN 7 o.l.toNat] else[DJ,o.s,AN 7 o.l.toNat,Fr o.sd]
def YA(h:n<1000000):LX (AN 7 n)/\Zq (AN 7 n) (AN 7 n).size=n:=Yz 7 n 6 I I Jd Jd
theorem zar(h:Cz o):Bb (dW o) o:=by
 obtain⟨f,⟨n,d,H⟩,a⟩:=h;obtain⟨b,c⟩:=YA H;have e:o.l.toNat=n:=by rw[d];rfl
 obtain⟨s,k,l,g⟩:=o;simp only at a d f e;subst d;rcases a with⟨rfl,rfl⟩|⟨rfl,rfl⟩|⟨rfl,a⟩
 .refine⟨_,_,_,b,yW ⟨F,yW ⟨F,?_⟩⟩⟩;grind
 .refine⟨_,_,_,b,yW ⟨F,yX ⟨F,?_⟩⟩⟩;grind
 .refine⟨_,_,_,b,yX ⟨Fr g,F,F,?_⟩⟩;rcases a with rfl|rfl|rfl
  .exact⟨Jd,by rw[c];rfl⟩
  .exact⟨Jd,by rw[c];rfl⟩
  .exact⟨Jd,by rw[c];rfl⟩
def aS(h:1<=x.size)(b:∀i,i<x.size->33<=(bt x i).toNat):CS x:=
 ⟨h,λi a e=>by have:=b i a;rw[e]at this;exact yV this Jd,λi a e=>by have:=b i a;rw[e]at this;exact yV this Jd⟩
def uV(h:LX x):CS x:=aS h.1 λi a=>Jy ((h.2.2 i a).1)
def LF{l}(h:l≠[])(d:∀c∈l,33<=c.toNat):CS (bB l):=aS (by
  show 1<=l.toArray.size
  cases l with
  |nil=>exact yV F h
  |cons a b=>simp) λi e=>by
 have H:i<Z l:=by simpa[bB,ByteArray.size] using e
 have:bt (bB l) i=l[i]:=by simp[bt,bB,H]
 rw[this];exact d _ (List.getElem_mem H)
theorem zbq{o}(h:Cz o):dW o≠[Cd]/\dW o≠[]/\∀x∈dW o,CS x:=by
 obtain⟨a,⟨n,d,H⟩,b⟩:=h;have c:CS (AN 7 o.l.toNat):=uV (YA (by grind)).1;have e:CS DH:=LF (l:=[112,114,101,102,105,120]) Jd Jd;have f:CS Z9:=LF (l:=[112,111,115,116,102,105,120]) Jd Jd;have g:CS DJ:=LF (l:=[105,110,102,105,120]) Jd Jd;have i:CS (Fr o.sd):=by
  unfold Fr;split
  .exact LF (l:=[108,101,102,116]) Jd Jd
  .split
   .exact LF (l:=[114,105,103,104,116]) Jd Jd
   .exact LF (l:=[110,111,110,101]) Jd Jd
 grind [dW]
def E4(i:Nat):ByteArray:=one (UInt8.ofNat (109+i%8))++(⟨#[95,49]⟩:JZ).extract 0 (i/8%3)
def RB(i):(E4 i).size<=3:=by unfold E4;have:(⟨#[95,49]⟩:JZ).size=2:=F;rw[zQ,ZY,yC];omega
def Fv(a:JZ)(b:Jv)(o:JZ):Nat->ByteArray
 |0=>o
 |j+1=>Fv a b o j++a++AG b j++⟨#[10]⟩
theorem Ss{a c o M}(d:a.size<=5)(b:∀j,(AG c j).size<=M):∀j,(Fv a c o j).size<=o.size+(M+6)*j
 |0=>yk
 |j+1=>by have e:=Ss d b (o:=o) j;have f:=b j;have:(⟨#[10]⟩:JZ).size=1:=F;simp only[Fv,Nat.mul_add,Nat.mul_one];rw[zQ,zQ,zQ];omega
def G0(k:Nat):ByteArray:=(⟨#[117,115,101,32,32]⟩:JZ).extract 0 (4+k/8%2)
def Es:ByteArray:=⟨#[117,115,101,32]⟩
def Wc(k):(G0 k).size<=5:=by unfold G0;have:(⟨#[117,115,101,32,32]⟩:JZ).size=5:=F;rw[yC];omega
def MY(k:Nat)(o:Ad):ByteArray:=if k%8=6 then(⟨#[32,32]⟩:JZ)++ZR (dW o)++⟨#[32]⟩ else ZR (dW o)
def DZ(k:Nat)(a:Jv)(b:Jf):Nat->ByteArray
 |0=>if k%8=7 then⟨#[32,10]⟩ else⟨#[]⟩
 |i+1=>(if i=k%3 then Fv (G0 k) a (DZ k a b i) (Z a) else DZ k a b i)++MY k (r b i)++⟨#[10]⟩
def MZ(k:Nat)(b:Jv)(a:Jf):ByteArray:=
 (if Z a<=k%3 then Fv Es b (DZ k b a (Z a)) (Z b) else DZ k b a (Z a))++⟨#[98,101,103,105,110,10]⟩
theorem XA(n):(AN 7 n).size<=7:=by
 have:∀(f n:Nat),(AN f n).size<=f:=by
  intro f;induction f with
  |zero=>intro n;simp[AN]
  |succ f ih=>grind [AN,ZY,zQ]
 exact this 7 n
def Su(a):(Fr a).size<=5:=by
 unfold Fr;repeat' split
 all_goals decide
theorem Nu(h:o.s.size<=16):(ZR (dW o)).size<=50:=by have d:=XA o.l.toNat;have e:=Su o.sd;have a:DH.size=6:=F;have b:Z9.size=7:=F;have c:DJ.size=5:=F;grind [dW,ZR,zQ,ZY]
theorem lC{k}(h:o.s.size<=16):(MY k o).size<=53:=by have:=Nu h;have a:(⟨#[32,32]⟩:JZ).size=2:=F;have b:(⟨#[32]⟩:JZ).size=1:=F;grind [MY,zQ]
theorem XB{k a b}(d:∀j,(AG a j).size<=100)(h:Z a<=100)(c:∀i,(r b i).s.size<=16):∀i,(DZ k a b i).size<=2+10700*i
 |0=>by
  simp only[DZ];split
  .exact yk
  .exact yn
 |i+1=>by have e:=XB d h c (k:=k) i;have f:=lC (k:=k) (c i);have g:=Ss (Wc k) d (o:=DZ k a b i) (Z a);have:(⟨#[10]⟩:JZ).size=1:=F;simp only[DZ];rw[zQ,zQ];split<;>omega
def DW(s:JZ)(o b:Ad)(a:List (Nat×Nat)):Nat->ByteArray->Prop
 |0,t=>t=⟨#[]⟩
 |i+1,t=>∃c,DW s o b a i c /\
   (
    (Bb (AA (s.extract (a.getD i (0,0)).1 (a.getD i (0,0)).2)) o/\t=c++ZR (dW b)++⟨#[10]⟩) \/
    (¬ Bb (AA (s.extract (a.getD i (0,0)).1 (a.getD i (0,0)).2)) o/\t=c++s.extract (a.getD i (0,0)).1 (a.getD i (0,0)).2++⟨#[10]⟩))
theorem DW.one{s o b e}:∀{i:Nat}{t t':JZ},DW s o b e i t->DW s o b e i t'->t=t'
 |0,_,_,h,c=>h.trans c.symm
 |i+1,_,_,h,c=>by
  obtain⟨j,f,h⟩:=h;obtain⟨k,g,c⟩:=c;obtain rfl:=f.one g;rcases h with⟨a,rfl⟩|⟨a,rfl⟩<;>rcases c with⟨d,rfl⟩|⟨d,rfl⟩
  .rfl
  .exact yV a d
  .exact yV d a
  .rfl
def BQ(s:JZ):List (Nat×Nat)->Nat->Nat
 |[],_=>0
 |p::a,n=>if AA (s.extract p.1 p.2)=[Cd] then n+1 else BQ s a (n+1)
def GA(s o b t):=DW s o b (AD 10 s 0) (BQ s (AD 10 s 0) 0) t
theorem GA.one{s o b t a}(h:GA s o b t)(c:GA s o b a):t=a:=by grind [GA,DW.one]
theorem LG{c b s a}(h:Bd ns c s=E b):AR ns c (s::a)=AR ns b a:=by grind [AR]
def N5{a b d c}(h:AR ns d a=E c):AR ns d (a++b)=AR ns c b:=by rw[Np,h]
theorem XC:∀(T:ET),Dn ns T->∀d,AR ns (Vt,d) (Ak T)=E (Vp,d):=by
 intro T;induction T with
 |nil=>intro h;exact h.elim
 |node b o t l a ihl ihr=>
  intro h d;obtain⟨rfl,⟨e,rfl,rfl⟩|⟨rfl,rfl,c,rfl⟩|⟨e,f,c,rfl⟩|⟨rfl,f,c,g⟩⟩:=h
  .rw[FD e,LG (SM (s:=(b,t)) e)];rfl
  .rw[FG,LG SN,N5 (ihl c (d+1)),LG Sk];rfl
  .rcases e with rfl|rfl
   .grind [EF,LG,Tj]
   .rw[EQ,N5 (ihl c d),LG (SO (s:=(5,t)) rfl f)];rfl
  .rw[Gi,N5 (ihl c d),LG (Tk (s:=(4,t)) rfl f),ihr g d]
def D1(b:Nat):Nat:=if b=1 then 1 else if b=2 then 2 else if b=6 then 4 else if b=7 then 5 else 3
def Td{s k}(h:AC ns s=Vp)(f:k=(s.1:Int)-2):ZL ns s.2 k=Vp:=by obtain⟨j,e,_,c,d⟩:=LS h;have a:=N1 (b:=s.1) (t:=s.2) h;rw[d]at a;rw[DG];exact⟨j,e,a,by rw[c,f]⟩
def Te(a:JB)(b):=Z b=Z a+1/\(Aa b (Z a)).k=7/\∀i (h:i<Z a),(Aa b i).k=(D1 a[i].1:Int)/\(Aa b i).t=a[i].2
theorem XD{d}(w:LD d){g f}(B:Te g f)(A:BW d g):∀i,i<=Z g->AR d (Vt,0) (g.take i)=E (BC d f i,BM f i)/\CM d f i/\Aj d f 0 i=g.take i
 |0,_=>⟨F,λj z=>yV z (yz j),F⟩
 |i+1,hi=>by
  obtain⟨v,P,R⟩:=XD w B A i I;obtain⟨hl,V,T⟩:=B;have y:i<Z g:=I;obtain⟨o,m⟩:=T i y;have e:g.take (i+1)=g.take i++[g[i]]:=by rw[jQ,yt y];rfl
  have X:∃l,Bd d (BC d f i,BM f i) g[i]=E l:=by
   have h:=A;unfold BW at h;have N:g=g.take i++g[i]::g.drop (i+1):=by rw[List.getElem_cons_drop,List.take_append_drop]
   rw[N,N5 v]at h;simp only[AR]at h;cases u:Bd d (BC d f i,BM f i) g[i] with
   |none=>rw[u]at h;cases h
   |some l=>exact⟨l,F⟩
  obtain⟨l,b⟩:=X;have q:decide (i+1=Z f)=Vt:=Jq;generalize p:g[i]=s at *;have k:0<=zh d f i/\Aw d f i=s:=by
   unfold Aw zh;rw[q];generalize Aa f i=t at *;generalize BM f i=op at *;generalize BC d f i=M at *;cases M
   .rw[PI];rcases MB b with⟨c,_⟩|⟨c,K,_⟩|⟨rfl,_⟩
    .have H:t.k=(s.1:Int):=by rw[o];rcases c with c|c<;>simp[D1,c]
     rw[yU I,yS I,yS I,yS I,yS I];exact⟨Jd,by rw[H,m];rfl⟩
    .have H:t.k=3:=by rw[o,c];rfl
     have n:ZL d t.t 1=Vp:=by rw[m];exact Td K (by rw[c];rfl)
     rw[yS I,yU ⟨H,n⟩,yU H];refine⟨Jd,?_⟩;rw[m];obtain⟨C,L⟩:=s;simp only at c;rw[c];rfl
    .have H:t.k=4:=by rw[o];rfl
     rw[yU I,yS I,yU H];exact⟨Jd,F⟩
   .rw[NK];rcases MG b with⟨c,K,_⟩|⟨c,K,_⟩|⟨rfl,a,_⟩
    .have H:t.k=3:=by rw[o,c];rfl
     have n:ZL d t.t 2=Vp:=by rw[m];exact Td K (by rw[c];rfl)
     rw[yU ⟨H,n⟩,yU H];refine⟨Jd,?_⟩;rw[m];obtain⟨C,L⟩:=s;simp only at c;rw[c];rfl
    .have H:t.k=3:=by rw[o,c];rfl
     have n:ZL d t.t 3=Vp:=by rw[m];exact Td K (by rw[c];rfl)
     have U:¬ (t.k=3/\ZL d t.t 2=Vp):=λx=>w t.t ⟨x.2,n⟩
     rw[yS U,yU ⟨H,n⟩,yU H];refine⟨Jd,?_⟩;rw[m];obtain⟨C,L⟩:=s;simp only at c;rw[c];rfl
    .have H:t.k=5:=by rw[o];rfl
     rw[yS I,yS I,yU ⟨H,a⟩,yS I,yS I,yU H];exact⟨Jd,F⟩
  have Q:=aM (ns:=d) (ts:=f) (i:=i) I k.1;rw[k.2]at Q;refine⟨?_,λj z=>?_,?_⟩
  .rw[e,N5 v,LG Q];rfl
  .by_cases x:j=i
   .rw[x];exact k.1
   .exact P j I
  .rw[Lt,R,e,jd,k.2]
def sQ(i:LD ns){a}(g:Te a ts)(d:BW ns a):CM ns ts (Z ts)/\Aj ns ts 0 (Z ts)=a++[BH]/\∀j,j<Z ts->(Aa ts j).k≠6:=by
 obtain⟨b,h,e⟩:=XD i g d (Z a) yk;obtain⟨f,c,m⟩:=g;rw[jJ]at b e;unfold BW at d;rw[d]at b;injection b with b;have k:BC ns ts (Z a)=Vp:=(yY Prod.fst b).symm;have n:BM ts (Z a)=0:=(yY Prod.snd b).symm;have o:0<=zh ns ts (Z a):=by unfold zh;rw[k,n,NK,(by simp[f]:decide (Z a+1=Z ts)=Vp),c];simp
 refine⟨λj l=>?_,?_,λj l=>?_⟩
 .by_cases x:j=Z a
  .rw[x];exact o
  .exact h j I
 .rw[f,Lt,e,jd];have:Aw ns ts (Z a)=BH:=by unfold Aw;rw[yS I,yS I,yS I,yU c]
  rw[this]
 .by_cases x:j=Z a
  .rw[x,c];decide
  .rw[(m j I).1];unfold D1;split
   .decide
   .split
    .decide
    .split
     .decide
     .split
      .decide
      .decide
def zas(h:zM ns 0):¬ Pr 3 ns:=by
 rcases h with⟨h,_⟩|⟨_,⟨h,_⟩|⟨_,⟨h,_⟩|⟨h,_⟩⟩⟩
 .cases h
 .cases h
 .cases h
 .exact h
def zat{T a}(h:Sh T)(b:Sh a)(e:nd T 0=nd a 0):T=a:=by rw[<-Ps h,<-Ps b,e]
def zbr(a:JY)(c):(convert 22 9 (Ql (O a.1) 1 1)).run Vb (a.alloc (JM #[.int .u8 c] 5))=.ok (W ⟨#[UInt8.ofNat c.toNat]⟩) (a.alloc (JM #[.int .u8 c] 5)):=by
 rw[run_convert_bytes_string _ 22 9 5 _ _ _ underlying22 underlying5 underlying9];have d:(loadCells (J (O a.1) 0) 1).run Vb (a.alloc (JM #[.int .u8 c] 5))=.ok ([c].map (Value.int .u8)).toArray (a.alloc (JM #[.int .u8 c] 5)):=
  run_loadCells_list (P:=Vb) _ (J (O a.1) 0) [.int .u8 c] (λj v b=>by
   match j,b with
   |0,b=>simp at b;subst b;simp[Addr.add,go_sem])
 rw[run_bytesToString _ (J (O a.1) 0) 1 1 [c] d];rfl
theorem N6:∀(f n:Nat),(AN f n).size<=f
 |0,n=>by simp[AN]
 |f+1,n=>by
  simp only[AN];split
  .rw[ZY];omega
  .rw[zQ,ZY];have:=N6 f (n/10);omega
def Wh(n:Nat)(w)(h:n<10):Calls Vb 55 #[G n] w λe w'=>e=i9 (W (one (UInt8.ofNat (48+n))))/\Qb w w':=by
 have b:(n:Int)<10:=I;have H:=λa c=>zbr a c
 go_enter func55,ntmps55;go_wp2;go_ret;exact⟨F,zC⟩
theorem RT:∀(f n:Nat)(w:JY),n<10 ^ f->1<=f->f<=20->n<100000000 ->
  Calls Vb 55 #[G n] w λe w'=>e=i9 (W (AN f n))/\Qb w w'
 |0,n,w,_,h,_,_=>I
 |f+1,n,w,hf,_,h20,h8=>by
  by_cases h:n<10
  .have e:AN (f+1) n=one (UInt8.ofNat (48+n)):=by simp only[AN,yU h]
   rw[e];exact Wh n w h
  .have hI:¬ (n:Int)<10:=I;have p:(10:Nat) ^ (f+1)=10 ^ f*10:=Nat.pow_succ ..;have K:1<=f:=by
    rcases Nat.eq_zero_or_pos f with rfl|x
    .simp at hf;omega
    .exact x
   have e:AN (f+1) n=AN f (n/10)++one (UInt8.ofNat (48+n%10)):=by simp only[AN,yS h]
   rw[e];have k:=S (λc=>RT f (n/10) c I K I I);have l:=S (λc=>Wh (n%10) c (Nat.mod_lt _ Jd));have Q:=N6 f (n/10);have X:=ZY (UInt8.ofNat (48+n%10));obtain⟨a,m⟩:=Jx (AN f (n/10));obtain⟨b,o⟩:=Jx (one (UInt8.ofNat (48+n%10)));rw[<-m]at k Q ⊢;rw[<-o]at l X ⊢;have d:((n/10:Nat):Int)=(n:Int)/10:=I;have g:((n%10:Nat):Int)=(n:Int)%10:=I;rw[d]at k;rw[g]at l;clear hf p e m o d g;go_enter func55,ntmps55;go_wp2_with fail;go_call (D k) w as e s ⟨rfl,i⟩;have H:=S i;clear i k;go_wp2_with fail;go_call (D l) s as e t ⟨rfl,j⟩;have q:=S (H.trans (j.mono H.size));clear j l;go_wp2;go_ret;exact⟨F,q⟩
def TN:ByteArray:=⟨#[112,114,101,102,105,120,32]⟩
def TH:ByteArray:=⟨#[112,111,115,116,102,105,120,32]⟩
def Qz:ByteArray:=⟨#[105,110,102,105,120,32]⟩
def aU(h:o.k=1):ZR (dW o)=TN++(o.s++one 32++AN 7 o.l.toNat):=by
 unfold dW;rw[yU h];simp only[ZR];have e:TN=DH++one 32:=by apply jy;rfl
 rw[e,Z1,Z1]
def YB(h:o.k=3):ZR (dW o)=TH++(o.s++one 32++AN 7 o.l.toNat):=by
 unfold dW;rw[yS I,yU h];simp only[ZR];have e:TH=Z9++one 32:=by apply jy;rfl
 rw[e,Z1,Z1]
def aV(h:o.k≠1)(a:o.k≠3):ZR (dW o)=Qz++(o.s++one 32++AN 7 o.l.toNat)++(one 32++Fr o.sd):=by
 unfold dW;rw[yS h,yS a];simp only[ZR];have e:Qz=DJ++one 32:=by apply jy;rfl
 rw[e];simp only[Z1]
def zav(h:o.k=2):ZR (dW o)=Qz++(o.s++one 32++AN 7 o.l.toNat)++(one 32++Fr o.sd):=aV I I
def Wi(o w)(h:∃n:Nat,o.l=(n:Int)/\n<1000000)(j:(o.k=1/\o.sd=0)\/(o.k=3/\o.sd=0)\/(o.k=2/\(o.sd=1\/o.sd=2\/o.sd=3))\/(o.k=0/\o.sd=0))(z:o.s.size<=1048576):Calls Vb 27 #[.agg #[W o.s,G o.k,G o.l,G o.sd]] w λe w'=>e=i9 (W (ZR (dW o)))/\Qb w w':=by
 obtain⟨n,v,x⟩:=h;have f:=aU (o:=o);have H:=YB (o:=o);have K:=aV (o:=o);obtain⟨b,u⟩:=Jx (ZR (dW o));rw[<-u]at f H K ⊢;obtain⟨s,k,l,g⟩:=o;simp only at v j z f H K ⊢;subst v;have e:((n:Nat):Int).toNat=n:=F;rw[e]at f H K;have p:=S (λc=>RT 7 n c I Jd Jd I);have Q:=N6 7 n;obtain⟨a,t⟩:=Jx (AN 7 n);rw[<-t]at p Q f H K;clear u t e;have y:=S (p (w.alloc (JM #[W s,G k,G n,G g] 25)).drew);have A:s.size+(⟨#[32]⟩:JZ).size<=9223372036854775807:=by show s.size+1<=_;omega
 have B:(s++⟨#[32]⟩:JZ).size+a.size<=9223372036854775807:=by rw[zQ];show s.size+1+a.size<=_;omega
 have T:=λc:World=>run_string_add_sum (P:=Vb) (w:=c) s ⟨#[32]⟩ A
 have U:=λc:World=>run_string_add_sum (P:=Vb) (w:=c) (s++⟨#[32]⟩) a B
 have m:O w.1<(w.alloc (JM #[W s,G k,G n,G g] 25)).drew.heap.size:=Js;have i:=S (show(w.alloc (JM #[W s,G k,G n,G g] 25)).drew.cell? (J (O w.1) 0)=E (W s)/\(w.alloc (JM #[W s,G k,G n,G g] 25)).drew.cell? (J (O w.1) 1)=E (G k)/\(w.alloc (JM #[W s,G k,G n,G g] 25)).drew.cell? (J (O w.1) 2)=E (G n)/\(w.alloc (JM #[W s,G k,G n,G g] 25)).drew.cell? (J (O w.1) 3)=E (G g) from⟨Jg,Jg,Jg,Jg⟩);clear p;go_enter func27,ntmps27;go_wp2_with fail;go_region_held3 (λc=>c.cell? (J (O w.1) 0)=E (W s)/\c.cell? (J (O w.1) 2)=E (G n)) (go_keep) (first|(go_at_call 55;(with_reducible refine(D y).mono ?_);rintro e C ⟨rfl,d⟩;have L:=Jc d m i.1;have M:=Jc d m i.2.1;have N:=Jc d m i.2.2.1;have R:=Jc d m i.2.2.2;have q:Hid (Qb w C):=(zC).drew.trans (d.mono Js);clear d));all_goals
  rcases j with⟨rfl,rfl⟩|⟨rfl,rfl⟩|⟨rfl,j⟩|⟨rfl,rfl⟩
  .have e:=f F
   clear f K H
   go_wp2
   go_ret
   exact⟨by rw[e];rfl,q⟩
  .have e:=H F
   clear f K H
   go_wp2
   go_ret
   exact⟨by rw[e];rfl,q⟩
  all_goals
   have e:=K Jd Jd
   try rcases j with rfl|rfl|rfl
   all_goals
    go_wp2
    go_ret
    exact⟨by rw[e];first|rfl|(apply yY;apply yY;apply jy;simp[jG,Fr,one,Gl,Gk,Gm];done),q⟩
def RC(o w)(h:Cz o)(a:o.s.size<=1048576):Calls Vb 27 #[.agg #[W o.s,G o.k,G o.l,G o.sd]] w λe w'=>e=i9 (W (ZR (dW o)))/\Qb w w':=Wi o w h.2.1 (by rcases h.2.2 with h|h|h;exact yW h;exact yX (yW h);exact yX (yX (yW h))) a
theorem P5:∀(a b:Jv)(c:JZ),DB (a++b) c=DB a j6++DB b c
 |[],b,c=>by show DB b c=j6++DB b c;apply jy;simp[jG]
 |x::a,b,c=>by simp only[List.cons_append,DB];rw[P5 a b c,Z1,Z1]
def zaw(b):j6++b=b:=by apply jy;simp[jG]
def aW(b):b++j6=b:=by apply jy;simp[jG]
def zax(a:JY)(c):(convert 22 9 (Ql (O a.1) 1 1)).run Vb (a.alloc (JM #[.int .u8 c] 5)).drew=.ok (W ⟨#[UInt8.ofNat c.toNat]⟩) (a.alloc (JM #[.int .u8 c] 5)).drew:=by
 rw[run_convert_bytes_string _ 22 9 5 _ _ _ underlying22 underlying5 underlying9];have d:(loadCells (J (O a.1) 0) 1).run Vb (a.alloc (JM #[.int .u8 c] 5)).drew=.ok ([c].map (Value.int .u8)).toArray (a.alloc (JM #[.int .u8 c] 5)).drew:=
  run_loadCells_list (P:=Vb) _ (J (O a.1) 0) [.int .u8 c] (λj v b=>by
   match j,b with
   |0,b=>simp at b;subst b;simp[Addr.add,go_sem])
 rw[run_bytesToString _ (J (O a.1) 0) 1 1 [c] d];rfl
def RE(i:Nat)(w)(n:i<1000000):Calls Vb 25 #[G i] w λe w'=>e=i9 (W (E4 i))/\Qb w w':=by
 obtain⟨a,j,Q⟩:∃a:Nat,a=i%8/\a<8:=⟨_,F,Nat.mod_lt _ Jd⟩;obtain⟨c,b,h⟩:∃c:Nat,c=109+a/\c<256:=⟨_,F,I⟩;obtain⟨d,f,K⟩:∃d:Nat,d=i/8/\d<1000000:=⟨_,F,I⟩;obtain⟨m,g,q⟩:∃m:Nat,m=d%3/\m<=2:=⟨_,F,I⟩;have s:(i:Int).tmod 8=(a:Int):=by rw[yA I,j];omega
 have t:IntKind.i64.wrap (109+(a:Int))=(c:Int):=by rw[Go.IntWalk.i64_in _ (by omega),b];omega
 have u:IntKind.u8.wrap (c:Int)=c:=Go.IntWalk.u8_in _ I;have v:IntKind.i64.wrap ((i:Int)/8)=(d:Int):=by rw[Go.IntWalk.i64_in _ (by omega),f];omega
 have x:(d:Int).tmod 3=(m:Int):=by rw[yA I,g];omega
 have o:(0:Int)<=m:=I;have l:(m:Int)<=2:=I;have p:(m:Int)<=((⟨#[95,49]⟩:JZ).size:Int):=l;have k:=S (by rw[b,j,g,f];rfl:E4 i=one (UInt8.ofNat c)++(⟨#[95,49]⟩:JZ).extract 0 m);have H:=zax w c;clear b g j f;go_enter func25,ntmps25;go_wp2;go_region;go_wp2;go_ret;refine⟨?_,(zC).drew⟩;rw[D k];rfl
def Vq(h:o.s.size<=20000):(ZR (dW o)).size<=21000:=by
 have d:=XA o.l.toNat;have e:=Su o.sd;have a:DH.size=6:=F;have b:Z9.size=7:=F;have c:DJ.size=5:=F;unfold dW;repeat' split
 all_goals
  simp only[ZR,zQ,ZY]
  omega
def zay{a}(h:i<Z a):r a i∈a:=by unfold r;rw[yq,yt h];exact List.getElem_mem h
theorem sR(K:∀i,i<Z xs->BK (Y xs i)):∀(T:ET)(s:Nat),Dn ns T->B1 xs T s->s+Ab T<=Z xs->∀q∈Ak T,KY ns q.2 (D1 q.1):=by
 have H:∀{b:Nat}{t:JZ},AC ns (b,t)=Vp->Bf ns t:=fun{b t} d=>by obtain⟨j,n,_,_,f⟩:=LS d;have:=N1 d;simp only at f;rw[f]at this;exact⟨j,n,this⟩
 intro T;induction T with
 |nil=>intro s h;exact h.elim
 |node b o t l a ihl ihr=>
  rintro s p ⟨v,w,f⟩ u;simp only[Ab]at u;have k:=K (s+Ab l+Ab a) I;rw[f]at k;obtain⟨rfl,⟨g,rfl,rfl⟩|⟨rfl,rfl,m,rfl⟩|⟨g,d,m,rfl⟩|⟨rfl,d,m,wr⟩⟩:=p
  .rw[FD g];intro q c;simp only[jE]at c;subst c;rcases k.2 with⟨e,h⟩|⟨e,h⟩|⟨e,_⟩|⟨e,_⟩
   .have:b=1:=by grind [tN]
    subst this;exact yW ⟨F,h⟩
   .have:b=2:=by grind [tN]
    subst this;exact yX (yW ⟨F,h⟩)
   .grind [tN]
   .grind [tN]
  .rw[FG];intro q c;simp only[jH,ju,List.not_mem_nil,or_false]at c;rcases c with rfl|c|rfl
   .exact yX (yX (yX (yW ⟨F,F⟩)))
   .grind
   .exact yX (yX (yX (yX ⟨F,F⟩)))
  .rcases g with rfl|rfl
   .rw[EF];intro q c;rcases jH.1 c with rfl|c
    .exact yX (yX (yW ⟨F,H d⟩))
    .grind
   .rw[EQ];intro q c;rcases ju.1 c with c|c
    .grind
    .simp only[jE]at c;subst c;exact yX (yX (yW ⟨F,H d⟩))
  .rw[Gi];intro q c;rcases ju.1 c with c|c
   .grind
   .rcases jH.1 c with rfl|c
    .exact yX (yX (yW ⟨F,H d⟩))
    .grind
def zaz:Bl (one 32):=λi a=>by have:i<1:=a;obtain rfl:i=0:=I;decide
def LW(s:Aq):Bool:=decide (s.1=1\/s.1=2)
def QI:JB->Prop
 |[]=>True
 |[_]=>True
 |x::y::a=>¬ (LW x=Vp/\LW y=Vp)/\QI (y::a)
theorem YC{d}:∀(i:JB)(c b:Bool×Nat),AR d c i=E b->QI i
 |[],_,_,_=>trivial
 |[_],_,_,_=>trivial
 |x::y::a,c,b,h=>by
  simp only[AR]at h;cases e:Bd d c x with
  |none=>rw[e]at h;cases h
  |some s1=>
   rw[e]at h;refine⟨λ⟨hx,l⟩=>?_,YC (y::a) s1 b (by simpa only[AR] using h)⟩;have H:x.1=1\/x.1=2:=by simpa[LW] using hx
   have K:y.1=1\/y.1=2:=by simpa[LW] using l
   have j:s1.1=Vp:=by
    unfold Bd at e;by_cases g:c.1=Vt
    .rw[yU g,yU H]at e;injection e with e;rw[<-e]
    .rw[yS g,yS (λx=>I),yS (λx=>I)]at e;split at e
     .injection e with e;rw[<-e]
     .cases e
   have k:Bd d s1 y=none:=by
    unfold Bd;rw[yS (by rw[j];decide),yS (λx=>I),yS (λx=>I)];rw[yS];rintro⟨f,_⟩;have:y.1=7:=by simp[OE]at f;exact f.1
    omega
   simp only at h;rw[k]at h;cases h
def Et(x y:Aq):ByteArray:=if Ec (wS x) (wS y)=Vp then one 32 else j6
def Cq(g:JZ):JB->List L4
 |[]=>[]
 |x::a=>⟨g,x.2,D1 x.1⟩::(match a with
  |[]=>[]
  |y::r'=>Cq (Et x y) (y::r'))
def Mt(g x y a):Cq g (x::y::a)=⟨g,x.2,D1 x.1⟩::Cq (Et x y) (y::a):=by rw[Cq]
def za0(x y):Bl (Et x y):=by
 unfold Et;split
 .exact zaz
 .exact λi a=>by simp at a
theorem YD:∀(b:JB)(g:JZ),Z (Cq g b)=Z b
 |[],_=>by simp[Cq]
 |[x],g=>by simp[Cq]
 |x::y::a,g=>by rw[Mt,yB,YD (y::a)];rfl
theorem aX:∀(b:JB)(g:JZ)(i:Nat)(h:i<Z b),∃c,(Cq g b)[i]?=E ⟨c,b[i].2,D1 b[i].1⟩
 |[],_,i,h=>by simp at h
 |[x],g,i,h=>by
  have:i=0:=by simp at h;exact h
  subst this;exact⟨g,by simp[Cq]⟩
 |x::y::a,g,0,h=>⟨g,by rw[Mt];rfl⟩
 |x::y::a,g,i+1,h=>by obtain⟨c,e⟩:=aX (y::a) (Et x y) i (Ju h);exact⟨c,by rw[Mt];simpa using e⟩
theorem sS(a g e):Te a ((Cq g a).map OK++[⟨7,e,⟨#[]⟩⟩]):=by
 have b:Z ((Cq g a).map OK)=Z a:=by grind [YD]
 refine⟨by grind,?_,λi h=>?_⟩
 .grind [Aa]
 .obtain⟨g',e'⟩:=aX a g i h;grind [Aa,Cq,OK,D1]
theorem uW(a:ZZ ns){k}(h:KY ns t k):(k=1/\Ai (bt t 0)=2)\/(k=2/\Ai (bt t 0)=3)\/(k=3/\Ai (bt t 0)=6)\/(k=4/\Ai (bt t 0)=4)\/(k=5/\Ai (bt t 0)=5):=by
 rcases h with⟨e,h⟩|⟨e,h⟩|⟨e,h⟩|⟨e,rfl⟩|⟨e,rfl⟩
 .exact yW ⟨e,h.2 0 h.1⟩
 .rcases h.2 0 h.1 with e'|⟨e',_⟩;all_goals grind
 .exact yX (yX (yW ⟨e,(LQ a h).2 0 (LQ a h).1⟩))
 .exact yX (yX (yX (yW ⟨e,Jd⟩)))
 .exact yX (yX (yX (yX ⟨e,Jd⟩)))
theorem S4{s}(h:D1 s.1=1\/D1 s.1=2):LW s=Vp:=by grind [D1,LW]
theorem aY{s}(h:D1 s.1=3)(a:1<=s.1/\s.1<=7):(wS s).o=Vp:=by grind [D1,wS]
theorem Vr{m}(l:ZZ m):∀(d:JB)(g:JZ),Bl g->QI d->(∀q∈d,1<=q.1/\q.1<=7)->(∀q∈d,KY m q.2 (D1 q.1))->Qn m (Cq g d) j6
 |[],g,_,_,_,_=>by simp only[Cq];exact λi f=>by simp at f
 |[x],g,hg,_,_,h=>by simp only[Cq];exact⟨hg,h x Js,λw=>by simp[BX]at w,λi f=>by simp at f⟩
 |x::y::c,g,hg,ha,hn,h=>by
  rw[Mt];refine⟨hg,h x Js,?_,Vr l (y::c) _ (za0 x y) ha.2 (λq k=>hn q (by simp[jH.1 k])) (λq k=>h q (by simp[jH.1 k]))⟩;intro _;have o:=h y Js;have H:∃R,BX (Cq (Et x y) (y::c)) j6=Et x y++(y.2++R):=by
   cases c with
   |nil=>exact⟨j6,by simp[Cq,BX]⟩
   |cons z r'=>exact⟨_,by rw[Mt];rfl⟩
  obtain⟨R,u⟩:=H;rw[u];by_cases K:Ec (wS x) (wS y)=Vp
  .have e:Et x y=one 32:=by unfold Et;rw[yU K]
   have:bt (Et x y++(y.2++R)) 0=32:=by rw[e,Gg (by rw[ZY];omega),Oo]
   rw[this];exact⟨λ_=>Jd,λ_=>Jd⟩
  .have e:Et x y=j6:=by unfold Et;rw[yS K]
   have v:bt (Et x y++(y.2++R)) 0=bt y.2 0:=by
    rw[e];have p:j6++(y.2++R)=y.2++R:=by apply jy;simp[jG]
    rw[p];exact Gg (S2 l o)
   rw[v];have n:=uW l o;refine⟨λj=>?_,λj=>?_⟩
   .have hx:=S4 j;have Q:¬ LW y=Vp:=λe=>ha.1 ⟨hx,e⟩
    have s:D1 y.1≠1:=λe=>Q (S4 (yW e))
    have t:D1 y.1≠2:=λe=>Q (S4 (yX e))
    rcases n with⟨a,_⟩|⟨a,_⟩|⟨_,b⟩|⟨_,b⟩|⟨_,b⟩
    .exact yV a s
    .exact yV a t
    .rw[b];decide
    .rw[b];decide
    .rw[b];decide
   .have hx:=aY j (hn x Js);rcases n with⟨_,b⟩|⟨_,b⟩|⟨a,_⟩|⟨_,b⟩|⟨_,b⟩
    .rw[b];decide
    .rw[b];decide
    .have X:=aY a (hn y Js);exact yV (by unfold Ec;rw[hx,X];simp) K
    .rw[b];decide
    .rw[b];decide
def GD:Aq->JB->Jw
 |_,[]=>[]
 |x,y::a=>(if Ec (wS x) (wS y)=Vp then[32] else[])++(y.2.data.toList++GD y a)
def za1:(one 32).data.toList=[32]:=rfl
theorem YE:∀(b:JB)(x:Aq)(g:JZ),(BX (Cq g (x::b)) j6).data.toList=g.data.toList++(x.2.data.toList++GD x b)
 |[],x,g=>by simp[Cq,BX,GD,On]
 |y::a,x,g=>by
  rw[Mt];show(g++(x.2++BX (Cq (Et x y) (y::a)) j6)).data.toList=_;rw[On,On,YE a y];simp only[GD];congr 3;unfold Et;split
  .exact za1
  .rfl
def Mb:Aq->JB->Aq
 |x,[]=>x
 |_,y::a=>Mb y a
theorem YF:∀(a:JB)(x:Aq),(x::a)[Z a]?=E (Mb x a)
 |[],x=>rfl
 |y::a,x=>by show(y::a)[Z a]?=E (Mb y a);exact YF a y
theorem XE:∀(l:JB)(x z:Aq),GD x (l++[z])=GD x l++((if Ec (wS (Mb x l)) (wS z)=Vp then[32] else[])++z.2.data.toList)
 |[],x,z=>by show(if Ec (wS x) (wS z)=Vp then[32] else[])++(z.2.data.toList++[])=[]++((if Ec (wS x) (wS z)=Vp then[32] else[])++z.2.data.toList);rw[List.append_nil,jF]
 |y::l,x,z=>by show(if Ec (wS x) (wS y)=Vp then[32] else[])++(y.2.data.toList++GD y (l++[z]))=((if Ec (wS x) (wS y)=Vp then[32] else[])++(y.2.data.toList++GD y l))++((if Ec (wS (Mb y l)) (wS z)=Vp then[32] else[])++z.2.data.toList);rw[XE l y z];simp only[yD]
theorem Wj(b):∀k,k<=Z b->BL (b.map wS) k=(match b.take k with|[]=>[]|x::a=>x.2.data.toList++GD x a)
 |0,_=>by simp[BL]
 |k+1,hk=>by
  have H:k<Z b:=I;have d:A1 (b.map wS) k=wS b[k]:=by simp[A1,yq,H]
  simp only[BL];rw[Wj b k I,d,jQ,yt H];show _++(_++(b[k]).2.data.toList)=_;cases h:b.take k with
  |nil=>
   have:k=0:=by have:=yY List.length h;rw[List.length_take]at this;simp only[je]at this;omega
   subst this;simp[GD]
  |cons x a=>
   have K:k≠0:=λe=>by subst e;simp at h
   have Q:Z a=k-1:=by have:=yY List.length h;rw[List.length_take]at this;simp only[yB]at this;omega
   have f:Mb x a=b[k-1]:=by have c:=YF a x;rw[<-h,Q,List.getElem?_take_of_lt I,yt I]at c;injection c with c;exact c.symm
   have q:A1 (b.map wS) (k-1)=wS b[k-1]:=by simp[A1,yq,(I:k-1<Z b)]
   rw[q];simp only[Option.toList,List.cons_append];rw[XE,f];simp[K]
def uX{T}(h:Sh T):(⟨(Ia T).toArray⟩:JZ)=BX (Cq j6 (Ak T)) j6:=by
 have b:=PZ h;have c:Ia T=(BX (Cq j6 (Ak T)) j6).data.toList:=by
  unfold Ia;have e:Z (yT T)=Z (Ak T):=by simp[yT]
  rw[e];unfold yT;rw[Wj (Ak T) _ yk,jJ];cases d:Ak T with
  |nil=>rw[d]at b;simp at b
  |cons x a=>rw[YE];rfl
 apply jy;rw[c]
def RU:∀(T:ET),Dn ns T->∀q∈Ak T,1<=q.1/\q.1<=7:=by
 intro T;induction T with
 |nil=>intro h;exact h.elim
 |node b o t l a ihl ihr=>
  rintro⟨_,h⟩ q c;simp only[Ak]at c;rcases h with⟨e,_,_⟩|⟨rfl,_,d,_⟩|⟨e,_,d,_⟩|⟨rfl,_,d,f⟩
  .rw[yS I,yS I,yS I,yS I]at c;simp at c;subst c;simp only;omega
  .simp only[if_true,jH,ju,List.not_mem_nil,or_false]at c;rcases c with rfl|c|rfl
   .exact⟨Jd,Jd⟩
   .exact ihl d q c
   .exact⟨Jd,Jd⟩
  .rcases e with rfl|rfl
   .simp at c;rcases c with rfl|c
    .exact⟨by show 1<=3;omega,by show 3<=7;omega⟩
    .exact ihl d q c
   .simp at c;rcases c with c|rfl
    .exact ihl d q c
    .exact⟨by show 1<=5;omega,by show 5<=7;omega⟩
  .simp at c;rcases c with c|rfl|c
   .exact ihl d q c
   .exact⟨by show 1<=4;omega,by show 4<=7;omega⟩
   .exact ihr f q c
structure ZB where
 k:Int
 m:JZ
 o:Ad
 t:JZ
 l:Int
 sd:Int
def ZU(q:ZB):Ad:=if q.k=1 then⟨q.t,q.o.k,q.o.l,q.o.sd⟩ else⟨q.o.s,q.o.k,q.l,q.sd⟩
def BJ(q:ZB):=(q.k=1/\q.l=0/\q.sd=0)\/(q.k=2/\q.t=j6)
def Cl(o:Ad):Jf->Nat
 |[]=>0
 |x::a=>(if ZH x o=Vp then 1 else 0)+Cl o a
theorem XF(o x):∀xs:Jf,Cl o (xs++[x])=Cl o xs+if ZH x o=Vp then 1 else 0
 |[]=>by simp[Cl]
 |y::a=>by simp only[List.cons_append,Cl,XF o x a];omega
theorem Wk{a k}(h:k<Z a):Cl o (a.take (k+1))=Cl o (a.take k)+if ZH (r a k) o=Vp then 1 else 0:=by rw[jP h,XF];grind [r]
def Bk(U:JC)(o:Ad):Nat->List Nat
 |0=>[]
 |i+1=>Bk U o i++List.replicate (Cl o (Ah U i).os) i
theorem P6(U o):∀n,∀j∈Bk U o n,j<n
 |0,j,h=>by simp[Bk]at h
 |n+1,j,h=>by
  rcases ju.1 h with h|h
  .have:=P6 U o n j h;omega
  .have:=(List.mem_replicate.1 h).2;omega
def CD(a)(U:JC)(q:ZB):=(Bk U q.o (Z a)).map (λi=>(Ae a i).n)=[q.m]
def Ar(o b:Ad)(a:Jf):Jf:=a.map (λx=>if ZH x o=Vp then b else x)
def EY(o b a):Z (Ar o b a)=Z a:=by simp[Ar]
theorem Qo{b a}(h:i<Z a):r (Ar o b a) i=if ZH (r a i) o=Vp then b else r a i:=by grind [Ar,r]
def Da(o:Ad)(n:zD):Bool:=decide (n.k=o.k+2)&&decide (n.t=o.s)
def AV(o b:Ad)(a:Jj):Jj:=a.map (λn=>if Da o n=Vp then⟨n.k,b.s,n.a,n.b⟩ else n)
theorem EZ(o b a):Z (AV o b a)=Z a:=by simp[AV]
theorem Op{b a}(h:i<Z a):Y (AV o b a) i=if Da o (Y a i)=Vp then⟨(Y a i).k,b.s,(Y a i).a,(Y a i).b⟩ else Y a i:=by grind [AV,Y]
def FY(a n q):=(ZU q).ok=Vt\/∃i,i<n/\q.o∈zy a i/\ZU q∈zy a i
def J7(a n q):=∃i,i<n/\q.o∈zy a i/\∃c,zM (Ar q.o (ZU q) (zy a i)) c/\c≠0
def IL(s o b t):=∃n,n=BQ s (AD 10 s 0) 0/\DW s o b (AD 10 s 0) n t
def G3(q)(c:Jf)(d:Jj)(m a:zF):=a.n=m.n /\
 ((q.o∈c/\∃h b v,IL m.t q.o (ZU q) h/\FH (Ar q.o (ZU q) c) (AV q.o (ZU q) d) b v/\a.t=h++b)\/(q.o ∉ c/\a.t=m.t))
def Ea(q c b d k a):=Z a=k/\∀i,i<k->G3 q (zy b i) (AM d i) (Ae c i) (Ae a i)
def Eb(d)(q:ZB)(b:Jp)(c:Int):=∃ts g j,Zg d ts g j /\
 ((g≠0/\b=[]/\c=1)\/(g=0/\∃a U,ZI d a 0 0/\ZG d U /\
  ((¬ BJ q/\b=[]/\c=2)\/(BJ q /\
  ((¬ CD d U q/\b=[]/\c=3)\/(CD d U q /\
  ((FY a (Z d) q/\b=[]/\c=4)\/(¬ FY a (Z d) q /\
  ((J7 a (Z d) q/\b=[]/\c=5)\/(¬ J7 a (Z d) q /\
  ∃e h f i,Ea q d a ts (Z d) e/\Zg e h f i/\((f≠0/\b=[]/\c=6)\/(f=0/\b=e/\c=0))))))))))))
theorem uY{b c}(h:IL s o b t)(a:IL s o b c):t=c:=by obtain⟨n,e,h⟩:=h;obtain⟨f,d,a⟩:=a;grind [DW.one]
theorem G3.one{q f d m a b}(h:G3 q f d m a)(c:G3 q f d m b):a=b:=by
 obtain⟨e,h⟩:=h;obtain⟨g,c⟩:=c;have i:a.t=b.t:=by grind [uY,FH.one]
 cases a;cases b
 grind
theorem Ea.one{q f c g k a b}(h:Ea q f c g k a)(d:Ea q f c g k b):a=b:=by
 refine List.ext_getElem (by rw[h.1,d.1]) λi e H=>?_
 have:=G3.one (h.2 i (by rw[<-h.1];exact e)) (d.2 i (by rw[<-h.1];exact e));grind [Ae]
theorem Ea.step{q b c k a m}(h:Ea q ms b c k a)(d:G3 q (zy b k) (AM c k) (Ae ms k) m):Ea q ms b c (k+1) (a++[m]):=by
 refine⟨by simp[h.1],λi f=>?_⟩;by_cases e:i<k
 .have:Ae (a++[m]) i=Ae a i:=by simp[Ae,yq,yH (by rw[h.1];exact e:i<Z a)]
  rw[this];exact h.2 i e
 .obtain rfl:i=k:=I;have:Ae (a++[m]) i=m:=by rw[<-h.1];simp[Ae,yq]
  grind
theorem sT{m}:∀(T:ET),ZF ns T->(∀x∈Ak T,x.2.size<=m)->∀(s:Nat),∀o∈nd T s,o.t.size<=m:=by
 intro T;induction T with
 |nil=>intro h;exact h.elim
 |node b o t l a ihl ihr=>
  rintro⟨rfl,h⟩ d s q c;rcases h with⟨K,rfl,rfl⟩|⟨rfl,rfl,e,rfl⟩|⟨H,f,e,rfl,k⟩|⟨rfl,f,e,g,i,j⟩
  .rw[FD K]at d;simp only[nd,jF,jE]at c;subst c;exact d (b,t) Js
  .rw[FG]at d;simp only[nd,List.append_nil,ju,jE]at c;rcases c with c|rfl
   .exact ihl e (λx hx=>d x (by simp[hx])) s q c
   .exact yn
  .have X:∀x∈Ak l,x.2.size<=m:=by
    rcases H with rfl|rfl
    .grind [EF]
    .rw[EQ]at d;exact λx hx=>d x (by simp[hx])
   have Q:t.size<=m:=by
    rcases H with rfl|rfl
    .rw[EF]at d;exact d (3,t) Js
    .rw[EQ]at d;exact d (5,t) Js
   simp only[nd,List.append_nil,ju,jE]at c;rcases c with c|rfl
   .grind
   .exact Q
  .rw[Gi]at d;simp only[nd,ju,jE]at c;rcases c with(c|c)|rfl
   .exact ihl e (λx hx=>d x (by simp[hx])) s q c
   .exact ihr g (λx hx=>d x (by simp[hx])) _ q c
   .exact d (4,t) Js
def XG{m}(h:(Aa ts i).t.size<=m)(a:1<=m):(Aw ns ts i).2.size<=m:=by
 unfold Aw;split
 .exact h
 .split
  .exact a
  .split
   .exact a
   .split
    .exact yn
    .exact h
theorem Lm{p}(h:Zs ns s us 0 p):1<=Z us/\Z us<=20001/\C5 us:=by
 rcases h with⟨_,_,h,_⟩|⟨j,⟨_,_,h,_⟩|⟨y,ts,hx,⟨i,_,_,_,_,h,_⟩|⟨Q,⟨i,_,_,_,_,h,_⟩|⟨f,h⟩⟩⟩⟩
 .omega
 .omega
 .omega
 .omega
 .rcases h with⟨_,_,h,_⟩|⟨T,a,hr,⟨_,_,h,_⟩|⟨_,rfl,_,_⟩⟩
  .omega
  .omega
  .have hl:=I1 ts 0 hx;have K:=P4 f hl 0 hl.1;rw[Nat.sub_zero]at K;have b:=DF j _ _ JL _ 0 _ I K (λL e=>by cases e) hr;have c:=b.2.2.2.2;simp only[yM,jF]at c;have e:=yY List.length c;simp only[yr]at e;rw[DI]at e;have:=MO T b.2.1;have X:=(Ms hx).2.1;rw[ZN];refine⟨Sh.pos b.2.1.sh,I,λi d=>?_⟩;have g:∀o∈nd T 0,o.t.size<=20000:=by
    refine sT T b.2.1 (λx q=>?_) 0;have H:x∈Aj ns ts 0 (Z ts):=by grind
    unfold Aj at H;obtain⟨i,d,rfl⟩:=List.mem_map.1 H;rw[List.mem_range'_1]at d;refine XG ?_ I;have:=(Mi ts 0 hx i I).2;omega
   have:=g (Y (nd T 0) i) (by grind [Y])
   unfold maxLen;omega
