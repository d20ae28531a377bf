import Derived.Laws.AppendOwnNone
import Derived.Deep.DeepCutAuto
import Derived.Deep.RegionLaw
import Derived.Test.YtdgcbenningkdaaGreatDoorV00
namespace Go.Proofs.YtdgcbenningkdaaGreatDoor
set_option linter.all false
set_option maxHeartbeats 0
set_option maxRecDepth 100000
open Proofs.Tryz RowKit
variable{B f g i n:Nat}{M e:Nat -> Nat -> Bool}{a T:Nat -> List Ad}{acc os zs:List Ad}{b l s sd t u x:ByteArray}{c:Int}{d:Nat -> Bool}{ms:List zF}{o:Ad}{out:List (List Ad)}{p:Nat × Nat}{h:List (Nat × Nat)}{rk:Nat -> Nat}{rs:List Nat}{us us' ws:List ByteArray}{v v4 vo vu:Value}{w w' w1 w4:World}
open _root_.Array renaming size→O
open List renaming length→Z
open Option renaming some→E,none→JL
open Obj renaming cells→JM
open Bool renaming false→Vt,true→Vp
open Proofs.Tryz renaming prog→Vb
open Value renaming agg→b9,tuple→i5,slice→i6,bool→i7,ownBlock→i8
open Ending renaming returned→i9
open _root_.ByteArray renaming empty→j6
def ZH(a b:Ad):Bool:=a.s.toList==b.s.toList&&a.k==b.k&&a.l==b.l&&a.sd==b.sd
theorem zZ{a b}:ZH a b=Vp↔a=b:=by obtain⟨s,k,l,sd⟩:=a;obtain⟨f,d,e,c⟩:=b;grind [ZH,Zd]
def rA:prog.underlying 25=E (.struct (prog.fieldsOf 25)):=Jk
def zaT:prog.stoodInHeld 25=Vt:=Jk
def JJ:prog.eqGuardType prog.depth 25=Vt:=Jk
def I2(a b w):(binOp .eql 25 (b9 #[W a.s,G a.k,G a.l,G a.sd]) (b9 #[W b.s,G b.k,G b.l,G b.sd])).run Vb w=.ok (i7 (ZH a b)) w:=by rw[run_eql_struct,run_equalIn_agg _ _ _ _ _ rA zaT];unfold Program.fieldsOf ZH;rw[underlying25];cases c:(a.s.toList==b.s.toList)<;>cases d:(a.k==b.k)<;>cases e:(a.l==b.l)<;>cases f:(a.sd==b.sd)<;>simp[go_sem,c,d,e,f]
theorem VL(g d k b o w)(L:Z b<=1048576)(C:k<=Z b)(m:Au w g 0 b)(f:g<O w.1):Calls Vb 32 #[Ql g k d,b9 #[W o.s,G o.k,G o.l,G o.sd]] w λe w'=>(∃v,e=i9 (i7 v)/\(v=Vp↔∃j,j<k/\r b j=o))/\Qb w w':=by
 go_enter func32,ntmps32;go_wp2;go_loopw [5] (λi wr=>∃n:Nat,n<=k/\i=G n/\Hid (∀j,j<n->r b j≠o)/\Below (O w.1+1) (w.alloc (JM #[W o.s,G o.k,G o.l,G o.sd] 25)) wr) (λi _=>k-(intOf i).toNat);case atStart=>exact⟨0,yn,F,S (λj h=>I),yN⟩
 case round=>
  obtain⟨n,M,rfl,q,H⟩:=hrel;by_cases Q:n<k
  .obtain⟨a0,a1,a2,a3⟩:=((m n I).y zC f).y H I;simp only[jd]at a0 a1 a2 a3;have s:wr.cell? (J (O w.1) 0)=E (W o.s):=by rw[H.cell (p:=J (O w.1) 0) (show O w.1<_ by omega)];simp[go_sem]
   have t:wr.cell? (J (O w.1) 1)=E (G o.k):=by rw[H.cell (p:=J (O w.1) 1) (show O w.1<_ by omega)];simp[go_sem]
   have u:wr.cell? (J (O w.1) 2)=E (G o.l):=by rw[H.cell (p:=J (O w.1) 2) (show O w.1<_ by omega)];simp[go_sem]
   have z:wr.cell? (J (O w.1) 3)=E (G o.sd):=by rw[H.cell (p:=J (O w.1) 3) (show O w.1<_ by omega)];simp[go_sem]
   have X:(n:Int)<k:=I;have K:=S H;have N:=λa=>I2 (r b n) o a
   have A:=JJ;go_wp2_with fail;go_quiet (fail);cases c:ZH (r b n) o
   .have y:Hid (r b n≠o):=λe=>by rw[zZ.2 e]at c;cases c
    go_wp2;refine⟨⟨n+1,I,Jn,S ?_,below_drewN K nq⟩,Ji⟩;grind [Hid]
   .have x:=S (zZ.1 c);go_wp2;go_ret;exact⟨⟨Vp,F,⟨λ_=>⟨n,Q,x⟩,λ_=>F⟩⟩,below_drewN ((zC).trans (K.mono I)) nq⟩
  .go_wp2;go_ret;refine⟨⟨Vt,F,⟨λh=>(by cases h),λ⟨j,B,l⟩=>yV l (q j I)⟩⟩,(zC).trans (H.mono I)⟩
def Cg(a:Jf):Nat->Jf
 |0=>[]
 |k+1=>if(List.range k).any (λj=>ZH (r a j) (r a k)) then Cg a k else Cg a k++[r a k]
def Ye{k}(h:∃j,j<k/\r zs j=r zs k):Cg zs (k+1)=Cg zs k:=by
 obtain⟨j,a,e⟩:=h;have b:((List.range k).any λj=>ZH (r zs j) (r zs k))=Vp:=by rw[List.any_eq_true];exact⟨j,List.mem_range.2 a,zZ.2 e⟩
 show(if _ then _ else _)=_;rw[yU b]
def WX{k}(h:¬ ∃j,j<k/\r zs j=r zs k):Cg zs (k+1)=Cg zs k++[r zs k]:=by
 have b:¬ ((List.range k).any λj=>ZH (r zs j) (r zs k))=Vp:=by rw[List.any_eq_true];rintro⟨j,a,e⟩;exact h ⟨j,List.mem_range.1 a,zZ.1 e⟩
 show(if _ then _ else _)=_;rw[yS b]
theorem Yf(a):∀k,Z (Cg a k)<=k
 |0=>yk
 |k+1=>by
  have:=Yf a k;unfold Cg;split
  .omega
  .simp;omega
def BZ(a:Jf)(o:Ad):Jf:=if a.any (λx=>ZH x o)=Vp then a else a++[o]
def zj(a b:Jf):Jf:=b.foldl BZ a
def R8:acc.any (λx=>ZH x o)=Vp↔o∈acc:=by
 rw[List.any_eq_true];constructor
 .rintro⟨x,h1,h2⟩;rw[<-zZ.1 h2];exact h1
 .intro h;exact⟨o,h,zZ.2 F⟩
theorem Ik(h:o∈acc):BZ acc o=acc:=by unfold BZ;rw[yU (R8.2 h)]
theorem Im(h:o ∉ acc):BZ acc o=acc++[o]:=by unfold BZ;rw[yS (λx=>h (R8.1 x))]
theorem WY{x}:x∈BZ acc o↔x∈acc\/x=o:=by by_cases h:o∈acc;all_goals grind [Ik,Im]
theorem Ze{x}:∀(b acc:Jf),x∈zj acc b↔x∈acc\/x∈b
 |[],acc=>by simp[zj]
 |o::h,acc=>by
  show x∈zj (BZ acc o) h↔_;rw[Ze h,WY];simp only[jH];constructor
  .rintro((a|a)|a)
   .exact yW a
   .exact yX (yW a)
   .exact yX (yX a)
  .rintro(a|a|a)
   .exact yW (yW a)
   .exact yW (yX a)
   .exact yX a
theorem U1:∀(b acc:Jf),(∀o∈b,o∈acc)->zj acc b=acc
 |[],_,_=>rfl
 |o::h,acc,a=>by show zj (BZ acc o) h=acc;rw[Ik (a o Js)];exact U1 h acc (λx hx=>a x (by simp[hx]))
theorem Q1(a b c):zj a (b++c)=zj (zj a b) c:=List.foldl_append
theorem vC(h:acc.Nodup):(BZ acc o).Nodup:=by by_cases a:o∈acc;all_goals grind [Ik,Im]
theorem GI:∀(b acc:Jf),acc.Nodup->(zj acc b).Nodup
 |[],_,a=>a
 |o::h,acc,a=>GI h _ (vC a)
theorem VM:∀(c acc:Jf),(acc++c).Nodup->zj acc c=acc++c
 |[],acc,_=>by simp[zj]
 |o::h,acc,a=>by
  have b:o ∉ acc:=λb=>by rw[List.nodup_append]at a;exact a.2.2 o b o Js F
  show zj (BZ acc o) h=_;rw[Im b,VM h (acc++[o]) (Ju a)];simp
theorem rB(a o):Z a<=Z (BZ a o):=by by_cases h:o∈a;all_goals grind [Ik,Im]
theorem Rp:∀(a acc:Jf),Z acc<=Z (zj acc a)
 |[],_=>yk
 |o::h,acc=>yy (rB acc o) (Rp h _)
theorem FE{α:Type}:∀(e f:List α),e.Nodup->(∀x∈e,x∈f)->Z e<=Z f
 |[],_,_,_=>yn
 |x::h,f,c,hs=>by
  rw[List.nodup_cons]at c;obtain⟨a,b,rfl⟩:=List.append_of_mem (hs x Js);have:=FE h (a++b) c.2 (λz g=>by
   have d:=hs z (by simp[g])
   simp only[ju,jH]at d ⊢
   rcases d with d|d|d
   .exact yW d
   .subst d;exact yV g c.1
   .exact yX d)
  simp only[yr,yB]at *;omega
theorem PS{k}(h:k<Z zs):r zs k∈zs:=by grind [r]
theorem vD{k}(h:k<Z zs):zs.take (k+1)=zs.take k++[r zs k]:=by rw[jQ,yt h];grind [r]
theorem Uw{k}(b:k<=Z zs):o∈zs.take k↔∃j,j<k/\r zs j=o:=by
 constructor
 .intro h;obtain⟨j,a,e⟩:=List.getElem_of_mem h;have H:j<k:=by grind
  refine⟨j,H,?_⟩;grind [r]
 .rintro⟨j,a,rfl⟩;have c:j<Z (zs.take k):=by grind
  have:(zs.take k)[j]=r zs j:=by grind [r]
  grind
theorem SD(a):∀k,k<=Z a->Cg a k=zj [] (a.take k)
 |0,_=>by simp[Cg,zj]
 |k+1,hk=>by
  have c:=SD a k I;rw[vD I,Q1];show _=BZ (zj [] (a.take k)) (r a k);rw[<-c];by_cases h:∃j,j<k/\r a j=r a k
  .rw[Ye h,Ik];rw[c,Ze];exact yX ((Uw I).2 h)
  .rw[WX h,Im];rw[c,Ze];rintro(b|b)
   .cases b
   .exact h ((Uw I).1 b)
theorem vE{t s}(a:t.Nodup):Cg (t++s) (Z (t++s))=zj t s:=by grind [SD,Q1,VM]
def KW(a:Nat->Nat->Prop):Nat->Nat->Nat->Prop
 |0,i,j=>a i j
 |k+1,i,j=>∃m,a i m/\KW a k m j
def TC(a:Nat->Nat->Prop)(i j):=∃k,KW a k i j
theorem KW.trans{a:Nat->Nat->Prop}:∀{k l i j m:Nat},KW a k i m->KW a l m j->TC a i j
 |0,l,i,j,m,h1,h2=>⟨l+1,m,h1,h2⟩
 |k+1,l,i,j,m,h1,h2=>by obtain⟨q,b,c⟩:=h1;obtain⟨n,d⟩:=KW.trans c h2;exact⟨n+1,q,b,d⟩
def TC.trans{a:Nat->Nat->Prop}{i j m}(b:TC a i m)(c:TC a m j):TC a i j:=by obtain⟨k,b⟩:=b;obtain⟨l,c⟩:=c;exact b.trans c
def TC.one{a:Nat->Nat->Prop}{j}(h:a i j):TC a i j:=⟨0,h⟩
theorem TC.closed{a:Nat->Nat->Prop}{P:Nat->Prop}(b:∀i j,P i->a i j->P j):∀{k i j:Nat},KW a k i j->(∀m,a i m->P m)->P j
 |0,i,j,h,h0=>h0 j h
 |k+1,i,j,h,h0=>by obtain⟨m,c,d⟩:=h;exact TC.closed b d (λq e=>b m q (h0 m c) e)
def Lb(M:Nat->Nat->Bool)(m:Nat):Nat->Nat->Bool:=λi j=>M i j||(M i m&&M m j)
def CC(M:Nat->Nat->Bool):Nat->Nat->Nat->Bool
 |0=>M
 |m+1=>Lb (CC M m) m
theorem Pl{a:Nat->Nat->Prop}{M:Nat->Nat->Bool}(h:∀i j,M i j=Vp->TC a i j):∀m i j,CC M m i j=Vp->TC a i j
 |0,i,j,b=>h i j b
 |m+1,i,j,b=>by
  simp only[CC,Lb,Bool.or_eq_true,jB]at b;rcases b with b|⟨c,d⟩
  .exact Pl h m i j b
  .exact(Pl h m _ _ c).trans (Pl h m _ _ d)
theorem R9{M:Nat->Nat->Bool}:∀m i j,M i j=Vp->CC M m i j=Vp
 |0,_,_,h=>h
 |m+1,i,j,h=>by simp only[CC,Lb,Bool.or_eq_true];exact yW (R9 m i j h)
theorem VN{M:Nat->Nat->Bool}:∀m k,k<m->∀i j,CC M m i k=Vp->CC M m k j=Vp->CC M m i j=Vp
 |0,k,hk,_,_,_,_=>I
 |m+1,k,hk,i,j,c,d=>by
  simp only[CC,Lb,Bool.or_eq_true,jB]at c d ⊢;by_cases e:k=m
  .subst e;have a:CC M k i k=Vp:=by rcases c with h|⟨h,_⟩<;>exact h
   have b:CC M k k j=Vp:=by rcases d with h|⟨_,h⟩<;>exact h
   exact yX ⟨a,b⟩
  .have ih:=VN (M:=M) m k I;rcases c with c|⟨c,K⟩<;>rcases d with d|⟨d,H⟩
   .exact yW (ih i j c d)
   .exact yX ⟨ih i m c d,H⟩
   .exact yX ⟨c,ih m j K d⟩
   .exact yX ⟨c,H⟩
theorem zaU{a:Nat->Nat->Prop}(b:∀i j,M i j=Vp↔a i j)(f:∀i j,a i j->i<n/\j<n)(i j):CC M n i j=Vp↔TC a i j:=by
 refine⟨Pl (λi j h=>TC.one ((b i j).1 h)) n i j,?_⟩;rintro⟨k,c⟩;induction k generalizing i with
 |zero=>exact R9 n i j ((b i j).2 c)
 |succ k ih=>obtain⟨m,d,e⟩:=c;grind [VN,R9]
def Nc(a:Nat->Nat->Bool)(n i:Nat):Nat:=Z ((List.range n).filter (λj=>a i j))
theorem RM{p q:Nat->Bool}:∀(l:List Nat),(∀x∈l,q x=Vp->p x=Vp)->(∃x∈l,p x=Vp/\q x=Vt)->Z (l.filter q)<Z (l.filter p)
 |[],_,c=>by obtain⟨x,c,_⟩:=c;cases c
 |a::h,hs,c=>by
  have K:Z (h.filter q)<=Z (h.filter p):=by
   have:∀(l:List Nat),(∀x∈l,q x=Vp->p x=Vp)->Z (l.filter q)<=Z (l.filter p):=by
    intro l;induction l with
    |nil=>intro _;exact yk
    |cons b t ih=>
     intro g;have:=ih (λx hx=>g x (by simp[hx]));have H:=g b Js;by_cases d:q b=Vp
     .rw[jR d,jR (H d)];simp;omega
     .by_cases e:p b=Vp
      .rw[jS d,jR e];simp;omega
      .rw[jS d,jS e];exact this
   exact this h (λx hx=>hs x (by simp[hx]))
  have i:=hs a Js;obtain⟨x,hx,d,e⟩:=c;rcases jH.1 hx with rfl|hx
  .rw[jR d,jS (by simp[e])];simp;omega
  .have ih:=RM h (λy j=>hs y (by simp[j])) ⟨x,hx,d,e⟩;by_cases f:q a=Vp
   .rw[jR f,jR (i f)];simp;omega
   .by_cases h4:p a=Vp
    .rw[jS f,jR h4];simp;omega
    .rw[jS f,jS h4];exact ih
theorem vF{a:Nat->Nat->Prop}(b:∀i j,e i j=Vp↔TC a i j){i j}(c:a i j)(d:j<n)(f:¬ TC a j j):Nc e n j<Nc e n i:=by unfold Nc;refine RM _ (λx _ h=>(b i x).2 ((TC.one c).trans ((b j x).1 h))) ⟨j,List.mem_range.2 d,(b i j).2 (TC.one c),?_⟩;grind
theorem zbe{a:Nat->Nat->Prop}(d:∀i j,e i j=Vp↔TC a i j){i}(c:i<n)(f:¬ TC a i i):Nc e n i<n:=by
 have h:=RM (p:=λ_=>Vp) (q:=λj=>e i j) (List.range n) (λ_ _ _=>F) ⟨i,List.mem_range.2 c,F,by grind⟩
 have b:Z ((List.range n).filter (λ_=>Vp))=n:=by rw[List.filter_eq_self.2 (λ_ _=>rfl),List.length_range]
 rw[b]at h;exact h
def Bi(d:ByteArray->Nat)(b:Nat->Jf)(c:Jf)(e:Jv):Jf:=e.foldl (λa u=>zj a (b (d u))) c
def Ll(d:ByteArray->Nat)(a:Nat->Jf)(c u b):Bi d a c (u::b)=Bi d a (zj c (a (d u))) b:=rfl
theorem U4(c:ByteArray->Nat)(a:Nat->Jf)(b d u):Bi c a b (d++[u])=zj (Bi c a b d) (a (c u)):=by grind [Bi]
theorem VO(b:ByteArray->Nat)(a:Nat->Jf):∀(us:Jv)(acc:Jf),Z acc<=Z (Bi b a acc us)
 |[],_=>yk
 |u::h,acc=>yy (Rp _ acc) (VO b a h _)
theorem NE(c:ByteArray->Nat)(a:Nat->Jf):∀(us:Jv)(acc:Jf),acc.Nodup->(Bi c a acc us).Nodup
 |[],_,b=>b
 |u::h,acc,b=>NE c a h _ (GI _ _ b)
theorem Lo(c:ByteArray->Nat)(a:Nat->Jf){x}:∀(us:Jv)(acc:Jf),x∈Bi c a acc us↔x∈acc\/∃u∈us,x∈a (c u)
 |[],acc=>by simp[Bi]
 |u::h,acc=>by
  rw[Ll,Lo c a h,Ze];simp only[jH,exists_eq_or_imp];constructor
  .rintro((b|b)|b)
   .exact yW b
   .exact yX (yW b)
   .exact yX (yX b)
  .rintro(b|b|b)
   .exact yW (yW b)
   .exact yW (yX b)
   .exact yX b
theorem Q9{c:ByteArray->Nat}{a T:Nat->Jf}:∀(us:Jv)(acc:Jf),(∀u∈us,a (c u)=T (c u))->Bi c a acc us=Bi c T acc us
 |[],_,_=>rfl
 |u::h,acc,b=>by rw[Ll,Ll,b u Js];exact Q9 h _ (λx hx=>b x (by simp[hx]))
def A9(a:Jv)(u:JZ):List ByteArray:=if a.any (λx=>decide (x=u))=Vp then a else a++[u]
def BR(a:Jv):List ByteArray:=a.foldl A9 []
theorem I9{a}(h:u∈a):A9 a u=a:=by grind [A9]
theorem GL{a}(h:u ∉ a):A9 a u=a++[u]:=by grind [A9]
theorem rC{a}:x∈A9 a u↔x∈a\/x=u:=by by_cases h:u∈a;all_goals grind [I9,GL]
theorem Ig{x}:∀(us acc:Jv),x∈us.foldl A9 acc↔x∈acc\/x∈us
 |[],acc=>Js
 |u::h,acc=>by
  rw[List.foldl_cons,Ig h,rC];simp only[jH];constructor
  .rintro((a|a)|a)
   .exact yW a
   .exact yX (yW a)
   .exact yX (yX a)
  .rintro(a|a|a)
   .exact yW (yW a)
   .exact yW (yX a)
   .exact yX a
theorem vG{a}(h:a.Nodup):(A9 a u).Nodup:=by by_cases b:u∈a;all_goals grind [I9,GL]
theorem Sa:∀(us acc:Jv),acc.Nodup->(us.foldl A9 acc).Nodup
 |[],_,a=>a
 |u::h,acc,a=>Sa h _ (vG a)
theorem RN(a):∀(acc:Jv),Z (a.foldl A9 acc)<=Z acc+Z a:=by
 induction a with
 |nil=>intro acc;exact yk
 |cons u h ih=>grind [A9,I9,GL]
theorem VP(e:ByteArray->Nat)(c:Nat->Jf):∀(us b:Jv)(a:Jf),Bi e c a (us.foldl A9 b)=Bi e c (Bi e c a b) us
 |[],b,a=>rfl
 |u::h,b,a=>by
  rw[List.foldl_cons,VP e c h,Ll];congr 1;by_cases d:u∈b
  .rw[I9 d,U1];intro o f;rw[Lo];exact yX ⟨u,d,f⟩
  .rw[GL d,U4]
def lR(c:ByteArray->Nat)(b:Nat->Jf)(d a):Bi c b a (BR d)=Bi c b a d:=VP c b d [] a
def CG(a:ByteArray->Nat)(T:Nat->Jf):Jf->List ByteArray->Jf
 |acc,[]=>acc
 |acc,u::h=>if 500<Z acc then acc else CG a T (zj acc (T (a u))) h
def OD(s t:Jf):=(Z s<=500->t=s)/\(500<Z s->500<Z t)
theorem VQ{f:ByteArray->Nat}{c T:Nat->Jf}:∀(us:Jv)(a b:Jf),(∀u∈us,OD (c (f u)) (T (f u))/\(c (f u)).Nodup/\(T (f u)).Nodup)->OD a b->OD (Bi f c a us) (CG f T b us)
 |[],a,b,_,d=>d
 |u::h,a,b,hu,d=>by
  rw[Ll];simp only[CG];obtain⟨j,k,l⟩:=hu u Js;by_cases i:500<Z b
  .rw[yU i];have g:500<Z a:=by
    by_cases g:Z a<=500
    .rw[d.1 g]at i;omega
    .omega
   have n:Z a<=Z (Bi f c (zj a (c (f u))) h):=yy (Rp _ a) (VO f c h _);exact⟨λe=>I,λ_=>i⟩
  .rw[yS i];have g:Z a<=500:=by
    by_cases g:500<Z a
    .exact yV (d.2 g) i
    .omega
   obtain rfl:=d.1 g;refine VQ h _ _ (λx hx=>hu x (by simp[hx])) ?_;by_cases m:Z (c (f u))<=500
   .rw[j.1 m];exact⟨λ_=>F,λx=>x⟩
   .have q1:=FE (c (f u)) (zj b (c (f u))) k (λx hx=>(Ze _ _).2 (yX hx));have o:=FE (T (f u)) (zj b (T (f u))) l (λx hx=>(Ze _ _).2 (yX hx));have p:=j.2 I;exact⟨λe=>I,λ_=>I⟩
theorem Yg(c:ByteArray->Nat)(T:Nat->Jf):∀(us:Jv)(b:Jf),b.Nodup->(CG c T b us).Nodup
 |[],_,a=>a
 |u::h,b,a=>by
  simp only[CG];split
  .exact a
  .exact Yg c T h _ (GI _ _ a)
structure GC where
 us:Jv
 os:Jf
 b:ByteArray
abbrev JC:=List GC
variable{U:JC}
def Ah(U:JC)(i:Nat):GC:=U.getD i ⟨[],[],j6⟩
def An:Jp->ByteArray->Nat
 |[],_=>0
 |m::h,u=>if m.n=u then 0 else An h u+1
theorem Oe:∀(ms:Jp)(u:JZ),An ms u<=Z ms
 |[],_=>yk
 |m::h,u=>by
  unfold An;split
  .exact yn
  .have:=Oe h u;simp;omega
def WZ(m a i):Ae (m::a) (i+1)=Ae a i:=by simp[Ae]
theorem FC:∀(ms:Jp)(u:JZ),(An ms u<Z ms->(Ae ms (An ms u)).n=u)/\∀j,j<An ms u->(Ae ms j).n≠u
 |[],_=>⟨λa=>yV a (yz _),λj a=>yV a (yz _)⟩
 |m::h,u=>by
  obtain⟨b,c⟩:=FC h u;unfold An;by_cases e:m.n=u
  .rw[yU e];exact⟨λ_=>e,λj a=>yV a (yz _)⟩
  .rw[yS e];refine⟨λa=>?_,λj a=>?_⟩
   .rw[WZ];exact b (Ju a)
   .cases j with
    |zero=>exact e
    |succ j=>rw[WZ];exact c j I
theorem Yh{k}(e:k<Z ms)(c:(Ae ms k).n=u)(d:∀j,j<k->(Ae ms j).n≠u):An ms u=k:=by obtain⟨a,b⟩:=FC ms u;grind
theorem rD(h:∀j,j<Z ms->(Ae ms j).n≠u):An ms u=Z ms:=by have H:=Oe ms u;by_cases e:An ms u<Z ms;all_goals grind [FC]
def ZG(a U):=Z U=Z a/\∀i,i<Z a->ZC (Ae a i).t (Ah U i).us (Ah U i).os (Ah U i).b 0 0
def B2(a i):=(∃us os b c l,ZC (Ae a i).t us os b c l/\c≠0)\/¬ Cv (Ae a i).n\/64<(Ae a i).n.size
def B3(a i):=∃j,j<i/\(Ae a j).n=(Ae a i).n
def B4(a U i):=∃u∈(Ah U i).us,∀j,j<Z a->(Ae a j).n≠u
def B9(a U i j):=i<Z a/\j<Z a/\(Ae a j).n∈(Ah U i).us
def Fj(b U)(a:Nat->Jf):=∀i,i<Z b->a i=Bi (An b) a (zj [] (Ah U i).os) (Ah U i).us
def B6(a:Nat->Jf)(i):=∃c,zM (a i) c/\c≠0
def DK(n)(B:Nat->Prop)(P:Nat->Prop)(R):=(∃i,i<n/\B i/\(∀j,j<i->¬ B j)/\P i)\/((∀i,i<n->¬ B i)/\R)
def cI(e)(U:JC)(b:JE)(c d:Int):=
 ∃a:Nat->Jf,Fj e U a/\DK (Z e) (B6 a) (λi=>b=[]/\c=6/\d=(i:Int)) (b=(List.range (Z e)).map a/\c=0/\d=0)
def TB(d U a c b):=
 DK (Z d) (λi=>TC (B9 d U) i i) (λi=>a=[]/\c=5/\b=(i:Int)) (cI d U a c b)
def bS(d a c b):=
 ∃U,ZG d U/\DK (Z d) (B4 d U) (λi=>a=[]/\c=4/\b=(i:Int)) (TB d U a c b)
def TD(d a c b):=
 DK (Z d) (B3 d) (λi=>a=[]/\c=3/\b=(i:Int)) (bS d a c b)
def ZI(d a c b):=
 (100<Z d/\a=[]/\c=1/\b=100)\/(Z d<=100/\DK (Z d) (B2 d) (λi=>a=[]/\c=2/\b=(i:Int)) (TD d a c b))
theorem Fj.nd(h:Fj ms U a)(b:i<Z ms):(a i).Nodup:=by rw[h i b];grind [NE,GI]
theorem Ux(l):∀(n i:Nat),l.size-i<n->i<=l.size->2*Z (Fy l i)<=l.size-i+1
 |0,i,hn,hi=>I
 |n+1,i,hn,hi=>by
  obtain⟨a,b,_,_⟩:=D2 32 l i hi;rw[Mf l i hi,yr];have c:2*Z (if nx 32 l i<l.size then Fy l (nx 32 l i+1) else[])<=l.size-nx 32 l i:=by
   by_cases h:nx 32 l i<l.size
   .rw[yU h];have:=Ux l n (nx 32 l i+1) I I;omega
   .rw[yS h];simp
  by_cases h:i<nx 32 l i
  .rw[yU h];simp only[yB,je];omega
  .rw[yS h];simp only[je];omega
def vH(l):2*Z (AA l)<=l.size+1:=by have:=Ux l (l.size+1) 0 I yn;rw[WQ];omega
def MT(a:List (Nat×Nat)):Nat:=(a.map λp=>p.2-p.1).sum
theorem Yi(c s):∀(n a:Nat),s.size-a<n->a<=s.size->MT (AD c s a)<=s.size-a
 |0,a,hn,ha=>I
 |n+1,a,hn,ha=>by
  obtain⟨b,d,_,_⟩:=D2 c s a ha;rw[EC c s a ha];simp only[MT,jC,List.sum_cons];by_cases h:nx c s a<s.size
  .rw[yU h];have:=Yi c s n (nx c s a+1) I I;simp only[MT]at this;omega
  .rw[yS h];simp;omega
def zaV(s:JZ)(a b):(s.extract a b).size<=b-a:=by simp only[yC];omega
theorem A2.ops{s}:∀(ls:List (Nat×Nat))(n:Nat)(us:Jv)(os:Jf){u:Jv}{o:Jf}{b:JZ}{c l:Int},A2 s ls n us os u o b c l->5*Z o<=5*Z os+MT ls/\(c=0->l=0)
 |[],n,us,os,_,_,_,_,_,a=>by obtain⟨rfl,rfl,rfl,rfl,rfl⟩:=a;exact⟨Js,λ_=>F⟩
 |p::h,n,us,os,u,o,b,c,l,a=>by
  simp only[MT,jC,List.sum_cons];rcases a with⟨_,rfl,rfl,rfl,rfl,rfl⟩|⟨_,⟨us',d,g,a⟩|⟨_,rfl,rfl,rfl,rfl,rfl⟩⟩
  .exact⟨I,λ_=>F⟩
  .have ih:=A2.ops h (n+1) us' d a;refine⟨?_,ih.2⟩;have f:=ih.1;simp only[MT]at f;rcases g with⟨_,rfl,rfl⟩|⟨x,_,rfl,rfl⟩|⟨m,i,rfl,rfl⟩
   .omega
   .omega
   .have h3:=i.len;have j:=vH (s.extract p.1 p.2);have k:=zaV s p.1 p.2;simp only[yr,yB,je]at f;omega
  .exact⟨Js,λe=>by cases e⟩
theorem Lu{u o l}(h:ZC s u o b c l):Z o<=4000/\(c=0->l=0):=by
 rcases h with⟨_,rfl,rfl,rfl,rfl,rfl⟩|⟨a,h⟩
 .grind
 .have h1:=A2.ops _ _ _ _ h;have d:=Yi 10 s (s.size+1) 0 I yn;grind
theorem Yj(c s):∀(n a:Nat),s.size-a<n->a<=s.size->Z (AD c s a)<=s.size-a+1
 |0,a,hn,ha=>I
 |n+1,a,hn,ha=>by
  obtain⟨b,d,_,_⟩:=D2 c s a ha;rw[EC c s a ha,yB];by_cases h:nx c s a<s.size
  .rw[yU h];have:=Yj c s n (nx c s a+1) I I;omega
  .rw[yS h];simp
theorem A2.uses{s}:∀(ls:List (Nat×Nat))(n:Nat)(us:Jv)(os:Jf){u:Jv}{o:Jf}{b:JZ}{c l:Int},A2 s ls n us os u o b c l->Z u<=Z us+Z ls/\((∀x∈us,x.size<=s.size)->∀x∈u,x.size<=s.size)
 |[],n,us,os,_,_,_,_,_,a=>by obtain⟨rfl,rfl,rfl,rfl,rfl⟩:=a;exact⟨Js,λ_ x hx=>by cases hx⟩
 |p::h,n,us,os,u,o,b,c,l,a=>by
  rcases a with⟨_,rfl,rfl,rfl,rfl,rfl⟩|⟨_,⟨us',e,g,a⟩|⟨_,rfl,rfl,rfl,rfl,rfl⟩⟩
  .exact⟨Js,λa=>a⟩
  .have ih:=A2.uses h (n+1) us' e a;rcases g with⟨_,rfl,rfl⟩|⟨x,hx,rfl,rfl⟩|⟨j,i,rfl,rfl⟩
   .exact⟨by have:=ih.1;simp;omega,ih.2⟩
   .refine⟨by have:=ih.1;simp at this ⊢;omega,λf=>ih.2 (λz d=>?_)⟩;rcases ju.1 d with d|d
    .exact f z d
    .have hm:z∈AA (s.extract p.1 p.2):=by rw[hx];simp at d;subst d;simp
     unfold AA at hm;obtain⟨q,_,rfl⟩:=List.mem_map.1 hm;simp only[yC];omega
   .exact⟨by have:=ih.1;simp;omega,ih.2⟩
  .exact⟨Js,λ_ x hx=>by cases hx⟩
theorem Nz{u o l}(h:ZC s u o b c l):Z u<=20001/\∀x∈u,x.size<=20000:=by
 rcases h with⟨_,rfl,rfl,rfl,rfl,rfl⟩|⟨a,h⟩
 .grind
 .have h1:=A2.uses _ _ _ _ h;have d:=Yj 10 s (s.size+1) 0 I yn;grind
def Z4(U:JC):Jf:=U.flatMap λu=>u.os
theorem Rq:∀(U:JC),(∀u∈U,Z u.os<=4000)->Z (Z4 U)<=Z U*4000
 |[],_=>by simp[Z4]
 |u::h,a=>by have:=Rq h (λx hx=>a x (by simp[hx]));have b:=a u Js;simp only[Z4,List.flatMap_cons,yr,yB]at *;omega
theorem NU(h:i<Z U):Ah U i∈U:=by grind [Ah]
theorem PT{u}(h:u∈U):∃i,i<Z U/\Ah U i=u:=by obtain⟨i,a,e⟩:=List.getElem_of_mem h;refine⟨i,a,?_⟩;grind [Ah]
def ZG.all(h:ZG ms U)(d:Z ms<=100):Z (Z4 U)<=400000:=by
 have:=Rq U (λu b=>by
  obtain⟨i,a,rfl⟩:=PT b
  exact(Lu (h.2 i (by rw[<-h.1];exact a))).1)
 have c:=h.1;omega
theorem ZG.one{b U a}(h:ZG b U)(d:ZG b a)(i)(c:i<Z b):Ah U i=Ah a i:=by
 obtain⟨f,g,j,_⟩:=(h.2 i c).one (d.2 i c);cases k:Ah U i
 cases e:Ah a i
 grind
theorem Y2(h:¬ B2 ms i){l}(d:ZC (Ae ms i).t us os b c l):c=0/\l=0/\Cv (Ae ms i).n/\(Ae ms i).n.size<=64:=by
 unfold B2 at h;have a:c=0:=by grind
 refine⟨a,(Lu d).2 a,?_,?_⟩;all_goals grind
def FQ(s k f a):=
 (k<=s.size/\f<=k/\(∀j,f<=j->j<k->bt s j≠32)/\a++Fy s f=AA s)\/(k=s.size+1/\a=AA s)
def FQ.start(s):FQ s 0 0 []:=yW ⟨yn,yk,λj a b=>I,F⟩
def FQ.skip{k}(h:FQ s k f us)(l:k<s.size)(d:bt s k≠32):FQ s (k+1) f us:=by
 rcases h with⟨a,i,b,c⟩|⟨a,_⟩
 .refine yW ⟨I,I,λj g m=>?_,c⟩;by_cases e:j=k
  .subst e;exact d
  .exact b j g I
 .omega
def J4(s:JZ)(f k:Nat)(a:Jv):List ByteArray:=a++(if f<k then[s.extract f k] else[])
def rE{k}(h:f<k):J4 s f k us=us++[s.extract f k]:=by unfold J4;rw[yU h]
def vI{k}(h:¬ f<k):J4 s f k us=us:=by unfold J4;rw[yS h];simp
def FQ.put{k}(h:FQ s k f us)(l:k<=s.size)(i:k=s.size\/bt s k=32):FQ s (k+1) (k+1) (J4 s f k us):=by
 rcases h with⟨c,d,g,a⟩|⟨c,_⟩
 .have hx:=JP I d c g (λb=>i.elim (λe=>I) (λe=>e));rw[Mf s f I,hx]at a;unfold J4;by_cases b:k<s.size
  .rw[yU b,<-yD]at a;exact yW ⟨I,yk,λj m n=>I,a⟩
  .rw[yS b,List.append_nil]at a;exact yX ⟨I,a⟩
 .omega
def FQ.fin{k}(h:FQ s k f us)(b:¬ k<=s.size):us=AA s:=by
 rcases h with⟨a,_⟩|⟨_,h⟩
 .omega
 .exact h
def lT(w:JY):zu (w.alloc (JM #[] 9)) (O w.1) (Ql (O w.1) 0 0) []:=by have:=yJ (base:=O w.1) (e:=9) (size:=1) w #[] 0 yk yn F;simpa[zu,zU] using this
def Yk(w s e a):=∃v,e=i9 v/\zu a (O w.1) v (AA s)/\Z (AA s)<=s.size+1/\Qb w a
def gY(s w)(hs:s.size<=1000000):Calls Vb 96 #[W s] w (Yk w s):=by
 have z:=S (lT w);go_enter func96,ntmps96;go_wp2;go_loopw [3,4,5] (λout M i wr=>∃(k f:Nat)(us:Jv)(v:Value),k<=s.size+1/\f<=k/\i=G k/\M=G f/\out=v/\Z us<=k/\Hid (FQ s k f us)/\Hid (zu wr (O w.1) v us)/\Qb w wr) (λ_ _ i _=>s.size+1-(intOf i).toNat);case atStart=>exact⟨0,0,[],_,yn,yk,F,F,F,yn,S (FQ.start s),z,zC⟩
 case round=>
  obtain⟨k,f,us,v,T,R,rfl,rfl,rfl,B,t,l,H⟩:=hrel;by_cases u:k<=s.size
  .have V:(k:Int)<=s.size:=I;by_cases Q:k=s.size\/bt s k=32
   .have m:=S (t.put u Q);have x:((k:Int)==s.size)=Vp\/(((k:Int)==s.size)=Vt/\∃(h:k<s.size),((s[k].toNat:Int)==32)=Vp):=by
     by_cases e:k=s.size
     .left;simp[e]
     .right;have K:k<s.size:=I;refine⟨Jq,K,?_⟩;have n:=Q.elim (λh=>yV h e) (λh=>h);rw[ZV K,n];rfl
    by_cases U:f<k
    .have p:(f:Int)<k:=I;have c:(f:Int)<=s.size:=I;have y:=S (rE (s:=s) (us:=us) U);rcases x with o|⟨o,K,P⟩;all_goals
      try have g:(k:Int)<s.size:=I
      go_wp2_with (at_builtin;refine As Z7 underlying63 (.tmp 26) (.tmp 31) F rfl (O w.1) _ (Z us) (zU us) F (l.y zC) (J (O wr.1) 0) 1 1 (zU [s.extract f k]) F rfl (Ju (Zu wr (s.extract f k))) (ZA _) Jm I (by have:=H.size;simp;omega) ?_)
      intro v4 w4 j X A b
      have L:=S (show zu w4 (O w.1) v4 (J4 s f k us) by
       rw[D y]
       unfold zu
       rw[Zi,yr]
       exact j)
      have a:Z (J4 s f k us)<=k+1:=by rw[D y];simp;omega
      have d:Qb w w4:=(H.alloc H.size _).grown X (by have:=H.size;simp;omega) (λq N=>(l.lt q N).1)
      go_wp2
      exact⟨⟨k+1,k+1,_,_,I,yk,Jn,Jn,F,a,m,L,d⟩,Ji⟩
    .have p:¬ (f:Int)<k:=I;have y:=S (vI (s:=s) (us:=us) U);rcases x with o|⟨o,K,P⟩;all_goals
      try have g:(k:Int)<s.size:=I
      go_wp2
      refine⟨⟨k+1,k+1,us,_,I,yk,Jn,Jn,F,I,?_,l,H⟩,Ji⟩
      have:=D m
      rw[D y]at this
      exact S this
   .have K:k<s.size:=I;have g:(k:Int)<s.size:=I;have n:bt s k≠32:=λe=>Q (yX e)
    have m:=S (t.skip K n);have o:((k:Int)==s.size)=Vt:=Jq;have P:((s[k].toNat:Int)==32)=Vt:=by rw[ZV K];simp only[jc,ne_eq];intro e;exact n (UInt8.toNat_inj.1 (Ju (I:(bt s k).toNat=32)))
    go_wp2;exact⟨⟨k+1,f,us,_,I,I,Jn,F,F,I,m,l,H⟩,Ji⟩
  .have V:¬ (k:Int)<=s.size:=I;have C:=S (t.fin u);go_wp2;go_ret;have e:=D C;subst e;exact⟨_,F,l,I,H⟩
def ZM(w:JY)(v)(b:Jv):=∃a c,v=i6 a (Z b) c/\(Z b=0\/∃g,a=E (J g 0)/\g<O w.1/\∀(j:Nat) x,b[j]?=E x->w.cell? (J g j)=E (W x))
def zu.strs(h:zu w B v ws):ZM w v ws:=by
 obtain⟨a,c,rfl⟩:=zS h;refine⟨a,c,F,?_⟩;have e:=h;obtain⟨_,⟨b,f⟩|⟨g,d,H,b,_⟩⟩:=e
 .exact yW f
 .simp only[Value.slice.injEq]at b;obtain⟨rfl,_,rfl⟩:=b;exact yX ⟨g,F,(h.lt g F).2,λj x i=>by have:=h.cells j x i;simpa using this⟩
def ZM.grown{row}(h:ZM w v ws)(d:w.grownBy w' row)(H:∀g,v.ownBlock=E g->row≠E g):ZM w' v ws:=by obtain⟨a,c,rfl,h⟩:=h;refine⟨a,c,F,h.imp id ?_⟩;rintro⟨g,rfl,b,e⟩;exact⟨g,F,ym b d.size,λj x f=>(zJ d b (H g F) j).trans (e j x f)⟩
def ZM.y(h:ZM w v ws)(a:Qb w w'):ZM w' v ws:=
 h.grown (row:=JL) (zH a JL) (λg _ e=>by cases e)
theorem ZM.lt(h:ZM w v ws)(b:1<=Z ws):∃g c,v = Ql g (Z ws) c/\g<O w.1/\∀(j:Nat) x,ws[j]?=E x->w.cell? (J g j)=E (W x):=by obtain⟨a,c,rfl,h|⟨g,rfl,d,e⟩⟩:=h;all_goals grind
structure BP where
 wv:Value
 f:Nat
 t:Nat
variable{ls:List BP}
def BP.cells(l:BP):JD:=[l.wv,G (l.f:Int),G (l.t:Int)]
def A7(a:List BP)(i:Nat):BP:=a.getD i ⟨Jl,0,0⟩
def D3(a:List BP):JD:=a.flatMap λx=>[x.wv,G (x.f:Int),G (x.t:Int)]
def dS(a b):D3 (a++b)=D3 a++D3 b:=by simp[D3]
theorem U5:∀(zs:List BP)(i:Nat),i<Z zs->(D3 zs)[i*3]?=E (A7 zs i).wv/\(D3 zs)[i*3+1]?=E (G ((A7 zs i).f:Int))/\(D3 zs)[i*3+2]?=E (G ((A7 zs i).t:Int))
 |[],i,a=>yV a (yz i)
 |o::h,0,_=>⟨F,F,F⟩
 |o::h,i+1,a=>by
  have b:=U5 h i (Ju a);have e:∀j,(D3 (o::h))[(i+1)*3+j]?=(D3 h)[i*3+j]?:=λj=>by have:(i+1)*3+j=(i*3+j)+3:=I;rw[this];rfl
  exact⟨(e 0).trans b.1,(e 1).trans b.2.1,(e 2).trans b.2.2⟩
def zaW:(prog.info? 119).map (λi=>(i.zero,i.size,i.bytes))=E (E (b9 #[Jl,G 0,G 0]),3,40):=Jk
theorem lU(w:JY)(x):∀j u,(D3 [x])[j]?=E u->(w.alloc (JM #[x.wv,G (x.f:Int),G (x.t:Int)] 119)).cell? ((J (O w.1) 0).add j)=E u:=by intro j u a;rw[jO];have:=yF (w:=w.alloc (JM #[x.wv,G (x.f:Int),G (x.t:Int)] 119)) (b:=O w.1) (jL w _) 0 3;exact this j u (by grind [D3])
def FR(w:JY)(B:Nat)(u:Value)(a):=w.ownsRow B 119 3 u (Z a) (D3 a)
def FR.y{u a}(h:FR w B u a)(b:Qb w w'):FR w' B u a:=
 jD h (zH b JL) (by cases u.ownBlock with
 |none=>exact yW F
 |some k=>exact yX Js)
def FR.lt{w B u b}(h:FR w B u b):∀g,u.ownBlock=E g->B<=g/\g<O w.1:=λg a=>ji h g a
def M2(w:JY)(g:Nat)(a):=∀i,i<Z a->w.cell? (J g (i*3))=E (A7 a i).wv/\w.cell? (J g (i*3+1))=E (G ((A7 a i).f:Int))/\w.cell? (J g (i*3+2))=E (G ((A7 a i).t:Int))
def M2.y(h:M2 w g ls)(b:Below B w w')(a:g<B):M2 w' g ls:=λi f=>by obtain⟨c,d,e⟩:=h i f;exact⟨Jc b a c,Jc b a d,Jc b a e⟩
def FR.ops{c a}(h:FR w B (Ql g (Z a) c) a):M2 w g a:=λi k=>by
 obtain⟨b,d,f⟩:=U5 a i k;have e:=λj (l:j<3)=>jK h (i*3+j) I
 exact⟨Ju ((e 0 I).trans b),Ju ((e 1 I).trans d),Ju ((e 2 I).trans f)⟩
def Ov(w)(s:JZ)(v:Value)(a:List BP):=∀l∈a,ZM w l.wv (AA (s.extract l.f l.t))/\∀g,l.wv.ownBlock=E g->v.ownBlock≠E g/\g<O w.1
theorem Ov.step{b:Value}{t:Nat}(h:Ov w s v ls)(j:Qb w w1)(o:∀g,v.ownBlock=E g->g<O w.1)(m:ZM w1 b (AA (s.extract f t)))(K:∀g,b.ownBlock=E g->O w.1<=g/\g<O w1.1)(d:w1.grownBy w4 v.ownBlock)(Q:v4.ownBlock=v.ownBlock\/∃k,v4.ownBlock=E k/\O w1.1<=k):Ov w4 s v4 (ls++[⟨b,f,t⟩]):=by
 have H:∀g,g<O w1.1->v.ownBlock≠E g->v4.ownBlock≠E g:=λg i c e=>by grind
 have p:=j.size;have q:=d.size;intro l a;rcases ju.1 a with a|a
 .obtain⟨i,c⟩:=h l a;refine⟨(i.y j).grown d (λg e=>(c g e).1),λg e=>⟨H g ?_ (c g e).1,?_⟩⟩;all_goals grind
 .simp only[jE]at a;subst a;have hx:∀g,b.ownBlock=E g->v.ownBlock≠E g:=λg e n=>by grind
  refine⟨m.grown d hx,λg e=>⟨H g (K g e).2 (hx g e),?_⟩⟩;grind
def CF(n:Nat)(k t l a:JZ):Option Ad:=
 if DP l=Vp then
  (
   if k=DH/\n=3 then E ⟨t,1,(Zq l l.size:Int),0⟩
   else if k=Z9/\n=3 then E ⟨t,3,(Zq l l.size:Int),0⟩
   else if k=DJ/\n=4/\Bn a≠0 then E ⟨t,2,(Zq l l.size:Int),Bn a⟩ else JL)
 else JL
theorem U6(t):Bn t=0\/Bn t=1\/Bn t=2\/Bn t=3:=by grind [Bn]
def gZ(a:3<=Z ws):∃k t l h,ws=k::t::l::h:=by
 match ws,a with
 |k::t::l::h,_=>exact⟨k,t,l,h,F⟩
theorem rF{k a}(c:a=[]\/∃b,a=sd::b):(∀o,CF (Z a+3) k t l sd=E o->Bb (k::t::l::a) o)/\(CF (Z a+3) k t l sd=JL->∀o,¬ Bb (k::t::l::a) o):=by
 unfold CF;constructor
 .intro o h;split at h
  .rename_i hl;have hL:=(Mw l).1 hl;split at h
   .rename_i hk;injection h with h;have:a=[]:=jg.1 I;subst this;exact⟨k,t,l,hL,yW ⟨F,yW ⟨hk.1,h.symm⟩⟩⟩
   .split at h
    .rename_i hk;injection h with h;have:a=[]:=jg.1 I;subst this;exact⟨k,t,l,hL,yW ⟨F,yX ⟨hk.1,h.symm⟩⟩⟩
    .split at h
     .rename_i hk;injection h with h;rcases c with rfl|⟨b,rfl⟩
      .simp at hk
      .have:b=[]:=jg.1 (by grind);subst this;exact⟨k,t,l,hL,yX ⟨sd,F,hk.1,hk.2.2,h.symm⟩⟩
     .cases h
  .cases h
 .rintro h o ⟨k',t',l',hL,h2⟩;have H:=λ(e:l=l')=>(Mw l).2 (e ▸ hL)
  grind
def Lz(w:JY)(b)(o:Ad):=
 (w.cell? (J b 0)=E (W o.s)/\w.cell? (J b 1)=E (G o.k)/\w.cell? (J b 2)=E (G o.l)/\w.cell? (J b 3)=E (G o.sd)) /\
  (w.frozen? (J b 0)=Vt/\w.frozen? (J b 1)=Vt/\w.frozen? (J b 2)=Vt/\w.frozen? (J b 3)=Vt)
def Lz.y{b}(h:Lz w b o)(c:Below B w w')(a:b<B):Lz w' b o:=by
 obtain⟨⟨l,m,n,q⟩,d,g,i,k⟩:=h;have e:=λj=>c.cell (p:=J b j) a
 have f:=λj=>c.frozen (p:=J b j) a
 exact⟨⟨(e 0).trans l,(e 1).trans m,(e 2).trans n,(e 3).trans q⟩,(f 0).trans d,(f 1).trans g,(f 2).trans i,(f 3).trans k⟩
def SE(w n k t l a e b):=
 ∃(o:Ad)(v:Bool),e=i9 (i5 #[b9 #[W o.s,G o.k,G o.l,G o.sd],i7 v])/\((v=Vp/\CF n k t l a=E o)\/(v=Vt/\CF n k t l a=JL))/\Qb w b
theorem W7{k}(h:DP l=Vt):CF n k t l sd=none:=by grind [CF]
theorem U7{k}(h:DP l=Vp)(b:k=DH):CF n k t l sd=if n=3 then E ⟨t,1,(Zq l l.size:Int),0⟩ else none:=by
 subst b;unfold CF;rw[yU h];by_cases a:n=3
 .grind
 .rw[yS (λx=>a x.2),yS (λx=>a x.2),yS (λx=>yV x.1 Jd),yS a]
def Uy{k}(h:DP l=Vp)(b:k=Z9):CF n k t l sd=if n=3 then E ⟨t,3,(Zq l l.size:Int),0⟩ else none:=by
 subst b;unfold CF;rw[yU h];by_cases a:n=3
 .rw[yS (λx=>yV x.1 Jd),yU ⟨rfl,a⟩,yU a]
 .rw[yS (λx=>a x.2),yS (λx=>a x.2),yS (λx=>yV x.1 Jd),yS a]
theorem VR{k}(h:DP l=Vp)(a:k=DJ):CF n k t l sd=if n=4/\Bn sd≠0 then E ⟨t,2,(Zq l l.size:Int),Bn sd⟩ else none:=by subst a;unfold CF;rw[yU h,yS (λx=>yV x.1 Jd),yS (λx=>yV x.1 Jd)];grind
theorem Vv{k}(a:k≠DH)(b:k≠Z9)(c:k≠DJ):CF n k t l sd=none:=by grind [CF]
def Cr(a:List BP):List (Nat×Nat):=a.map λl=>(l.f,l.t)
def lV(a b):Cr (a++b)=Cr a++Cr b:=by simp[Cr]
def j7(s k f a):=
 (k<=s.size/\f<=k/\(∀j,f<=j->j<k->bt s j≠10)/\a++AD 10 s f=AD 10 s 0)\/(k=s.size+1/\a=AD 10 s 0)
def j7.start(s):j7 s 0 0 []:=yW ⟨yn,yk,λj a b=>I,F⟩
def j7.skip{k a}(h:j7 s k f a)(m:k<s.size)(g:bt s k≠10):j7 s (k+1) f a:=by
 rcases h with⟨b,l,c,d⟩|⟨b,_⟩
 .refine yW ⟨I,I,λj i n=>?_,d⟩;by_cases e:j=k
  .subst e;exact g
  .exact c j i I
 .omega
def j7.put{k g}(h:j7 s k f g)(m:k<=s.size)(l:k=s.size\/bt s k=10):f<=k/\j7 s (k+1) (k+1) (g++[(f,k)]):=by
 rcases h with⟨c,d,i,a⟩|⟨c,_⟩
 .refine⟨d,?_⟩;have hx:=JP I d c i (λb=>l.elim (λe=>I) (λe=>e));rw[EC 10 s f I,hx]at a;by_cases b:k<s.size
  .rw[yU b]at a;exact yW ⟨I,yk,λj n o=>I,Ju a⟩
  .rw[yS b]at a;exact yX ⟨I,a⟩
 .omega
def j7.fin{k a}(h:j7 s k f a)(c:¬ k<=s.size):a=AD 10 s 0:=by
 rcases h with⟨b,_⟩|⟨_,h⟩
 .omega
 .exact h
def lW(w:JY):FR (w.alloc (JM #[] 119)) (O w.1) (Ql (O w.1) 0 0) []:=by have:=yJ (base:=O w.1) (e:=119) (size:=3) w #[] 0 yk yn F;simpa[FR,D3] using this
def vJ(w s e a):=∃(g c:Nat)(ls:List BP),e=i9 (Ql g (Z ls) c)/\O w.1<=g/\g<O a.1/\Hid (M2 a g ls)/\Hid (∀l∈ls,ZM a l.wv (AA (s.extract l.f l.t)))/\Hid (Cr ls=AD 10 s 0)/\Z ls<=s.size+1/\Qb w a
def Uz(s w)(hs:s.size<=1000000):Calls Vb 56 #[W s] w (vJ w s):=by
 have HE:=S (lW w);go_enter func56,ntmps56;go_wp2;go_loopw [3,4,5] (λout fr i wr=>∃(k f g c:Nat)(ls:List BP),k<=s.size+1/\f<=k/\i=G k/\fr=G f/\out = Ql g (Z ls) c/\Z ls<=k/\Hid (j7 s k f (Cr ls))/\Hid (FR wr (O w.1) (Ql g (Z ls) c) ls)/\Hid (Ov wr s (Ql g (Z ls) c) ls)/\Qb w wr) (λ_ _ i _=>s.size+1-(intOf i).toNat);case atStart=>exact⟨0,0,O w.1,0,[],yn,yk,F,F,F,yn,S (j7.start s),HE,S (λl hl=>by cases hl),zC⟩
 case round=>
  obtain⟨k,f,g,c,ls,hk,hf,rfl,rfl,rfl,d,HW,M,HL,H⟩:=hrel;by_cases U:k<=s.size
  .have v:(k:Int)<=s.size:=I;by_cases x:k=s.size\/bt s k=10
   .obtain⟨o,hp⟩:=HW.put U x;have HP:=S hp;have t:((k:Int)==s.size)=Vp\/(((k:Int)==s.size)=Vt/\∃(h:k<s.size),((s[k].toNat:Int)==10)=Vp):=by
     by_cases e:k=s.size
     .left;simp[e]
     .right;have Q:k<s.size:=I;refine⟨Jq,Q,?_⟩;have hb:=x.elim (λh=>yV h e) (λh=>h);rw[ZV Q,hb];rfl
    have m:(f:Int)<=k:=I;have B:(s.extract f k).size<=1000000:=by rw[ZW];omega
    have hg:=(M.lt g F).2;rcases t with hc|⟨hc,Q,A⟩;all_goals
     try have a:(k:Int)<s.size:=I
     go_wp2_with fail
     go_call gY (s.extract f k) _ B as e w1 ⟨nv,rfl,L,hl1,T⟩
     obtain⟨N,R,rfl⟩:=zS L
     have HN:=S L.strs
     have b:=S (λq e=>L.lt q e)
     have z:=S T
     have z1:=T.size
     go_wp2_with (at_builtin;refine As zaW underlying115 (.tmp 23) (.tmp 32) F rfl (O w.1) _ (Z ls) (D3 ls) F ((M.y z).y zC) (J (O w1.1) 0) 1 1 (D3 [⟨.slice N (Z (AA (s.extract f k))) R,f,k⟩]) F rfl (Ju (lU w1 ⟨.slice N (Z (AA (s.extract f k))) R,f,k⟩)) (λu hu=>by simp[D3]at hu;rcases hu with rfl|rfl|rfl<;>rfl) Jm I (by have:=H.size;simp;omega) ?_)
     intro v4 w4 y K C V
     have HO:=S (show FR w4 (O w.1) v4 (ls++[⟨.slice N (Z (AA (s.extract f k))) R,f,k⟩]) by
      unfold FR
      rw[dS,yr]
      exact y)
     have P:=S (Ov.step HL (z.alloc z1 _) (λq e=>by have e':g=q:=(by simpa[i8] using e);omega) (HN.y zC) (λq e=>by have:=(D b) q e;simp;omega) K (V.imp id (λh=>⟨_,h,Js⟩)))
     have p:Qb w w4:=((H.trans (z.mono H.size)).alloc (Jy H.size) _).grown K (by have:=H.size;simp;omega) (λq hq=>(M.lt q hq).1)
     obtain⟨g4,c4,rfl⟩:∃g4 c4,v4 = Ql g4 (ls++[(⟨.slice N (Z (AA (s.extract f k))) R,f,k⟩:BP)]).length c4:=by
      have h:=D HO;obtain⟨_,⟨_,h2⟩|⟨g',cap,n,h1,_⟩⟩:=h
      .simp at h2
      .exact⟨g',cap,h1⟩
     obtain⟨j,X⟩:∃j,Hid (j=ls++[(⟨.slice N (Z (AA (s.extract f k))) R,f,k⟩:BP)]):=⟨_,S F⟩
     have e4:=D X
     rw[<-e4]at HO P
     rw[<-e4]
     go_wp2
     refine⟨⟨k+1,k+1,g4,c4,j,I,yk,Jn,Jn,F,?_,?_,HO,P,p⟩,Ji⟩
     .rw[D X];simp;omega
     .have:=D HP
      rw[D X,lV]
      exact S this
   .have Q:k<s.size:=I;have a:(k:Int)<s.size:=I;have hb:bt s k≠10:=λe=>x (yX e)
    have HP:=S (HW.skip Q hb);have hc:((k:Int)==s.size)=Vt:=Jq;have A:((s[k].toNat:Int)==10)=Vt:=by rw[ZV Q];simp only[jc,ne_eq];intro e;exact hb (UInt8.toNat_inj.1 (Ju (I:(bt s k).toNat=10)))
    go_wp2;exact⟨⟨k+1,f,g,c,ls,I,I,Jn,F,F,I,HP,M,HL,H⟩,Ji⟩
  .have v:¬ (k:Int)<=s.size:=I;have HF:=S (HW.fin U);go_wp2;go_ret;have hg:=M.lt g F;exact⟨g,c,ls,F,hg.1,hg.2,S M.ops,S (λl hl=>(HL l hl).1),HF,I,H⟩
def AQ(w:JY)(B:Nat)(v)(a:Jf):=w.ownsRow B 25 4 v (Z a) (zn a)
def AQ.grown{u a row}(h:AQ w B u a)(b:w.grownBy w' row)(H:∀k,u.ownBlock=E k->row≠E k):AQ w' B u a:=
 jD h b (by
  cases e:u.ownBlock with
  |none=>exact yW F
  |some k=>exact yX (λx=>H k e x.symm))
def AQ.y{u a}(h:AQ w B u a)(b:Qb w w'):AQ w' B u a:=
 h.grown (row:=JL) (zH b JL) (λk _ e=>by cases e)
def AQ.lt{w B u b}(h:AQ w B u b):∀g,u.ownBlock=E g->B<=g/\g<O w.1:=λg a=>ji h g a
structure Cb(w:JY)(B U:Nat)(vu vo:Value)(us:Jv)(os:Jf)(b:JZ):Prop where
 c0:w.cell? (J U 0)=E vu
 c1:w.cell? (J U 1)=E vo
 c2:w.cell? (J U 2)=E (W b)
 fz:∀o,w.frozen? (J U o)=Vt
 hB:B<=U
 ru:zu w B vu us
 ro:AQ w B vo os
 nu:vu.ownBlock≠E U
 no:vo.ownBlock≠E U
 ne:∀g,vu.ownBlock=E g->vo.ownBlock≠E g
def Cb.lt{U:Nat}(h:Cb w B U vu vo us os b):U<O w.1:=jk _ _ h.c0
def Cb.y{w g B U f e d c b}(h:Cb w B U f e d c b)(a:Qb w g):Cb g B U f e d c b:=
 ⟨Jc a h.lt h.c0,Jc a h.lt h.c1,Jc a h.lt h.c2,λo=>(a.frozen (p:=J U o) h.lt).trans (h.fz o),h.hB,h.ru.y a,h.ro.y a,h.nu,h.no,h.ne⟩
def Z8{a}(h:w.grownBy w' a){b}(c:b<O w.1)(H:a≠E b)(o):w'.frozen? (J b o)=w.frozen? (J b o):=
 yG (w:=w) (h.block b c (λe=>H e.symm))
def zx(a:JY)(p o V):a.grownBy (a.setCell (J p o) V) (E p):=
 ⟨F,F,F,Jt,λi _ b=>jh _ _ _ _ (λe=>b (by rw[e]))⟩
def Cb.keep{U:Nat}(h:Cb w B U vu vo us os b)(a:Qb w w1)(e:v=vu\/v=vo)(d:w1.grownBy w4 v.ownBlock):(∀o,w4.cell? (J U o)=w.cell? (J U o))/\(∀o,w4.frozen? (J U o)=Vt):=by
 have c:=h.lt;have K:v.ownBlock≠E U:=by
  rcases e with rfl|rfl
  .exact h.nu
  .exact h.no
 have H:U<O w1.1:=ym c a.size;exact⟨λo=>(zJ d H K o).trans (a.cell (p:=J U o) c),λo=>(Z8 d H K o).trans ((a.frozen (p:=J U o) c).trans (h.fz o))⟩
def Y3{U H}(h:v4.ownBlock=v.ownBlock\/∃k,v4.ownBlock=E k/\H<=k)(b:v.ownBlock≠E U)(c:U<H):v4.ownBlock≠E U:=λe=>by
 rcases h with h|⟨k,a,K⟩
 .exact b (h.symm.trans e)
 .rw[a]at e;injection e with e;omega
theorem Cb.putU{U:Nat}(h:Cb w B U vu vo us os b)(c:Qb w w1)(f:w1.grownBy w4 vu.ownBlock)(m:zu w4 B v4 us')(H:v4.ownBlock=vu.ownBlock\/∃k,v4.ownBlock=E k/\O w1.1<=k):Cb (w4.setCell ⟨U,0,JL⟩ v4) B U v4 vo us' os b/\Below B w (w4.setCell ⟨U,0,JL⟩ v4):=by
 obtain⟨i,n⟩:=h.keep c (yW F) f;have t:=h.lt;have u:=c.size;have q:=h.hB;have Q:=λk e=>(h.ru.lt k e)
 have a:=λk e=>(h.ro.lt k e)
 have j:=Y3 H h.nu I;have K:AQ w4 B vo os:=(h.ro.y c).grown f (λk l d=>h.ne k d l);have X:Below B w w4:=(c.mono I).grown f I (λk e=>(Q k e).1);refine⟨⟨yu _ _ _ ((i 0).trans h.c0),(yj _ _ _ _ Js).trans ((i 1).trans h.c1),(yj _ _ _ _ Js).trans ((i 2).trans h.c2),λo=>(yx).trans (n o),q,m.grown (zx _ U 0 _) (λk e x=>j (e.trans x.symm)),K.grown (zx _ U 0 _) (λk e x=>h.no (e.trans x.symm)),j,h.no,λg e d=>?_⟩,X.setCell (p:=⟨U,0,JL⟩) q _⟩;rcases H with H|⟨k,s,y⟩
 .exact h.ne g (H.symm.trans e) d
 .grind
theorem Cb.putO{U:Nat}{c:Jf}(h:Cb w B U vu vo us os b)(d:Qb w w1)(i:w1.grownBy w4 vo.ownBlock)(n:AQ w4 B v4 c)(H:v4.ownBlock=vo.ownBlock\/∃k,v4.ownBlock=E k/\O w1.1<=k):Cb (w4.setCell ⟨U,1,JL⟩ v4) B U vu v4 us c b/\Below B w (w4.setCell ⟨U,1,JL⟩ v4):=by
 obtain⟨j,s⟩:=h.keep d (yX F) i;have u:=h.lt;have v:=d.size;have q:=h.hB;have y:=λk e=>(h.ru.lt k e)
 have X:=λk e=>(h.ro.lt k e)
 have l:=Y3 H h.no I;have K:zu w4 B vu us:=(h.ru.y d).grown i (λk m f=>h.ne k m f);have Q:Below B w w4:=(d.mono I).grown i I (λk e=>(X k e).1);refine⟨⟨(yj _ _ _ _ Js).trans ((j 0).trans h.c0),yu _ _ _ ((j 1).trans h.c1),(yj _ _ _ _ Js).trans ((j 2).trans h.c2),λo=>(yx).trans (s o),q,K.grown (zx _ U 1 _) (λk e x=>h.nu (e.trans x.symm)),n.grown (zx _ U 1 _) (λk e x=>l (e.trans x.symm)),h.nu,l,λg e f=>?_⟩,Q.setCell (p:=⟨U,1,JL⟩) q _⟩;rcases H with H|⟨k,t,a⟩
 .exact h.ne g e (H.symm.trans f)
 .grind
def Tf(w a e c):=
 ∃(o:Ad)(v:Bool),e=i9 (i5 #[b9 #[W o.s,G o.k,G o.l,G o.sd],i7 v])/\((v=Vp/\Bb a o)\/(v=Vt/\∀b,¬ Bb a b))/\Qb w c
def Yl(b v f w)(q:ZM w v f)(B:∀x∈f,x.size<=maxLen)(m:∀(a:Option Addr)(c n:Nat)(w:JY),n<3->Calls Vb b #[.slice a n c] w λe w'=>(∃o:Ad,e=i9 (i5 #[b9 #[W o.s,G o.k,G o.l,G o.sd],i7 Vt]))/\Qb w w')(i:∀(g c n:Nat)(k t l sd:JZ)(w:JY),3<=n->l.size<=maxLen->w.cell? (J g 0)=E (W k)->w.cell? (J g 1)=E (W t)->w.cell? (J g 2)=E (W l)->(4<=n->w.cell? (J g 3)=E (W sd))->Calls Vb b #[Ql g n c] w (SE w n k t l sd)):Calls Vb b #[v] w (Tf w f):=by
 by_cases y:Z f<3
 .obtain⟨a,c,rfl,_⟩:=q;go_call m a c (Z f) w y as e w' ⟨⟨o,rfl⟩,p⟩;exact⟨o,Vt,F,yX ⟨F,λC A=>Jy A.len⟩,p⟩
 .obtain⟨g,c,rfl,hg,hc⟩:=q.lt I;obtain⟨k,t,l,d,rfl⟩:=gZ (I:3<=Z f);obtain⟨sd,K⟩:∃sd,d=[]\/∃j,d=sd::j:=by
   cases d with
   |nil=>exact⟨j6,yW F⟩
   |cons x j=>exact⟨x,yX ⟨j,F⟩⟩
  have H:Z (k::t::l::d)=Z d+3:=F;obtain⟨s,u⟩:=rF (k:=k) (t:=t) (l:=l) K;rw[H];refine(i g c (Z d+3) k t l sd w I (B l Js) (hc 0 k F) (hc 1 t F) (hc 2 l F) (λz=>hc 3 sd ?_)).mono ?_
  .rcases K with rfl|⟨j,rfl⟩
   .simp at z
   .rfl
  .rintro e w' ⟨o,v,rfl,h,p⟩;refine⟨o,v,F,?_,p⟩;rcases h with⟨rfl,h⟩|⟨rfl,h⟩
   .exact yW ⟨F,s o h⟩
   .exact yX ⟨F,u h⟩
def zu.base{b}(h:zu w B v ws)(f:b<=B):zu w b v ws:=by
 obtain⟨c,d|⟨g,a,H,j,i,e⟩⟩:=h
 .exact⟨c,yW d⟩
 .exact⟨c,yX ⟨g,a,H,j,yy f i,e⟩⟩
def AQ.base{b d}(h:AQ w B v d)(i:b<=B):AQ w b v d:=by
 obtain⟨c,e|⟨g,a,H,k,j,f⟩⟩:=h
 .exact⟨c,yW e⟩
 .exact⟨c,yX ⟨g,a,H,k,yy i j,f⟩⟩
def NV(w s e a):=
 ∃(vu vo:Value)(us:Jv)(os:Jf)(b:JZ)(c l:Int),e=i9 (i5 #[b9 #[vu,vo,W b],G c,G l])/\ZC s us os b c l /\
  zu a (O w.1) vu us/\AQ a (O w.1) vo os/\(∀g,vu.ownBlock=E g->vo.ownBlock≠E g)/\Z us<=20001/\Z os<=20001/\Qb w a
def Mh{l}(h:ZC s [] [] j6 c l)(a:Qb w w'):NV w s (i9 (i5 #[b9 #[Jl,Jl,W ⟨#[]⟩],G c,G l])) w':=
 ⟨Jl,Jl,[],[],j6,c,l,F,h,jt,jt,(λg e=>by cases e),Js,Js,a⟩
def Ix(w:JY)(H):=w.cell? (J H 0)=E Jl/\w.cell? (J H 1)=E Jl/\w.cell? (J H 2)=E (W ⟨#[]⟩)/\(∀o,w.frozen? (J H o)=Vt)
def Ix.y{H}(h:Ix w H)(b:Below B w w')(a:H<B):Ix w' H:=by obtain⟨c,d,e,f⟩:=h;exact⟨Jc b a c,Jc b a d,Jc b a e,λo=>(b.frozen (p:=J H o) a).trans (f o)⟩
theorem Ui{d:JY}{U:Nat}{b':JZ}(t:O w.1<B)(h:Cb d B U vu vo us os b)(m:Qb w d)(n:ZC s us os b' 0 0)(j:Z us<=20001)(l:Z os<=20001):NV w s (i9 (i5 #[b9 #[vu,vo,W b'],G 0,G 0])) ((d.setCell (J U 2) (W b')).setCells (O w.1) 0 [vu,vo,W b']) /\
  NV w s (i9 (i5 #[b9 #[vu,vo,W b'],G 0,G 0])) (d.setCells (O w.1) 0 [vu,vo,W b']):=by
 have c:=λa=>za (Ld (g:=O w.1) [vu,vo,W b'] 0 a)
 have H:=h.hB;have q:∀k,vu.ownBlock=E k->E (O w.1)≠E k:=λk e x=>by injection x with x;have:=(h.ru.lt k e).1;omega
 have o:∀k,vo.ownBlock=E k->E (O w.1)≠E k:=λk e x=>by injection x with x;have:=(h.ro.lt k e).1;omega
 have i:∀k,vu.ownBlock=E k->E U≠E k:=λk e x=>h.nu (e.trans x.symm)
 have f:∀k,vo.ownBlock=E k->E U≠E k:=λk e x=>h.no (e.trans x.symm)
 constructor
 .exact⟨vu,vo,us,os,b',0,0,F,n,((h.ru.grown (zx _ U 2 _) i).grown (c _) q).base I,((h.ro.grown (zx _ U 2 _) f).grown (c _) o).base I,h.ne,j,l,zX yk _ 0 _ (m.setCell (p:=J U 2) (by grind) _)⟩
 .exact⟨vu,vo,us,os,b',0,0,F,n,(h.ru.grown (c _) q).base I,(h.ro.grown (c _) o).base I,h.ne,j,l,zX yk _ 0 _ m⟩
theorem PB(h:x∈AA l):x.size<=l.size:=by grind [AA,ZW]
def Dr(s a n e d):=∀u o b c l,A2 s a n e d u o b c l->ZC s u o b c l
def Dr.start(a:s.size<=20000):Dr s (AD 10 s 0) 1 [] []:=λu o b c l h=>yX ⟨a,h⟩
def Dr.begin(a:Dr s (p::h) n us os)(b:AA (s.extract p.1 p.2)=[Cd]):ZC s us os (CE s p.2) 0 0:=
 a _ _ _ _ _ (yW ⟨b,F,F,F,F,F⟩)
def Dr.bad(a:Dr s (p::h) n us os)(d:AA (s.extract p.1 p.2)≠[Cd])(c:∀us' b,¬ Dk (AA (s.extract p.1 p.2)) us os us' b):ZC s [] [] j6 2 (n:Int):=
 a _ _ _ _ _ (yX ⟨d,yX ⟨c,F,F,F,F,F⟩⟩)
def Dr.next{os':Jf}(a:Dr s (p::h) n us os)(f:AA (s.extract p.1 p.2)≠[Cd])(d:Dk (AA (s.extract p.1 p.2)) us os us' os'):Dr s h (n+1) us' os':=
 λu o b c l e=>a _ _ _ _ _ (yX ⟨f,yW ⟨us',os',d,e⟩⟩)
def Dr.fin(h:Dr s [] n us os):ZC s [] [] j6 3 0:=h _ _ _ _ _ ⟨F,F,F,F,F⟩
def ZX(w v b):=∃a c,v=i6 a (Z b) c/\((Z b=0/\a=JL/\c=0)\/∃g,a=E (J g 0)/\g<O w.1/\Au w g 0 b)
def AQ.ops{w B v d}(h:AQ w B v d):ZX w v d:=by
 have e:=h;obtain⟨_,⟨b,c⟩|⟨g,a,H,b,_⟩⟩:=e
 .exact⟨JL,0,by rw[b,c],yW ⟨c,F,F⟩⟩
 .subst b;exact⟨_,a,F,yX ⟨g,F,(h.lt g F).2,(Ml h).2.ops⟩⟩
def ZX.grown{row}(h:ZX w v os)(d:w.grownBy w' row)(H:∀g,v.ownBlock=E g->row≠E g):ZX w' v os:=by
 obtain⟨a,c,rfl,h⟩:=h;refine⟨a,c,F,h.imp id ?_⟩;rintro⟨g,rfl,b,f⟩;refine⟨g,F,ym b d.size,λi j=>?_⟩;obtain⟨k,l,m,n⟩:=f i j;have e:=λo=>zJ d b (H g F) o
 exact⟨(e _).trans k,(e _).trans l,(e _).trans m,(e _).trans n⟩
structure AO where
 vu:Value
 vo:Value
 b:ByteArray
variable{vs:List AO}
def AX(a:List AO)(i:Nat):AO:=a.getD i ⟨Jl,Jl,j6⟩
def CK(a:List AO):JD:=a.flatMap λx=>[x.vu,x.vo,W x.b]
def TV(a b):CK (a++b)=CK a++CK b:=by simp[CK]
theorem Vw:∀(zs:List AO)(i:Nat),i<Z zs->(CK zs)[i*3]?=E (AX zs i).vu/\(CK zs)[i*3+1]?=E (AX zs i).vo/\(CK zs)[i*3+2]?=E (W (AX zs i).b)
 |[],i,a=>yV a (yz i)
 |o::h,0,_=>⟨F,F,F⟩
 |o::h,i+1,a=>by
  have b:=Vw h i (Ju a);have e:∀j,(CK (o::h))[(i+1)*3+j]?=(CK h)[i*3+j]?:=λj=>by have:(i+1)*3+j=(i*3+j)+3:=I;rw[this];rfl
  exact⟨(e 0).trans b.1,(e 1).trans b.2.1,(e 2).trans b.2.2⟩
def Y4:(prog.info? 65).map (λi=>(i.zero,i.size,i.bytes))=E (E (b9 #[Jl,Jl,W ⟨#[]⟩]),3,64):=Jk
theorem Vx(w:JY)(x):∀j u,(CK [x])[j]?=E u->(w.alloc (JM #[x.vu,x.vo,W x.b] 65)).cell? ((J (O w.1) 0).add j)=E u:=by intro j u a;rw[jO];have:=yF (w:=w.alloc (JM #[x.vu,x.vo,W x.b] 65)) (b:=O w.1) (jL w _) 0 3;exact this j u (by grind [CK])
def C0(w:JY)(B:Nat)(u:Value)(a):=w.ownsRow B 65 3 u (Z a) (CK a)
def C0.y{u a}(h:C0 w B u a)(b:Qb w w'):C0 w' B u a:=
 jD h (zH b JL) (by cases u.ownBlock with
 |none=>exact yW F
 |some k=>exact yX Js)
def C0.grown{u a row}(h:C0 w B u a)(b:w.grownBy w' row)(H:∀k,u.ownBlock=E k->row≠E k):C0 w' B u a:=
 jD h b (by
  cases e:u.ownBlock with
  |none=>exact yW F
  |some k=>exact yX (λx=>H k e x.symm))
def C0.lt{w B u b}(h:C0 w B u b):∀g,u.ownBlock=E g->B<=g/\g<O w.1:=λg a=>ji h g a
def J5(w:JY)(g:Nat)(a):=∀i,i<Z a->w.cell? (J g (i*3))=E (AX a i).vu/\w.cell? (J g (i*3+1))=E (AX a i).vo/\w.cell? (J g (i*3+2))=E (W (AX a i).b)
def J5.y(h:J5 w g vs)(b:Below B w w')(a:g<B):J5 w' g vs:=λi f=>by obtain⟨c,d,e⟩:=h i f;exact⟨Jc b a c,Jc b a d,Jc b a e⟩
def C0.ops{c a}(h:C0 w B (Ql g (Z a) c) a):J5 w g a:=λi k=>by
 obtain⟨b,d,f⟩:=Vw a i k;have e:=λj (l:j<3)=>jK h (i*3+j) I
 exact⟨Ju ((e 0 I).trans b),Ju ((e 1 I).trans d),Ju ((e 2 I).trans f)⟩
def ZX.y(h:ZX w v os)(a:Qb w w'):ZX w' v os:=
 h.grown (row:=JL) (zH a JL) (λg _ e=>by cases e)
def D6(w B a U):=Z a=Z U/\∀i,i<Z a->(ZM w (AX a i).vu (Ah U i).us/\ZX w (AX a i).vo (Ah U i).os/\(AX a i).b=(Ah U i).b)/\(∀g,(AX a i).vu.ownBlock=E g->g<B)/\(∀g,(AX a i).vo.ownBlock=E g->g<B)
theorem D6.belowB{C}(h:D6 w B vs U)(b:Below C w w')(s:B<=C):D6 w' B vs U:=by
 refine⟨h.1,λi p=>?_⟩;obtain⟨⟨l,m,n⟩,f,k⟩:=h.2 i p;refine⟨⟨?_,?_,n⟩,f,k⟩
 .obtain⟨a,c,hv,hx⟩:=l;refine⟨a,c,hv,hx.imp id ?_⟩;rintro⟨g,rfl,d,e⟩;have o:g<B:=f g (by rw[hv];rfl);exact⟨g,F,ym d b.size,λj x q=>Jc b (by grind) (e j x q)⟩
 .obtain⟨a,c,hv,hx⟩:=m;refine⟨a,c,hv,hx.imp id ?_⟩;rintro⟨g,rfl,d,e⟩;have o:g<B:=k g (by rw[hv];rfl);exact⟨g,F,ym d b.size,e.y b I⟩
def D6.mono{b}(h:D6 w B vs U)(c:B<=b):D6 w b vs U:=
 ⟨h.1,λi a=>⟨(h.2 i a).1,λg e=>ym ((h.2 i a).2.1 g e) c,λg e=>ym ((h.2 i a).2.2 g e) c⟩⟩
theorem Xa{x}(h:i<Z vs):AX (vs++[x]) i=AX vs i:=by grind [AX]
theorem Xb{x}:AX (vs++[x]) (Z vs)=x:=by grind [AX]
theorem Sd{a x}(h:i<Z a):Ah (a++[x]) i=Ah a i:=by grind [Ah]
theorem RZ{a x}:Ah (a++[x]) (Z a)=x:=by grind [Ah]
def JU(w:JY)(v:Value)(a)(U:JC):=Z a=Z U/\∀i,i<Z a->(ZM w (AX a i).vu (Ah U i).us/\ZX w (AX a i).vo (Ah U i).os/\(AX a i).b=(Ah U i).b)/\(∀g,(AX a i).vu.ownBlock=E g->v.ownBlock≠E g/\g<O w.1)/\(∀g,(AX a i).vo.ownBlock=E g->v.ownBlock≠E g/\g<O w.1)
def JU.at(h:JU w v vs U):D6 w (O w.1) vs U:=
 ⟨h.1,λi a=>⟨(h.2 i a).1,λg e=>((h.2 i a).2.1 g e).2,λg e=>((h.2 i a).2.2 g e).2⟩⟩
theorem JU.step{x:AO}{y:GC}(h:JU w v vs U)(b:Qb w w1)(z:∀g,v.ownBlock=E g->g<O w.1)(f:ZM w1 x.vu y.us)(j:ZX w1 x.vo y.os)(o:x.b=y.b)(d:∀g,x.vu.ownBlock=E g->O w.1<=g/\g<O w1.1)(c:∀g,x.vo.ownBlock=E g->O w.1<=g/\g<O w1.1)(a:w1.grownBy w4 v.ownBlock)(q:v4.ownBlock=v.ownBlock\/∃k,v4.ownBlock=E k/\O w1.1<=k):JU w4 v4 (vs++[x]) (U++[y]):=by
 have H:∀g,g<O w1.1->v.ownBlock≠E g->v4.ownBlock≠E g:=λg f j e=>by grind
 have A:=b.size;have K:=a.size;have hx:∀g,O w.1<=g->v.ownBlock≠E g:=λg a e=>by grind
 refine⟨by simp[h.1],λi u=>?_⟩;by_cases e:i<Z vs
 .rw[Xa e,Sd (by rw[<-h.1];exact e)];obtain⟨⟨p,s,t⟩,l,m⟩:=h.2 i e;refine⟨⟨(p.y b).grown a (λg e=>(l g e).1),(s.y b).grown a (λg e=>(m g e).1),t⟩,λg e=>⟨H g (by grind) (l g e).1,by grind⟩,λg e=>⟨H g (by grind) (m g e).1,by grind⟩⟩
 .have e1:i=Z vs:=by grind
  subst e1;have n:Ah (U++[y]) (Z vs)=y:=by rw[h.1];exact RZ
  rw[Xb,n];refine⟨⟨f.grown a (λg e=>hx g (d g e).1),j.grown a (λg e=>hx g (c g e).1),o⟩,λg e=>⟨H g (d g e).2 (hx g (d g e).1),by grind⟩,λg e=>⟨H g (c g e).2 (hx g (c g e).1),by grind⟩⟩
def Ej(s:JZ)(a:List BP)(i:Nat):List ByteArray:=AA (s.extract (A7 a i).f (A7 a i).t)
def ME(h:i<Z ls):A7 ls i∈ls:=by unfold A7;rw[yq,yt h];exact List.getElem_mem h
def TE(s b a):=
 (a = -1/\∀i,i<Z b->Ej s b i≠[Cd])\/∃i,i<Z b/\a=(i:Int)/\Ej s b i=[Cd]/\∀j,j<i->Ej s b j≠[Cd]
def UA(s g c m w)(hl:Z m<=1000001)(R:M2 w g m)(B:∀l∈m,ZM w l.wv (AA (s.extract l.f l.t))):Calls Vb 57 #[Ql g (Z m) c] w λe w'=>∃h:Int,e=i9 (G h)/\TE s m h/\w'=w:=by
 have L:=S B;clear B;go_enter func57,ntmps57;go_wp2;go_loop [3] (λi=>∃k:Nat,k<=Z m/\i=G k/\Hid (∀j,j<k->Ej s m j≠[Cd])) (λi=>Z m-(intOf i).toNat);case atStart=>exact⟨0,yn,F,S (λj f=>I)⟩
 case round=>
  obtain⟨k,hk,rfl,A⟩:=hrel;by_cases Q:k<Z m
  .have v:(k:Int)<Z m:=I;obtain⟨C,_,_⟩:=(D R) k Q;have p:=(D L) _ (ME Q);obtain⟨ws,x⟩:=Jx (Ej s m k);have K:ZM w (A7 m k).wv ws:=by rw[x];exact p
   have y:=S x;clear p x;by_cases H:ws=[Cd]
   .obtain⟨o,t,n,P,u⟩:=K.lt (by rw[H];simp);have T:w.cell? (J o 0)=E (W ⟨#[98,101,103,105,110]⟩):=u 0 _ (by rw[H];rfl);have d:Z ws=1:=by rw[H];rfl
    rw[d]at n;rw[n]at C;have z:=S (by rw[<-D y];exact H:Ej s m k=[Cd]);clear u H K d n;go_wp2;go_ret;exact⟨_,F,yX ⟨k,Q,F,z,A⟩,F⟩
   .have z:=S (by rw[<-D y];exact H:Ej s m k≠[Cd]);have M:=S (show ∀j,j<k+1->Ej s m j≠[Cd] from λj hj=>by
     by_cases e:j=k
     .subst e;exact z
     .exact A j I)
    have X:(((Z ws:Int)==1)=Vt/\∃a c,(A7 m k).wv=i6 a (Z ws) c)\/(((Z ws:Int)==1)=Vp/\∃o c q,(A7 m k).wv = Ql o (Z ws) c/\w.cell? (J o 0)=E (W q)/\(q.toList==[98,101,103,105,110])=Vt):=by
     by_cases e:Z ws=1
     .right;obtain⟨o,t,n,P,u⟩:=K.lt I;match ws,e with
      |[q],_=>exact⟨F,o,t,q,n,u 0 q F,LK (λN=>H (by rw[N];rfl))⟩
     .left;obtain⟨a,t,n,_⟩:=K;exact⟨Jq,a,t,n⟩
    clear H K;rcases X with⟨b,a,t,n⟩|⟨b,o,t,q,n,T,hq⟩;all_goals
     rw[n]at C
     clear n
     try have V:(0:Int)<Z ws:=(Jy (beq_iff_eq.1 b))
     go_wp2
     exact⟨⟨k+1,I,Jn,M⟩,Ji⟩
  .have HE:Hid (TE s m (-1)):=yW ⟨F,λi U=>A i I⟩;go_wp2;go_ret;exact⟨_,F,HE,F⟩
def DC(a:Jp)(u:JZ):Int:=if An a u<Z a then(An a u:Int) else -1
def zaX{a}(h:a≠b):(a.toList==b.toList)=Vt:=by
 cases e:(a.toList==b.toList)
 .rfl
 .exact yV (Ny (Ju e)) h
def Ra(a c d u w)(t:Z d<=1048576)(n:Cj w a d):Calls Vb 44 #[.slice a (Z d) c,W u] w λe w'=>e=i9 (G (DC d u))/\w'=w:=by
 go_enter func44,ntmps44;go_wp2;go_loop [5] (λi=>∃k:Nat,k<=Z d/\i=G k/\Hid (∀j,j<k->(Ae d j).n≠u)) (λi=>Z d-(intOf i).toNat);case atStart=>exact⟨0,yn,F,S (λj h=>I)⟩
 case round=>
  obtain⟨k,s,rfl,g⟩:=hrel;by_cases H:k<Z d
  .have q:(k:Int)<Z d:=I;rcases D n with h|⟨b,Q,rfl,K,p⟩
   .omega
   obtain⟨v,x⟩:=K k H;by_cases e:(Ae d k).n=u
   .subst e;have f:=S (show DC d (Ae d k).n=(k:Int) by
     unfold DC
     rw[Yh H rfl (D g),yU H])
    go_wp2;go_ret;exact⟨zK f.symm,F⟩
   .have ne:=zaX e;have l:=S (show ∀j,j<k+1->(Ae d j).n≠u from λj o=>by
     by_cases m:j=k
     .subst m;exact e
     .exact g j I)
    go_wp2;exact⟨⟨k+1,I,Jn,l⟩,Ji⟩
  .have f:=S (show DC d u = -1 by
    unfold DC
    rw[rD (λj o=>(D g) j I),yS (Nat.lt_irrefl _)])
   go_wp2;go_ret;exact⟨zK f.symm,F⟩
def iA(w:JY)(a b c):((((w.alloc a).alloc b).alloc c).alloc (JM #[] 25)).ownsRow (O w.1+3) 25 4 (Ql (O w.1+1+1+1) 0 0) 0 []:=by have h:=yJ (base:=O w.1+3) (e:=25) (size:=4) (((w.alloc a).alloc b).alloc c) #[] 0 Js yn F;simpa using h
def R2:zM [] 0:=yX ⟨Js,yX ⟨λj h=>by simp at h,yX ⟨λ⟨i,j,_,h,_⟩=>by simp at h,yX ⟨F,λ⟨i,j,_,h,_⟩=>by simp at h⟩⟩⟩⟩
def dB(a c w):Calls Vb 33 #[b9 #[.slice a 0 c]] w λe w'=>e=i9 (G 0)/\Qb w w':=by go_enter func33,ntmps33;go_wp2;refine wp_loop_rounds 1 ?_;rw[rounds_succ];go_wp2;refine wp_loop_rounds 3 ?_;rw[rounds_succ];go_wp2;refine wp_loop_rounds 1 ?_;rw[rounds_succ];go_wp2;rw[rounds_succ];go_wp2;refine wp_loop_rounds 1 ?_;rw[rounds_succ];go_wp2;rw[rounds_succ];go_wp2;go_ret;exact⟨F,zC⟩
def TR(v b w)(j:Z b<=1048576)(l:ZX w v b)(k:ZO b):Calls Vb 33 #[b9 #[v]] w λe w'=>(∃c,e=i9 (G c)/\zM b c)/\Qb w w':=by
 obtain⟨a,c,rfl,⟨d,_⟩|⟨g,rfl,i,h⟩⟩:=l
 .have e:=jg.1 d;subst e;go_call dB a c w as e w' ⟨rfl,f⟩;exact⟨⟨0,F,R2⟩,f⟩
 .exact Lc g 0 c b w j h k i
def B0(w:JY)(b n)(f:Nat->Bool):=b<O w.1/\∀j,j<n->w.cell? (J b j)=E (i7 (f j))/\w.frozen? (J b j)=Vt
def B0.congr{b}{f g:Nat->Bool}(h:B0 w b n f)(c:∀j,j<n->f j=g j):B0 w b n g:=⟨h.1,λj a=>by rw[<-c j a];exact h.2 j a⟩
def B0.grown{b}{f:Nat->Bool}{row}(h:B0 w b n f)(a:w.grownBy w' row)(H:row≠E b):B0 w' b n f:=
 ⟨ym h.1 a.size,λj c=>⟨(zJ a h.1 H j).trans (h.2 j c).1,(Z8 a h.1 H j).trans (h.2 j c).2⟩⟩
def B0.y{b}{f:Nat->Bool}(h:B0 w b n f)(a:Qb w w'):B0 w' b n f:=h.grown (row:=JL) (zH a JL) Js
def B0.belowB{b}{f:Nat->Bool}(h:B0 w b n f)(a:Below B w w')(c:b<B):B0 w' b n f:=
 ⟨ym h.1 a.size,λj d=>⟨Jc a c (h.2 j d).1,(a.frozen (p:=J b j) c).trans (h.2 j d).2⟩⟩
theorem B0.set{b k}{f:Nat->Bool}(h:B0 w b n f)(c:k<n)(v):B0 (w.setCell (J b k) (i7 v)) b n (λj=>if j=k then v else f j):=by
 refine⟨by simpa[World.setCell] using h.1,λj a=>⟨?_,(yx).trans (h.2 j a).2⟩⟩;by_cases e:j=k
 .subst e;simp only[if_true];exact yu _ _ _ (h.2 j a).1
 .simp only[e,if_false];rw[yj _ _ _ _ (by grind)];exact(h.2 j a).1
theorem Vy(w:JY)(n):B0 (w.alloc (JM (madeCells #[.bool Vt] n) 4)) (O w.1) n (λ_=>Vt):=by
 refine⟨Js,λj c=>?_⟩;have d:(madeCells #[.bool Vt] n).size=n:=by rw[size_madeCells];first|done|simp
 have h:=yF (w:=w.alloc (JM (madeCells #[.bool Vt] n) 4)) (b:=O w.1) (jL w _) 0 n;have a:=h j (i7 Vt) (by
  simp only[madeCells]
  grind)
 exact⟨by grind,Jg⟩
def Co(a:List Nat)(i:Nat):Nat:=a.getD i 0
def FF(n:Nat)(b:List Nat):JD:=b.map λa=>Ql a n n
def dK(n a b):FF n (a++b)=FF n a++FF n b:=by simp[FF]
theorem oA(h:i<Z rs):(FF n rs)[i]?=E (Ql (Co rs i) n n):=by grind [FF,Co]
def iB(n c):∀u∈FF n c,u.oneCell'=Vp:=by intro u b;simp only[FF,List.mem_map]at b;obtain⟨a,_,rfl⟩:=b;rfl
def zaY:(prog.info? 76).map (λi=>(i.zero,i.size,i.bytes))=E (E Jl,1,24):=Jk
theorem lX(w:JY)(v):∀j u,([v]:JD)[j]?=E u->(w.alloc (JM #[v] 76)).cell? ((J (O w.1) 0).add j)=E u:=by intro j u a;rw[jO];have:=yF (w:=w.alloc (JM #[v] 76)) (b:=O w.1) (jL w _) 0 1;exact this j u (by grind)
def Ds(w:JY)(B n:Nat)(v:Value)(a):=w.ownsRow B 76 1 v (Z a) (FF n a)
def Ds.grown{u row}(h:Ds w B n u rs)(a:w.grownBy w' row)(H:∀k,u.ownBlock=E k->row≠E k):Ds w' B n u rs:=
 jD h a (by
  cases e:u.ownBlock with
  |none=>exact yW F
  |some k=>exact yX (λx=>H k e x.symm))
def Ds.y{u}(h:Ds w B n u rs)(a:Qb w w'):Ds w' B n u rs:=h.grown (row:=JL) (zH a JL) (λk _ e=>by cases e)
def Ds.lt{w B n u b}(h:Ds w B n u b):∀g,u.ownBlock=E g->B<=g/\g<O w.1:=λg a=>ji h g a
def Ds.cell{c}(h:Ds w B n (Ql g (Z rs) c) rs)(a:i<Z rs):w.cell? (J g i)=E (Ql (Co rs i) n n):=by rw[jK h i I];exact oA a
def C1(w:JY)(B n:Nat)(v:Value)(a)(M:Nat->Nat->Bool):=(∀i,i<Z a->B0 w (Co a i) n (M i))/\(∀i j,i<Z a->j<Z a->Co a i=Co a j->i=j)/\(∀i,i<Z a->v.ownBlock≠E (Co a i)/\B<=Co a i)
theorem Mx{x}(h:i<Z rs):Co (rs++[x]) i=Co rs i:=by grind [Co]
theorem PD{x}:Co (rs++[x]) (Z rs)=x:=by grind [Co]
def C1.congr{w B n v a}{M b:Nat->Nat->Bool}(h:C1 w B n v a M)(d:∀i j,i<Z a->j<n->M i j=b i j):C1 w B n v a b:=
 ⟨λi c=>(h.1 i c).congr (λj e=>d i j c e),h.2.1,h.2.2⟩
def C1.y{w b B n v a}{M:Nat->Nat->Bool}(h:C1 w B n v a M)(c:Qb w b):C1 b B n v a M:=
 ⟨λi d=>(h.1 i d).y c,h.2.1,h.2.2⟩
theorem C1.push{b:Nat}{f:Nat->Bool}(h:C1 w B n v rs M)(l:Qb w w1)(u:B<=O w.1)(y:∀g,v.ownBlock=E g->g<O w.1)(o:B0 w1 b n f)(x:O w.1<=b)(m:w1.grownBy w4 v.ownBlock)(q:v4.ownBlock=v.ownBlock\/∃k,v4.ownBlock=E k/\O w1.1<=k):C1 w4 B n v4 (rs++[b]) (λi=>if i=Z rs then f else M i):=by
 have z:=l.size;have Q:∀i,i<Z rs->Co rs i<O w.1:=λi c=>(h.1 i c).1
 have H:∀g,g<O w1.1->v.ownBlock≠E g->v4.ownBlock≠E g:=λg s t e=>by grind
 have K:v.ownBlock≠E b:=λe=>by grind
 refine⟨λi c=>?_,λi j c p e=>?_,λi c=>?_⟩
 .by_cases e:i<Z rs
  .rw[Mx e];simp only[(I:i≠Z rs),if_false];exact((h.1 i e).y l).grown m (h.2.2 i e).1
  .have a:i=Z rs:=by grind
   subst a;rw[PD];simp only[if_true];exact o.grown m K
 .simp only[yr,yB,je]at c p;by_cases a:i<Z rs<;>by_cases d:j<Z rs
  .rw[Mx a,Mx d]at e;exact h.2.1 i j a d e
  .grind [Mx,PD]
  .grind [Mx,PD]
  .omega
 .by_cases e:i<Z rs
  .rw[Mx e];exact⟨H _ (by grind) (h.2.2 i e).1,(h.2.2 i e).2⟩
  .have a:i=Z rs:=by grind
   subst a;rw[PD];exact⟨H _ o.1 K,I⟩
theorem C1.set{w B n v b}{M:Nat->Nat->Bool}(h:C1 w B n v b M){i j}(d:i<Z b)(f:j<n):C1 (w.setCell (J (Co b i) j) (i7 Vp)) B n v b (λa c=>if a=i/\c=j then Vp else M a c):=by
 refine⟨λa H=>?_,h.2.1,h.2.2⟩;by_cases e:a=i
 .subst e;refine((h.1 a H).set f Vp).congr (λc _=>?_);grind
 .refine((h.1 a H).grown (zx w (Co b i) j _) (λx=>e (h.2.1 a i H d (by grind)))).congr (λc _=>?_);simp[e]
def CV(M:Nat->Nat->Bool)(m i j:Nat):Nat->Nat->Bool:=λa b=>M a b||(decide (a<i\/(a=i/\b<j))&&(M a m&&M m b))
theorem zaZ(M:Nat->Nat->Bool)(m i j a):CV M m i j a m=M a m:=by grind [CV]
theorem zaa(M:Nat->Nat->Bool)(m i j a):CV M m i j m a=M m a:=by grind [CV]
def oB(M:Nat->Nat->Bool)(m a b):CV M m 0 0 a b=M a b:=by simp[CV]
theorem vK(M:Nat->Nat->Bool)(m i n b a)(c:a<n):CV M m i n b a=CV M m (i+1) 0 b a:=by grind [CV]
theorem vL(M:Nat->Nat->Bool)(m n a b)(c:a<n):CV M m n 0 a b=Lb M m a b:=by grind [CV,Lb]
theorem vM(M:Nat->Nat->Bool)(m i j)(c:M i m=Vp)(d:M m j=Vp)(a b):(if a=i/\b=j then Vp else CV M m i j a b)=CV M m i (j+1) a b:=by grind [CV]
theorem Y5(M:Nat->Nat->Bool)(m i j)(h:M i m=Vt\/M m j=Vt)(a b):CV M m i j a b=CV M m i (j+1) a b:=by grind [CV]
def XU{l k o a}{Q:Exit->Act->World->Prop}(X:o.guard=JL)(s x)(u:o.op=.call { callee:=.builtin .append,args:=#[s,x],argTypes:=#[43,43] })(e g c f i B)(z:a.eval s = Ql g (Z f) c)(K:w.ownsRow e 25 4 (Ql g (Z f) c) (Z f) (zn f))(hx:a.eval x=B)(N:ZX w B i)(T:Z f+Z i<=1048576)(q:e<=O w.1)(h:∀n m w',w'.ownsRow e 25 4 (Ql n (Z (f++i)) m) (Z (f++i)) (zn (f++i))->w.grownBy w' (E g)->wpList Vb l Q k (a.put o.dst (Ql n (Z (f++i)) m)) w'):wpList Vb l Q (o::k) a w:=by
 obtain⟨A,t,P,b,j⟩:=Ic Fz;obtain⟨R,C,rfl,⟨M,rfl,rfl⟩|⟨L,rfl,v,y⟩⟩:=N
 .have hy:=jg.1 M;subst hy;refine wpList_append_own_none X s x 43 u e 25 A 4 underlying43 t _ (Z f) (zn f) z K hx ?_;have:=h g c w (Ju K) (zH yN _);simpa using this
 .refine wpList_append_own w X s x 43 u e 25 A _ 4 40 underlying43 t P b j F Jd _ (Z f) (zn f) z K (J L 0) (Z i) C (zn i) hx (Mp i) (R6 y) (Zw i) Jm I q ?_;intro U w' H p d;obtain⟨n,m,rfl⟩:=Lj H (by simp[d]);rw[<-Zo,<-yr]at H;have:=h n m w' H (by simpa[i8] using p);rw[<-yr];exact this
def Uj(v v' xs ys zs)(c:Hid (zs=xs++ys))(w)(hm:Z xs+Z ys<=1048576)(hx:ZX w v xs)(hy:ZX w v' ys):Calls Vb 84 #[b9 #[v],b9 #[v']] w λe w'=>(∃h cap,e=i9 (b9 #[Ql h (Cg zs (Z zs)).length cap])/\O w.1<=h/\BY w' h (Cg zs (Z zs)) (Cg zs (Z zs)).length)/\Qb w w':=by
 obtain⟨i0,hi,hd,hu,m⟩:=Ic Fz;have hA:=iA w;have HX:Hid (∀o1 o2 o3 o4,ZX ((((w.alloc o1).alloc o2).alloc o3).alloc o4) v xs):=λo1 o2 o3 o4=>hx.grown (row:=JL) (zH ((((@zC w o1).alloc Js o2).alloc Jq o3).alloc Jq o4) JL) (λg _ e=>by cases e)
 have HO:=S hA;have HI:=S hi;have HZ:=S (yO hd (yO hu m));have hb:=hx;have N:=hy;obtain⟨a1,c1,rfl,_⟩:=hb;obtain⟨a2,c2,rfl,_⟩:=N;go_enter func84,ntmps84;go_wp2_with (at_builtin;refine XU F (.tmp 9) (.tmp 11) F (O w.1+3) _ _ [] xs _ F (D HO _ _ _) F (D HX _ _ _ _) Jq Js ?next);case next=>
  intro ga ca w1 x U;try simp only[jF]at x
  try simp only[jF]
  have hr:Below (O w.1+3) _ w1:=Uu U Js (λk hk=>by simp at hk;omega);have ho:Qb w w1:=((((zC).alloc Js _).alloc Jq _).alloc Jq _).trans (hr.mono I);have d1:w1.cell? (J (O w.1+1) 0)=E (i6 a2 (Z ys) c2):=by rw[hr.cell (p:=(J (O w.1+1) 0)) (show O w.1+1<_ by omega)];simp[go_sem]
  have d2:w1.cell? (J (O w.1+1+1) 0)=E Jl:=by rw[hr.cell (p:=(J (O w.1+1+1) 0)) (show O w.1+1+1<_ by omega)];simp[go_sem]
  have d3:w1.frozen? (J (O w.1+1+1) 0)=Vt:=by rw[hr.frozen (p:=(J (O w.1+1+1) 0)) (show O w.1+1+1<_ by omega)];simp[go_sem]
  have z1:O w.1+3<=O w1.1:=Jz hr.size
  have hl:=(x.lt ga F).1;have hz:=S x;have hc:=S (hy.grown (row:=JL) (zH ho JL) (λg _ e=>by cases e));go_wp2_with (at_builtin;refine XU F (.tmp 13) (.tmp 15) F (O w.1+3) ga ca xs ys _ F hz F hc hm z1 ?next);case next=>
   intro gb cb w2 Q V;have u:Below (O w.1+3) w1 w2:=Uu V z1 (λk hk=>by injection hk with hk;omega);have s:=ho.trans (u.mono I);have e2:=Jc u (show O w.1+1+1<_ by omega) d2;have e3:=Vf u (show O w.1+1+1<_ by omega) d3;have z2:=yy z1 u.size;have o:Z zs<=1048576:=by rw[D c];simp;omega
   have b:Z xs+Z ys=Z zs:=by rw[D c];simp
   rw[b];rw[<-D c,b]at Q;obtain⟨hn,A⟩:=Ml Q;obtain⟨hg,n⟩:=qW Q;have HF:=S A;have hp:=A.1;have hs:(w2.alloc (JM #[] 25)).ownsRow (O w2.1) 25 4 (Ql (O w2.1) 0 0) 0 (zn []):=by rw[lO];simpa using yJ (base:=O w2.1) (e:=25) (size:=4) w2 #[] 0 yk yn F
   have R:=S hs;go_wp2;go_loopw [6,7] (λout i wr=>∃(k go co:Nat),k<=Z zs/\i=G k/\out = Ql go (Z (Cg zs k)) co/\Hid (wr.ownsRow (O w2.1) 25 4 (Ql go (Z (Cg zs k)) co) (Z (Cg zs k)) (zn (Cg zs k)))/\Qb w2 wr) (λ_ i _=>Z zs-(intOf i).toNat);case atStart=>exact⟨0,O w2.1,0,yn,F,F,R,zC⟩
   case round=>
    obtain⟨k,go,co,hk,rfl,rfl,B,K⟩:=hrel;by_cases ha:k<Z zs
    .have a:=HF.ops.y K HF.1;obtain⟨a0,a1,a2,a3⟩:=a k ha;simp only[jd]at a0 a1 a2 a3;have hh:(k:Int)<Z zs:=I;have hf:(k:Int)<=cb:=I;have zgb:=ym hp K.size;have z:=S a;go_wp2_with fail;go_region_held (λw'=>w'.cell? (J gb (k*4))=E (W (r zs k).s)/\w'.cell? (J gb (k*4+1))=E (G (r zs k).k)/\w'.cell? (J gb (k*4+2))=E (G (r zs k).l)/\w'.cell? (J gb (k*4+3))=E (G (r zs k).sd)) (go_keep)
      (first|(go_at_call 32;refine(VL gb _ k zs (r zs k) _ o I (show Au wr.drew gb 0 zs from z) zgb).mono ?_;rintro e w3 ⟨⟨v,rfl,hv⟩,hb3⟩;have HV:=S hv;have hw:=S ((@yN (O wr.1) wr).drew.trans hb3);have q0:=(hb3.cell (p:=(J gb (k*4))) zgb).trans (show wr.drew.cell? (J gb (k*4))=_ from a0);have q1:=(hb3.cell (p:=(J gb (k*4+1))) zgb).trans (show wr.drew.cell? (J gb (k*4+1))=_ from a1);have q2:=(hb3.cell (p:=(J gb (k*4+2))) zgb).trans (show wr.drew.cell? (J gb (k*4+2))=_ from a2);have q3:=(hb3.cell (p:=(J gb (k*4+3))) zgb).trans (show wr.drew.cell? (J gb (k*4+3))=_ from a3);clear hv hb3))
     have H:=K.trans (hw.mono K.size);have y:=S (B.kept (w':=w3) (row:=JL) ⟨hw.os,hw.tape,hw.output,hw.size,λi hi _=>hw.block i hi⟩ (yX Jb));have hj:=Yf zs k;cases v
     .have L:=S (WX (λh=>jq (HV.2 h)));go_wp2_with (at_builtin;refine wpList_append_own _ F (.tmp 33) (.tmp 38) 43 F (O w2.1) 25 i0 _ 4 40 underlying43 HI HZ.1 HZ.2.1 HZ.2.2 F Jd _ (Z (Cg zs k)) (zn (Cg zs k)) F (y.alloc _) (J (O w3.1) 0) 1 1 (zn [r zs k]) F rfl (Ij w3 (r zs k)) (Zw _) Jm I (by have:=H.size;simp;omega) ?_);intro v4 w4 X P l;have M:=y.lt go F;have d:Qb w2 w4:=(H.alloc H.size _).grown P (by have:=H.size;simp;omega) (λq hq=>by simp[i8]at hq;omega);obtain⟨g4,c4,rfl⟩:=Lj X (by simp[l]);have j:Z (Cg zs (k+1))=Z (Cg zs k)+1:=by rw[D L];simp
      rw[<-Zo,<-D L,<-j]at X;have T:=S X;rw[<-j];go_wp2;exact⟨⟨k+1,g4,c4,I,Jn,F,T,d⟩,Ji⟩
     .have f:=S (Ye (HV.1 F));go_wp2;refine⟨⟨k+1,go,co,I,Jn,?_,?_,H⟩,Ji⟩
      .rw[D f]
      .rw[D f];exact y
    .have C:k=Z zs:=I;have c2:=Jc K (show O w.1+1+1<_ by omega) e2;have c3:=Vf K (show O w.1+1+1<_ by omega) e3;obtain⟨M,he⟩:=Ml B;have ht:=S he;have t:=S C;go_wp2;have C:=D t;subst C;refine yQ (v:=b9 #[Ql go (Cg zs (Z zs)).length co]) (by simp[results,results84,go_sem,c2]) F ⟨⟨go,co,F,I,?_⟩,?_⟩
     .exact ht.setCell _ _ Jq
     .exact(s.trans (K.mono I)).setCell Jq _
def lY(a c n w)(b:n<3):Calls Vb 58 #[.slice a n c] w λe w'=>(∃o:Ad,e=i9 (i5 #[b9 #[W o.s,G o.k,G o.l,G o.sd],i7 Vt]))/\Qb w w':=by
 have h:(n:Int)<3:=I;go_enter func58,ntmps58;go_wp2;refine yQ (v:=i5 #[b9 #[W ⟨#[]⟩,G 0,G 0,G 0],i7 Vt]) ?res F ⟨⟨Ad.zero,F⟩,?_⟩;case res=>simp[results,results58,go_sem]
 exact zC
def iC(g c n k t l R w)(hn:3<=n)(X:l.size<=maxLen)(c0:w.cell? (J g 0)=E (W k))(c1:w.cell? (J g 1)=E (W t))(c2:w.cell? (J g 2)=E (W l))(c3:4<=n->w.cell? (J g 3)=E (W R)):Calls Vb 58 #[Ql g n c] w (SE w n k t l R):=by
 have hg:g<O w.1:=jk _ _ c0;have o:g≠O w.1:=I;have f:¬ (n:Int)<3:=I;have B:(0:Int)<n:=I;have C:(1:Int)<n:=I;have d:(2:Int)<n:=I;have z:=S c3;clear c3;cases hl:DP l
 .have HL:=S (by unfold Gx;rw[hl];rfl:Gx l = -1);have HA:=S (W7 (n:=n) (k:=k) (t:=t) (sd:=R) hl);clear hl;go_enter func58,ntmps58;go_wp2_with (go_at_call 97;refine(Q8 l _ X).mono ?_;rw[D HL];rintro e w1 ⟨rfl,hx⟩;obtain rfl:=hx.symm;clear hx);refine yQ (v:=i5 #[b9 #[W ⟨#[]⟩,G 0,G 0,G 0],i7 Vt]) ?res F ⟨Ad.zero,Vt,F,yX ⟨F,HA⟩,?_⟩;case res=>simp[results,results58,go_sem]
  exact zC
 obtain⟨V,hV⟩:∃V:Nat,V=Zq l l.size:=⟨_,F⟩;have HL:=S (by unfold Gx;rw[hl,hV];rfl:Gx l=(V:Int));have q:=S hl;have HX:Hid (∀M:JY,Calls Vb 97 #[W l] M λe w'=>e=i9 (G V)/\w'=M):=λM=>by have h:=Q8 l M X;rw[D HL]at h;exact h
 have HV:=S hV;clear hl hV;go_enter func58,ntmps58;go_wp2_with (go_at_call 97;refine(Q8 l _ X).mono ?_;rw[D HL];rintro e w1 ⟨rfl,hx⟩;obtain rfl:=hx.symm;clear hx);go_cut [4] (λs4 wc=>∃T:Nat,s4 = Qp T/\O w.1<T/\T<O wc.1/\Hid (Lz wc T ⟨t,0,(V:Int),0⟩)/\Hid (Lz wc (O w.1) Ad.zero)/\Hid (Qb w wc));case first=>
  go_region_held (λw'=>w'.cell? (J g 1)=E (W t)/\w'.cell? (J g 2)=E (W l)) (go_keep)
   (first|(go_at_call 97;have P:=(D HX);(with_reducible refine(P _).mono ?_);rintro e w1 ⟨rfl,hx⟩;obtain rfl:=hx.symm;clear hx P))
  all_goals
   go_wp2
   go_meet
   case rel=>go_light;exact⟨O w.1+1,F,I,Js,S ⟨⟨Jg,Jg,Jg,Jg⟩,Jg,Jg,Jg,Jg⟩,S ⟨⟨by simp[go_sem,Ad.zero],by simp[go_sem,Ad.zero],by simp[go_sem,Ad.zero],by simp[go_sem,Ad.zero]⟩,Jg,Jg,Jg,Jg⟩,S (((zC).alloc Js _).drew)⟩
 case rest=>
  obtain⟨T,rfl,m,i,u,N,K⟩:=hcut;have HS:=S (λM:World=>lQ R M);obtain⟨⟨p0,p1,p2,p3⟩,f0,f1,f2,f3⟩:=D u;obtain⟨⟨r0,r1,r2,r3⟩,z0,z1,z2,z3⟩:=D N;simp only[Ad.zero]at p0 p1 p2 p3 r0 r1 r2 r3;have k0:wc.cell? (J g 0)=E (W k):=Jc K hg c0;have e1:T≠O w.1:=I;have e2:O w.1≠T:=I;have e3:T≠g:=I;have e4:g≠T:=I;have a:Hid (4<=n->wc.cell? (J g 3)=E (W R)):=λh=>Jc K hg (z h)
  clear u N z c0 c1 c2 HX HL;cases q1:(k.toList==[112,114,101,102,105,120])
  rotate_left
  focus
   have q2:(k.toList==[112,111,115,116,102,105,120])=Vt:=LK (by rw[D4 q1];decide)
   have q3:(k.toList==[105,110,102,105,120])=Vt:=LK (by rw[D4 q1];decide)
   have H:=U7 (n:=n) (t:=t) (sd:=R) q (D4 q1)
  rotate_left
  cases q2:(k.toList==[112,111,115,116,102,105,120])
  rotate_left
  focus
   have q3:(k.toList==[105,110,102,105,120])=Vt:=LK (by rw[D4 q2];decide)
   have H:=Uy (n:=n) (t:=t) (sd:=R) q (D4 q2)
  iterate 2
   focus
    rw[<-D HV]at H
    by_cases h3:n=3
    all_goals
     first
      |(have HA:=S (H.trans (yU h3));have U:((n:Int)==3)=Vp:=Jq)
      |(have HA:=S (H.trans (yS h3));have U:((n:Int)==3)=Vt:=Jq)
     clear h3 H
   rotate_left 2
  cases q3:(k.toList==[105,110,102,105,120])
  have HA:=S (Vv (n:=n) (t:=t) (l:=l) (sd:=R) (Fw q1) (Fw q2) (Fw q3));rotate_left
  focus
   have H:=VR (n:=n) (t:=t) (sd:=R) q (D4 q3)
   rw[<-D HV]at H
   by_cases h4:n=4
   focus
    have b:((n:Int)==4)=Vp:=Jq
    have s:(3:Int)<n:=I
    have k3:=(D a) I
    obtain⟨L,hS⟩:∃L:Int,L=Bn R:=⟨_,F⟩
    have y:=U6 R
    rw[<-hS]at y HS H
    by_cases Q:L=0
    focus
     have HA:=S (H.trans (yS (λx=>x.2 Q)))
     have A:¬ (0:Int)<L:=I
    rotate_left
    focus
     have HA:=S (H.trans (yU ⟨h4,Q⟩))
     have A:(0:Int)<L:=I
    all_goals clear Q H hS y h4
   rotate_left 2
   have HA:=S (H.trans (yS (λx=>h4 x.1)))
   have b:((n:Int)==4)=Vt:=Jq
   clear h4 H
  all_goals
   go_wp2_with (first|(go_at_call 98;(with_reducible refine((D HS) _).mono ?_);rintro e w1 ⟨rfl,hx⟩;obtain rfl:=hx.symm;clear hx))
   first
    |(
     refine yQ (v:=i5 #[b9 #[W ⟨#[]⟩,G 0,G 0,G 0],i7 Vt]) ?res F ⟨Ad.zero,Vt,F,yX ⟨F,HA⟩,?_⟩
     case res=>simp[results,results58,go_sem,r0,r1,r2,r3]
     first
      |exact K
      |exact zX yk [W ⟨#[]⟩,G 0,G 0,G 0] 0 _ K)
    |(
     refine yQ (v:=i5 #[b9 #[W t,G _,G V,G _],i7 Vp]) ?res F ⟨⟨t,_,(V:Int),_⟩,Vp,F,yW ⟨F,HA⟩,?_⟩
     case res=>simp[results,results58,go_sem,r0,r1,r2,r3,e1,e2,e3,e4]
     have j:=K.setCell (p:=J T 1) (I:O w.1<=T)
     first
      |exact zX yk [W t,G _,G V,G _] 0 _ (j _)
      |exact zX yk [W t,G _,G V,G _] 0 _ ((j _).setCell (p:=J T 3) (I:O w.1<=T) _))
def UW(v b w)(o:ZM w v b)(p:∀x∈b,x.size<=maxLen):Calls Vb 58 #[v] w (Tf w b):=
 Yl 58 v b w o p (λa c n w h=>lY a c n w h) (λg c n k t l sd w d e f i j m=>iC g c n k t l sd w d e f i j m)
def rG(h:20000<s.size):ZC s [] [] j6 1 0:=yW ⟨h,F,F,F,F,F⟩
theorem Y6(c s):∀(n a:Nat),s.size-a<n->a<=s.size->∀p∈AD c s a,p.1<=p.2/\p.2<=s.size
 |0,a,hn,ha=>I
 |n+1,a,hn,ha=>by
  obtain⟨d,e,f,g⟩:=D2 c s a ha;rw[EC c s a ha];intro p b;rcases jH.1 b with rfl|b
  .exact⟨d,e⟩
  .by_cases h:nx c s a<s.size
   .rw[yU h]at b;exact Y6 c s n _ I I p b
   .rw[yS h]at b;cases b
def Y7{k}(h:k<Z ls):(Cr ls).drop k=((A7 ls k).f,(A7 ls k).t)::(Cr ls).drop (k+1):=by
 have a:k<Z (Cr ls):=by simpa[Cr] using h
 rw[List.drop_eq_getElem_cons a];congr 1;simp[Cr,A7,yq,yt h]
def iD{k}(h:k<Z ls)(c:Dr s ((Cr ls).drop k) (k+1) us os)(d:Ej s ls k≠[Cd]):(∀us' a,Dk (Ej s ls k) us os us' a->Dr s ((Cr ls).drop (k+1)) (k+1+1) us' a)/\((∀us' a,¬ Dk (Ej s ls k) us os us' a)->ZC s [] [] j6 2 ((k+1:Nat):Int)):=by rw[Y7 h]at c;exact⟨λus' a b=>c.next d b,λb=>c.bad d b⟩
def rH{U:Nat}{a c:Nat}(h:Cb w B U vu vo us os b)(d:Qb w w1)(H:w4.ownsRow B 9 1 (Ql a (Z us+1) c) (Z us+1) (zU us++zU [x]))(f:w1.grownBy w4 vu.ownBlock)(K:vu.ownBlock=E a\/a=O w1.1):Cb (w4.setCell (J U 0) (Ql a (Z us+1) c)) B U (Ql a (Z us+1) c) vo (us++[x]) os b/\Below B w (w4.setCell (J U 0) (Ql a (Z us+1) c)):=by
 have g:zu w4 B (Ql a (Z us+1) c) (us++[x]):=by unfold zu;rw[Zi,yr];exact H
 exact h.putU d f g (K.imp (λe=>e.symm) (λe=>⟨a,F,I⟩))
def QU(s w)(hs:s.size<=maxLen):Calls Vb 23 #[W s] w (NV w s):=by
 by_cases U:20000<s.size
 .have hV:(20000:Int)<s.size:=I;have HP:=S (λw'=>Mh (w:=w) (w':=w') (rG U));unfold maxLen at hs;clear U;go_enter func23,ntmps23;go_wp2;refine yQ (v:=i5 #[b9 #[Jl,Jl,W ⟨#[]⟩],G 1,G 0]) ?res F (HP _ ?_);case res=>simp[results,results23,go_sem]
  first
   |exact zC
   |exact zX yk [Jl,Jl,W ⟨#[]⟩] 0 _ zC
 have hO:s.size<=20000:=I;have hV:¬ (20000:Int)<s.size:=I;clear U hs;have HL:=S (Uz s (w.alloc (JM #[Jl,Jl,W ⟨#[]⟩] 65)) I);have hG:=S (show Ix (w.alloc (JM #[Jl,Jl,W ⟨#[]⟩] 65)) (O w.1) from⟨Jg,Jg,Jg,λo=>Jg⟩);go_enter func23,ntmps23;go_wp2_with fail;go_call D HL as e w1 ⟨g,c,ls,rfl,hg,hgl,HOP,HST,HPL,hll,hb1⟩;have h7:Hid (Qb w w1):=(zC).trans (hb1.mono Js);have hB:=S (hG.y hb1 Js);have z1:O w.1+1<=O w1.1:=Jz hb1.size
 have Hn:O w.1+1<=g:=Ju hg
 have hD:=S (UA s g c ls w1 I HOP HST);clear hb1 HL hG hg;go_wp2_with fail;go_call D hD as e w1' ⟨rb,rfl,hbeg,hx⟩;obtain rfl:=hx.symm;clear hx hD;have hF:=S (by rw[List.drop_zero,D HPL];exact Dr.start hO:Dr s ((Cr ls).drop 0) (0+1) [] []);have hP:=S (show ∀i,i<Z ls->(A7 ls i).t<=s.size from λi hi=>by
  have:=Y6 10 s (s.size+1) 0 I yn ((A7 ls i).f,(A7 ls i).t) (by rw[<-D HPL];exact List.mem_map.2 ⟨A7 ls i,ME hi,F⟩)
  exact this.2)
 have hI:∃l:Nat,l<=Z ls/\(∀j,j<l->Ej s ls j≠[Cd])/\((rb = -1/\l=Z ls)\/(rb=(l:Int)/\l<Z ls/\Ej s ls l=[Cd])):=by
  rcases hbeg with⟨h1,h2⟩|⟨i,h1,h2,h3,h4⟩
  .exact⟨Z ls,yk,h2,yW ⟨h1,F⟩⟩
  .exact⟨i,I,h4,yX ⟨h2,h1,h3⟩⟩
 obtain⟨l,hE,h9,hN⟩:=hI;have hX:=S h9;have hu:Hid (Qb w1 (((w1.alloc (JM #[] 9)).alloc (JM #[] 25)).alloc (JM #[Ql (O w1.1) 0 0,Ql (O w1.1+1) 0 0,W ⟨#[]⟩] 65))):=((zC).alloc Js _).alloc Jq _;have hC:=S (show Cb (((w1.alloc (JM #[] 9)).alloc (JM #[] 25)).alloc (JM #[Ql (O w1.1) 0 0,Ql (O w1.1+1) 0 0,W ⟨#[]⟩] 65)) (O w1.1) (O w1.1+1+1) (Ql (O w1.1) 0 0) (Ql (O w1.1+1) 0 0) [] [] ⟨#[]⟩ from
  ⟨Jg,Jg,Jg,λo=>Jg,I,by
   have:=((yJ (base:=O w1.1) (e:=9) (size:=1) w1 #[] 0 yk yn F).alloc (JM #[] 25)).alloc (JM #[Ql (O w1.1) 0 0,Ql (O w1.1+1) 0 0,W ⟨#[]⟩] 65)
   simpa[zu,zU] using this,by
   have:=(yJ (base:=O w1.1) (e:=25) (size:=4) (w1.alloc (JM #[] 9)) #[] 0 Js yn F).alloc (JM #[Ql (O w1.1) 0 0,Ql (O w1.1+1) 0 0,W ⟨#[]⟩] 65)
   simpa[AQ,zn] using this,(by simp[i8];omega),Jb,λq e e2=>by simp[i8]at e e2;omega⟩)
 clear hbeg h9;rcases hN with⟨hw,b⟩|⟨hw,b,hy⟩;all_goals subst hw
 rotate_left
 have Ho:¬ (l:Int)<0:=I;have Hl:(l:Int)<Z ls:=I;have hM:=S hy;clear hy;rotate_left
 have h8:=S b;clear b;all_goals
  go_wp2
  go_loopw [9] (λi wr=>∃(k:Nat)(us:Jv)(os:Jf)(vu vo:Value),k<=l/\i=G k/\Z us<=k/\Z os<=k/\Hid (Dr s ((Cr ls).drop k) (k+1) us os)/\Hid (Cb wr (O w1.1) (O w1.1+1+1) vu vo us os ⟨#[]⟩)/\Qb w1 wr) (λi _=>l-(intOf i).toNat)
  case atStart=>exact⟨0,[],[],_,_,yn,F,yk,yk,hF,hC,hu⟩
  case round=>
   clear hC hu hF;obtain⟨k,us,os,vu,vo,hk,rfl,Hg,Hj,HT,HU,X⟩:=hrel;have Hh:=X.size;have f:Hid (Qb w wr):=h7.trans (X.mono I);have hU:=HU.lt;by_cases hK:k<l
   .have hZ:(k:Int)<l:=I;have qe:k<Z ls:=I;have Ha:(k:Int)<Z ls:=I;obtain⟨o0,_,_⟩:=(HOP.y X hgl) k qe;obtain⟨ws,qa⟩:=Jx (Ej s ls k);have hh:ZM wr (A7 ls k).wv ws:=by rw[qa];exact(HST _ (ME qe)).y X
    have hz:∀x∈ws,x.size<=maxLen:=λx hx=>by rw[qa]at hx;have h1:=PB hx;rw[ZW]at h1;unfold maxLen;omega
    obtain⟨hf,C⟩:=iD qe HT (hX k hK);rw[<-qa]at hf C;have t:=S hf;have P:=S C;have he:=S (UW _ ws wr hh hz);have ha:∀q n c,(A7 ls k).wv = Ql q n c->n≠0->q<O w1.1:=λq n c e hn=>by
     obtain⟨a',c',hp,h'⟩:=(D HST) _ (ME qe);rw[e]at hp;simp only[Value.slice.injEq]at hp;obtain⟨h1,h2,_⟩:=hp;rcases h' with h'|⟨q',h3,h4,_⟩
     .omega
     .rw[h3]at h1;simp only[jw,Addr.mk.injEq]at h1;omega
    have qc:=S ha;have B:=S hh;obtain⟨aw,cw,hv,_⟩:=hh;rw[hv]at o0 he B qc;have Hp:=S qa;clear qa hz hf C hv HT ha;go_wp2_with fail;go_call D he as e w2 ⟨o,ok,rfl,hcase,hb2⟩;have K:=S (HU.y hb2);have z2:=hb2.size;have qg:Hid (Qb w1 w2):=X.trans (hb2.mono I);have hb:Hid (Qb w w2):=f.trans (hb2.mono I);have y:=S (B.y hb2);have h6:=K.lt;clear hb2 he HU B f X o0 hU;rcases hcase with⟨rfl,ho⟩|⟨rfl,ho⟩
    .have HO:=S ho;obtain⟨ao,co,rfl⟩:∃a c,vo=i6 a (Z os) c:=zS K.ro;have u1:=K.c1;clear ho P;go_wp2_with (at_builtin;refine As Fz underlying43 (.tmp 46) (.tmp 48) F rfl (O w1.1) _ (Z os) (zn os) F (K.ro.y ((zC).alloc Js _)) (J (O w2.1+1) 0) 1 1 (zn [o]) F rfl (λj u hj=>(Ju (Ij (w2.alloc (JM #[W o.s,G o.k,G o.l,G o.sd] 25)) o j u hj))) (Zw _) Jm I Jq ?_);intro v4 w4 Q H R qf;have hm:Qb w2 ((w2.alloc (JM #[W o.s,G o.k,G o.l,G o.sd] 25)).alloc (JM #[W o.s,G o.k,G o.l,G o.sd] 25)):=(zC).alloc Js _;obtain⟨kc,kf⟩:=K.keep hm (yX F) H;have m0:=(kc 1).trans u1;have g1:=kf 1;have hH:AQ w4 (O w1.1) v4 (os++[o]):=by unfold AQ;rw[Zo,yr];exact Q
     obtain⟨d,M⟩:=K.putO hm H hH (qf.imp id (λe=>⟨_,e,Js⟩));obtain⟨g4,c4,rfl⟩:=Lj Q (by simp[R]);have hd:=S d;have hr:Hid (Qb w1 _):=qg.trans M;clear Q H qf R kc kf hm d M hH u1;go_wp2;refine⟨⟨k+1,us,os++[o],_,_,I,Jn,I,Jq,S (t _ _ (yX (yX ⟨o,HO,F,F⟩))),hd,hr⟩,Ji⟩
    .have A:=S ho;clear ho;by_cases qb:∃x,ws=[J2,x]
     .obtain⟨x,rfl⟩:=qb;obtain⟨gw,cw',L,h5,hc⟩:=y.lt Js;simp only[Value.slice.injEq]at L;obtain⟨rfl,_,rfl⟩:=L;have k0:w2.cell? (J gw 0)=E (W ⟨#[117,115,101]⟩):=hc 0 _ F;have k1:w2.cell? (J gw 1)=E (W x):=hc 1 _ F;have Hb:gw<O w1.1:=(D qc) gw _ _ F Js;have Hm:gw≠O w1.1+1+1:=I;have Hd:Hid (vu.ownBlock≠E gw):=λe=>Jy ((K.ru.lt gw e).1)
      obtain⟨au,cu,rfl⟩:=zS K.ru;have u0:=K.c0;have hS:[J2,x].length=2:=F;rw[hS];have hJ:(w2.alloc (JM #[W o.s,G o.k,G o.l,G o.sd] 25)).cell? (J (O w1.1+1+1) 0)=E (i6 au (Z us) cu):=((@zC w2 _).cell (p:=(J (O w1.1+1+1) 0)) h6).trans u0;have k6:=λo'=>((@zC (w2.alloc (JM #[W o.s,G o.k,G o.l,G o.sd] 25)) o').cell (p:=(J (O w1.1+1+1) 0)) Jq).trans hJ
      clear hc A P y qc;go_wp2_with fail;go_region_law (refine De Z7 underlying63 (.tmp 61) (.tmp 65) (by rfl) (by rfl) (O w1.1) _ (Z us) (zU us) (by rfl) (K.ru.y (((zC).alloc Js _).drew)) (J (O w2.1+1) 0) 1 1 (zU [x]) (by rfl) F (λj u hj=>(Ju (Zu (w2.alloc (JM #[W o.s,G o.k,G o.l,G o.sd] 25)) x j u hj))) (ZA _) Jd Jm I Jq _ F ?_;intro g4 c4 w4 Q H qf hA;obtain⟨kc,kf⟩:=K.keep ((zC).alloc Js _).drew (yW F) H;have m0:=(kc 0).trans u0;have g0:=kf 0;obtain⟨d,M⟩:=rH K ((zC).alloc Js _).drew Q H qf;have hd:=S d;have hr:Hid (Qb w1 _):=qg.trans M;clear Q H qf hA kc kf d M);all_goals
       go_wp2
       refine⟨⟨k+1,us++[x],os,_,_,I,Jn,Jq,I,S (t _ _ (yX (yW ⟨x,F,F,F⟩))),hd,hr⟩,Ji⟩
     .have N:Z ws≠0->∀us' os',¬ Dk ws us os us' os':=λh0 us' os' hl=>by
       rcases hl with⟨e,_⟩|⟨x,e,_⟩|⟨o',e,_⟩
       .exact h0 (by rw[e];rfl)
       .exact qb ⟨x,e⟩
       .exact A o' e
      by_cases h0:Z ws=0
      .have e0:ws=[]:=jg.1 h0;have hY:=S (t us os (yW ⟨e0,F,F⟩));rw[h0];clear N e0 h0 qb t P A y qc;go_wp2;exact⟨⟨k+1,us,os,vu,vo,I,Jn,I,I,hY,S (K.y zC),qg.alloc I _⟩,Ji⟩
      .have V:=S (P (N h0));obtain⟨gw,cw',L,h5,hc⟩:=y.lt I;simp only[Value.slice.injEq]at L;obtain⟨rfl,_,rfl⟩:=L;obtain⟨q,hq⟩:∃q,ws[0]?=E q:=⟨_,yt I⟩;have k0:=hc 0 q hq;have ht:((Z ws:Int)==2)=Vt\/(((Z ws:Int)==2)=Vp/\(q.toList==[117,115,101])=Vt):=by
        by_cases e:Z ws=2
        .right;refine⟨Jq,LK (λek=>?_)⟩;match ws,e,hq with
         |[p1,p2],_,hq=>simp at hq;exact qb ⟨p2,by rw[hq,ek];rfl⟩
        .left;simp;omega
       have Hc:(0:Int)<Z ws:=I;have HP:=S (λw'=>Mh (w:=w) (w':=w') V);obtain⟨x0,x1,x2,x3⟩:Ix (w2.alloc (JM #[W o.s,G o.k,G o.l,G o.sd] 25)) (O w.1):=(hB.y qg I).y (@zC w2 _) I;have x30:=x3 0;have x31:=x3 1;have x32:=x3 2;clear N h0 qb t P A y qc hc hq x3;rcases ht with hW|⟨hW,He⟩;all_goals
        go_wp2_with fail
        refine yQ (v:=i5 #[b9 #[Jl,Jl,W ⟨#[]⟩],G 2,G ((k+1:Nat):Int)]) ?res F (HP _ ?_)
        case res=>simp[results,results23,go_sem,x0,x1,x2]
        first
         |exact hb.alloc I _
         |exact zX yk [Jl,Jl,W ⟨#[]⟩] 0 _ (hb.alloc I _)
   .have m:k=l:=I;have hQ:¬ (k:Int)<l:=I;obtain⟨x0,x1,x2,x3⟩:Ix wr (O w.1):=hB.y X I;have x30:=x3 0;have x31:=x3 1;have x32:=x3 2;clear x3
    first
    |(
      have V:=S (show ZC s [] [] j6 3 0 by
       have h:=D HT
       rw[m,D h8,List.drop_eq_nil_of_le (by simp[Cr])]at h
       exact h.fin)
      have HP:=S (λw'=>Mh (w:=w) (w':=w') V)
      have Hi:¬ (k:Int)<Z ls:=Jy (D h8)
      clear m hQ
      go_wp2_with fail
      refine yQ (v:=i5 #[b9 #[Jl,Jl,W ⟨#[]⟩],G 3,G 0]) ?res F (HP _ ?_)
      case res=>simp[results,results23,go_sem,x0,x1,x2]
      first
       |exact f
       |exact zX yk [Jl,Jl,W ⟨#[]⟩] 0 _ f)
    |(
      obtain⟨T,hT⟩:=Jx ((A7 ls l).t)
      have Hk:T<=s.size:=by rw[hT];exact hP l b
      have V:=S (show ZC s us os (CE s T) 0 0 by
       have h:=D HT
       rw[m,Y7 b]at h
       have h2:=h.begin hM
       rw[hT]
       exact h2)
      obtain⟨_,_,o2⟩:=(HOP.y X hgl) l b
      rw[<-hT]at o2
      obtain⟨au,cu,rfl⟩:=zS HU.ru
      obtain⟨ao,co,rfl⟩:∃a c,vo=i6 a (Z os) c:=zS HU.ro
      have u0:=HU.c0
      have u1:=HU.c1
      have u2:=HU.c2
      have f2:=HU.fz 2
      obtain⟨ans1,ans2⟩:=Ui (b':=CE s T) I HU f V I I
      have e1:O w1.1+1+1≠O w.1:=I
      have e2:O w.1≠O w1.1+1+1:=I
      by_cases qd:T<s.size
      .have hR:(T:Int)<s.size:=I
       have Hf:(T:Int)+1<=(s.size:Int):=I
       have z:CE s T=s.extract (T+1) s.size:=by unfold CE;rw[yU qd]
       rw[z]at ans1
       have qh:=S ans1
       clear ans1 ans2 z m V hT qd
       go_wp2_with fail
       refine yQ (v:=i5 #[b9 #[.slice au (Z us) cu,i6 ao (Z os) co,W (s.extract (T+1) s.size)],G 0,G 0]) ?res F qh
       case res=>simp[results,results23,go_sem,x0,x1,x2,e1,e2,u0,u1,u2]
      .have hR:¬ (T:Int)<s.size:=I
       have z:CE s T=⟨#[]⟩:=by unfold CE;rw[yS qd];rfl
       rw[z]at ans2
       have qh:=S ans2
       clear ans1 ans2 z m V hT qd
       go_wp2_with fail
       refine yQ (v:=i5 #[b9 #[.slice au (Z us) cu,i6 ao (Z os) co,W ⟨#[]⟩],G 0,G 0]) ?res F qh
       case res=>simp[results,results23,go_sem,x0,x1,x2,e1,e2,u0,u1,u2])
def lZ(w:JY):C0 (w.alloc (JM #[] 65)) (O w.1) (Ql (O w.1) 0 0) []:=by have:=yJ (base:=O w.1) (e:=65) (size:=3) w #[] 0 yk yn F;simpa[C0,CK] using this
def vN(w b e a):=∃(g c:Nat)(vs:List AO)(U:JC),e=i9 (Ql g (Z vs) c)/\O w.1<=g/\g<O a.1/\Z vs=Z b/\Hid (J5 a g vs)/\Hid (D6 a (O a.1) vs U)/\Hid (ZG b U)/\Qb w a
def cJ(a U k):=Z U=k/\∀i,i<k->ZC (Ae a i).t (Ah U i).us (Ah U i).os (Ah U i).b 0 0
def O0(a c0 ms w)(hn:Z ms<=100)(hM:Cj w a ms)(hz:Em ms)(v:∀i,i<Z ms->¬ B2 ms i):Calls Vb 29 #[.slice a (Z ms) c0] w (vN w ms):=by
 have HG:=S v;have HE:=S (lZ w);go_enter func29,ntmps29;go_wp2;go_loopw [3,4] (λout i wr=>∃(k g c:Nat)(vs:List AO)(U:JC),k<=Z ms/\i=G k/\out = Ql g (Z vs) c/\Z vs<=k/\Hid (Z vs=k)/\Hid (cJ ms U k)/\Hid (C0 wr (O w.1) (Ql g (Z vs) c) vs)/\Hid (JU wr (Ql g (Z vs) c) vs U)/\Qb w wr) (λ_ i _=>Z ms-(intOf i).toNat);case atStart=>exact⟨0,O w.1,0,[],[],yn,F,F,yk,S F,S ⟨F,λi hi=>I⟩,HE,S ⟨F,λi hi=>yV hi (yz i)⟩,zC⟩
 case round=>
  obtain⟨k,g,c,vs,U,hk,rfl,rfl,hc,m,C,HR,A,H⟩:=hrel;by_cases P:k<Z ms
  .have o:(k:Int)<Z ms:=I;rcases D hM with h|⟨b,he,rfl,B,hB⟩
   .omega
   obtain⟨m0,m1⟩:=(B k P).y H hB;have hg:=(HR.lt g F).2;have M:=S (QU (Ae ms k).t wr (hz k P).2);go_wp2_with fail;go_call D M as e w1 ⟨vu,vo,us,os,b',c',l',rfl,hi1,ru1,ro1,hne1,hlu,hlo,hb1⟩;obtain⟨rfl,rfl,_,_⟩:=Y2 (HG k P) hi1;obtain⟨a1,c1,rfl⟩:=zS ru1;obtain⟨a2,c2,rfl⟩:∃a c,vo=i6 a (Z os) c:=zS ro1;have z1:=hb1.size;have p:=S hb1;have z:=S ru1.strs;have L:=S ro1.ops;have N:=S (λq e=>ru1.lt q e);have ha:=S (λq e=>ro1.lt q e);have T:=S hi1;go_wp2_with (at_builtin;refine As Y4 underlying74 (.tmp 25) (.tmp 27) F rfl (O w.1) _ (Z vs) (CK vs) F ((HR.y p).y ((zC).alloc Js _)) (J (O w1.1+1) 0) 1 1 (CK [⟨.slice a1 (Z us) c1,i6 a2 (Z os) c2,b'⟩]) F rfl (λj u hj=>(Ju (Vx (w1.alloc (JM #[.slice a1 (Z us) c1,i6 a2 (Z os) c2,W b'] 65)) ⟨.slice a1 (Z us) c1,i6 a2 (Z os) c2,b'⟩ j u hj))) (λu hu=>by simp[CK]at hu;rcases hu with rfl|rfl|rfl<;>rfl) Jm I (by have:=H.size;simp;omega) ?_);intro v4 w4 hb K n t;have Q:Qb w1 ((w1.alloc (JM #[.slice a1 (Z us) c1,i6 a2 (Z os) c2,W b'] 65)).alloc (JM #[.slice a1 (Z us) c1,i6 a2 (Z os) c2,W b'] 65)):=(zC).alloc Js _;have HO:=S (show C0 w4 (O w.1) v4 (vs++[⟨.slice a1 (Z us) c1,i6 a2 (Z os) c2,b'⟩]) by
    unfold C0
    rw[TV,yr]
    exact hb)
   have f:=S (JU.step (x:=⟨.slice a1 (Z us) c1,i6 a2 (Z os) c2,b'⟩) (y:=⟨us,os,b'⟩) A (p.trans (Q.mono z1)) (λq e=>by have e':g=q:=(by simpa[i8] using e);omega) (z.y Q) (L.y Q) F (λq e=>by have:=(D N) q e;simp;omega) (λq e=>by have:=(D ha) q e;simp;omega) K (t.imp id (λh=>⟨_,h,Js⟩)));have V:Qb w w4:=(H.trans ((p.trans (Q.mono z1)).mono H.size)).grown K (by have:=H.size;simp;omega) (λq hq=>(HR.lt q hq).1);obtain⟨g4,c4,rfl⟩:∃g4 c4,v4 = Ql g4 (vs++[(⟨.slice a1 (Z us) c1,i6 a2 (Z os) c2,b'⟩:AO)]).length c4:=by
    obtain⟨_,⟨_,h2⟩|⟨g',cap,s,h1,_⟩⟩:=D HO
    .simp at h2
    .exact⟨g',cap,h1⟩
   have d:=S (show cJ ms (U++[⟨us,os,b'⟩]) (k+1) by
    obtain⟨t1,t2⟩:=D C
    refine⟨by simp[t1],λi hi=>?_⟩
    by_cases e:i<k
    .rw[Sd I];exact t2 i e
    .have e1:i=Z U:=I
     have e2:Ah (U++[⟨us,os,b'⟩]) i=⟨us,os,b'⟩:=by rw[e1];exact RZ
     rw[e2]
     have e3:i=k:=I
     rw[e3]
     exact T)
   obtain⟨X,hd⟩:∃X,Hid (X=vs++[(⟨.slice a1 (Z us) c1,i6 a2 (Z os) c2,b'⟩:AO)]):=⟨_,S F⟩;have e4:=D hd;rw[<-e4]at HO f;rw[<-e4];go_wp2;refine⟨⟨k+1,g4,c4,X,U++[⟨us,os,b'⟩],I,Jn,F,?_,S ?_,d,HO,f,V⟩,Ji⟩
   .rw[D hd];simp;omega
   .have:=D m;rw[D hd];simp;omega
  .have R:k=Z ms:=I;have HF:=S (show ZG ms U by
    obtain⟨t1,t2⟩:=D C
    exact⟨I,λi hi=>t2 i I⟩)
   have l:=S (by have:=D m;omega:Z vs=Z ms);go_wp2;go_ret;have hg:=HR.lt g F;exact⟨g,c,vs,U,F,hg.1,hg.2,l,S HR.ops,S A.at,HF,H⟩
def DQ(a:Jp)(U:JC)(i j:Nat):Bool:=decide (i<Z a)&&(decide (j<Z a)&&(Ah U i).us.any (λu=>An a u==j))
def Vz:(prog.info? 4).map (λi=>(i.zero,i.size,i.bytes))=E (E (i7 Vt),1,1):=Jk
def vP(w n)(a:Nat->Nat->Bool)(e b):=∃(g c:Nat)(rs:List Nat),e=i9 (Ql g n c)/\O w.1<=g/\g<O b.1/\Hid (∀i,i<n->b.cell? (J g i)=E (Ql (Co rs i) n n))/\Hid (∀i,i<n->B0 b (Co rs i) n (a i))/\Qb w b
def D6.uses(h:D6 w B vs U)(a:i<Z vs):ZM w (AX vs i).vu (Ah U i).us:=(h.2 i a).1.1
def rI{j}(a:i<Z ms)(b:j<Z ms):DQ ms U i j=((Ah U i).us.take (Ah U i).us.length).any (λu=>An ms u==j):=by rw[jJ];simp[DQ,a,b]
def rJ{k u}(h:us[k]?=E u)(a j):(us.take (k+1)).any (λu=>An a u==j)=(if j=An a u then Vp else(us.take k).any (λu=>An a u==j)):=by
 rw[jQ,h,List.any_append];by_cases e:j=An a u
 .subst e;simp
 .have:(An a u==j)=Vt:=Jq;simp[e,this]
def iE(a c0 gU cU ms vs U w)(hn:Z ms<=100)(hM:Cj w a ms)(hw:J5 w gU vs)(hJ:gU<O w.1)(hb:D6 w (O w.1) vs U)(ha:ZG ms U)(N:Z vs=Z ms)(h4:∀i,i<Z ms->¬ B4 ms U i):Calls Vb 45 #[.slice a (Z ms) c0,Ql gU (Z ms) cU] w (vP w (Z ms) (CC (DQ ms U) (Z ms))):=by
 obtain⟨n,hE⟩:=Jx (Z ms);have hh:∀qf:JY,(Instr.makeSlice 76 (G n) (G n)).run Vb qf=.ok (Ql (O qf.1) n n) (qf.alloc (JM (madeCells #[.bool Vt] n) 4)):=by obtain⟨inf,hi,hz⟩:=jx.1 Vz;simp only[Prod.mk.injEq]at hz;obtain⟨hz,h8,h5⟩:=hz;intro qf;have:=run_make (P:=Vb) qf 76 4 inf _ underlying76 hi hz .i64 .i64 n n I I (by rw[h5];omega) I;simpa[h8,Value.cells] using this
 have hK:=S hh;have HM:=S hM;have hr:=S N;have R:=S (λu=>Ra a c0 ms u);have hs:=S (show ∀i,i<Z ms->∀u∈(Ah U i).us,An ms u<Z ms from λi hi u hu=>by
  have hV:=Oe ms u
  by_cases e:An ms u<Z ms
  .exact e
  .refine yV ⟨u,hu,λj hj=>?_⟩ (h4 i hi)
   exact(FC ms u).2 j I)
 have T:Hid (∀i,i<Z ms->(Ah U i).us.length<=20001):=λi hi=>(Nz (ha.2 i hi)).1
 have HE:=S (show Ds (w.alloc (JM #[] 76)) (O w.1) n (Ql (O w.1) 0 0) [] by
  have:=yJ (base:=O w.1) (e:=76) (size:=1) w #[] 0 yk yn F
  simpa[Ds,FF] using this)
 rw[<-hE]at R hs T hr hn ⊢;have z:=S hE;clear hM ha N h4 hh hE;go_enter func45,ntmps45;go_wp2;go_loopw [6,7] (λout i wr=>∃(k g c:Nat)(rs:List Nat),k<=n/\i=G k/\out = Ql g (Z rs) c/\Z rs<=k/\Hid (Z rs=k)/\Hid (Ds wr (O w.1) n (Ql g (Z rs) c) rs)/\Hid (C1 wr (O w.1) n (Ql g (Z rs) c) rs (DQ ms U))/\Qb w wr) (λ_ i _=>n-(intOf i).toNat);case atStart=>exact⟨0,O w.1,0,[],yn,F,F,yk,S F,HE,S ⟨λi hi=>yV hi (yz i),λi j hi=>yV hi (yz i),λi hi=>yV hi (yz i)⟩,zC⟩
 case round=>
  clear HE;obtain⟨k,g,c,rs,hk,rfl,rfl,hW,l,HR,K,H⟩:=hrel;obtain⟨wo,rfl⟩:=Jx wr;have B:=H.size;by_cases A:k<n
  .have hO:(k:Int)<n:=I;have ho:=(D hK) wo;obtain⟨us,b⟩:=Jx ((Ah U k).us);have ht:=S b;have hZ:Z us<=20001:=by rw[b];exact T k A
   have h0:=S (by rw[b];exact hs k A:∀u∈us,An ms u<n);clear b;go_wp2_with fail;clear ho;obtain⟨W1,qg⟩:=Jx (wo.alloc (JM (madeCells #[.bool Vt] n) 4));have qc:Qb wo W1:=by rw[qg];exact zC
   have C:=S (show B0 W1 (O wo.1) n (λ_=>Vt) by rw[qg];exact Vy wo n);have t:=S (H.trans (qc.mono B));have hd:=S qc;have zW1:O wo.1+1<=O W1.1:=by rw[qg];simp
   rw[<-qg];clear qg qc;go_loopw [9] (λi wr=>∃q:Nat,q<=Z us/\i=G q/\Hid (B0 wr (O wo.1) n (λj=>(us.take q).any (λu=>An ms u==j)))/\Hid (zE W1 wr (O wo.1))) (λi _=>Z us-(intOf i).toNat);case atStart=>exact⟨0,yn,F,S (C.congr (λj _=>Js)),S (zE.refl _ _)⟩
   case round=>
    clear C;obtain⟨q,hq,rfl,HB,HK⟩:=hrel;have hA:=t.trans (HK.y I B);have qi:k<Z vs:=by rw[D hr];exact A
    obtain⟨v0,_,_⟩:=(hw.y hA hJ) k qi;have f:ZM wr (AX vs k).vu us:=by have h:=(hb.belowB hA yk).uses qi;rw[<-D ht]at h;exact h
    by_cases hf:q<Z us
    .have hS:(q:Int)<Z us:=I;obtain⟨gw,cw,hv,Hd,hc⟩:=f.lt I;rw[hv]at v0;obtain⟨u,hu⟩:∃u,us[q]?=E u:=⟨_,yt hf⟩;have k0:=hc q u hu;have hl:=yE hu;obtain⟨m,hm⟩:=Jx (An ms u);have v:m<n:=by rw[hm];exact h0 u hl
     have hF:(m:Int)<n:=I;have y:=S (R u wr I (HM.y hA));have qe:DC ms u=(m:Int):=by unfold DC;rw[<-hm,<-D z,yU v]
     rw[qe]at y;obtain⟨b0,b1⟩:=HB.2 m v;have h6:Hid (B0 (wr.setCell (J (O wo.1) m) (i7 Vp)) (O wo.1) n (λj=>(us.take (q+1)).any (λu=>An ms u==j))):=(HB.set v Vp).congr (λj _=>by rw[rJ hu ms j,<-hm]);have hD:Hid (zE W1 (wr.setCell (J (O wo.1) m) (i7 Vp)) (O wo.1)):=HK.trans (Ld [.bool Vp] m wr);clear hc f hu hl hm qe hv HB HK;go_wp2_with fail;go_call D y as e w2 ⟨rfl,hx⟩;obtain rfl:=hx.symm;go_wp2;exact⟨⟨q+1,I,Jn,h6,hD⟩,Ji⟩
    .obtain⟨aw,cw,hv,_⟩:=f;rw[hv]at v0;have h7:q=Z us:=I;have hI:=S (show B0 wr (O wo.1) n (DQ ms U k) by
      refine HB.congr (λj hj=>?_)
      rw[rI (by rw[<-D z];exact A) (by rw[<-D z];exact hj),h7,D ht])
     have V:=S (hd.trans (HK.y I yk));have hp:=V.size;have hg:=(HR.lt g F).2;go_wp2_with (at_builtin;refine As zaY underlying97 (.tmp 45) (.tmp 47) F rfl (O w.1) _ (Z rs) (FF n rs) F ((HR.y V).y zC) (J (O wr.1) 0) 1 1 (FF n [O wo.1]) F rfl (λj u hj=>lX wr _ j u hj) (iB _ _) Jm I Jq ?_);intro v4 w4 qb Q hN qd;have HO:=S (show Ds w4 (O w.1) n v4 (rs++[O wo.1]) by
      unfold Ds
      rw[dK,yr]
      exact qb)
     have qh:=S (show C1 w4 (O w.1) n v4 (rs++[O wo.1]) (DQ ms U) from
      (C1.push K (V.alloc hp _) B (λq e=>by have e':g=q:=(by simpa[i8] using e);omega) (hI.y zC) yk Q (qd.imp id (λh=>⟨_,h,Js⟩))).congr (λi j _ _=>by
       by_cases e:i=Z rs
       .rw[yU e,e,D l]
       .rw[yS e]))
     have L:Qb w w4:=(H.trans ((V.alloc hp _).mono B)).grown Q Jq (λq hq=>(HR.lt q hq).1);obtain⟨g4,c4,rfl⟩:∃g4 c4,v4 = Ql g4 (Z (rs++[O wo.1])) c4:=by
      obtain⟨_,⟨_,h2⟩|⟨g',cap,Hc,h1,_⟩⟩:=D HO
      .simp at h2
      .exact⟨g',cap,h1⟩
     obtain⟨d,qa⟩:∃d,Hid (d=rs++[O wo.1]):=⟨_,S F⟩;have e4:=D qa;rw[<-e4]at HO qh;rw[<-e4];go_wp2;refine⟨⟨k+1,g4,c4,d,I,Jn,F,?_,S ?_,HO,qh,L⟩,Ji⟩
     .rw[D qa];simp;omega
     .have:=D l;rw[D qa];simp;omega
  .have Ha:k=n:=I;have he:=S (by have:=D l;omega:Z rs=n);have hP:Z rs<=n:=I;have hR:n<=Z rs:=Jy (D he)
   go_wp2;go_loopw [10] (λim wr=>∃m:Nat,m<=n/\im=G m/\Hid (Ds wr (O w.1) n (Ql g (Z rs) c) rs)/\Hid (C1 wr (O w.1) n (Ql g (Z rs) c) rs (CC (DQ ms U) m))/\Qb w wr) (λim _=>n-(intOf im).toNat);case atStart=>exact⟨0,yn,F,HR,K,H⟩
   case round=>
    obtain⟨m,hm,rfl,HR,K,H⟩:=hrel;obtain⟨wm,rfl⟩:=Jx wr;by_cases s:m<n
    .have hF:(m:Int)<n:=I;have He:(m:Int)<Z rs:=I;obtain⟨M,hM⟩:=Jx (CC (DQ ms U) m);rw[<-hM]at K;have hG:=S hM;go_wp2;go_loopw [11] (λii wr=>∃i:Nat,i<=n/\ii=G i/\Hid (Ds wr (O w.1) n (Ql g (Z rs) c) rs)/\Hid (C1 wr (O w.1) n (Ql g (Z rs) c) rs (CV M m i 0))/\Qb w wr) (λii _=>n-(intOf ii).toNat);case atStart=>exact⟨0,yn,F,HR,S (K.congr (λi j _ _=>(oB M m i j).symm)),H⟩
     case round=>
      obtain⟨i,hi,rfl,HR,K,H⟩:=hrel;obtain⟨wi,rfl⟩:=Jx wr;by_cases hQ:i<n
      .have hU:(i:Int)<n:=I;have Hb:(i:Int)<Z rs:=I;go_wp2;go_loopw [12] (λjj wr=>∃j:Nat,j<=n/\jj=G j/\Hid (Ds wr (O w.1) n (Ql g (Z rs) c) rs)/\Hid (C1 wr (O w.1) n (Ql g (Z rs) c) rs (CV M m i j))/\Qb w wr) (λjj _=>n-(intOf jj).toNat);case atStart=>exact⟨0,yn,F,HR,K,H⟩
       case round=>
        obtain⟨j,hj,rfl,HR,K,H⟩:=hrel;by_cases X:j<n
        .have hY:(j:Int)<n:=I;have c1:=HR.cell (i:=i) I;have c2:=HR.cell (i:=m) I;obtain⟨b1,_⟩:=(K.1 i I).2 m s;obtain⟨b2,_⟩:=(K.1 m I).2 j X;obtain⟨b3,f3⟩:=(K.1 i I).2 j X;rw[zaZ]at b1;rw[zaa]at b2;cases h1:M i m
         .rw[h1]at b1;have HN:=S (K.congr (λi' j' _ _=>Y5 M m i j (yW h1) i' j'));go_wp2;exact⟨⟨j+1,I,Jn,HR,HN,H⟩,Ji⟩
         .rw[h1]at b1;cases h2:M m j
          .rw[h2]at b2;have HN:=S (K.congr (λi' j' _ _=>Y5 M m i j (yX h2) i' j'));go_wp2;exact⟨⟨j+1,I,Jn,HR,HN,H⟩,Ji⟩
          .rw[h2]at b2;have hy:=K.2.2 i I;have HN:=S ((K.set (i:=i) (j:=j) I X).congr (λi' j' _ _=>vM M m i j h1 h2 i' j'));have o:=S (HR.grown (zx wr (Co rs i) j (i7 Vp)) (λk e x=>hy.1 (e.trans x.symm)));have hC:Qb w (wr.setCell (J (Co rs i) j) (i7 Vp)):=H.setCell (p:=(J (Co rs i) j)) hy.2 _;go_wp2;exact⟨⟨j+1,I,Jn,o,HN,hC⟩,Ji⟩
        .have hB:j=n:=I;have HN:Hid (C1 wr (O w.1) n (Ql g (Z rs) c) rs (CV M m (i+1) 0)):=K.congr (λi' j' _ h3=>by rw[hB];exact vK M m i n i' j' h3);go_wp2;exact⟨⟨i+1,I,Jn,HR,HN,H⟩,Ji⟩
      .have h9:i=n:=I;have HN:=S (show C1 wi (O w.1) n (Ql g (Z rs) c) rs (CC (DQ ms U) (m+1)) from K.congr (λi' j' hX _=>by
        show _=Lb (CC (DQ ms U) m) m i' j'
        rw[h9,<-D hG]
        exact vL M m n i' j' I))
       go_wp2;exact⟨⟨m+1,I,Jn,HR,HN,H⟩,Ji⟩
    .have v:m=n:=I;have HF:=S (show ∀i,i<n->B0 wm (Co rs i) n (CC (DQ ms U) n i) from λi hi=>by
      have:=K.1 i I
      rw[v]at this
      exact this)
     have HC:Hid (∀i,i<n->wm.cell? (J g i)=E (Ql (Co rs i) n n)):=λi hi=>HR.cell I
     have hg:=HR.lt g F;have hH:=S (by rw[D he]:i6 (E (J g 0)) (Z rs) c=i6 (E (J g 0)) n c);go_wp2;go_ret;exact⟨g,c,rs,yY i9 hH,hg.1,hg.2,HC,HF,H⟩
def M3(o:Ad):=o.s.size<=20000/\(1<=o.k/\o.k<=3)/\(0<=o.l/\o.l<1000000)/\(0<=o.sd/\o.sd<=3)
theorem Bb.small{c}(h:Bb c o)(a:∀x∈c,x.size<=20000):M3 o:=by
 obtain⟨k,t,l,b,h⟩:=h;have f:Zq l l.size<1000000:=by have d:=PA l b.2.2 l.size yk;have e:10 ^ l.size<=10 ^ 6:=Nat.pow_le_pow_right Jd b.2.1;omega
 rcases h with⟨rfl,h⟩|⟨sd,rfl,_,H,rfl⟩
 .rcases h with⟨_,rfl⟩|⟨_,rfl⟩
  .exact⟨a t Js,⟨Js,Js⟩,⟨Js,Jq⟩,⟨Js,Js⟩⟩
  .exact⟨a t Js,⟨Js,Js⟩,⟨Js,Jq⟩,⟨Js,Js⟩⟩
 .refine⟨a t Js,⟨Js,Js⟩,⟨Js,Jq⟩,?_⟩;grind [U6]
theorem A2.small{s}(i:s.size<=20000):∀(ls:List (Nat×Nat))(n:Nat)(us:Jv)(os:Jf){u:Jv}{o:Jf}{b:JZ}{c l:Int},A2 s ls n us os u o b c l->(∀x∈os,M3 x)->∀x∈o,M3 x
 |[],n,us,os,_,_,_,_,_,a=>by obtain⟨rfl,rfl,rfl,rfl,rfl⟩:=a;exact λ_ x hx=>by cases hx
 |p::h,n,us,os,u,o,b,c,l,a=>by
  rcases a with⟨_,rfl,rfl,rfl,rfl,rfl⟩|⟨_,⟨us',d,f,a⟩|⟨_,rfl,rfl,rfl,rfl,rfl⟩⟩
  .exact λa=>a
  .intro h0;refine A2.small i h (n+1) us' d a ?_;rcases f with⟨_,rfl,rfl⟩|⟨x,hx,rfl,rfl⟩|⟨j,g,rfl,rfl⟩
   .exact h0
   .exact h0
   .intro x hx;rcases ju.1 hx with hx|hx
    .exact h0 x hx
    .simp at hx;subst hx;refine g.small (λz e=>?_);unfold AA at e;obtain⟨q,_,rfl⟩:=List.mem_map.1 e;simp only[yC];omega
  .exact λ_ x hx=>by cases hx
theorem Rr{u o l}(h:ZC s u o b c l):∀x∈o,M3 x:=by rcases h with⟨_,rfl,rfl,rfl,rfl,rfl⟩|⟨a,h⟩;all_goals grind [A2.small]
def ZG.small{U}(h:ZG ms U):∀o∈Z4 U,M3 o:=by intro o a;obtain⟨u,c,a⟩:=List.mem_flatMap.1 a;obtain⟨i,b,rfl⟩:=PT c;exact Rr (h.2 i (by rw[<-h.1];exact b)) o a
def iF{a}(h:∀o∈a,M3 o):ZO a:=λi b=>by have:=(h _ (PS b)).1;unfold maxLen;omega
theorem rK(a:∀i,i<Z ms->¬ B3 ms i)(i j):DQ ms U i j=Vp↔B9 ms U i j:=by
 unfold DQ B9;simp only[jB,jM,List.any_eq_true,beq_iff_eq];constructor
 .grind [FC]
 .rintro⟨h1,h2,h⟩;refine⟨h1,h2,_,h,?_⟩;exact Yh h2 F (λq b e=>a j h2 ⟨q,b,e⟩)
def R3(a:∀i,i<Z ms->¬ B3 ms i)(i j):CC (DQ ms U) (Z ms) i j=Vp↔TC (B9 ms U) i j:=
 zaU (rK a) (λi j h=>⟨h.1,h.2.1⟩) i j
theorem NX(b:i<Z ms)(a:¬ B4 ms U i)(c:u∈(Ah U i).us):An ms u<Z ms/\B9 ms U i (An ms u):=by
 have H:=Oe ms u;have h:An ms u<Z ms:=by
  by_cases e:An ms u<Z ms
  .exact e
  .exact yV ⟨u,c,λj d=>(FC ms u).2 j I⟩ a
 exact⟨h,b,h,by grind [FC]⟩
def Ow{U}(c:∀i,i<Z ms->¬ B3 ms i)(f:∀i,i<Z ms->¬ B4 ms U i)(d:∀i,i<Z ms->¬ TC (B9 ms U) i i):∃rk:Nat->Nat,(∀i,i<Z ms->∀u∈(Ah U i).us,rk (An ms u)<rk i)/\∀i,i<Z ms->rk i<Z ms:=by refine⟨Nc (CC (DQ ms U) (Z ms)) (Z ms),λi a u g=>?_,λi a=>zbe (R3 c) a (d i a)⟩;obtain⟨b,e⟩:=NX a (f i a) g;exact vF (R3 c) e b (d _ b)
def zy(a:JE)(i:Nat):Jf:=a.getD i []
def FL(w v b):=∃a c,v=i6 a (Z b) c/\(Z b=0\/∃g,a=E (J g 0)/\g<O w.1/\∀i,i<Z b->∃t,w.cell? (J g i)=E t/\ZX w t (zy b i))
def FL.y(h:FL w v out)(b:Qb w w'):FL w' v out:=by obtain⟨a,c,rfl,h⟩:=h;refine⟨a,c,F,h.imp id ?_⟩;rintro⟨g,rfl,d,f⟩;refine⟨g,F,ym d b.size,λi l=>?_⟩;obtain⟨t,j,k⟩:=f i l;exact⟨t,Jc b d j,k.grown (row:=JL) (zH b JL) (λg _ e=>by cases e)⟩
theorem Z0(h:i<n):zy ((List.range n).map a) i=a i:=by grind [zy]
def Gb(d:Nat->Bool)(i:Nat):Nat->Bool:=λj=>if j=i then Vp else d j
def Fu(T:Nat->Jf)(i:Nat)(x:Jf):Nat->Jf:=λj=>if j=i then x else T j
def CN(w v a):=∃g c,v = Ql g (Z a) c/\g<O w.1/\Au w g 0 a
def CN.at'(h:CN w v os):ZX w v os:=by obtain⟨g,c,rfl,a,b⟩:=h;exact⟨_,c,F,yX ⟨g,F,a,b⟩⟩
def CN.of(h:ZX w v os)(b:∃q,v.ownBlock=E q):CN w v os:=by
 obtain⟨a,c,rfl,⟨_,rfl,_⟩|⟨g,rfl,d,e⟩⟩:=h
 .obtain⟨q,b⟩:=b;cases b
 .exact⟨g,c,F,d,e⟩
def CN.blk(h:CN w v os):∃q,v.ownBlock=E q:=by obtain⟨g,c,rfl,_⟩:=h;exact⟨g,F⟩
def CN.y{w b v a}(h:CN w v a)(c:Qb w b):CN b v a:=CN.of (h.at'.y c) h.blk
structure ID(w:JY)(n b a:Nat)(d:Nat->Bool)(T:Nat->Jf)(wr:JY):Prop where
 dn:B0 wr a n d
 cs:∀i,i<n->∃v,wr.cell? (J b i)=E v/\wr.frozen? (J b i)=Vt/\(d i=Vp->CN wr v (T i)/\∀g,v.ownBlock=E g->g≠b/\g≠a/\O w.1<=g)
 bel:Qb w wr
 hO:O w.1<=b
 hD:O w.1<=a
 hOl:b<O wr.1
 hOD:b≠a
def ID.y{w wr f n b a}{d:Nat->Bool}{T:Nat->Jf}(h:ID w n b a d T wr)(c:Qb wr f):ID w n b a d T f:=
 ⟨h.dn.y c,λi l=>by
  obtain⟨v,j,k,g⟩:=h.cs i l
  exact⟨v,Jc c h.hOl j,(c.frozen (p:=J b i) h.hOl).trans k,λe=>⟨(g e).1.y c,(g e).2⟩⟩,h.bel.trans (c.mono h.bel.size),h.hO,h.hD,ym h.hOl c.size,h.hOD⟩
def CN.set(h:CN w v os)(p o x)(H:∀g,v.ownBlock=E g->g≠p):CN (w.setCell (J p o) x) v os:=
 CN.of (h.at'.grown (zx w p o x) (λg e x=>by injection x with x;exact H g e x.symm)) h.blk
def ZX.set(h:ZX w v os)(p o x)(H:∀g,v.ownBlock=E g->g≠p):ZX (w.setCell (J p o) x) v os:=
 h.grown (zx w p o x) (λg e x=>by injection x with x;exact H g e x.symm)
theorem ID.done{wr b a X}(h:ID w n b a d T wr)(q:i<n)(t:CN wr v X)(H:∀g,v.ownBlock=E g->g≠b/\g≠a/\O w.1<=g):ID w n b a (Gb d i) (Fu T i X) ((wr.setCell (J b i) v).setCell (J a i) (i7 Vp)):=by
 have K:=h.hOD;refine⟨?_,λj s=>?_,(h.bel.setCell (p:=J b i) h.hO _).setCell (p:=J a i) h.hD _,h.hO,h.hD,by simpa[World.setCell] using h.hOl,K⟩
 .exact((h.dn.grown (zx wr b i v) (λx=>K (by injection x))).set q Vp).congr (λj _=>F)
 .obtain⟨u,h1,h2,h3⟩:=h.cs j s;have k:∀(c:JY),(c.setCell (J a i) (i7 Vp)).cell? (J b j)=c.cell? (J b j):=λc=>yj _ _ _ _ (by grind)
  have m:((wr.setCell (J b i) v).setCell (J a i) (i7 Vp)).frozen? (J b j)=Vt:=by rw[yx,yx];exact h2
  by_cases e:j=i
  .subst e;refine⟨v,by rw[k];exact yu _ _ _ h1,m,λ_=>⟨?_,H⟩⟩;simp only[Fu,if_true];exact(t.set b j v (λg e=>(H g e).1)).set a j _ (λg e=>(H g e).2.1)
  .refine⟨u,by rw[k,yj _ _ _ _ (by first|(simp;done)|(simp;omega)|(intro x;injection x with _ x;omega))];exact h1,m,λl=>?_⟩;simp only[Gb,e,if_false]at l;simp only[Fu,e,if_false];obtain⟨o,f⟩:=h3 l;exact⟨(o.set b i v (λg e=>(f g e).1)).set a i _ (λg e=>(f g e).2.1),f⟩
def Ob(a U)(d:Nat->Bool)(T:Nat->Jf):=∀i,i<Z a->d i=Vp->(∀u∈(Ah U i).us,d (An a u)=Vp)/\T i=Bi (An a) T (zj [] (Ah U i).os) (Ah U i).us/\(T i).Nodup/\∀o∈T i,o∈Z4 U
theorem Ob.step{U i X}(h:Ob ms U d T)(t:Z U=Z ms)(v:i<Z ms)(x:d i=Vt)(K:∀u∈(Ah U i).us,An ms u<Z ms)(c:∀u∈(Ah U i).us,d (An ms u)=Vp)(m:X=Bi (An ms) T (zj [] (Ah U i).os) (Ah U i).us):Ob ms U (Gb d i) (Fu T i X):=by
 have q:∀k,d k=Vp->k≠i:=λk w e=>by grind
 have hT:∀(us:Jv)(acc:Jf),(∀u∈us,d (An ms u)=Vp)->Bi (An ms) T acc us=Bi (An ms) (Fu T i X) acc us:=λus acc b=>Q9 us acc (λu c=>by grind [Fu])
 intro j n b;by_cases e:j=i
 .subst e;refine⟨λu H=>by grind [Gb],?_,?_,?_⟩
  .simp only[Fu,if_true];grind
  .grind [Fu,NE,GI]
  .simp only[Fu,if_true];intro o a;rw[m,Lo,Ze]at a;rcases a with(a|a)|⟨u,H,a⟩
   .cases a
   .exact List.mem_flatMap.2 ⟨Ah U j,NU I,a⟩
   .exact(h _ (K u H) (c u H)).2.2.2 o a
 .simp only[Gb,e,if_false]at b;obtain⟨p,s,g,l⟩:=h j n b;have f:Fu T i X j=T j:=by grind [Fu]
  rw[f];refine⟨λu H=>by grind [Gb],?_,g,l⟩;grind
def EP(a:Jp)(d:Nat->Bool)(i:Nat)(b:Jv)(k:Nat):Bool:=!d i&&(b.take k).all (λu=>d (An a u))
theorem rL{k}(h:us[k]?=E u):EP ms d i us (k+1)=(EP ms d i us k&&d (An ms u)):=by unfold EP;rw[jQ,h,List.all_append];grind
theorem mA{a:ByteArray->Nat}{k}(h:us[k]?=E u):Bi a T acc (us.take (k+1))=zj (Bi a T acc (us.take k)) (T (a u)):=by rw[jQ,h];grind [U4]
def EG(n)(b:Nat->Nat)(d:Nat->Bool)(a i):=∀j,j<n->(b j<a\/(b j=a/\j<i))->d j=Vp
def EG.up{a k}(h:EG n rk d a i):EG n rk (Gb d k) a i:=λj b c=>by simp only[Gb];rw[h j b c];split<;>rfl
def EG.next{a}(h:EG n rk d a i)(f:rk i=a->d i=Vp):EG n rk d a (i+1):=λj c b=>by
 by_cases e:j=i
 .subst e;rcases b with b|⟨b,_⟩
  .exact h j c (yW b)
  .exact f b
 .exact h j c I
def EG.round{a}(h:EG n rk d a n):EG n rk d (a+1) 0:=λj b c=>h j b I
def XV:(prog.info? 45).map (λi=>(i.zero,i.size,i.bytes))=E (E (b9 #[Jl]),1,24):=Jk
def vQ(w b U e c):=∃(g:Nat)(a:Nat->Jf),e=i9 (Ql g (Z b) (Z b))/\O w.1<=g/\g<O c.1/\Hid (Fj b U a)/\Hid (∀i,i<Z b->(∀o∈a i,o∈Z4 U)/\∃v,c.cell? (J g i)=E v/\CN c v (a i)/\∀q,v.ownBlock=E q->O w.1<=q)/\Qb w c
def rM(w:JY)(n j)(c:j<n):(w.alloc (JM (madeCells #[Jl] n) 45)).cell? (J (O w.1) j)=E Jl:=by
 have h:=yF (w:=w.alloc (JM (madeCells #[Jl] n) 45)) (b:=O w.1) (jL w _) 0 n;have a:=h j Jl (by
  simp only[madeCells]
  simp[c,Nat.mod_one])
 simpa using a
def fJ(a c0 gU cU ms vs U w)(rk:Nat->Nat)(hn:Z ms<=100)(hM:Cj w a ms)(Hp:J5 w gU vs)(H6:gU<O w.1)(He:D6 w (O w.1) vs U)(t:ZG ms U)(hW:Z vs=Z ms)(h4:∀i,i<Z ms->¬ B4 ms U i)(hw:∀i,i<Z ms->∀u∈(Ah U i).us,rk (An ms u)<rk i)(h0:∀i,i<Z ms->rk i<Z ms):Calls Vb 46 #[.slice a (Z ms) c0,Ql gU (Z ms) cU] w (vQ w ms U):=by
 obtain⟨n,hP⟩:=Jx (Z ms);have h7:∀qh:JY,(Instr.makeSlice 35 (G n) (G n)).run Vb qh=.ok (Ql (O qh.1) n n) (qh.alloc (JM (madeCells #[Jl] n) 45)):=by obtain⟨inf,hi,hz⟩:=jx.1 XV;simp only[Prod.mk.injEq]at hz;obtain⟨hz,h9,h8⟩:=hz;intro qh;have:=run_make (P:=Vb) qh 35 45 inf _ underlying35 hi hz .i64 .i64 n n I I (by rw[h8];omega) I;simpa[h9,Value.cells] using this
 have h2:∀qh:JY,(Instr.makeSlice 76 (G n) (G n)).run Vb qh=.ok (Ql (O qh.1) n n) (qh.alloc (JM (madeCells #[.bool Vt] n) 4)):=by obtain⟨inf,hi,hz⟩:=jx.1 Vz;simp only[Prod.mk.injEq]at hz;obtain⟨hz,h9,h8⟩:=hz;intro qh;have:=run_make (P:=Vb) qh 76 4 inf _ underlying76 hi hz .i64 .i64 n n I I (by rw[h8];omega) I;simpa[h9,Value.cells] using this
 have h5:Hid (Z (Z4 U)<=400000):=t.all hn;have Hn:=S hW;have hA:=S (λu=>Ra a c0 ms u);have Ho:=S (show ∀i,i<Z ms->∀u∈(Ah U i).us,An ms u<Z ms from λi hi u hu=>by
  have HQ:=Oe ms u
  by_cases e:An ms u<Z ms
  .exact e
  .refine yV ⟨u,hu,λj hj=>?_⟩ (h4 i hi)
   exact(FC ms u).2 j I)
 have hH:Hid (∀i,i<Z ms->(Ah U i).us.length<=20001/\(Ah U i).os.length<=4000):=λi hi=>⟨(Nz (t.2 i hi)).1,(Lu (t.2 i hi)).1⟩
 have Hb:=S hw;have Hd:=S h0;have hd:=S t.1;rw[<-hP]at hA Ho hH Hn Hb Hd hd hn ⊢;have X:=S hP;clear t hW h4 hP hw h0;have Ht:=h7 w;have H7:=h2 (w.alloc (JM (madeCells #[Jl] n) 45));clear h7 h2;go_enter func46,ntmps46;go_wp2_with fail;clear Ht H7;obtain⟨W0,hR⟩:=Jx ((w.alloc (JM (madeCells #[Jl] n) 45)).alloc (JM (madeCells #[.bool Vt] n) 4));obtain⟨qf,hO⟩:=Jx (O w.1);obtain⟨z,hD⟩:=Jx (O w.1+1);have Ha:=S (show ID w n qf z (λ_=>Vt) (λ_=>[]) W0 by
  rw[hR,hO,hD]
  refine⟨?_,λi hi=>⟨Jl,?_,?_,λe=>by cases e⟩,(zC).alloc Js _,yk,I,Jq,I⟩
  .have:=Vy (w.alloc (JM (madeCells #[Jl] n) 45)) n
   simpa using this
  .exact((@zC (w.alloc (JM (madeCells #[Jl] n) 45)) _).cell (p:=J (O w.1) i) Js).trans (rM w n i hi)
  .simp[go_sem])
 rw[<-hR,<-hD,<-hO];clear hR;have H2:O w.1<=qf:=I;have H0:qf≠z:=I;clear hO hD;go_loopw [8] (λir wr=>∃(qk:Nat)(d:Nat->Bool)(T:Nat->Jf),qk<=n/\ir=G qk/\Hid (ID w n qf z d T wr)/\Hid (Ob ms U d T)/\Hid (EG n rk d qk 0)) (λir _=>n-(intOf ir).toNat);case atStart=>exact⟨0,λ_=>Vt,λ_=>[],yn,F,Ha,S (λi hi e=>by cases e),S (λj hj h=>I)⟩
 case round=>
  clear Ha;obtain⟨qk,d0,T0,hr,rfl,HS,HE,y⟩:=hrel;obtain⟨wo,rfl⟩:=Jx wr;by_cases HI:qk<n
  .have HU:(qk:Int)<n:=I;go_wp2;go_loopw [9] (λii wr=>∃(k:Nat)(d:Nat->Bool)(T:Nat->Jf),k<=n/\ii=G k/\Hid (ID w n qf z d T wr)/\Hid (Ob ms U d T)/\Hid (EG n rk d qk k)) (λii _=>n-(intOf ii).toNat);case atStart=>exact⟨0,d0,T0,yn,F,HS,HE,y⟩
   case round=>
    clear HS HE y;obtain⟨k,d,T,hk,rfl,HS,HE,y⟩:=hrel;obtain⟨wi,rfl⟩:=Jx wr;by_cases K:k<n
    .have HV:(k:Int)<n:=I;have hY:=HS.bel.size;have hK:=HS.hOl;have HN:=HS.dn.1;obtain⟨us,R⟩:=Jx ((Ah U k).us);obtain⟨os,hJ⟩:=Jx ((Ah U k).os);have HT:Z us<=20001:=by rw[R];exact(hH k K).1
     have HP:Z os<=4000:=by rw[hJ];exact(hH k K).2
     have b:=S (by rw[R];exact Ho k K:∀u∈us,An ms u<n);have Hm:=S (by rw[R];exact Hb k K:∀u∈us,rk (An ms u)<rk k);have hs:=S R;have hU:=S hJ;clear R hJ;have hZ:k<Z vs:=by rw[D Hn];exact K
     have he:=S (show ∀qh:JY,Below (O w.1) w qh->qh.cell? (J gU (k*3))=E (AX vs k).vu/\qh.cell? (J gU (k*3+1))=E (AX vs k).vo/\ZM qh (AX vs k).vu us/\ZX qh (AX vs k).vo os/\(∀g,(AX vs k).vu.ownBlock=E g->g<O w.1) from λqh hb=>by
      obtain⟨v0,v1,_⟩:=(Hp.y hb H6) k hZ
      have hx:=He.belowB hb yk
      obtain⟨⟨q1,q2,_⟩,q3,_⟩:=hx.2 k hZ
      rw[<-D hs]at q1
      rw[<-D hU]at q2
      exact⟨v0,v1,q1,q2,q3⟩)
     obtain⟨b0,f0⟩:=HS.dn.2 k K;obtain⟨R0,Hu⟩:∃R0:Bool,R0=!d k:=⟨_,F⟩;have Hw:=S (by simp[EP]:EP ms d k us 0=!d k);clear Hu R0;go_wp2;go_loopw [10,11] (λrv ik wr=>∃q:Nat,q<=Z us/\ik=G q/\rv=i7 (EP ms d k us q)/\wr=wi) (λ_ ik _=>Z us-(intOf ik).toNat);case atStart=>exact⟨0,yn,F,by rw[D Hw],F⟩
     case round=>
      obtain⟨q,hq,rfl,rfl,rfl⟩:=hrel;obtain⟨v0,v1,A,hB,f⟩:=(D he) wr HS.bel;by_cases ha:q<Z us
      .have Hq:(q:Int)<Z us:=I;obtain⟨gw,cw,hv,HA,hc⟩:=A.lt I;rw[hv]at v0;obtain⟨u,hu⟩:∃u,us[q]?=E u:=⟨_,yt ha⟩;have k0:=hc q u hu;have qb:u∈us:=yE hu;have x:=S (rL (ms:=ms) (d:=d) (i:=k) hu);obtain⟨m,hm⟩:=Jx (An ms u);rw[<-hm]at x;have M:m<n:=by rw[hm];exact b u qb
       have Hy:(m:Int)<n:=I;obtain⟨m0,_⟩:=HS.dn.2 m M;cases hrd:EP ms d k us q
       .rw[hrd]at x;have HX:=S (by rw[D x];rfl:EP ms d k us (q+1)=Vt);clear hc A hu qb hm hv v1 hB f;go_wp2;exact⟨⟨q+1,I,Jn,by rw[D HX],trivial⟩,Ji⟩
       .rw[hrd]at x;have HX:=S (by rw[D x];simp:EP ms d k us (q+1)=d m);have Q:=S (hA u wr I (hM.y HS.bel));have N:DC ms u=(m:Int):=by unfold DC;rw[<-hm,<-D X,yU M]
        rw[N]at Q;clear hc A hu qb hm hv v1 hB f N;go_wp2_with (first|(go_at_call 44;(with_reducible refine(D Q).mono ?_);rintro e w2 ⟨rfl,hx⟩;obtain rfl:=hx.symm;clear hx));exact⟨⟨q+1,I,Jn,by rw[D HX],trivial⟩,Ji⟩
      .obtain⟨aw,cw,hv,_⟩:=A;rw[hv]at v0;have L:q=Z us:=I;obtain⟨ao,co,hl,_⟩:=hB;rw[hl]at v1;have hS:=S (show ZX wr (i6 ao (Z os) co) os from hl ▸ ((D he) wr (D HS).bel).2.2.2.1);cases hrd:EP ms d k us q
       .have Hl:=S (show EG n rk d qk (k+1) from y.next (λHL=>by
         rw[L]at hrd
         unfold EP at hrd
         rw[jJ]at hrd
         cases hg:d k
         .rw[hg]at hrd
          have Hf:us.all (λu=>d (An ms u))=Vp:=by
           rw[List.all_eq_true]
           intro u hu
           exact y _ (b u hu) (yW (Jy ((D Hm) u hu)))
          rw[Hf]at hrd
          cases hrd
         .rfl))
        clear hv hl L hS v1 f y;go_wp2;exact⟨⟨k+1,d,T,I,Jn,HS,HE,Hl⟩,Ji⟩
       .have hg:d k=Vt:=by
         unfold EP at hrd;cases h:d k
         .rfl
         .rw[h]at hrd;cases hrd
        have qd:=S (show ∀u∈us,d (An ms u)=Vp from λu hu=>by
         rw[L]at hrd
         unfold EP at hrd
         rw[jJ,hg]at hrd
         exact List.all_eq_true.1 (Ju hrd) u hu)
        have Hr:=S hg;have l:=S (Uj (i6 ao (Z os) co) Jl os [] os (S Js) wr Jq hS ⟨JL,0,F,yW ⟨F,F,F⟩⟩);have hy:Cg os (Z os)=zj [] os:=by rw[SD _ _ yk,jJ]
        rw[hy]at l;obtain⟨acc0,qc⟩:=Jx (zj [] os);rw[<-qc]at l;have C:=S qc;clear hv hl L hS f hy qc hg hrd b0 f0;go_wp2_with fail;go_call D l as e w1 ⟨⟨h1,c1,rfl,hh1,hf1⟩,hb1⟩;have z1:=hb1.size;obtain⟨B12,qe⟩:=Jx (O w1.1);obtain⟨W12,qi⟩:=Jx (w1.alloc (JM #[Ql h1 (Z acc0) c1] 45));have t0:W12.cell? (J B12 0)=E (Ql h1 (Z acc0) c1):=by rw[qi,qe];simp[go_sem]
        have t1:W12.frozen? (J B12 0)=Vt:=by rw[qi,qe];simp[go_sem]
        have h6:=S (by rw[qi];exact⟨_,_,F,yX ⟨h1,F,by have:=hf1.1;simp;omega,hf1.ops.y zC hf1.1⟩⟩:ZX W12 (Ql h1 (Z acc0) c1) acc0);have z12:B12+1<=O W12.1:=by rw[qi,qe];simp
        have H3:O wr.1<=B12:=I;have Hi:h1<B12:=by rw[qe];exact hf1.1
        have hV:O wr.1<=h1:=hh1;obtain⟨wi',rfl⟩:=Jx wr;have Hg:=S qi;have H1:=S (by rw[qi];exact hb1.trans ((zC).mono z1):Below (O wi'.1) wi' W12);clear hf1 hb1 hh1 l v0 v1;go_wp2_with fail;rw[<-D Hg,<-qe];clear Hg qe z1;go_loopw [13] (λik wr=>∃(q h c:Nat)(acc:Jf),q<=Z us/\ik=G q/\Hid (acc=Bi (An ms) T acc0 (us.take q))/\wr.cell? (J B12 0)=E (Ql h (Z acc) c)/\wr.frozen? (J B12 0)=Vt/\Hid (ZX wr (Ql h (Z acc) c) acc)/\(h≠B12/\O wi'.1<=h)/\Below B12 W12 wr) (λik _=>Z us-(intOf ik).toNat);case atStart=>exact⟨0,h1,c1,acc0,yn,F,S (by simp[Bi]),t0,t1,h6,⟨I,I⟩,yN⟩
        case round=>
         clear t0 t1 h6 Hi hV;obtain⟨q,h,c,acc,hq,rfl,V,t0,t1,hF,⟨HO,HW⟩,hf⟩:=hrel;have qg:=H1.trans (hf.mono H3);have z12':B12+1<=O wr.1:=yy z12 hf.size;have hI:Below (O w.1) w wr:=HS.bel.trans (qg.mono hY);obtain⟨v0,v1,A,_,f⟩:=(D he) wr hI;have hC:=S (show acc.Nodup/\Z acc<=400000 by
          have h1:acc.Nodup:=by rw[D V,D C];exact NE _ _ _ _ (GI _ _ Js)
          refine⟨h1,yy (FE acc (Z4 U) h1 (λo ho=>?_)) h5⟩
          rw[D V,D C,Lo,Ze]at ho
          rcases ho with(ho|ho)|⟨u,hu,ho⟩
          .cases ho
          .exact List.mem_flatMap.2 ⟨Ah U k,NU (by rw[D hd];exact K),by rw[<-D hU];exact ho⟩
          .have Hj:=List.mem_of_mem_take hu
           exact(HE _ (by rw[<-D X];exact b u Hj) (qd u Hj)).2.2.2 o ho)
         by_cases ha:q<Z us
         .have Hq:(q:Int)<Z us:=I;obtain⟨gw,cw,hv,HA,hc⟩:=A.lt I;have HH:gw<O w.1:=f gw (by rw[hv];rfl);rw[hv]at v0;obtain⟨u,hu⟩:∃u,us[q]?=E u:=⟨_,yt ha⟩;have k0:=hc q u hu;have qb:u∈us:=yE hu;obtain⟨m,hm⟩:=Jx (An ms u);have M:m<n:=by rw[hm];exact b u qb
          have Hy:(m:Int)<n:=I;have hQ:d m=Vp:=by rw[hm];exact qd u qb
          obtain⟨vT,o0,_,o1⟩:=HS.cs m M;obtain⟨qj,_⟩:=o1 hQ;have ht:=qj.at';clear qj;have B:=ht.y qg;have hN:=(D HE) m (by rw[<-D X];exact M) hQ;have HK:Z (T m)<=400000:=yy (FE (T m) (Z4 U) hN.2.2.1 hN.2.2.2) h5;obtain⟨aT,cT,Hk,_⟩:=ht;rw[Hk]at o0 B;have o0':wr.cell? (J qf m)=E (i6 aT (Z (T m)) cT):=Jc qg hK o0;have Q:=S (hA u wr.drew I (hM.y hI.drew));have N:DC ms u=(m:Int):=by unfold DC;rw[<-hm,<-D X,yU M]
          rw[N]at Q;have s:=S (Uj (Ql h (Z acc) c) (i6 aT (Z (T m)) cT) acc (T m) (acc++T m) (S F) wr.drew (Jy hC.2) (hF.y (yN).drew) (B.y (yN).drew));rw[vE (D hC).1]at s;obtain⟨H,qa⟩:=Jx (zj acc (T m));rw[<-qa]at s;have hE:=S (by rw[mA hu,<-D V,qa,hm]:H=Bi (An ms) T acc0 (us.take (q+1)));have t0d:wr.drew.cell? (J B12 0)=E (Ql h (Z acc) c):=t0;have HJ:O w.1<=O wi'.1:=hY;clear hc A hu qb hm hv v1 f N hQ o1 B hN Hk o0 qa hI qg V hF hC;go_wp2_with fail;have q0:gU≠B12:=I;have q1:B12≠gU:=I;have q2:gw≠B12:=I;have q3:B12≠gw:=I;have q4:qf≠B12:=I;have q5:B12≠qf:=I;go_region_with
           (
            first
            |(go_at_call 44;(with_reducible refine(D Q).mono ?_);rintro e w2 ⟨rfl,hx⟩;obtain rfl:=hx.symm;clear hx)
            |(go_at_call 84;(with_reducible refine(D s).mono ?_);rintro e w3 ⟨⟨h3,c3,rfl,hh3,hf3⟩,hb3⟩;have z3:=hb3.size;have Hh:=S hf3;have Hs:=S hb3;have kk:=λp (hp:p.block<O wr.1)=>hb3.cell (p:=p) hp;have j1:=(kk (J gU (k*3)) (I:gU<O wr.1)).trans v0;have j2:=(kk (J gw q) (I:gw<O wr.1)).trans k0;have j3:=(kk (J qf m) (I:qf<O wr.1)).trans o0';have j4:=(kk (J B12 0) (I:B12<O wr.1)).trans t0;have j5:=Eq.trans (hb3.frozen (p:=J B12 0) (I:B12<O wr.1)) t1;clear hf3 hb3 kk))
          all_goals(
           have H5:=S (show ZX (w3.setCell (J B12 0) (Ql h3 (Z H) c3)) (Ql h3 (Z H) c3) H from(show ZX w3 (Ql h3 (Z H) c3) H from⟨_,_,F,yX ⟨h3,F,Hh.1,Hh.ops⟩⟩).set B12 0 _ (λg e=>by have e':h3=g:=(by simpa[i8] using e);simp at hh3;omega))
           have n0:(w3.setCell (J B12 0) (Ql h3 (Z H) c3)).cell? (J B12 0)=E (Ql h3 (Z H) c3):=yu _ _ _ j4
           have n1:(w3.setCell (J B12 0) (Ql h3 (Z H) c3)).frozen? (J B12 0)=Vt:=(yx).trans j5
           have Hc:Below B12 W12 (w3.setCell (J B12 0) (Ql h3 (Z H) c3)):=(hf.drew.trans (Hs.mono (I:B12<=O wr.1))).setCell (p:=J B12 0) yk _
           have hX:h3≠B12/\O wi'.1<=h3:=by simp at hh3;omega
           go_wp2
           exact⟨⟨q+1,h3,c3,H,I,Jn,hE,n0,n1,H5,hX,Hc⟩,Ji⟩)
         .have L:q=Z us:=I;obtain⟨aw,cw,hv,_⟩:=A;rw[hv]at v0;have HX:=S (show acc=Bi (An ms) T (zj [] (Ah U k).os) (Ah U k).us by rw[D V,L,jJ,D C,D hU,D hs])
          have hG:=S (HS.y qg);obtain⟨vO,o0,o1,_⟩:=hG.cs k K;obtain⟨d0',d1'⟩:=hG.dn.2 k K;have H4:=S (hG.done K (CN.of hF ⟨h,F⟩) (λg e=>by have e':h=g:=(by simpa[i8] using e);omega));have HD:=S (HE.step (by rw[D hd,D X]) (by rw[<-D X];exact K) Hr (by rw[<-D hs,<-D X];exact b) (by rw[<-D hs];exact qd) HX);have HB:Hid (EG n rk (Gb d k) qk (k+1)):=y.up.next (λ_=>by simp[Gb]);have HG:z≠qf:=λe=>H0 e.symm
          go_wp2;exact⟨⟨k+1,Gb d k,Fu T k acc,I,Jn,H4,HD,HB⟩,Ji⟩
    .have H8:k=n:=I;have H9:=S (show EG n rk d (qk+1) 0 from(by rw[H8]at y;exact y.round));go_wp2;exact⟨⟨qk+1,d,T,I,Jn,HS,HE,H9⟩,Ji⟩
  .have HR:qk=n:=I;have hh:Hid (∀i,i<n->d0 i=Vp):=λi hi=>y i hi (yW (Jy ((D Hd) i hi)))
   have HF:Hid (Fj ms U T0):=λi hi=>(HE i hi (hh i (by rw[D X];exact hi))).2.1
   have HC:=S (show ∀i,i<n->(∀o∈T0 i,o∈Z4 U)/\∃v,wo.cell? (J qf i)=E v/\CN wo v (T0 i)/\∀q,v.ownBlock=E q->O w.1<=q from λi hi=>by
    obtain⟨v,h1,_,h3⟩:=HS.cs i hi
    exact⟨(HE i (by rw[<-D X];exact hi) (hh i hi)).2.2.2,v,h1,(h3 (hh i hi)).1,λq e=>((h3 (hh i hi)).2 q e).2.2⟩)
   have Hz:=HS.bel;have hK:=HS.hOl;go_wp2;go_ret;have e:=D X;subst e;exact⟨qf,T0,F,H2,hK,HF,HC,Hz⟩
def GS(w B v a):=∃g c,v = Ql g (Z a) c/\(Z a=0\/B<=g/\g<O w.1/\∀i,i<Z a->∃t,w.cell? (J g i)=E t/\CN w t (zy a i)/\∀q,t.ownBlock=E q->B<=q)
def GS.tabs(h:GS w B v out):FL w v out:=by obtain⟨g,c,rfl,h⟩:=h;refine⟨_,c,F,h.imp id λh=>⟨g,F,h.2.1,λi d=>?_⟩⟩;obtain⟨t,a,b,_⟩:=h.2.2 i d;exact⟨t,a,b.at'⟩
def rN(w d e b):=∃(v:Value)(out:JE)(c a:Int),e=i9 (i5 #[v,G c,G a])/\Hid (ZI d out c a)/\Hid (GS b (O w.1) v out)/\(∀o∈out,Z o<=1048576/\ZO o)/\Qb w b
def I3(a B b):GS a B (Ql b 0 0) []:=⟨_,0,F,yW F⟩
def rO{k}(c:k<Z ms):DC ms (Ae ms k).n=(An ms (Ae ms k).n:Int)/\(An ms (Ae ms k).n<k↔B3 ms k):=by
 obtain⟨b,a⟩:=FC ms (Ae ms k).n;have H:An ms (Ae ms k).n<=k:=by
  by_cases e:An ms (Ae ms k).n<=k
  .exact e
  .exact yV F (a k I)
 constructor
 .unfold DC;rw[yU I]
 .constructor
  .intro h;exact⟨_,h,b I⟩
  .rintro⟨j,hj,e⟩;by_cases h:An ms (Ae ms k).n<k
   .exact h
   .exact yV e (a j I)
def OX(a c0 ms w)(hn:Z ms<=1048576)(hM:Cj w a ms)(hz:Em ms):Calls Vb 9 #[.slice a (Z ms) c0] w (rN w ms):=by
 by_cases qa:100<Z ms
 .have hI:(100:Int)<Z ms:=I;have HL:Hid (ZI ms [] 1 100):=yW ⟨qa,F,F,F⟩;clear qa;go_enter func9,ntmps9;go_wp2;go_ret3;exact⟨_,[],1,100,F,HL,S (I3 _ _ _),(λo ho=>by cases ho),zC⟩
 have l:Z ms<=100:=I;have hI:¬ (100:Int)<Z ms:=I;obtain⟨n,hy⟩:=Jx (Z ms);have x:=S hy;have hS:=S (λu qg h=>Ra a c0 ms u qg hn h);have hK:=S (λqg h1 h2=>O0 a c0 ms qg l h1 hz h2);have Hu:=S (λgU cU vs U qg h1 h2 h3 h4 h5 h6 h7=>iE a c0 gU cU ms vs U qg l h1 h2 h3 h4 h5 h6 h7);have H1:=S (λgU cU vs U qg rk h1 h2 h3 h4 h5 h6 h7 h8 h9=>fJ a c0 gU cU ms vs U qg rk l h1 h2 h3 h4 h5 h6 h7 h8 h9);have C:Hid (∀out c who,DK (Z ms) (B2 ms) (λi=>out=[]/\c=2/\who=(i:Int)) (TD ms out c who)->ZI ms out c who):=λout c who h=>yX ⟨l,h⟩
 rw[<-hy]at l hI ⊢;have H5:n<=Z ms:=I;have H4:Z ms<=n:=I;clear hn qa hy;obtain⟨N0,H7⟩:=Jx (O w.1);go_enter func9,ntmps9;go_wp2_with fail;obtain⟨W0,hC⟩:=Jx (w.alloc (JM #[] 45));have he:Below (O w.1) w W0:=by rw[hC];exact zC
 rw[<-hC];clear hC;go_loopw [7] (λiv wr=>∃k:Nat,k<=n/\iv=G k/\Hid (∀j,j<k->¬ B2 ms j)/\Below (O w.1) w wr) (λiv _=>n-(intOf iv).toNat);case atStart=>exact⟨0,yn,F,S (λj h=>I),he⟩
 case round=>
  clear he W0;obtain⟨k,hk,rfl,HB,H⟩:=hrel;by_cases qd:k<n
  .have d:(k:Int)<n:=I;have K:k<Z ms:=I;rcases D hM with h|⟨b,hs,rfl,X,qe⟩
   .omega
   obtain⟨m0,m1⟩:=(X k K).y H qe;have hV:=S (QU (Ae ms k).t wr (hz k K).2);have hO:=((hz) k K).1;have hR:b<O wr.1:=ym qe H.size;clear X;go_wp2_with fail;go_call D hV as e w1 ⟨vu,vo,us,os,b',c',l',rfl,hi1,ru1,ro1,hne1,hlu,Ha,hb1⟩;obtain⟨a1,c1,rfl⟩:=zS ru1;obtain⟨a2,c2,rfl⟩:∃a c,vo=i6 a (Z os) c:=zS ro1;have m0':w1.cell? (J b (hs+k*2))=E (W (Ae ms k).n):=(hb1.cell (p:=(J b (hs+k*2))) hR).trans m0;have z1:=hb1.size;have H3:b<O w1.1:=I;have V:=S (H.trans (hb1.mono H.size));have Hg:=S hi1;have A:Hid (B2 ms k->ZI ms [] 2 (k:Int)):=λh=>C [] 2 (k:Int) (yW ⟨k,K,h,HB,F,F,F⟩)
   have Hs:=S (show ¬ B2 ms k->∀j,j<k+1->¬ B2 ms j from λh j hj=>by
    by_cases e:j=k
    .subst e;exact h
    .exact HB j I)
   have B:=S (λqg=>Rc (Ae ms k).n qg hO);have H6:(Ae ms k).n.size<=9223372036854775807:=hO;clear hi1 ru1 ro1 hne1 hb1 hV m0 m1 HB;by_cases hc:c'=0
   .subst hc;by_cases hN:Cv (Ae ms k).n
    .have qc:=S hN;by_cases T:64<(Ae ms k).n.size
     .have Hc:(64:Int)<((Ae ms k).n.size:Int):=I;have HR:=S (A (yX (yX T)));clear hN T;go_wp2_with (first|(go_at_call 43;(with_reducible refine((D B) _).mono ?_);rintro e w2 ⟨⟨v,rfl,hv⟩,hx⟩;obtain rfl:=hx.symm;obtain rfl:v=Vp:=(by cases v;exact(hv.2 qc);rfl);clear hv hx));go_ret3;exact⟨_,[],2,_,F,HR,S (I3 _ _ _),(λo ho=>by cases ho),V.alloc (Jy V.size) _⟩
     .have Hc:¬ (64:Int)<((Ae ms k).n.size:Int):=I;have y:=S (Hs (λhB=>by
       rcases hB with⟨us',os',b2,c2,l2,hu,Hw⟩|h|h
       .exact Hw (Hg.one hu).2.2.2.1.symm
       .exact h qc
       .exact T h))
      clear hN T;go_wp2_with (first|(go_at_call 43;(with_reducible refine((D B) _).mono ?_);rintro e w2 ⟨⟨v,rfl,hv⟩,hx⟩;obtain rfl:=hx.symm;obtain rfl:v=Vp:=(by cases v;exact(hv.2 qc);rfl);clear hv hx));exact⟨⟨k+1,I,Jn,y,V.alloc (Jy V.size) _⟩,Ji⟩
    .have qc:=S hN;have HR:=S (A (yX (yW hN)));clear hN;go_wp2_with (first|(go_at_call 43;(with_reducible refine((D B) _).mono ?_);rintro e w2 ⟨⟨v,rfl,hv⟩,hx⟩;obtain rfl:=hx.symm;obtain rfl:v=Vt:=(by cases v;rfl;exact yV (hv.1 F) qc);clear hv hx));go_ret3;exact⟨_,[],2,_,F,HR,S (I3 _ _ _),(λo ho=>by cases ho),V.alloc (Jy V.size) _⟩
   .have Ht:(c' != 0)=Vp:=Ju hc
    have HR:=S (A (yW ⟨us,os,b',c',l',Hg,hc⟩));clear hc;go_wp2;go_ret3;exact⟨_,[],2,_,F,HR,S (I3 _ _ _),(λo ho=>by cases ho),V.alloc (Jy V.size) _⟩
  .have hZ:Hid (∀i,i<Z ms->¬ B2 ms i):=λi hi=>HB i I
   have hF:Hid (∀out c who,TD ms out c who->ZI ms out c who):=λout c who h=>C out c who (yX ⟨hZ,h⟩)
   clear HB C;go_wp2;go_loopw [11] (λiv wr=>∃k:Nat,k<=n/\iv=G k/\Hid (∀j,j<k->¬ B3 ms j)/\Below (O w.1) w wr) (λiv _=>n-(intOf iv).toNat);case atStart=>exact⟨0,yn,F,S (λj h=>I),H⟩
   case round=>
    clear H;obtain⟨k,hk,rfl,HB,H⟩:=hrel;by_cases qd:k<n
    .have d:(k:Int)<n:=I;have K:k<Z ms:=I;have Hr:=S (hM.y H);rcases D hM with h|⟨b,hs,rfl,X,qe⟩
     .omega
     obtain⟨m0,m1⟩:=(X k K).y H qe;have Q:=S (hS (Ae ms k).n wr Hr);obtain⟨q,hq⟩:=Jx (An ms (Ae ms k).n);have N:=rO K;rw[N.1,<-hq,<-D x]at Q;have P:=N.2;rw[<-hq]at P;by_cases qj:q<k
     .have hG:(q:Int)<k:=I;have HR:=S (hF [] 3 (k:Int) (yW ⟨k,K,P.1 qj,HB,F,F,F⟩));clear N P hq X qj HB;go_wp2_with fail;go_call D Q as e w2 ⟨rfl,hx⟩;obtain rfl:=hx.symm;clear hx Q;go_wp2;go_ret3;exact⟨_,[],3,_,F,HR,S (I3 _ _ _),(λo ho=>by cases ho),H⟩
     .have hG:¬ (q:Int)<k:=I;have y:=S (show ∀j,j<k+1->¬ B3 ms j from λj hj=>by
       by_cases e:j=k
       .subst e;exact λh=>qj (P.2 h)
       .exact HB j I)
      clear N P hq X qj HB;go_wp2_with fail;go_call D Q as e w2 ⟨rfl,hx⟩;obtain rfl:=hx.symm;clear hx Q;go_wp2;exact⟨⟨k+1,I,Jn,y,H⟩,Ji⟩
    .have h0:Hid (∀i,i<Z ms->¬ B3 ms i):=λi hi=>HB i I
     have hH:Hid (∀out c who,bS ms out c who->ZI ms out c who):=λout c who h=>hF out c who (yX ⟨h0,h⟩)
     have g:=S (hK wr (hM.y H) hZ);rw[<-D x]at g;clear HB hF hK;go_wp2_with fail;go_call D g as e w3 ⟨gU,cU,vs,U,rfl,hgU1,hgU,hvl,HOV,HUA,HUO,hb3⟩;have f:=S (H.trans (hb3.mono H.size));have z3:=f.size;have hd:=S (by rw[D x];exact hvl:Z vs=n);have Hn:Hid (∀out c who,DK (Z ms) (B4 ms U) (λi=>out=[]/\c=4/\who=(i:Int)) (TB ms U out c who)->ZI ms out c who):=λout c who h=>hH out c who ⟨U,HUO,h⟩
     have Hv:Hid (∀i,i<Z ms->(Ah U i).us.length<=20001):=λi hi=>(Nz (HUO.2 i hi)).1
     rw[D hd];clear hb3 H g hvl hH;go_wp2;go_loopw [13] (λiv wr=>∃k:Nat,k<=n/\iv=G k/\Hid (∀j,j<k->¬ B4 ms U j)/\Below (O w3.1) w3 wr) (λiv _=>n-(intOf iv).toNat);case atStart=>exact⟨0,yn,F,S (λj h=>I),yN⟩
     case round=>
      obtain⟨k,hk,rfl,HB,H⟩:=hrel;obtain⟨wo,rfl⟩:=Jx wr;by_cases qd:k<n
      .have d:(k:Int)<n:=I;have K:k<Z ms:=I;obtain⟨us,ht⟩:=Jx ((Ah U k).us);have hE:=S ht;have H9:Z us<=20001:=by rw[ht];exact Hv k K
       have hP:k<Z vs:=by rw[D hd];exact qd
       have Hi:=S (show ∀qg:JY,Below (O w3.1) w3 qg->qg.cell? (J gU (k*3))=E (AX vs k).vu/\ZM qg (AX vs k).vu us from λqg hb=>by
        obtain⟨v0,_,_⟩:=(HOV.y hb hgU) k hP
        have hx:=(HUA.belowB hb yk).uses hP
        rw[<-D hE]at hx
        exact⟨v0,hx⟩)
       clear ht;go_wp2;go_loopw [14] (λiq wr=>∃q:Nat,q<=Z us/\iq=G q/\Hid (∀p,p<q->∀u,us[p]?=E u->An ms u<n)/\wr=wo) (λiq _=>Z us-(intOf iq).toNat);case atStart=>exact⟨0,yn,F,S (λp hp=>I),F⟩
       case round=>
        obtain⟨q,hq,rfl,HQ,rfl⟩:=hrel;obtain⟨v0,s⟩:=(D Hi) wr H;by_cases Hd:q<Z us
        .have hG:(q:Int)<Z us:=I;obtain⟨gw,cw,hv,HA,hc⟩:=s.lt I;rw[hv]at v0;obtain⟨u,hu⟩:∃u,us[q]?=E u:=⟨_,yt Hd⟩;have k0:=hc q u hu;have hA:u∈us:=yE hu;have L:Below (O w.1) w wr:=f.trans (H.mono z3);have Q:=S (hS u wr (hM.y L));rw[<-D x]at Q;by_cases z:An ms u<n
         .obtain⟨m,hm⟩:=Jx (An ms u);have t:DC ms u=(m:Int):=by unfold DC;rw[<-hm,<-D x,yU (by rw[hm];exact z)]
          rw[t]at Q;have H8:¬ (m:Int)<0:=I;have Hq:=S (show ∀p,p<q+1->∀u,us[p]?=E u->An ms u<n from λp hp u' qb=>by
           by_cases e:p=q
           .subst e
            rw[hu]at qb
            injection qb with qb
            subst qb
            exact z
           .exact HQ p I u' qb)
          clear hc s hu hA hm t hv z HQ;go_wp2_with fail;go_call D Q as e w2 ⟨rfl,hx⟩;obtain rfl:=hx.symm;clear hx Q;go_wp2;exact⟨⟨q+1,I,Jn,Hq,trivial⟩,Ji⟩
         .have t:DC ms u = -1:=by unfold DC;rw[yS (by rw[<-D x];exact z)]
          rw[t]at Q;have HR:=S (Hn [] 4 (k:Int) (yW ⟨k,K,⟨u,by rw[<-D hE];exact hA,λj hj=>(FC ms u).2 j I⟩,HB,F,F,F⟩));have hD:=S L;clear hc s hu hA t hv z HQ L;go_wp2_with fail;go_call D Q as e w2 ⟨rfl,hx⟩;obtain rfl:=hx.symm;go_wp2;go_ret3;exact⟨_,[],4,_,F,HR,S (I3 _ _ _),(λo ho=>by cases ho),hD⟩
        .obtain⟨aw,cw,hv,_⟩:=s;rw[hv]at v0;have y:=S (show ∀j,j<k+1->¬ B4 ms U j from λj hj=>by
          by_cases e:j=k
          .subst e
           rintro⟨u,hu,Hy⟩
           rw[<-D hE]at hu
           obtain⟨p,hp,e⟩:=List.getElem_of_mem hu
           have h1:=(D HQ) p I u (by rw[yt hp,e])
           exact Hy _ I ((FC ms u).1 I)
          .exact HB j I)
         go_wp2;exact⟨⟨k+1,I,Jn,y,H⟩,Ji⟩
      .have qi:Hid (∀i,i<Z ms->¬ B4 ms U i):=λi hi=>HB i I
       have Hm:Hid (∀out c who,TB ms U out c who->ZI ms out c who):=λout c who h=>Hn out c who (yX ⟨qi,h⟩)
       have hg:Below (O w.1) w wo:=f.trans (H.mono z3);have zo:=H.size;have Hl:D6 wo (O wo.1) vs U:=(HUA.belowB H yk).mono zo;have hU:=S (Hu gU cU vs U wo (hM.y hg) (HOV.y H hgU) I Hl HUO (by rw[D hd,D x]) qi);rw[<-D x]at hU;have hh:=S hg;go_wp2_with fail;go_call D hU as e w5 ⟨gR,cR,rs,rfl,hgR1,hgR,HCR,hD,hb5⟩;have qh:=S (hh.trans (hb5.mono hh.size));have z5:=hb5.size;have M:=S (H.trans (hb5.mono zo));have hQ:Hid (∀i,CC (DQ ms U) n i i=Vp↔TC (B9 ms U) i i):=λi=>by rw[D x];exact R3 h0 i i
       go_wp2;go_loopw [16] (λiv wr=>∃k:Nat,k<=n/\iv=G k/\Hid (∀j,j<k->¬ TC (B9 ms U) j j)/\wr=w5) (λiv _=>n-(intOf iv).toNat);case atStart=>exact⟨0,yn,F,S (λj h=>I),F⟩
       case round=>
        obtain⟨k,hk,rfl,HB,rfl⟩:=hrel;by_cases qd:k<n
        .have d:(k:Int)<n:=I;have K:k<Z ms:=I;have c0':=(D HCR) k qd;obtain⟨b0',_⟩:=((hD) k qd).2 k qd;cases hW:CC (DQ ms U) n k k
         .rw[hW]at b0';have y:=S (show ∀j,j<k+1->¬ TC (B9 ms U) j j from λj hj=>by
           by_cases e:j=k
           .subst e
            intro h
            rw[((D hQ) j).2 h]at hW
            cases hW
           .exact HB j I)
          go_wp2;exact⟨⟨k+1,I,Jn,y,trivial⟩,Ji⟩
         .rw[hW]at b0';have HR:=S (Hm [] 5 (k:Int) (yW ⟨k,K,(hQ k).1 hW,HB,F,F,F⟩));go_wp2;go_ret3;exact⟨_,[],5,_,F,HR,S (I3 _ _ _),(λo ho=>by cases ho),qh⟩
        .have Hf:Hid (∀i,i<Z ms->¬ TC (B9 ms U) i i):=λi hi=>HB i I
         have hJ:Hid (∀out c who,cI ms U out c who->ZI ms out c who):=λout c who h=>Hm out c who (yX ⟨Hf,h⟩)
         obtain⟨rk,Ho,H0⟩:=Ow h0 qi Hf;have z35:=M.size;have hY:D6 wr (O wr.1) vs U:=(HUA.belowB M yk).mono z35;have hX:=S (H1 gU cU vs U wr rk (hM.y qh) (HOV.y M hgU) I hY HUO (by rw[D hd,D x]) qi Ho H0);rw[<-D x]at hX;go_wp2_with fail;go_call D hX as e w6 ⟨Dz,qf,rfl,hgS1,hgS,HSE,HST,hb6⟩;rw[<-D x];have zl5:=qh.size;have hf:=S (qh.trans (hb6.mono qh.size));have hw:Hid (∀i,i<Z ms->ZO (qf i)/\Z (qf i)<=400000):=λi hi=>⟨iF (λo ho=>HUO.small o ((HST i hi).1 o ho)),yy (FE _ _ (HSE.nd hi) (HST i hi).1) (HUO.all I)⟩
         go_wp2;go_loopw [18] (λiv wr=>∃k:Nat,k<=n/\iv=G k/\Hid (∀j,j<k->¬ B6 qf j)/\Below (O w6.1) w6 wr) (λiv _=>n-(intOf iv).toNat);case atStart=>exact⟨0,yn,F,S (λj h=>I),yN⟩
         case round=>
          obtain⟨k,hk,rfl,HB,H⟩:=hrel;have Hb:Below (O w.1) w wr:=hf.trans (H.mono hf.size);by_cases qd:k<n
          .have d:(k:Int)<n:=I;have K:k<Z ms:=I;obtain⟨_,tv,t0,He,_⟩:=(D HST) k K;have ha:=He.at';have hl:=ha.y H;obtain⟨at1,ct1,hv,_⟩:=ha;rw[hv]at t0 hl;have t0':wr.cell? (J Dz k)=E (i6 at1 (Z (qf k)) ct1):=Jc H hgS t0;have Hz:=S (TR _ (qf k) wr (Jy (((hw) k K).2)) hl (hw k K).1);have R:=S Hb;go_wp2_with fail;go_call D Hz as e w7 ⟨⟨cc,rfl,hcc⟩,hb7⟩;have Hp:=S (H.trans (hb7.mono H.size));have Hk:=S (R.trans (hb7.mono R.size));by_cases hr:cc=0
           .subst hr;have y:=S (show ∀j,j<k+1->¬ B6 qf j from λj hj=>by
             by_cases e:j=k
             .subst e
              rintro⟨c',h1,h2⟩
              exact h2 (Z3 h1 hcc)
             .exact HB j I)
            go_wp2;exact⟨⟨k+1,I,Jn,y,Hp⟩,Ji⟩
           .have Ht:(cc != 0)=Vp:=Ju hr
            have HR:=S (hJ [] 6 (k:Int) ⟨qf,HSE,yW ⟨k,K,⟨cc,hcc,hr⟩,HB,F,F,F⟩⟩);go_wp2;go_ret3;exact⟨_,[],6,_,F,HR,S (I3 _ _ _),(λo ho=>by cases ho),Hk⟩
          .have HR:=S (hJ ((List.range (Z ms)).map qf) 0 0 ⟨qf,HSE,yX ⟨λi hi=>HB i I,F,F,F⟩⟩);have Hx:=S (show GS wr (O w.1) (Ql Dz n n) ((List.range (Z ms)).map qf) by
            refine⟨_,n,by rw[List.length_map,List.length_range,D x],yX ⟨I,ym hgS H.size,λi hi=>?_⟩⟩
            have Hh:i<Z ms:=Ju hi
            obtain⟨_,tv,t0,ha,Ha⟩:=(D HST) i Hh
            rw[Z0 Hh]
            exact⟨tv,Jc H hgS t0,ha.y H,λq e=>Jy (Ha q e)⟩)
           have H2:=S (show ∀o∈(List.range (Z ms)).map qf,Z o<=1048576/\ZO o from λo ho=>by
            obtain⟨i,hi,rfl⟩:=List.mem_map.1 ho
            have:=(D hw) i (List.mem_range.1 hi)
            exact⟨I,this.1⟩)
           have R:=S Hb;go_wp2;go_ret3;exact⟨_,_,0,0,F,HR,Hx,H2,R⟩
