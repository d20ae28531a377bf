import Derived.DeepKeys4
import Derived.Shelf.Strings.BuilderK
import Derived.Deep.RegionHeldLaw
import Derived.Test.YtdgcbenningkdaaGreatDoorV00
namespace Go.Proofs.YtdgcbenningkdaaGreatDoor
set_option linter.all false
set_option maxHeartbeats 0
set_option maxRecDepth 100000
open Proofs.Tryz RowKit
variable{a:ByteArray -> Option Value}{bo bs cap g n:Nat}{e:TypeId}{l:Int}{listed:Array Bool}{o:Ad}{s t:ByteArray}{ts:List zR}{us:List Int}{v:Value}{w w':World}{xs:List Ad}
open _root_.Array renaming size→O
open List renaming length→Z
open Option renaming some→E,none→JL
open Obj renaming cells→JM
open Bool renaming false→Vt,true→Vp
open Proofs.Tryz renaming prog→Vb
open Value renaming agg→b9,tuple→i5,bool→i7,ownBlock→i8
open Ending renaming returned→i9
def Ap{P}{g:Region.Mode}{e}{Q:Exit->Act->World->Prop}{b:World->Prop}(i){j f l a k w}(n:b w)(h:wpAnyH P g e Q b f l k w)(q:e[i]?=E j:=by rfl)(u:Region.noSelect e=Vp:=by kernel_rfl)(p:Region.free g e listed i=Vp:=by kernel_rfl)(t:(Region.ready g e listed).contains i=Vp:=by kernel_rfl)(m:∀c a w,Q (.panic c) (a.put j.dst v) w->Q (.panic c) a w:=by exact λ_ _ _ h=>h)(x:YieldsIf P e b j v a:=by exact yW ⟨by rfl,by intro d hW;(try dsimp only at hW);simp only[yc,ya,yb];go_simp;first|done|(with_reducible rfl)⟩)(s:listed.setIfInBounds i Vp=l:=by conv=>lhs;simp only[ye,yg,yh])(o:a.put j.dst v=k:=by conv=>lhs;simp only[yc,ya,yb,Act.put,ye,yg,yh]):wpAnyH P g e Q b (f+1) listed a w:=wpAnyH_take q u p t m x n (by rw[s,o];exact h)
def DE{P}{f:Region.Mode}{d}{Q:Exit->Act->World->Prop}{b:World->Prop}(i){g e k a j w}(m:b w)(h:wpAnyH P f d Q b e k j w)(p:d[i]?=E g:=by rfl)(t:Region.noSelect d=Vp:=by kernel_rfl)(o:Region.free f d listed i=Vp:=by kernel_rfl)(s:(Region.ready f d listed).contains i=Vp:=by kernel_rfl)(l:∀c a w,Q (.panic c) (a.put g.dst undef) w->Q (.panic c) a w:=by exact λ_ _ _ h=>h)(u:Region.wanted g (yielded d a.tmps)=Vt:=by rfl)(q:listed.setIfInBounds i Vp=k:=by conv=>lhs;simp only[ye,yg,yh])(n:a.put g.dst undef=j:=by conv=>lhs;simp only[yc,ya,yb,Act.put,ye,yg,yh]):wpAnyH P f d Q b (e+1) listed a w:=wpAnyH_take p t o s l (yX ⟨u,F⟩) m (by rw[q,n];exact h)
def cK(a t k):=∃j,j<Z a/\(r a j).s=t/\(r a j).k=k
def ZL(a:Jf)(t:JZ)(k:Int):Bool:=(List.range (Z a)).any λj=>(r a j).s.data==t.data&&(r a j).k==k
theorem DG(c t k):ZL c t k=Vp↔cK c t k:=by
 have e:∀a b:JZ,(a.data=b.data)↔a=b:=λa b=>⟨λh=>by cases a;cases b;simp_all,λh=>by rw[h]⟩
 grind [ZL,cK]
def ZT(b:Jf)(a:Bool)(t:zR)(d:Bool)(c:Nat):Int:=
 if d=Vt then
  if t.k=1\/t.k=2\/t.k=4 then 0 else if t.k=3/\ZL b t.t 1=Vp then 1 else -1
 else
  if t.k=3/\ZL b t.t 2=Vp then 2 else if t.k=3/\ZL b t.t 3=Vp then 3
  else if t.k=5/\0<c then 0 else if t.k=7/\c=0/\a=Vp then 0 else -1
def C8(b:Jf)(t:zR)(a:Bool):Bool:=
 if a=Vt then(if t.k=1\/t.k=2 then Vp else Vt) else(if t.k=3/\ZL b t.t 2=Vp then Vt else Vp)
def C3(t:zR)(a:Nat):Nat:=if t.k=4 then a+1 else if t.k=5 then a-1 else a
def BC(b:Jf)(a:JA):Nat->Bool
 |0=>Vt
 |i+1=>C8 b (Aa a i) (BC b a i)
def BM(a:JA):Nat->Nat
 |0=>0
 |i+1=>C3 (Aa a i) (BM a i)
def zh(b:Jf)(a:JA)(i:Nat):Int:=ZT b (decide (i+1=Z a)) (Aa a i) (BC b a i) (BM a i)
def CY(b:Jf)(a:JA)(k:Nat):JG:=(List.range k).map (zh b a)
def Uk(b a k):CY b a (k+1)=CY b a k++[zh b a k]:=by simp[CY,List.range_succ]
theorem IU(b a k):Z (CY b a k)=k:=by simp[CY]
def CM(b a k):=∀i,i<k->0<=zh b a i
def LC(d ok a b c):=
 (¬ ok/\b=[]/\c=0) \/
 (ok/\((∃i,i<Z a/\CM d a i/\zh d a i<0/\b=[]/\c=(i:Int)) \/
  (CM d a (Z a)/\(((0<Z a/\(Aa a (Z a-1)).k=7)/\b=CY d a (Z a)/\c = -1)\/(¬ (0<Z a/\(Aa a (Z a-1)).k=7)/\b=[]/\c=(Z a:Int))))))
theorem LC.one{ok d c f}(h:LC xs ok ts us c)(b:LC xs ok ts d f):us=d/\c=f:=by
 rcases h with⟨a,rfl,rfl⟩|⟨a,h⟩
 .rcases b with⟨_,rfl,rfl⟩|⟨a',_⟩;all_goals grind
 .rcases b with⟨a',_⟩|⟨_,b⟩
  .grind
  .rcases h with⟨i,hi,hf,hr,rfl,rfl⟩|⟨hf,h⟩
   .rcases b with⟨i',K,H,q,rfl,rfl⟩|⟨H,b⟩
    .refine⟨F,?_⟩;rcases Nat.lt_trichotomy i i' with e|e|e
     .have:=H i e;omega
     .rw[e]
     .have:=hf i' e;omega
    .have:=H i hi;omega
   .rcases b with⟨i',K,H,q,rfl,rfl⟩|⟨H,b⟩
    .have:=hf i' K;omega
    .grind
theorem LC.len{ok c}(h:LC xs ok ts us c):Z us<=Z ts:=by rcases h with⟨a,rfl,rfl⟩|⟨a,⟨i,e,d,f,rfl,rfl⟩|⟨d,⟨b,rfl,rfl⟩|⟨b,rfl,rfl⟩⟩⟩;all_goals grind [IU]
def LO(b:Jf)(t:zR)(a:Bool):Bool:=decide (t.k=1\/t.k=2\/t.k=5)||(decide (t.k=3)&&a&&ZL b t.t 3)
def Ck(b:Jf)(a:JA):Nat->Bool
 |0=>Vt
 |i+1=>LO b (Aa a i) (Ck b a i)
def Dh(a:JA):Nat->Int
 |0=>0
 |i+1=>Dh a i+(if(Aa a i).k=4 then 1 else 0)-(if(Aa a i).k=5 then 1 else 0)
def Gp(b:Jf)(a:JA)(i:Nat)(c:Bool):Int:=
 if c=Vt then
  if(Aa a i).k=1\/(Aa a i).k=2\/(Aa a i).k=4 then 0 else if(Aa a i).k=3/\ZL b (Aa a i).t 1=Vp then 1 else -1
 else
  if(Aa a i).k=3/\ZL b (Aa a i).t 2=Vp then 2 else if(Aa a i).k=3/\ZL b (Aa a i).t 3=Vp then 3
  else if(Aa a i).k=5/\0<Dh a i then 0 else if(Aa a i).k=7/\Dh a i=0/\i+1=Z a then 0 else -1
def LD(a):=∀t,¬ (ZL a t 2=Vp/\ZL a t 3=Vp)
theorem Xi(h:¬ Pr 3 xs):LD xs:=by
 rintro t ⟨a,b⟩;obtain⟨i,c,f,g⟩:=(DG _ _ _).1 a;obtain⟨j,d,k,l⟩:=(DG _ _ _).1 b;have H:i≠j:=λe=>by grind
 apply h;rcases Nat.lt_trichotomy i j with e|e|e
 .exact⟨j,i,e,d,by grind [cl]⟩
 .grind
 .exact⟨i,j,e,c,by grind [cl]⟩
theorem VT{c a}(n:LD c):∀i,i<Z a->CM c a i->Ck c a i=BC c a i/\Dh a i=(BM a i:Int)
 |0,_,_=>⟨F,F⟩
 |i+1,hi,hf=>by
  obtain⟨p,q⟩:=VT n i I (λj u=>hf j I);have b:=hf i I;unfold zh ZT at b;have s:decide (i+1=Z a)=Vt:=Jq;rw[s]at b;have H:=n (Aa a i).t;simp only[Ck,BC,Dh,BM,p,q,LO,C8,C3];cases o:BC c a i
  .rw[o]at b;simp only[if_true]at b;by_cases m:(Aa a i).k=1\/(Aa a i).k=2
   .have k5:¬ (Aa a i).k=5:=I;have k:¬ (Aa a i).k=4:=I;have g:(Aa a i).k=1\/(Aa a i).k=2\/(Aa a i).k=5:=I;simp[m,k,k5,g]
   .have k5:¬ (Aa a i).k=5:=by intro e;rw[yS I,yS I]at b;omega
    have g:¬ ((Aa a i).k=1\/(Aa a i).k=2\/(Aa a i).k=5):=I;by_cases k:(Aa a i).k=4
    .simp[m,k,k5,g]
    .simp[m,k,k5,g]
  .rw[o]at b;simp only[Bool.true_eq_false,if_false]at b;by_cases d:(Aa a i).k=3/\ZL c (Aa a i).t 2=Vp
   .have f:ZL c (Aa a i).t 3=Vt:=by
     cases h:ZL c (Aa a i).t 3
     .rfl
     .exact yV ⟨d.2,h⟩ H
    have t:=d.1;simp[d,f,t]
   .rw[yS d]at b;by_cases f:(Aa a i).k=3/\ZL c (Aa a i).t 3=Vp
    .have c2':ZL c (Aa a i).t 2=Vt:=by
      cases h:ZL c (Aa a i).t 2
      .rfl
      .exact yV ⟨f.1,h⟩ d
     simp[f,c2']
    .rw[yS f]at b;by_cases l:(Aa a i).k=5/\0<BM a i
     .have k5:=l.1;have v:=l.2;simp[k5];omega
     .rw[yS l]at b;simp at b
theorem wG(a:LD xs)(i)(c:i<Z ts)(b:CM xs ts i):Gp xs ts i (Ck xs ts i)=zh xs ts i:=by grind [VT,Gp,zh,ZT]
def Ag(l:Jw):JD:=l.map λb=>.int .u8 (b.toNat:Int)
theorem Z6(l):Z (Ag l)=Z l:=by simp[Ag]
theorem IV(l a):Ag (l++a)=Ag l++Ag a:=by simp[Ag]
def Nk(l):∀u∈Ag l,u.oneCell'=Vp:=by intro u a;simp only[Ag,List.mem_map]at a;obtain⟨b,_,rfl⟩:=a;rfl
theorem Pd(a s):∃(c:Nat)(b:JY),(convert 9 22 (W s)).run Vb a=.ok (Ql (O a.1) s.size c) b /\
  (∀j u,(Ag s.data.toList)[j]?=E u->b.cell? ((J (O a.1) 0).add j)=E u)/\Qb a b:=by
 refine⟨_,_,run_bytes_of_string (P:=Vb) a 9 22 5 s underlying9 underlying22 underlying5,?_,?_⟩
 .intro j u hj;rw[jO,jd];have h:j<s.size:=by have:=(jf.1 hj).1;rw[Z6]at this;simpa using this
  rw[cell_of_row _ (O a.1) j (bytesRow s (grownCap a s.size 0 5)) 5 _ (jL a.drew _)];have:j<s.data.size:=h;simp only[bytesRow];grind [Ag]
 .exact(yN).drew.alloc yk _
def Rk(a g n c l)(i:n=Z l)(h:∀j u,(Ag l)[j]?=E u->a.cell? ((J g 0).add j)=E u):(convert 22 9 (Ql g n c)).run Vb a=.ok (W ⟨l.toArray⟩) a:=by
 rw[run_convert_bytes_string _ 22 9 5 _ _ _ underlying22 underlying5 underlying9];have f:(loadCells (J g 0) n).run Vb a=.ok ((l.map λb=>(b.toNat:Int)).map (Value.int .u8)).toArray a:=by have:=run_loadCells_list (P:=Vb) a (J g 0) (Ag l) h;rw[Z6,<-i]at this;rw[this];simp[Ag]
 rw[run_bytesToString _ (J g 0) n c _ f];congr 2;have e:∀(l:Jw)(H:JZ),List.foldl (λ(d:JZ)(n:Int)=>d.push (UInt8.ofNat n.toNat)) H (l.map λb=>(b.toNat:Int))=⟨(H.data.toList++l).toArray⟩:=by
  intro l;induction l with
  |nil=>intro H;simp
  |cons b d ih=>intro H;rw[jC,List.foldl_cons,ih];congr 1;simp[ByteArray.push]
 rw[e];simp
def infoByte:(prog.info? 5).map (λi=>(i.zero,i.size,i.bytes))=E (E (.int .u8 0),1,1):=Jk
def Ce(a:JA):Nat->Jw
 |0=>[]
 |k+1=>Ce a k++(Aa a k).g.data.toList++(Aa a k).t.data.toList
theorem Lr(a):∀k,Z (Ce a k)=Zm a k
 |0=>rfl
 |k+1=>by have:=Lr a k;simp only[Ce,Zm,OC,yr,this];simp;omega
theorem NI(a):∀k n,k<=n->Zm a k<=Zm a n
 |k,0,h=>by have:k=0:=I;subst this;exact yk
 |k,n+1,h=>by
  by_cases e:k=n+1
  .subst e;exact yk
  .have:=NI a k n I;simp only[Zm];omega
theorem ER{a b c}(h:w.ownsRow a e b v n c)(d:v ≠ Jl):∃g cap,v = Ql g n cap:=by obtain⟨_,h|⟨g,cap,K,H,_⟩⟩:=h;all_goals grind
def UE{a l}(h:w.ownsRow a e 1 (Ql g n cap) n (Ag l)):∀j u,(Ag l)[j]?=E u->w.cell? ((J g 0).add j)=E u:=
 h.cells F
def Zv(h:Qb w w')(a):w.grownBy w' a:=⟨h.os,h.tape,h.output,h.size,λi b _=>h.block i b⟩
def ZK(a:JA):JD:=a.flatMap λo=>[G o.k,W o.g,W o.t]
def QV(a b):ZK (a++b)=ZK a++ZK b:=by simp[ZK]
theorem UF:∀b:JA,Z (ZK b)=Z b*3
 |[]=>rfl
 |o::a=>by have:=UF a;simp only[ZK,List.flatMap_cons,yr,yB,je]at *;omega
theorem Vg:∀(b:JA)(i:Nat),i<Z b->(ZK b)[i*3]?=E (G (Aa b i).k)/\(ZK b)[i*3+1]?=E (W (Aa b i).g)/\(ZK b)[i*3+2]?=E (W (Aa b i).t)
 |[],i,h=>yV h (yz i)
 |o::a,0,_=>⟨F,F,F⟩
 |o::a,i+1,h=>by
  have c:=Vg a i (Ju h);have e:∀j,(ZK (o::a))[(i+1)*3+j]?=(ZK a)[i*3+j]?:=λj=>by have:(i+1)*3+j=(i*3+j)+3:=I;rw[this];rfl
  exact⟨(e 0).trans c.1,(e 1).trans c.2.1,(e 2).trans c.2.2⟩
def Rf(c):∀u∈ZK c,u.oneCell'=Vp:=by intro u b;simp only[ZK,List.mem_flatMap]at b;obtain⟨o,_,a⟩:=b;simp at a;rcases a with rfl|rfl|rfl<;>rfl
theorem OZ{a zs}(h:w.ownsRow a e 3 (Ql g (Z zs) cap) (Z zs) (ZK zs)):a<=g/\CX w g zs (Z zs):=by
 have H:=h.lt g F;refine⟨H.1,H.2,λj c=>⟨?_,h.frozenAt _⟩,λi b=>?_⟩
 .rw[h.cellAt (0+j) I];grind [ZK,UF]
 .obtain⟨c0,c1,c2⟩:=Vg zs i b;have e:=λj (c:j<3)=>h.cellAt (i*3+j) I
  exact⟨Ju ((e 0 I).trans c0),by grind,by grind⟩
theorem RQ(w:JY)(o):∀j u,(ZK [o])[j]?=E u->(w.alloc (JM #[G o.k,W o.g,W o.t] 142)).cell? ((J (O w.1) 0).add j)=E u:=by intro j u a;rw[jO];have:=yF (w:=w.alloc (JM #[G o.k,W o.g,W o.t] 142)) (b:=O w.1) (jL w _) 0 3;exact this j u (by grind [ZK])
def MU(b ok s a v):=
 ((ok/\s.size<=20000)/\v=Vp/\Zr b s 0 a)\/(¬ (ok/\s.size<=20000)/\v=Vt/\a=[])
theorem MU.one{g ok s e c v f}(h:MU g ok s e v)(d:MU g ok s c f):e=c/\v=f:=by
 rcases h with⟨a,rfl,b⟩|⟨a,rfl,rfl⟩
 .rcases d with⟨_,rfl,b'⟩|⟨a',_⟩;all_goals grind [Zr.one]
 .rcases d with⟨a',_⟩|⟨_,rfl,rfl⟩;all_goals grind
def MU.len{d ok s c v}(h:MU d ok s c v):Z c<=20001:=by
 rcases h with⟨a,rfl,b⟩|⟨a,rfl,rfl⟩
 .have:=Zr.len _ _ b;omega
 .simp
def Gy(b s i h):=Z h<=i/\∀a,Zr b s i a->Zr b s 0 (h++a)
def Gy.start(a s):Gy a s 0 []:=⟨yk,λ_ h=>h⟩
def Gy.step{i j k H}(h:Gy xs s i H)(b:i<=j)(c:j<s.size)(d:Ir s i j)(e:Ai (bt s j)≠1)(a:Dm xs s j n k):Gy xs s (j+n) (H++[⟨(k:Int),s.extract i j,s.extract j (j+n)⟩]):=by
 refine⟨?_,λK f=>?_⟩
 .have:=h.1;have:=a.1;simp;omega
 .rw[yD];exact h.2 _ (Zr.tok b c d e a f)
def Gy.done{i H}(h:Gy xs s i H)(a:i<=s.size)(b:Ir s i s.size):Zr xs s 0 (H++[⟨7,s.extract i s.size,⟨#[]⟩⟩]):=
 h.2 _ (Zr.fin a b)
def CX.arg{a}(h:CX w g a (Z a)):LY w (E (J g 0)) a:=yX ⟨g,0,F,h.ops,h.1⟩
open Go.Maps
def Xj:laidOutB Vb=Vp:=Jk
def zb6:(221:TypeId)<prog.types.size:=jN Jk
def zbi:(match prog.underlying 221 with|some (.array _ _)|some (.struct _)=>Vp|_=>Vt)=Vp:=Jk
def GY:Keyed Vb 221:=Keyed.of_law (deep_law_laid Xj (m:=3) I zb6 Jk zbi)
def OF:Keyed Vb 3:=int_keyed underlying3
def aE:prog.keyType 221=Vp:=Jk
theorem RR:prog.types.size+1=(prog.types.size-1)+1+1:=by have h:decide (1<=prog.types.size)=Vp:=Jk;grind
def ML:prog.cellsOf 221=2:=Jk
def Oi:prog.cellsOf 9=1:=Jk
def Oj:prog.cellsOf 3=1:=Jk
def AF(s:JZ)(k:Int):Lit:=.string (keyBytes [.string s.data.toList,.int .i64 k])
def bW(a:s.size<=maxLen)(d):prog.keyLits (d+1) 9 [.string s]=E [.string s.data.toList]:=by unfold Program.keyLits;rw[underlying9];exact yU a
theorem Qs{k}(a:(Lit.int .i64 k).wf=Vp)(d):prog.keyLits (d+1) 3 [.int .i64 k]=E [.int .i64 k]:=by unfold Program.keyLits;rw[underlying3];grind
def zbj{k}(b:s.size<=maxLen)(a:(Lit.int .i64 k).wf=Vp)(d):prog.keyLits (d+1+1) 221 [.string s,.int .i64 k]=E [.string s.data.toList,.int .i64 k]:=by
 conv=>lhs;unfold Program.keyLits
 rw[underlying221];simp[ML,Oi,Oj,bW b d,Qs a d]
def IG{k}(d:s.size<=maxLen)(c:(Lit.int .i64 k).wf=Vp):keyOf Vb 221 (b9 #[.string s,.int .i64 k])=E (AF s k):=by
 unfold keyOf;rw[underlying221];have b:(Value.agg #[.string s,.int .i64 k]).formed Vb 221=Vp:=by simp[Value.formed,underlying221,ML]
 have a:=zbj d c (prog.types.size-1);rw[<-RR]at a;simp only[aE,b,Bool.and_self,if_true];show(prog.keyLits (prog.types.size+1) 221 [.string s,.int .i64 k]).map _=_;rw[a];rfl
theorem SP{k c}(e:s.size<=maxLen)(f:t.size<=maxLen)(d:(Lit.int .i64 k).wf=Vp)(H:(Lit.int .i64 c).wf=Vp)(h:AF s k=AF t c):s=t/\k=c:=by have a:=IG e d;have b:=IG f H;rw[<-h]at b;have:=GY.inj a b;grind
def QB(h:(Lit.int .i64 l).wf=Vp):keyOf Vb 3 (.int .i64 l)=E (.int .i64 l):=keyOf_int_mk underlying3 h
def Ch(s:JZ)(k l a:Int):DataW Unit:=.agg [.lit (.string s.data.toList),.lit (.int .i64 k),.lit (.int .i64 l),.lit (.int .i64 a)]
def CL(v:Value):Option (DataW Unit×List MemPlace):=
 match v with
 |.agg cs=>match cs.toList with
  |[.string s,.int .i64 k,.int .i64 l,.int .i64 sd]=>E (Ch s k l sd,[])
  |_=>JL
 |_=>JL
theorem NB(s k l a):CL (b9 #[W s,G k,G l,G a])=E (Ch s k l a,[]):=rfl
theorem Pe{z}(h:CL v=E z):∃s k l g,v=b9 #[.string s,.int .i64 k,.int .i64 l,.int .i64 g]:=by
 unfold CL at h;split at h
 .rename_i f;split at h
  .rename_i a b c d e;obtain⟨f⟩:=f;grind
  .cases h
 .cases h
theorem oE{d k e f g c}(h:Ch s k l g=Ch d e f c):s=d/\k=e/\l=f/\g=c:=by unfold Ch at h;simp only[DataW.agg.injEq,List.cons.injEq,DataW.lit.injEq,Lit.string.injEq,Lit.int.injEq,true_and,and_true]at h;obtain⟨n,i,j,m⟩:=h;refine⟨?_,i,j,m⟩;obtain⟨⟨a⟩⟩:=s;obtain⟨⟨b⟩⟩:=d;grind
theorem mE{k a b}(h:CL v=E (Ch s k l a,b)):v=b9 #[W s,G k,G l,G a]:=by grind [Pe,NB,oE]
def aF(w):(zeroValue 25).run Vb w=.ok (b9 #[W ⟨#[]⟩,G 0,G 0,G 0]) w:=Jk
def Yr(w):(zeroValue 3).run Vb w=.ok (G 0) w:=Jk
def GM(v:Value):Option (DataW Value×List MemPlace):=E (.held v,[])
def Dg(t:JZ):Lit:=.string t.data.toList
def wH(h:Dg s=Dg t):s=t:=by
 unfold Dg at h;injection h with h;cases s;cases t
 simp at h;rw[h]
def OG(h:t.size<=maxLen):keyOf Vb 9 (.string t)=E (Dg t):=WideMaps.keyOf_string_mk underlying9 h
def AI(w:JY)(b n)(c:ByteArray->Option Value):=
 ∃a:DataW Value,w.ownsMap Vb 9 GM b n a/\∀t,t.size<=maxLen->Maps.has a (Dg t)=(c t).isSome/\(∀v,c t=E v->∀z,a.atKey (Dg t) z=.held v)/\(c t=JL->∀z,a.atKey (Dg t) z=z)
def AI.lt{w b n}{c:ByteArray->Option Value}(h:AI w b n c):b<O w.1:=by obtain⟨a,d,_⟩:=h;exact d.lt
def AI.kept{w w' b n}{c:ByteArray->Option Value}{row}(h:AI w b n c)(e:w.grownBy w' row)(H:E b≠row):AI w' b n c:=by obtain⟨a,d,h⟩:=h;exact⟨a,d.kept e H,h⟩
def AI.made(w:JY):AI (w.alloc (.map #[] 0)) (O w.1) 0 (λ_=>JL):=
 ⟨.map [],World.ownsMap_made w Vb 9 GM,λt _=>⟨F,λv h=>(by cases h),λ_ z=>F⟩⟩
theorem AI.look{b ty}(h:AI w b n a)(g:prog.underlying ty=E (.map 9 e)){z}(i:(zeroValue e).run Vb w=.ok z w)(d:t.size<=maxLen):(Instr.lookup ty (.map (E b)) (W t) Vp).run Vb w=.ok (i5 #[(a t).getD z,i7 (a t).isSome]) w:=by
 obtain⟨c,f,h⟩:=h;obtain⟨v,l,H,k⟩:=f.look_ok (string_keyed underlying9) g i (zd:=.held z) (zp:=[]) F (OG d);rw[(h t d).1]at H;have e:v=(a t).getD z:=by
  cases j:a t with
  |none=>grind [GM]
  |some u=>grind [GM]
 grind
theorem AI.put{b:DataW Value}(g:IsMap b)(h:∀t,t.size<=maxLen->Maps.has b (Dg t)=(a t).isSome/\(∀v,a t=E v->∀z,b.atKey (Dg t) z=.held v)/\(a t=JL->∀z,b.atKey (Dg t) z=z)){t}(i:t.size<=maxLen)(v):∀c,c.size<=maxLen->Maps.has (b.put (Dg t) (.held v)) (Dg c)=(if c.data=t.data then E v else a c).isSome/\(∀u,(if c.data=t.data then E v else a c)=E u->∀z,(b.put (Dg t) (.held v)).atKey (Dg c) z=.held u)/\((if c.data=t.data then E v else a c)=JL->∀z,(b.put (Dg t) (.held v)).atKey (Dg c) z=z):=by
 intro c K;by_cases e:c.data=t.data
 .have e':c=t:=by cases t;cases c;simp at e;rw[e]
  subst e';have f:=(string_keyed underlying9).key (OG K);rw[yU rfl,has_put_same g f];refine⟨F,λu d z=>?_,λd=>by cases d⟩;injection d with d;rw[atKey_put_same g f,d]
 .have H:Dg c≠Dg t:=λx=>e (by rw[wH x])
  rw[yS e,has_put_other H];refine⟨(h c K).1,λu d z=>?_,λd z=>?_⟩
  .rw[atKey_put_other H];grind
  .rw[atKey_put_other H];grind
def AI.update{w b n}{c:ByteArray->Option Value}{ty e}(h:AI w b n c)(p:prog.underlying ty=E (.map 9 e))(o:n<maxLen){t}(j:t.size<=maxLen)(v):∃w',(Instr.mapUpdate ty (.map (E b)) (W t) v).run Vb w=.ok () w'/\AI w' b (n+1) (λk=>if k.data=t.data then E v else c k)/\zE w w' b:=by obtain⟨a,g,h⟩:=h;obtain⟨w',H,l,f⟩:=g.update (string_keyed underlying9) p o (OG j) (val:=v) (d:=.held v) (ps:=[]) F;exact⟨w',H,⟨_,l,AI.put g.isMap h j v⟩,⟨f.os,f.tape,f.output,f.size,λi m K=>f.block i m (λx=>K (by injection x))⟩⟩
open Go.Shelf
def aG:Go.Shelf.Ren:=⟨fun|169=>182|n=>n,fun|70=>237|9=>9|0=>0|72=>239|37=>22|127=>284|3=>3|5=>5|n=>n,fun|n=>n⟩
def wI:Go.Proofs.Lays.n169 Vb aG:={
 mixed:=Jk
 f169:=Tryz.func182.trans (yY E Jk)
 t0:=underlying0
 a0:=Tryz.isAgg0
 z0:=Tryz.sizeOf0
 v0:=Tryz.zeroValue0
 t3:=underlying3
 a3:=Tryz.isAgg3
 z3:=Tryz.sizeOf3
 v3:=Tryz.zeroValue3
 t9:=underlying9
 a9:=Tryz.isAgg9
 z9:=Tryz.sizeOf9
 v9:=Tryz.zeroValue9
 t37:=underlying22
 a37:=Tryz.isAgg22
 z37:=Tryz.sizeOf22
 v37:=Tryz.zeroValue22
 t70:=underlying237
 a70:=Tryz.isAgg237
 z70:=Tryz.sizeOf237
 v70:=Tryz.zeroValue237
 t72:=underlying239
 a72:=Tryz.isAgg239
 z72:=Tryz.sizeOf239
 v72:=Tryz.zeroValue239
 t127:=underlying284
 a127:=Tryz.isAgg284
 z127:=Tryz.sizeOf284
 v127:=Tryz.zeroValue284 }
def PE:Builder.Extra Vb aG:={
 sizeBuilder:=Jk
 liesBuilder:=Jk
 t5:=underlying5
 a5:=Tryz.isAgg5
 z5:=Tryz.sizeOf5
 v5:=Tryz.zeroValue5
 infoByte:=Jk
 cellsByte:=Jk
 sizeByte:=Jk
 neB5:=by decide }
def F2(B b l w):=Lib.IsBuilderF 239 5 B b (Ag l) w
def eK(B b l w)(h:F2 B b l w)(H:B<=O w.1):Calls Vb 182 #[Qp b] w λe w'=>e=i9 (W ⟨l.toArray⟩)/\F2 B b l w'/\Below B w w'/\Lib.OthersKept 5 (E b) w w':=
 Any.Builder_String_any_k wI PE B b l w h H
theorem eL(b w)(c:w.cell? (J b 0)=E (Qp b)):Calls Vb 218 #[Qp b] w λe w'=>e=i9 (i5 #[])/\w'=w:=by obtain⟨j,a,_⟩:=jx.1 PE.sizeBuilder;go_enter func218,ntmps218;go_wp2;rw[Lib.run_neq_ptr_same w _ underlying237 a];go_wp2;go_end0;grind
theorem dT(b w)(c:w.cell? (J b 0)=E (.pointer JL))(h:w.shape? b=E (239,2))(K:w.frozen? (J b 0)=Vt):Calls Vb 218 #[Qp b] w λe w'=>e=i9 (i5 #[])/\w'=w.setCell (J b 0) (Qp b):=by obtain⟨j,a,H⟩:=jx.1 PE.sizeBuilder;go_enter func218,ntmps218;go_wp2;rw[Lib.run_to_unsafe w (J b 0) underlying237 underlying309 a (by grind) h (Nat.zero_lt_succ 1)];simp only[Result.andThen];rw[Oper.upon_value];go_wp2;rw[run_callFunc_extern func239 Jk Jk Jk (e:=Extern.AbiNoEscape.same) Jk];rw[Lib.run_noEscape];simp only[Result.andThen];rw[Oper.upon_value];go_wp2;rw[Lib.run_from_unsafe w (J b 0) underlying309 underlying237 a h PE.liesBuilder];simp only[Result.andThen];rw[Oper.upon_value];go_wp2;go_end0;grind
def fR(B b a w)(h:Lib.IsBuilderF 239 5 B b a w):Calls Vb 218 #[Qp b] w λe w'=>e=i9 (i5 #[])/\(Lib.BuilderAtF 239 5 B b (Qp b) a w'/\Below B w w'/\Lib.OthersKept 5 (E b) w w'):=by
 rcases h with h|h
 .go_call dT b w h.cell0 h.shape h.frozen0 as e w' ⟨rfl,rfl⟩;exact⟨F,h.used _,(@yN B w).setCell (p:=J b 0) h.1 _,(Lib.OthersKept.refl _ _ w).setCell (J b 0) F _⟩
 .go_call eL b w h.cell0 as e w' ⟨rfl,rfl⟩;exact⟨F,h,@yN B _,Lib.OthersKept.refl _ _ _⟩
def mF(s):Lib.strCells s=Ag s.data.toList:=by rfl
theorem Ul(B b l s w)(h:F2 B b l w)(V:Z l+s.size<=140737488355328)(u:B<=O w.1):Calls Vb 181 #[Qp b,W s] w λe w'=>(∃v,e=i9 v)/\F2 B b (l++s.data.toList) w'/\Below B w w'/\Lib.OthersKept 5 (E b) w w':=by
 obtain⟨N,C,P,y,X⟩:=info_parts infoByte;go_enter func181,ntmps181;go_wp2_with fail;go_call fR B b (Ag l) _ h as e m ⟨rfl,A,d,i⟩;obtain⟨o,v,x,K,j⟩:=A;have c:Z (Ag l)+s.size<=140737488355328:=by grind [Z6]
 have z:m.cell? (J b 0)=E (Qp b):=by rw[Lib.cell_of_heap x];rfl
 have c1:m.cell? (J b 1)=E v:=by rw[Lib.cell_of_heap x];rfl
 go_wp2_with (at_builtin;refine Lib.wpList_append_own_stringF _ F _ _ 22 9 F B 5 N underlying22 underlying9 C P y X _ _ _ F K s F ?c3 ?c4 ?c5 ?_);case c3=>exact Jm
 case c4=>omega
 case c5=>have:=d.size;omega
 intro R f q H _;have a:b<O m.1:=jl z;have Q:f.heap[b]?=E (JM #[Qp b,v] 239 (0,0)):=by rw[H.block b a (λe=>j e.symm)];exact x
 have d0:f.cell? (J b 0)=E (Qp b):=by rw[Lib.cell_of_heap Q];rfl
 have d1:f.cell? (J b 1)=E v:=by rw[Lib.cell_of_heap Q];rfl
 have f1:f.frozen? (J b 1)=Vt:=Lib.frozen_of_heap Q 1;obtain⟨n,t,cap,rfl⟩:∃n t cap,R=.slice n t cap:=by rcases q.2 with⟨M,_⟩|⟨g,cap,U,fz,M,_⟩;all_goals grind
 go_wp2;go_ret2;refine⟨⟨_,F⟩,?_,?_,(i.grown H (Lib.ownsRowF_kind K)).setCell (J b 1) F _⟩
 .exact yX (Lib.BuilderAtF.put (T:=239) (e:=5) o Q (bs':=Ag (l++s.data.toList)) (by rw[IV,<-mF];simpa[Lib.strCells_length] using q) Jd)
 .exact(d.grown H (by grind) (λk L=>(K.lt k L).1)).setCell (p:=J b 1) o _
def oS(w:JY):F2 (O w.1) (O w.1) [] (w.alloc (JM #[.pointer JL,Jl] 239)):=
 Lib.IsBuilderF.of (yW ⟨yk,Jl,jL w _,jt,Jb⟩)
def F2.alloc{B b l w}(h:F2 B b l w)(o):F2 B b l (w.alloc o):=Lib.IsBuilderF.alloc h o
def zag{B b l}(h:F2 B b l w):b<O w.1:=by
 rcases h with h|h
 .exact h.lt
 .exact h.lt
def dU(b x m d w)(M:Z d+Zm d (Z d)<=1048576)(B:Ci w b x d)(z:b<O w.1):Calls Vb 202 #[Je b x (Z d) m] w λe w'=>e=i9 (W ⟨(Ce d (Z d)).toArray⟩)/\Qb w w':=by
 have o:=S (oS w);go_enter func202,ntmps202;go_wp2;go_loopw [8] (λi wr=>∃k:Nat,k<=Z d/\i=G k/\Hid (F2 (O w.1) (O w.1) (Ce d k) wr)/\Qb w wr) (λi _=>Z d-(intOf i).toNat);case atStart=>exact⟨0,yn,F,o,zC⟩
 case round=>
  obtain⟨k,L,rfl,q,h⟩:=hrel;by_cases a:k<Z d
  .obtain⟨a0,a1,a2⟩:=((B) k a).y h z;have u:=Lr d k;have P:Zm d (k+1)<=Zm d (Z d):=NI d _ _ I;simp only[Zm,OC]at P;have y:Z (Ce d k)+(Aa d k).g.size<=1048576:=I;have j:Z (Ce d k++(Aa d k).g.data.toList)+(Aa d k).t.size<=1048576:=by rw[yr];have:(Aa d k).g.data.toList.length=(Aa d k).g.size:=Js;omega
   have p:=S (q.alloc (JM #[G (Aa d k).k,W (Aa d k).g,W (Aa d k).t] 142));have s:=S y;have t:=S j;have Q:=S (zag q);go_wp2_with fail;go_call Ul _ _ _ _ _ p (Jy (D s)) (by have:=h.size;simp;omega) as e l ⟨⟨v,rfl⟩,hb1,f,hk1⟩;have c:=S hb1;have V:O wr.1<O l.1:=Jz f.size
   have A:l.heap[O wr.1]?=E (JM #[G (Aa d k).k,W (Aa d k).g,W (Aa d k).t] 142 (0,0)):=hk1 _ _ (jL wr _) (by have:=h.size;simp;have:=(D Q);omega) Js;have N:l.cell? (J (O wr.1) 2)=E (W (Aa d k).t):=by rw[Lib.cell_of_heap A];rfl
   have H:=(h.alloc h.size _).trans f;go_wp2_with fail;go_call Ul _ _ _ _ _ c (Jy (D t)) H.size as e C ⟨⟨R,rfl⟩,n,g,_⟩;have X:Hid (F2 (O w.1) (O w.1) (Ce d (k+1)) C):=n;have K:=H.trans g;go_wp2;exact⟨⟨k+1,I,Jn,X,K⟩,Ji⟩
  .have HK:=S (I:k=Z d);go_wp2_with fail;go_call eK _ _ _ _ q h.size as e l ⟨rfl,_,f,_⟩;go_wp2;go_ret;exact⟨SF (by rw[D HK]),h.trans f⟩
def FU(a:JA)(i:Nat):Nat:=Zm a i+(Aa a i).g.size
def Sn{i j}(h:j<i):Aa (ts.take i) j=Aa ts j:=by simp[Aa,List.getD,List.getElem?_take,h]
theorem NJ(a i):∀k,k<=i->Zm (a.take i) k=Zm a k
 |0,_=>rfl
 |k+1,h=>by simp only[Zm];rw[NJ a i k I,Sn I]
def Um(g o c i f w)(L:Z f+Zm f (Z f)<=1048576)(z:i<Z f)(C:Z f<=c)(P:c<=maxLen)(n:Ci w g o f)(l:g<O w.1)(M:(Aa f i).g.size<=1048576):Calls Vb 161 #[Je g o (Z f) c,G i] w λe w'=>e=i9 (G (FU f i:Int))/\Qb w w':=by
 have H:Z (f.take i)=i:=Jq;have d:=NI f i (Z f) I;have X:Qb w w.drew:=(yN).drew;have k:=dU g o c (f.take i) w.drew (by rw[H,NJ f i i yk];omega) (λj u=>by
  rw[H]at u
  have h:=(n j I).y X l
  unfold LJ at h ⊢
  rw[Sn u]
  exact h) l
 rw[H]at k;have s:Z (Ce (f.take i) i)=Zm f i:=by rw[Lr,NJ f i i yk]
 obtain⟨b,m⟩:∃b:JZ,b=⟨(Ce (f.take i) i).toArray⟩:=⟨_,F⟩;rw[<-m]at k;have q:b.size=Zm f i:=by rw[m,<-s];simp[ByteArray.size]
 obtain⟨N,A,R⟩:=n i z;have a:(i:Int)<Z f:=I;have B:=S q;have Q:=S (by unfold FU;rw[q];omega:(FU f i:Int)=b.size+((Aa f i).g.size:Int));have v:b.size<=1048576:=I;clear m s q d H n X;go_enter func161,ntmps161;go_wp2_with fail;have K:Hid (Qb w w.drew):=(yN).drew;go_region_held (λw'=>w'.cell? (J g (o+i*3+1))=E (W (Aa f i).g)) (first|(go_keep;done)|exact(K.cell (p:=(J g (o+i*3+1))) l).trans A)
  (first|(go_at_call 202;refine k.mono ?_;rintro x T ⟨rfl,t⟩;replace K:=S (K.trans t);clear k t))
 have y:IntKind.i64.wrap ((b.size:Int)+((Aa f i).g.size:Int))=(b.size:Int)+((Aa f i).g.size:Int):=by rw[IntKind.wrap_i64];omega
 rw[y,<-D Q];go_wp2;go_ret;exact⟨F,K⟩
def AB(a:JG)(i:Nat):Int:=a.getD i 0
def zz(l:JG):JD:=l.map λn=>G n
theorem Ru(l):Z (zz l)=Z l:=by simp[zz]
def Nd(l a):zz (l++a)=zz l++zz a:=by simp[zz]
def I0(l):∀u∈zz l,u.oneCell'=Vp:=by intro u a;simp only[zz,List.mem_map]at a;obtain⟨b,_,rfl⟩:=a;rfl
def VU(l i)(h:i<Z l):(zz l)[i]?=E (G (AB l i)):=by simp[zz,AB,h]
def EW(w:JY)(g)(a:JG)(k:Nat):=
 g<O w.1/\w.there g 0 (Z a)/\∀i,i<k->w.cell? (J g i)=E (G (AB a i))
def EW.grown{k m row}(h:EW w g m k)(d:w.grownBy w' row)(H:E g≠row):EW w' g m k:=by
 obtain⟨a,b,n⟩:=h;have c:=d.block g a H;have e:∀o,w'.cell? (J g o)=w.cell? (J g o):=λo=>yv (w:=w) c
 have f:∀o,w'.frozen? (J g o)=w.frozen? (J g o):=λo=>yG (w:=w) c
 exact⟨ym a d.size,λj l=>⟨by rw[e];exact(b j l).1,by rw[f];exact(b j l).2⟩,λi p=>(e _).trans (n i p)⟩
def EW.step{k a}(h:EW w g a k)(b:Qb w w'):EW w' g a k:=h.grown (Zv b JL) Js
theorem Rg{base zs}(h:w.ownsRow base e 1 (Ql g (Z zs) cap) (Z zs) (zz zs)):base<=g/\EW w g zs (Z zs):=by
 have H:=h.lt g F;refine⟨H.1,H.2,λj b=>⟨?_,h.frozenAt _⟩,λi a=>?_⟩
 .rw[h.cellAt (0+j) I];grind [zz,Ru]
 .exact(h.cellAt i I).trans (VU zs i a)
def Gj(w n a b):=(Z b=0/\a=JL)\/∃g,a=E (J g 0)/\n<=g/\EW w g b (Z b)
theorem Gj.grown{w c n a b row}(h:Gj w n a b)(f:w.grownBy c row)(j:∀k,row=E k->k<n):Gj c n a b:=by
 rcases h with h|⟨g,rfl,i,d⟩
 .exact yW h
 .exact yX ⟨g,F,i,d.grown f (λe=>by grind)⟩
def Gj.step{a}(h:Gj w n a us)(b:Qb w w'):Gj w' n a us:=
 h.grown (Zv b JL) (λk c=>by cases c)
theorem Gj.lt{a}(h:Gj w n a us):∀k,a.map (·.block)=E k->n<=k/\k<O w.1:=by
 rcases h with⟨_,rfl⟩|⟨g,rfl,d,c⟩
 .grind
 .intro k b;injection b with b;subst b;exact⟨d,c.1⟩
def cL(w:JY)(a)(b:JG):=Z b=0\/∃g,a=E (J g 0)/\g<O w.1/\∀i,i<Z b->w.cell? (J g i)=E (G (AB b i))
def EW.arg(h:EW w g us (Z us)):cL w (E (J g 0)) us:=yX ⟨g,F,h.1,h.2.2⟩
def Gj.arg{w n a b}(h:Gj w n a b):cL w a b:=by
 rcases h with⟨h,_⟩|⟨g,rfl,_,c⟩
 .exact yW h
 .exact c.arg
def dV(b A cap xs w)(hm:Z xs+Zm xs (Z xs)<=1048576)(hw:Ci w b A xs)(hB:b<O w.1):Calls Vb 135 #[Je b A (Z xs) cap] w λe w'=>e=i9 (W ⟨(Ce xs (Z xs)).toArray⟩)/\Qb w w':=by
 have HO:=S (show(w.alloc (JM #[] 5)).ownsRow (O w.1) 5 1 (Ql (O w.1) 0 0) 0 (Ag (Ce xs 0)) by
  show(w.alloc (JM #[] 5)).ownsRow (O w.1) 5 1 (Ql (O w.1) 0 0) 0 []
  simpa using yJ (base:=O w.1) (e:=5) (size:=1) w #[] 0 yk yn F)
 go_enter func135,ntmps135;go_wp2;go_loopw [3,4] (λL i wr=>∃(k go co n:Nat),k<=Z xs/\i=G k/\L = Ql go n co/\Hid (n=Z (Ce xs k))/\Hid (wr.ownsRow (O w.1) 5 1 (Ql go n co) n (Ag (Ce xs k)))/\Qb w wr) (λ_ i _=>Z xs-(intOf i).toNat);case atStart=>exact⟨0,O w.1,0,0,yn,F,F,S F,HO,zC⟩
 case round=>
  clear HO;obtain⟨k,go,co,n,hk,rfl,rfl,hn,V,h⟩:=hrel;by_cases N:k<Z xs
  .have C:=((hw) k N).y h hB;obtain⟨a0,a1,a2⟩:=C;have f:=hn.trans (Lr xs k);have t:Zm xs (k+1)<=Zm xs (Z xs):=NI xs _ _ I;simp only[Zm,OC]at t;obtain⟨c1,w1,B,u,hc⟩:=Pd wr (Aa xs k).g;have z:=S u;have M:=S hc;have b2:=Jc hc (ym hB h.size) a2;have X:=S (V.kept (Zv hc JL) (yX Jb));have y:=h.trans (hc.mono h.size);have g:=S f;have R:n+(Aa xs k).g.size+(Aa xs k).t.size<=1048576:=I;clear u hc V f t h a2;go_wp2_with (at_builtin;refine As infoByte underlying22 (.tmp 12) (.tmp 18) F rfl (O w.1) _ n (Ag (Ce xs k)) F X (J (O wr.1) 0) (Aa xs k).g.size c1 (Ag (Aa xs k).g.data.toList) F (by rw[Z6];simp) z (Nk _) Jm I (by exact y.size) ?_);intro v2 w2 H K P _;have ha:=X.lt go F;have T:Qb w w2:=y.grown K y.size (λq hq=>by simp[i8]at hq;omega);obtain⟨g2,q2,rfl⟩:=ER H (by simp[P]);rw[<-IV]at H;have d2:w2.cell? (J b (A+k*3+2))=E (W (Aa xs k).t):=K.cell b2 (by simp[i8];omega);obtain⟨c3,w3,o,v,c⟩:=Pd w2 (Aa xs k).t;have p:=S v;have hb:=S (H.kept (Zv c JL) (yX Jb));have x:=T.trans (c.mono T.size);clear H K P X z M v c b2 B a0 a1;go_wp2_with (at_builtin;refine As infoByte underlying22 (.tmp 20) (.tmp 26) F rfl (O w.1) _ (n+(Aa xs k).g.size) _ F hb (J (O w2.1) 0) (Aa xs k).t.size c3 (Ag (Aa xs k).t.data.toList) F (by rw[Z6];simp) p (Nk _) Jm I (by exact x.size) ?_);intro v4 w4 Q j U _;have hd:=hb.lt g2 F;have d:Qb w w4:=x.grown j x.size (λq hq=>by simp[i8]at hq;omega);obtain⟨g4,q4,rfl⟩:=ER Q (by simp[U]);rw[<-IV]at Q;have m:Hid (w4.ownsRow (O w.1) 5 1 (Ql g4 (n+(Aa xs k).g.size+(Aa xs k).t.size) q4) (n+(Aa xs k).g.size+(Aa xs k).t.size) (Ag (Ce xs (k+1)))):=Q;have l:=S (by rw[Lr];have:=D g;simp only[Zm,OC];omega:n+(Aa xs k).g.size+(Aa xs k).t.size=Z (Ce xs (k+1)));clear Q j U hb p g hn;go_wp2;exact⟨⟨k+1,g4,q4,_,I,Jn,F,l,m,d⟩,Ji⟩
  .have a:k=Z xs:=I;have s:=Rk wr go n co (Ce xs k) hn (UE V);have HK:=S a;clear a;go_wp2;go_ret;exact⟨SF (by rw[D HK]),h⟩
def LE(b d n)(a:DataW Unit)(t c w)(h:w.ownsMap Vb 221 CL b n a)(g:t.size<=maxLen)(f:(Lit.int .i64 c).wf=Vp):Calls Vb 196 #[b9 #[.map (E b),.map (E d)],.string t,.int .i64 c] w λe w'=>e=i9 (i7 (Maps.has a (AF t c)))/\Below (O w.1) w w':=by go_enter func196,ntmps196;go_wp2_with (first|(at_lookup;refine wpList_lookup_own_ok _ F _ _ 170 F 221 25 GY underlying170 CL (aF _) (Ch ⟨#[]⟩ 0 0 0) [] (NB _ _ _ _) b n a F (h.alloc _) _ _ F (IG g f) ?_;intro v m i;obtain⟨o,k,l,j,rfl⟩:=Pe i));go_ret;exact⟨F,(zC).alloc Js _⟩
structure AH(w:JY)(bo e:Nat)(b:Jf)(k:Nat):Prop where
 ops:∃a:DataW Unit,w.ownsMap Vb 221 CL bo k a/\∀(s:JZ)(d:Int),s.size<=maxLen->(Lit.int .i64 d).wf=Vp->(Maps.has a (AF s d)=Vp↔∃j,j<k/\(r b j).s=s/\(r b j).k=d)/\(Maps.has a (AF s d)=Vp->∃j,j<k/\(r b j).s=s/\(r b j).k=d/\a.atKey (AF s d) (Ch ⟨#[]⟩ 0 0 0)=Ch (r b j).s (r b j).k (r b j).l (r b j).sd)
 srts:∃a:DataW Unit,w.ownsMap Vb 3 (plainElem Vb 3) e k a/\∀l:Int,(Lit.int .i64 l).wf=Vp->(Maps.has a (.int .i64 l)=Vp↔∃j,j<k/\(r b j).l=l) /\
  ∀c:Int,a.atKey (.int .i64 l) (.lit (.int .i64 0))=.lit (.int .i64 c)->Maps.has a (.int .i64 l)=Vp->∃j,j<k/\(r b j).l=l/\AE (r b j).k (r b j).sd=c
 ne:bo≠e
def AH.kept{w w' d e k g}(h:AH w d e g k)(c:Qb w w'):AH w' d e g k:=by obtain⟨⟨a,j,l⟩,⟨b,m,n⟩,o⟩:=h;have f:w.grownBy w' none:=⟨c.os,c.tape,c.output,c.size,λi p _=>c.block i p⟩;exact⟨⟨a,j.kept f Js,l⟩,⟨b,m.kept f Js,n⟩,o⟩
def cM:(Lit.int .i64 1).wf=Vp:=Jd
def cN:(Lit.int .i64 2).wf=Vp:=Jd
def cO:(Lit.int .i64 3).wf=Vp:=Jd
def P3(h:o.ok=Vp):o.k=1\/o.k=2\/o.k=3:=by obtain⟨_,h⟩:=Ii _ _ _ _ h;omega
theorem fT(l m k f w)(y:AH w l m f k)(K:Bg f (k+1))(n:(r f k).s.size<=maxLen):Calls Vb 156 #[b9 #[.map (E l),.map (E m)],b9 #[.string (r f k).s,.int .i64 (r f k).k,.int .i64 (r f k).l,.int .i64 (r f k).sd]] w λe w'=>(∃v,e=i9 (i7 v)/\(v=Vp↔∃j,j<k/\cl 3 (r f k) (r f j)))/\Below (O w.1) w w':=by
 obtain⟨⟨d,h,t⟩,_,_⟩:=y;have R:=(t _ _ n cM).1;have L:=(t _ _ n cN).1;have M:=(t _ _ n cO).1;have X:=P3 (K k I);have o:(r f k).k=1->(Maps.has d (AF (r f k).s 1)=Vp↔∃j,j<k/\cl 3 (r f k) (r f j)):=by grind [cl]
 have p:(r f k).k≠1->((Maps.has d (AF (r f k).s 2)=Vp\/Maps.has d (AF (r f k).s 3)=Vp)↔∃j,j<k/\cl 3 (r f k) (r f j)):=by
  intro s;rw[L,M];simp only[cl,if_true,s,false_iff];constructor
  .grind
  .rintro⟨j,a,b,c⟩;have:=P3 (K j I);grind
 have C:=S o;have K2:=S p;by_cases s:(r f k).k=1
 .have q:((r f k).k==1)=Vp:=by grind
  have z:=S s;go_enter func156,ntmps156;go_wp2_with (first|(go_at_call 196;refine(LE l m k d _ _ _ ((h.alloc _).alloc _) n Jd).mono ?_;rintro e A ⟨rfl,g⟩));go_ret;exact⟨⟨_,F,C z⟩,((zC).alloc Js _).trans (g.mono Jq)⟩
 .have q:((r f k).k==1)=Vt:=by grind
  have z:=S s;cases N:Maps.has d (AF (r f k).s 2)
  all_goals
   have P:=S N
   go_enter func156,ntmps156
   go_wp2_with fail
   go_call LE l m k d _ _ _ ((h.alloc _).alloc _) n Jd as e A ⟨rfl,g⟩
  .obtain⟨x,Q⟩:=JT g;have H:=((h.alloc (JM #[.map (E l),.map (E m)] 173)).alloc (JM #[.string (r f k).s,.int .i64 (r f k).k,.int .i64 (r f k).l,.int .i64 (r f k).sd] 25)).kept (w':=A) (row:=JL) ⟨g.os,g.tape,g.output,g.size,λi y _=>g.block i y⟩ Js;have B:=S H;go_wp2_with fail;go_call LE l m k d _ _ _ B n Jd as e T ⟨rfl,u⟩;go_wp2;go_ret;refine⟨⟨_,F,?_⟩,(((zC).alloc Js _).trans (g.mono Jq)).trans (u.mono (Jz g.size))⟩;grind [Hid]
  .go_wp2;go_ret;refine⟨⟨_,F,?_⟩,((zC).alloc Js _).trans (g.mono Jq)⟩;grind [Hid]
theorem So(a:0<=l)(b:l<=1000):(Lit.int .i64 l).wf=Vp:=by exact WalkArith.wf_i64 I
theorem PF(h:o.ok=Vp):(Lit.int .i64 o.l).wf=Vp:=by obtain⟨⟨a,b⟩,_⟩:=Ii _ _ _ _ h;grind [So]
theorem MM(h:o.ok=Vp):(Lit.int .i64 o.k).wf=Vp:=by obtain⟨_,h⟩:=Ii _ _ _ _ h;grind [So]
theorem zah(h:o.ok=Vp):(Lit.int .i64 (AE o.k o.sd)).wf=Vp:=by obtain⟨_,h⟩:=Ii _ _ _ _ h;grind [AE,So]
theorem mG{k c}(f:IC 4 xs k){d}(l:d<k)(o:(r xs d).l=(r xs k).l)(m:AE (r xs d).k (r xs d).sd=c):(c≠AE (r xs k).k (r xs k).sd)↔∃j,j<k/\cl 4 (r xs k) (r xs j):=by
 have h:∀a b:Ad,cl 4 a b↔(a.l=b.l/\AE a.k a.sd≠AE b.k b.sd):=λa b=>by simp[cl]
 constructor
 .grind
 .rintro⟨j,hj,hh⟩;obtain⟨n,g⟩:=(h _ _).1 hh;rw[<-m];intro e;apply g;rw[<-e];by_cases i:j<d
  .have:=f d j i l;grind
  .by_cases e4:d<j
   .have:=f j d e4 hj;grind
   .grind
theorem fU(m g k f w)(u:AH w m g f k)(d:Bg f (k+1))(z:IC 4 f k):Calls Vb 157 #[b9 #[.map (E m),.map (E g)],b9 #[.string (r f k).s,.int .i64 (r f k).k,.int .i64 (r f k).l,.int .i64 (r f k).sd]] w λe w'=>(∃v,e=i9 (i7 v)/\(v=Vp↔∃j,j<k/\cl 4 (r f k) (r f j)))/\Below (O w.1) w w':=by
 obtain⟨_,⟨a,K,s⟩,_⟩:=u;have h:=d k I;obtain⟨A,o⟩:=s _ (PF h);have q:=QB (PF h);have y:Hid (Bv (r f k).s (r f k).k (r f k).l (r f k).sd=Vp):=h;cases t:Maps.has a (.int .i64 (r f k).l)
 .have V:=S (show ¬ ∃j,j<k/\cl 4 (r f k) (r f j) from λ⟨j,B,n⟩=>by grind [cl])
  have i:=S q;go_enter func157,ntmps157;go_wp2_with (first|(at_lookup;refine wpList_lookup_own_ok_int _ F _ _ 171 F 3 3 .i64 OF underlying171 underlying3 (Yr _) g k a F ((K.alloc _).alloc _) _ _ F i ?_;intro c H b;have X:=S H;clear H));go_ret;refine⟨⟨_,F,?_⟩,(zC).alloc Js _⟩;grind [Hid]
 .have P:=S (show ∀c:Int,a.atKey (.int .i64 (r f k).l) (.lit (.int .i64 0))=.lit (.int .i64 c)->((c≠AE (r f k).k (r f k).sd)↔∃j,j<k/\cl 4 (r f k) (r f j)) from λc n=>by
   obtain⟨C,x,p,Q⟩:=o c n t
   exact mG z x p Q)
  have i:=S q;go_enter func157,ntmps157;go_wp2_with (first|(at_lookup;refine wpList_lookup_own_ok_int _ F _ _ 171 F 3 3 .i64 OF underlying171 underlying3 (Yr _) g k a F ((K.alloc _).alloc _) _ _ F i ?_;intro c H b;have X:=S H;clear H)|(go_at_call 197;refine(UZ _ _ _ _ _ y).mono ?_;rintro e L ⟨rfl,l⟩));go_ret;refine⟨⟨_,F,?_⟩,((zC).alloc Js _).trans (l.mono Jq)⟩;grind [Hid]
structure BV(w a:JY)(bo b:Nat):Prop where
 os:a.os=w.os
 tape:a.tape=w.tape
 output:a.output=w.output
 size:O w.1<=O a.1
 block:∀i,i<O w.1->i≠bo->i≠b->a.heap[i]?=w.heap[i]?
def BV.trans{w g j d e}(h:BV w g d e)(c:BV g j d e):BV w j d e:=
 ⟨c.os.trans h.os,c.tape.trans h.tape,c.output.trans h.output,yy h.size c.size,λi f a b=>(c.block i (ym f h.size) a b).trans (h.block i f a b)⟩
def BV.Q(h:Qb w w'):BV w w' bo bs:=⟨h.os,h.tape,h.output,h.size,λi a _ _=>h.block i a⟩
def BV.of_grown1(h:w.grownBy w' (E bo)):BV w w' bo bs:=⟨h.os,h.tape,h.output,h.size,λi b a _=>h.block i b (λe=>a (jz e))⟩
def BV.of_grown2(h:w.grownBy w' (E bs)):BV w w' bo bs:=⟨h.os,h.tape,h.output,h.size,λi a _ b=>h.block i a (λe=>b (jz e))⟩
def BV.cell{w d a c}(h:BV w d a c){b}(g:b<O w.1)(e:b≠a)(f:b≠c)(o):d.cell? (J b o)=w.cell? (J b o):=
 yv (w:=w) (h.block b g e f)
def BV.y{B}(h:BV w w' bo bs)(c:B<=O w.1)(a:B<=bo)(b:B<=bs):Below B w w':=
 ⟨h.os,h.tape,h.output,h.size,λi d=>h.block i I I I⟩
theorem rV{k}{a:DataW Unit}(f:IsMap a)(d:(r xs k).s.size<=maxLen)(c:(Lit.int .i64 (r xs k).k).wf=Vp)(h:∀(s:JZ)(b:Int),s.size<=maxLen->(Lit.int .i64 b).wf=Vp->(Maps.has a (AF s b)=Vp↔∃j,j<k/\(r xs j).s=s/\(r xs j).k=b)/\(Maps.has a (AF s b)=Vp->∃j,j<k/\(r xs j).s=s/\(r xs j).k=b/\a.atKey (AF s b) (Ch ⟨#[]⟩ 0 0 0)=Ch (r xs j).s (r xs j).k (r xs j).l (r xs j).sd)):∀(s:JZ)(b:Int),s.size<=maxLen->(Lit.int .i64 b).wf=Vp->(Maps.has (a.put (AF (r xs k).s (r xs k).k) (Ch (r xs k).s (r xs k).k (r xs k).l (r xs k).sd)) (AF s b)=Vp↔∃j,j<k+1/\(r xs j).s=s/\(r xs j).k=b)/\(Maps.has (a.put (AF (r xs k).s (r xs k).k) (Ch (r xs k).s (r xs k).k (r xs k).l (r xs k).sd)) (AF s b)=Vp->∃j,j<k+1/\(r xs j).s=s/\(r xs j).k=b/\(a.put (AF (r xs k).s (r xs k).k) (Ch (r xs k).s (r xs k).k (r xs k).l (r xs k).sd)).atKey (AF s b) (Ch ⟨#[]⟩ 0 0 0)=Ch (r xs j).s (r xs j).k (r xs j).l (r xs j).sd):=by
 intro s b K H;by_cases e:AF s b=AF (r xs k).s (r xs k).k
 .obtain⟨e1,e2⟩:=SP K d H c e;rw[e,has_put_same f (GY.key (IG d c)),atKey_put_same f (GY.key (IG d c))];grind
 .rw[has_put_other e,atKey_put_other e];grind
theorem oT{k}{a:DataW Unit}(d:IsMap a)(b:(Lit.int .i64 (r xs k).l).wf=Vp)(h:∀l:Int,(Lit.int .i64 l).wf=Vp->(Maps.has a (.int .i64 l)=Vp↔∃j,j<k/\(r xs j).l=l) /\
   ∀c:Int,a.atKey (.int .i64 l) (.lit (.int .i64 0))=.lit (.int .i64 c)->Maps.has a (.int .i64 l)=Vp->∃j,j<k/\(r xs j).l=l/\AE (r xs j).k (r xs j).sd=c):∀l:Int,(Lit.int .i64 l).wf=Vp->(Maps.has (a.put (.int .i64 (r xs k).l) (.lit (.int .i64 (AE (r xs k).k (r xs k).sd)))) (.int .i64 l)=Vp↔∃j,j<k+1/\(r xs j).l=l) /\
   ∀c:Int,(a.put (.int .i64 (r xs k).l) (.lit (.int .i64 (AE (r xs k).k (r xs k).sd)))).atKey (.int .i64 l) (.lit (.int .i64 0))=.lit (.int .i64 c)->Maps.has (a.put (.int .i64 (r xs k).l) (.lit (.int .i64 (AE (r xs k).k (r xs k).sd)))) (.int .i64 l)=Vp->∃j,j<k+1/\(r xs j).l=l/\AE (r xs j).k (r xs j).sd=c:=by
 intro l H;by_cases e:l=(r xs k).l
 .subst e;rw[has_put_same d (OF.key (QB b)),atKey_put_same d (OF.key (QB b))];grind
 .have e':Lit.int .i64 l≠Lit.int .i64 (r xs k).l:=λx=>e (Ju x)
  rw[has_put_other e',atKey_put_other e'];grind
def LU(w wr:JY)(a b)(o:Ad):=
 (wr.cell? (J (O w.1) 0)=E (.map (E a))/\wr.cell? (J (O w.1) 1)=E (.map (E b))) /\
 wr.cell? (J (O w.1+1) 0)=E (W o.s)/\wr.cell? (J (O w.1+1) 1)=E (G o.k)/\wr.cell? (J (O w.1+1) 2)=E (G o.l)/\wr.cell? (J (O w.1+1) 3)=E (G o.sd)
def LU.step{wr g}(h:LU w wr bo bs o)(k:BV wr g bo bs)(n:O w.1+1<O wr.1)(l:bo<O w.1)(m:bs<O w.1):LU w g bo bs o:=by obtain⟨⟨a,b⟩,c,d,e,f⟩:=h;have j:=k.cell (b:=O w.1) I I I;have i:=k.cell (b:=O w.1+1) I I I;exact⟨⟨(j _).trans a,(j _).trans b⟩,(i _).trans c,(i _).trans d,(i _).trans e,(i _).trans f⟩
def LU.start(w a b o t c):LU w ((w.alloc (JM #[.map (E a),.map (E b)] t)).alloc (JM #[W o.s,G o.k,G o.l,G o.sd] c)) a b o:=by refine⟨⟨?_,?_⟩,?_,?_,?_,?_⟩<;>simp[go_sem]
def Ys(L z k s w)(M:AH w L z s k)(f:Bg s (k+1))(N:(r s k).s.size<=maxLen)(hk:k<1048576):Calls Vb 158 #[b9 #[.map (E L),.map (E z)],b9 #[W (r s k).s,G (r s k).k,G (r s k).l,G (r s k).sd]] w λe w'=>e=i9 (i5 #[])/\AH w' L z s (k+1)/\BV w w' L z:=by
 obtain⟨⟨g,x,hD⟩,⟨l,H,hE⟩,v⟩:=M;have h:=f k I;have U:k<maxLen:=Jm;have HK:=S (IG N (MM h));have HL:=S (QB (PF h));have HS:=S (zah h);have d:Hid (Bv (r s k).s (r s k).k (r s k).l (r s k).sd=Vp):=h;have HD:=S (rV x.isMap N (MM h) hD);have HE:=S (oT H.isMap (PF h) hE);have V:=x.lt;have p:=H.lt;go_enter func158,ntmps158;go_wp2_with (first|(at_mapUpdate;refine wpList_mapUpdate_own _ F _ _ _ 170 F 221 25 GY underlying170 CL L k g F ((x.alloc _).alloc _) U _ _ _ F rfl HK (Ch (r s k).s (r s k).k (r s k).l (r s k).sd) [] (NB _ _ _ _) ?_;intro R P K;go_frame));have q:=BV.of_grown1 (bs:=z) K;have b:=(LU.start w L z (r s k) 173 25).step q Js V p;have A:O w.1+1<O R.1:=Jz q.size
 have X:=((H.alloc (JM #[.map (E L),.map (E z)] 173)).alloc (JM #[W (r s k).s,G (r s k).k,G (r s k).l,G (r s k).sd] 25)).kept K (λe=>v (jz e).symm);have B:=S ((BV.Q (bo:=L) (bs:=z) ((@zC w (JM #[.map (E L),.map (E z)] 173)).alloc Js (JM #[W (r s k).s,G (r s k).k,G (r s k).l,G (r s k).sd] 25))).trans q);obtain⟨⟨m0,m1⟩,c0,c1,c2,c3⟩:=b;go_region_held (λw'=>(w'.cell? (J (O w.1) 0)=E (.map (E L))/\w'.cell? (J (O w.1) 1)=E (.map (E z))) /\
  w'.cell? (J (O w.1+1) 0)=E (W (r s k).s)/\w'.cell? (J (O w.1+1) 1)=E (G (r s k).k)/\w'.cell? (J (O w.1+1) 2)=E (G (r s k).l)/\w'.cell? (J (O w.1+1) 3)=E (G (r s k).sd)) (go_keep)
  (first|(go_at_call 197;refine(UZ _ _ _ _ _ d).mono ?_;rintro e T ⟨rfl,t⟩;have j:=LU.step (w:=w) (wr:=R.drew) (bo:=L) (bs:=z) (o:=r s k) ⟨⟨m0,m1⟩,c0,c1,c2,c3⟩ (BV.Q t) A V p;have n:=X.drew.kept (w':=T) (row:=JL) ⟨t.os,t.tape,t.output,t.size,λi M _=>t.block i M⟩ Js;have m:=P.drew.kept (w':=T) (row:=JL) ⟨t.os,t.tape,t.output,t.size,λi M _=>t.block i M⟩ Js;obtain⟨w3,C,y,Q⟩:=n.update OF underlying171 U HL (plainElem_int underlying3 HS);have a:=j.step (BV.of_grown2 Q) (ym A t.size) V p;have u:=m.kept Q (λe=>v (jz e));have c:=S ((B.trans (BV.Q ((yN).drew.trans t))).trans (BV.of_grown2 Q));obtain⟨⟨n0,n1⟩,d0,d1,d2,d3⟩:=j;obtain⟨⟨o0,o1⟩,f0,f1,f2,f3⟩:=a))
 go_wp2;go_end0;exact⟨F,⟨⟨_,u,HD⟩,⟨_,y,HE⟩,v⟩,c⟩
def LV(a):=∀j,j<Z a->((r a j).k=1\/(r a j).k=2\/(r a j).k=3)
def Xk(h:Bg xs (Z xs)):LV xs:=λj a=>by obtain⟨_,h⟩:=Ii _ _ _ _ (h j a);omega
def VV(h:LV xs):Bf xs t↔((∃j,j<Z xs/\(r xs j).s=t/\(r xs j).k=1)\/(∃j,j<Z xs/\(r xs j).s=t/\(r xs j).k=2)\/(∃j,j<Z xs/\(r xs j).s=t/\(r xs j).k=3)):=by
 constructor
 .rintro⟨j,hj,e⟩;rcases h j hj with k|k|k
  .exact yW ⟨j,hj,e,k⟩
  .exact yX (yW ⟨j,hj,e,k⟩)
  .exact yX (yX ⟨j,hj,e,k⟩)
 .rintro(⟨j,hj,e,_⟩|⟨j,hj,e,_⟩|⟨j,hj,e,_⟩)
  .exact⟨j,hj,e⟩
  .exact⟨j,hj,e⟩
  .exact⟨j,hj,e⟩
def mH(b H a c t w)(n:Z c<=1048576)(o:Au w b H c)(m:b<O w.1)(y:LV c):Calls Vb 188 #[b9 #[Je b H (Z c) a],W t] w λe w'=>Bj e (Bf c t)/\Qb w w':=by
 have l:=S (VV (t:=t) y);clear y;go_enter func188,ntmps188;go_wp2_with fail;go_call Lk b H a c t 1 _ n (o.y zC m) Jq as e s ⟨⟨z,rfl,i⟩,d⟩;have P:O w.1<O s.1:=Jz d.size
 have x:s.cell? (J (O w.1) 0)=E (Je b H (Z c) a):=by rw[d.cell (p:=J (O w.1) 0) Js];simp[go_sem]
 have K:Qb w s:=(zC).trans (d.mono Js);have u:=S i;clear i d;by_cases C:0<=z
 .go_wp2;go_ret;exact⟨⟨Vp,F,⟨λ_=>l.2 (yW (u.1 C)),λ_=>F⟩⟩,K⟩
 go_wp2_with fail;go_call Lk b H a c t 2 _ n (o.y K m) I as e N ⟨⟨A,rfl,j⟩,f⟩;have Q:N.cell? (J (O w.1) 0)=E (Je b H (Z c) a):=Jc f P x;have h:=K.trans (f.mono K.size);have v:=S j;clear j f x;by_cases L:0<=A
 .go_wp2;go_ret;exact⟨⟨Vp,F,⟨λ_=>l.2 (yX (yW (v.1 L))),λ_=>F⟩⟩,h⟩
 go_wp2_with fail;go_call Lk b H a c t 3 _ n (o.y h m) (Jy h.size) as e R ⟨⟨M,rfl,k⟩,g⟩;have q:=h.trans (g.mono h.size);have B:=S k;clear k g;go_wp2;go_ret;refine⟨⟨decide (0<=z)||decide (0<=A)||decide (0<=M),F,?_⟩,q⟩;unfold DO;rw[D l,<-D u,<-D v,<-D B];simp[or_assoc]
def Vh(b K c a t w)(z:Z a<=1048576)(A:Au w b K a)(x:b<O w.1)(y:LV a)(v:t.size<=maxLen):Calls Vb 134 #[b9 #[Je b K (Z a) c],W t] w λe w'=>e=i9 (G (Br a t:Int))/\Qb w w':=by
 go_enter func134,ntmps134;go_wp2_with fail;go_call Nh t _ v as e M ⟨⟨B,rfl,k⟩,rfl⟩;have q:=S k;cases B
 case true=>go_wp2;go_ret;exact⟨zK (by have:=q.1 F;simp[Br,FA,this]),by first|exact zC|exact yN⟩
 have d:Hid (¬ C2 t):=λh=>jq (q.2 h)
 go_wp2_with fail;go_call Rc t _ v as e M ⟨⟨C,rfl,l⟩,rfl⟩;have s:=S l;cases C
 case true=>go_wp2;go_ret;exact⟨zK (by have:=s.1 F;have:=D d;simp[Br,FA,Ie, *]),by first|exact zC|exact yN⟩
 have f:Hid (¬ Cv t):=λh=>jq (s.2 h)
 by_cases g:t=⟨#[40]⟩
 .subst g;go_wp2;go_ret;exact⟨zK (by have:=D d;have:=D f;simp[Br,FA,Ie, *]),by first|exact zC|exact yN⟩
 by_cases i:t=⟨#[41]⟩
 .subst i;go_wp2;go_ret;exact⟨zK (by have:=D d;have:=D f;simp[Br,FA,Ie, *]),by first|exact zC|exact yN⟩
 have P:(t.toList==[40])=Vt:=by rw[jc];exact λh=>g (Ny (h.trans (by rw[yI])))
 have Q:(t.toList==[41])=Vt:=by rw[jc];exact λh=>i (Ny (h.trans (by rw[yI])))
 have o:=S g;have p:=S i;go_wp2_with fail;go_call mH b K c a t _ z (A.y zC x) Jq y as e N ⟨⟨L,rfl,m⟩,j⟩;have u:=S m;have H:Qb w N:=(zC).trans (j.mono Js);cases L
 .go_wp2;go_ret;refine⟨zK ?_,H⟩;have n:¬ Bf a t:=λh=>jq (u.2 h)
  simp[Br,FA,Ie,NT,NS,D d,D f,D o,D p,n]
 .go_wp2;go_ret;refine⟨zK ?_,H⟩;have n:Bf a t:=u.1 F;simp[Br,FA,Ie,NT,NS,D d,D f,D o,D p,n]
def iJ(s)(i:Nat)(w:JY)(u:s.size<=1048576)(f:i<s.size):Calls Vb 187 #[W s,G i] w λe w'=>(∃a:Nat,e=i9 (G a)/\Qr s i a)/\w'=w:=by
 have X:=S (ZV f);cases c:Bw s[i]
 .go_enter func187,ntmps187;go_wp2_with (go_at_call 99;refine(IW _ _).mono ?_;rintro e w' ⟨rfl,rfl⟩);have H:=S (show Ai (bt s i)≠6 from λh=>by
   rw[ZV f,Qe,yZ]at c
   exact c h)
  go_loop [5] (λn=>∃k:Nat,1<=k/\i+k<=s.size/\n=G k/\Hid (k=1\/((Ai (bt s i)=2\/Ai (bt s i)=3)/\∀j,j<k->(Ai (bt s (i+j))=2\/Ai (bt s (i+j))=3)))) (λn=>s.size-(intOf n).toNat);case atStart=>exact⟨1,yk,I,F,S (yW F)⟩
  case round=>
   obtain⟨k,q,t,rfl,g⟩:=hrel;by_cases K:i+k<s.size
   .have GO:=S (show ∀(_:Ai s[i]=2\/Ai s[i]=3)(_:Ai s[i+k]=2\/Ai s[i+k]=3),(k+1=1\/((Ai (bt s i)=2\/Ai (bt s i)=3)/\∀j,j<k+1->(Ai (bt s (i+j))=2\/Ai (bt s (i+j))=3))) from λm p=>by
     rw[ZV f]at m
     rw[ZV K]at p
     refine yX ⟨m,λj l=>?_⟩
     by_cases e:j=k
     .subst e;exact p
     .rcases D g with x|x
      .have:j=0:=I
       subst this
       exact m
      .exact x.2 j I)
    have b:=S (show ∀(_:¬ ((Ai s[i]=2\/Ai s[i]=3)/\(Ai s[i+k]=2\/Ai s[i+k]=3))),Qr s i k from λh=>by
     rw[ZV f,ZV K]at h
     have o:=D H
     refine⟨q,t,yX ?_⟩
     by_cases d:Ai (bt s i)=2\/Ai (bt s i)=3
     .refine yW ⟨d,λj l=>?_,λ_ hx=>h ⟨d,hx⟩⟩
      rcases D g with x|x
      .have:j=0:=I
       subst this
       exact d
      .exact x.2 j l
     .refine yX ⟨⟨o,I,I⟩,?_⟩
      rcases D g with x|x
      .exact x
      .exact yV x.1 d)
    go_wp2_with (first|(go_at_call 82;refine(Nj _ _).mono ?_;rintro e w' ⟨rfl,rfl⟩)|(go_at_call 83;refine(Nn _ _).mono ?_;rintro e w' ⟨rfl,rfl⟩));all_goals
     first
      |(
        refine⟨⟨k+1,?_,?_,?_,S (GO ?_ ?_)⟩,?_⟩
        .omega
        .omega
        .go_num
        .simp[*]
        .simp[*]
        .simp[intOf];omega)
      |(
        go_ret
        refine⟨⟨k,F,b ?_⟩,F⟩
        simp[*])
   .have b:=S (show Qr s i k from by
     have o:=D H
     refine⟨q,t,yX ?_⟩
     by_cases d:Ai (bt s i)=2\/Ai (bt s i)=3
     .refine yW ⟨d,λj l=>?_,λhx=>yV hx K⟩
      rcases D g with x|x
      .have:j=0:=I
       subst this
       exact d
      .exact x.2 j l
     .refine yX ⟨⟨o,I,I⟩,?_⟩
      rcases D g with x|x
      .exact x
      .exact yV x.1 d)
    go_wp2;go_ret;exact⟨⟨k,F,b⟩,F⟩
 .have H:=S (show Ai (bt s i)=6 by
   rw[ZV f,Qe]at c
   simpa using c)
  by_cases Q:s.size-i<16;all_goals
   go_enter func187,ntmps187
   go_wp2_with (go_at_call 99;refine(IW _ _).mono ?_;rintro e w' ⟨rfl,rfl⟩)
   go_ret
  .exact⟨⟨s.size-i,zK I,⟨I,I,yW ⟨H,I,yX I⟩⟩⟩,F⟩
  .exact⟨⟨16,F,⟨I,I,yW ⟨H,I,yW F⟩⟩⟩,F⟩
def eM(b H o)(l:Jf)(s:JZ)(i:Nat)(w:JY)(hm:Z l<=1048576)(hw:Au w b H l)(hB:b<O w.1)(hk:LV l)(hs:s.size<=1048576)(hi:i<s.size):Calls Vb 133 #[b9 #[Je b H (Z l) o],W s,G i] w λe w'=>(∃g:Nat,e=i9 (G g)/\Ya l s i g)/\Qb w w':=by
 go_enter func133,ntmps133;go_wp2_with fail;go_call iJ s i _ hs hi as e w1 ⟨⟨m,rfl,t⟩,rfl⟩;have N:=S t;have A:i+m<=s.size:=t.2.1;have d:1<=m:=t.1;go_wp2;go_loopw [7] (λn wr=>∃k:Nat,1<=k/\k<=m/\n=G k/\Hid (∀q,k<q->q<=m->Br l (sub s i q)=6)/\Below (O w.1+1) (w.alloc (JM #[Je b H (Z l) o] 45)) wr) (λn _=>(intOf n).toNat);case atStart=>exact⟨m,d,yk,F,S (λq h1 R=>I),yN⟩
 case round=>
  obtain⟨k,f,Q,rfl,M,h⟩:=hrel;have X:Qb w wr:=(zC).trans (h.mono I);have T:O w.1<O wr.1:=Jz h.size
  have c0:wr.cell? (J (O w.1) 0)=E (Je b H (Z l) o):=by rw[h.cell (p:=J (O w.1) 0) (show O w.1<_ by omega)];simp[go_sem]
  have zb:b<O wr.1:=I;by_cases B:1<k
  .have v:(1:Int)<k:=I;have P:i+k<=s.size:=I;have c:IntKind.i64.wrap ((i:Int)+k)=(i:Int)+k:=by rw[IntKind.wrap_i64];omega
   have u:(i:Int)<=i+(k:Int):=I;have a:(i:Int)+k<=(s.size:Int):=I;have U:(0:Int)<=i+(k:Int):=I;have V:((i:Int)+k).toNat=i+k:=I;go_wp2_with fail;go_region_held (λw'=>w'.cell? (J (O w.1) 0)=E (Je b H (Z l) o)) (go_keep)
    (first|(go_at_call 134;refine(Vh b H o l (sub s i k) _ hm (hw.y X.drew hB) zb hk (by rw[FB P];unfold maxLen;omega)).mono ?_;rintro e w2 ⟨rfl,z⟩;have c2:=(z.cell (p:=J (O w.1) 0) T).trans (show wr.drew.cell? (J (O w.1) 0)=_ from c0)))
   have K:=h.drew.trans (z.mono T);have x:Qb w w2:=(zC).trans (K.mono I);by_cases L:Br l (sub s i k)=6
   .have j:((Br l (sub s i k):Int)!=6)=Vt:=by simp[L]
    have C:=S L;go_wp2;refine⟨⟨k-1,I,I,?_,S (λq h1 R=>?_),K⟩,?_⟩
    .first|(go_num;done)|(congr 1;omega)
    .by_cases e:q=k
     .subst e;exact C
     .exact M q I R
    .simp[intOf];omega
   .have j:((Br l (sub s i k):Int)!=6)=Vp:=Jq;have C:=S L;go_wp2;go_ret;exact⟨⟨k,F,⟨f,yX C,m,N,Q,M⟩⟩,x⟩
  .have y:k=1:=I;subst y;go_wp2;go_ret;exact⟨⟨1,F,⟨yk,yW F,m,N,Q,M⟩⟩,X⟩
def GN(h:zM xs 0):Bg xs (Z xs):=by
 rcases h with⟨h,_⟩|⟨_,⟨h,_⟩|⟨h,_⟩⟩
 .exact yV h Jd
 .exact yV h Jd
 .exact h
def oU{a e b f}(h:w.ownsRow a e b (Ql g n cap) n f):n<=cap/\cap<=maxLen:=by
 obtain⟨_,⟨h,_⟩|⟨i,H,K,h,_,_,c,d,_⟩⟩:=h
 .cases h
 .injection h with _ _ h;subst h;exact⟨c,d⟩
def fV(b Q cap xs s w)(hm:Z xs<=1048576)(hw:Au w b Q xs)(R:ZO xs)(hB:b<O w.1)(hs:s.size<=maxLen):Calls Vb 77 #[b9 #[Je b Q (Z xs) cap],W s] w λe w'=>(∃(g c:Nat)(us:JA)(v:Bool),e=i9 (i5 #[Ql g (Z us) c,i7 v])/\(O w.1<=g/\Z us<=c/\c<=maxLen)/\CX w' g us (Z us)/\MU xs (zM xs 0) s us v)/\Qb w w':=by
 unfold maxLen at hs;go_enter func77,ntmps77;go_wp2_with fail;go_call Lc b Q cap xs _ hm (hw.y ((zC).alloc Js _) hB) R Jq as e w1 ⟨⟨c,rfl,hc⟩,hb1⟩;have HC:=S hc;have z1:O w.1+2<=O w1.1:=Jz hb1.size
 have B:Qb w w1:=((zC).alloc Js _).trans (hb1.mono Jq);have c1:w1.cell? (J (O w.1) 0)=E (Je b Q (Z xs) cap):=by rw[hb1.cell (p:=J (O w.1) 0) Jq];simp[go_sem]
 have HO:=S (show w1.ownsRow (O w.1+1) 142 3 (Ql (O w.1+1) 0 0) 0 (ZK []) by
  have h0:=yJ (base:=O w.1+1) (e:=142) (size:=3) (w.alloc (JM #[Je b Q (Z xs) cap] 45)) #[] 0 Js yn F
  have h1:=h0.kept (Zv hb1 JL) (yX Jb)
  simpa[ZK] using h1)
 have bel1':Below (O w.1+1) (w.alloc (JM #[Je b Q (Z xs) cap] 45)) w1:=((zC).mono Js).trans (hb1.mono Js);by_cases hl:c=0;case neg=>
  have t:(c != 0)=Vp:=Ju hl
  have HN:Hid (¬ (zM xs 0/\s.size<=20000)):=λh=>hl (Z3 HC h.1)
  go_wp2;go_ret2;obtain⟨hg,hf⟩:=OZ (zs:=[]) HO;exact⟨⟨O w.1+1,0,[],Vt,F,⟨I,yk,yn⟩,hf,yX ⟨HN,F,F⟩⟩,B⟩
 subst hl;by_cases h2:20000<s.size
 .have HN:Hid (¬ (zM xs 0/\s.size<=20000)):=λh=>I
  have hi:(20000:Int)<s.size:=I;go_wp2;go_ret2;obtain⟨hg,hf⟩:=OZ (zs:=[]) HO;exact⟨⟨O w.1+1,0,[],Vt,F,⟨I,yk,yn⟩,hf,yX ⟨HN,F,F⟩⟩,B⟩
 have HV:=S (Mg (GN HC));have HK:=S (Xk (GN HC));have hC:s.size<=20000:=I;go_wp2;go_loopw [6,7] (λo i wr=>∃(p go co:Nat)(K:JA),p<=s.size/\i=G p/\o = Ql go (Z K) co/\Hid (Gy xs s p K)/\Hid (wr.ownsRow (O w.1+1) 142 3 (Ql go (Z K) co) (Z K) (ZK K))/\Below (O w.1+1) (w.alloc (JM #[Je b Q (Z xs) cap] 45)) wr) (λ_ i _=>s.size-(intOf i).toNat);case atStart=>exact⟨0,O w.1+1,0,[],yn,F,F,S (Gy.start xs s),HO,bel1'⟩
 case round=>
  obtain⟨p,go,co,K,hp,rfl,rfl,u,V,X⟩:=hrel;have A:Qb w wr:=(zC).trans (X.mono I);have zw:O w.1<O wr.1:=Jz X.size
  have c0:wr.cell? (J (O w.1) 0)=E (Je b Q (Z xs) cap):=by rw[X.cell (p:=J (O w.1) 0) (show O w.1<_ by omega)];simp[go_sem]
  go_wp2;go_loop [7] (λiv=>∃j:Nat,p<=j/\j<=s.size/\iv=G j/\Hid (Ir s p j)) (λiv=>s.size-(intOf iv).toNat);case atStart=>exact⟨p,yk,hp,F,S (λq h1 h2=>I)⟩
  case round=>
   obtain⟨j,hu,hj,rfl,z⟩:=hrel;by_cases a:j<s.size
   .cases hb:decide (Ai s[j]=1)
    .have L:=S (by rw[ZV a]at hb;simpa using hb:Ai (bt s j)≠1);have N:((j:Int)==s.size)=Vt:=Jq;have M:Z K<=20000:=Jy u.1
     go_wp2_with (go_at_call 132;refine(Uv _ _).mono ?_;rintro e w2 ⟨rfl,hx⟩;obtain rfl:=hx.symm);go_call eM b Q cap xs s j _ hm (hw.y A hB) I HK I a as e w2 ⟨⟨n,rfl,hn⟩,hb2⟩;have ht:=gV HV hn L;have hr:j+n<=s.size:=ht.2.1;have T:1<=n:=ht.1;have HT:=S ht;have hz:=X.trans (hb2.mono zw);have l:Qb w w2:=(zC).trans (hz.mono I);have z2:O w.1<O w2.1:=ym zw hb2.size;have C:=S (V.kept (Zv hb2 JL) (yX Jb));have d0:w2.cell? (J (O w.1) 0)=E (Je b Q (Z xs) cap):=Jc hb2 zw c0;have hk:IntKind.i64.wrap ((j:Int)+n)=(j:Int)+n:=by rw[IntKind.wrap_i64];omega
     have hA:(j:Int)<=j+(n:Int):=I;have hh:(j:Int)+n<=(s.size:Int):=I;have ha:(0:Int)<=j+(n:Int):=I;have hy:((j:Int)+n).toNat=j+n:=I;have hd:(p:Int)<=j:=I;have he:(j:Int)<=s.size:=I;have zb:b<O w2.1:=I;go_wp2_with fail;go_region_held_law (λw'=>w'.cell? (J (O w.1) 0)=E (Je b Q (Z xs) cap)) (go_keep)
      (first|(go_at_call 134;refine(Vh b Q cap xs (sub s j n) _ hm (hw.y l.drew hB) zb HK (by rw[FB hr];unfold maxLen;omega)).mono ?_;rintro e w3 ⟨rfl,hb3⟩;have c3:=(hb3.cell (p:=J (O w.1) 0) z2).trans (show w2.drew.cell? (J (O w.1) 0)=_ from d0);have k:=hz.drew.trans (hb3.mono z2);have P:=S (C.drew.kept (Zv hb3 JL) (yX Jb));have z3:=ym z2 hb3.size;have d:=S (P.lt go F))|(refine De TA underlying138 (.tmp 49) (.tmp 69) (by rfl) (by rfl) (O w.1+1) _ (Z K) (ZK K) (by rfl) (P.alloc _) (J (O w3.1) 0) 1 1 (ZK [⟨(Br xs (sub s j n):Int),s.extract p j,s.extract j (j+n)⟩]) (by rfl) F (RQ w3 ⟨(Br xs (sub s j n):Int),s.extract p j,s.extract j (j+n)⟩) (Rf _) Jd Jm I Jq _ F ?_;intro g4 c4 w4 H x _ hv;have q4:=(x.cell_far (J (O w.1) 0) Jq (by have:=D d;simp[i8];omega)).trans (Jc (@zC w3 _) z3 c3);simp only[yc,ya,yb];simp only[Act.put,ye,yg,yh]))
     have y:Below (O w.1+1) _ w4:=(k.alloc z3 _).grown x Jq (λq hq=>by have:=D d;simp[i8]at hq;omega);rw[<-QV]at H;have f:Z K+1=Z (K++[(⟨(Br xs (sub s j n):Int),s.extract p j,s.extract j (j+n)⟩:zR)]):=Js;rw[f]at H ⊢;have U:=S H;go_wp2;refine⟨⟨j+n,g4,c4,_,hr,Jn,F,S (u.step hu a z L HT),U,y⟩,Ji⟩
    .have Hb:=S (show Ir s p (j+1) from λq h1 h2=>by
      by_cases e:q=j
      .subst e
       rw[ZV a]at hb
       simpa using hb
      .exact z q h1 I)
     go_wp2_with (go_at_call 132;refine(Uv _ _).mono ?_;rintro e w' ⟨rfl,rfl⟩);exact⟨⟨j+1,I,I,Jn,Hb⟩,Ji⟩
   .have HJ:=S (I:j=s.size);have N:((j:Int)==s.size)=Vp:=Jq;have M:Z K<=20000:=Jy u.1
    go_wp2_with (at_builtin;refine As TA underlying138 (.tmp 37) (.tmp 43) F rfl (O w.1+1) _ (Z K) (ZK K) F (V.alloc _) (J (O wr.1) 0) 1 1 (ZK [⟨7,s.extract p j,⟨#[]⟩⟩]) F rfl (RQ wr ⟨7,s.extract p j,⟨#[]⟩⟩) (Rf _) Jm I (by have:=X.size;simp;omega) ?_);intro v4 w4 H x ho _;have d:=V.lt go F;have y:Qb w w4:=(A.alloc A.size _).grown x (by have:=A.size;simp;omega) (λq hq=>by simp[i8]at hq;omega);obtain⟨g4,c4,rfl⟩:=ER H (by simp[ho]);rw[<-QV]at H;have f:Z K+1=Z (K++[(⟨7,s.extract p j,⟨#[]⟩⟩:zR)]):=Js;rw[f]at H ⊢;have U:=S H;go_wp2;go_ret2;obtain⟨hg,hf⟩:=OZ U;have m:=(D u).done hp (D HJ ▸ D z);rw[<-D HJ]at m;exact⟨⟨g4,c4,_,Vp,F,⟨I,oU U⟩,hf,yW ⟨⟨HC,hC⟩,F,m⟩⟩,y⟩
theorem VW(a):∀i:Nat,-(i:Int)<=Dh a i/\Dh a i<=(i:Int)
 |0=>by simp[Dh]
 |i+1=>by have:=VW a i;simp only[Dh];split<;>split<;>omega
theorem mI(b h c n a w)(j:Z a<=1048576)(l:n<=Z a)(f:Ci w b h a):Calls Vb 189 #[Je b h (Z a) c,G n] w λe w'=>e=i9 (G (Dh a n))/\w'=w:=by
 go_enter func189,ntmps189;go_wp2;go_loop [5,6] (λo i=>∃k:Nat,k<=n/\i=G k/\o=G (Dh a k)) (λ_ i=>n-(intOf i).toNat);case atStart=>exact⟨0,yn,F,F⟩
 case round=>
  obtain⟨k,g,rfl,rfl⟩:=hrel;have m:=VW a k;by_cases K:k<n
  .obtain⟨a0,a1,a2⟩:=(D f) k I;have H:k<Z a:=I;have d:=S (show Dh a (k+1)=Dh a k+(if(Aa a k).k=4 then 1 else 0)-(if(Aa a k).k=5 then 1 else 0) from F);go_wp2;all_goals
    refine⟨⟨k+1,I,Jn,?_⟩,Ji⟩
    rw[D d]
    go_light
    simp only[beq_iff_eq,jc,ne_eq]at *
    first|(congr 1;split<;>split<;>omega)|simp[*]|(simp_all;omega)
  .have HX:=S (I:k=n);go_wp2;go_ret;exact⟨zK (by rw[D HX]),F⟩
def Iy(b:Jf)(a:JA)(k:Nat):List Bool:=(List.range (k+1)).map (Ck b a)
def Iq(l:List Bool):JD:=l.map λb=>.bool b
def mJ(b a k):Iq (Iy b a (k+1))=Iq (Iy b a k)++[.bool (Ck b a (k+1))]:=by simp[Iy,Iq,List.range_succ (n:=k+1)]
def Xl(b a k i)(h:i<=k):(Iq (Iy b a k))[i]?=E (i7 (Ck b a i)):=by have:i<k+1:=I;simp[Iq,Iy,this]
def qN:(prog.info? 4).map (λi=>(i.zero,i.size,i.bytes))=E (E (i7 Vt),1,1):=Jk
def gL(w:JY)(n):w.grownBy (w.drewN n) none:=⟨F,F,F,yk,λ_ _ _=>F⟩
def Pn(w n):Qb w (w.drewN n):=⟨F,F,F,yk,λ_ _=>F⟩
def oV(w:JY)(v):∀j u,([Value.bool v])[j]?=E u->(w.alloc (JM #[.bool v] 4)).cell? ((J (O w.1) 0).add j)=E u:=by intro j u a;rw[jO];have:=yF (w:=w.alloc (JM #[.bool v] 4)) (b:=O w.1) (jL w _) 0 1;exact this j u (Ju a)
def fW(b Q cap b' x u xs ts w)(o:Z xs<=1048576)(hm:Z ts<=1048576)(hw:Au w b Q xs)(hB:b<O w.1)(t:Ci w b' x ts)(A:b'<O w.1):Calls Vb 136 #[b9 #[Je b Q (Z xs) cap],Je b' x (Z ts) u] w λe w'=>(∃g c,e=i9 (Ql g (Z ts+1) c)/\O w.1<=g/\g<O w'.1/\∀i,i<=Z ts->w'.cell? (J g i)=E (i7 (Ck xs ts i)))/\Qb w w':=by
 have HO:=S (show((w.alloc (JM #[Je b Q (Z xs) cap] 45)).alloc (JM #[.bool Vt] 4)).ownsRow (O w.1+1) 4 1 (Ql (O w.1+1) 1 1) 1 (Iq (Iy xs ts 0)) by
  have h0:=yJ (base:=O w.1+1) (e:=4) (size:=1) (w.alloc (JM #[Je b Q (Z xs) cap] 45)) #[.bool Vt] 1 Js Jd F
  simpa[Iq,Iy,Ck] using h0)
 go_enter func136,ntmps136;go_wp2;go_loopw [5,6] (λC i wr=>∃(k g c:Nat),k<=Z ts/\i=G k/\C = Ql g (k+1) c/\Hid (wr.ownsRow (O w.1+1) 4 1 (Ql g (k+1) c) (k+1) (Iq (Iy xs ts k)))/\Below (O w.1+1) (w.alloc (JM #[Je b Q (Z xs) cap] 45)) wr) (λ_ i _=>Z ts-(intOf i).toNat);case atStart=>exact⟨0,O w.1+1,1,yn,F,F,HO,(zC).mono Js⟩
 case round=>
  obtain⟨k,g,c,hk,rfl,rfl,K,X⟩:=hrel;have P:Qb w wr:=(zC).trans (X.mono I);have zw:O w.1<O wr.1:=Jz X.size
  have c0:wr.cell? (J (O w.1) 0)=E (Je b Q (Z xs) cap):=by rw[X.cell (p:=J (O w.1) 0) (show O w.1<_ by omega)];simp[go_sem]
  by_cases f:k<Z ts
  .obtain⟨a0,a1,a2⟩:=((t) k f).y P A;have s0:wr.cell? (J g k)=E (i7 (Ck xs ts k)):=(K.cellAt k I).trans (Xl xs ts k k yk);have M:(k:Int)<Z ts:=I;have L:(k:Int)<((k+1:Nat):Int):=I;have l:(k:Int)<k+1:=I;have gk:∀n:Int,(Aa ts k).k≠n->((Aa ts k).k==n)=Vt:=λn h=>Ju h
   by_cases h3:(Aa ts k).k=3;focus
    rw[h3]at a0
    cases hst:Ck xs ts k
    all_goals rw[hst]at s0
    focus
     have HV:=S (by simp[Ck,LO,hst,h3]:Ck xs ts (k+1)=Vt)
     go_wp2_with fail
     go_quiet (fail)
    rotate_left
    focus
     have B:=S hst
     have H3:=S h3
     have zb:b<O wr.1:=I
     have zg:=K.lt g F
     go_wp2_with fail
     go_region_held (λw'=>w'.cell? (J (O w.1) 0)=E (Je b Q (Z xs) cap)/\w'.cell? (J g k)=E (i7 Vp)/\w'.cell? (J b' (x+k*3+2))=E (W (Aa ts k).t)) (go_keep) (first|(go_at_call 146;refine(Lk b Q cap xs (Aa ts k).t 3 _ o (hw.y P.drew hB) zb).mono ?_;rintro e w2 ⟨⟨T,rfl,hr⟩,hb2⟩;have HR:=S hr;have a:=S hb2;have q0:=(hb2.cell (p:=J (O w.1) 0) zw).trans (show wr.drew.cell? (J (O w.1) 0)=_ from c0);have q1:=(hb2.cell (p:=J g k) zg.2).trans (show wr.drew.cell? (J g k)=_ from s0);have q2:=(hb2.cell (p:=(J b' (x+k*3+2))) (ym A (Nat.le_of_lt zw))).trans (show wr.drew.cell? (J b' (x+k*3+2))=_ from a2);clear hr hb2))
     have H:=X.drew.trans (a.mono zw)
     have R:=S (K.drew.kept (Zv a JL) (yX Jb))
     have hp:ZL xs (Aa ts k).t 3=decide (0<=T):=by rw[jI,DG,decide_eq_true_iff];exact HR.symm
     by_cases N:0<=T
     focus have HV:=S (by simp[Ck,LO,D B,D H3,hp,N]:Ck xs ts (k+1)=Vp)
     rotate_left
     have HV:=S (by simp[Ck,LO,D B,D H3,hp,N]:Ck xs ts (k+1)=Vt)
     have z:decide (0<=T)=Vt:=decide_eq_false N
   rotate_left 3
   focus
    rcases(I:(Aa ts k).k=1\/(Aa ts k).k=2\/(Aa ts k).k=5\/((Aa ts k).k≠1/\(Aa ts k).k≠2/\(Aa ts k).k≠5)) with h1|h1|h1|h1
    all_goals
     first|have HV:=S (by simp[Ck,LO,h3];omega:Ck xs ts (k+1)=Vp)|have HV:=S (by simp[Ck,LO,h3];omega:Ck xs ts (k+1)=Vt)
     first
      |rw[h1]at a0
      |(have g1:=gk 1 h1.1;have g2:=gk 2 h1.2.1;have g5:=gk 5 h1.2.2;have g3:=gk 3 h3)
     go_wp2_with fail
     go_quiet (fail)
   all_goals
    try
     obtain⟨w2,U⟩:=Jx (wr.drewN nq)
     have H:=X.trans ((Pn wr nq).mono zw)
     have R:=S (K.kept (gL wr nq) (yX Jb))
     rw[<-U]at H R ⊢
     clear U
    go_wp2_with (at_builtin;refine As qN underlying76 (.tmp 49) (.tmp 51) F rfl (O w.1+1) _ (k+1) (Iq (Iy xs ts k)) F (R.alloc _) (J (O w2.1) 0) 1 1 [.bool _] F rfl (oV w2 _) (by simp[Value.oneCell']) Jm I (by have:=H.size;simp at this;simp;omega) ?_)
    intro v4 w4 y j V _
    have m:=R.lt g F
    have v:Below (O w.1+1) (w.alloc (JM #[Je b Q (Z xs) cap] 45)) w4:=(H.alloc (Jz H.size) _).grown j (by have:=H.size;simp at this;simp;omega) (λq hq=>by simp[i8]at hq;omega)
    obtain⟨g4,c4,rfl⟩:=ER y (by simp[V])
    rw[<-D HV,<-mJ]at y
    have s:=S y
    go_wp2
    exact⟨⟨k+1,g4,c4,I,Jn,F,s,v⟩,Ji⟩
  .have HX:=S (I:k=Z ts);have hg:=K.lt g F;have d:=S (λi (hi:i<=k)=>(K.cellAt i I).trans (Xl xs ts k i hi));go_wp2;go_ret;have e:=D HX;subst e;exact⟨⟨g,c,F,I,hg.2,λi hi=>d i hi⟩,P⟩
def mK(b H g t K y i bh l k w)(P:Z l<=1048576)(hm:Z k<=1048576)(hi:i<Z k)(hw:Au w b H l)(hB:b<O w.1)(U:Ci w t K k)(u:t<O w.1):Calls Vb 137 #[b9 #[Je b H (Z l) g],Je t K (Z k) y,G i,i7 bh] w λe w'=>e=i9 (G (Gp l k i bh))/\Qb w w':=by
 have HW:=S (hw.y (@zC w (JM #[Je b H (Z l) g] 45)) hB);have HT:=S (U.y (@zC w (JM #[Je b H (Z l) g] 45)) u);have c0:(w.alloc (JM #[Je b H (Z l) g] 45)).cell? (J (O w.1) 0)=E (Je b H (Z l) g):=Jg;obtain⟨a0,a1,a2⟩:=(U i hi).y (@zC w (JM #[Je b H (Z l) g] 45)) u;have C:(i:Int)<Z k:=I;have q:=@zC w (JM #[Je b H (Z l) g] 45);have z0:O w.1+1=O (w.alloc (JM #[Je b H (Z l) g] 45)).1:=Js;have o:(Aa k i).k=1\/(Aa k i).k=2\/(Aa k i).k=4\/(Aa k i).k=3\/(Aa k i).k=5\/(Aa k i).k=7\/((Aa k i).k≠1/\(Aa k i).k≠2/\(Aa k i).k≠4/\(Aa k i).k≠3/\(Aa k i).k≠5/\(Aa k i).k≠7):=I;have z:b<O (w.alloc (JM #[Je b H (Z l) g] 45)).1:=Jq;have N:O w.1<O (w.alloc (JM #[Je b H (Z l) g] 45)).1:=Js;have L:t<O (w.alloc (JM #[Je b H (Z l) g] 45)).1:=Jq;have a:=S (λn=>HT.y (Pn _ n) L);have B:=S (λn m=>(HT.y (Pn _ n) L).y (Pn _ m) L);have M:∀n:Int,(Aa k i).k≠n->((Aa k i).k==n)=Vt:=λn h=>Ju h
 cases bh
 case false=>
  rcases o with o|o|o|o|o|o|o;rotate_left 3
  .have Q:=S o;rw[o]at a0;go_enter func137,ntmps137;go_wp2_with fail;go_region_held (λw'=>w'.cell? (J (O w.1) 0)=E (Je b H (Z l) g)/\w'.cell? (J t (K+i*3+2))=E (W (Aa k i).t)) (go_keep) (first|(go_at_call 146;refine(Lk b H g l (Aa k i).t 1 _ P (HW.y (yN).drew z) z).mono ?_;rintro e w1 ⟨⟨r1,rfl,R⟩,s⟩;have X:=S R;have x:=S s;have c1:=(s.cell (p:=J (O w.1) 0) N).trans (show(w.alloc (JM #[Je b H (Z l) g] 45)).drew.cell? (J (O w.1) 0)=_ from c0);have d1:=(s.cell (p:=(J t (K+i*3+2))) L).trans (show(w.alloc (JM #[Je b H (Z l) g] 45)).drew.cell? (J t (K+i*3+2))=_ from a2);clear R s));have hp:ZL l (Aa k i).t 1=decide (0<=r1):=by rw[jI,DG,decide_eq_true_iff];exact X.symm
   by_cases p1:0<=r1;rotate_left
   focus have p1':decide (0<=r1)=Vt:=decide_eq_false p1
   all_goals
    have HP:=S hp
    go_wp2
    go_ret
    exact⟨zK (by simp[Gp,D Q,D HP,p1]),q.trans (((yN).drew.trans x).mono (Nat.le_of_lt N))⟩
  all_goals
   have Q:=S o
   first
    |rw[o]at a0
    |(have g1:=M 1 o.1;have g2:=M 2 o.2.1;have g4:=M 4 I;have g3:=M 3 I;have g5:=M 5 I;have g7:=M 7 I)
   go_enter func137,ntmps137
   go_wp2_with fail
   try(go_quiet (fail);go_wp2_with fail)
   go_ret
   exact⟨zK (by have:=D Q;simp[Gp,this]),⟨q.os,q.tape,q.output,q.size,q.block⟩⟩
 case true=>
  rcases o with o|o|o|o|o|o|o;rotate_left 3
  .have Q:=S o;rw[o]at a0;go_enter func137,ntmps137;go_wp2_with fail;go_region_held (λw'=>w'.cell? (J (O w.1) 0)=E (Je b H (Z l) g)/\w'.cell? (J t (K+i*3+2))=E (W (Aa k i).t)) (go_keep) (first|(go_at_call 146;refine(Lk b H g l (Aa k i).t 2 _ P (HW.y (yN).drew z) z).mono ?_;rintro e w1 ⟨⟨r1,rfl,R⟩,s⟩;have X:=S R;have x:=S s;have c1:=(s.cell (p:=J (O w.1) 0) N).trans (show(w.alloc (JM #[Je b H (Z l) g] 45)).drew.cell? (J (O w.1) 0)=_ from c0);have d1:=(s.cell (p:=(J t (K+i*3+2))) L).trans (show(w.alloc (JM #[Je b H (Z l) g] 45)).drew.cell? (J t (K+i*3+2))=_ from a2);clear R s));have LB1:b<O w1.1:=ym z x.size;have LW1:O w.1<O w1.1:=ym N x.size;have LT1:t<O w1.1:=ym L x.size;have j:=q.trans (((yN).drew.trans x).mono (Nat.le_of_lt N));by_cases p1:0<=r1
   .have HP:Hid (ZL l (Aa k i).t 2=Vp):=(DG _ _ _).2 (X.1 p1);go_wp2;go_ret;exact⟨zK (by simp[Gp,D Q,D HP]),j⟩
   .have HP:=S (show ZL l (Aa k i).t 2=Vt by
     cases h:ZL l (Aa k i).t 2
     .rfl
     .exact yV (X.2 ((DG _ _ _).1 h)) p1)
    have p1':decide (0<=r1)=Vt:=decide_eq_false p1;go_wp2_with fail;go_region_held (λw'=>w'.cell? (J (O w.1) 0)=E (Je b H (Z l) g)/\w'.cell? (J t (K+i*3+2))=E (W (Aa k i).t)) (go_keep) (first|(go_at_call 146;refine(Lk b H g l (Aa k i).t 3 _ P ((HW.y ((yN).drew.trans x) z).y (yN).drew LB1) LB1).mono ?_;rintro e w2 ⟨⟨r2,rfl,hr2⟩,T⟩;have V:=S hr2;have c:=S T;have c2:=(T.cell (p:=J (O w.1) 0) LW1).trans (show w1.drew.cell? (J (O w.1) 0)=_ from c1);have d2:=(T.cell (p:=(J t (K+i*3+2))) LT1).trans (show w1.drew.cell? (J t (K+i*3+2))=_ from d1);clear hr2 T));have f:=j.trans (((yN).drew.trans c).mono (Nat.le_of_lt LW1));by_cases p2:0<=r2
    .have d:Hid (ZL l (Aa k i).t 3=Vp):=(DG _ _ _).2 (V.1 p2);go_wp2;go_ret;exact⟨zK (by simp[Gp,D Q,D HP,D d]),f⟩
    .have d:=S (show ZL l (Aa k i).t 3=Vt by
      cases h:ZL l (Aa k i).t 3
      .rfl
      .exact yV (V.2 ((DG _ _ _).1 h)) p2)
     have p2':decide (0<=r2)=Vt:=decide_eq_false p2;go_wp2;go_ret;exact⟨zK (by simp[Gp,D Q,D HP,D d]),f⟩
  focus
   by_cases ho:0<Dh k i
   rotate_left
   have v:decide (0<Dh k i)=Vt:=decide_eq_false ho
  rotate_left 2
  focus
   by_cases ho:Dh k i=0
   focus
    have v:(Dh k i==0)=Vp:=Ju ho
    by_cases hl:i+1=Z k
    focus have A:((i:Int)==Z k-1)=Vp:=Jq
    rotate_left
    have A:((i:Int)==Z k-1)=Vt:=Jq
   rotate_left 2
   have v:(Dh k i==0)=Vt:=Ju ho
  all_goals
   have Q:=S o
   first
    |rw[o]at a0
    |(have g1:=M 1 o.1;have g2:=M 2 o.2.1;have g4:=M 4 I;have g3:=M 3 I;have g5:=M 5 I;have g7:=M 7 I)
   go_enter func137,ntmps137
   go_wp2_with fail
   go_quiet (fail)
   go_wp2_with fail
   go_quiet (fail)
   go_wp2_with (go_at_call 189;refine(mI t K y i k _ hm (Nat.le_of_lt hi) (by first|exact B _ _|exact a _)).mono ?_;rintro e w3 ⟨rfl,hx⟩;obtain rfl:=hx.symm)
   go_ret
   exact⟨zK (by have:=D Q;first|simp[Gp,this,ho,hl]|simp[Gp,this,ho]|simp[Gp,this]),⟨q.os,q.tape,q.output,q.size,q.block⟩⟩
def AG(a:Jv)(i:Nat):ByteArray:=a.getD i ByteArray.empty
def qO:(prog.info? 3).map (λi=>(i.zero,i.size,i.bytes))=E (E (G 0),1,8):=Jk
def mL(w:JY)(v):∀j u,(zz [v])[j]?=E u->(w.alloc (JM #[G v] 3)).cell? ((J (O w.1) 0).add j)=E u:=by intro j u a;rw[jO];have:=yF (w:=w.alloc (JM #[G v] 3)) (b:=O w.1) (jL w _) 0 1;exact this j u (by simpa[zz] using a)
def O5(h:g<O w.1):EW w g [] 0:=⟨h,λj b=>yV b (yz j),λi a=>yV a (yz i)⟩
def Vi(h:zM xs 0):LD xs:=by
 apply Xi;rcases h with⟨h,_⟩|⟨_,⟨h,_⟩|⟨_,⟨h,_⟩|⟨h,_⟩⟩⟩
 .exact yV h Jd
 .exact yV h Jd
 .exact yV h Jd
 .exact h
def eO(b x cap b' j hK xs ts w)(z:Z xs<=1048576)(hm:Z ts<=1048576)(hw:Au w b x xs)(t:ZO xs)(hB:b<O w.1)(hO:Ci w b' j ts)(hI:b'<O w.1):Calls Vb 79 #[b9 #[Je b x (Z xs) cap],Je b' j (Z ts) hK] w λe w'=>(∃(g c:Nat)(us:JG)(v:Int),e=i9 (i5 #[Ql g (Z us) c,G v])/\O w.1<=g/\EW w' g us (Z us)/\LC xs (zM xs 0) ts us v)/\Qb w w':=by
 go_enter func79,ntmps79;go_wp2_with fail;go_call Lc b x cap xs _ z (hw.y ((zC).alloc Js _) hB) t Jq as e w1 ⟨⟨c,rfl,hc⟩,hb1⟩;have HC:=S hc;have z1:O w.1+2<=O w1.1:=Jz hb1.size
 have X:Qb w w1:=((zC).alloc Js _).trans (hb1.mono Jq);have HO:=S (show w1.ownsRow (O w.1+1) 3 1 (Ql (O w.1+1) 0 0) 0 (zz []) by
  have h0:=yJ (base:=O w.1+1) (e:=3) (size:=1) (w.alloc (JM #[Je b x (Z xs) cap] 45)) #[] 0 Js yn F
  have h1:=h0.kept (Zv hb1 JL) (yX Jb)
  simpa[zz] using h1)
 have c1:w1.cell? (J (O w.1) 0)=E (Je b x (Z xs) cap):=by rw[hb1.cell (p:=J (O w.1) 0) Jq];simp[go_sem]
 clear hb1 hc;by_cases hP:c=0;case neg=>
  have h5:(c != 0)=Vp:=Ju hP
  have HN:Hid (¬ zM xs 0):=λh=>hP (Z3 HC h)
  clear hP;go_wp2;go_ret2;exact⟨⟨O w.1+1,0,[],0,F,I,O5 I,yW ⟨HN,F,F⟩⟩,X⟩
 subst hP;have hy:=S (Vi HC);go_wp2_with fail;go_call fW b x cap b' j hK xs ts _ z hm (hw.y X hB) I (hO.y X hI) I as e w2 ⟨⟨gs,cst,rfl,hgsl,P,hst⟩,hb2⟩;have m:=S hst;have B:=X.trans (hb2.mono X.size);have M:=S (HO.kept (Zv hb2 JL) (yX Jb));have c2:=Jc hb2 (I:O w.1<O w1.1) c1;have z2:=yy z1 hb2.size;have hj:=S (hgsl);clear hst hb2 HO c1;obtain⟨i0,N,T,R,L⟩:=info_parts qO;have hQ:=S N;have l:=S (yO T (yO R L));clear N T R L;go_wp2;go_loopw [6,8] (λov iv wr=>∃(k g c:Nat),k<=Z ts/\iv=G k/\ov = Ql g k c/\Hid (CM xs ts k)/\Hid (wr.ownsRow (O w.1+1) 3 1 (Ql g k c) k (zz (CY xs ts k)))/\Hid (wr.cell? (J (O w.1) 0)=E (Je b x (Z xs) cap))/\Hid (∀i,i<=Z ts->wr.cell? (J gs i)=E (i7 (Ck xs ts i)))/\gs<O wr.1/\O w.1+2<=O wr.1/\Hid (Qb w wr)/\Hid (g≠gs)) (λ_ iv _=>Z ts-(intOf iv).toNat);case atStart=>exact⟨0,O w.1+1,0,yn,F,F,S (λi hi=>I),M,S c2,m,P,z2,S B,S (Jy (D hj))⟩
 case round=>
  clear M m c2 z2 B P;obtain⟨k,g,c,hk,rfl,rfl,Q,U,hP,hG,P,hz,K,hM⟩:=hrel;have e0:=D hP;by_cases f:k<Z ts
  .have h6:(k:Int)<Z ts:=I;have hp:(k:Int)<((Z ts+1:Nat):Int):=I;have hv:(k:Int)<Z ts+1:=I;have s0:=(D hG) k I;have hx:b<O wr.1:=I;have n:b'<O wr.1:=I;have zw:O w.1<O wr.1:=I;go_wp2_with fail;go_region_held (λw'=>w'.cell? (J (O w.1) 0)=E (Je b x (Z xs) cap)/\w'.cell? (J gs k)=E (i7 (Ck xs ts k))) (go_keep) (first|(go_at_call 137;refine(mK b x cap b' j hK k (Ck xs ts k) xs ts _ z hm f (hw.y K.drew hB) hx (hO.y K.drew hI) n).mono ?_;rintro e w3 ⟨rfl,hb3⟩;have q0:=(hb3.cell (p:=J (O w.1) 0) zw).trans (show wr.drew.cell? (J (O w.1) 0)=_ from e0);have q1:=(hb3.cell (p:=J gs k) P).trans (show wr.drew.cell? (J gs k)=_ from s0);have hR:=S hb3;clear hb3));have s:=wG hy k f Q;rw[s];have A:Qb wr w3:=(yN).drew.trans hR;have hH:=S (U.kept (Zv A JL) (yX Jb));have hJ:=S (K.trans (A.mono K.size));have o:=S (λi (hi:i<=Z ts)=>Jc A P (hG i hi));have z3:=A.size;clear A U K hG s hR e0 s0 hP;by_cases hr:zh xs ts k<0
   .have HR:=S hr;go_wp2;go_ret2;exact⟨⟨O w3.1,0,[],(k:Int),F,I,O5 Js,yX ⟨HC,yW ⟨k,f,Q,HR,F,F⟩⟩⟩,hJ.alloc I _⟩
   have hh:0<=zh xs ts k:=I;have hu:=S (show CM xs ts (k+1) from λi hi=>by
    by_cases e:i=k
    .subst e;exact hh
    .exact Q i I)
   have h8:=hH.lt g F;go_wp2_with (at_builtin;refine wpList_append_lies _ F (.tmp 36) (.tmp 38) 72 F (O w.1+1) 3 i0 _ 1 8 underlying72 hQ l.1 l.2.1 l.2.2 F Jd _ k (zz (CY xs ts k)) F (hH.alloc _) (J (O w3.1) 0) 1 1 (zz [zh xs ts k]) F rfl (mL w3 (zh xs ts k)) (I0 _) Jd ?b1 ?b2 ?b3 _ F ?next);case b1=>exact Jm
   case b2=>omega
   case b3=>first|omega|(simp;omega)
   case next=>
    intro g4 c4 w4 y H C h4;have V:Qb w w4:=(hJ.alloc I _).grown H Jq (λq hq=>by simp[i8]at hq;omega);have u:∀bb,bb<O w3.1->bb≠g->w4.heap[bb]?=w3.heap[bb]?:=λbb h1 h2=>(H.block bb Jq (by simp[i8];omega)).trans ((@zC w3 _).block bb h1)
    have q4:=(yv (u (O w.1) I I)).trans q0;have hN:=D hM;have hs:=S (λi (hi:i<=Z ts)=>(yv (w:=w3) (a:=J gs i) (u gs I (λe=>hN e.symm))).trans (o i hi));have hl:g4≠gs:=by
     rcases C with h|h
     .simp[i8]at h;omega
     .first|omega|(simp at h;omega)
    rw[<-Nd,<-Uk]at y;have hd:=S y;have hA:O w3.1<=O w4.1:=Jz H.size
    have h3:=S V;have he:=S q4;clear y H C u V hH hJ o q4 q0 q1 hM;go_wp2;exact⟨⟨k+1,g4,c4,I,Jn,F,hu,hd,he,hs,I,I,h3,S hl⟩,Ji⟩
  .obtain rfl:k=Z ts:=I;by_cases hn:Z ts=0
   .have ht:((Z ts:Int)==0)=Vp:=beq_iff_eq.2 I;have HN:=S hn;clear hn;go_wp2;go_ret2;refine⟨⟨O wr.1,0,[],(Z ts:Int),F,I,O5 Js,yX ⟨HC,yX ⟨Q,yX ⟨λh=>Jy (D HN),F,F⟩⟩⟩⟩,?_⟩
    first
     |exact K.alloc I _
     |(have hb:=K.alloc (I:O w.1<=O wr.1) (JM #[] 3);exact⟨hb.os,hb.tape,hb.output,hb.size,hb.block⟩)
   .have ht:((Z ts:Int)==0)=Vt:=jc.2 I;obtain⟨a0,a1,a2⟩:=((hO) (Z ts-1) I).y K hI;have hE:(Z ts:Int)-1=((Z ts-1:Nat):Int):=I;have h9:((Z ts-1:Nat):Int)<(Z ts:Int):=I;have hC:((Z ts:Int)-1).toNat=Z ts-1:=I;have hF:(Z ts:Int)-1<(Z ts:Int):=I;have hD:(0:Int)<=Z ts-1:=I;by_cases h7:(Aa ts (Z ts-1)).k=7
    .have ha:((Aa ts (Z ts-1)).k != 7)=Vt:=Ju h7
     have H7:=S h7;go_wp2;go_ret2;have ho:=D U;have d:(CY xs ts (Z ts)).length=Z ts:=IU _ _ _;obtain⟨hg,hf⟩:=Rg (zs:=CY xs ts (Z ts)) (by rw[d];exact ho);exact⟨⟨g,c,CY xs ts (Z ts),-1,by rw[d];rfl,I,hf,yX ⟨HC,yX ⟨Q,yW ⟨⟨I,H7⟩,F,F⟩⟩⟩⟩,K⟩
    .have ha:((Aa ts (Z ts-1)).k != 7)=Vp:=Ju h7
     have H7:=S h7;go_wp2;go_ret2;exact⟨⟨O wr.1,0,[],(Z ts:Int),F,I,O5 Js,yX ⟨HC,yX ⟨Q,yX ⟨λh=>H7 h.2,F,F⟩⟩⟩⟩,K.alloc I _⟩
