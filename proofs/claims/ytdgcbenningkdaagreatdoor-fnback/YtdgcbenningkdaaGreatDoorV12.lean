import Derived.Test.YtdgcbenningkdaaGreatDoorV09
import Derived.Test.YtdgcbenningkdaaGreatDoorV10
namespace Go.Proofs.YtdgcbenningkdaaGreatDoor
set_option linter.all false
set_option maxHeartbeats 0
set_option maxRecDepth 100000
open Proofs.Tryz RowKit
variable{C bb bf bo c g lo m1 m2 n o p d:Nat}{a G1 G2:ByteArray -> Option Value}{b w w' wr:World}{dn dn':ByteArray -> Int -> Bool}{kd:Int}{ns:List Ad}{s t:ByteArray}{tmps:Array Value}{v:Value}
open _root_.Array renaming size→O
open List renaming length→Z
open Option renaming some→E,none→JL
open Obj renaming cells→JM
open Bool renaming false→Vt,true→Vp
open Proofs.Tryz renaming prog→Vb
open Value renaming agg→b9,tuple→i5
open Ending renaming returned→i9
def cB(a h:Int):Ending:=.panicked [{ v:=.iface 207 (b9 #[G a,G h]),recovered:=Vt }]
def zZS(a x):=
 (∃i,i<Z a/\(Aa a i).k=6/\(∀j,j<i->(Aa a j).k≠6)/\x=cB 3 (FU a i:Int))\/((∀j,j<Z a->(Aa a j).k≠6)/\x=i9 (i5 #[]))
def eX(g o c d w)(L:Z d+Zm d (Z d)<=1048576)(C:Z d<=c)(b:c<=maxLen)(t:Ci w g o d)(s:g<O w.1)(u:∀i,i<Z d->(Aa d i).g.size<=1048576):Calls Vb 113 #[Je g o (Z d) c] w λx w'=>zZS d x/\Qb w w':=by
 have B:=S u;clear u;go_enter func113,ntmps113;go_wp2;go_loopw [6] (λn wr=>∃k:Nat,k<=Z d/\n=G k/\Hid (∀j,j<k->(Aa d j).k≠6)/\Qb w wr) (λn _=>Z d-(intOf n).toNat);case atStart=>exact⟨0,yn,F,S (λj l=>yV l (yz j)),yN⟩
 case round=>
  obtain⟨k,T,rfl,q,h⟩:=hrel;by_cases K:k<Z d
  .have a:(k:Int)<Z d:=I;obtain⟨M,N,R⟩:=((t) k K).y h s;have P:g<O wr.1:=Jy h.size
   have v:g≠O wr.1:=I;have H:Qb w (wr.alloc (JM #[G (Aa d k).k,W (Aa d k).g,W (Aa d k).t] 142)):=h.alloc h.size _;by_cases f:(Aa d k).k=6
   .have hb:((Aa d k).k==6)=Vp:=by rw[f];rfl
    have z:=S f;have A:=Um g o c k d _ L K C b (λj l=>(t j l).y H s) Jq (B k K);clear f;go_wp2_with fail;go_call A as x U ⟨rfl,m⟩;have X:=H.trans (m.mono H.size);go_wp2;exact⟨F,yW ⟨k,K,z,q,F⟩,X⟩
   .have hb:((Aa d k).k==6)=Vt:=by simp[f]
    have Q:=S (show ∀j,j<k+1->(Aa d j).k≠6 from λj l=>by
     by_cases e:j=k
     .rw[e];exact f
     .exact q j I)
    go_wp2;exact⟨⟨k+1,I,Jn,Q,H⟩,Ji⟩
  .have y:k=Z d:=I;have Q:=S (show ∀j,j<Z d->(Aa d j).k≠6 from by rw[<-y];exact q);have p:¬ ((k:Int)<Z d):=I;go_wp2;go_end0;exact⟨yX ⟨Q,F⟩,h⟩
def gJ(b h w):Calls Vb 110 #[.iface 207 (b9 #[G b,G h])] w λx w'=>x=i9 (i5 #[G b,G h])/\Qb w w':=by
 go_enter func110,ntmps110;have H:∀a:JY,(Instr.typeAssert (.iface 207 (b9 #[G b,G h])) 20 207 Vp).run Vb a=.ok (i5 #[b9 #[G b,G h],.bool Vp]) a:=λa=>Jk
 go_wp2;go_region;go_wp2_with fail;refine yQ (v:=i5 #[G b,G h]) (by simp[results,results110,go_sem]) F ⟨F,?_⟩
 first
  |exact(zC).drew
  |exact zC
theorem nE(p q w):CallsD Vb 109 #[.pointer (E p),.pointer (E q)] .returning w λe c w'=>e=i9 (i5 #[])/\c=.returning/\w'=w:=by
 refine callsD_of_wpS func109 F λb d a=>?_
 apply wpS_seq;apply wpS_region;simp[wpOpsS,go_sem,recoverD,a,ntmps109,Exit.thenS];apply wpS_seq;apply wpS_region;simp[wpOpsS,go_sem,a,ntmps109,Exit.thenS];refine wpS_cond (t:=Vt) (by simp[Act.eval,Array.replicate]) ?_;simp only[Bool.false_eq_true,if_false];refine wpS_of_wp (wp_skip ?_);cases b
 simp_all [bodyPostS,results,results109]
def dO(p q x y b h w)(f:w.cell? (J p 0)=E (G x))(a:w.frozen? (J p 0)=Vt)(g:w.cell? (J q 0)=E (G y))(X:w.frozen? (J q 0)=Vt)(Q:p≠q):CallsD Vb 109 #[Qp p,Qp q] (.panicking [{ v:=.iface 207 (b9 #[G b,G h]),recovered:=Vt }]) w λe l w'=>
   e=i9 (i5 #[])/\l=.panicking [{ v:=.iface 207 (b9 #[G b,G h]),recovered:=Vp }]/\∃d,Qb w d/\w'=(d.setCell (J p 0) (G b)).setCell (J q 0) (G h):=by
 have H:=jl f;have K:=jl g;refine callsD_of_wpS func109 F λn m i=>?_
 apply wpS_seq;apply wpS_region;simp[wpOpsS,go_sem,recoverD,i,ntmps109,Exit.thenS];apply wpS_seq;apply wpS_region;simp[wpOpsS,go_sem,i,ntmps109,Exit.thenS];refine wpS_cond (t:=Vp) (by simp[Act.eval,Array.replicate]) ?_;simp only[if_true];refine wpS_of_wp ?_;have j:=gJ b h w;go_wp2_with fail;go_call j as A d ⟨rfl,c⟩;have o:=Jc c H f;have s:=Vf c H a;have k:=Jc c K g;have u:=Vf c K X;have z:(d.setCell (J p 0) (G b)).cell? (J q 0)=E (G y):=(yj _ _ _ _ (λe=>Q (by injection e))).trans k;go_wp2;refine⟨F,_,F,i5 #[],by simp[results,results109,go_sem],F,F,d,c,F⟩
open Go.Maps
def EI(d:Nat)(w:JY)(K)(p:Nat)(q:Ad)(x:Value):=
 ∃a c b,x=.func (.func K) #[] #[Qp a,Qp c,Qp b]/\d<=a/\d<=c/\d<=b /\
  Cy w a q/\w.cell? (J c 0)=E (Qp p)/\w.cell? (J b 0)=E (G (Zn q.s q.k q.l q.sd Vt))
def Gs(a:Nat)(w:JY)(K)(p:Nat)(q:Ad)(x:Value):=
 ∃b d c e,x=.func (.func K) #[] #[Qp b,Qp d,Qp c,Qp e]/\a<=b/\a<=d/\a<=c/\a<=e /\
  Cy w b q/\w.cell? (J d 0)=E (Qp p)/\w.cell? (J c 0)=E (G (Zn q.s q.k q.l q.sd Vt))/\w.cell? (J e 0)=E (G (Zn q.s q.k q.l q.sd Vp))
def EI.kept{c w w' K p g q x}(h:EI c w K p q x)(a:zE w w' g)(s:g<c):EI c w' K p q x:=by obtain⟨j,e,d,k,m,n,o,l,f,i⟩:=h;exact⟨j,e,d,k,m,n,o,l.kept a I,(a.cell (b:=e) (jl f) I 0).trans f,(a.cell (b:=d) (jl i) I 0).trans i⟩
def Gs.kept{c w w' K p g q x}(h:Gs c w K p q x)(a:zE w w' g)(v:g<c):Gs c w' K p q x:=by obtain⟨l,e,d,f,m,o,s,t,u,n,i,j,k⟩:=h;exact⟨l,e,d,f,m,o,s,t,u,n.kept a I,(a.cell (b:=e) (jl i) I 0).trans i,(a.cell (b:=d) (jl j) I 0).trans j,(a.cell (b:=f) (jl k) I 0).trans k⟩
def EI.low{a K q x}(h:EI lo w K p q x)(j:a<=lo):EI a w K p q x:=by obtain⟨b,d,c,e,k,l,m,f,g,i⟩:=h;exact⟨b,d,c,e,I,I,I,f,g,i⟩
def Gs.low{a K q x}(h:Gs lo w K p q x)(l:a<=lo):Gs a w K p q x:=by obtain⟨b,d,c,e,f,m,n,o,s,g,i,j,k⟩:=h;exact⟨b,d,c,e,f,I,I,I,I,g,i,j,k⟩
def Fg(c w p d)(b:ByteArray->Int->Bool)(a:ByteArray->Option Value):=
 a opn=E (.func (.func 163) #[Qp p] #[]) /\
 ∀t,t≠opn->(b t 1=Vt->a t=JL)/\(b t 1=Vp->∃v,a t=E v/\EI c w 205 p (Al d (rt 3 t)) v)
def Ee(c w p d)(b:ByteArray->Int->Bool)(a:ByteArray->Option Value):=
 ∀t,(b t 2=Vt->b t 3=Vt->a t=JL) /\
 (b t 2=Vp->∃v,a t=E v/\Gs c w 206 p (Al d (rt 4 t)) v) /\
 (b t 3=Vp->∃v,a t=E v/\EI c w 208 p (Al d (rt 5 t)) v)
def Fg.kept{b w w' p g e}{c:ByteArray->Int->Bool}{a:ByteArray->Option Value}(h:Fg b w p e c a)(l:zE w w' g)(k:g<b):Fg b w' p e c a:=
 ⟨h.1,λt d=>⟨(h.2 t d).1,λj=>by obtain⟨v,f,i⟩:=(h.2 t d).2 j;exact⟨v,f,i.kept l k⟩⟩⟩
def Ee.kept{e w w' p g k}{f:ByteArray->Int->Bool}{a:ByteArray->Option Value}(h:Ee e w p k f a)(j:zE w w' g)(i:g<e):Ee e w' p k f a:=
 λt=>⟨(h t).1,λd=>by obtain⟨v,b,c⟩:=(h t).2.1 d;exact⟨v,b,c.kept j i⟩,λd=>by obtain⟨v,b,c⟩:=(h t).2.2 d;exact⟨v,b,c.kept j i⟩⟩
def Mu(h:s.data=t.data):s=t:=by cases s;cases t;simp at h;rw[h]
def EM(b a:ByteArray->Int->Bool)(s c):=∀t k,a t k=Vp↔b t k=Vp\/(t=s/\k=c)
theorem EM.other(h:EM dn dn' s kd){k}(a:¬ (t=s/\k=kd)):dn' t k=dn t k:=by have:=h t k;grind
def Fg.keep(h:Fg lo w p ns dn a)(c:EM dn dn' s kd)(b:kd≠1):Fg lo w p ns dn' a:=
 ⟨h.1,λt d=>by rw[c.other (λe=>b e.2.symm)];exact h.2 t d⟩
def Ee.keep(h:Ee lo w p ns dn a)(b:EM dn dn' s kd)(c:kd=1):Ee lo w p ns dn' a:=
 λt=>by rw[b.other (λe=>I),b.other (λe=>I)];exact h t
def Fg.put(h:Fg lo w p ns dn a)(c:EM dn dn' s 1)(f:s≠opn)(i:EI lo w 205 p (Al ns (rt 3 s)) v):Fg lo w p ns dn' (λd=>if d.data=s.data then E v else a d):=by
 refine⟨?_,λt g=>?_⟩
 .simp only;rw[yS (λe=>f (Mu e).symm)];exact h.1
 .by_cases e:t=s
  .subst e;refine⟨λb=>?_,λ_=>⟨v,yU F,i⟩⟩;rw[(c t 1).2 (yX ⟨rfl,rfl⟩)]at b;cases b
  .simp only;rw[yS (λx=>e (Mu x)),c.other (λx=>e x.1)];exact h.2 t g
def Ee.put2(h:Ee lo w p ns dn a)(c:EM dn dn' s 2)(f:dn s 3=Vt)(g:Gs lo w 206 p (Al ns (rt 4 s)) v):Ee lo w p ns dn' (λd=>if d.data=s.data then E v else a d):=by
 intro t;by_cases e:t=s
 .subst e;refine⟨λb=>?_,λ_=>⟨v,yU F,g⟩,λb=>?_⟩
  .rw[(c t 2).2 (yX ⟨rfl,rfl⟩)]at b;cases b
  .rw[c.other (λx=>I),f]at b;cases b
 .simp only;rw[yS (λx=>e (Mu x)),c.other (λx=>e x.1),c.other (λx=>e x.1)];exact h t
def Ee.put3(h:Ee lo w p ns dn a)(c:EM dn dn' s 3)(f:dn s 2=Vt)(g:EI lo w 208 p (Al ns (rt 5 s)) v):Ee lo w p ns dn' (λd=>if d.data=s.data then E v else a d):=by
 intro t;by_cases e:t=s
 .subst e;refine⟨λ_ b=>?_,λb=>?_,λ_=>⟨v,yU F,g⟩⟩
  .rw[(c t 3).2 (yX ⟨rfl,rfl⟩)]at b;cases b
  .rw[c.other (λx=>I),f]at b;cases b
 .simp only;rw[yS (λx=>e (Mu x)),c.other (λx=>e x.1),c.other (λx=>e x.1)];exact h t
theorem RW{q:Nat}{k}(h:ZL ns t k=Vp)(d:(q:Int)-2=k)(b):Zn (Al ns (rt q t)).s (Al ns (rt q t)).k (Al ns (rt q t)).l (Al ns (rt q t)).sd b=sH ns (q,t) b:=by
 have a:=Is h d;unfold AC at a;unfold sH zl Al;simp only[rt]at a ⊢;cases c:Ax ns t ((q:Int)-2) with
 |none=>rw[c]at a;cases a
 |some j=>rfl
theorem Fg.ok(h:Fg lo w p ns (ZL ns) a)(l:p<lo):OH w p ns a:=by refine⟨h.1,λt b=>⟨(h.2 t b).1,λc=>?_⟩⟩;obtain⟨v,k,d,f,e,rfl,m,n,o,g,i,j⟩:=(h.2 t b).2 c;grind [RW]
theorem Ee.ok(h:Ee lo w p ns (ZL ns) a)(g:p<lo):OI w p ns a:=by
 intro t;refine⟨λf=>(h t).1 ?_ ?_,λc=>?_,λc=>?_⟩
 .cases e:ZL ns t 2 with
  |false=>rfl
  |true=>obtain⟨j,d,b,_⟩:=(DG _ _ _).1 e;exact yV ⟨j,d,b⟩ f
 .cases e:ZL ns t 3 with
  |false=>rfl
  |true=>obtain⟨j,d,b,_⟩:=(DG _ _ _).1 e;exact yV ⟨j,d,b⟩ f
 .obtain⟨v,h1,ba,bp,bh,bs,rfl,n1,n2,n3,n4,c1,c2,c3,c4⟩:=(h t).2.1 c;grind [RW]
 .obtain⟨v,h1,ba,bp,bh,rfl,n1,n2,n3,c1,c2,c3⟩:=(h t).2.2 c;grind [RW]
def CT(b:Jf)(a:Lit->Bool)(t:JZ)(k:Int):Bool:=ZL b t k&&!a (AF t k)
theorem tO{left:Lit->Bool}(i:ZO ns)(q:Bg ns (Z ns))(H:s.size<=maxLen)(K:(Lit.int .i64 kd).wf=Vp)(g:ZL ns s kd=Vp):EM (CT ns left) (CT ns (λz=>left z&&!z.sameKey (AF s kd))) s kd:=by
 intro t k;unfold CT;constructor
 .intro h;simp only[jB,Bool.not_eq_true',Bool.and_eq_false_iff,Bool.not_eq_false']at h;obtain⟨f,a⟩:=h;rcases a with a|a
  .grind
  .right;have e:AF t k=AF s kd:=by simpa[Lit.sameKey,AF] using a
   obtain⟨j,b,c,d⟩:=(DG _ _ _).1 f;have:=SP (by rw[<-c];exact i j b) H (by rw[<-d];exact MM (q j b)) K e;exact this
 .rintro(h|⟨rfl,rfl⟩)
  .grind
  .simp[g,Lit.sameKey,AF]
def eY(p q w)(hs:q.s.size<=maxLen):Calls Vb 165 #[Qp p,b9 #[W q.s,G q.k,G q.l,G q.sd]] w λx w'=>(∃v,x=i9 v/\Hid (Gs (O w.1) w' 206 p q v))/\Qb w w':=by
 obtain⟨a,i⟩:=Jx ((w.alloc (JM #[Qp p] 178)).alloc (JM #[W q.s,G q.k,G q.l,G q.sd] 25));have y:O w.1+2<=O a.1:=by rw[i];simp
 have h:Qb w a:=by rw[i];exact(zC).alloc Js _
 have g0:a.cell? (J (O w.1) 0)=E (Qp p):=by rw[i];simp[go_sem]
 have g1:Cy a (O w.1+1) q:=by rw[i];exact⟨Jg,Jg,Jg,Jg⟩
 have HX:=λb W'=>Lg q.s q.k q.l q.sd b W' hs
 obtain⟨k0,k1,k2,k3⟩:=g1;have HW:=S i;clear i;have Dx00:O a.1≠O w.1:=I;have Dy00:O w.1≠O a.1:=I;have Dx01:O a.1≠O w.1+1:=I;have Dy01:O w.1+1≠O a.1:=I;have Dx10:O a.1+1≠O w.1:=I;have Dy10:O w.1≠O a.1+1:=I;have Dx11:O a.1+1≠O w.1+1:=I;have Dy11:O w.1+1≠O a.1+1:=I;go_enter func165,ntmps165;go_wp2_with fail;rw[<-D HW];go_region_held (λw'=>w'.cell? (J (O w.1+1) 0)=E (W q.s)/\w'.cell? (J (O w.1+1) 1)=E (G q.k)/\w'.cell? (J (O w.1+1) 2)=E (G q.l)/\w'.cell? (J (O w.1+1) 3)=E (G q.sd)) (first|(go_keep;done)|exact⟨n,o,s,t⟩|exact⟨j,k,l,m⟩)
  (first|(go_at_call 204;with_reducible refine(HX Vt _).mono ?_;rintro e c ⟨rfl,g⟩;have Q:=g.size;(try simp at Q);have u:O c.1≠O w.1:=I;have C:O w.1≠O c.1:=I;have z:O c.1≠O w.1+1:=I;have L:O w.1+1≠O c.1:=I;have A:O c.1+1≠O w.1:=I;have M:O w.1≠O c.1+1:=I;have B:O c.1+1≠O w.1+1:=I;have N:O w.1+1≠O c.1+1:=I;(try(have Al0:O a.1<O c.1:=I));(try(have An0:O a.1≠O c.1:=I));(try(have Am0:O a.1≠O c.1+1:=I));(try(have Al1:O a.1+1<O c.1:=I));(try(have An1:O a.1+1≠O c.1:=I));(try(have Am1:O a.1+1≠O c.1+1:=I));have j:c.cell? (J (O w.1+1) 0)=E (W q.s):=(g.cell (p:=(J (O w.1+1) 0)) Jq).trans (by simp[*,World.cell?_alloc_some,World.cell?_setCell_far]);have k:c.cell? (J (O w.1+1) 1)=E (G q.k):=(g.cell (p:=(J (O w.1+1) 1)) Jq).trans (by simp[*,World.cell?_alloc_some,World.cell?_setCell_far]);have l:c.cell? (J (O w.1+1) 2)=E (G q.l):=(g.cell (p:=(J (O w.1+1) 2)) Jq).trans (by simp[*,World.cell?_alloc_some,World.cell?_setCell_far]);have m:c.cell? (J (O w.1+1) 3)=E (G q.sd):=(g.cell (p:=(J (O w.1+1) 3)) Jq).trans (by simp[*,World.cell?_alloc_some,World.cell?_setCell_far]);have As4:c.cell? (J (O w.1) 0)=E (Qp p):=Jc g Jh (by simp[*,World.cell?_alloc_some,World.cell?_setCell_far]);(try(have Aa0:c.cell? (J (O a.1) 0)=E (G 0):=Jc g Jh (by first|(simp[go_sem];done)|(simp[*,World.cell?_alloc_some];done)|(simp[*,go_sem];done))));(try(have Af0:c.frozen? (J (O a.1) 0)=Vt:=(g.frozen (p:=J (O a.1) 0) Jh).trans (by first|(simp[go_sem];done)|(simp[*,go_sem];done))));(try(have Aa1:c.cell? (J (O a.1+1) 0)=E (G 0):=(g.cell (p:=(J (O a.1+1) 0)) Jh).trans (by first|(simp[go_sem];done)|(simp[*,World.cell?_alloc_some];done)|(simp[*,go_sem];done))));(try(have Af1:c.frozen? (J (O a.1+1) 0)=Vt:=(g.frozen (p:=(J (O a.1+1) 0)) Jh).trans (by first|(simp[go_sem];done)|(simp[*,go_sem];done))));have K:Qb w c:=Below.trans (by repeat(first|exact h|exact h|refine Below.drew ?_|refine Below.setCell ?_ (by first|omega|(simp;omega)) _|refine Below.alloc ?_ (by first|omega|(simp;omega)) _)) (g.mono Jh);clear g)|(go_at_call 204;with_reducible refine(HX Vp _).mono ?_;rintro e d ⟨rfl,f⟩;have X:=f.size;(try simp at X);have P:O d.1≠O w.1:=I;have V:O w.1≠O d.1:=I;have R:O d.1≠O w.1+1:=I;have By01:O w.1+1≠O d.1:=I;have T:O d.1+1≠O w.1:=I;have By10:O w.1≠O d.1+1:=I;have U:O d.1+1≠O w.1+1:=I;have By11:O w.1+1≠O d.1+1:=I;(try(have Bl0:O a.1<O d.1:=I));(try(have Bn0:O a.1≠O d.1:=I));(try(have Bm0:O a.1≠O d.1+1:=I));(try(have Bl1:O a.1+1<O d.1:=I));(try(have Bn1:O a.1+1≠O d.1:=I));(try(have Bm1:O a.1+1≠O d.1+1:=I));(try(have Bl2:O c.1<O d.1:=I));(try(have Bn2:O c.1≠O d.1:=I));(try(have Bm2:O c.1≠O d.1+1:=I));(try(have Bl3:O c.1+1<O d.1:=I));(try(have Bn3:O c.1+1≠O d.1:=I));(try(have Bm3:O c.1+1≠O d.1+1:=I));have n:d.cell? (J (O w.1+1) 0)=E (W q.s):=(f.cell (p:=(J (O w.1+1) 0)) Jq).trans (by simp[*,World.cell?_alloc_some,World.cell?_setCell_far]);have o:d.cell? (J (O w.1+1) 1)=E (G q.k):=(f.cell (p:=(J (O w.1+1) 1)) Jq).trans (by simp[*,World.cell?_alloc_some,World.cell?_setCell_far]);have s:d.cell? (J (O w.1+1) 2)=E (G q.l):=(f.cell (p:=(J (O w.1+1) 2)) Jq).trans (by simp[*,World.cell?_alloc_some,World.cell?_setCell_far]);have t:d.cell? (J (O w.1+1) 3)=E (G q.sd):=(f.cell (p:=(J (O w.1+1) 3)) Jq).trans (by simp[*,World.cell?_alloc_some,World.cell?_setCell_far]);have Bs4:d.cell? (J (O w.1) 0)=E (Qp p):=Jc f Jh (by simp[*,World.cell?_alloc_some,World.cell?_setCell_far]);(try(have Ba0:d.cell? (J (O a.1) 0)=E (G 0):=Jc f Jh (by first|(simp[go_sem];done)|(simp[*,World.cell?_alloc_some];done)|(simp[*,go_sem];done))));(try(have Bf0:d.frozen? (J (O a.1) 0)=Vt:=(f.frozen (p:=J (O a.1) 0) Jh).trans (by first|(simp[go_sem];done)|(simp[*,go_sem];done))));(try(have Ba1:d.cell? (J (O a.1+1) 0)=E (G 0):=(f.cell (p:=(J (O a.1+1) 0)) Jh).trans (by first|(simp[go_sem];done)|(simp[*,World.cell?_alloc_some];done)|(simp[*,go_sem];done))));(try(have Bf1:d.frozen? (J (O a.1+1) 0)=Vt:=(f.frozen (p:=(J (O a.1+1) 0)) Jh).trans (by first|(simp[go_sem];done)|(simp[*,go_sem];done))));(try(have Ba2:d.cell? (J (O c.1) 0)=E (G 0):=Jc f Jh (by first|(simp[go_sem];done)|(simp[*,World.cell?_alloc_some];done)|(simp[*,go_sem];done))));(try(have Bf2:d.frozen? (J (O c.1) 0)=Vt:=(f.frozen (p:=J (O c.1) 0) Jh).trans (by first|(simp[go_sem];done)|(simp[*,go_sem];done))));(try(have Ba3:d.cell? (J (O c.1+1) 0)=E (G 0):=(f.cell (p:=(J (O c.1+1) 0)) Jh).trans (by first|(simp[go_sem];done)|(simp[*,World.cell?_alloc_some];done)|(simp[*,go_sem];done))));(try(have Bf3:d.frozen? (J (O c.1+1) 0)=Vt:=(f.frozen (p:=(J (O c.1+1) 0)) Jh).trans (by first|(simp[go_sem];done)|(simp[*,go_sem];done))));have H:Qb w d:=Below.trans (by repeat(first|exact h|exact K|refine Below.drew ?_|refine Below.setCell ?_ (by first|omega|(simp;omega)) _|refine Below.alloc ?_ (by first|omega|(simp;omega)) _)) (f.mono Jh);clear f))
 all_goals go_wp2_with fail
 all_goals go_ret
 all_goals refine⟨⟨_,F,S ⟨_,_,_,_,F,?_,?_,?_,?_,⟨?_,?_,?_,?_⟩,?_,?_,?_⟩⟩,?_⟩
 all_goals first
  |omega
  |(simp[*,J,G,W,World.cell?_alloc_some,World.cell?_setCell_far];done)
  |(simp[*,J,go_sem];done)
  |(simp;omega)
  |repeat(first|exact h|exact H|refine Below.drew ?_|refine Below.setCell ?_ (by first|omega|(simp;omega)) _|refine Below.alloc ?_ (by first|omega|(simp;omega)) _)
def zZT(b a x):=
 (∃i,i<Z a/\CM b a i/\zh b a i<0/\x=cB 4 (FU a i:Int))\/(CM b a (Z a)/\x=i9 (i5 #[]))
def dH(l m g o c f e w)(R:Z e+Zm e (Z e)<=1048576)(N:Z e<=c)(b:c<=maxLen)(q:AH w l m f (Z f))(K:zM f 0)(L:Ci w g o e)(d:Y1 e)(C:g<O w.1)(U:∀i,i<Z e->(Aa e i).g.size<=1048576)(X:0<Z e/\(Aa e (Z e-1)).k=7):Calls Vb 114 #[b9 #[.map (E l),.map (E m)],Je g o (Z e) c] w λx w'=>zZT f e x/\Qb w w':=by
 have M:=S U;have p:=S X;have H:=@zC w (JM #[.map (E l),.map (E m)] 173);have n:=lI l m g o c f e _ I (q.kept H) K (λj A=>(L j A).y H C) d Jq;have y:=S H;go_enter func114,ntmps114;go_wp2_with fail;go_call n as x V ⟨⟨a,c1,us,v,rfl,_,T⟩,s⟩;have h:=y.trans (s.mono Js);rcases T with⟨B,_⟩|⟨_,⟨i,z,u,P,rfl,rfl⟩|⟨u,⟨_,rfl,rfl⟩|⟨B,_⟩⟩⟩
 .exact yV K B
 .have hb:((i:Int) != -1)=Vp:=by first|(simp;done)|(simp;omega)
  have k:=S (yO u P);have n:=Um g o c i e V R z N b (λj A=>(L j A).y h C) (Jy h.size) (M i z);go_wp2_with fail;go_call n as x w2 ⟨rfl,t⟩;have Q:=h.trans (t.mono h.size);go_wp2;exact⟨F,yW ⟨i,z,k.1,k.2,F⟩,Q⟩
 .have k:=S u;go_wp2;go_end0;exact⟨yX ⟨k,F⟩,h⟩
 .exact yV p B
def pW{a:DataW Unit}{g e f b}{k:DataW Unit}{w}(t:Maps.has a (AF s kd)=Vp->∃j,j<Z ns/\(r ns j).s=s/\(r ns j).k=kd/\a.atKey (AF s kd) (Ch ⟨#[]⟩ 0 0 0)=Ch (r ns j).s (r ns j).k (r ns j).l (r ns j).sd)(u:Maps.has a (AF s kd)=Vp)(c:CL (b9 #[.string g,.int .i64 e,.int .i64 f,.int .i64 b])=E (k,w))(h:∀x,a.atKey (AF s kd) x=k):∃j,j<Z ns/\s=(r ns j).s/\kd=(r ns j).k/\g=(r ns j).s/\e=(r ns j).k/\f=(r ns j).l/\b=(r ns j).sd:=by
 obtain⟨j,v,p,q,i⟩:=t u;rw[h]at i;rw[NB]at c;have d:Ch g e f b=Ch (r ns j).s (r ns j).k (r ns j).l (r ns j).sd:=by rw[<-i];injection c with c;exact yY Prod.fst c
 unfold Ch at d;simp only[DataW.agg.injEq,List.cons.injEq,DataW.lit.injEq,Lit.string.injEq,Lit.int.injEq,true_and,and_true]at d;obtain⟨l,m,n,o⟩:=d;exact⟨j,v,p.symm,q.symm,by
  apply Mu
  have:=yY List.toArray l
  simpa using this,m,n,o⟩
def za9(c:zM ns 0){j b:Nat}(d:j<Z ns)(a:(b:Int)-2=(r ns j).k):Al ns (rt b (r ns j).s)=r ns j:=by unfold Al;simp only[rt];rw[PW c d ⟨rfl,a.symm⟩]
def zZU{j}(a:j<Z ns):ZL ns (r ns j).s (r ns j).k=Vp:=(DG _ _ _).2 ⟨j,a,F,F⟩
def zZV(w:JY)(g o c:Nat)(d:Jf)(a:JA)(x)(b:JY):=
 ∃p bf bb,x=i9 (Qp p)/\O w.1<=p/\Hid (PC b p g o bf bb d a)/\Hid (Bo b p g o (Z a) c 0 bf bb)
structure C6(w wr:JY)(ns:Jf)(a:DataW Unit)(bo p i h b C:Nat)(g o n c:Nat)(d:Lit->Bool)(dn:ByteArray->Int->Bool)(Am k l:Nat)(e f:ByteArray->Option Value):Prop where
 rg:wr.ranges Vb 221 CL bo b (Z ns) a d Am
 sub:∀j,d j=Vp->Maps.has a j=Vp
 s1:AI wr i k e
 s2:AI wr h l f
 n1:k+Am<=C
 n2:l+Am<=C
 f1:Fg (b+1) wr p ns dn e
 f2:Ee (b+1) wr p ns dn f
 pr:Bo wr p g o n c 0 i h
 sz:b<O wr.1
 bel:Below (O w.1) w wr
def Bo.keptO{i b:Nat}(h:Bo w p g o n c i bf bb)(a:zE w w' b)(H:p≠b):Bo w' p g o n c i bf bb:=by obtain⟨d,e,f,j,k⟩:=h;have K:p<O w.1:=jl d;exact⟨(a.cell K H 0).trans d,(a.cell K H 1).trans e,(a.cell K H 2).trans f,(a.cell K H 3).trans j,(a.frozen K H 1).trans k⟩
def zE.of_grown{b}(h:w.grownBy w' (E b)):zE w w' b:=⟨h.os,h.tape,h.output,h.size,λi a H=>h.block i a (λx=>H (by injection x))⟩
def C6.step{a:DataW Unit}{e:Lit->Bool}{Am:Nat}(h:C6 w wr ns a bo p bf bb d C g o n c e dn Am m1 m2 G1 G2)(b:Below (O wr.1) wr w'):C6 w w' ns a bo p bf bb d C g o n c e dn Am m1 m2 G1 G2 where
 rg:=h.rg.kept (zH b JL) Js Js
 sub:=h.sub
 s1:=h.s1.kept (zH b JL) Js
 s2:=h.s2.kept (zH b JL) Js
 n1:=h.n1
 n2:=h.n2
 f1:=h.f1.kept (zE.Q b) (Nat.lt_succ_self d)
 f2:=h.f2.kept (zE.Q b) (Nat.lt_succ_self d)
 pr:=h.pr.y b
 sz:=ym h.sz b.size
 bel:=h.bel.trans (b.mono h.bel.size)
def M0(B d p c b a:Nat):=B<=a/\B<=p/\B<=c/\B<=b/\p<a/\c<a/\b<a/\c≠b/\p≠c/\p≠b/\d<B
def C6.next{a:DataW Unit}{i b:Lit->Bool}{Am f:Nat}(h:C6 w wr ns a bo p bf bb d C g o n c i dn Am m1 m2 G1 G2)(H:M0 (O w.1) bo p bf bb d)(q:w'.ranges Vb 221 CL bo d (Z ns) a b f)(t:∀z,b z=Vp->i z=Vp)(N:f<Am)(j:zE wr w' d):C6 w w' ns a bo p bf bb d C g o n c b dn f m1 m2 G1 G2:=by
 obtain⟨l,u,v,x,y,A,B,L,M,m,s⟩:=H;exact⟨q,λk K=>h.sub k (t k K),h.s1.kept (za j) (λe=>by injection e;omega),h.s2.kept (za j) (λe=>by injection e;omega),Jy h.n1,Jy h.n2,
  h.f1.kept j (Nat.lt_succ_self d),h.f2.kept j (Nat.lt_succ_self d),h.pr.keptO j I,ym h.sz j.size,h.bel.trans (j.y h.bel.size l)⟩
def C6.put1{a:DataW Unit}{b:Lit->Bool}{Am:Nat}(h:C6 w wr ns a bo p bf bb d C g o n c b dn Am m1 m2 G1 G2)(K:M0 (O w.1) bo p bf bb d)(j:EM dn dn' s 1)(q:s≠opn)(t:EI (d+1) wr 205 p (Al ns (rt 3 s)) v)(N:m1+1+Am<=C)(H:AI w' bf (m1+1) (λi=>if i.data=s.data then E v else G1 i))(f:zE wr w' bf):C6 w w' ns a bo p bf bb d C g o n c b dn' Am (m1+1) m2 (λi=>if i.data=s.data then E v else G1 i) G2:=by
 obtain⟨u,x,m,y,z,A,B,L,M,k,l⟩:=K;exact⟨h.rg.kept (za f) (λe=>by injection e;omega) (λe=>by injection e;omega),h.sub,H,h.s2.kept (za f) (λe=>by injection e;omega),I,h.n2,
  (h.f1.put j q t).kept f I,(h.f2.keep j F).kept f I,h.pr.keptO f I,ym h.sz f.size,h.bel.trans (f.y h.bel.size m)⟩
def C6.put2{w wr y x}{a:DataW Unit}{t p q i b C g o n c}{d:Lit->Bool}{u j:ByteArray->Int->Bool}{Am B l}{z m:ByteArray->Option Value}{s v}(h:C6 w wr x a t p q i b C g o n c d u Am B l z m)(K:M0 (O w.1) t p q i b)(A:EM u j s 2)(P:u s 3=Vt)(Q:Gs (b+1) wr 206 p (Al x (rt 4 s)) v)(hn:l+1+Am<=C)(H:AI y i (l+1) (λk=>if k.data=s.data then E v else m k))(f:zE wr y i):C6 w y x a t p q i b C g o n c d j Am B (l+1) z (λk=>if k.data=s.data then E v else m k):=by
 obtain⟨R,T,U,N,V,X,a7,a8,a9,L,M⟩:=K;exact⟨h.rg.kept (za f) (λe=>by injection e;omega) (λe=>by injection e;omega),h.sub,h.s1.kept (za f) (λe=>by injection e;omega),H,h.n1,I,
  (h.f1.keep A Jd).kept f I,(h.f2.put2 A P Q).kept f I,h.pr.keptO f I,ym h.sz f.size,h.bel.trans (f.y h.bel.size N)⟩
def C6.put3{w wr y x}{a:DataW Unit}{t p q i b C g o n c}{d:Lit->Bool}{u j:ByteArray->Int->Bool}{Am B l}{z m:ByteArray->Option Value}{s v}(h:C6 w wr x a t p q i b C g o n c d u Am B l z m)(K:M0 (O w.1) t p q i b)(A:EM u j s 3)(P:u s 2=Vt)(Q:EI (b+1) wr 208 p (Al x (rt 5 s)) v)(hn:l+1+Am<=C)(H:AI y i (l+1) (λk=>if k.data=s.data then E v else m k))(f:zE wr y i):C6 w y x a t p q i b C g o n c d j Am B (l+1) z (λk=>if k.data=s.data then E v else m k):=by
 obtain⟨R,T,U,N,V,X,a7,a8,a9,L,M⟩:=K;exact⟨h.rg.kept (za f) (λe=>by injection e;omega) (λe=>by injection e;omega),h.sub,h.s1.kept (za f) (λe=>by injection e;omega),H,h.n1,I,
  (h.f1.keep A Jd).kept f I,(h.f2.put3 A P Q).kept f I,h.pr.keptO f I,ym h.sz f.size,h.bel.trans (f.y h.bel.size N)⟩
def C6.done{a:DataW Unit}{b:Lit->Bool}{Am:Nat}{f:JA}(h:C6 w wr ns a bo p bf bb d C g o (Z f) c b (CT ns b) Am m1 m2 G1 G2)(H:M0 (O w.1) bo p bf bb d)(q:∀u,b u=Vt)(s:Ci w g o f)(n:g<O w.1):PC wr p g o bf bb ns f/\Bo wr p g o (Z f) c 0 bf bb:=by
 obtain⟨v,x,y,z,A,B,K,L,M,l,m⟩:=H;have e:CT ns b=ZL ns:=by funext t k;unfold CT;rw[q];simp
 have i:=h.f1;have j:=h.f2;rw[e]at i j;exact⟨⟨I,I,I,s.y h.bel n,⟨m1,G1,h.s1,i.ok I⟩,⟨m2,G2,h.s2,j.ok I⟩⟩,h.pr⟩
def Wr{a:Lit->Bool}{k}(h:LD ns)(c:(ZL ns t 2=Vp/\k=3)\/(ZL ns t 3=Vp/\k=2)):CT ns a t k=Vt:=by
 unfold CT;rcases c with⟨b,rfl⟩|⟨b,rfl⟩
 .cases e:ZL ns t 3 with
  |false=>rfl
  |true=>exact yV ⟨b,e⟩ (h t)
 .cases e:ZL ns t 2 with
  |false=>rfl
  |true=>exact yV ⟨e,b⟩ (h t)
def eZ(bo bs g o c ns ts w)(hi:AH w bo bs ns (Z ns))(d:zM ns 0)(hu:ZO ns)(hm:Z ns<=1048576)(ht:Ci w g o ts)(hg:g<O w.1):Calls Vb 115 #[b9 #[.map (E bo),.map (E bs)],.slice (E ⟨g,o,JL⟩) (Z ts) c] w λx w'=>zZV w g o c ns ts x w'/\Below (O w.1) w w':=by
 have h6:=@run_makeMap Vb;obtain⟨⟨l,L,hD⟩,_,_⟩:=hi;have h7:=L.lt;have hf:=S (GN d);have HV:=S (Mg (GN d));have h0:=S (Vi d);have HD:=S hD;obtain⟨W3,u⟩:=Jx ((((w.alloc (JM #[.map (E bo),.map (E bs)] 173)).alloc (.map #[] 0)).alloc (.map #[] 0)).alloc (JM #[.slice (E ⟨g,o,JL⟩) (Z ts) c,.int .i64 0,.map (E (O w.1+1)),.map (E (O w.1+1+1))] 217));have X:Below (O w.1) w W3:=by rw[u];exact(((zC).alloc Js _).alloc Jq _).alloc Jq _
 have z3:O W3.1=O w.1+4:=by rw[u];simp
 have own3:W3.ownsMap Vb 221 CL bo (Z ns) l:=L.kept (row:=JL) ⟨X.os,X.tape,X.output,X.size,λi hi _=>X.block i hi⟩ Js;have s13:AI W3 (O w.1+1) 0 (λ_=>JL):=by rw[u];have:=AI.made (w.alloc (JM #[.map (E bo),.map (E bs)] 173));simp only[World.size_alloc]at this;exact(this.kept (zH zC JL) Js).kept (zH zC JL) Js
 have s23:AI W3 (O w.1+1+1) 0 (λ_=>JL):=by rw[u];have:=AI.made ((w.alloc (JM #[.map (E bo),.map (E bs)] 173)).alloc (.map #[] 0));simp only[World.size_alloc]at this;exact this.kept (zH zC JL) Js
 have pr3:Bo W3 (O w.1+1+1+1) g o (Z ts) c 0 (O w.1+1) (O w.1+1+1):=by rw[u];exact⟨Jg,Jg,Jg,Jg,Jg⟩
 have x3:W3.cell? ⟨O w.1,0,JL⟩=E (.map (E bo)):=by rw[u];simp[go_sem]
 obtain⟨w4,hS,s14,k4⟩:=s13.update (ty:=214) underlying214 Jm (t:=⟨#[40]⟩) Jd (.func (.func 163) #[.pointer (E ⟨O w.1+1+1+1,0,JL⟩)] #[]);have own4:=S (own3.kept (za k4) (λe=>by injection e;omega));have s24:=s23.kept (za k4) (λe=>by injection e;omega);have pr4:=pr3.keptO k4 I;have x4:w4.cell? ⟨O w.1,0,JL⟩=E (.map (E bo)):=(k4.cell I I 0).trans x3;have hU:Below (O w.1) w w4:=X.trans (k4.y X.size I);have z4:O w.1+4<=O w4.1:=Jy k4.size
 have hy:=S (yO s14 (yO s24 (yO pr4 hU)));have hQ:=S (show M0 (O w.1) bo (O w.1+1+1+1) (O w.1+1) (O w.1+1+1) (O w4.1) from⟨I,I,I,I,I,I,I,I,I,I,h7⟩);rw[u]at hS;clear s13 s23 pr3 x3 own3 X s14 s24 pr4 hU k4 z3 u hD;go_enter func115,ntmps115;go_wp2_with (at_range;refine wpList_range_own _ F _ 170 F 221 25 GY underlying170 CL bo (Z ns) l F own4 ?_;intro w0 hY a hE);have hn:=S (show C6 w w0 ns l bo (O w.1+1+1+1) (O w.1+1) (O w.1+1+1) (O w4.1) (Maps.size l+1) g o (Z ts) c (Maps.has l) (CT ns (Maps.has l)) (Maps.size l) (0+1) 0 (λt'=>if t'.data=(⟨#[40]⟩:JZ).data then E (.func (.func 163) #[.pointer (E ⟨O w.1+1+1+1,0,JL⟩)] #[]) else JL) (λ_=>JL) by
  obtain⟨h1,h2,h3,h4⟩:=D hy
  have m:Below (O w4.1) w4 w0:=⟨a.os,a.tape,a.output,a.size,λi hi=>a.block i hi Js⟩
  have hh:∀t k,CT ns (Maps.has l) t k=Vt:=λt k=>by
   unfold CT
   cases e:ZL ns t k with
   |false=>rfl
   |true=>
    obtain⟨j,hj,e1,e2⟩:=(DG _ _ _).1 e
    have:=((HD t k (by rw[<-e1];exact hu j hj) (by rw[<-e2];exact MM (hf j hj))).1).2 ⟨j,hj,e1,e2⟩
    rw[this];rfl
  refine⟨hY,λkl h=>h,h1.kept (zH m JL) Js,h2.kept (zH m JL) Js,I,I,⟨F,λt h5=>⟨λ_=>yS (λe=>h5 (Mu e)),λe=>?_⟩⟩,λt=>⟨λ_ _=>F,λe=>?_,λe=>?_⟩,h3.y m,I,h4.trans (m.mono h4.size)⟩
  .rw[hh]at e;cases e
  .rw[hh]at e;cases e
  .rw[hh]at e;cases e)
 have hs:Hid (Maps.size l<=1048576):=yy own4.size_le hm;clear hY a hy own4 x4 hS L h6;go_loopw [7] (λ_ wr=>∃(left:Lit->Bool)(Am m1 m2:Nat)(G1 G2:ByteArray->Option Value),Hid (C6 w wr ns l bo (O w.1+1+1+1) (O w.1+1) (O w.1+1+1) (O w4.1) (Maps.size l+1) g o (Z ts) c left (CT ns left) Am m1 m2 G1 G2)) (λ_ wr=>wr.rangeLeft bo (O w4.1));case atStart=>exact⟨_,_,_,_,_,_,hn⟩
 case round=>
  clear hn hE;obtain⟨left,Am,m1,m2,G1,G2,p⟩:=hrel;go_wp2_with (at_next;refine wpList_next_ranges _ F _ F 221 GY CL (λx:ByteArray×Int=>b9 #[.string x.1,.int .i64 x.2]) (λc:ByteArray×Int×Int×Int=>b9 #[.string c.1,.int .i64 c.2.1,.int .i64 c.2.2.1,.int .i64 c.2.2.2]) (λkey kl h=>Vu h) (λv y h=>Uq h) bo (O w4.1) (Z ns) l left Am F p.rg ?_ ?_)
  .intro hM h9;have hz:=S (p.done hQ h9 ht hg);have hB:=S p.bel;go_wp2;go_ret;exact⟨⟨_,_,_,F,I,S hz.1,S hz.2⟩,hB⟩
  .intro s kd s2 k2 l2 sd2 kl yd yp w1 cnt1 hR hv hp hr R hb hx h8 hH;obtain⟨s',kd',he,f,n⟩:=Sv hR;simp only[Value.agg.injEq,Array.mk.injEq,List.cons.injEq,Value.string.injEq,Value.int.injEq,true_and,and_true]at he;obtain⟨rfl,rfl⟩:=he;have hC:kl=AF s kd:=by have:=IG f n;rw[this]at hR;injection hR with hR;exact hR.symm
   subst hC;obtain⟨q,j,hj,hq,rfl,rfl,rfl,rfl,rfl,rfl⟩:∃q:Ad,∃j,j<Z ns/\r ns j=q/\s=q.s/\kd=q.k/\s2=q.s/\k2=q.k/\l2=q.l/\sd2=q.sd:=by obtain⟨j,hj,e⟩:=pW (HD s kd f n).2 (p.sub _ hv) hp hr;exact⟨_,j,hj,F,e⟩
   have M:=S (by rw[<-hq];exact P3 (hf j hj):q.k=1\/q.k=2\/q.k=3);have hG:Hid (q.s≠opn):=λe=>by have:=(RH (t:=opn) HV ⟨j,hj,by rw[hq];exact e⟩).1;revert this;decide
   have HB:=S (by rw[<-hq];exact zZU hj:ZL ns q.s q.k=Vp);have T:=S (tO (left:=left) hu hf f n HB);have hd:=S (p.next hQ R (λz h=>by simp only[jB]at h;exact h.1) hb (zE.of_grown hx));have hw:=S (by have:=p.n1;omega:m1+1+cnt1<=Maps.size l+1);have hc:=S (by have:=p.n2;omega:m2+1+cnt1<=Maps.size l+1);have ho:m1<maxLen:=by have:=D hw;have:=D hs;unfold maxLen;omega
   have N:m2<maxLen:=by have:=D hc;have:=D hs;unfold maxLen;omega
   have hF:=S p.rg.left_eq;have hV:Hid (∀b:Nat,(b:Int)-2=q.k->Al ns (rt b q.s)=q):=λb h=>by rw[<-hq]at h ⊢;exact za9 d hj h
   have A:q.s.size<=maxLen:=f;have hA:=S hb;have V:=S (hd.step (@zC w1 (JM #[.string q.s,.int .i64 q.k,.int .i64 q.l,.int .i64 q.sd] 25)));have K:=S (show Cy (w1.alloc (JM #[.string q.s,.int .i64 q.k,.int .i64 q.l,.int .i64 q.sd] 25)) (O w1.1) q from⟨Jg,Jg,Jg,Jg⟩);have belD:Below (O (w1.alloc (JM #[.string q.s,.int .i64 q.k,.int .i64 q.l,.int .i64 q.sd] 25)).1) (w1.alloc (JM #[.string q.s,.int .i64 q.k,.int .i64 q.l,.int .i64 q.sd] 25)) (w1.alloc (JM #[.string q.s,.int .i64 q.k,.int .i64 q.l,.int .i64 q.sd] 25)).drew:=(yN).drew;have hJ:O w4.1<O w1.1:=hd.sz;have hl:O w1.1≠0:=I;have hK:=V.pr.2.2.1;have hI:=V.pr.2.2.2.1;clear hR hv hp hr p hx hb hq f n hd R h8;have ha:O w4.1+1<=(w1.alloc (JM #[.string q.s,.int .i64 q.k,.int .i64 q.l,.int .i64 q.sd] 25)).drew.heap.size:=Jq;rcases D M with hk|hk|hk;focus
    have e1:(q.k==1)=Vp:=by rw[hk];rfl
    have HK:=S hk
    have hN:O w1.1≠O w.1+1:=I
    have C:=S (by have:=D T;rw[hk]at this ⊢;exact this:EM (CT ns left) (CT ns λz=>left z&&!z.sameKey (AF q.s q.k)) q.s 1)
    have B:=S (hV 3 (by rw[hk];decide))
    clear hk M HB
    go_wp2_with fail
    go_region_held (λw'=>w'.cell? ⟨O w.1+1+1+1,2,JL⟩=E (.map (E (O w.1+1)))/\w'.cell? ⟨O w1.1,0,JL⟩=E (.string q.s)/\w'.cell? ⟨O w1.1,1,JL⟩=E (.int .i64 q.k)/\w'.cell? ⟨O w1.1,2,JL⟩=E (.int .i64 q.l)/\w'.cell? ⟨O w1.1,3,JL⟩=E (.int .i64 q.sd)) (first|(go_keep;done)|exact⟨U.pr.2.2.1,Q.1,Q.2.1,Q.2.2.1,Q.2.2.2⟩|exact⟨hW.pr.2.2.1,H.1,H.2.1,H.2.2.1,H.2.2.2⟩|exact⟨V.pr.2.2.1,K.1,K.2.1,K.2.2.1,K.2.2.2⟩)
     (first|(go_at_call 164;refine(dX (O w.1+1+1+1) q _ A).mono ?_;rintro x w5 ⟨⟨v,rfl,HR⟩,hb5⟩;have hW:=S (V.step (belD.trans hb5));have H:=S (K.kept (zE.Q (g:=0) (belD.trans hb5)) hl);obtain⟨w6,hP,hO,P⟩:=hW.s1.update (ty:=214) underlying214 ho (t:=q.s) A v;have U:=S (hW.put1 hQ C hG (by rw[D B];exact(show EI _ w5 205 (O w.1+1+1+1) q v from HR).low ha) hw hO P);have Q:=S (H.kept P hN);clear hb5))
   rotate_left
   focus
    have e1:(q.k==1)=Vt:=by rw[hk];rfl
    have e2:(q.k==2)=Vp:=by rw[hk];rfl
    have HK:=S hk
    have hN:O w1.1≠O w.1+1+1:=I
    have C:=S (by have:=D T;rw[hk]at this ⊢;exact this:EM (CT ns left) (CT ns λz=>left z&&!z.sameKey (AF q.s q.k)) q.s 2)
    have B:=S (hV 4 (by rw[hk];decide))
    have hX:Hid (CT ns left q.s 3=Vt):=Wr h0 (by have:=D HB;rw[hk]at this;exact yW ⟨this,F⟩)
    clear hk M HB
    go_wp2_with fail
    go_region_held (λw'=>w'.cell? ⟨O w.1+1+1+1,3,JL⟩=E (.map (E (O w.1+1+1)))/\w'.cell? ⟨O w1.1,0,JL⟩=E (.string q.s)/\w'.cell? ⟨O w1.1,1,JL⟩=E (.int .i64 q.k)/\w'.cell? ⟨O w1.1,2,JL⟩=E (.int .i64 q.l)/\w'.cell? ⟨O w1.1,3,JL⟩=E (.int .i64 q.sd)) (first|(go_keep;done)|exact⟨U.pr.2.2.2.1,Q.1,Q.2.1,Q.2.2.1,Q.2.2.2⟩|exact⟨hW.pr.2.2.2.1,H.1,H.2.1,H.2.2.1,H.2.2.2⟩|exact⟨V.pr.2.2.2.1,K.1,K.2.1,K.2.2.1,K.2.2.2⟩)
     (first|(go_at_call 165;refine(eY (O w.1+1+1+1) q _ A).mono ?_;rintro x w5 ⟨⟨v,rfl,HR⟩,hb5⟩;have hW:=S (V.step (belD.trans hb5));have H:=S (K.kept (zE.Q (g:=0) (belD.trans hb5)) hl);obtain⟨w6,hP,hO,P⟩:=hW.s2.update (ty:=215) underlying215 N (t:=q.s) A v;have U:=S (hW.put2 hQ C hX (by rw[D B];exact(show Gs _ w5 206 (O w.1+1+1+1) q v from HR).low ha) hc hO P);have Q:=S (H.kept P hN);clear hb5))
   rotate_left
   focus
    have e1:(q.k==1)=Vt:=by rw[hk];rfl
    have e2:(q.k==2)=Vt:=by rw[hk];rfl
    have e3:(q.k==3)=Vp:=by rw[hk];rfl
    have HK:=S hk
    have hN:O w1.1≠O w.1+1+1:=I
    have C:=S (by have:=D T;rw[hk]at this ⊢;exact this:EM (CT ns left) (CT ns λz=>left z&&!z.sameKey (AF q.s q.k)) q.s 3)
    have B:=S (hV 5 (by rw[hk];decide))
    have hX:Hid (CT ns left q.s 2=Vt):=Wr h0 (by have:=D HB;rw[hk]at this;exact yX ⟨this,F⟩)
    clear hk M HB
    go_wp2_with fail
    go_region_held (λw'=>w'.cell? ⟨O w.1+1+1+1,3,JL⟩=E (.map (E (O w.1+1+1)))/\w'.cell? ⟨O w1.1,0,JL⟩=E (.string q.s)/\w'.cell? ⟨O w1.1,1,JL⟩=E (.int .i64 q.k)/\w'.cell? ⟨O w1.1,2,JL⟩=E (.int .i64 q.l)/\w'.cell? ⟨O w1.1,3,JL⟩=E (.int .i64 q.sd)) (first|(go_keep;done)|exact⟨U.pr.2.2.2.1,Q.1,Q.2.1,Q.2.2.1,Q.2.2.2⟩|exact⟨hW.pr.2.2.2.1,H.1,H.2.1,H.2.2.1,H.2.2.2⟩|exact⟨V.pr.2.2.2.1,K.1,K.2.1,K.2.2.1,K.2.2.2⟩)
     (first|(go_at_call 166;refine(dD (O w.1+1+1+1) q _ A).mono ?_;rintro x w5 ⟨⟨v,rfl,HR⟩,hb5⟩;have hW:=S (V.step (belD.trans hb5));have H:=S (K.kept (zE.Q (g:=0) (belD.trans hb5)) hl);obtain⟨w6,hP,hO,P⟩:=hW.s2.update (ty:=215) underlying215 N (t:=q.s) A v;have U:=S (hW.put3 hQ C hX (by rw[D B];exact(show EI _ w5 208 (O w.1+1+1+1) q v from HR).low ha) hc hO P);have Q:=S (H.kept P hN);clear hb5))
   all_goals
    go_wp2
    refine⟨⟨_,_,_,_,_,_,U⟩,?_⟩
    rw[D hF,(D U).rg.left_eq]
    exact hA
def Di(g s w e d):=
 (∃(a:Option Addr)(f:Nat)(b:Jj)(c p:Int),e=i9 (i5 #[b9 #[.slice a (Z b) f],G c,G p])/\Hid (ZS d (O w.1) a b)/\Hid (Zs g s b c p))/\Qb w d
def Di.empty{a c p}(h:Zs a s [] c p)(b:Qb w w'):Di a s w (i9 (i5 #[b9 #[Jl],G c,G p])) w':=
 ⟨⟨JL,0,[],c,p,F,S (show ZS w' (O w.1) JL [] from yW ⟨F,F⟩),S h⟩,b⟩
def J8(N M b c)(a:JY):=
 (a.cell? (J (N+1) 0)=E Jl/\a.frozen? (J (N+1) 0)=Vt)/\(a.cell? (J (N+1+1) 0)=E (G 0)/\a.frozen? (J (N+1+1) 0)=Vt)/\(a.cell? (J (N+1+1+1) 0)=E (G 0)/\a.frozen? (J (N+1+1+1) 0)=Vt) /\
 a.cell? (J M 0)=E (.map (E b))/\a.cell? (J M 1)=E (.map (E c))
def J8.keptO{N M g c}(h:J8 N M bo g b)(a:zE b c p)(u:N+4<=p)(i:M≠p):J8 N M bo g c:=by obtain⟨⟨d,o⟩,⟨e,q⟩,⟨f,s⟩,j,t⟩:=h;have k:N+1<O b.1:=jl d;have l:N+1+1<O b.1:=jl e;have m:N+1+1+1<O b.1:=jl f;have n:M<O b.1:=jl j;exact⟨⟨(a.cell k I 0).trans d,(a.frozen k I 0).trans o⟩,⟨(a.cell l I 0).trans e,(a.frozen l I 0).trans q⟩,⟨(a.cell m I 0).trans f,(a.frozen m I 0).trans s⟩,(a.cell n i 0).trans j,(a.cell n i 1).trans t⟩
def J8.y{N M c a}(h:J8 N M bo c b)(d:Qb b a):J8 N M bo c a:=by have f:M<O b.1:=jl h.2.2.2.1;have e:N+1+1+1<O b.1:=jl h.2.2.1.1;exact h.keptO (zE.Q (g:=O b.1) d) I I
def Pv{R:Ending->World->Prop}{N M m a h}(n:J8 N M bo m b)(H:∀d,d.cell? (J (N+1) 0)=E Jl->d.cell? (J (N+1+1) 0)=E (G a)->d.cell? (J (N+1+1+1) 0)=E (G h)->(results Tryz.f64 tmps).run Vb d=.ok (i5 #[b9 #[Jl],G a,G h]) d)(o:∀d,Below N b d->R (i9 (i5 #[b9 #[Jl],G a,G h])) d):Leaves Vb Tryz.f64 tmps R [{ target:=.fn (.func 109) #[Qp (N+1+1),Qp (N+1+1+1)],args:=#[] }] (.panicking [{ v:=.iface 207 (b9 #[G a,G h]),recovered:=Vt }]) b:=by
 obtain⟨⟨j,z⟩,⟨g,k⟩,⟨i,l⟩,_,_⟩:=n;have p:N+1<O b.1:=jl j;have q:N+1+1<O b.1:=jl g;have s:N+1+1+1<O b.1:=jl i;refine leaves_cons (f:=109) (args:=#[Qp (N+1+1),Qp (N+1+1+1)]) Js Jg ?_;refine(dO _ _ 0 0 a h _ g k i l I).mono ?_;rintro e A t ⟨rfl,rfl,u,c,rfl⟩;have w:=Jc c p j;have x:=Jc c q g;have y:=Jc c s i;refine⟨_,H _ ?_ ?_ ?_,o _ ?_⟩
 .rw[yj _ _ _ _ (λe=>by injection e with e;omega),yj _ _ _ _ (λe=>by injection e with e;omega)];exact w
 .rw[yj _ _ _ _ (λe=>by injection e with e;omega)];exact yu _ _ _ x
 .have y4:=(yj u (J (N+1+1) 0) (J (N+1+1+1) 0) (G a) (λe=>by injection e with e;omega)).trans y;exact yu _ _ _ y4
 .exact((c.mono I).setCell Jr _).setCell Jr _
def S7{R:Ending->World->Prop}{N}(h:(results Tryz.f64 tmps).run Vb b=.ok v b)(a:R (i9 v) b):Leaves Vb Tryz.f64 tmps R [{ target:=.fn (.func 109) #[Qp (N+1+1),Qp (N+1+1+1)],args:=#[] }] .returning b:=by refine leaves_cons (f:=109) (args:=#[Qp (N+1+1),Qp (N+1+1+1)]) Js Jg ?_;refine(nE _ _ _).mono ?_;rintro e d c ⟨rfl,rfl,rfl⟩;exact⟨v,h,a⟩
def bF(a w e d):=(∃(x y:Option Nat)(c:Int),e=i9 (i5 #[b9 #[.map x,.map y],G c])/\zM a c/\(c=0->∃bo b,x=E bo/\y=E b/\AH d bo b a (Z a)))/\Qb w d
def fA(a cap xs s w)(t:Z xs<=1048576)(hI:∀b,Qb w b->Calls Vb 111 #[b9 #[.slice a (Z xs) cap]] b (bF xs b))(hq:ZO xs)(hs:s.size<=maxLen):Calls Vb 64 #[b9 #[.slice a (Z xs) cap],W s] w (Di xs s w):=by
 have he:∀(fn:Fn)(first cap:Array Value)(w:JY),(Instr.makeFunc fn first cap).run Vb w=.ok (.func fn first cap) w:=λ_ _ _ _=>F
 have U:Qb w ((((w.alloc (JM #[.slice a (Z xs) cap] 45)).alloc (JM #[Jl] 40)).alloc (JM #[G 0] 3)).alloc (JM #[G 0] 3)):=(((zC).alloc Js _).alloc Jq _).alloc Jq _;have HX:=hI _ U;clear hI;have n:=S U;clear U;go_enter_defers func64,ntmps64;go_wp2_with fail;refine HX.mono ?_;clear HX;rintro e w1 ⟨⟨x,y,c,rfl,hc,hix⟩,hb1⟩;have HC:=S hc;have L:=S hix;have z1:O w.1+4<=O w1.1:=Jz hb1.size
 have l:Qb w w1:=n.trans (hb1.mono Jq);have t1:w1.cell? (J (O w.1+1) 0)=E Jl:=(hb1.cell (p:=(J (O w.1+1) 0)) Js).trans Jg;have u1:w1.frozen? (J (O w.1+1) 0)=Vt:=(hb1.frozen (p:=(J (O w.1+1) 0)) Js).trans Jg;have t2:w1.cell? (J (O w.1+1+1) 0)=E (G 0):=(hb1.cell (p:=(J (O w.1+1+1) 0)) Js).trans Jg;have u2:w1.frozen? (J (O w.1+1+1) 0)=Vt:=(hb1.frozen (p:=(J (O w.1+1+1) 0)) Js).trans Jg;have t3:w1.cell? (J (O w.1+1+1+1) 0)=E (G 0):=(hb1.cell (p:=(J (O w.1+1+1+1) 0)) Js).trans Jg;have u3:w1.frozen? (J (O w.1+1+1+1) 0)=Vt:=(hb1.frozen (p:=(J (O w.1+1+1+1) 0)) Js).trans Jg;have q:Qb w (w1.alloc (JM #[.map x,.map y] 173)):=l.alloc l.size _;have ht:=@zC w1 (JM #[.map x,.map y] 173);replace t1:=Jc ht I t1;replace u1:=Vf ht I u1;replace t2:=Jc ht I t2;replace u2:=Vf ht I u2;replace t3:=Jc ht I t3;replace u3:=Vf ht I u3;clear hc hix hb1 n;by_cases z:c=0;case neg=>
  have hd:(c != 0)=Vp:=Ju z
  have HN:Hid (¬ zM xs 0):=λh=>z (Z3 HC h)
  clear z;go_wp2_with fail;refine S7 (v:=i5 #[b9 #[Jl],G 1,G 0]) ?_ ?_
  .simp[results,results64,go_sem,t1,t2,t3]
  .exact Di.empty (yW ⟨HN,F,F,F⟩) (((q.setCell Jr _).setCell Jr _).setCell Jr _)
 subst z;obtain⟨bo,bs,rfl,rfl,d⟩:=(D L) F;by_cases C:20000<s.size
 .have hu:(20000:Int)<s.size:=I;have HN:=S C;clear L d C;go_wp2_with fail;refine S7 (v:=i5 #[b9 #[Jl],G 2,G 0]) ?_ ?_
  .simp[results,results64,go_sem,t1,t2,t3]
  .exact Di.empty (yX ⟨HC,yW ⟨HN,F,F,F⟩⟩) (((q.setCell Jr _).setCell Jr _).setCell Jr _)
 have P:s.size<=20000:=I;have hu:(s.size:Int)<=20000:=I;have HF:=S (show J8 (O w.1) (O w1.1) bo bs (w1.alloc (JM #[.map (E bo),.map (E bs)] 173)) from⟨⟨t1,u1⟩,⟨t2,u2⟩,⟨t3,u3⟩,Jg,Jg⟩);have K:=S (d.kept ht);have HX:=uZ bo bs xs s _ K HC hq P;clear L d ht t1 t2 t3 u1 u2 u3 C;go_wp2_with fail;refine HX.mono ?_;clear HX;rintro e w3 ⟨⟨g,cp,ts,rfl,⟨hg,hcp,hcpm⟩,hfil,hlex⟩,hb3⟩;have Q:=q.trans (hb3.mono q.size);replace HF:=S (HF.y hb3);replace K:=S (K.kept hb3);have hh:O w.1<=g:=by simp at hg;omega
 have hk:=hfil.1;have HT:Hid (Ci w3 g 0 ts):=hfil.2.2;have HR:=S (Ms hlex);have HZ:=S (Mi ts 0 hlex);have N:Z ts+Zm ts (Z ts)<=1048576:=Jy (D HR)
 have o:O w1.1+1<=O w3.1:=Jz hb3.size
 have HX:=eX g 0 cp ts w3 N hcp hcpm HT hk (λi hi=>Jy (((HZ) i hi).1));clear hb3 hfil HR hg q;go_wp2_with fail;refine HX.mono ?_;clear HX;rintro e w4 ⟨⟨i,hi,h6,hno,rfl⟩|⟨hno,rfl⟩,hb4⟩
 .refine Pv (D (S (HF.y hb4))) (λW' a hv c=>by simp[results,results64,go_sem,a,hv,c]) (λW' hb=>Di.empty (yX ⟨HC,yX ⟨P,ts,hlex,yW ⟨i,hi,h6,hno,F,F,F⟩⟩⟩) ((Q.trans (hb4.mono Q.size)).trans hb))
 replace HF:=S (HF.y hb4);replace K:=S (K.kept hb4);have j:=Q.trans (hb4.mono Q.size);replace HT:=S (HT.y hb4 hk);have f:=ym hk hb4.size;have hm:=yy o hb4.size;have A:=S hno;have HX:=dH bo bs g 0 cp xs ts w4 N hcp hcpm K HC HT (λi hi=>by have:=(D HZ) i hi;unfold maxLen;omega) f (λi hi=>Jy (((HZ) i hi).1)) (I1 ts 0 hlex);obtain⟨⟨t1,u1⟩,⟨t2,u2⟩,⟨t3,u3⟩,i0,i1⟩:=D HF;clear hb4 Q hno hk o;go_wp2_with fail;refine HX.mono ?_;clear HX t1 t2 t3 u1 u2 u3 i0 i1;rintro e w5 ⟨⟨i,hi,hfi,hro,rfl⟩|⟨hfit,rfl⟩,hb5⟩
 .refine Pv (D (S (HF.y hb5))) (λW' a hv c=>by simp[results,results64,go_sem,a,hv,c]) (λW' hb=>Di.empty (yX ⟨HC,yX ⟨P,ts,hlex,yX ⟨A,yW ⟨i,hi,hfi,hro,F,F,F⟩⟩⟩⟩) ((j.trans (hb5.mono j.size)).trans hb))
 replace HF:=S (HF.y hb5);replace K:=S (K.kept hb5);have hl:=j.trans (hb5.mono j.size);replace HT:=S (HT.y hb5 f);have hr:=ym f hb5.size;have ha:=yy hm hb5.size;have X:=S hfit;have HX:=eZ bo bs g 0 cp xs ts w5 K HC hq t HT hr;obtain⟨⟨t1,u1⟩,⟨t2,u2⟩,⟨t3,u3⟩,i0,i1⟩:=D HF;clear hb5 j hfit f hm;go_wp2_with fail;refine HX.mono ?_;clear HX t1 t2 t3 u1 u2 u3 i0 i1;rintro e w6 ⟨⟨p,bf,bb,rfl,hp,hpc,hpr⟩,hb6⟩;replace HF:=S (HF.y hb6);have H:=hl.trans (hb6.mono hl.size);have m:=S (xC HC (GN HC) P hlex X);have R:=S (by have:=m.all 0 (I1 ts 0 hlex).1;rw[Nat.sub_zero]at this;exact this:AW xs (Vt,0) (Aj xs ts 0 (Z ts)));obtain⟨res,u⟩:=Jx (RD xs 0 JL (Aj xs ts 0 (Z ts)));have HX:=mV m w6 R hpc hpr res u;have V:=S u;have hj:=hb6.size;have hf:O w.1+4<=O w5.1:=I;clear hb6 u R m hpc hpr;go_wp2_with fail;refine HX.mono ?_;clear HX;rintro e w7 ⟨hk7,⟨hn,rfl⟩|⟨T,hw,hsome,hgd,⟨hhi,rfl⟩|⟨hlo,g',c',rfl,hg',hfil⟩⟩⟩
 .have B:=S (HF.keptO hk7 I I);have ho:=H.trans (hk7.y H.size I);refine Pv B (λW' a hv c=>by simp[results,results64,go_sem,a,hv,c]) (λW' hb=>Di.empty (yX ⟨HC,yX ⟨P,ts,hlex,yX ⟨A,yX ⟨X,yW ⟨V.symm.trans hn,F,F,F⟩⟩⟩⟩⟩) (ho.trans hb))
 .have B:=S (HF.keptO hk7 I I);have ho:=H.trans (hk7.y H.size I);refine Pv B (λW' a hv c=>by simp[results,results64,go_sem,a,hv,c]) (λW' hb=>Di.empty (yX ⟨HC,yX ⟨P,ts,hlex,yX ⟨A,yX ⟨X,yX ⟨T,hw,V.symm.trans hsome,yW ⟨hhi,F,F,F⟩⟩⟩⟩⟩⟩) (ho.trans hb))
 have B:=S (HF.keptO hk7 I I);have ho:=H.trans (hk7.y H.size I);obtain⟨us,k⟩:=Jx (nd T 0);rw[<-k]at hfil;rw[<-k];have M:Hid (Zs xs s us 0 0):=yX ⟨HC,yX ⟨P,ts,hlex,yX ⟨A,yX ⟨X,yX ⟨T,hw,V.symm.trans hsome,yX ⟨hlo,k,F,F⟩⟩⟩⟩⟩⟩;obtain⟨⟨t1,u1⟩,⟨t2,u2⟩,⟨t3,u3⟩,i0,i1⟩:=D B;clear k hsome hlo V HF hk7 H A X HT K i0 i1 hgd;go_wp2_with fail;refine S7 (v:=i5 #[b9 #[Ql g' (Z us) c'],G 0,G 0]) ?_ ?_
 .simp[results,results64,go_sem,t1,t2,t3]
 .refine⟨⟨E (J g' 0),c',us,0,0,F,S (yX ⟨g',F,I,?_⟩),M⟩,((ho.setCell Jr _).setCell Jr _).setCell Jr _⟩;exact((hfil.setCell _ _ _ I).setCell _ _ _ I).setCell _ _ _ I
def gK(a c d s w)(h:Z d<=1048576)(e:∀b,Qb w b->Calls Vb 111 #[b9 #[.slice a (Z d) c]] b (bF d b))(H:ZO d)(f:s.size<=1048576):Calls Vb 64 #[b9 #[.slice a (Z d) c],W s] w (Di d s w):=
 fA a c d s w h e H Jm
