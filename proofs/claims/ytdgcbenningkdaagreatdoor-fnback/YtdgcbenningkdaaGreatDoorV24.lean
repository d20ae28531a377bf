import Derived.Test.YtdgcbenningkdaaGreatDoorTie
import Derived.Test.YtdgcbenningkdaaGreatDoorCards
import Derived.Test.YtdgcbenningkdaaGreatDoorV22
namespace Go.Proofs.YtdgcbenningkdaaGreatDoor
set_option linter.all false
set_option maxHeartbeats 0
set_option maxRecDepth 100000
open Proofs.Tryz RowKit
open Go.Deep (BT)
variable{N:Nat}{ms:List zF}{w:World}{xs:List Ad}
open _root_.Array renaming size→O
open List renaming length→Z
open Option renaming some→E,none→JL
open Obj renaming cells→JM
open Bool renaming false→Vt,true→Vp
open Proofs.Tryz renaming prog→Vb
def tH{o b a}(d:b.k=o.k)(H:∀n∈a,Da b n≠Vp):AV b o (AV o b a)=a:=by
 unfold AV;rw[List.map_map];have:∀n∈a,((λn=>if Da b n=Vp then(⟨n.k,o.s,n.a,n.b⟩:zD) else n) ∘ λn=>if Da o n=Vp then(⟨n.k,b.s,n.a,n.b⟩:zD) else n) n=n:=λn e=>by
  simp only[Function.comp];by_cases h:Da o n=Vp
  .rw[yU h];have c:=h;simp only[Da,jB,jM]at c;rw[yU (by simp only[Da,jB,jM];exact⟨by rw[d];exact c.1,by trivial⟩),<-c.2]
  .rw[yS h,yS (H n e)]
 rw[List.map_congr_left this,List.map_id']
def tI{o b}(h:b ∉ xs):Ar b o (Ar o b xs)=xs:=by
 unfold Ar;rw[List.map_map];have:∀x∈xs,((λx=>if ZH x b=Vp then o else x) ∘ λx=>if ZH x o=Vp then b else x) x=x:=λx hx=>by
  simp only[Function.comp];by_cases e:ZH x o=Vp
  .rw[yU e,yU (zZ.2 rfl)];exact(zZ.1 e).symm
  .rw[yS e,yS (λk=>h (by rw[<-zZ.1 k];exact hx))]
 rw[List.map_congr_left this,List.map_id']
theorem Tc{a n}:∀{k:Nat},n∈er a k->∃i,i<k/\(Y a i).k=n.k/\(Y a i).t=n.t
 |0,h=>by simp[er]at h
 |k+1,h=>by
  simp only[er]at h;split at h
  .obtain⟨i,hi,e⟩:=Tc h;exact⟨i,I,e⟩
  .rcases ju.1 h with h|h
   .obtain⟨i,hi,e⟩:=Tc h;exact⟨i,I,e⟩
   .simp only[jE]at h;exact⟨k,I,by rw[h];rfl,by rw[h];rfl⟩
def YW{x}(h:x∈xs):∃i,i<Z xs/\r xs i=x:=by obtain⟨i,a,rfl⟩:=List.mem_iff_getElem.1 h;exact⟨i,a,by simp[r,yq,a]⟩
def xM{u v o b s p}(N:Zs xs s u 0 p)(A:Zy u v Vp)(l:o∈xs)(B:b ∉ xs)(q:b=⟨b.s,o.k,o.l,o.sd⟩)(R:1<=b.k/\b.k<=3)(m:zM (Ar o b xs) 0):∀n∈v,Da b n≠Vp:=by
 intro n M g;simp only[Da,jB,jM]at g;rcases A with⟨_,_,rfl⟩|⟨_,h,_⟩;case inr=>cases h
 obtain⟨i,Q,w,x⟩:=Tc M;obtain⟨T,_,L,rfl,_,_,_⟩:=Ww N;have C:=uL L.well i Q ⟨I,I⟩;cases e:Ax xs (Y (nd T 0) i).t ((Y (nd T 0) i).k-2) with
 |none=>exact C e
 |some j=>
  obtain⟨k,f,z⟩:=ED e;rw[x,g.2]at f;have K:(r xs j).k=b.k:=by rw[z,w,g.1];omega
  obtain⟨P,H,a⟩:=YW l;have y:=PW m (j:=P) (t:=b.s) (kd:=b.k) (by rw[EY];exact H) (by rw[Qo H,a,yU (zZ.2 rfl)];exact⟨F,F⟩);by_cases c:ZH (r xs j) o=Vp
  .have c:=zZ.1 c;refine B ?_;have:b=o:=by rw[q,<-f,c]
   rw[this];exact l
  .have d:=PW m (j:=j) (t:=b.s) (kd:=b.k) (by rw[EY];exact k) (by rw[Qo k,yS c];exact⟨f,K⟩);rw[y]at d;injection d with d;subst d;exact c (zZ.2 a)
theorem WD{o}:∀{xs:Jf},Cl o xs=0->o ∉ xs
 |[],_=>Js
 |x::a,h=>by
  simp only[Cl]at h;have b:¬ ZH x o=Vp:=λe=>by rw[yU e]at h;omega
  have c:Cl o a=0:=I;intro d;rcases jH.1 d with e|e
  .exact b (zZ.2 e.symm)
  .exact WD c e
theorem YX{o b}:∀{xs:Jf},b ∉ xs->Cl b (Ar o b xs)=Cl o xs
 |[],_=>rfl
 |x::a,h=>by
  have c:=YX (o:=o) (b:=b) (xs:=a) (λk=>h (List.mem_cons_of_mem _ k));show(if ZH (if ZH x o=Vp then b else x) b=Vp then 1 else 0)+Cl b (Ar o b a)=_;rw[c];simp only[Cl];by_cases e:ZH x o=Vp
  .rw[yU e,yU e,yU (zZ.2 rfl)]
  .rw[yS e,yS e,yS (λk=>h (by rw[<-zZ.1 k];exact List.mem_cons_self))]
theorem WE{U o}:∀{n:Nat},Bk U o n=[]->∀i,i<n->o ∉ (Ah U i).os
 |0,_,i,hi=>I
 |n+1,h,i,hi=>by
  simp only[Bk,List.append_eq_nil_iff]at h;by_cases e:i=n
  .subst e;refine WD ?_;have:=yY List.length h.2;simpa using this
  .exact WE h.1 i I
theorem YY{U a o b}:∀{n:Nat},(∀i,i<n->(Ah a i).os=Ar o b (Ah U i).os/\b ∉ (Ah U i).os)->Bk a b n=Bk U o n
 |0,_=>rfl
 |n+1,h=>by simp only[Bk];rw[YY (λi c=>h i I),(h n I).1,YX (h n I).2]
theorem WF{o}:∀{xs:Jf},o ∉ xs->Cl o xs=0
 |[],_=>rfl
 |x::a,h=>by simp only[Cl];rw[WF (λk=>h (List.mem_cons_of_mem _ k)),yS (λk=>h (by rw[<-zZ.1 k];exact List.mem_cons_self))]
def QM.declared{q H m l b f U k s o p}(h:QM q ms H m b U l f k s o p):∃i,i<Z ms/\q.o∈zy b i:=by
 have c:=h.dc;unfold CD at c;cases e:Bk U q.o (Z ms) with
 |nil=>rw[e]at c;cases c
 |cons i a=>
  have g:=P6 U q.o (Z ms) i (by rw[e];simp);refine⟨i,g,?_⟩;have d:∀n,i∈Bk U q.o n->q.o∈(Ah U i).os:=by
   intro n;induction n with
   |zero=>intro h;simp[Bk]at h
   |succ n ih=>
    intro h;rcases ju.1 h with h|h
    .exact ih h
    .obtain⟨h0,rfl⟩:=List.mem_replicate.1 h;by_cases j:q.o∈(Ah U i).os
     .exact j
     .exact yV (WF j) h0
  exact h.ld.own h.un g _ (d _ (by rw[e];simp))
theorem VI{c U}{a:Nat->Jf}{d:Nat->Nat}{x}(e:Fj c U a)(f:∀i,i<Z c->∀u∈(Ah U i).us,An c u<Z c/\d (An c u)<d i)(hx:∀i,i<Z c->x ∉ (Ah U i).os):∀b i,i<Z c->d i<b->x ∉ a i
 |0,i,_,h=>I
 |b+1,i,hi,h=>by
  rw[e i hi,Lo];rintro(k|⟨u,g,k⟩)
  .rcases(Ze _ _).1 k with k|k
   .simp at k
   .exact hx i hi k
  .obtain⟨h1,h2⟩:=f i hi u g;exact VI e f hx b _ h1 I k
def ZI.from{b d U x}(h:ZI ms b 0 d)(l:ZG ms U)(hx:∀i,i<Z ms->x ∉ (Ah U i).os){i}(c:i<Z ms):x ∉ zy b i:=by obtain⟨V,a,m,k,g,e,j,_,rfl⟩:=h.parts;obtain rfl:=l.eq m;obtain⟨o,n,_⟩:=Ow g e j;rw[Z0 c];exact VI k (λi c u f=>⟨(NX c (e i c) f).1,n i c u f⟩) hx (o i+1) i c I
def tJ{x m q d}(h:Eb ms q x 0)(hk:q.k=1)(hD:∀U,ZG ms U->Bk U (ZU q) (Z ms)=[])(h2:Eb x ⟨1,q.m,ZU q,q.o.s,0,0⟩ m d):d=6\/(d=0/\∃M z wt w3,Zg ms M 0 wt/\Zg m z 0 w3/\Z M=Z ms/\Z z=Z ms/\∀i,i<Z ms->∃N,Zy (AM M i) N Vp/\Zy (AM z i) N Vp):=by
 obtain⟨M,s,U,t2,tb2,U2,wt,w1,w2,R⟩:=Oa h;have H:=R.top.len;have k:∀i,i<Z ms->ZU q ∉ (Ah U i).os:=WE (hD U R.un);have K:∀i,i<Z ms->ZU q ∉ zy s i:=λi l=>R.ld.from R.un k l
 have t:ZU q=⟨q.t,q.o.k,q.o.l,q.o.sd⟩:=by unfold ZU;rw[yU hk]
 have eb:ZU (⟨1,q.m,ZU q,q.o.s,0,0⟩:ZB)=q.o:=by rw[t];rfl
 obtain⟨i0,y,P⟩:=R.declared;have u:q.o≠ZU q:=λe=>K i0 y (e ▸ P)
 have hd:d=6\/d=0:=by
  obtain⟨ts',ct,wt',v,n⟩:=id h2;obtain⟨rfl,rfl,_⟩:=v.one R.tr2;rcases n with⟨hc,_⟩|⟨_,w,U',V,f,n⟩
  .exact yV F hc
  obtain rfl:=f.eq R.un2;obtain⟨rfl,_⟩:=V.one R.ld2;rcases n with⟨hF,_⟩|⟨_,n⟩
  .exact yV (yW ⟨F,F,F⟩) hF
  rcases n with⟨C,_⟩|⟨_,n⟩
  .refine yV ?_ C;have g:=R.dc;unfold CD at g ⊢;simp only;rw[H,YY (λi l=>⟨R.os i l,k i l⟩),<-g];exact List.map_congr_left λi l=>R.top.nm i (P6 _ _ _ i l)
  rcases n with⟨a,_⟩|⟨_,n⟩
  .rcases a with o|⟨i,l,_,o⟩
   .rw[eb]at o;obtain⟨j,hj,ej⟩:=YW P;have:=(No (R.ld.valid i0 y)).1 j hj;rw[ej,o]at this;cases this
   .rw[eb,R.sc i (by rw[<-H];exact l),Qd]at o;rcases o with⟨o,_⟩|⟨_,o⟩
    .exact yV o u
    .exact yV F o
  rcases n with⟨b,_⟩|⟨_,n⟩
  .obtain⟨i,l,_,c,hc,B⟩:=b;rw[H]at l;rw[eb,R.sc i l,tI (K i l)]at hc;exact yV (Z3 hc (R.ld.valid i l)) B
  obtain⟨ms',z,c2,w3,_,_,⟨_,_,rfl⟩|⟨_,_,rfl⟩⟩:=n
  .exact yW F
  .exact yX F
 rcases hd with rfl|rfl
 .exact yW F
 obtain⟨ts',w,U',z,tb3,U3,wt',w1',w3,Q⟩:=Oa h2;obtain⟨rfl,_⟩:=Q.tr.one R.tr2;obtain⟨rfl,_⟩:=Q.ld.one R.ld2;refine yX ⟨F,M,z,wt,w3,R.tr,Q.tr2,R.top.tl,Q.top.tl2.trans H,λi l=>?_⟩;have X:i<Z x:=by rw[H];exact l
 by_cases L:q.o∈zy s i
 .obtain⟨N,E1,E2⟩:=R.top.tch i l L;obtain⟨A,F1,T⟩:=Q.top.tch i X (by rw[R.sc i l,Qd];exact yW ⟨F,L⟩);obtain⟨rfl,_⟩:=F1.one E2;obtain⟨p,hp⟩:=(R.tr.parts R.ld R.un).2 i l;have hv:=R.ld2.valid i X;rw[R.sc i l]at hv;rw[eb,tH (by rw[t]) (xM hp E1 L (K i l) (by rw[t]) (MR R.ok).2.2 hv)]at T;exact⟨N,E1,T⟩
 .obtain⟨_,N,E1,E2⟩:=R.top.not i l L;obtain⟨_,A,F1,T⟩:=Q.top.not i X (by rw[R.sc i l,Tv L];exact K i l);obtain⟨rfl,_⟩:=F1.one E2;exact⟨_,E1,T⟩
def oM{P f b}{R:Ending->World->Prop}(h:Calls P f b w R):∃e c,R e c:=by obtain⟨e,c,_,a,_⟩:=h [];exact⟨e,c,a⟩
def tK{A}(h:A6 w N A)(l:A.size=9)(a b c d e f g i k):A6 (DD w N a b c d e f g i k) N #[a,b,c,d,e,f,g,i,k]:=
 ⟨λj m=>h.set9 l a b c d e f g i k j m,(((((((((h.put 0 a I).put 1 b Jq).put 2 c Jq).put 3 d Jq).put 4 e Jq).put 5 f Jq).put 6 g Jq).put 7 i Jq).put 8 k Jq).fz⟩
def Dq{b}(h:N≠b)(c d f g k l m n o j):(DD w N c d f g k l m n o).cell? (J b j)=w.cell? (J b j):=by
 have e:=λ(a:JY)(i:Nat)(v:Value)=>yj a (J N i) (J b j) v (λx=>by injection x with p;exact h p)
 unfold DD;simp only[e]
def oN{l}(h:Qb w l)(a:O w.1<=N)(b c d e f g i j k):Qb w (DD l N b c d e f g i j k):=
 ((((((((h.setCell a b).setCell a c).setCell a d).setCell a e).setCell a f).setCell a g).setCell a i).setCell a j).setCell a k
def M4{a b c d e f g i j}(h:A6 w N #[a,b,c,d,e,f,g,i,j]):w.cell? (J N 0)=E a/\w.cell? (J N 1)=E b/\w.cell? (J N 2)=E c/\w.cell? (J N 3)=E d/\w.cell? (J N 4)=E e/\w.cell? (J N 5)=E f/\w.cell? (J N 6)=E g/\w.cell? (J N 7)=E i/\w.cell? (J N 8)=E j/\∀o,w.frozen? (J N o)=Vt:=
 ⟨h.c 0 (Jd:0<9),h.c 1 (Jd:1<9),h.c 2 (Jd:2<9),h.c 3 (Jd:3<9),h.c 4 (Jd:4<9),h.c 5 (Jd:5<9),h.c 6 (Jd:6<9),h.c 7 (Jd:7<9),h.c 8 (Jd:8<9),h.fz⟩
def gP(a c0 f o w){p N}(hL:ZI f p 0 N)(hM:Cj w a f)(hz:Em f):Calls Vb 17 #[.slice a (Z f) c0,AJ o] w λe w'=>(∃(U:JC),e=.returned (.bool (decide (0<(Bk U o (Z f)).length)))/\Hid (ZG f U))/\Qb w w':=by
 obtain⟨X,y,_⟩:=hL.good;unfold AJ;obtain⟨b,l⟩:=Jx (w.alloc (JM #[W o.s,G o.k,G o.l,G o.sd] 25));have q:Qb w b:=by rw[l];exact zC
 have K:=S (by rw[l];exact A6.new _ _ _:A6 b (O w.1) #[W o.s,G o.k,G o.l,G o.sd]);have j:O w.1+1<=O b.1:=by rw[l];simp
 have d:=S (O0 a c0 f b.drew X ((hM.y q).y (yN).drew) hz y);have y0:b.cell? (J (O w.1) 0)=E (W o.s):=K.c 0 (Jd:0<4);have y1:b.cell? (J (O w.1) 1)=E (G o.k):=K.c 1 (Jd:1<4);have y2:b.cell? (J (O w.1) 2)=E (G o.l):=K.c 2 (Jd:2<4);have y3:b.cell? (J (O w.1) 3)=E (G o.sd):=K.c 3 (Jd:3<4);have x:=S q;clear hM hz y hL q;go_enter func17,ntmps17;go_wp2_with fail;rw[<-l];clear l;go_region_held3 (λV=>V.cell? (J (O w.1) 0)=E (W o.s)/\V.cell? (J (O w.1) 1)=E (G o.k)/\V.cell? (J (O w.1) 2)=E (G o.l)/\V.cell? (J (O w.1) 3)=E (G o.sd)) (first|(go_keep;done)|exact⟨P,R,T,y3'⟩|exact⟨s,t,u,z⟩)
  (first
   |(go_at_call 29;(with_reducible refine(D d).mono ?_);rintro e w1 ⟨g,c,vs,U,rfl,hg,L,M,A,B,k,m⟩;have h:Hid (Qb b w1):=(yN).drew.trans m;have P:=Jc h (I:O w.1<O b.1) y0;have R:=Jc h (I:O w.1<O b.1) y1;have T:=Jc h (I:O w.1<O b.1) y2;have y3':=Jc h (I:O w.1<O b.1) y3;have Q:=S (T5 g c vs U o w1 I L A B (λi hi=>(Jy ((Lu (k.2 i I)).1))));unfold AJ at Q;rw[M]at Q;clear m)
   |(go_at_call 28;(with_reducible refine(D Q).mono ?_);rintro e w2 ⟨⟨v,rfl,hv⟩,n⟩;have H:=S (h.trans (n.mono h.size));have s:=Jc H (I:O w.1<O b.1) y0;have t:=Jc H (I:O w.1<O b.1) y1;have u:=Jc H (I:O w.1<O b.1) y2;have z:=Jc H (I:O w.1<O b.1) y3;obtain⟨av,cv,rfl⟩:∃av cv,v=.slice av (Bk U o (Z f)).length cv:=(by obtain⟨_,⟨C,h2⟩|⟨g',cap',cur,C,_⟩⟩:=hv;exact⟨JL,0,by rw[C,h2]⟩;exact⟨_,_,C⟩);clear n hv))
 all_goals
  go_wp2
  go_ret
  exact⟨⟨U,Js,k⟩,x.trans (H.mono x.size)⟩
def zaA(a cap l w)(hl:Z l<=maxLen)(hs:Z l<=cap)(h:GZ w a l)(hm:CP w)(Hk:CH w):Calls Vb 4 #[.slice a (Z l) cap] w λe w'=>e=.returned (.bool Vp)/\Qb w w':=by
 by_cases HG:1048576<Z l
 .have hI:(1048576:Int)<Z l:=I;go_enter func4,ntmps4;go_wp2;go_ret;exact⟨F,yN⟩
 have hI:¬ (1048576:Int)<Z l:=I;have HM:=S (yO hm Hk);have HA:=S h;have j:=S (OW a cap l w I hs h);clear hm h Hk;go_enter func4,ntmps4;go_wp2_with fail;go_call D j as e w1 ⟨⟨g,c,ms,q,rfl,hm1,hm2,hq1,hq2,hq3,HD,HMZ,HR⟩,o⟩;obtain⟨W1,s⟩:=Jx (w1.alloc (JM (A5 q) 27));have bx:A6 W1 (O w1.1) (A5 q):=by rw[s];exact A6.new _ _ _
 have X:Qb w1 W1:=by rw[s];exact zC
 have hB:=S (o.trans (X.mono o.size));have ht:=S (HR.y X);have R:=S (HMZ.sized Jd Jd);have h5:=S (QT (E (J g 0)) c ms q W1 I ht.arg R I I);have HO:O w1.1+1<=O W1.1:=by rw[s];simp
 have HW:=S o.size;unfold Bt at h5 ⊢;unfold A5 at s;clear o X j HR;go_wp2_with fail;rw[<-s];go_call D h5 as e w2 ⟨rv,out,cw,rfl,HRF,_,m⟩;have hf:=S (hB.trans (m.mono hB.size));have Hh:=S (ht.y m);have Hf:=S (bx.same (m.block (O w1.1) I));have HS:=m.size;have j:=S (OW a cap l w2 I hs (HA.step hf));clear m h5 ht bx s hB;go_wp2_with fail;go_call D j as e w3 ⟨⟨g',c',ms',q',rfl,_,_,_,_,_,HD',_,HR'⟩,hb3⟩;obtain⟨rfl,rfl⟩:=M9.one HD HD';obtain⟨W3,hb⟩:=Jx (w3.alloc (JM (A5 q) 27));have X:Qb w3 W3:=by rw[hb];exact zC
 have b:=hb3.trans (X.mono hb3.size);have n:=S (hf.trans (b.mono hf.size));have hG:=S (Hh.y b);have hP:=S (Hf.same (b.block (O w1.1) I));have hH:=S (HR'.y X);have ha:=S (yO (HM.1.y n) (HM.2.y n));have y:=S (QS (E (J g' 0)) c' ms q W3 (λhn=>⟨hn,hH.arg,R,ha.1⟩) R I I ha.1 ha.2 HRF);have HI:=b.size;unfold Bt at y ⊢;unfold A5 at hb;clear hb3 X b j Hh HR' Hf HD' hf;go_wp2_with fail;rw[<-hb];go_call D y as e w4 ⟨⟨ov,rfl,hro⟩,hb4⟩;have T:=S (n.trans (hb4.mono n.size));have Hp:=S (hG.y hb4);have x:=S (hP.same (hb4.block (O w1.1) I));have HL:=hb4.size;have ecc:(cw != cw)=Vt:=Js;obtain⟨ao,co,h1,hU⟩:=hro.argV;clear hb4 y hG hP hH ha n hb hro;by_cases hc:cw=0;case neg=>
  subst h1;have HJ:(cw != 0)=Vp:=Ju hc
  clear hc;go_wp2;go_ret;exact⟨F,T⟩
 subst hc;obtain⟨H3,tabs,U0,t2,tb2,U2,wt0,wl,wn,HP⟩:=Oa HRF;have h2:=HP.top.len;rw[h2]at h1;subst h1;have HP:=S HP;have hZ:=S hU;clear hU;have q0:=x.c 0 (Jd:0<9);have q1:=x.c 1 (Jd:1<9);have q2:=x.c 2 (Jd:2<9);have q3:=x.c 3 (Jd:3<9);have q4:=x.c 4 (Jd:4<9);have q5:=x.c 5 (Jd:5<9);have q6:=x.c 6 (Jd:6<9);have q7:=x.c 7 (Jd:7<9);have q8:=x.c 8 (Jd:8<9);simp only[A5,jr,jm,jp]at q0 q1 q2 q3 q4 q5 q6 q7 q8;by_cases L:q.k=1;case neg=>
  have H5:(q.k != 1)=Vp:=Ju L
  clear L;go_wp2;go_ret;exact⟨F,T⟩
 have H5:(q.k != 1)=Vt:=by simp[L]
 obtain⟨bq,f⟩:=Jx (ZU q);have Hw:=S L;have K:=S (RY q w4);rw[<-f]at K;have qb:=S f;unfold Bt AJ at K;clear L f;go_wp2_with fail;go_call D K as e w5 ⟨rfl,hb5⟩;have hu:=S (T.trans (hb5.mono T.size));have h4:=S (Hp.y hb5);have Ho:=S (x.same (hb5.block (O w1.1) I));have hM:=S (hZ.y hb5);have HQ:=hb5.size;have j:=S (gP (E (J g 0)) c ms bq w5 HP.ld h4.arg R);unfold AJ at j;clear hb5 K Hp x hZ T q0 q1 q2 q3 q4 q5 q6 q7 q8;go_wp2_with fail;go_call D j as e w6 ⟨⟨U,rfl,HUO⟩,hb6⟩;have h9:=S (hu.trans (hb6.mono hu.size));have H9:=S (h4.y hb6);have Q:=S (Ho.same (hb6.block (O w1.1) I));have Ht:=S (hM.y hb6);have HX:=hb6.size;clear hb6 j h4 Ho hM hu;by_cases hd:0<(Bk U bq (Z ms)).length;case pos=>
  have qa:decide (0<(Bk U bq (Z ms)).length)=Vp:=decide_eq_true hd;rw[qa];clear hd qa;go_wp2;go_ret;exact⟨F,h9⟩
 have qa:decide (0<(Bk U bq (Z ms)).length)=Vt:=decide_eq_false hd;rw[qa];have Hq:=S (show ∀V,ZG ms V->Bk V (ZU q) (Z ms)=[] from λV hV=>by
  obtain rfl:=hV.eq HUO
  rw[<-D qb]
  exact jg.1 I)
 clear hd qa;have q0:=Q.c 0 (Jd:0<9);have q1:=Q.c 1 (Jd:1<9);have q2:=Q.c 2 (Jd:2<9);have q3:=Q.c 3 (Jd:3<9);have q4:=Q.c 4 (Jd:4<9);have q5:=Q.c 5 (Jd:5<9);have q6:=Q.c 6 (Jd:6<9);have q7:=Q.c 7 (Jd:7<9);have q8:=Q.c 8 (Jd:8<9);simp only[A5,jr,jm,jp]at q0 q1 q2 q3 q4 q5 q6 q7 q8;obtain⟨bk,t⟩:∃bk:ZB,Hid (bk=⟨1,q.m,bq,q.o.s,0,0⟩):=⟨_,S F⟩;go_wp2_with fail;go_cut [11] (λpv wx=>∃N7:Nat,pv = Qp N7/\Hid (A6 wx N7 (A5 bk))/\Hid (Qb w6 wx));case first=>
  have K:=S (λqc=>RY q qc);have f:=D qb;rw[<-f]at K;unfold Bt AJ at K;clear f;have N:O w1.1<O w6.1:=I;have hy:Hid (Qb w6 (w6.alloc (JM #[G 0,W ⟨#[]⟩,W ⟨#[]⟩,G 0,G 0,G 0,W ⟨#[]⟩,G 0,G 0] 27)).drew):=(@zC w6 _).drew;have Hz:=S (λ(qc:JY)(h:Below (O w6.drew.1) w6.drew qc)=>(show Qb w6 qc from(yN).drew.trans h));have Hu:=S (λ(qc:JY)(h:Below (O ((w6.alloc (JM #[G 0,W ⟨#[]⟩,W ⟨#[]⟩,G 0,G 0,G 0,W ⟨#[]⟩,G 0,G 0] 27)).drew).1) (w6.alloc (JM #[G 0,W ⟨#[]⟩,W ⟨#[]⟩,G 0,G 0,G 0,W ⟨#[]⟩,G 0,G 0] 27)).drew qc)=>yO (show Qb w6 qc from hy.trans (h.mono hy.size)) (show A6 qc (O w6.1) #[G 0,W ⟨#[]⟩,W ⟨#[]⟩,G 0,G 0,G 0,W ⟨#[]⟩,G 0,G 0] from((A6.new w6 #[G 0,W ⟨#[]⟩,W ⟨#[]⟩,G 0,G 0,G 0,W ⟨#[]⟩,G 0,G 0] 27).same (w':=(w6.alloc (JM #[G 0,W ⟨#[]⟩,W ⟨#[]⟩,G 0,G 0,G 0,W ⟨#[]⟩,G 0,G 0] 27)).drew) F).same (h.block (O w6.1) (by show O w6.1<O (w6.alloc (JM #[G 0,W ⟨#[]⟩,W ⟨#[]⟩,G 0,G 0,G 0,W ⟨#[]⟩,G 0,G 0] 27)).1;simp))));obtain⟨q0d,q1d,q2d,q3d,q4d,q5d,q6d,q7d,q8d,_⟩:=M4 (Q.same (w':=w6.drew) F);obtain⟨q0a,q1a,q2a,q3a,q4a,q5a,q6a,q7a,q8a,_⟩:=M4 (Q.same (w':=(w6.alloc (JM #[G 0,W ⟨#[]⟩,W ⟨#[]⟩,G 0,G 0,G 0,W ⟨#[]⟩,G 0,G 0] 27)).drew) (hy.block (O w1.1) N));have P:O w6.1≠O w1.1:=I;go_region_held3 (λV=>V.cell? (J (O w1.1) 0)=E (G q.k)/\V.cell? (J (O w1.1) 1)=E (W q.m)/\V.cell? (J (O w1.1) 2)=E (W q.o.s)/\V.cell? (J (O w1.1) 3)=E (G q.o.k)/\V.cell? (J (O w1.1) 4)=E (G q.o.l)/\V.cell? (J (O w1.1) 5)=E (G q.o.sd)/\V.cell? (J (O w1.1) 6)=E (W q.t)/\V.cell? (J (O w1.1) 7)=E (G q.l)/\V.cell? (J (O w1.1) 8)=E (G q.sd)) (first|(go_keep;done)|exact⟨q0',q1',q2',q3',q4',q5',q6',q7',q8'⟩|exact⟨q0b,q1b,q2b,q3b,q4b,q5b,q6b,q7b,q8b⟩|exact⟨q0a,q1a,q2a,q3a,q4a,q5a,q6a,q7a,q8a⟩|exact⟨(Dq u _ _ _ _ _ _ _ _ _ 0).trans q0b,(Dq u _ _ _ _ _ _ _ _ _ 1).trans q1b,(Dq u _ _ _ _ _ _ _ _ _ 2).trans q2b,(Dq u _ _ _ _ _ _ _ _ _ 3).trans q3b,(Dq u _ _ _ _ _ _ _ _ _ 4).trans q4b,(Dq u _ _ _ _ _ _ _ _ _ 5).trans q5b,(Dq u _ _ _ _ _ _ _ _ _ 6).trans q6b,(Dq u _ _ _ _ _ _ _ _ _ 7).trans q7b,(Dq u _ _ _ _ _ _ _ _ _ 8).trans q8b⟩|exact⟨(Dq P _ _ _ _ _ _ _ _ _ 0).trans q0',(Dq P _ _ _ _ _ _ _ _ _ 1).trans q1',(Dq P _ _ _ _ _ _ _ _ _ 2).trans q2',(Dq P _ _ _ _ _ _ _ _ _ 3).trans q3',(Dq P _ _ _ _ _ _ _ _ _ 4).trans q4',(Dq P _ _ _ _ _ _ _ _ _ 5).trans q5',(Dq P _ _ _ _ _ _ _ _ _ 6).trans q6',(Dq P _ _ _ _ _ _ _ _ _ 7).trans q7',(Dq P _ _ _ _ _ _ _ _ _ 8).trans q8'⟩)
   (first
    |(go_at_call 14;(with_reducible refine((D K) _).mono ?_);rintro e w7 ⟨rfl,hb7⟩;(first|(with_reducible have H:=(D Hz) w7 hb7)|(with_reducible have hh:=(D Hu) w7 hb7;have H:=hh.1;obtain⟨e0,e1,e2,e3,e4,e5,e6,e7,e8,ez⟩:=M4 hh.2;have hR:=S hh.2;clear hh));replace H:=S H;obtain⟨q0',q1',q2',q3',q4',q5',q6',q7',q8',_⟩:=M4 (Q.same (H.block (O w1.1) N));have HN:=H.size;obtain⟨f0,f1,f2,f3,f4,f5,f6,f7,f8,nfz⟩:=M4 (A6.new w7 #[G 0,W ⟨#[]⟩,W ⟨#[]⟩,G 0,G 0,G 0,W ⟨#[]⟩,G 0,G 0] 27);have u:O w7.1≠O w1.1:=I;obtain⟨q0b,q1b,q2b,q3b,q4b,q5b,q6b,q7b,q8b,_⟩:=M4 (Q.same (w':=w7.alloc (JM #[G 0,W ⟨#[]⟩,W ⟨#[]⟩,G 0,G 0,G 0,W ⟨#[]⟩,G 0,G 0] 27)) ((H.alloc H.size (JM #[G 0,W ⟨#[]⟩,W ⟨#[]⟩,G 0,G 0,G 0,W ⟨#[]⟩,G 0,G 0] 27)).block (O w1.1) N));clear hb7))
  all_goals
   go_wp2
   go_meet
   case rel=>
    have H0:=D t;subst H0
    first
     |(have _:=hR;exact⟨O w6.1,F,S (tK hR F (G 1) (W q.m) (W bq.s) (G bq.k) (G bq.l) (G bq.sd) (W q.o.s) (G 0) (G 0)),S (oN H yk (G 1) (W q.m) (W bq.s) (G bq.k) (G bq.l) (G bq.sd) (W q.o.s) (G 0) (G 0))⟩)
     |exact⟨O w7.1,F,S (A6.new w7 _ _),S (H.alloc H.size _)⟩
 case rest=>
  obtain⟨w7,H4⟩:=Jx wc;subst H4;obtain⟨N7,rfl,qd,qf⟩:=hcut;have H:=S (h9.trans (qf.mono h9.size));have Hi:=S (H9.y qf);have h3:=S (Ht.y qf);have HK:=(MR HP.ok).2.1;have H6:=HP.tr2.sized;have hz:Em out:=H6.2;obtain⟨_,_,_,fst,d,_,h7,_,_⟩:=oM (QT ao co out bk w7 I h3 hz (by rw[D t];simp only;rw[D qb];omega) (by rw[D t];simp only;omega));have y:=QS ao co out bk w7 (λhn=>⟨hn,h3,hz,HM.1.y H⟩) hz (by rw[D t];simp only;rw[D qb];omega) (by rw[D t];simp only;omega) (HM.1.y H) (HM.2.y H) h7;rw[h2]at y;have y:=S y;unfold Bt at y;have x0:=qd.c 0 (Jd:0<9);have x1:=qd.c 1 (Jd:1<9);have x2:=qd.c 2 (Jd:2<9);have x3:=qd.c 3 (Jd:3<9);have x4:=qd.c 4 (Jd:4<9);have x5:=qd.c 5 (Jd:5<9);have x6:=qd.c 6 (Jd:6<9);have x7:=qd.c 7 (Jd:7<9);have x8:=qd.c 8 (Jd:8<9);simp only[A5,jr,jm,jp]at x0 x1 x2 x3 x4 x5 x6 x7 x8;clear q0 q1 q2 q3 q4 q5 q6 q7 q8;go_wp2_with fail;go_call D y as e w8 ⟨⟨fv,rfl,hfr⟩,hb8⟩;have hi:=S (H.trans (hb8.mono H.size));have hD:=S (Hi.y hb8);obtain⟨af,cf,rfl,hY⟩:=hfr.argV;have Hg:=S hY;have hx:=D h7;rw[D t,D qb]at hx;clear hb8 y Hi h3 qd x0 x1 x2 x3 x4 x5 x6 x7 x8 hY hfr;rcases tJ HRF Hw Hq hx with rfl|⟨rfl,ts,t3,wt,w3',hT,hQ,hW,Hc,hE⟩
  .go_wp2;go_ret;exact⟨F,hi⟩
  clear hx;have e1:=(HP.tr.one hT).1;subst e1;obtain⟨_,_,_,t3',tb3,U3,_,_,w3n,z⟩:=Oa h7;have e3:=(z.tr2.one hQ).1;subst e3;have Hy:Z fst=Z ms:=z.top.len.trans h2;have z:=S z;have HE:=S hE;have Hm:=S (Ng (E (J g 0)) c ms w8 I hD.arg R);clear hT hQ hE;go_wp2_with fail;go_call D Hm as e w9 ⟨tv,ts',ct,wt',rfl,HTI,HTR,hb9⟩;obtain⟨rfl,rfl,rfl⟩:=HP.tr.one HTI;have he:=S (hi.trans (hb9.mono hi.size));have hF:=S (Hg.y hb9);have Hj:=S HTR.at';have HU:=hb9.size;have K:=Q7 af cf fst w9 (λhn=>⟨hn,hF,z.tr2.sized.2,HM.1.y he⟩) z.tr2;rw[Hy]at K;have K:=S K;clear hb9 Hm hD Hg HTR HTI hi;go_wp2_with fail;go_call D K as e w10 ⟨nv,rfl,HTN,hb10⟩;have hj:=S (he.trans (hb10.mono he.size));have hp:=S (Hj.y hb10);have ho:=S HTN.at';have HH:=hb10.size;obtain⟨at',ct',Ha,_⟩:=id hp;obtain⟨an,cn,hO,_⟩:=id ho;rw[hW]at Ha;rw[Hc]at hO;subst Ha hO;have emm:((Z ms:Int)!=Z ms)=Vt:=Js;clear hb10 K Hj HTN he hF;go_wp2;go_loopw [20] (λiv wr=>∃(k:Nat),k<=Z ms/\iv=G k/\Hid (Qb w10 wr)) (λiv _=>Z ms-(intOf iv).toNat);case atStart=>exact⟨0,yn,F,S yN⟩
  case round=>
   obtain⟨k,hk,rfl,M⟩:=hrel;by_cases qe:k<Z ms;case neg=>
    have HB:¬ (k:Int)<Z ms:=I;go_wp2;go_ret;exact⟨F,hj.trans (M.mono hj.size)⟩
   have HB:(k:Int)<Z ms:=I;obtain⟨p1,Hd⟩:=(HP.tr.parts HP.ld HP.un).2 k qe;obtain⟨Hv,Hr,h8⟩:=Lm Hd;obtain⟨p2,hX⟩:=(z.tr2.parts z.ld2 z.un2).2 k I;obtain⟨H7,HC,h0⟩:=Lm hX;obtain⟨us,hg,hA⟩:=(D HE) k qe;obtain⟨gt,x1,d1,rfl,hS,y1,Hn⟩:=(hp.y M).get (i:=k) (by rw[hW];exact qe);obtain⟨b1,f1,rfl,h6,o⟩:=Hn.resolve_left I;obtain⟨gn,x2,d2,rfl,HV,y2,hJ⟩:=(ho.y M).get (i:=k) (by rw[Hc];exact qe);obtain⟨b2,f2,rfl,hw,m⟩:=hJ.resolve_left I;obtain⟨T1,hC⟩:=Jx (AM H3 k);obtain⟨T2,hK⟩:=Jx (AM t3' k);rw[<-hC]at Hv Hr h8 h6 y1 hg;rw[<-hK]at H7 HC h0 hw y2 hA;have HT:=hg.lens.1;have Hs:=S hg;have Hb:=S hA;have Hl:=S (Ud b2 f2 d2 T2 wr I hw h0 m);have hN:=S h6;have He:=S h8;have H1:=M.size;clear hw h0 hK hX hJ m hC Hd Hn h6 h8 hg hA;go_wp2_with fail;go_call D Hl as e w11 ⟨⟨a11,c11,u11,v11,rfl,HO11,HE11⟩,hb11⟩;obtain⟨rfl,rfl⟩:=Hb.one HE11;obtain⟨W11,B⟩:=Jx (w11.alloc (JM #[.slice a11 (Z us) c11] 40));have X:Qb w11 W11:=by rw[B];exact zC
   have p:=hb11.trans (X.mono hb11.size);have c11':W11.cell? (J (O w11.1) 0)=E (.slice a11 (Z us) c11):=by rw[B];simp[go_sem]
   have y11:=Jc p hS y1;have hq:=S (M.trans (p.mono H1));have HF:O w11.1+1<=O W11.1:=by rw[B];simp
   have hr:=ym hS p.size;have H2:=S (((HO11.step X).arg));have Hx:=S (Ve b1 f1 d1 T1 W11.drew I (hN.y p.drew o) He (ym o p.size));clear hb11 X p y2 Hl HO11 HE11 Hb hN He;go_wp2_with fail;rw[<-B];clear B y1;go_cut [130] from 105 to 130 (λbv wz=>bv=.bool Vt/\Hid (Qb W11 wz));case first=>
    go_region_held3 (λqc=>qc.cell? (J (O w11.1) 0)=E (.slice a11 (Z us) c11)/\qc.cell? (J gt k)=E (Je b1 f1 (Z T1) d1)) (first|(go_keep;done)|exact⟨c12',y12'⟩|exact⟨c13',y13'⟩)
     (first
      |((fail_if_success go_at_K);go_at_call 11;(with_reducible refine(D Hx).mono ?_);rintro e w12 ⟨⟨a12,c12,u12,v12,rfl,HO12,HE12⟩,hb12⟩;obtain⟨rfl,rfl⟩:=Hs.one HE12;have A:Hid (Qb W11 w12):=(yN).drew.trans hb12;have c12':=Jc A (I:O w11.1<O W11.1) c11';have y12':=Jc A hr y11;have H8:=S (T7 a11 a12 c11 c12 us us w12 I I (H2.y A) HO12.arg);clear hb12 HO12 HE12)
      |((fail_if_success go_at_K);go_at_call 16;(with_reducible refine(D H8).mono ?_);rintro e w13 ⟨⟨v,rfl,hv⟩,hb13⟩;obtain rfl:v=Vp:=(Ju hv);have C:=S (A.trans (hb13.mono A.size));have c13':=Jc C (I:O w11.1<O W11.1) c11';have y13':=Jc C hr y11;clear hb13 hv))
    all_goals
     go_wp2
     go_meet
     case rel=>exact⟨F,C⟩
   case rest=>obtain⟨rfl,C⟩:=hcut;clear c11' y11;go_wp2;exact⟨⟨k+1,I,Jn,S (hq.trans (C.mono hq.size))⟩,Ji⟩
open Go Go.ChangeShapes Go.WideShapes Go.ChangeAt Go.Joins
def zaB(h:laidMetH Vb Rows.fnBackRow.laid w):CH w:=by rw[MakeChecks.laidMetH_plain _ _ _ (by kernel_rfl)]at h;obtain⟨_,⟨_,_,_,_,_,_,_,_,_,_,⟨_,_,_,_,_,_,_,_,_,_,⟨g,t,f,a,p,_,c,d,e,b,_⟩,_⟩,_⟩,_⟩:=h;have H:prog.globalNamed "internal/strconv.uint64pow10" = E 5:=Jk;obtain rfl:=jz (H.symm.trans c);have K:(prog.globals[5]?).map (·.type)=E 340:=Jk;obtain rfl:=jz (K.symm.trans d);unfold CH Lib.TabIs;rw[e,<-Lib.cells_of_tab (k:=.u64) (zs:=Lib.pow10Tab) underlying340 underlying316 Jk Jk b]
theorem BkP.lifted(N)(z:N.Started)(H)(s:TypeId×Value->H):ReturnsInHanded {} Tryz.checked N 4 .any (λw n=>(Rows.fnBackSpec.pre s Vb Tryz.f4 Rows.fnBackRow.domain Vt w n/\laidMetH Vb Rows.fnBackRow.laid w)/\sizedMet s Vb Tryz.f4 (OpenSpec.ofChange Rows.fnBackSpec) Vt w n)
   (Rows.fnBackSpec.post s Vb Tryz.f4 Vt Vp Vt Vt):=by
 refine returnsInHanded_of_calls (C:=Tryz.checked) ByP.own z Jk
  (ChangeSpec.witness_shaped (enc:=s) (C:=Tryz.checked) (os:=N) (X:=λw _=>laidMetH Vb Rows.fnBackRow.laid w) Vt (World.laidAll Vb N Rows.fnBackRow.laid) #[Jl] 8 (World.laidAll_os _ _ _)
   (World.shaped_of_ZipB Jk Jk) Jk Jk Jk
   (by rw[MakeChecks.laidMetH_plain _ _ _ (by kernel_rfl)];exact laidMet_laidAll _ Jk Jk)) ?_
 intro w o i _ U _ A P _;obtain⟨_,_,_,fn',f,_,_,_,_,y⟩:=A;obtain rfl:fn'=Tryz.f4:=jz (f.symm.trans func4);obtain⟨⟨⟨ds,gs,R,hw,_⟩,k⟩,_⟩:=P;have hW:=DataW.Whole.of_heap (w':=w.forCall o i) (by rfl) hw;have hT:CH (w.forCall o i):=CH.heap (zaB k) F;suffices hc:Calls Vb 4 i.args (w.forCall o i) λe T=>∃v,e=.returned v/\Rows.fnBackSpec.post s Vb Tryz.f4 Vt Vp Vt Vt (w.forCall o i) i.args v T from
  hc.mono λe T ⟨v,he,hp⟩=>by subst he;exact ChangeSpec.post_blind hp
 generalize w.forCall o i=g at *;generalize i.args=n at *;have Q:∀(j:Nat) t v,Tryz.f4.params[j]?=E t->n[j]?=E v->Value.okWide Vb g .any (O w.1) t v:=y;have b:=hW;obtain⟨p,q,V,hV,rfl,c,B⟩:=hW;have hA:DataW.TrodAll s Vb g 0 (λ_=>Vp) Vp Tryz.f4.params.toList n.toList ds p:=V;rw[Tryz.params4]at hA Q;obtain⟨v0,d,d0,ds0,p0,q0,u,rfl,rfl,h0,r0⟩:=trodAll_cons hA;obtain⟨rfl,rfl,rfl⟩:=trodAll_nil r0;obtain rfl:n=#[v0]:=by cases n;simp_all
 obtain⟨rfl,rfl⟩:=trodVars_none hV;have k0:=h0;have lt0:∀x∈p0,x.block<O g.1:=by obtain⟨m,hm⟩:=k0;exact DataW.trod_lt m _ _ _ hm
 obtain⟨a,len,M,rfl⟩:=okWide_slice underlying22 (Q 0 22 v0 F rfl);obtain⟨a',K,l,e,e1,e2,e3⟩:∃(a':Option Addr)(K:Nat)(l:Jw),[Value.slice a len M]=[.slice a' (Z l) K]/\Z l<=maxLen/\Z l<=K/\GZ g a' l:=by obtain⟨fuel,hf⟩:=h0;exact UG hf
 simp at e;obtain⟨rfl,rfl,rfl⟩:=e;refine(zaA a M l g e1 e2 e3 (YV U) hT).mono λe T ⟨he,L⟩=>?_
 subst he;exact⟨_,F,_,_,_,[],_,[],b,trodAll_mk1 (shut_bool underlying4 _),(trodAll_cons_mk (Below.trod ByP.laidOut Jk (jN Jk) k0 L lt0) trodAll_mk0),F,L.frame _,λh=>by cases h⟩
def tL:Rows.FnBackSaid:=
 OpenClaim.holds_of_wide 4 Tryz.f4 F rfl rfl rfl rfl rfl rfl ⟨F,F,F,F,F⟩ F rfl rfl rfl rfl (by as_aux_lemma=>kernel_rfl) func4 (by as_aux_lemma=>kernel_rfl)
  (jN (by as_aux_lemma=>kernel_rfl)) (by unfold Func.isWrapper;first|(rw[yU (by as_aux_lemma=>decide +kernel)];kernel_rfl)|(rw[yS (by as_aux_lemma=>decide +kernel)];exact⟨F,F⟩))
  (λc a H b _=>BkP.lifted c a H b)
theorem back_holds:Rows.FnBackCardSaid:=
 Claim7.holds_tied_plain_at .later [] [.data,.data,.data,.data,.sentinel,.sentinel,.pinned] Vp Rows.fnBackCard.stood.harness Vp
  tL (λ_ h=>by cases h) (by as_aux_lemma=>kernel_rfl) (λ_ h=>by cases h) fnBack_row_tie F ⟨F,F⟩ (by as_aux_lemma=>kernel_rfl) F
  (λf b c K=>by
   obtain rfl:f=4:=jz ((Jk:prog.funcNamed "loop.example/s0059/laws.FnBack" = E 4).symm.trans c) |>.symm
   obtain rfl:b=Tryz.f4:=(jz (Tryz.func4.symm.trans K)).symm
   exact⟨Jk,λj t a=>by
    rw[Tryz.params4]at a
    have d:t∈[22]:=Ju (Array.mem_of_getElem? a)
    have H:([22].all λu=>!prog.wantsStandIn u)=Vp:=Jk
    exact(by simpa using List.all_eq_true.1 H t d:prog.wantsStandIn t=Vt)⟩)
  (by as_aux_lemma=>kernel_rfl)
#print axioms back_holds
