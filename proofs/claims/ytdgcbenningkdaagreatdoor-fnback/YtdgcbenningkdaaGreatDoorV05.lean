import Derived.Deep.RegionHeld3
import Derived.Test.YtdgcbenningkdaaGreatDoorV02
import Derived.Test.YtdgcbenningkdaaGreatDoorV03
import Derived.Test.YtdgcbenningkdaaGreatDoorV04
namespace Go.Proofs.YtdgcbenningkdaaGreatDoor
set_option linter.all false
set_option maxHeartbeats 0
set_option maxRecDepth 100000
open Proofs.Tryz RowKit
variable{a:Option Addr}{g rp:Nat}{w w' w1:World}
open _root_.Array renaming size→O
open List renaming length→Z
open Option renaming some→E
open Obj renaming cells→JM
open Bool renaming false→Vt,true→Vp
open Proofs.Tryz renaming prog→Vb
open Value renaming agg→b9,ownBlock→i8
structure K2(w a:JY)(b g:Nat):Prop where
 os:a.os=w.os
 tape:a.tape=w.tape
 output:a.output=w.output
 size:O w.1<=O a.1
 block:∀i,i<O w.1->i≠b->i≠g->a.heap[i]?=w.heap[i]?
def K2.of1(h:zE w w' rp):K2 w w' rp g:=⟨h.os,h.tape,h.output,h.size,λi b a _=>h.block i b a⟩
def K2.ofB(h:Qb w w'):K2 w w' rp g:=⟨h.os,h.tape,h.output,h.size,λi a _ _=>h.block i a⟩
def K2.trans{w k l e g d}(h:K2 w k e g)(c:K2 k l e d)(f:d=g\/O w.1<=d):K2 w l e g:=
 ⟨c.os.trans h.os,c.tape.trans h.tape,c.output.trans h.output,yy h.size c.size,λi j a b=>(c.block i (ym j h.size) a (by rcases f with rfl|f;exact b;omega)).trans (h.block i j a b)⟩
def K2.row{k d}(h:K2 w w1 rp g)(c:w1.grownBy k (E d))(f:d=g\/O w.1<=d):K2 w k rp g:=
 ⟨c.os.trans h.os,c.tape.trans h.tape,c.output.trans h.output,yy h.size c.size,λi j a b=>(c.block i (ym j h.size) (λe=>by injection e with e;rcases f with rfl|f;exact b e;omega)).trans (h.block i j a b)⟩
def K2.cell{w c a g}(h:K2 w c a g){b}(f:b<O w.1)(d:b≠a)(e:b≠g)(o):c.cell? (J b o)=w.cell? (J b o):=yv (w:=w) (h.block b f d e)
def K2.frozen{w c a g}(h:K2 w c a g){b}(f:b<O w.1)(d:b≠a)(e:b≠g)(o):c.frozen? (J b o)=w.frozen? (J b o):=yG (w:=w) (h.block b f d e)
def Az.row{b p c}(h:Az w rp a b c p)(d:w.grownBy w' (E g))(j:rp<g):Az w' rp a b c p:=
 h.kept (λi f=>d.block i (Jy h.lt) (λe=>by injection e with e;omega))
def Iz(k:Nat):zD:=if k%2=0 then⟨2,(⟨#[97,98,99,100,95,57]⟩:JZ).extract (k/2%4) (k/2%4+1+k/8%3),0,0⟩ else⟨1,(⟨#[48,49,55,50]⟩:JZ).extract (k/2%4) 4,0,0⟩
def SR(w:JY)(h c:Nat)(a)(j:Jw)(B g:Nat)(q:Nat)(i:Jj)(e:Ending)(d:JY):=
 ∃b f,e=.returned (Ql b (Z i) f)/\Hid (AS d B b f i)/\(b=g\/O w.1<=b)/\Hid (Az d h a c j q)/\Hid (K2 w d h g)
def Vj(n m p B g c a l f w)(h:Az w n a m l p)(hl:Z l<=1200)(hm:Z f<=100000)(M:AS w B g c f)(hB:B<=O w.1)(V:n<B):Calls Vb 193 #[Qp n,Ql g (Z f) c] w (SR w n m a l B g (Ac l p) (f++[Iz (Af l p)])):=by
 have N:=S (EX n m p a l w h hl);have hg:=M.lt;obtain⟨s,y⟩:∃s,Hid (s=f++[Iz (Af l p)]):=⟨_,S F⟩;rw[<-D y];go_enter func193,ntmps193;go_wp2_with fail;go_call D N as e w1 ⟨⟨k,rfl,hk,A⟩,z,i⟩;have z1:=i.size;have j:=S (M.kept i I);by_cases L:k%2=0;focus
  have R:((k:Int)%2==0)=Vp:=Jq
  have T:(0:Int)<=k/2%4:=I
  have U:(k:Int)/2%4<=(k:Int)/2%4+1+(k:Int)/8%3:=I
  have e3:(k:Int)/2%4+1+(k:Int)/8%3<=6:=I
  have t:=S (by rw[D y,<-D A];unfold Iz;rw[yU L]:s=f++[⟨2,(⟨#[97,98,99,100,95,57]⟩:JZ).extract (k/2%4) (k/2%4+1+k/8%3),0,0⟩])
  go_wp2_with (at_builtin;refine As BB underlying38 (.tmp 11) (.tmp 25) F rfl B _ (Z f) (zO f) F (j.y zC) (J (O w1.1) 0) 1 1 (zO [⟨2,(⟨#[97,98,99,100,95,57]⟩:JZ).extract (k/2%4) (k/2%4+1+k/8%3),0,0⟩]) F rfl (Zh w1 ⟨2,(⟨#[97,98,99,100,95,57]⟩:JZ).extract (k/2%4) (k/2%4+1+k/8%3),0,0⟩) (zf _) Jm I Jq ?_)
  intro v4 u K H q x
  obtain⟨o,C,rfl,X⟩:=AS.snoc K (by simp[q]) t
  have d:=S X
  have Q:World.grownBy _ u (E g):=H
  have b:=S ((z.y (@zC w1 (JM #[G (⟨2,(⟨#[97,98,99,100,95,57]⟩:JZ).extract (k/2%4) (k/2%4+1+k/8%3),0,0⟩:zD).k,W (⟨2,(⟨#[97,98,99,100,95,57]⟩:JZ).extract (k/2%4) (k/2%4+1+k/8%3),0,0⟩:zD).t,G 0,G 0] 108))).row Q I)
 rotate_left
 focus
  have R:((k:Int)%2==0)=Vt:=Jq
  have T:(0:Int)<=k/2%4:=I
  have U:(k:Int)/2%4<=4:=I
  have t:=S (by rw[D y,<-D A];unfold Iz;rw[yS L]:s=f++[⟨1,(⟨#[48,49,55,50]⟩:JZ).extract (k/2%4) 4,0,0⟩])
  go_wp2_with (at_builtin;refine As BB underlying38 (.tmp 27) (.tmp 33) F rfl B _ (Z f) (zO f) F (j.y zC) (J (O w1.1) 0) 1 1 (zO [⟨1,(⟨#[48,49,55,50]⟩:JZ).extract (k/2%4) 4,0,0⟩]) F rfl (Zh w1 ⟨1,(⟨#[48,49,55,50]⟩:JZ).extract (k/2%4) 4,0,0⟩) (zf _) Jm I Jq ?_)
  intro v4 u K H q x
  obtain⟨o,C,rfl,X⟩:=AS.snoc K (by simp[q]) t
  have d:=S X
  have Q:World.grownBy _ u (E g):=H
  have b:=S ((z.y (@zC w1 (JM #[G (⟨1,(⟨#[48,49,55,50]⟩:JZ).extract (k/2%4) 4,0,0⟩:zD).k,W (⟨1,(⟨#[48,49,55,50]⟩:JZ).extract (k/2%4) 4,0,0⟩:zD).t,G 0,G 0] 108))).row Q I)
 all_goals
  have v:=S (((K2.of1 (g:=g) i).trans (K2.ofB (@zC w1 _)) (yW F)).row Q (yW F))
  have P:o=g\/O w.1<=o:=by simp[i8]at x;omega
  go_wp2
  go_ret
  exact⟨o,C,F,d,P,b,v⟩
def AP(a:Jw)(c:Jf)(b:Bool):Nat->Nat->Jj->Nat×Jj
 |0,p,us=>(Ac a (Ac a p),us++[Iz (Af a (Ac a p))])
 |d+1,p,us=>
  if Z a<=Ac a p\/Af a p%8=0\/Z c=0 then(Ac a (Ac a p),us++[Iz (Af a (Ac a p))])
  else if b=Vp/\Af a p%8=1 then((AP a c b d (Ac a p) us).1,(AP a c b d (Ac a p) us).2++[⟨6,⟨#[]⟩,((AP a c b d (Ac a p) us).2.length:Int)-1,0⟩])
  else if(r c (Af a p/8%(Z c))).k=2 then
   ((AP a c b d (AP a c b d (Ac a p) us).1 (AP a c b d (Ac a p) us).2).1,(AP a c b d (AP a c b d (Ac a p) us).1 (AP a c b d (Ac a p) us).2).2++[⟨(r c (Af a p/8%(Z c))).k+2,(r c (Af a p/8%(Z c))).s,((AP a c b d (Ac a p) us).2.length:Int)-1,((AP a c b d (AP a c b d (Ac a p) us).1 (AP a c b d (Ac a p) us).2).2.length:Int)-1⟩])
  else((AP a c b d (Ac a p) us).1,(AP a c b d (Ac a p) us).2++[⟨(r c (Af a p/8%(Z c))).k+2,(r c (Af a p/8%(Z c))).s,((AP a c b d (Ac a p) us).2.length:Int)-1,0⟩])
theorem NY(b e a):∀(d p:Nat)(c:Jj),Z c+1<=(AP b e a d p c).2.length/\(AP b e a d p c).2.length+1<=Z c+2 ^ (d+1)
 |0,p,c=>by simp[AP]
 |d+1,p,c=>by
  have f:=NY b e a d (Ac b p) c;have g:=NY b e a d (AP b e a d (Ac b p) c).1 (AP b e a d (Ac b p) c).2;have h:(2:Nat) ^ (d+1+1)=2 ^ (d+1)*2:=Nat.pow_succ ..;have i:2<=2 ^ (d+1):=Jy (Nat.pow_le_pow_right (Jd:0<2) (I:1<=d+1))
  simp only[AP];split
  .simp only[yr,yB,je];omega
  .split
   .simp only[yr,yB,je];omega
   .split
    .simp only[yr,yB,je];omega
    .simp only[yr,yB,je];omega
theorem VX(rp cap gt ct a bs ns grp)(hl:Z bs<=1200)(hK:Z ns<=1048576)(U:gt≠rp)(hE:∀j,j<Z ns->0<=(r ns j).k/\(r ns j).k<=9):∀(d p B g c:Nat)(us:Jj)(w:JY),d<=10->Z us+2 ^ (d+1)<=100000->Az w rp a cap bs p->AS w B g c us->B<=O w.1->rp<B->gt<B->Au w gt 0 ns ->
  Calls Vb 144 #[Qp rp,b9 #[Ql gt (Z ns) ct],G d,.bool grp,Ql g (Z us) c] w (SR w rp cap a bs B g (AP bs ns grp d p us).1 (AP bs ns grp d p us).2)
 |0,p,B,g,c,us,w,_,hm,hrd,hr,hB,hrp,hgt,ho=>by
  have hM:=hrd.lt;have HR:=S (hr.y (@zC w (JM #[Ql gt (Z ns) ct] 45)));have HX:=S (EX rp cap p a bs _ (hrd.y (@zC w (JM #[Ql gt (Z ns) ct] 45))) hl);have hg:=hr.lt;clear hrd hr ho;go_enter func144,ntmps144;go_wp2_with fail;go_call D HX as e w1 ⟨⟨k,rfl,hk,HK⟩,H1,HP1⟩;have z1:O w.1+1<=O w1.1:=by have:=HP1.size;simpa using this
  have C:=S (Vj rp cap (Ac bs p) B g c a bs us w1 H1 hl I (HR.kept HP1 I) I hrp);have qi:=S ((K2.ofB (rp:=rp) (g:=g) (@zC w (JM #[Ql gt (Z ns) ct] 45))).trans (K2.of1 (g:=g) HP1) (yW F));clear HX HR H1 HP1;go_wp2_with fail;go_call D C as e w2 ⟨g',c',rfl,hr2,hg2,N,hk2⟩;go_wp2;go_ret;exact⟨g',c',(by simp[AP]),hr2,I,N,S (qi.trans hk2 (yW F))⟩
 |d+1,p,B,g,c,us,w,hd,hm,hrd,hr,hB,hrp,hgt,ho=>by
  have hM:=hrd.lt;have hg:=hr.lt;have He:(2:Nat) ^ (d+1+1)=2 ^ (d+1)*2:=Nat.pow_succ ..;have h6:Z us+2 ^ (d+1)<=100000:=I;have Hk:Z us<=99998:=Jy (Nat.pow_le_pow_right (Jd:0<2) (I:1<=d+1))
  have N:d<=10:=I;have hH:=S hm;have hn:=S (VX rp cap gt ct a bs ns grp hl hK U hE d);have qa:=@zC w (JM #[Ql gt (Z ns) ct] 45);have HR:=S (hr.y qa);have HO:=S (ho.y qa I);have HX:=S (EX rp cap p a bs _ (hrd.y qa) hl);have hx:=S qa;have Hh:((d:Int)+1==0)=Vt:=Jq;obtain⟨y1,y2,hy⟩:∃y1 y2,AP bs ns grp (d+1) p us=(y1,y2):=⟨_,_,F⟩;have HY:=S hy;rw[hy];clear hrd hr ho qa hy;go_enter func144,ntmps144;go_wp2_with fail;go_call D HX as e w1 ⟨⟨k,rfl,hk,HK⟩,H1,HP1⟩;have z1:O w.1+1<=O w1.1:=by have:=HP1.size;simpa using this
  have hz:=S (HR.kept HP1 I);have h0:=S (HP1.ops HO Jq U);have t1:w1.cell? (J (O w.1) 0)=E (Ql gt (Z ns) ct):=(HP1.cell (b:=O w.1) Js I 0).trans Jg;have qi:=S ((K2.ofB (rp:=rp) (g:=g) hx).trans (K2.of1 (g:=g) HP1) (yW F));have hp:=S (MC rp cap (Ac bs p) a bs w1 H1 hl);obtain⟨L,hL⟩:=Jx (Z bs-Ac bs p);rw[<-hL]at hp;have HL:=S hL;clear HX HR HO HP1 hx hL;go_wp2_with fail;go_call D hp as e w2 ⟨rfl,H2,hb2⟩;have z2:=hb2.size;have qe:=S (hz.y hb2);have qd:=S (h0.y hb2 I);have t2:=Jc hb2 (I:O w.1<O w1.1) t1;have qc:=S (qi.trans (K2.ofB (rp:=rp) (g:=g) hb2) (yW F));clear hp H1 hz h0 t1 qi hb2;by_cases P:L=0\/k%8=0\/Z ns=0
  .have C:=S (Vj rp cap (Ac bs p) B g c a bs us w2 H2 hl I qe I hrp);obtain⟨rfl,hC⟩:y1=Ac bs (Ac bs p)/\y2=us++[Iz (Af bs (Ac bs p))]:=by have e:=D HY;simp only[AP]at e;rw[yU (by rw[<-D HK];rcases P with h|h;exact yW (Jy (D HL));exact yX h)]at e;injection e with e1 e2;exact⟨e1.symm,e2.symm⟩
   rw[<-hC]at C;clear hC HY;by_cases h1:L=0
   .subst h1;clear P;go_wp2_with fail;go_call D C as e w3 ⟨g',c',rfl,hr3,hg3,hd3,hk3⟩;go_wp2;go_ret;exact⟨g',c',F,hr3,I,hd3,S (qc.trans hk3 (yW F))⟩
   .have hW:¬ (L:Int)<=0:=I;by_cases h2:k%8=0
    .have e8:((k:Int)%8==0)=Vp:=Jq;clear P h2;go_wp2_with fail;go_call D C as e w3 ⟨g',c',rfl,hr3,hg3,hd3,hk3⟩;go_wp2;go_ret;exact⟨g',c',F,hr3,I,hd3,S (qc.trans hk3 (yW F))⟩
    .have e8:((k:Int)%8==0)=Vt:=Jq;have h3:Z ns=0:=I;have e9:((Z ns:Int)==0)=Vp:=by simp[h3]
     clear P h2 h3;go_wp2_with fail;go_call D C as e w3 ⟨g',c',rfl,hr3,hg3,hd3,hk3⟩;go_wp2;go_ret;exact⟨g',c',F,hr3,I,hd3,S (qc.trans hk3 (yW F))⟩
  .have hZ:L≠0:=λh=>P (yW h)
   have hS:k%8≠0:=λh=>P (yX (yW h))
   have Hg:Z ns≠0:=λh=>P (yX (yX h))
   have ht:=S (by rw[<-D HK];have:=D HL;omega:¬ (Z bs<=Ac bs p\/Af bs p%8=0\/Z ns=0));have hW:¬ (L:Int)<=0:=I;have e8:((k:Int)%8==0)=Vt:=Jq;have e9:((Z ns:Int)==0)=Vt:=jc.2 I;have hf:=S (hn (Ac bs p) B g c us w2 N h6 H2 qe I hrp hgt qd);obtain⟨q1,H,hq⟩:∃q1 H,AP bs ns grp d (Ac bs p) us=(q1,H):=⟨_,_,F⟩;have f:=NY bs ns grp d (Ac bs p) us;rw[hq]at hf f;have HQ:=S hq;clear P hq hZ;by_cases Q:grp=Vp/\k%8=1
   .obtain⟨rfl,h8⟩:=Q;have e81:((k:Int)%8==1)=Vp:=Jq;obtain⟨rfl,hh⟩:y1=q1/\y2=H++[⟨6,⟨#[]⟩,(Z H:Int)-1,0⟩]:=by have e:=D HY;simp only[AP]at e;rw[yS (D ht),yU (by rw[<-D HK];first|exact⟨rfl,h8⟩|exact⟨trivial,h8⟩),D HQ]at e;injection e with e1 e2;exact⟨e1.symm,e2.symm⟩
    have hQ:=S hh;clear hh h8 hS;go_wp2_with fail;go_call D hf as e w3 ⟨g1,c1,rfl,hr1,hg1,hd1,hk1⟩;have z3:=hk1.size;have hP:=hr1.lt;have hV:1<=Z H:=Jy f.1
    have hX:Z H<=100000:=Jy f.2
    have hu:=S (qc.trans hk1 (yW F));go_wp2_with (at_builtin;refine As BB underlying38 (.tmp 50) (.tmp 55) F rfl B _ (Z H) (zO H) F (hr1.y zC) (J (O w3.1) 0) 1 1 (zO [⟨6,⟨#[]⟩,(Z H:Int)-1,0⟩]) F rfl (Zh w3 ⟨6,⟨#[]⟩,(Z H:Int)-1,0⟩) (zf _) Jm I Jq ?_);intro v4 w4 x K X qg;obtain⟨g4,c4,rfl,l⟩:=AS.snoc x (by simp[X]) hQ;have V:=S l;have Q:World.grownBy _ w4 (E g1):=K;have y:=S ((hd1.y (@zC w3 (JM #[G 6,W ⟨#[]⟩,G ((Z H:Int)-1),G 0] 108))).row Q I);have u:=S ((hu.trans (K2.ofB (rp:=rp) (g:=g) (@zC w3 _)) (yW F)).row Q I);have M:g4=g\/O w.1<=g4:=by simp[i8]at qg;omega
    clear x K Q X l qg;go_wp2;go_ret;exact⟨g4,c4,F,V,M,y,u⟩
   .obtain⟨m,R⟩:=Jx (k/8%(Z ns));have h4:m<Z ns:=by rw[R];exact Nat.mod_lt _ I
    have e4:(k:Int)/8%(Z ns:Int)=m:=by rw[R];simp
    have e5:(m:Int)<Z ns:=I;have e6:(0:Int)<=m:=I;have e7:IntKind.i64.wrap ((k:Int)/8)=(k:Int)/8:=Go.IntWalk.i64_in _ I;have e10:((k:Int)/8).tmod (Z ns:Int)=m:=by rw[yA I];exact e4
    obtain⟨a0,a1,a2,a3⟩:=(D qd) m h4;simp only[jd]at a0 a1 a2 a3;obtain⟨o,T⟩:=Jx (r ns m);rw[<-T]at a0 a1 a2 a3;have hJ:0<=o.k/\o.k<=9:=by rw[T];exact hE m h4
    obtain⟨Hj,hF⟩:=hJ;have t:=S (show(y1,y2)=(if o.k=2 then((AP bs ns grp d q1 H).1,(AP bs ns grp d q1 H).2++[⟨o.k+2,o.s,(Z H:Int)-1,((AP bs ns grp d q1 H).2.length:Int)-1⟩]) else(q1,H++[⟨o.k+2,o.s,(Z H:Int)-1,0⟩])) by
     have e:=D HY
     simp only[AP]at e
     rw[yS (D ht),yS (by rw[<-D HK];exact Q),<-D HK,<-R,<-T,D HQ]at e
     exact e.symm)
    obtain⟨q2,q,hc⟩:∃q2 q,AP bs ns grp d q1 H=(q2,q):=⟨_,_,F⟩;have n:=NY bs ns grp d q1 H;rw[hc]at t n;have hI:=S hc;have h7:=S n;clear hc n;have hA:grp=Vt\/(grp=Vp/\((k:Int)%8==1)=Vt):=by
     cases grp
     .exact yW F
     .refine yX ⟨F,?_⟩;have:k%8≠1:=λh=>Q ⟨F,h⟩
      simp;omega
    clear Q R T hf;have hw:gt<O w2.1:=I;rcases hA with rfl|⟨rfl,e81⟩;all_goals
     have nn1:=jA w2 _ t2
     have nn2:=jA w2 _ a0
     go_wp2_with fail
     go_region_held3 (λqf=>qf.cell? (J (O w.1) 0)=E (Ql gt (Z ns) ct)/\qf.cell? (J gt (m*4))=E (W o.s)/\qf.cell? (J gt (m*4+1))=E (G o.k)/\qf.cell? (J gt (m*4+2))=E (G o.l)/\qf.cell? (J gt (m*4+3))=E (G o.sd)) (go_keep) (fail)
     all_goals
      obtain⟨W4,s⟩:=Jx ((w2.alloc (JM #[W o.s,G o.k,G o.l,G o.sd] 25)).drew)
      rw[<-s]
      have A:Qb w2 W4:=by rw[s];exact(zC).drew
      have z4:O w2.1+1<=O W4.1:=by rw[s];simp
      have t4:W4.cell? (J (O w.1) 0)=E (Ql gt (Z ns) ct):=Jc A (I:O w.1<O w2.1) t2
      have p0:W4.cell? (J (O w2.1) 0)=E (W o.s):=by rw[s];simp[go_sem]
      have p1:W4.cell? (J (O w2.1) 1)=E (G o.k):=by rw[s];simp[go_sem]
      have y:=S (H2.y A)
      have V:=S (qe.y A)
      have ha:=S (qd.y A hw)
      have u:=S (qc.trans (K2.ofB (rp:=rp) (g:=g) A) (yW F))
      have hO:O w.1<O W4.1:=I
      have hU:O w2.1<O W4.1:=I
      have nn3:=jA W4 _ t4
      have nn4:=jA W4 _ p0
      clear s A a0 a1 a2 a3 nn1 nn2 t2 H2 qe qd qc
      have z:=@zC W4 (JM #[G (o.k+2),W o.s,G 0,G 0] 108)
      have hj:=S (hn (Ac bs p) B g c us _ N h6 (y.y z) (V.y z) Jq hrp hgt (ha.y z I))
      rw[D HQ]at hj
      have hv:=S (u.trans (K2.ofB (rp:=rp) (g:=g) z) (yW F))
      clear y V z
      go_wp2_with fail
      go_call D hj as e w6 ⟨g1,c1,rfl,hr1,hg1,hd1,hk1⟩
      have z6:O W4.1+1<=O w6.1:=by have:=hk1.size;simpa using this
      have hP:=hr1.lt
      have Hb:g1=g\/O W4.1+1<=g1:=by simp at hg1;omega
      have kc:=λ(b:Nat)(hb:b<O W4.1+1)(h1:b≠rp)(h2:b≠g)(o':Nat)=>hk1.cell (b:=b) Jq h1 h2 o'
      have n0:w6.cell? (J (O W4.1) 0)=E (G (o.k+2)):=(kc _ I I I 0).trans Jg
      have n1:w6.cell? (J (O W4.1) 1)=E (W o.s):=(kc _ I I I 1).trans Jg
      have n2:w6.cell? (J (O W4.1) 2)=E (G 0):=(kc _ I I I 2).trans Jg
      have n3:w6.cell? (J (O W4.1) 3)=E (G 0):=(kc _ I I I 3).trans Jg
      have nf:∀o',w6.frozen? (J (O W4.1) o')=Vt:=λo'=>(hk1.frozen (b:=O W4.1) Js I I o').trans Jg
      have o1:w6.cell? (J (O w2.1) 1)=E (G o.k):=(kc _ I I I 1).trans (Jc (@zC W4 _) hU p1)
      have t6:w6.cell? (J (O w.1) 0)=E (Ql gt (Z ns) ct):=(kc _ I I I 0).trans (Jc (@zC W4 _) hO t4)
      have hN:=S (hv.trans hk1 (yW F))
      have hD:=S (show Au w6 gt 0 ns from λi hi=>by
       obtain⟨x0,x1,x2,x3⟩:=(ha.y (@zC W4 (JM #[G (o.k+2),W o.s,G 0,G 0] 108)) I) i hi
       exact⟨(kc gt I U I _).trans x0,(kc gt I U I _).trans x1,(kc gt I U I _).trans x2,(kc gt I U I _).trans x3⟩)
      have hV:1<=Z H:=Jy f.1
      have hX:Z H+1<=Z us+2 ^ (d+1):=f.2
      have Hf:Z H<=100000:=I
      clear hj kc t4 p0 p1 nn3 nn4 ha hv hk1
      have h9:=S (by have:=D hH;omega:Z H+2 ^ (d+1)<=100000)
      have ks:=I5 w6 (O W4.1) 2 (G ((Z H:Int)-1))
      have hs:=S (hd1.kept (λi hi=>ks.block i (Jy hd1.lt) I))
      have hG:=S (hr1.set (O W4.1) 2 (G ((Z H:Int)-1)) I)
      have h5:Hid (K2 w (w6.setCell (J (O W4.1) 2) (G ((Z H:Int)-1))) rp g):=hN.row (za ks) (yX I)
      by_cases v:o.k=2
      .have Ha:(o.k==2)=Vp:=by simp[v]
       have qh:=S (hn q1 B g1 c1 H (w6.setCell (J (O W4.1) 2) (G ((Z H:Int)-1))) N h9 hs hG Jq hrp hgt (ks.ops hD I I))
       have qb:=S (show y1=q2/\y2=q++[⟨o.k+2,o.s,(Z H:Int)-1,(Z q:Int)-1⟩] by
        have e:=t.trans (yU v)
        injection e with e1 e2
        exact⟨e1,e2⟩)
       rw[D hI]at qh
       have Hl:=ks.size
       have kc7:=λ(b:Nat)(hb:b<O w6.1)(h1:b≠O W4.1)(o':Nat)=>ks.cell hb h1 o'
       have m0:(w6.setCell (J (O W4.1) 2) (G ((Z H:Int)-1))).cell? (J (O W4.1) 0)=E (G (o.k+2)):=(yj _ _ _ _ (λe=>yV (Addr.mk.inj e).2.1 Jd)).trans n0
       have m1:(w6.setCell (J (O W4.1) 2) (G ((Z H:Int)-1))).cell? (J (O W4.1) 1)=E (W o.s):=(yj _ _ _ _ (λe=>yV (Addr.mk.inj e).2.1 Jd)).trans n1
       have m2:(w6.setCell (J (O W4.1) 2) (G ((Z H:Int)-1))).cell? (J (O W4.1) 2)=E (G ((Z H:Int)-1)):=yu _ _ _ n2
       have m3:(w6.setCell (J (O W4.1) 2) (G ((Z H:Int)-1))).cell? (J (O W4.1) 3)=E (G 0):=(yj _ _ _ _ (λe=>yV (Addr.mk.inj e).2.1 Jd)).trans n3
       have mf:∀o',(w6.setCell (J (O W4.1) 2) (G ((Z H:Int)-1))).frozen? (J (O W4.1) o')=Vt:=λo'=>(yx).trans (nf o')
       clear ks hs hd1 hr1 hD t v
       go_wp2_with fail
       (with_reducible refine(D qh).mono ?_)
       clear qh
       rintro e w8 ⟨g2,c2,rfl,hr2,hg2,hd8,hk8⟩
       have z8:O w6.1<=O w8.1:=Jy hk8.size
       have Hc:=hr2.lt
       have Hd:g2=g1\/O w6.1<=g2:=by simp at hg2;omega
       have r0:=(hk8.cell (b:=O W4.1) I I I 0).trans m0
       have r1:=(hk8.cell (b:=O W4.1) I I I 1).trans m1
       have r2:=(hk8.cell (b:=O W4.1) I I I 2).trans m2
       have r3:=(hk8.cell (b:=O W4.1) I I I 3).trans m3
       have rf:=(hk8.frozen (b:=O W4.1) I I I 3).trans (mf 3)
       clear m0 m1 m2 m3 mf kc7 n0 n1 n2 n3
       have Hi:1<=Z q:=Jy h7.1
       have hh:Z q<=100000:=by have:=h7.2;have:=D h9;omega
       have he:=I5 w8 (O W4.1) 3 (G ((Z q:Int)-1))
       have hR:=S (hd8.kept (λi hi=>he.block i (Jy hd8.lt) I))
       have hY:=S (hr2.set (O W4.1) 3 (G ((Z q:Int)-1)) I)
       have hF:Hid (K2 w (w8.setCell (J (O W4.1) 3) (G ((Z q:Int)-1))) rp g):=(h5.trans hk8 I).row (za he) (yX I)
       clear he
       go_wp2_with (at_builtin;refine As BB underlying38 (.tmp 98) (.tmp 100) F rfl B _ (Z q) (zO q) F (hY.y zC) (J (O w8.1) 0) 1 1 (zO [⟨o.k+2,o.s,(Z H:Int)-1,(Z q:Int)-1⟩]) F rfl (GH (w8.setCell (J (O W4.1) 3) (G ((Z q:Int)-1))) (O w8.1) ⟨o.k+2,o.s,(Z H:Int)-1,(Z q:Int)-1⟩ Js) (zf _) Jm I Jq ?_)
       intro v4 w10 x K X qg
       obtain⟨g4,c4,rfl,l⟩:=AS.snoc x (by simp[X]) qb.2
       have V:=S l
       have Q:World.grownBy _ w10 (E g2):=K
       have y:=S ((hR.y (@zC _ (JM #[G (o.k+2),W o.s,G ((Z H:Int)-1),G ((Z q:Int)-1)] 108))).row Q I)
       have u:=S ((hF.trans (K2.ofB (rp:=rp) (g:=g) zC) (yW F)).row Q I)
       have M:g4=g\/O w.1<=g4:=by simp[i8]at qg;omega
       rw[<-(D qb).1]at y
       go_wp2
       go_ret
       exact⟨g4,c4,F,V,M,y,u⟩
      .have Ha:(o.k==2)=Vt:=by simp[v]
       have qb:=S (show y1=q1/\y2=H++[⟨o.k+2,o.s,(Z H:Int)-1,0⟩] by
        have e:=t.trans (yS v)
        injection e with e1 e2
        exact⟨e1,e2⟩)
       go_wp2_with (at_builtin;refine As BB underlying38 (.tmp 98) (.tmp 100) F rfl B _ (Z H) (zO H) F (hG.y zC) (J (O w6.1) 0) 1 1 (zO [⟨o.k+2,o.s,(Z H:Int)-1,0⟩]) F rfl (GH (w6.setCell (J (O W4.1) 2) (G ((Z H:Int)-1))) (O w6.1) ⟨o.k+2,o.s,(Z H:Int)-1,0⟩ Js) (zf _) Jm I Jq ?_)
       intro v4 w8 x K X qg
       obtain⟨g4,c4,rfl,l⟩:=AS.snoc x (by simp[X]) qb.2
       have V:=S l
       have Q:World.grownBy _ w8 (E g1):=K
       have y:=S ((hs.y (@zC _ (JM #[G (o.k+2),W o.s,G ((Z H:Int)-1),G 0] 108))).row Q I)
       have u:=S ((h5.trans (K2.ofB (rp:=rp) (g:=g) zC) (yW F)).row Q I)
       have M:g4=g\/O w.1<=g4:=by simp[i8]at qg;omega
       rw[<-(D qb).1]at y
       go_wp2
       go_ret
       exact⟨g4,c4,F,V,M,y,u⟩
def TZ(M N p R ct a s z t w)(h:Az w M a N s p)(hl:Z s<=1200)(A:Z z<=1048576)(U:∀j,j<Z z->0<=(r z j).k/\(r z j).k<=9)(ho:Au w R 0 z)(P:R<O w.1)(Q:R≠M):Calls Vb 93 #[Qp M,b9 #[Ql R (Z z) ct],.bool t] w λe w'=>(∃g c,e=.returned (b9 #[Ql g (AP s z t (2+Af s p%5) (Ac s p) []).2.length c])/\(AP s z t (2+Af s p%5) (Ac s p) []).2.length<=c/\O w.1<=g/\ZD w' g (AP s z t (2+Af s p%5) (Ac s p) []).2 (AP s z t (2+Af s p%5) (Ac s p) []).2.length)/\Hid (Az w' M a N s (AP s z t (2+Af s p%5) (Ac s p) []).1)/\Hid (zE w w' M):=by
 have B:=h.lt;obtain⟨y,HY⟩:∃y,Hid (AP s z t (2+Af s p%5) (Ac s p) []=y):=⟨_,S F⟩;rw[D HY];go_enter func93,ntmps93;go_wp2_with fail;have X:Qb w ((w.alloc (JM #[Ql R (Z z) ct] 45)).alloc (JM #[Jl] 40)):=(zC).alloc Js _;go_call EX M N p a s _ ((D h).y X) hl as e w1 ⟨⟨k,rfl,hk,HK⟩,H1,L⟩;have z1:O w.1+2<=O w1.1:=by have:=L.size;simpa using this
 have t0:w1.cell? (J (O w.1) 0)=E (Ql R (Z z) ct):=(L.cell (b:=O w.1) Jq I 0).trans Jg;have r0:w1.cell? (J (O w.1+1) 0)=E Jl:=(L.cell (b:=O w.1+1) Js I 0).trans Jg;have r1:w1.frozen? (J (O w.1+1) 0)=Vt:=(L.frozen (b:=O w.1+1) Js I 0).trans Jg;have T:=S ((zE.Q (g:=M) X).trans L);have o:=S (T.ops ho P Q);obtain⟨d,HD⟩:∃d,Hid (d=2+k%5):=⟨_,S F⟩;have hd:(2:Int)+k%5=(d:Int):=Jy (D HD)
 have m:d<=6:=Jy (D HD)
 have n:AP s z t d (Ac s p) []=y:=by rw[D HD,D HK];exact HY
 have u:=S (show AS (w1.alloc (JM #[] 108)) (O w1.1) (O w1.1) 0 [] by
  have:=yJ (base:=O w1.1) (e:=108) (size:=4) w1 #[] 0 yk yn F
  simpa[AS,zO] using this)
 have l:(2:Nat) ^ (d+1)<=128:=Jy (Nat.pow_le_pow_right (Jd:0<2) (I:d+1<=7))
 have q:=@zC w1 (JM #[] 108);have HC:=S (VX M N R ct a s z t hl A Q U d (Ac s p) (O w1.1) (O w1.1) 0 [] _ I Jq (H1.y q) u Js I I (o.y q I));rw[n,je]at HC;have K:=S q;have C:R<O w1.1:=I;go_wp2_with fail;go_call D HC as e w2 ⟨g',c',rfl,hr2,hg2,hd2,H⟩;have z2:O w1.1+1<=O w2.1:=by have:=H.size;simpa using this
 obtain⟨f,hF⟩:=Ib hr2;have x:=(nZ hr2).1;have kc:=λ(b:Nat)(hb:b<O w1.1)(h1:b≠M)(o':Nat)=>(H.cell (b:=b) Jq h1 I o').trans (K.cell (p:=J b o') hb)
 have R0:=(kc (O w.1+1) I I 0).trans r0;have R1:w2.frozen? (J (O w.1+1) 0)=Vt:=((H.frozen (b:=O w.1+1) Jq I I 0).trans (K.frozen (p:=(J (O w.1+1) 0)) (I:O w.1+1<O w1.1))).trans r1;have HF:=S hF;have V:=S (show zE w w2 M from⟨H.os.trans (K.os.trans T.os),H.tape.trans (K.tape.trans T.tape),H.output.trans (K.output.trans T.output),I,λi hi h1=>(H.block i Jq h1 I).trans ((K.block i I).trans (T.block i hi h1))⟩);go_wp2_with fail;refine yQ (v:=b9 #[Ql g' (Z y.2) c']) ?res F ⟨⟨g',c',F,x,I,HF.setCell _ _ _ I⟩,S (hd2.kept (λi hi=>(I5 _ _ _ _).block i I I)),S (V.setRow (O w.1+1) _ _ (yX I))⟩;case res=>simp[results,results93,go_sem,R0]
def Fa(a:Jw)(c:Nat):Nat->Jf->Nat->Prop
 |0,xs,p=>xs=[]/\p=c
 |k+1,xs,p=>∃b q,Fa a c k b q/\p=Ac a (Ac a q) /\
   ((zM (b++[Ed (Af a q) (Af a (Ac a q)) Vp]) 0/\xs=b++[Ed (Af a q) (Af a (Ac a q)) Vp]) \/
    (¬ zM (b++[Ed (Af a q) (Af a (Ac a q)) Vp]) 0/\xs=b))
theorem Fa.one{b c}:∀{k:Nat}{xs ys:Jf}{p q:Nat},Fa b c k xs p->Fa b c k ys q->xs=ys/\p=q
 |0,_,_,_,_,h,a=>⟨h.1.trans a.1.symm,h.2.trans a.2.symm⟩
 |k+1,xs,ys,p,q,h,a=>by
  obtain⟨f,u,d,rfl,h⟩:=h;obtain⟨g,v,e,rfl,a⟩:=a;obtain⟨rfl,rfl⟩:=Fa.one d e;rcases h with⟨h,rfl⟩|⟨h,rfl⟩<;>rcases a with⟨a,rfl⟩|⟨a,rfl⟩
  .exact⟨F,F⟩
  .exact yV h a
  .exact yV a h
  .exact⟨F,F⟩
def zE.grownAt{f c}(h:zE w w1 g)(b:w1.grownBy f c)(j:∀k,c=E k->O w.1<=k):zE w f g:=
 ⟨b.os.trans h.os,b.tape.trans h.tape,b.output.trans h.output,yy h.size b.size,λi d a=>(b.block i (ym d h.size) (λe=>Jy (j i e.symm))).trans (h.block i d a)⟩
def Az.grownAt{b p d c}(h:Az w rp a b d p)(f:w.grownBy w1 c)(g:∀k,c=E k->rp<k):Az w1 rp a b d p:=
 h.kept (λi j=>f.block i (Jy h.lt) (λe=>Jy (g i e.symm)))
def VY(k v t):(Ed k v t).s.size<=3:=PG v
theorem Fa.small{c e}:∀{k:Nat}{xs:Jf}{p:Nat},Fa c e k xs p->Z xs<=k/\∀o∈xs,o.s.size<=3
 |0,_,_,h=>by rw[h.1];exact⟨yk,λo h=>by cases h⟩
 |k+1,xs,p,h=>by
  obtain⟨f,u,d,rfl,h⟩:=h;have b:=Fa.small d;rcases h with⟨h,rfl⟩|⟨h,rfl⟩
  .refine⟨Jq,λo a=>?_⟩;rcases ju.1 a with a|a
   .exact b.2 o a
   .rw[jE.1 a];exact VY _ _ _
  .exact⟨I,b.2⟩
def dC(rp cap p a bs w)(h:Az w rp a cap bs p)(hl:Z bs<=1200):Calls Vb 49 #[Qp rp] w λe w'=>(∃(g c q:Nat)(xs:Jf),e=.returned (b9 #[Ql g (Z xs) c])/\O w.1<=g/\BY w' g xs (Z xs)/\Hid (Fa bs (Ac bs p) (3+Af bs p%8) xs q)/\Hid (Az w' rp a cap bs q))/\Hid (zE w w' rp):=by
 have ht:=h.lt;have H:=S h;go_enter func49,ntmps49;go_wp2_with fail;go_call EX rp cap p a bs _ (H.y zC) hl as e w1 ⟨⟨k,rfl,hk,HK⟩,H1,HP1⟩;go_wp2_with fail;have n:Hid (Az ((w1.alloc (Obj.cells #[] 25)).alloc (Obj.cells #[Ql (O w1.1) 0 0] 45)) rp a cap bs (Ac bs p)):=(H1.y zC).y zC;have R:Hid (zE w ((w1.alloc (Obj.cells #[] 25)).alloc (Obj.cells #[Ql (O w1.1) 0 0] 45)) rp):=(((zE.Q zC).trans HP1).belowN zC).belowN zC;have z1:O w.1+1<=O w1.1:=by have:=HP1.size;simpa using this
 have q0:w1.cell? (J (O w.1) 0)=E Jl:=(HP1.cell (b:=O w.1) Js I 0).trans Jg;have q1:w1.frozen? (J (O w.1) 0)=Vt:=(HP1.frozen (b:=O w.1) Js I 0).trans Jg;have hn:(3:Int)+k%8<=10:=I;go_loopw [5] (λi wr=>∃(j g c q:Nat)(xs:Jf),j<=3+k%8/\i=G j/\O w.1<g/\g≠O w1.1+1/\g<O wr.1/\O w1.1+1<O wr.1/\wr.cell? (J (O w1.1+1) 0)=E (Ql g (Z xs) c)/\wr.frozen? (J (O w1.1+1) 0)=Vt/\Hid (Fa bs (Ac bs p) j xs q)/\Hid (BY wr g xs (Z xs))/\Hid (Az wr rp a cap bs q)/\Hid (zE w wr rp)/\Hid (wr.cell? (J (O w.1) 0)=E Jl/\wr.frozen? (J (O w.1) 0)=Vt)) (λi _=>3+k%8-(intOf i).toNat);case atStart=>
  refine⟨0,O w1.1,0,Ac bs p,[],yn,F,I,I,Jq,Js,Jg,Jg,S ⟨F,F⟩,S ?_,n,R,S ⟨?_,?_⟩⟩
  .refine⟨Jq,λj hj=>?_,λi hi=>?_⟩
   .simp at hj
   .exact yV hi (yz _)
  .exact((zC).cell (p:=J (O w.1) 0) Jq).trans (Jc zC z1 q0)
  .exact((zC).frozen (p:=J (O w.1) 0) Jq).trans (((zC).frozen (p:=J (O w.1) 0) z1).trans q1)
 case round=>
  obtain⟨j,g,c,q,xs,hj,rfl,hg,hr,t,hd,t0,t1,HT,HF,HR,HW,P⟩:=hrel;have A:=S (HT.small);have hb:Z xs<=10:=Jy A.1
  by_cases hf:j<3+k%8
  .have HO:=S (show(wr.alloc (JM #[] 25)).ownsRow (O wr.1) 25 4 (Ql (O wr.1) 0 0) 0 [] by simpa using yJ (base:=O wr.1) (e:=25) (size:=4) wr #[] 0 yk yn F)
   have d:Hid (Au (wr.alloc (JM #[] 25)) g 0 xs):=HF.ops.y zC t;go_wp2_with (at_builtin;refine As Fz underlying43 (.tmp 18) (.tmp 20) F rfl (O wr.1) _ 0 [] F HO (J g 0) (Z xs) c (zn xs) F (Mp xs) (R6 d) (Zw xs) Jm I Js ?_);intro v2 w2 Q hu hq _;obtain⟨g2,c2,rfl⟩:=Lj Q (Ju hq);have hv:=HR.lt;have ha:=(Q.lt g2 F).1;have s:Qb wr w2:=(zC).grown hu Js (λk hk=>by simp[i8]at hk;omega);have L:=S (HR.y s);have hw:=S (zE.Q (g:=rp) s);have hp:=S Q;go_wp2_with fail;go_call Un rp cap q Vp a bs _ L hl as e w3 ⟨⟨o,rfl,HOo⟩,HR3,HP3⟩;have U:=S (hw.trans HP3);have z3:=U.size;have N:=S (hp.kept (za HP3) (yX (by simp[i8];omega)));go_wp2_with (at_builtin;refine As Fz underlying43 (.tmp 22) (.tmp 25) F rfl (O wr.1) _ (Z xs) (zn xs) F (N.alloc _) (J (O w3.1) 0) 1 1 (zn [o]) F rfl (Ij w3 o) (Zw _) Jm I Jq ?_);intro v4 w4 K X u _;obtain⟨g4,c4,rfl⟩:=Lj K (by simp[u]);obtain⟨ys,HY⟩:∃ys:Jf,Hid (ys=xs++[o]):=⟨_,S F⟩;have B:Z xs+1=Z ys:=by rw[D HY];simp
   rw[<-Zo,B,<-D HY]at K;rw[B];have f:=(K.lt g4 F);have hh:=S (Ml K).2;have x:=S ((U.belowN zC).grownAt X (λk hk=>by simp[i8]at hk;omega));have hs:=S ((HR3.y zC).grownAt X (λk hk=>by simp[i8]at hk;omega));have l:=S (show ZO ys from λi hi=>by
    rw[D HY]at hi ⊢
    have hm:r (xs++[o]) i∈xs++[o]:=by
     unfold r
     rw[yq,yt hi,Option.getD_some]
     exact List.getElem_mem hi
    have h3:(r (xs++[o]) i).s.size<=3:=by
     rcases ju.1 hm with hm|hm
     .exact A.2 _ hm
     .rw[jE.1 hm,D HOo];exact VY _ _ _
    unfold maxLen;omega)
   have he:Z ys<=11:=I;go_wp2_with fail;go_call Lc g4 0 c4 ys _ I hh.ops l f.2 as e w5 ⟨⟨cc,rfl,hc⟩,hb5⟩;have HC:=S hc;have z5:=hb5.size;have z4:=x.size;have s0:w5.cell? (J (O w1.1+1) 0)=E (Ql g (Z xs) c):=(hb5.cell (p:=(J (O w1.1+1) 0)) Jq).trans ((x.cell (b:=O w1.1+1) I I 0).trans t0);have s1:w5.frozen? (J (O w1.1+1) 0)=Vt:=(hb5.frozen (p:=(J (O w1.1+1) 0)) Jq).trans ((x.frozen (b:=O w1.1+1) I I 0).trans t1);have y:=S (show w5.cell? (J (O w.1) 0)=E Jl/\w5.frozen? (J (O w.1) 0)=Vt from
    ⟨Jc hb5 Jh ((x.cell (b:=O w.1) I I 0).trans P.1),(hb5.frozen (p:=J (O w.1) 0) Jq).trans ((x.frozen (b:=O w.1) I I 0).trans P.2)⟩)
   have C:=S (hs.y hb5);have z:=S ((HW.trans x).belowN hb5);have m:=S (x.filled HF I |>.y hb5 I);have M:=S (hh.y hb5 f.2);by_cases V:cc=0
   .subst V;go_wp2;refine⟨⟨j+1,g4,c4,Ac bs (Ac bs q),ys,I,Jn,I,I,?_,?_,?_,?_,S ?_,S ?_,S ?_,S ?_,S ?_⟩,Ji⟩
    .simp;omega
    .simp;omega
    .exact yu _ _ _ s0
    .exact(yx).trans s1
    .exact⟨xs,q,HT,F,yW ⟨by rw[<-D HOo,<-D HY];exact HC,by rw[<-D HOo];exact HY⟩⟩
    .exact M.setCell _ _ Jq
    .exact C.set _ _ _ I
    .exact z.setNew _ _ I
    .exact⟨(yj _ _ _ _ (by first|(simp;done)|(simp;omega))).trans y.1,(yx).trans y.2⟩
   .have T:(cc==0)=Vt:=Ju V
    go_wp2;refine⟨⟨j+1,g,c,Ac bs (Ac bs q),xs,I,Jn,hg,hr,I,I,s0,s1,S ?_,m,C,z,y⟩,Ji⟩;refine⟨xs,q,HT,F,yX ⟨?_,F⟩⟩;rw[<-D HOo,<-D HY];exact λh=>V (Z3 HC h)
  .have ho:j=3+k%8:=I;obtain⟨b0,b1⟩:=D P;go_wp2_with fail;refine yQ (v:=b9 #[Ql g (Z xs) c]) ?res F ⟨⟨g,c,q,xs,F,I,?_,S ?_,S ?_⟩,S ?_⟩;case res=>simp[results,results49,go_sem,b0]
   .exact HF.setCell _ _ Jq
   .rw[<-D HK,<-ho];exact HT
   .exact HR.set _ _ _ I
   .exact HW.setNew _ _ yk
def Vk(k):(Iz k).t.size<=6:=by
 have a:(⟨#[97,98,99,100,95,57]⟩:JZ).size=6:=F;have b:(⟨#[48,49,55,50]⟩:JZ).size=4:=F;unfold Iz;split
 .show(ByteArray.extract _ _ _).size<=6;rw[yC];omega
 .show(ByteArray.extract _ _ _).size<=6;rw[yC];omega
theorem SS{f}(k:∀i,(r f i).s.size<=16)(b c):∀(d p:Nat)(e:Jj),(∀o∈e,o.t.size<=16)->∀o∈(AP b f c d p e).2,o.t.size<=16
 |0,p,e,h=>by
  have:=Vk (Af b (Ac b p));simp only[AP];intro o a;rcases ju.1 a with a|a
  .exact h o a
  .simp at a;subst a;omega
 |d+1,p,e,h=>by
  have s:=Vk (Af b (Ac b p));have j:=SS k b c d (Ac b p) e h;have n:=SS k b c d (AP b f c d (Ac b p) e).1 _ j;have m:=k (Af b p/8%(Z f));have g:∀(l:Jj)(x:zD),(∀o∈l,o.t.size<=16)->x.t.size<=16->∀o∈l++[x],o.t.size<=16:=λl x q hx o a=>by
   rcases ju.1 a with a|a
   .exact q o a
   .simp at a;subst a;exact hx
  simp only[AP];split
  .exact g _ _ h I
  .split
   .exact g _ _ j (I:0<=16)
   .split
    .exact g _ _ n m
    .exact g _ _ j m
def Gz(k:Nat):ByteArray:=if k%5=0 then⟨#[32]⟩ else if k%5=2 then⟨#[10,9]⟩ else if k%5=3 then⟨#[32,32]⟩ else⟨#[]⟩
def Mr(k):(Gz k).size<=2:=by
 unfold Gz;repeat' split
 all_goals decide
def zai(a:JY)(c):(convert 22 9 (Ql (O a.1) 1 1)).run Vb (a.alloc (JM #[.int .u8 c] 5))=.ok (W ⟨#[UInt8.ofNat c.toNat]⟩) (a.alloc (JM #[.int .u8 c] 5)):=by
 rw[run_convert_bytes_string _ 22 9 5 _ _ _ underlying22 underlying5 underlying9];have d:(loadCells (J (O a.1) 0) 1).run Vb (a.alloc (JM #[.int .u8 c] 5))=.ok ([c].map (Value.int .u8)).toArray (a.alloc (JM #[.int .u8 c] 5)):=
  run_loadCells_list (P:=Vb) _ (J (O a.1) 0) [.int .u8 c] (λj v b=>by
   match j,b with
   |0,b=>simp at b;subst b;simp[Addr.add,go_sem])
 rw[run_bytesToString _ (J (O a.1) 0) 1 1 [c] d];rfl
def D9(b:Jf)(a:Jw)(p:Nat):ByteArray:=
 if Af a p%8<4/\0<Z b then(r b (Af a p/8%(Z b))).s
 else if Af a p%8=4 then⟨#[40]⟩ else if Af a p%8=5 then⟨#[41]⟩
 else if Af a p%8=6 then(⟨#[97,49,95,98]⟩:JZ).extract 0 (1+Af a p/8%4)
 else if 240<=Af a p then Fs (Af a p)
 else if 224<=Af a p then⟨#[(Af a (Ac a p)).toUInt8]⟩
 else(⟨#[49,48,50,55]⟩:JZ).extract (Af a p/8%4) 4
def Fb(b:Jf)(a:Jw)(p:Nat):Nat:=
 if Af a p%8<4/\0<Z b then Ac a p
 else if Af a p%8=4 then Ac a p else if Af a p%8=5 then Ac a p
 else if Af a p%8=6 then Ac a p
 else if 240<=Af a p then Ac a p
 else if 224<=Af a p then Ac a (Ac a p)
 else Ac a p
def Rx(i c p a d w)(h:A0 w i a c d p)(t:Z d<=1200):Calls Vb 90 #[Qp i] w λe w'=>(∃g:JZ,e=.returned (W g)/\Hid (g=Gz (Af d p)))/\Hid (A0 w' i a c d (Ac d p))/\Hid (zE w w' i):=by
 go_enter func90,ntmps90;go_wp2_with fail;go_call GJ i c p a d _ h t as e w1 ⟨⟨k,rfl,u,q⟩,o,l⟩;have K:k%5=0\/k%5=1\/k%5=2\/k%5=3\/k%5=4:=I;rcases K with b|b|b|b|b;focus
  have f:=S b
  have j:((k:Int)%5==0)=Vp:=Jq
 rotate_left
 focus
  have f:=S b
  have j:((k:Int)%5==0)=Vt:=Jq
  have m:((k:Int)%5==1)=Vp:=Jq
 rotate_left
 focus
  have f:=S b
  have j:((k:Int)%5==0)=Vt:=Jq
  have m:((k:Int)%5==1)=Vt:=Jq
  have n:((k:Int)%5==2)=Vp:=Jq
 rotate_left
 focus
  have f:=S b
  have j:((k:Int)%5==0)=Vt:=Jq
  have m:((k:Int)%5==1)=Vt:=Jq
  have n:((k:Int)%5==2)=Vt:=Jq
  have s:((k:Int)%5==3)=Vp:=Jq
 rotate_left
 focus
  have f:=S b
  have j:((k:Int)%5==0)=Vt:=Jq
  have m:((k:Int)%5==1)=Vt:=Jq
  have n:((k:Int)%5==2)=Vt:=Jq
  have s:((k:Int)%5==3)=Vt:=Jq
 all_goals
  go_wp2
  go_ret
  exact⟨⟨_,F,S (by rw[<-D q];simp[Gz,D f])⟩,o,l⟩
def GV(a b:JZ):Bool:=
 if a.size=0\/b.size=0 then Vt
 else if Bw (a.data.getD 0 0)=Vp\/Bw (b.data.getD 0 0)=Vp then(Bw (a.data.getD 0 0)&&Bw (b.data.getD 0 0))
 else decide (a≠⟨#[40]⟩/\a≠⟨#[41]⟩/\b≠⟨#[40]⟩/\b≠⟨#[41]⟩)
theorem Ry(a b w):Calls Vb 91 #[W a,W b] w λe w'=>e=.returned (.bool (GV a b))/\w'=w:=by
 by_cases l:a.size=0
 .have v:a=⟨#[]⟩:=ByteArray.size_eq_zero_iff.1 l;have g:GV a b=Vt:=by unfold GV;rw[yU (yW l)]
  rw[g];subst v;go_enter func91,ntmps91;go_wp2;go_ret;exact⟨F,F⟩
 by_cases m:b.size=0
 .have y:b=⟨#[]⟩:=ByteArray.size_eq_zero_iff.1 m;have g:GV a b=Vt:=by unfold GV;rw[yU (yX m)]
  rw[g];have p:¬ a=⟨#[]⟩:=λe=>l (by rw[e];rfl)
  have i:¬ a.toList=[]:=λe=>p (Zd (by rw[e,yI]))
  subst y;go_enter func91,ntmps91;go_wp2;go_ret;exact⟨F,F⟩
 have p:¬ a=⟨#[]⟩:=λe=>l (by rw[e];rfl)
 have i:¬ a.toList=[]:=λe=>p (Zd (by rw[e,yI]))
 have z:¬ b=⟨#[]⟩:=λe=>m (by rw[e];rfl)
 have q:¬ b.toList=[]:=λe=>z (Zd (by rw[e,yI]))
 have C:(0:Int)<a.size:=I;have H:(0:Int)<b.size:=I;have n:0<a.size:=I;have o:0<b.size:=I;have A:a.data.getD 0 0=a[0]:=by show a.data.getD 0 0=a.data[0];unfold Array.getD;rw[dif_pos (show 0<a.data.size from n)];rfl
 have B:b.data.getD 0 0=b[0]:=by show b.data.getD 0 0=b.data[0];unfold Array.getD;rw[dif_pos (show 0<b.data.size from o)];rfl
 have g:GV a b=if Bw a[0]=Vp\/Bw b[0]=Vp then(Bw a[0]&&Bw b[0]) else decide (a≠⟨#[40]⟩/\a≠⟨#[41]⟩/\b≠⟨#[40]⟩/\b≠⟨#[41]⟩):=by unfold GV;rw[yS I,A,B]
 obtain⟨M,u⟩:∃M,Hid (GV a b=M):=⟨_,S F⟩;rw[D u];have j:=S (g.symm.trans u);have v:a.toList.isEmpty=Vt:=by cases h:a.toList with|nil=>exact yV h i|cons x c=>rfl
 have y:b.toList.isEmpty=Vt:=by cases h:b.toList with|nil=>exact yV h q|cons x c=>rfl
 cases k:Bw a[0] with
 |true=>
  cases f:Bw b[0] with
  |true=>have d:=S (by rw[<-D j,k,f];rfl:M=Vp);go_enter func91,ntmps91;go_wp2_with (go_at_call 99;refine(IW _ _).mono ?_;rintro e w' ⟨rfl,rfl⟩);go_ret;exact⟨by rw[D d];rfl,F⟩
  |false=>have d:=S (by rw[<-D j,k,f];rfl:M=Vt);go_enter func91,ntmps91;go_wp2_with (go_at_call 99;refine(IW _ _).mono ?_;rintro e w' ⟨rfl,rfl⟩);go_ret;exact⟨by rw[D d];rfl,F⟩
 |false=>
  cases f:Bw b[0] with
  |true=>have d:=S (by rw[<-D j,k,f];rfl:M=Vt);go_enter func91,ntmps91;go_wp2_with (go_at_call 99;refine(IW _ _).mono ?_;rintro e w' ⟨rfl,rfl⟩);go_ret;exact⟨by rw[D d];rfl,F⟩
  |false=>
   have s:∀x:JZ,x=⟨#[40]⟩↔x.toList=[40]:=λx=>⟨λe=>by rw[e,yI],λe=>Zd (by rw[e,yI])⟩
   have t:∀x:JZ,x=⟨#[41]⟩↔x.toList=[41]:=λx=>⟨λe=>by rw[e,yI],λe=>Zd (by rw[e,yI])⟩
   have d:=S (show M=((!a.toList==[40])&&(!a.toList==[41])&&(!b.toList==[40])&&(!b.toList==[41])) by
    rw[<-D j,k,f,yS Js]
    simp only[ne_eq,s,t]
    rw[jI]
    simp[and_assoc])
   go_enter func91,ntmps91;go_wp2_with (go_at_call 99;refine(IW _ _).mono ?_;rintro e w' ⟨rfl,rfl⟩);all_goals
    go_ret
    refine⟨?_,F⟩
    rw[D d]
    simp_all
def DT(a:Jv)(i k:Nat):ByteArray:=if 0<i/\(Gz k).size=0/\GV (AG a (i-1)) (AG a i)=Vp then⟨#[32]⟩ else Gz k
def Ba(a:Jw)(b:Jv)(p:Nat):Nat->ByteArray×Nat
 |0=>(Gz (Af a p),Ac a p)
 |i+1=>((Ba a b p i).1++DT b i (Af a (Ba a b p i).2)++AG b i,Ac a (Ba a b p i).2)
def VZ(a i k):(DT a i k).size<=2:=by
 unfold DT;split
 .decide
 .exact Mr k
theorem V0(b a p)(h:∀i,(AG a i).size<=20000):∀i,(Ba b a p i).1.size<=2+20002*i
 |0=>by have:=Mr (Af b p);simp only[Ba];omega
 |i+1=>by have c:=V0 b a p h i;have d:=VZ a i (Af b (Ba b a p i).2);have e:=h i;show((Ba b a p i).1++DT a i (Af b (Ba b a p i).2)++AG a i).size<=_;rw[ByteArray.size_append,ByteArray.size_append];omega
def BY.lt1{k a}(h:BY w g a k):g<O w.1:=h.1
def ZD.lt1{k a}(h:ZD w g a k):g<O w.1:=h.1
def GZ.step{l}(h:GZ w a l)(c:Qb w w'):GZ w' a l:=by
 rcases h with h|⟨b,H,rfl,K,d⟩
 .exact yW h
 .exact yX ⟨b,H,F,ym K c.size,λi e=>(c.cell (p:=(J b (H+i))) K).trans (d i e)⟩
