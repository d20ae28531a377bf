import Derived.LaidMore
import Derived.Lay
import Derived.SevenTiedAt
import Derived.Test.YtdgcbenningkdaaGreatDoorV15
import Derived.Test.YtdgcbenningkdaaGreatDoorV20
import Derived.Test.YtdgcbenningkdaaGreatDoorV21
namespace Go.Proofs.YtdgcbenningkdaaGreatDoor
set_option linter.all false
set_option maxHeartbeats 0
set_option maxRecDepth 100000
open Proofs.Tryz RowKit
variable{B:Nat}{out:List (List zD)}{us:List zF}{v:Value}{w:World}
open _root_.Array renaming size→O
open List renaming length→Z
open Option renaming some→E,none→JL
open Obj renaming cells→JM
open Bool renaming false→Vt,true→Vp
open Proofs.Tryz renaming prog→Vb
open _root_.ByteArray renaming empty→j6
def DD(w:JY)(N:Nat)(a b c d e f g h i:Value):World:=((((((((w.setCell (J N 0) a).setCell (J N 1) b).setCell (J N 2) c).setCell (J N 3) d).setCell (J N 4) e).setCell (J N 5) f).setCell (J N 6) g).setCell (J N 7) h).setCell (J N 8) i
theorem A6.set9{N A}(h:A6 w N A)(m:A.size=9)(a b d e f g i k l):∀j,j<9->(DD w N a b d e f g i k l).cell? (J N j)=#[a,b,d,e,f,g,i,k,l][j]?:=by have c:=(((((((((h.put 0 a I).put 1 b Jq).put 2 d Jq).put 3 e Jq).put 4 f Jq).put 5 g Jq).put 6 i Jq).put 7 k Jq).put 8 l Jq).c;intro j n;refine(c j Jq).trans ?_;have:j=0\/j=1\/j=2\/j=3\/j=4\/j=5\/j=6\/j=7\/j=8:=I;rcases this with rfl|rfl|rfl|rfl|rfl|rfl|rfl|rfl|rfl<;>simp[m]
def ZE.put(h:ZE w B v us)(b j x)(d:b<B):ZE (w.setCell (J b j) x) B v us:=
 h.grown (row:=E b) ⟨F,F,F,Jt,λi _ a=>jh _ _ _ _ (λe=>a (by rw[e]))⟩ (λk c e=>by injection e with e;have:=(h.lt k c).1;omega)
theorem ZE.set9(h:ZE w B v us)(N)(a:N<B)(b c d e f g i j k):ZE (DD w N b c d e f g i j k) B v us:=
 ((((((((h.put N 0 b a).put N 1 c a).put N 2 d a).put N 3 e a).put N 4 f a).put N 5 g a).put N 6 i a).put N 7 j a).put N 8 k a
def nW{k}(h:Qb w k)(a b c d e f g i j):Qb w (DD k (O w.1) a b c d e f g i j):=
 ((((((((h.setCell yk a).setCell yk b).setCell yk c).setCell yk d).setCell yk e).setCell yk f).setCell yk g).setCell yk i).setCell yk j
def ZE.lowB{B' c}(h:ZE w B v c)(j:B'<=B):ZE w B' v c:=by
 obtain⟨b,d|⟨g,a,H,e,f,i⟩⟩:=h
 .exact⟨b,yW d⟩
 .exact⟨b,yX ⟨g,a,H,e,yy j f,i⟩⟩
def OW(a cap l w)(hl:Z l<=1048576)(Hn:Z l<=cap)(h:GZ w a l):Calls Vb 5 #[.slice a (Z l) cap] w λe w'=>(∃(g c:Nat)(ms:Jp)(q:ZB),e=.returned (.tuple #[Ql g (Z ms) c,Bt q])/\1<=Z ms/\Z ms<=111/\q.m.size<=100/\q.o.s.size<=20000/\q.t.size<=3/\Hid (TO (FV l) ms q)/\Hid (Bu 100 3000000000000 ms)/\Hid (ZE w' (O w.1) (Ql g (Z ms) c) ms))/\Below (O w.1) w w':=by
 have hM:=@zC w (JM #[G 0,W ⟨#[]⟩,W ⟨#[]⟩,G 0,G 0,G 0,W ⟨#[]⟩,G 0,G 0] 27);have hW:=S (mM a cap l _ hl Hn (h.step hM));have qg:=qQ l;clear h;go_enter func5,ntmps5;go_wp2_with fail;go_call D hW as e w1 ⟨⟨rp,H,rfl,hrp,H1⟩,hb1⟩;obtain⟨bs,Hh⟩:∃bs,Hid (bs=FV l):=⟨_,S F⟩;rw[<-D Hh]at H1 qg;have Hx:Hid (Below (O w.1) w w1):=hM.trans (hb1.mono Js);have Hb:=S (by have:=hb1.size;simp at this;omega:O w.1+1<=O w1.1);have km:=S ((A6.new w #[G 0,W ⟨#[]⟩,W ⟨#[]⟩,G 0,G 0,G 0,W ⟨#[]⟩,G 0,G 0] 27).same (hb1.block (O w.1) Js));have hQ:=H1.lt;clear hM hb1 hW;go_wp2_with fail;go_call EX rp H 0 a bs _ (D H1) qg as e w2 ⟨⟨k,rfl,hk,HK⟩,H2,HP2⟩;clear H1;go_wp2_with fail;go_call EX rp H _ a bs _ (D H2) qg as e w3 ⟨⟨v,rfl,hv,HV⟩,H3,HP3⟩;clear H2;go_wp2_with fail;go_call EX rp H _ a bs _ (D H3) qg as e w4 ⟨⟨z,rfl,hz,HZ⟩,H4,HP4⟩;have hU:=S (dA rp H _ a bs w4 H4 qg);clear H3;go_wp2_with fail;go_call D hU as e w5 ⟨g,c,p5,ms,rfl,HR,hm1,hm4,B,HD,H5,HP5⟩;have HS:=S (show Bc w1 w5 rp H a bs g c ms p5 from⟨by
  have h1:=HP2.size
  have h2:=HP3.size
  have h3:=HP4.size
  obtain⟨h0,h2|⟨g',H,hp,hv,hg,h3⟩⟩:=D HR
  .exact⟨h0,yW h2⟩
  .exact⟨h0,yX ⟨g',H,hp,hv,I,h3⟩⟩,H5.free,HP2.trans (HP3.trans (HP4.trans HP5)),hQ⟩)
 clear hU H4 HP2 HP3 HP4 HP5 HR H5;go_upto_if 29 with fail
 go_cut [8] (λsv wc=>∃(g c p:Nat)(m1:Jp),sv = Ql g (Z m1) c/\1<=Z m1/\Z m1<=110/\Hid (m1=if k%8=7 then Dt bs (1+k%7) ms else ms)/\Hid (Bu 100 3000000000000 m1)/\Hid (Bc w1 wc rp H a bs g c m1 p));case first=>
  by_cases h7:k%8=7
  .have e7:((k:Int)%8==7)=Vp:=Jq;obtain⟨rc0,rc1,rfz,_⟩:=HS.rd;obtain⟨s,hs⟩:=Jx (1+k%7);have k4:(1:Int)+k%7=(s:Int):=I;have kg:=S (HS.read (I5 w5 rp 1 (G s)) (HS.rd.move s _ F));have qh:=S (iK rp H s g c a bs ms w1 _ kg qg hm1 hm4 B);have HC:=S (show k%8=7/\s=1+k%7 from⟨h7,hs⟩);clear h7 hs;go_wp2_with fail;go_call D qh as e w6 ⟨g6,c6,q6,ms6,rfl,Hs,hS,HZ6,HD6,HS6⟩;clear qh;go_wp2;go_meet;case rel=>exact⟨g6,c6,q6,ms6,F,Hs,hS,S (by rw[yU (D HC).1,<-(D HC).2];exact HD6),HZ6,HS6⟩
  .have e7:((k:Int)%8==7)=Vt:=Jq;have HC:=S h7;clear h7;go_wp2;go_meet;case rel=>exact⟨g,c,p5,ms,F,hm1,I,S (by rw[yS (D HC)]),S (B.mono Jd Jd),HS⟩
 case rest=>
  clear HS B;obtain⟨g1,c1,p1,m1,rfl,Hs,hS,kn,B,HS⟩:=hcut;obtain⟨kk,Ho⟩:∃kk:Nat,kk=1+k%2:=⟨_,F⟩;have ek:(1:Int)+k%2=(kk:Int):=I;have Hg:=S Ho;clear Ho;have Hy:=S (Rw v wc I);go_wp2_with fail;go_call D Hy as e w6 ⟨rfl,hx⟩;obtain rfl:=hx.symm;clear hx Hy;have kf:=HS.kp.size;have kh:=HS.gB.2;go_wp2_with fail;obtain⟨N,hN⟩:=Jx (O wc.1);obtain⟨W0,he⟩:=Jx (wc.alloc (JM #[G kk,W ⟨#[]⟩,W ⟨#[]⟩,G 0,G 0,G 0,W (Fs v),G 0,G 0] 27));have Hj:=S (show Dw w1 W0 rp H a bs g1 c1 m1 p1 N (IQ k v) from⟨by rw[he];exact HS.y zC,by
   rw[he,hN]
   have e:A5 (IQ k v)=#[G kk,W ⟨#[]⟩,W ⟨#[]⟩,G 0,G 0,G 0,W (Fs v),G 0,G 0]:=by rw[D Hg];rfl
   rw[e]
   exact A6.new _ _ _,I,I⟩)
  rw[<-hN,<-he];have HN:=S (I:O w1.1<=N);clear HS Hg kf kh hN he ek;go_loopw [10] (λiv wr=>∃(d:Nat)(q:ZB),d<=Z m1/\iv=G d/\Hid (Ff m1 (IQ k v) z d q)/\Hid (Dw w1 wr rp H a bs g1 c1 m1 p1 N q)) (λiv _=>Z m1-(intOf iv).toNat);case atStart=>exact⟨0,_,yn,F,S F,Hj⟩
  case round=>
   clear Hj;obtain⟨d,q,hd,rfl,HQ,HS⟩:=hrel;obtain⟨wo,kl⟩:=Jx wr;subst kl;by_cases ku:d<Z m1
   .have hX:(d:Int)<Z m1:=I;obtain⟨i,hi⟩:=Jx ((z+d)%(Z m1));have kj:i<Z m1:=by rw[hi];exact Nat.mod_lt _ I
    have tmi:((z:Int)+d).tmod (Z m1:Int)=i:=by rw[yA (Int.add_nonneg (Int.natCast_nonneg z) (Int.natCast_nonneg d)),hi];simp
    have tmj:((z:Int)+d)%(Z m1:Int)=i:=by rw[hi];simp
    have k1:(i:Int)<Z m1:=I;have HP:¬ ((Z m1:Int)=0):=I;have hB:((Z m1:Int)==0)=Vt:=jc.2 I;have HI:=S hi;obtain⟨x0,x1,_,_⟩:=HS.sp.cells kj;obtain⟨nm,hH⟩:=Jx ((Ae m1 i).n);obtain⟨tx,hq⟩:=Jx ((Ae m1 i).t);rw[<-hH]at x0;rw[<-hq]at x1;have hR:=S (QU tx wo (by have:=((B) i).2;rw[<-hq]at this;unfold maxLen;omega));have ha:=S (yO hH hq);have HY:=HS.lt;clear hi hH hq;go_wp2_with fail;go_call D hR as e w7 ⟨vu,vo,us,os,b,cd,ln,rfl,hu,hru,hro,hne7,hul,hol,hb7⟩;have Hl:=hb7.size;obtain⟨ao,co,rfl⟩:∃ao co,vo=.slice ao (Z os) co:=by
     obtain⟨_,⟨h1,h2⟩|⟨g',H,hp,h1,_⟩⟩:=id hro
     .exact⟨JL,0,by rw[h1,h2]⟩
     .exact⟨_,_,h1⟩
    obtain⟨au,cu,rfl⟩:∃au cu,vu=.slice au (Z us) cu:=by
     obtain⟨_,⟨h1,h2⟩|⟨g',H,hp,h1,_⟩⟩:=id hru
     .exact⟨JL,0,by rw[h1,h2]⟩
     .exact⟨_,_,h1⟩
    have HU:=S hu;have hF:=S hro;have hK:=S (HS.y (hb7.trans ((@zC w7 (JM #[.slice au (Z us) cu,.slice ao (Z os) co,W b] 65)).mono Hl)));have x7:=λo=>hb7.cell (p:=J g1 o) HS.sp.gB.2
    have kb:g1<O w7.1:=Jy HS.sp.gB.2
    replace x0:∀ob,(w7.alloc ob).cell? (J g1 (i*2))=E (W nm):=λob=>((@zC w7 ob).cell (p:=(J g1 (i*2))) kb).trans ((x7 _).trans x0)
    have b7:=λob=>HS.bx.same ((hb7.trans ((@zC w7 ob).mono Hl)).block N HY)
    have n1:∀ob,(w7.alloc ob).cell? (J N 1)=E (W q.m):=λob=>(b7 ob).c 1 (Jd:1<9)
    have n2:∀ob,(w7.alloc ob).cell? (J N 2)=E (W q.o.s):=λob=>(b7 ob).c 2 (Jd:2<9)
    have n3:∀ob,(w7.alloc ob).cell? (J N 3)=E (G q.o.k):=λob=>(b7 ob).c 3 (Jd:3<9)
    have n4:∀ob,(w7.alloc ob).cell? (J N 4)=E (G q.o.l):=λob=>(b7 ob).c 4 (Jd:4<9)
    have n5:∀ob,(w7.alloc ob).cell? (J N 5)=E (G q.o.sd):=λob=>(b7 ob).c 5 (Jd:5<9)
    have nf:=λob=>(b7 ob).fz
    have k8:¬ N=O w7.1:=I;have k3:¬ (O w7.1)=N:=I;clear hR x1 x7 hu hro hru hne7 hb7 b7 tmi tmj HP hB;by_cases h0:0<Z os
    .have HW:(0:Int)<Z os:=I;by_cases h1:q.m=j6
     .have e1:q.m.toList.isEmpty=Vp:=by rw[h1,yI];rfl
      obtain⟨go,ho⟩:∃go,ao=E (J go 0):=by
       obtain⟨_,⟨_,h2⟩|⟨g',H,hp,h2,_⟩⟩:=D hF
       .omega
       .injection h2 with h2;exact⟨_,h2⟩
      subst ho;have H0:=ji hF go F;obtain⟨z4,Hk⟩:=Jx (z/4);have kx:(z:Int)/4=(z4:Int):=I;obtain⟨j,hj⟩:=Jx (z4%(Z os));have kd:j<Z os:=by rw[hj];exact Nat.mod_lt _ h0
      have k7:(j:Int)<Z os:=I;have tmi:(z4:Int).tmod (Z os:Int)=j:=by rw[yA I,hj];simp
      have tmj:(z4:Int)%(Z os:Int)=j:=by rw[hj];simp
      have hB:((Z os:Int)==0)=Vt:=jc.2 I;obtain⟨o,ho⟩:=Jx (r os j);obtain⟨y0,y1,y2,y3⟩:w7.cell? (J go (j*4))=E (W (r os j).s)/\w7.cell? (J go (j*4+1))=E (G (r os j).k)/\w7.cell? (J go (j*4+2))=E (G (r os j).l)/\w7.cell? (J go (j*4+3))=E (G (r os j).sd):=by
       obtain⟨a',c',e,⟨h2,_⟩|⟨g',h2,_,h3⟩⟩:=hF.ops
       .omega
       .injection e with e;rw[<-e]at h2;injection h2 with h2;injection h2 with h2;subst h2;have h4:=h3 j kd;unfold Gh at h4;simpa only[jd] using h4
      rw[<-ho]at y0 y1 y2 y3;have ki:go≠N:=I;have yw:∀ob v' t,((w7.alloc ob).setCell (J N 1) v').cell? (J go t)=w7.cell? (J go t):=λob v' t=>(yj _ _ _ _ (λe=>ki (by injection e with e;exact e.symm))).trans ((@zC w7 ob).cell (p:=J go t) H0.2)
      replace y0:=λob v'=>(yw ob v' _).trans y0
      replace y1:=λob v'=>(yw ob v' _).trans y1
      replace y2:=λob v'=>(yw ob v' _).trans y2
      replace y3:=λob v'=>(yw ob v' _).trans y3
      have HJ:=S (by rw[ho,hj,Hk]:r os (z/4%(Z os))=o);clear yw ho hj Hk;have HE:=S h1;clear h1;go_wp2;go_region;go_wp2;refine⟨⟨d+1,⟨q.k,nm,o,q.t,q.l,q.sd⟩,I,Jn,S ⟨q,us,os,b,cd,ln,HQ,by rw[<-D HI,<-(D ha).2];exact HU,?_⟩,S ?_⟩,Ji⟩
      .rw[yU ⟨h0,D HE⟩,D HJ,<-D HI,<-(D ha).1]
      .exact((((((hK.put 1 (W nm) Jd (q':=⟨q.k,nm,q.o,q.t,q.l,q.sd⟩) F).put 2 (W o.s) Jd (q':=⟨q.k,nm,⟨o.s,q.o.k,q.o.l,q.o.sd⟩,q.t,q.l,q.sd⟩) F).put 3 (G o.k) Jd (q':=⟨q.k,nm,⟨o.s,o.k,q.o.l,q.o.sd⟩,q.t,q.l,q.sd⟩) F).put 4 (G o.l) Jd (q':=⟨q.k,nm,⟨o.s,o.k,o.l,q.o.sd⟩,q.t,q.l,q.sd⟩) F).put 5 (G o.sd) Jd (q':=⟨q.k,nm,o,q.t,q.l,q.sd⟩) F)).y (yN).drew
     .have e1:q.m.toList.isEmpty=Vt:=Bool.eq_false_iff.2 λh=>h1 (Zd ((List.isEmpty_iff.1 h).trans (by rw[yI];rfl)))
      have HE:=S h1;clear h1;go_wp2;exact⟨⟨d+1,q,I,Jn,S ⟨q,us,os,b,cd,ln,HQ,by rw[<-D HI,<-(D ha).2];exact HU,(yS (λh=>HE h.2)).symm⟩,hK⟩,Ji⟩
    .have HW:¬ (0:Int)<Z os:=I;go_wp2;exact⟨⟨d+1,q,I,Jn,S ⟨q,us,os,b,cd,ln,HQ,by rw[<-D HI,<-(D ha).2];exact HU,(yS (λh=>h0 h.1)).symm⟩,hK⟩,Ji⟩
   .have hX:¬ (d:Int)<Z m1:=I;obtain rfl:d=Z m1:=I;have y:=S (Ff.z B HQ);have c0:=HS.bx.c 0 (Jd:0<9);simp only[A5,jr,jm]at c0;go_upto_region 18 with fail
    go_cut [100] (λsv wc=>sv=.bool (decide (k%16<8/\q.k=1))/\wc=wo);case first=>
     by_cases h8:k%16<8
     .have e8:(k:Int)%16<8:=I;by_cases h1:q.k=1
      .have e1:(q.k==1)=Vp:=Ju h1
       go_wp2;go_meet;case rel=>exact⟨by simp[h8,h1],F⟩
      .have e1:(q.k==1)=Vt:=Ju h1
       go_wp2;go_meet;case rel=>exact⟨by simp[h1],F⟩
     .have e8:¬ (k:Int)%16<8:=I;go_wp2;go_meet;case rel=>exact⟨by simp[h8],F⟩
    case rest=>
     obtain⟨rfl,Hq⟩:=hcut;have HB:=Hq.symm;subst HB;clear Hq;go_upto_if 100 with fail
     go_cut [9] (λpv wd=>∃qa:ZB,pv = Qp N/\Hid (qa=Ei k v q)/\Hid (Dw w1 wd rp H a bs g1 c1 m1 p1 N qa));case first=>
      as_aux_lemma=>
      by_cases hA:k%16<8/\q.k=1
      .have ed:decide (k%16<8/\q.k=1)=Vp:=decide_eq_true hA;rw[ed];obtain⟨m,hm,ky⟩:∃m:Nat,m=v%3/\m<=2:=⟨_,F,I⟩;have tmv:(v:Int)%3=(m:Int):=I;have i1:(0:Int)<=m:=I;have i2:(m:Int)<=3:=I;have i3:(m:Int)<=((⟨#[64,36,37]⟩:JZ).size:Int):=i2;have i4:((m:Int)).toNat=m:=I;have c6:=HS.bx.c 6 (Jd:6<9);simp only[A5,jr,jm,jp]at c6;have f6:=HS.bx.fz 6;have HE:=S hA;have kc:=S hm;clear ed hA hm;go_wp2;go_meet;case rel=>
        refine⟨⟨q.k,q.m,q.o,(⟨#[64,36,37]⟩:JZ).extract m 3,q.l,q.sd⟩,F,S (by unfold Ei;rw[yU (D HE),D kc]),S ?_⟩;exact HS.put 6 _ Jd F
      .have ed:decide (k%16<8/\q.k=1)=Vt:=decide_eq_false hA;rw[ed];have HE:=S hA;clear ed hA;go_wp2;go_meet;case rel=>exact⟨q,F,S (by unfold Ei;rw[yS (D HE)]),HS⟩
     case rest=>
      clear HS c0;obtain⟨qa,rfl,hO,HS⟩:=hcut;have hY:=S (show qa.m.size<=100/\qa.t.size<=3/\qa.l=0/\qa.sd=0/\qa.o=q.o/\qa.k=q.k by
       rw[D hO]
       unfold Ei
       have h:=D y
       split
       .exact⟨h.1,by rw[yC];exact yy (Nat.sub_le _ _) (Nat.min_le_left _ _),h.2.2.1,h.2.2.2.1,F,F⟩
       .exact⟨h.1,h.2.1,h.2.2.1,h.2.2.2.1,F,F⟩)
      have c0:=HS.bx.c 0 (Jd:0<9);have c3:=HS.bx.c 3 (Jd:3<9);have c5:=HS.bx.c 5 (Jd:5<9);have c6:=HS.bx.c 6 (Jd:6<9);have c7:=HS.bx.c 7 (Jd:7<9);have c8:=HS.bx.c 8 (Jd:8<9);have c2:=HS.bx.c 2 (Jd:2<9);have c4:=HS.bx.c 4 (Jd:4<9);simp only[A5,jr,jm,jp]at c0 c2 c3 c4 c5 c6 c7 c8;have fz:=HS.bx.fz;go_upto_if 107 with fail
      go_cut [9] (λpv we=>∃qb:ZB,pv = Qp N/\Hid (qb=BA v qa)/\Hid (Dw w1 we rp H a bs g1 c1 m1 p1 N qb));case first=>
       as_aux_lemma=>
       by_cases h2:qa.k=2
       .have e2:(qa.k==2)=Vp:=Ju h2
        have HE:=S h2;obtain⟨s,hs⟩:=Jx (AE qa.o.k qa.o.sd);have k0:0<=s/\s<=3:=by
         rw[hs,(D hY).2.2.2.2.1];rcases y.2.2.2.2.2 with h|⟨⟨_,_,h⟩,_⟩
         .rw[h];decide
         .unfold AE;rcases h with⟨h,h'⟩|⟨h,h'⟩|⟨h,h'⟩<;>rw[h]<;>simp<;>omega
        obtain⟨m,hm⟩:∃m:Nat,m=3*(v%6):=⟨_,F⟩;have tmv:(3:Int)*((v:Int)%6)=(m:Int):=I;have qi:=S (yO hs hm);have kr:m<=15:=I;clear h2 hm;have qh:=S (λqp=>O7 qa.o.s qa.o.k qa.o.l qa.o.sd qp);rw[<-hs]at qh;clear hs;go_wp2_with fail;go_call (D qh) _ as e w8 ⟨rfl,hb8⟩;have L:=S (((HS.put 6 (W ⟨#[]⟩) Jd (q':=⟨qa.k,qa.m,qa.o,j6,qa.l,qa.sd⟩) F).put 8 (G qa.o.sd) Jd (q':=⟨qa.k,qa.m,qa.o,j6,qa.l,qa.o.sd⟩) F).y hb8);clear qh hb8 c0 c2 c3 c4 c5 c6 c7 c8 fz e2;have d3:=L.bx.c 3 (Jd:3<9);have d7:=L.bx.c 7 (Jd:7<9);have d8:=L.bx.c 8 (Jd:8<9);simp only[A5,jr,jm,jp]at d3 d7 d8;have fz:=L.bx.fz;obtain⟨t,ht⟩:=Jx ((m:Int)+s);have K:=S (L.put 7 (G t) Jd (q':=⟨qa.k,qa.m,qa.o,j6,t,qa.o.sd⟩) F);have HT:=S ht;obtain⟨n3,Hi⟩:∃n3:Nat,n3=1+v/6%3:=⟨_,F⟩;have en3:(1:Int)+v/6%3=(n3:Int):=I;obtain⟨n4,Hv⟩:∃n4:Nat,n4=m+n3:=⟨_,F⟩;have en4:(m:Int)+n3=(n4:Int):=I;obtain⟨v8,Hw⟩:∃v8:Nat,v8=v*8:=⟨_,F⟩;have ev8:(v:Int)*8=(v8:Int):=I;have qk:=S (yO Hi (yO Hv Hw));have ks:n3<=3:=I;clear Hi Hv Hw;have kw:(m:Int)+s=t:=ht.symm;have kA:0<=t/\t<=18:=I;clear ht;by_cases u:128<=v
        .have e128:(128:Int)<=v:=I;by_cases A:qa.o.k=2
         .have ek2:(qa.o.k==2)=Vp:=Ju A
          by_cases V:250<=v
          .have e250:(250:Int)<=v:=I;go_wp2;go_meet;case rel=>
            refine⟨_,F,S F,S ?_⟩;have e:BA v qa=⟨qa.k,qa.m,qa.o,j6,(v8:Int),(n3:Int)⟩:=by unfold BA;rw[yU (D HE),yU V,yU ⟨u,A⟩,(D qk).2.2,(D qk).1]
            rw[e];exact((K.put 8 (G n3) Jd (q':=⟨qa.k,qa.m,qa.o,j6,t,(n3:Int)⟩) F).put 7 (G n4) Jd (q':=⟨qa.k,qa.m,qa.o,j6,(n4:Int),(n3:Int)⟩) F).put 7 (G v8) Jd F
          .have e250:¬ (250:Int)<=v:=I;go_wp2;go_meet;case rel=>
            refine⟨_,F,S F,S ?_⟩;have e:BA v qa=⟨qa.k,qa.m,qa.o,j6,(n4:Int),(n3:Int)⟩:=by unfold BA;rw[yU (D HE),yS V,yU ⟨u,A⟩,yU ⟨u,A⟩,(D qk).2.1,(D qk).1,(D qi).2]
            rw[e];exact(K.put 8 (G n3) Jd (q':=⟨qa.k,qa.m,qa.o,j6,t,(n3:Int)⟩) F).put 7 (G n4) Jd F
         .have ek2:(qa.o.k==2)=Vt:=Ju A
          by_cases V:250<=v
          .have e250:(250:Int)<=v:=I;go_wp2;go_meet;case rel=>
            refine⟨_,F,S F,S ?_⟩;have e:BA v qa=⟨qa.k,qa.m,qa.o,j6,(v8:Int),qa.o.sd⟩:=by unfold BA;rw[yU (D HE),yU V,yS (λx=>A x.2),(D qk).2.2]
            rw[e];exact K.put 7 (G v8) Jd F
          .have e250:¬ (250:Int)<=v:=I;go_wp2;go_meet;case rel=>
            refine⟨_,F,S F,S ?_⟩;have e:BA v qa=⟨qa.k,qa.m,qa.o,j6,t,qa.o.sd⟩:=by unfold BA;rw[yU (D HE),yS V,yS (λx=>A x.2),yS (λx=>A x.2),D HT,(D qi).1,(D qi).2]
            rw[e];exact K
        .have e128:¬ (128:Int)<=v:=I;have e250:¬ (250:Int)<=v:=I;go_wp2;go_meet;case rel=>
          refine⟨_,F,S F,S ?_⟩;have e:BA v qa=⟨qa.k,qa.m,qa.o,j6,t,qa.o.sd⟩:=by unfold BA;rw[yU (D HE),yS I,yS (λx=>u x.1),yS (λx=>u x.1),D HT,(D qi).1,(D qi).2]
          rw[e];exact K
       .have e2:(qa.k==2)=Vt:=Ju h2
        have HE:=S h2;clear h2;go_wp2;go_meet;case rel=>exact⟨qa,F,S (by unfold BA;rw[yS (D HE)]),HS⟩
      case rest=>
       clear HS hY c0 c2 c3 c4 c5 c6 c7 c8 fz;obtain⟨qb,rfl,qn,HS⟩:=hcut;rw[D hO]at qn;go_upto_if 148 with fail
       go_cut [9] (λpv wx=>∃qc:ZB,pv = Qp N/\Hid (qc=EB k v qb)/\Hid (Dw w1 wx rp H a bs g1 c1 m1 p1 N qc));case first=>
        as_aux_lemma=>
        by_cases hc:k%32=13
        .have ec:((k:Int)%32==13)=Vp:=Jq;have HE:=S hc;clear hc;have C:=S (λqp=>RE v qp I);go_wp2_with fail;go_call (D C) _ as e w9 ⟨rfl,qq⟩;have K:=S (HS.y qq);have d1:=K.bx.c 1 (Jd:1<9);simp only[A5,jr,jm,jp]at d1;have fz:=K.bx.fz;clear C qq;go_wp2;go_meet;case rel=>exact⟨⟨qb.k,E4 v,qb.o,qb.t,qb.l,qb.sd⟩,F,S (by unfold EB;rw[yU (D HE)]),S (K.put 1 _ Jd F)⟩
        .have ec:((k:Int)%32==13)=Vt:=Jq;have HE:=S hc;clear hc;go_wp2;go_meet;case rel=>exact⟨qb,F,S (by unfold EB;rw[yS (D HE)]),HS⟩
       case rest=>
        clear HS;obtain⟨qc,rfl,hy,HS⟩:=hcut;go_upto_if 154 with fail
        go_cut [9] (λpv wx=>∃qd:ZB,pv = Qp N/\Hid (qd=Fq k qc)/\Hid (Dw w1 wx rp H a bs g1 c1 m1 p1 N qd));case first=>
         as_aux_lemma=>
          by_cases hc:k%32=14
          .have ec:((k:Int)%32==14)=Vp:=Jq;have HE:=S hc;clear hc;obtain⟨n,hn,H6⟩:∃n:Nat,qc.o.l=(n:Int)/\n<1000000:=by rw[D hy,(TL k v qb).1,D qn,(Qx (Qw (D y)).1 hv).2.2.1,(Qw (D y)).2.1];exact y.lev
           have d4:=HS.bx.c 4 (Jd:4<9);simp only[A5,jr,jm,jp]at d4;rw[hn]at d4;have fz:=HS.bx.fz;have qj:=S hn;clear hn;go_wp2;go_meet;case rel=>exact⟨⟨qc.k,qc.m,⟨qc.o.s,qc.o.k,(n:Int)+1,qc.o.sd⟩,qc.t,qc.l,qc.sd⟩,F,S (by unfold Fq;rw[yU (D HE),D qj]),S (HS.put 4 _ Jd F)⟩
          .have ec:((k:Int)%32==14)=Vt:=Jq;have HE:=S hc;clear hc;go_wp2;go_meet;case rel=>exact⟨qc,F,S (by unfold Fq;rw[yS (D HE)]),HS⟩
        case rest=>
         clear HS;obtain⟨qd,rfl,hC,HS⟩:=hcut;go_upto_if 163 with fail
         go_cut [9] (λpv wx=>∃qe:ZB,pv = Qp N/\Hid (qe=GF k qd)/\Hid (Dw w1 wx rp H a bs g1 c1 m1 p1 N qe));case first=>
          as_aux_lemma=>
           by_cases hc:k%32=22
           .have ec:((k:Int)%32==22)=Vp:=Jq;have HE:=S hc;clear hc;obtain⟨n,hn,H6⟩:∃n:Nat,qd.l=(n:Int)/\n<=2100:=by rw[D hC,(cC k qc).2.1,D hy,(TL k v qb).2.1,D qn];exact(Qx (Qw y).1 hv).2.2.2.2
            have d7:=HS.bx.c 7 (Jd:7<9);simp only[A5,jr,jm,jp]at d7;rw[hn]at d7;have fz:=HS.bx.fz;have qj:=S hn;clear hn;go_wp2;go_meet;case rel=>exact⟨⟨qd.k,qd.m,qd.o,qd.t,(n:Int)+1,qd.sd⟩,F,S (by unfold GF;rw[yU (D HE),D qj]),S (HS.put 7 _ Jd F)⟩
           .have ec:((k:Int)%32==22)=Vt:=Jq;have HE:=S hc;clear hc;go_wp2;go_meet;case rel=>exact⟨qd,F,S (by unfold GF;rw[yS (D HE)]),HS⟩
         case rest=>
          clear HS;obtain⟨qe,rfl,Ha,HS⟩:=hcut;go_upto_if 170 with fail
          go_cut [9] (λpv wx=>∃qf:ZB,pv = Qp N/\Hid (qf=G9 k v qe)/\Hid (Dw w1 wx rp H a bs g1 c1 m1 p1 N qf));case first=>
           as_aux_lemma=>
            by_cases hc:k%32=12
            .have ec:((k:Int)%32==12)=Vp:=Jq;have HE:=S hc;clear hc;have d0:=HS.bx.c 0 (Jd:0<9);simp only[A5,jr,jm,jp]at d0;have fz:=HS.bx.fz;obtain⟨n,hn⟩:∃n:Nat,n=v%4:=⟨_,F⟩;have en:(v:Int)%4=(n:Int):=I;have qj:=S hn;clear hn;go_wp2;go_meet;case rel=>exact⟨⟨(n:Int),qe.m,qe.o,qe.t,qe.l,qe.sd⟩,F,S (by unfold G9;rw[yU (D HE),D qj]),S (HS.put 0 _ Jd F)⟩
            .have ec:((k:Int)%32==12)=Vt:=Jq;have HE:=S hc;clear hc;go_wp2;go_meet;case rel=>exact⟨qe,F,S (by unfold G9;rw[yS (D HE)]),HS⟩
          case rest=>
           clear HS;obtain⟨qf,rfl,hP,HS⟩:=hcut;have qs:=S (by unfold CI;rw[D hP,D Ha,D hC,D hy,D qn]:qf=CI k v q);clear hO qn hy hC Ha hP;go_upto_if 176 with fail
           go_cut [8] (λsv wx=>∃(g2 c2:Nat)(m2:Jp),sv = Ql g2 (Z m2) c2/\Hid (m2=if k%16=5 then m1++[Nb qf] else m1)/\Hid (Dw w1 wx rp H a bs g2 c2 m2 p1 N qf));case first=>
            as_aux_lemma=>
             by_cases h5:k%16=5
             .have e5:((k:Int)%16==5)=Vp:=Jq;obtain⟨hf,R,hI⟩:=cD y hv h5 HQ.k;rw[<-D qs]at hf R hI;have Hr:=(TM (k:=k) y hv).1;rw[<-D qs]at Hr;have HE:=S h5;have d0:=HS.bx.c 0 (Jd:0<9);have d1:=HS.bx.c 1 (Jd:1<9);have d2:=HS.bx.c 2 (Jd:2<9);have d3:=HS.bx.c 3 (Jd:3<9);have d4:=HS.bx.c 4 (Jd:4<9);have d5:=HS.bx.c 5 (Jd:5<9);have d6:=HS.bx.c 6 (Jd:6<9);have d7:=HS.bx.c 7 (Jd:7<9);have d8:=HS.bx.c 8 (Jd:8<9);simp only[A5,jr,jm,jp]at d0 d1 d2 d3 d4 d5 d6 d7 d8;have C:=S (λqp=>Rn qf qp);obtain⟨o,ho⟩:=Jx (ZU qf);rw[<-ho]at hf R hI C;have hZ:=S (λqp=>Wi o qp hf R I);have HO:=S ho;unfold Bt AJ at C;clear h5 ho hf R;go_wp2_with fail;go_call (D C) _ as e w9 ⟨⟨vb,rfl,_⟩,qq⟩;have K:=S (HS.y qq);have Hz:=K.lt;have HG:=K.sp.gB;have kz:=HG.2;have kv:O w1.1<=O w9.1:=K.sp.kp.size;have x1:=K.bx.c 1 (Jd:1<9);simp only[A5,jr,jm,jp]at x1;obtain⟨qm,hE⟩:=Jx qf.m;rw[<-hE]at x1 Hr;have ko:=S hE;clear C qq d0 d1 d2 d3 d4 d5 d6 d7 d8 hE;go_wp2_with fail;obtain⟨W9,M⟩:=Jx (w9.alloc (JM #[W o.s,G o.k,G o.l,G o.sd] 25));have qq:Below (O w9.1) w9 W9:=by rw[M];exact zC
              have bo:A6 W9 (O w9.1) #[W o.s,G o.k,G o.l,G o.sd]:=by rw[M];exact A6.new _ _ _
              have k9:O w9.1+1<=O W9.1:=by rw[M];simp
              rw[<-M];have y0:W9.cell? (J (O w9.1) 0)=E (W o.s):=bo.c 0 (Jd:0<4);have y1:W9.cell? (J (O w9.1) 1)=E (G o.k):=bo.c 1 (Jd:1<4);have y2:W9.cell? (J (O w9.1) 2)=E (G o.l):=bo.c 2 (Jd:2<4);have y3:W9.cell? (J (O w9.1) 3)=E (G o.sd):=bo.c 3 (Jd:3<4);have n1:W9.cell? (J N 1)=E (W qm):=Jc qq Hz x1;have H7:=S qq;clear M bo qq x1;obtain⟨ql,hJ⟩:=Jx (ZR (dW o));have k5:ql.size<=21000:=by rw[hJ];exact Vq hI
              rw[<-hJ]at hZ;obtain⟨t1,T⟩:=Jx ((⟨#[117,115,101,32]⟩:JZ)++qm);have z1:t1.size=4+qm.size:=by rw[T,zQ];rfl
              obtain⟨t2,qr⟩:=Jx (t1++(⟨#[10]⟩:JZ));have z2:t2.size=t1.size+1:=by rw[qr,zQ];rfl
              obtain⟨t3,hh⟩:=Jx (t2++ql);have z3:t3.size=t2.size+ql.size:=by rw[hh,zQ]
              obtain⟨t4,hG⟩:=Jx (t3++(⟨#[10,98,101,103,105,110,10,49]⟩:JZ));have r1:=λqp:World=>run_string_add_sum (P:=Vb) (w:=qp) ⟨#[117,115,101,32]⟩ qm (by show 4+qm.size<=_;omega)
              have r2:=λqp:World=>run_string_add_sum (P:=Vb) (w:=qp) t1 ⟨#[10]⟩ (by show t1.size+1<=_;omega)
              have r3:=λqp:World=>run_string_add_sum (P:=Vb) (w:=qp) t2 ql I
              have r4:=λqp:World=>run_string_add_sum (P:=Vb) (w:=qp) t3 ⟨#[10,98,101,103,105,110,10,49]⟩ (by show t3.size+8<=_;omega)
              rw[<-T]at r1;rw[<-qr]at r2;rw[<-hh]at r3;rw[<-hG]at r4;have H8:=S (by unfold Nb Es GE;rw[hG,hh,qr,T,hJ,D ko,D HO]:Nb qf=⟨⟨#[119,49]⟩,t4⟩);have ka:Z m1+[(⟨⟨#[119,49]⟩,t4⟩:zF)].length<=1000:=Jq;clear T qr hh hG hJ z1 z2 z3;go_region_held3 (λqp=>qp.cell? (J N 1)=E (W qm)/\qp.cell? (J (O w9.1) 0)=E (W o.s)/\qp.cell? (J (O w9.1) 1)=E (G o.k)/\qp.cell? (J (O w9.1) 2)=E (G o.l)/\qp.cell? (J (O w9.1) 3)=E (G o.sd)) (first|(with_reducible exact⟨n1'',y0'',y1'',y2'',y3''⟩)|(with_reducible exact⟨n1',y0',y1',y2',y3'⟩)|(go_keep;done))
               (first
                 |(go_at_call 27;(with_reducible refine((D hZ) _).mono ?_);rintro e w10 ⟨rfl,hb10⟩;have U:Below (O W9.1) W9 w10:=(yN).drew.trans hb10;have kt:=U.size;have hw:Hid (Below (O w9.1) w9 w10):=H7.trans (U.mono I);have n1':=Jc U (I:N<O W9.1) n1;have y0':=Jc U (I:O w9.1<O W9.1) y0;have y1':=Jc U (I:O w9.1<O W9.1) y1;have y2':=Jc U (I:O w9.1<O W9.1) y2;have y3':=Jc U (I:O w9.1<O W9.1) y3;clear hb10 U)
                 |((fail_if_success go_at_K);have Hd:=(K.sp.row.y hw).y (@zC w10 (JM #[W ⟨#[119,49]⟩,W t4] 49));have Hf:=Fx w10 ⟨⟨#[119,49]⟩,t4⟩;refine ES (by rfl) (.tmp 182) (.tmp 192) (by rfl) Hd (J (O w10.1) 0) 1 Hf ka (yy (I:O w1.1<=O w10.1) (@zC w10 _).size) (by rfl) (by rfl) ?_;intro g6 c6 w6 HM h6 hV Q h9 Ht;have f:=@zC w10 (JM #[W ⟨#[119,49]⟩,W t4] 49);have He:N<O w10.1:=I;have qo:O w9.1<O w10.1:=I;have n1'':=(zJ Q (b:=N) Jq (λe=>K.hg (by injection e with e;exact e.symm)) 1).trans (Jc f He n1');have y0'':=(zJ Q (b:=O w9.1) Jq (λe=>by injection e with e;omega) 0).trans (Jc f qo y0');have y1'':=(zJ Q (b:=O w9.1) Jq (λe=>by injection e with e;omega) 1).trans (Jc f qo y1');have y2'':=(zJ Q (b:=O w9.1) Jq (λe=>by injection e with e;omega) 2).trans (Jc f qo y2');have y3'':=(zJ Q (b:=O w9.1) Jq (λe=>by injection e with e;omega) 3).trans (Jc f qo y3');have HF:=S h6;have kq:=S hV;have Hc:=S Q;have H9:=S h9;clear h6 hV Q h9 Ht Hd Hf f))
              go_wp2;go_meet;case rel=>exact⟨g6,c6,HM,F,S (by rw[yU (D HE),D HF,D H8]),S ⟨((K.sp.y hw).y (@zC w10 _)).turned kq Hc,K.bx.same ((Hc.block N Jq (λe=>K.hg (by injection e))).trans ((hw.trans ((@zC w10 _).mono hw.size)).block N Hz)),K.hN,by rcases D H9 with h|h;(· rw[h];exact K.hg);(· simp at h;omega)⟩⟩
             .have e5:((k:Int)%16==5)=Vt:=Jq;have HE:=S h5;clear h5;go_wp2;go_meet;case rel=>exact⟨g1,c1,m1,F,S (by rw[yS (D HE)]),HS⟩
           case rest=>
            clear HS;obtain⟨g2,c2,m2,rfl,hD,HS⟩:=hcut;have k6:Z m1<=Z m2/\Z m2<=Z m1+1:=by rw[D hD];split<;>simp
            have HL:=S (show Bu 100 3000000000000 m2 by
             rw[D hD]
             split
             .rename_i h5
              refine B.snoc (Jd:(2:Nat)<=100) ?_
              have h1:=(cD y hv h5 HQ.k).2.2
              have h2:=(TM (k:=k) y hv).1
              rw[<-D qs]at h1 h2
              have h3:=Vq (o:=ZU qf) I
              unfold Nb Es GE
              simp only[zQ]
              show 4+qf.m.size+1+_+8<=_
              omega
             .exact B)
            have X:=S (km.same (HS.sp.kp.block (O w.1) (Jy (D Hb)) (by simp at hrp;omega)));have HX:Hid (Below (O w.1) w wc):=Hx.trans (HS.sp.kp.y Hx.size (by simp at hrp;omega));have d0:=HS.bx.c 0 (Jd:0<9);have d1:=HS.bx.c 1 (Jd:1<9);have d2:=HS.bx.c 2 (Jd:2<9);have d3:=HS.bx.c 3 (Jd:3<9);have d4:=HS.bx.c 4 (Jd:4<9);have d5:=HS.bx.c 5 (Jd:5<9);have d6:=HS.bx.c 6 (Jd:6<9);have d7:=HS.bx.c 7 (Jd:7<9);have d8:=HS.bx.c 8 (Jd:8<9);have b0:=X.c 0 (Jd:0<9);have b1:=X.c 1 (Jd:1<9);have b2:=X.c 2 (Jd:2<9);have b3:=X.c 3 (Jd:3<9);have b4:=X.c 4 (Jd:4<9);have b5:=X.c 5 (Jd:5<9);have b6:=X.c 6 (Jd:6<9);have b7:=X.c 7 (Jd:7<9);have b8:=X.c 8 (Jd:8<9);simp only[A5,jr,jm,jp]at d0 d1 d2 d3 d4 d5 d6 d7 d8 b0 b1 b2 b3 b4 b5 b6 b7 b8;have fz:=X.fz;have kB:=D Hb;obtain⟨Hu,Hm,Hp⟩:=TM (k:=k) y hv;rw[<-D qs]at Hu Hm Hp;go_wp2;go_region;go_wp21;have bx:=X.set9 F (G qf.k) (W qf.m) (W qf.o.s) (G qf.o.k) (G qf.o.l) (G qf.o.sd) (W qf.t) (G qf.l) (G qf.sd);have hr:=HS.sp.row.set9 (O w.1) I (G qf.k) (W qf.m) (W qf.o.s) (G qf.o.k) (G qf.o.l) (G qf.o.sd) (W qf.t) (G qf.l) (G qf.sd);have hb:=nW HX (G qf.k) (W qf.m) (W qf.o.s) (G qf.o.k) (G qf.o.l) (G qf.o.sd) (W qf.t) (G qf.l) (G qf.sd);unfold DD at bx hr hb;have HH:=S ((hr.y (yN).drew).lowB (B':=O w.1) I);have ke:=S hb.drew;have HA:=S (show TO (FV l) m2 qf by
             unfold TO
             rw[<-D Hh,<-D HK,<-D HV,<-D HZ]
             exact⟨ms,p5,m1,q,HD,kn,HQ,qs,hD⟩)
            have y0:=bx 0 Jd;have y1:=bx 1 Jd;have y2:=bx 2 Jd;have y3:=bx 3 Jd;have y4:=bx 4 Jd;have y5:=bx 5 Jd;have y6:=bx 6 Jd;have y7:=bx 7 Jd;have y8:=bx 8 Jd;simp only[jr,jm,jp]at y0 y1 y2 y3 y4 y5 y6 y7 y8;clear bx hr hb d0 d1 d2 d3 d4 d5 d6 d7 d8 b0 b1 b2 b3 b4 b5 b6 b7 b8 fz;refine yQ (v:=.tuple #[Ql g2 (Z m2) c2,Bt qf]) ?res F ⟨⟨g2,c2,m2,qf,F,I,I,Hu,Hm,Hp,HA,HL,HH⟩,ke⟩;case res=>
             unfold Bt;simp only[results,results5];simp[go_sem,y0,y1,y2,y3,y4,y5,y6,y7,y8]
def Eb.none{e a q c}(h:Eb e q a c)(d:c≠0):a=[]:=by
 obtain⟨k,i,m,_,⟨_,h,_⟩|⟨_,b,U,_,_,⟨_,h,_⟩|⟨_,⟨_,h,_⟩|⟨_,⟨_,h,_⟩|⟨_,⟨_,h,_⟩|⟨_,f,j,g,l,_,_,⟨_,h,_⟩|⟨_,_,h⟩⟩⟩⟩⟩⟩⟩:=h;iterate 6 exact h
 exact yV h d
def ZE.argV(h:ZE w B v us):∃a c,v=.slice a (Z us) c/\Cj w a us:=by
 obtain⟨e,⟨rfl,d⟩|⟨g,b,H,rfl,f⟩⟩:=id h
 .exact⟨JL,0,by rw[d],yW d⟩
 .exact⟨_,b,F,ZE.arg h⟩
def Zg.sized{a b}(h:Zg a out 0 b):Z a<=100/\∀i,i<Z a->(Ae a i).n.size<=maxLen/\(Ae a i).t.size<=maxLen:=by
 obtain⟨m,k,n,j,⟨d,_,h,_⟩|⟨rfl,U,g,_⟩⟩:=h
 .exact yV h.symm d
 obtain⟨e,f,_⟩:=j.good;refine⟨e,λi c=>?_⟩;have:=(g.2 i c).bound;have l:¬ 64<(Ae a i).n.size:=λh=>f i c (yX (yX h))
 unfold maxLen;omega
def M1.get{a n c}(h:M1 w (.slice a n c) out){i}(k:i<Z out):∃g x d,a=E (J g 0)/\g<O w.1/\w.cell? (J g i)=E (.slice x (Z (AM out i)) d)/\FX w x (AM out i):=by
 obtain⟨l,m,e,o|⟨g,rfl,j,h⟩⟩:=h
 .omega
 .injection e with e;obtain⟨x,d,b,f⟩:=h i k;exact⟨g,x,d,e,j,b,f⟩
def Zy.lens{b a v}(h:Zy b a v):Z a<=Z b/\(v=Vp->1<=Z a):=by
 rcases h with⟨h,rfl,rfl⟩|⟨_,rfl,rfl⟩
 .rw[D5];exact⟨GQ _ _,λ_=>N2 h h.1⟩
 .exact⟨yn,λh=>by cases h⟩
def FL.get{a n c b}(h:FL w (.slice a n c) b){i}(k:i<Z b):∃g t,a=E (J g 0)/\g<O w.1/\w.cell? (J g i)=E t/\ZX w t (zy b i):=by
 obtain⟨l,m,e,o|⟨g,rfl,j,h⟩⟩:=h
 .omega
 .injection e with e;obtain⟨t,d,f⟩:=h i k;exact⟨g,t,e,j,d,f⟩
open Go Go.ChangeShapes Go.WideShapes Go.ChangeAt Go.Joins
def YV{a}(h:a.ShapedOpen Vb):CP a:=
 cell_of_shapedOpen_int (g:=0) (t:=3) (zero:=#[G 0]) h (jN Jk) Jk F Jk Jk underlying3
def CH.heap{a}(h:CH w)(e:a.heap=w.heap):CH a:=by unfold CH Lib.TabIs World.var? at *;rw[e];exact h
