import Derived.Test.YtdgcbenningkdaaGreatDoorTie
import Derived.Test.YtdgcbenningkdaaGreatDoorCards
import Derived.Test.YtdgcbenningkdaaGreatDoorV22
namespace Go.Proofs.YtdgcbenningkdaaGreatDoor
set_option linter.all false
set_option maxHeartbeats 0
set_option maxRecDepth 100000
open Proofs.Tryz RowKit
open _root_.Array renaming size→O
open List renaming length→Z
open Option renaming some→E
open Obj renaming cells→JM
open Bool renaming false→Vt,true→Vp
open Proofs.Tryz renaming prog→Vb
def oL(t c o w)(i:Z c<=1048576)(h:ZX w t c):Calls Vb 12 #[.agg #[t],AJ o] w λe j=>e=.returned (.bool (Bh o c))/\Qb w j:=by have f:=S (λa (b:Qb w a)=>Sy t c o a i (h.y b));unfold AJ at f ⊢;go_enter func12,ntmps12;have b:=(@zC w (JM #[t] 45)).alloc Js (JM #[W o.s,G o.k,G o.l,G o.sd] 25);go_wp2_with fail;go_call (D f) _ b as e k ⟨rfl,d⟩;have g:=S (b.trans (d.mono b.size));go_wp2;go_ret;exact⟨F,g⟩
theorem lM(g c d o b w)(V:Z d<=1048576)(X:Z2 w g 0 d)(z:g<O w.1)(U:1<=o.k/\o.k<=3)(y:1<=Z d):Calls Vb 13 #[.agg #[Ql g (Z d) c],AJ o,AJ b] w λe A=>(∃f k:Nat,e=.returned (.agg #[Ql f (Z (AV o b d)) k])/\O w.1<=f/\ZD A f (AV o b d) (Z (AV o b d)))/\Qb w A:=by
 have s:=S (λa (l:Qb w a)=>Ur g c d o b a V (X.y l z) (ym z l.size) U);have l:=((@zC w (JM #[Ql g (Z d) c] 40)).alloc Js (JM #[W o.s,G o.k,G o.l,G o.sd] 25)).alloc Jq (JM #[W b.s,G b.k,G b.l,G b.sd] 25);have C:=λo1 o2 o3=>A6.newAt (((w.alloc o1).alloc o2).alloc o3) #[Jl] 40 (O w.1+3) Js
 unfold AJ at s ⊢;go_enter func13,ntmps13;go_wp2_with fail;go_call (D s) _ (l.alloc Jq _) as e B ⟨⟨u,rfl,p⟩,i⟩;have hz:=i.size;have m:=S (show Z5 B (O w.1+4) u (AV o b d) by
  unfold Z5
  rw[EZ]
  obtain⟨h0,p⟩:=p
  exact⟨I,p.imp id (λ⟨f,h,H,y,Q,R⟩=>⟨f,h,H,y,by simp at Q;omega,R⟩)⟩)
 have L:=S ((l.alloc Jq (JM #[Jl] 40)).trans (i.mono Jq));obtain⟨n,k,rfl⟩:=Za m;have t:=(C _ _ _).same (i.block (O w.1+3) Js);have x:=t.c 0 (Jd:0<1);have P:=t.fz 0;simp at x P;have K:=S (m.other (g:=O w.1+3) (j:=0) (.slice n (Z (AV o b d)) k) (λe=>Jy (ji m _ e)));go_wp2_with fail;obtain⟨f,M,e,q,T⟩:=Nm K (by grind [EZ]);injection e with e;refine yQ (v:=.agg #[.slice n (Z (AV o b d)) k]) ?res F ⟨⟨f,k,by rw[e],I,T⟩,L.setCell Jq _⟩;case res=>
  have N:=yu B (J (O w.1+3) 0) (.slice n (Z (AV o b d)) k) x;simp only[results,results13];simp[go_sem,N]
def zbb(a cap l w)(hl:Z l<=maxLen)(hp:Z l<=cap)(h:GZ w a l)(hm:CP w)(Hw:CH w):Calls Vb 3 #[.slice a (Z l) cap] w λe w'=>e=.returned (.bool Vp)/\Qb w w':=by
 by_cases HK:1048576<Z l
 .have hI:(1048576:Int)<Z l:=I;go_enter func3,ntmps3;go_wp2;go_ret;exact⟨F,yN⟩
 have hI:¬ (1048576:Int)<Z l:=I;have HM:=S (yO hm Hw);have HA:=S h;have M:=S (OW a cap l w I hp h);clear hm h Hw;go_enter func3,ntmps3;go_wp2_with fail;go_call D M as e w1 ⟨⟨g,c,ms,q,rfl,hN,Hl,hq1,hq2,hq3,HD,HMZ,HR⟩,C⟩;obtain⟨W1,o⟩:=Jx (w1.alloc (JM (A5 q) 27));have bx:A6 W1 (O w1.1) (A5 q):=by rw[o];exact A6.new _ _ _
 have x:Qb w1 W1:=by rw[o];exact zC
 have Q:=S (C.trans (x.mono C.size));have hw:=S (HR.y x);have qg:=S (HMZ.sized Jd Jd);have f:=S (QT (E (J g 0)) c ms q W1 I hw.arg qg I I);have HY:O w1.1+1<=O W1.1:=by rw[o];simp
 have ke:=S C.size;unfold Bt at f ⊢;unfold A5 at o;clear C x M HR;go_wp2_with fail;rw[<-o];go_call D f as e w2 ⟨rv,out,cw,rfl,HRF,_,B⟩;have hd:=S (Q.trans (B.mono Q.size));have Ht:=S (hw.y B);have Ho:=S (bx.same (B.block (O w1.1) I));have kb:=B.size;have M:=S (OW a cap l w2 I hp (HA.step hd));clear B f hw bx o Q;go_wp2_with fail;go_call D M as e w3 ⟨⟨g',c',ms',q',rfl,_,_,_,_,_,HD',_,HR'⟩,hb3⟩;obtain⟨rfl,rfl⟩:=M9.one HD HD';obtain⟨W3,ha⟩:=Jx (w3.alloc (JM (A5 q) 27));have x:Qb w3 W3:=by rw[ha];exact zC
 have A:=hb3.trans (x.mono hb3.size);have z:=S (hd.trans (A.mono hd.size));have hH:=S (Ht.y A);have hX:=S (Ho.same (A.block (O w1.1) I));have hM:=S (HR'.y x);have qf:=S (yO (HM.1.y z) (HM.2.y z));have h8:=S (QS (E (J g' 0)) c' ms q W3 (λhn=>⟨hn,hM.arg,qg,qf.1⟩) qg I I qf.1 qf.2 HRF);have HS:=A.size;unfold Bt at h8 ⊢;unfold A5 at ha;clear hb3 x A M Ht HR' Ho HD' hd;go_wp2_with fail;rw[<-ha];go_call D h8 as e w4 ⟨⟨ov,rfl,hro⟩,hb4⟩;have hh:=S (z.trans (hb4.mono z.size));have hF:=S (hH.y hb4);have hY:=S (hX.same (hb4.block (O w1.1) I));have HW:=hb4.size;have ecc:(cw != cw)=Vt:=Js;obtain⟨ao,co,h5,Hb⟩:=hro.argV;clear hb4 h8 hH hX hM qf z ha hro;by_cases hc:cw=0;case neg=>
  obtain rfl:=HRF.none hc;subst h5;have HT:(cw != 0)=Vp:=Ju hc
  clear hc;go_wp2;go_ret;exact⟨Js,hh⟩
 subst hc;obtain⟨ts,tabs,U,t2,tb2,U2,wt,wl,wn,HP⟩:=Oa HRF;have Hd:=HP.top.len;rw[Hd]at h5;subst h5;have HP:=S HP;have Hi:=S Hb;have Hz:=S (Ng (E (J g 0)) c ms w4 I hF.arg qg);clear Hb HRF;go_wp2_with fail;go_call D Hz as e w5 ⟨tv,ts',ct,wt',rfl,HTI,HTR,hb5⟩;obtain⟨rfl,rfl,rfl⟩:=HP.tr.one HTI;have hx:=S (hh.trans (hb5.mono hh.size));have h6:=S (hF.y hb5);have H2:=S (hY.same (hb5.block (O w1.1) I));have hR:=S (Hi.y hb5);have Hp:=S HTR.at';have ka:=hb5.size;have Hv:=S (OX (E (J g 0)) c ms w5 I h6.arg qg);clear hb5 Hz hF hY Hi HTR HTI hh;go_wp2_with fail;go_call D Hv as e w6 ⟨sv,tabs',cd,who,rfl,HLD,HTS,_,hb6⟩;obtain⟨rfl,rfl,rfl⟩:=HP.ld.one HLD;have hg:=S (hx.trans (hb6.mono hx.size));have Hs:=S (h6.y hb6);have Hh:=S (H2.same (hb6.block (O w1.1) I));have hu:=S (hR.y hb6);have hS:=S (Hp.y hb6);have Hc:=S HTS.tabs;have kf:=hb6.size;have qe:=Q7 ao co out w6 (λhn=>⟨hn,hu,HP.tr2.sized.2,HM.1.y hg⟩) HP.tr2;rw[Hd]at qe;have qe:=S qe;clear hb6 Hv h6 H2 hR Hp HTS HLD hx;go_wp2_with fail;go_call D qe as e w7 ⟨nv,rfl,HTN,hb7⟩;have hG:=S (hg.trans (hb7.mono hg.size));have hD:=S (Hs.y hb7);have HJ:=S (Hh.same (hb7.block (O w1.1) I));have Hg:=S (hu.y hb7);have Hy:=S (hS.y hb7);have Hk:=S (Hc.y hb7);have hZ:=S HTN.at';have HX:=hb7.size;have Hn:=(hD.lt g F).2;obtain⟨at',ct',Hj,_⟩:=id Hy;obtain⟨an,cn,hW,_⟩:=id hZ;obtain⟨as',cs,hV,_⟩:=id Hk;rw[(D HP).top.tl]at Hj;rw[(D HP).top.tl2]at hW;rw[(D HP).ld.good.2.2]at hV;subst Hj hW hV;have emm:((Z ms:Int)!=Z ms)=Vt:=Js;clear hb7 qe Hs Hh hu hS Hc HTN hg;go_wp2;go_loopw [20] (λiv wr=>∃(k:Nat),k<=Z ms/\iv=G k/\Hid (Qb w7 wr)) (λiv _=>Z ms-(intOf iv).toNat);case atStart=>exact⟨0,yn,F,S yN⟩
 case round=>
  obtain⟨k,hk,rfl,s⟩:=hrel;by_cases y:k<Z ms;case neg=>
   have HH:¬ (k:Int)<Z ms:=I;go_wp2;go_ret;exact⟨F,hG.trans (s.mono hG.size)⟩
  have HH:(k:Int)<Z ms:=I;obtain⟨p1,Hm⟩:=(HP.tr.parts HP.ld HP.un).2 k y;obtain⟨H9,HF,hB⟩:=Lm Hm;obtain⟨gt,x1,d1,rfl,HV,y1,H1⟩:=(Hy.y s).get (i:=k) (by rw[(D HP).top.tl];exact y);obtain⟨b1,f1,rfl,h9,C⟩:=H1.resolve_left I;obtain⟨T1,hr⟩:=Jx (AM ts k);rw[<-hr]at H9 HF hB h9 y1;have h3:=S hr;have hU:=S (Ve b1 f1 d1 T1 wr I h9 hB C);have Ha:=s.size;clear h9 hB hr Hm H1 C;go_wp2_with fail;go_call D hU as e w8 ⟨⟨a8,c8,us,v8,rfl,HO8,HE8⟩,hb8⟩;obtain⟨rfl,HE,HC⟩:v8=Vp/\1<=Z us/\Z us<=20001:=by
   have hE:∃u,Zy T1 u Vp:=by
    rw[D h3];by_cases ho:q.o∈zy tabs k
    .obtain⟨u,h,_⟩:=HP.top.tch k y ho;exact⟨u,h⟩
    .obtain⟨_,u,h,_⟩:=HP.top.not k y ho;exact⟨u,h⟩
   obtain⟨u,hE⟩:=hE;obtain⟨rfl,rfl⟩:=HE8.one hE;have:=HE8.lens;exact⟨F,this.2 F,I⟩
  obtain⟨g8,rfl,HU,h0⟩:∃g,a8=E (J g 0)/\O wr.1<=g/\ZD w8 g us (Z us):=by
   rcases D HO8 with⟨h,_⟩|h
   .omega
   .exact h
  obtain⟨W8,qb⟩:=Jx (w8.alloc (JM #[Ql g8 (Z us) c8] 40));have x:Qb w8 W8:=by rw[qb];exact zC
  have h7:=hb8.trans (x.mono hb8.size);have H3:=S (by rw[qb];exact A6.new _ _ _:A6 W8 (O w8.1) #[Ql g8 (Z us) c8]);have Hq:=S h7;have qc:=S (s.trans (h7.mono Ha));have h1:=S (h0.y x h0.1);have HQ:O w8.1+1<=O W8.1:=by rw[qb];simp
  have kc:=hb8.size;obtain⟨gs,t,rfl,HB,ys,h2⟩:=(Hk.y qc).get (i:=k) (by rw[(D HP).ld.good.2.2];exact y);obtain⟨xs,he⟩:=Jx (zy tabs k);rw[<-he]at h2;have hC:zM xs 0:=by rw[he];exact HP.ld.valid k y
  have HN:=(Sg hC).1;have HI:=S hC;have hf:=S he;have hz:=S (oL t xs q.o W8.drew I (h2.y (yN).drew));have R:=S (HJ.same (qc.block (O w1.1) I));have q2:W8.cell? (J (O w1.1) 2)=E (W q.o.s):=R.c 2 (Jd:2<9);have q3:W8.cell? (J (O w1.1) 3)=E (G q.o.k):=R.c 3 (Jd:3<9);have q4:W8.cell? (J (O w1.1) 4)=E (G q.o.l):=R.c 4 (Jd:4<9);have q5:W8.cell? (J (O w1.1) 5)=E (G q.o.sd):=R.c 5 (Jd:5<9);unfold AJ at hz;clear hb8 x h7 hU y1 HO8 h0 h2 he hC;go_wp2_with fail;rw[<-qb];clear qb;go_cut [108] from 91 to 154 (λbv wx=>bv=.bool (Bh q.o xs)/\Hid (Qb W8 wx));case first=>
   go_region_held3 (λqd=>qd.cell? (J gs k)=E t/\qd.cell? (J (O w1.1) 2)=E (W q.o.s)/\qd.cell? (J (O w1.1) 3)=E (G q.o.k)/\qd.cell? (J (O w1.1) 4)=E (G q.o.l)/\qd.cell? (J (O w1.1) 5)=E (G q.o.sd)) (first|(go_keep;done)|exact⟨ys',q2',q3',q4',q5'⟩)
    (first|(go_at_call 12;(with_reducible refine(D hz).mono ?_);rintro e w9 ⟨rfl,hb9⟩;have X:Hid (Qb W8 w9):=(yN).drew.trans hb9;have ys':=Jc X HB ys;have q2':=Jc X (I:O w1.1<O W8.1) q2;have q3':=Jc X (I:O w1.1<O W8.1) q3;have q4':=Jc X (I:O w1.1<O W8.1) q4;have q5':=Jc X (I:O w1.1<O W8.1) q5;clear hb9))
   all_goals
    go_wp2
    go_meet
    case rel=>exact⟨F,X⟩
  case rest=>
   clear ys q2 q3 q4 q5 hz;obtain⟨wx,H5⟩:=Jx wc;subst H5;obtain⟨rfl,X⟩:=hcut;have HO:=X.size;go_upto_if 108 with fail
   go_cut [21] from 91 to 154 (λpv wy=>∃(g9 c9:Nat)(u9:Jj),pv = Qp (O w8.1)/\Z u9<=20001/\Hid (wy.cell? (J (O w8.1) 0)=E (Ql g9 (Z u9) c9))/\Hid (ZD wy g9 u9 (Z u9))/\Hid (Zy (AM t2 k) u9 Vp)/\Hid (Qb wr wy));case first=>
    have d:=S (Hq.trans (X.mono I));have m:=S (qc.trans (X.mono qc.size));have hq:=S (H3.same (X.block (O w8.1) I));have qa:=S (h1.y X h1.1);have o0:wx.cell? (J (O w8.1) 0)=E (Ql g8 (Z us) c8):=hq.c 0 (Jd:0<1);have Q:=S (λ(w':JY)(h:Qb wx w')(j:Nat)=>h.cell (p:=J (O w1.1) j) (I:O w1.1<O wx.1));have hs:=S (λ(w':JY)(h:Qb wx w')=>Jc h (I:O w8.1<O wx.1) o0);have H4:=S (λ(w':JY)(h:Qb wx w')=>(hq.same (h.block (O w8.1) I)).fz);by_cases ho:q.o∈xs
    .have N:Bh q.o xs=Vp:=Zz.2 ho;have hb:=S (show Zy (AM t2 k) (AV q.o (ZU q) us) Vp by
      have ht:=HP.top.tch k y (by rw[<-D hf];exact ho)
      obtain⟨u,h,h'⟩:=ht
      rw[<-D h3]at h
      obtain⟨rfl,_⟩:=HE8.one h
      exact h')
     have HG:1<=q.o.k/\q.o.k<=3:=by
      obtain⟨j,hj,e⟩:=List.getElem_of_mem ho;have:=(Sg HI).2 j hj;have e2:r xs j=q.o:=by rw[<-e];simp[r,yq,hj]
      rw[e2]at this;exact(MR this).2.2
     have P:=S (R.same (X.block (O w1.1) I));obtain⟨bq,hJ⟩:=Jx (ZU q);have qe:=S (λqd=>RY q qd);rw[<-hJ]at qe hb;have q0:=P.c 0 (Jd:0<9);have q1:=P.c 1 (Jd:1<9);have q2:=P.c 2 (Jd:2<9);have q3:=P.c 3 (Jd:3<9);have q4:=P.c 4 (Jd:4<9);have q5:=P.c 5 (Jd:5<9);have q6:=P.c 6 (Jd:6<9);have q7:=P.c 7 (Jd:7<9);have q8:=P.c 8 (Jd:8<9);simp only[A5,jr,jm,jp]at q0 q1 q2 q3 q4 q5 q6 q7 q8;unfold Bt AJ at qe;rw[N];clear ho N hJ;have o0d:wx.drew.cell? (J (O w8.1) 0)=E (Ql g8 (Z us) c8):=o0;have q0d:wx.drew.cell? (J (O w1.1) 0)=E (G q.k):=q0;have q1d:wx.drew.cell? (J (O w1.1) 1)=E (W q.m):=q1;have q2d:wx.drew.cell? (J (O w1.1) 2)=E (W q.o.s):=q2;have q3d:wx.drew.cell? (J (O w1.1) 3)=E (G q.o.k):=q3;have q4d:wx.drew.cell? (J (O w1.1) 4)=E (G q.o.l):=q4;have q5d:wx.drew.cell? (J (O w1.1) 5)=E (G q.o.sd):=q5;have q6d:wx.drew.cell? (J (O w1.1) 6)=E (W q.t):=q6;have q7d:wx.drew.cell? (J (O w1.1) 7)=E (G q.l):=q7;have q8d:wx.drew.cell? (J (O w1.1) 8)=E (G q.sd):=q8;go_wp2_with fail
     go_region_with (first
       |(go_at_call 14;(with_reducible refine((D qe) _).mono ?_);rintro e w10 ⟨rfl,hb10⟩;have K:Hid (Qb wx w10):=(yN).drew.trans hb10;have o0':=(D hs) _ K;have q0':=((Q) _ K 0).trans q0;have q1':=((Q) _ K 1).trans q1;have q2':=((Q) _ K 2).trans q2;have q3':=((Q) _ K 3).trans q3;have q4':=((Q) _ K 4).trans q4;have q5':=((Q) _ K 5).trans q5;have q6':=((Q) _ K 6).trans q6;have q7':=((Q) _ K 7).trans q7;have q8':=((Q) _ K 8).trans q8;have f:=S (lM g8 c8 us q.o bq w10 I (qa.y K qa.1).ops (ym qa.1 K.size) HG HE);unfold AJ at f;clear hb10)
       |(go_at_call 13;(with_reducible refine(D f).mono ?_);rintro e w11 ⟨⟨g',c',rfl,hg',hf'⟩,hb11⟩;have H:=S (K.trans (hb11.mono K.size));have o0'':=(D hs) _ H;have q0'':=((Q) _ H 0).trans q0;have q1'':=((Q) _ H 1).trans q1;have q2'':=((Q) _ H 2).trans q2;have q3'':=((Q) _ H 3).trans q3;have q4'':=((Q) _ H 4).trans q4;have q5'':=((Q) _ H 5).trans q5;have q6'':=((Q) _ H 6).trans q6;have q7'':=((Q) _ H 7).trans q7;have q8'':=((Q) _ H 8).trans q8;have Hu:=S hf';have f11:=(D H4) _ H 0;have H7:g'≠O w8.1:=(Jy K.size);clear hb11 hf'))
     all_goals
      go_wp2
      go_meet
      case rel=>exact⟨g',c',AV q.o bq us,F,by rw[EZ];omega,S (yu w11 (J (O w8.1) 0) _ o0''),S (Hu.grown (row:=E (O w8.1)) ⟨F,F,F,Jt,λi _ hi=>jh _ _ _ _ (λe=>hi (by rw[e]))⟩ (λe=>H7 (by injection e))),hb,S ((d.trans (H.mono d.size)).setCell I _)⟩
    .have N:Bh q.o xs=Vt:=by
      cases h:Bh q.o xs
      .rfl
      .exact yV (Zz.1 h) ho
     have ht:=HP.top.not k y (by rw[<-D hf];exact ho);obtain⟨H0,u,h,h'⟩:=ht;rw[<-D h3]at h;obtain⟨rfl,_⟩:=HE8.one h;have hb:=S h';obtain⟨bo,fo,rfl,T,hQ⟩:=(Hg.y m).resolve_left I;obtain⟨_,z1⟩:=T k I;obtain⟨_,z2⟩:=(hD.ops.y m Hn) k y;simp only[jd]at z2;rw[H0]at z1;obtain⟨tx,V⟩:=Jx ((Ae ms k).t);rw[<-V]at z1 z2;have ett:(tx.toList != tx.toList)=Vt:=Js;rw[N];clear ho N H0 h h' T V;go_wp2;go_region;go_wp2;go_meet;case rel=>exact⟨g8,c8,_,F,HC,S (hs _ (yN).drew),S (qa.y (yN).drew qa.1),hb,S d.drew⟩
   case rest=>
    obtain⟨wy,H8⟩:=Jx wc;subst H8;obtain⟨g9,c9,u9,rfl,HZ,Hf,qa,hA,d⟩:=hcut;have H6:=d.size;have m:=S (s.trans (d.mono Ha));obtain⟨p2,He⟩:=(HP.tr2.parts HP.ld2 HP.un2).2 k I;obtain⟨hN,Hl,h4⟩:=Lm He;obtain⟨gn,x2,d2,rfl,kd,y2,hO⟩:=(hZ.y m).get (i:=k) (by rw[(D HP).top.tl2];exact y);obtain⟨b2,f2,rfl,hy,B⟩:=hO.resolve_left I;obtain⟨T2,hP⟩:=Jx (AM t2 k);rw[<-hP]at hN Hl h4 hy y2 hA;have Hx:=S (Ud b2 f2 d2 T2 wy I hy h4 B);clear hy h4 hP He hO B X H3 Hq qc h1 HE8;go_wp2_with fail;go_call D Hx as e w10 ⟨⟨a10,c10,u10,v10,rfl,HO10,HE10⟩,hb10⟩;obtain⟨rfl,rfl⟩:=hA.one HE10;obtain⟨W10,b⟩:=Jx (w10.alloc (JM #[.slice a10 (Z u9) c10] 40));have x:Qb w10 W10:=by rw[b];exact zC
    have n:=hb10.trans (x.mono hb10.size);have c10':W10.cell? (J (O w10.1) 0)=E (.slice a10 (Z u9) c10):=by rw[b];simp[go_sem]
    have o10:=Jc n (jl Hf) Hf;have K:=S (d.trans (n.mono H6));have L:=S (m.trans (n.mono m.size));have HL:O w10.1+1<=O W10.1:=by rw[b];simp
    have hK:O w8.1<O W10.1:=jl o10;have hf:=S (T7 a10 (E (J g9 0)) c10 c9 u9 u9 W10.drew I I (((HO10.step x).arg).y (yN).drew) (yX ⟨g9,0,F,(qa.y n qa.1).ops,ym qa.1 n.size⟩));obtain⟨bo,fo,rfl,T,hQ⟩:=(Hg.y L).resolve_left I;obtain⟨z1,_⟩:=T k I;obtain⟨z2,_⟩:=(hD.ops.y L Hn) k y;simp only[jd]at z2;rw[(D HP).top.nm k y]at z1;obtain⟨tx,V⟩:=Jx ((Ae ms k).n);rw[<-V]at z1 z2;have ett:(tx.toList != tx.toList)=Vt:=Js;have Hr:g<O W10.1:=Jy L.size
    clear hb10 x n y2 Hx HO10 HE10 hA T V;go_wp2_with fail;rw[<-b];clear b;go_cut [154] from 91 to 154 (λbv wz=>bv=.bool Vt/\Hid (Qb W10 wz));case first=>
     go_region_held3 (λqd=>qd.cell? (J bo (fo+k*2))=E (W tx)/\qd.cell? (J g (k*2))=E (W tx)/\qd.cell? (J (O w10.1) 0)=E (.slice a10 (Z u9) c10)/\qd.cell? (J (O w8.1) 0)=E (Ql g9 (Z u9) c9)) (first|(go_keep;done)|exact⟨z1',z2',c11',o11'⟩)
      (first|(go_at_call 16;(with_reducible refine(D hf).mono ?_);rintro e w11 ⟨⟨v,rfl,hv⟩,hb11⟩;obtain rfl:v=Vp:=(Ju hv);have H:Hid (Qb W10 w11):=(yN).drew.trans hb11;have z1':=Jc H hQ z1;have z2':=Jc H Hr z2;have c11':=Jc H (I:O w10.1<O W10.1) c10';have o11':=Jc H hK o10;clear hb11 hv))
     all_goals
      go_wp2
      go_meet
      case rel=>exact⟨F,H⟩
    case rest=>obtain⟨rfl,H⟩:=hcut;clear z1 z2 c10' o10;go_wp2;exact⟨⟨k+1,I,Jn,S (L.trans (H.mono L.size))⟩,Ji⟩
open Go Go.ChangeShapes Go.WideShapes Go.ChangeAt Go.Joins
def xK{w}(h:laidMetH Vb Rows.fnTopRow.laid w):CH w:=by rw[MakeChecks.laidMetH_plain _ _ _ (by kernel_rfl)]at h;obtain⟨_,⟨_,_,_,_,_,_,_,_,_,_,⟨_,_,_,_,_,_,_,_,_,_,⟨g,t,f,a,p,_,c,d,e,b,_⟩,_⟩,_⟩,_⟩:=h;have H:prog.globalNamed "internal/strconv.uint64pow10" = E 5:=Jk;obtain rfl:=jz (H.symm.trans c);have K:(prog.globals[5]?).map (·.type)=E 340:=Jk;obtain rfl:=jz (K.symm.trans d);unfold CH Lib.TabIs;rw[e,<-Lib.cells_of_tab (k:=.u64) (zs:=Lib.pow10Tab) underlying340 underlying316 Jk Jk b]
theorem TpP.lifted(N)(z:N.Started)(H)(s:TypeId×Value->H):ReturnsInHanded {} Tryz.checked N 3 .any (λw n=>(Rows.fnTopSpec.pre s Vb Tryz.f3 Rows.fnTopRow.domain Vt w n/\laidMetH Vb Rows.fnTopRow.laid w)/\sizedMet s Vb Tryz.f3 (OpenSpec.ofChange Rows.fnTopSpec) Vt w n)
   (Rows.fnTopSpec.post s Vb Tryz.f3 Vt Vp Vt Vt):=by
 refine returnsInHanded_of_calls (C:=Tryz.checked) ByP.own z Jk
  (ChangeSpec.witness_shaped (enc:=s) (C:=Tryz.checked) (os:=N) (X:=λw _=>laidMetH Vb Rows.fnTopRow.laid w) Vt (World.laidAll Vb N Rows.fnTopRow.laid) #[Jl] 8 (World.laidAll_os _ _ _)
   (World.shaped_of_ZipB Jk Jk) Jk Jk Jk
   (by rw[MakeChecks.laidMetH_plain _ _ _ (by kernel_rfl)];exact laidMet_laidAll _ Jk Jk)) ?_
 intro w o i _ U _ A P _;obtain⟨_,_,_,fn',f,_,_,_,_,y⟩:=A;obtain rfl:fn'=Tryz.f3:=jz (f.symm.trans func3);obtain⟨⟨⟨ds,gs,R,hw,_⟩,k⟩,_⟩:=P;have hW:=DataW.Whole.of_heap (w':=w.forCall o i) (by rfl) hw;have hT:CH (w.forCall o i):=CH.heap (xK k) F;suffices hc:Calls Vb 3 i.args (w.forCall o i) λe T=>∃v,e=.returned v/\Rows.fnTopSpec.post s Vb Tryz.f3 Vt Vp Vt Vt (w.forCall o i) i.args v T from
  hc.mono λe T ⟨v,he,hp⟩=>by subst he;exact ChangeSpec.post_blind hp
 generalize w.forCall o i=g at *;generalize i.args=n at *;have Q:∀(j:Nat) t v,Tryz.f3.params[j]?=E t->n[j]?=E v->Value.okWide Vb g .any (O w.1) t v:=y;have b:=hW;obtain⟨p,q,V,hV,rfl,c,B⟩:=hW;have hA:DataW.TrodAll s Vb g 0 (λ_=>Vp) Vp Tryz.f3.params.toList n.toList ds p:=V;rw[Tryz.params3]at hA Q;obtain⟨v0,d,d0,ds0,p0,q0,u,rfl,rfl,h0,r0⟩:=trodAll_cons hA;obtain⟨rfl,rfl,rfl⟩:=trodAll_nil r0;obtain rfl:n=#[v0]:=by cases n;simp_all
 obtain⟨rfl,rfl⟩:=trodVars_none hV;have k0:=h0;have lt0:∀x∈p0,x.block<O g.1:=by obtain⟨m,hm⟩:=k0;exact DataW.trod_lt m _ _ _ hm
 obtain⟨a,len,M,rfl⟩:=okWide_slice underlying22 (Q 0 22 v0 F rfl);obtain⟨a',K,l,e,e1,e2,e3⟩:∃(a':Option Addr)(K:Nat)(l:Jw),[Value.slice a len M]=[.slice a' (Z l) K]/\Z l<=maxLen/\Z l<=K/\GZ g a' l:=by obtain⟨fuel,hf⟩:=h0;exact UG hf
 simp at e;obtain⟨rfl,rfl,rfl⟩:=e;refine(zbb a M l g e1 e2 e3 (YV U) hT).mono λe T ⟨he,L⟩=>?_
 subst he;exact⟨_,F,_,_,_,[],_,[],b,trodAll_mk1 (shut_bool underlying4 _),(trodAll_cons_mk (Below.trod ByP.laidOut Jk (jN Jk) k0 L lt0) trodAll_mk0),F,L.frame _,λh=>by cases h⟩
def xL:Rows.FnTopSaid:=
 OpenClaim.holds_of_wide 3 Tryz.f3 F rfl rfl rfl rfl rfl rfl ⟨F,F,F,F,F⟩ F rfl rfl rfl rfl (by as_aux_lemma=>kernel_rfl) func3 (by as_aux_lemma=>kernel_rfl)
  (jN (by as_aux_lemma=>kernel_rfl)) (by unfold Func.isWrapper;first|(rw[yU (by as_aux_lemma=>decide +kernel)];kernel_rfl)|(rw[yS (by as_aux_lemma=>decide +kernel)];exact⟨F,F⟩))
  (λc a H b _=>TpP.lifted c a H b)
theorem top_holds:Rows.FnTopCardSaid:=
 Claim7.holds_tied_plain_at .later [] [.data,.data,.data,.data,.sentinel,.sentinel,.pinned] Vp Rows.fnTopCard.stood.harness Vp
  xL (λ_ h=>by cases h) (by as_aux_lemma=>kernel_rfl) (λ_ h=>by cases h) fnTop_row_tie F ⟨F,F⟩ (by as_aux_lemma=>kernel_rfl) F
  (λf b c K=>by
   obtain rfl:f=3:=jz ((Jk:prog.funcNamed "loop.example/s0059/laws.FnTop" = E 3).symm.trans c) |>.symm
   obtain rfl:b=Tryz.f3:=(jz (Tryz.func3.symm.trans K)).symm
   exact⟨Jk,λj t a=>by
    rw[Tryz.params3]at a
    have d:t∈[22]:=Ju (Array.mem_of_getElem? a)
    have H:([22].all λu=>!prog.wantsStandIn u)=Vp:=Jk
    exact(by simpa using List.all_eq_true.1 H t d:prog.wantsStandIn t=Vt)⟩)
  (by as_aux_lemma=>kernel_rfl)
#print axioms top_holds
