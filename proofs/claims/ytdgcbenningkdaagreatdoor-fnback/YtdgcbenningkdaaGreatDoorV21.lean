import Derived.Test.YtdgcbenningkdaaGreatDoorV13
import Derived.Test.YtdgcbenningkdaaGreatDoorV16
import Derived.Test.YtdgcbenningkdaaGreatDoorV19
namespace Go.Proofs.YtdgcbenningkdaaGreatDoor
set_option linter.all false
set_option maxHeartbeats 0
set_option maxRecDepth 100000
open Proofs.Tryz RowKit
open _root_.Array renaming size→O
open List renaming length→Z
open Option renaming some→E
open Obj renaming cells→JM
open Bool renaming false→Vt,true→Vp
open Proofs.Tryz renaming prog→Vb
open Value renaming ownBlock→i8
def zba(w:JY)(i f:Nat)(a)(j:Jw)(b:Jp->Nat->Prop)(e:Ending)(h:JY):=
 ∃(g c q:Nat)(d:Jp),e=.returned (Ql g (Z d) c)/\Hid (ZE h (O w.1) (Ql g (Z d) c) d)/\1<=Z d/\Z d<=4/\Hid (Bu 3 2000000000000 d)/\Hid (b d q)/\Hid (Az h i a f j q)/\Hid (zE w h i)
def dA(rp cap p a bs w)(h:Az w rp a cap bs p)(hl:Z bs<=1200):Calls Vb 20 #[Qp rp] w (zba w rp cap a bs (λms q=>M8 bs p ms q)):=by
 have Kh:=h.lt;have H:=S h;clear h;go_enter func20,ntmps20;go_wp2_with fail;go_call EX rp cap p a bs _ (D H) hl as e w1 ⟨⟨k0,rfl,hk0,HK0⟩,H1,HP1⟩;have Ko:=HP1.size;go_wp2_with fail;go_call dC rp cap (Ac bs p) a bs _ ((D H1).y zC) hl as e w2 ⟨⟨ga,ca,qa,xa,rfl,hga,hF2,HTB,H2⟩,HP2⟩;obtain⟨n,HN⟩:∃n,Hid (n=1+Af bs p%4):=⟨_,S F⟩;have KP:1<=n/\n<=4:=by rw[D HN];omega
 have KI:(1:Int)+k0%4=(n:Int):=by rw[D HN,<-D HK0];omega
 have z2:O w1.1+1<=O w2.1:=by have:=HP2.size;simpa using this
 have K9:O w1.1+1<=ga:=Ju hga
 have Ku:Z xa<=10:=by have:=HTB.small.1;have:=Nat.mod_lt (Af bs (Ac bs p)) (Jd:0<8);omega
 have kZ:=S (HTB.opT);have kJ:=S (show Ef w (w2.alloc (JM #[Ql ga (Z xa) ca] 45)) rp cap a bs (O w2.1) ga ca xa (O w1.1) 0 [] qa from by
  have hk:zE w w2 rp:=(HP1.belowN zC).trans HP2
  have hb:=@zC w2 (JM #[Ql ga (Z xa) ca] 45)
  have hr:ZE w2 (O w.1) (Ql (O w1.1) 0 0) []:=(ZE.nil (w:=w1) (B:=O w.1) Ko).grown (za HP2) (λk hk e=>by simp[i8]at hk;injection e with e;omega)
  have hy:=hF2.lt1
  exact⟨hr.y hb,H2.y hb,hk.belowN hb,Jg,hF2.tabO.y hb hy,I,I,I,I,Kh⟩)
 clear hF2 H1 HP1 H2 HP2 H;go_wp2;go_loopw [4,6] (λov iv wr=>∃(g c q:Nat)(ms:Jp),Z ms<=n/\iv=G (Z ms:Int)/\ov = Ql g (Z ms) c/\Hid (Ef w wr rp cap a bs (O w2.1) ga ca xa g c ms q)/\Hid (JX bs n xa qa (Z ms) ms q)/\Hid (Bu 3 2000000000000 ms)) (λ_ iv _=>n-(intOf iv).toNat);case atStart=>exact⟨O w1.1,0,qa,[],yn,F,F,kJ,S ⟨F,F⟩,S (Bu.nil _ _)⟩
 case round=>
  clear kJ;obtain⟨g,c,q,ms,KO,rfl,rfl,HS,hO,Hk⟩:=hrel;by_cases KF:Z ms<n;case neg=>
   have HF:=S (show M8 bs p ms q from⟨xa,qa,HTB,by
    have Kb:Z ms=n:=I
    have h:=D hO
    rw[Kb]at h
    rw[<-D HN]
    exact h⟩)
   have kt:¬ (Z ms:Int)<n:=I;go_wp2;go_ret;exact⟨g,c,q,ms,F,S HS.row,I,I,Hk,HF,S HS.rd,S HS.kp⟩
  have kt:(Z ms:Int)<n:=I;go_wp2_with fail;go_call EX rp cap q a bs _ (D HS).rd hl as e w3 ⟨⟨k,rfl,hk,HK⟩,H3,HP3⟩;have kC:=S (HS.read HP3 H3);clear HS H3 HP3;obtain⟨L,hL⟩:=Jx (O w3.1);obtain⟨W4,hF⟩:=Jx (((w3.alloc (JM #[] 9)).alloc (JM #[] 25)).alloc (JM #[Ql (O w3.1+1) 0 0] 45));have k9:Below (O w3.1) w3 W4:=by rw[hF];exact((zC).alloc Js _).alloc Jq _
  have HG:=S (show CR w W4 rp cap a bs (O w2.1) ga ca xa g c ms (Ac bs q) L (L+2) (Ql (L+1) 0 0) from by
   have h3:=D kC
   refine⟨h3.y k9,?_,?_,?_,?_,I,?_,?_⟩
   .rw[hL];exact(h3.row.lt g F).2
   .rw[hL];exact jl h3.al
   .rw[hL];exact h3.tb.1
   .rw[hL];exact h3.kp.size
   .rw[hF,hL];simp[go_sem]
   .rw[hF,hL];simp[go_sem])
  have kL:=S (show zu W4 L (Ql L 0 0) [] from by
   have h0:=zu.nil (w:=w3) (B:=L) I
   have hb:Below (O (w3.alloc (JM #[] 9)).1) (w3.alloc (JM #[] 9)) W4:=by rw[hF];exact(zC).alloc Js _
   rw[hL]at h0 ⊢
   exact h0.y hb)
  have k8:O W4.1=L+3:=by rw[hF,hL];simp
  have Ky:=S hF;have HL:=S hL;clear hF k9 hL kC;go_wp2_with fail;rw[<-D Ky,<-D HL];obtain⟨Sb,Hr⟩:=Jx (L+1+1);obtain⟨S0,Hv⟩:=Jx (L+1);have eSb:L+2=Sb:=Hr.symm;rw[eSb,<-Hv]at HG;rw[<-Hr,<-Hv];have HX:=S (yO k8 (yO Hr Hv));have KE:Z ms<=3:=I;clear Hr Hv eSb k8;go_loopw [8,10] (λuv jv wr=>∃(j gu cu:Nat)(us:Jv),j<=Z ms/\Z us<=j/\jv=G j/\uv = Ql gu (Z us) cu/\Hid (us=Gt k ms j)/\Hid (zu wr L (Ql gu (Z us) cu) us)/\Hid (CR w wr rp cap a bs (O w2.1) ga ca xa g c ms (Ac bs q) L Sb (Ql S0 0 0))/\gu≠Sb) (λ_ jv _=>Z ms-(intOf jv).toNat);case atStart=>
   have h:=D HX;exact⟨0,L,0,[],yn,yn,F,F,S F,kL,HG,I⟩
  case round=>
   clear kL HG;obtain⟨j,gu,cu,us,hj,KR,rfl,rfl,Hp,f,K,kn⟩:=hrel;obtain⟨wo,Kt⟩:=Jx wr;subst Kt;by_cases Hf:j<Z ms
   .have kD:(j:Int)<Z ms:=I;obtain⟨c0,c1⟩:=K.pr.row.ops j Hf;simp only[jd]at c0 c1;have hC:((k:Int)/2 ^ j).tmod 2=((k/2 ^ j%2:Nat):Int):=by have e:((k:Int)/2 ^ j)=((k/2 ^ j:Nat):Int):=Js;rw[e];generalize k/2 ^ j=x;rw[yA I];omega
    obtain⟨nm,h5⟩:=Jx ((Ae ms j).n);rw[<-h5]at c0;by_cases hQ:k/2 ^ j%2=1
    .have eb:(((k:Int)/2 ^ j).tmod 2==1)=Vp:=by rw[hC,hQ];rfl
     have h6:=S (by simp only[Gt];rw[yU hQ,<-D Hp,h5]:us++[nm]=Gt k ms (j+1));clear hC hQ h5;go_wp2_with (at_builtin;refine As Z7 underlying63 (.tmp 48) (.tmp 54) F rfl L _ (Z us) (zU us) F (f.y zC) (J (O wo.1) 0) 1 1 (zU [nm]) F rfl (Zu wo nm) (ZA _) Jm I (by have:=K.lS;have:Sb<O wo.1:=jl K.sc;simp;omega) ?_);intro v6 w6 qh d hn P;have hy:=f.lt gu F;have K6:Sb<O wo.1:=jl K.sc;have U:zu w6 L v6 (us++[nm]):=zu.join qh F;obtain⟨g6,c6,rfl⟩:=U.has Js;obtain⟨Ha,hI⟩:=Jx (us++[nm]);rw[<-hI]at U h6;have T:Z Ha=Z us+1:=by rw[hI];simp
     have N:=S ((K.y (@zC _ (JM #[W nm] 9))).grow d hy.1 kn);have Hq:g6≠Sb:=by
      rcases P with e|e
      .have:g6=gu:=by simpa[i8] using e
       omega
      .have:g6=O wo.1+1:=by simpa[i8] using e
       omega
     have hs:=S U;rw[<-hI];have hY:Z Ha<=j+1:=I;clear qh d hn P U hI T K f;go_wp2;exact⟨⟨j+1,g6,c6,Ha,I,hY,Jn,F,h6,hs,N,Hq⟩,Ji⟩
    .have eb:(((k:Int)/2 ^ j).tmod 2==1)=Vt:=by rw[hC];generalize k/2 ^ j%2=x at hQ ⊢;simp;omega
     have h6:=S (by simp only[Gt];rw[yS hQ,<-D Hp]:us=Gt k ms (j+1));clear hC hQ h5;go_wp2;exact⟨⟨j+1,gu,cu,us,I,I,Jn,F,h6,f,K,kn⟩,Ji⟩
   .obtain rfl:j=Z ms:=I;clear Hf hj;have K6:Sb<O wo.1:=jl K.sc;have HW:=S (show AQ (wo.alloc (JM #[] 25)) L (Ql (O wo.1) 0 0) [] from by
     have:=yJ (base:=L) (e:=25) (size:=4) wo #[] 0 (Jy K.lS) yn F
     simpa[AQ,zn] using this)
    have Hb:=S (K.y (@zC wo (JM #[] 25)));have hX:=S (f.y (@zC wo (JM #[] 25)));have hy:=f.lt gu F;have Hi:O wo.1≠Sb/\O wo.1≠gu:=I;obtain⟨W5,HY⟩:=Jx (wo.alloc (JM #[] 25));rw[<-HY]at HW Hb hX;have kX:=S HY;clear HY K f;go_wp2_with fail;rw[<-D kX];have H4:O wo.1≠Sb:=Hi.1;have Hz:O wo.1≠gu:=Hi.2;clear Hi;go_loopw [11,12] (λov jv wr=>∃(j go co:Nat)(own:Jf),j<=Z xa/\Z own<=j/\jv=G j/\ov = Ql go (Z own) co/\Hid (own=Ev k n (Z ms) xa j)/\Hid (AQ wr L (Ql go (Z own) co) own)/\Hid (zu wr L (Ql gu (Z us) cu) us)/\Hid (CR w wr rp cap a bs (O w2.1) ga ca xa g c ms (Ac bs q) L Sb (Ql S0 0 0))/\go≠Sb/\go≠gu) (λ_ jv _=>Z xa-(intOf jv).toNat);case atStart=>exact⟨0,O wo.1,0,[],yn,yn,F,F,S F,HW,hX,Hb,H4,Hz⟩
    case round=>
     clear HW hX Hb H4 Hz;obtain⟨j,go,co,own,hj,k5,rfl,rfl,Hd,hm,f,K,Hu,kw⟩:=hrel;obtain⟨wp,Kf⟩:=Jx wr;subst Kf;have al0:=K.pr.al;have hy:=hm.lt go F;have Hh:=f.lt gu F;have kB:Sb<O wp.1:=jl K.sc;by_cases Hf:j<Z xa
     .have kD:(j:Int)<Z xa:=I;obtain⟨ql,hr⟩:=Jx (j%n);have KN:((n:Int)==0)=Vt:=Jq;have tm:(j:Int).tmod (n:Int)=ql:=by rw[yA I,hr];simp
      have tm2:(j:Int)%(n:Int)=ql:=by rw[hr];simp
      by_cases Hn:ql=Z ms\/(240<=k/\ql=0)
      .obtain⟨b0,b1,b2,b3⟩:=K.pr.tb.2 j Hf;simp only[jd]at b0 b1 b2 b3;obtain⟨o,ho⟩:=Jx (r xa j);rw[<-ho]at b0 b1 b2 b3;have h6:=S (by simp only[Ev];rw[yU (by rw[<-hr];exact Hn),<-D Hd,ho]:own++[o]=Ev k n (Z ms) xa (j+1));clear hr ho;have ki:((ql:Int)==Z ms)=Vp\/(((ql:Int)==Z ms)=Vt/\(240:Int)<=k/\((ql:Int)==0)=Vp):=by
        by_cases e:ql=Z ms
        .exact yW (by simp[e])
        .exact yX ⟨Jq,I,Jq⟩
       clear Hn;rcases ki with e1|⟨e1,e2,e3⟩;all_goals
        go_wp2_with (at_builtin;refine As Fz underlying43 (.tmp 79) (.tmp 85) F rfl L _ (Z own) (zn own) F (hm.y zC) (J (O wp.1) 0) 1 1 (zn [o]) F rfl (Ij wp o) (Zw _) Jm I (by have:=K.lS;simp;omega) ?_)
        intro v6 w6 qh d hn P
        have U:AQ w6 L v6 (own++[o]):=by unfold AQ;rw[Zo,yr];exact qh
        obtain⟨g6,c6,rfl⟩:∃g6 c6,v6 = Ql g6 (Z (own++[o])) c6:=by
         obtain⟨_,⟨_,h0⟩|⟨g',Hj,K4,hv,_⟩⟩:=U
         .simp at h0
         .exact⟨g',Hj,hv⟩
        obtain⟨own6,hN⟩:=Jx (own++[o])
        rw[<-hN]at U h6
        have T:Z own6=Z own+1:=by rw[hN];simp
        have hE:=@zC wp (JM #[W o.s,G o.k,G o.l,G o.sd] 25)
        have N:=S ((K.y hE).grow d hy.1 Hu)
        have ht:=S ((f.y hE).grown d (λx hx e=>by simp[i8]at hx;have e':E go=E x:=e;injection e' with e';omega))
        have Hq:g6≠Sb/\g6≠gu:=by
         rcases P with e|e
         .have:g6=go:=by simpa[i8] using e
          omega
         .have:g6=O wp.1+1:=by simpa[i8] using e
          omega
        have hs:=S U
        rw[<-hN]
        have hY:Z own6<=j+1:=I
        clear qh d hn P U hN T K f hm hE
        go_wp2
        exact⟨⟨j+1,g6,c6,own6,I,hY,Jn,F,h6,hs,ht,N,Hq.1,Hq.2⟩,Ji⟩
      .have h6:=S (by simp only[Ev];rw[yS (by rw[<-hr];exact Hn),<-D Hd]:own=Ev k n (Z ms) xa (j+1));clear hr;have e1:((ql:Int)==Z ms)=Vt:=Jq;have ki:¬ (240:Int)<=k\/((240:Int)<=k/\((ql:Int)==0)=Vt):=by
        by_cases e:240<=k
        .exact yX ⟨I,Jq⟩
        .exact yW I
       clear Hn;rcases ki with e2|⟨e2,e3⟩;all_goals
        go_wp2
        exact⟨⟨j+1,go,co,own,I,I,Jn,F,h6,hm,f,K,Hu,kw⟩,Ji⟩
     .obtain rfl:j=Z xa:=I;have kD:¬ (Z xa:Int)<Z xa:=I;clear Hf hj;go_upto_region 21 with fail
      go_cut [93] from 28 to 166 (λsv wc=>sv=.bool (decide (0<Z ms/\k%32=31))/\wc=wp);case first=>
       as_aux_lemma=>
        by_cases h0:0<Z ms
        .have e0:(0:Int)<Z ms:=I;by_cases kK:k%32=31
         .have e1:((k:Int)%32==31)=Vp:=Jq;go_wp2;go_meet;case rel=>exact⟨by simp[h0,kK],F⟩
         .have e1:((k:Int)%32==31)=Vt:=Jq;go_wp2;go_meet;case rel=>exact⟨by simp[kK],F⟩
        .have e0:¬ (0:Int)<Z ms:=I;go_wp2;go_meet;case rel=>exact⟨by simp[h0],F⟩
      case rest=>
       obtain⟨rfl,Kp⟩:=hcut;have Kd:=Kp.symm;subst Kd;have KU:rp<L:=by have:=K.pr.rpl;have:=K.lw;omega
       go_upto_if 93 with fail
       go_cut [11] from 28 to 166 (λsv wc=>∃(go co p1:Nat)(own:Jf),sv = Ql go (Z own) co/\Hid (FZ bs n (Z ms) xa q=(own,p1))/\Hid (AQ wc L (Ql go (Z own) co) own)/\Hid (zu wc L (Ql gu (Z us) cu) us)/\Hid (CR w wc rp cap a bs (O w2.1) ga ca xa g c ms p1 L Sb (Ql S0 0 0)));case first=>
        as_aux_lemma=>
         by_cases hd:0<Z ms/\k%32=31
         .have ed:decide (0<Z ms/\k%32=31)=Vp:=decide_eq_true hd;have kr:=S (Un rp cap (Ac bs q) Vp a bs wp K.pr.rd hl);rw[ed];clear ed;go_wp2_with fail;go_call D kr as e w6 ⟨⟨o,rfl,HOo⟩,H6,hG⟩;have N:=S (K.read hG H6);have ht:=S (f.grown (za hG) (λx hx e=>by simp[i8]at hx;injection e with e;omega));have h8:=S (hm.grown (za hG) (λx hx e=>by simp[i8]at hx;injection e with e;omega));have Kx:=hG.size;have hB:=S (show FZ bs n (Z ms) xa q=(own++[o],Ac bs (Ac bs (Ac bs q))) by
           unfold FZ
           rw[<-D HK,yU hd,<-D Hd,<-D HOo])
          clear hd H6 hG kr;go_wp2_with (at_builtin;refine As Fz underlying43 (.tmp 94) (.tmp 97) F rfl L _ (Z own) (zn own) F (h8.y zC) (J (O w6.1) 0) 1 1 (zn [o]) F rfl (Ij w6 o) (Zw _) Jm I (by have:=K.lS;simp;omega) ?_);intro v7 w7 Hg h7 H9 kH;have kl:AQ w7 L v7 (own++[o]):=by unfold AQ;rw[Zo,yr];exact Hg
          obtain⟨g7,c7,rfl⟩:∃g7 c7,v7 = Ql g7 (Z (own++[o])) c7:=by
           obtain⟨_,⟨_,h0⟩|⟨g',Hj,K4,hv,_⟩⟩:=kl
           .simp at h0
           .exact⟨g',Hj,hv⟩
          have hE:=@zC w6 (JM #[W o.s,G o.k,G o.l,G o.sd] 25);have hw:=S ((N.y hE).grow h7 hy.1 Hu);have kI:=S ((ht.y hE).grown h7 (λx hx e=>by simp[i8]at hx;have e':E go=E x:=e;injection e' with e';omega));have K0:=S kl;clear Hg h7 H9 kH kl N ht h8 hE;go_wp2;go_meet;case rel=>exact⟨g7,c7,_,own++[o],F,hB,K0,kI,hw⟩
         .have ed:decide (0<Z ms/\k%32=31)=Vt:=decide_eq_false hd;have hB:=S (show FZ bs n (Z ms) xa q=(own,Ac bs q) by
           unfold FZ
           rw[<-D HK,yS hd,<-D Hd])
          rw[ed];clear ed hd;go_wp2;go_meet;case rel=>exact⟨go,co,_,own,F,hB,hm,f,K⟩
       case rest=>
        clear K f hm Hd hy Hh kB Hu kw al0 k5;obtain⟨go,co,p1,own,rfl,hB,hm,f,K⟩:=hcut;have hy:=hm.lt go F;have Hh:=f.lt gu F;obtain⟨wq,Ka⟩:=Jx wc;subst Ka;have kE:=zZY (bs:=bs) (n:=n) (i:=Z ms) (p:=q) kZ Ku;rw[D hB]at kE;obtain⟨k5,kz⟩:=kE;have k3:=S kz;obtain⟨ks,kg⟩:=XO (k:=k) (z:=3) (λi=>(Hk i).1) (Z ms);rw[<-D Hp]at kg;have kS:=S kg;have HR:=S (RE (Z ms) wq I);obtain⟨nm,h5⟩:=Jx (E4 (Z ms));rw[<-h5]at HR;have HO:=S h5;have HT:nm.size<=3:=by rw[h5];exact RB _
        clear kz kg h5 ks;go_wp2_with fail;go_call D HR as e w6 ⟨rfl,Q⟩;have hg:=S Q;have N:=S (K.y Q);have ht:=S (f.y Q);have h8:=S (hm.y Q);have Kx:=Q.size;have H0:Au w6 go 0 own:=(Ml h8).2.ops;have hS:=S (eF rp cap p1 gu cu go co a bs us own w6 N.pr.rd.free hl I I (Ts (λx hx=>yy (kS x hx) Jd)) (zbA (λo ho=>(k3 o ho).2)) (λi hi=>(k3 _ (zay hi)).1) I I I I (λi hi=>ht.atE i hi) H0);clear Q H0 HR;go_wp2_with fail;go_call D hS as e w7 ⟨⟨hd,rfl,hdz,HHD⟩,H7,HP7⟩;have hw:=S (N.read HP7 (H7.strict (MN N.pr.rd.le)));have KM:=HP7.size;have l:=S (Ca.new w7 nm hd);have he:=S (hw.y (@zC w7 (JM #[W nm,W hd] 49)));obtain⟨W8,Ht⟩:=Jx (w7.alloc (JM #[W nm,W hd] 49));rw[<-Ht]at l he;have ko:O W8.1=O w7.1+1:=by rw[Ht];simp
        have kQ:=S Ht;obtain⟨M,hM⟩:=Jx (O w7.1);rw[<-hM]at l ko;have HV:L<=M:=by have:=hw.lS;have:Sb<O w7.1:=jl hw.sc;omega
        have Ho:Sb≠M:=by have:Sb<O w7.1:=jl hw.sc;omega
        have Kn:=S hM;have KA:M<O W8.1:=I;clear ko;clear hS H7 HP7 N ht h8 K f hm hg hw Ht hM hy Hh;go_upto_region 24 with fail
        rw[<-D kQ,<-D Kn];go_cut [14,15] from 28 to 166 (λtv cv wc=>∃(tabs:JE)(cd who:Int),cv=G cd/\Hid (ZI (ms++[⟨nm,hd⟩]) tabs cd who)/\Hid (GS wc (O W8.1) tv tabs)/\Hid (Below (O W8.1) W8 wc));case first=>
         as_aux_lemma=>
          have HU:hd.size<=2000000000000:=I;have qf:M<O W8.1:=l.lt;have hq:=(he.pr.row.lt g F).2;have hD:Z ([]:Jp)+Z ms<=1000:=Jq;have T:Z ms+[(⟨nm,hd⟩:zF)].length<=1000:=Jq;have HE:Hid (ZE (W8.alloc (JM #[] 49)).drew (O W8.1) (Ql (O W8.1) (Z ([]:Jp)) 0) []):=(ZE.nil (w:=W8) yk).y (yN).drew;have kd:Hid (ZE ((W8.alloc (JM #[] 49)).alloc (JM #[W nm,W hd] 49)).drew (O W8.1) (Ql (O W8.1) (Z ([]:Jp)) 0) []):=(ZE.nil (w:=W8) yk).y (zC).drew;have HJ:=S (show ZE ((W8.alloc (JM #[W nm,W hd] 49)).alloc (JM #[] 49)).drew (O W8.1) (Ql (O W8.1+1) (Z ([]:Jp)) 0) [] from by
           have:=ZE.nil (w:=W8.alloc (JM #[W nm,W hd] 49)) (B:=O W8.1) Js
           simpa using this.y (yN).drew)
          have HP:=S (he.pr.row.ops.y (@zC W8 (JM #[] 49)).drew hq);have HB:=S (he.pr.row.ops.y ((@zC W8 (JM #[] 49)).alloc Js (JM #[W nm,W hd] 49)).drew hq);have kf:=S (he.pr.row.ops.y ((@zC W8 (JM #[W nm,W hd] 49)).alloc Js (JM #[] 49)).drew hq);have HD:=S (show ∀j u,(zk [(⟨nm,hd⟩:zF)])[j]?=E u->((W8.alloc (JM #[] 49)).alloc (JM #[W nm,W hd] 49)).drew.cell? ((J (O W8.1+1) 0).add j)=E u from λj u hj=>by
           have:=Fx (W8.alloc (JM #[] 49)) ⟨nm,hd⟩ j u hj
           simpa using this)
          have HI:=S (show ∀j u,(zk [(⟨nm,hd⟩:zF)])[j]?=E u->((W8.alloc (JM #[W nm,W hd] 49)).alloc (JM #[] 49)).drew.cell? ((J (O W8.1) 0).add j)=E u from λj u hj=>by
           have h1:=Fx W8 ⟨nm,hd⟩ j u hj
           rw[jO]at h1 ⊢
           exact((@zC (W8.alloc (JM #[W nm,W hd] 49)) (JM #[] 49)).drew.cell (p:=(J (O W8.1) (0+j))) Js).trans h1)
          have hV:=S ((Hk.snoc (m:=⟨nm,hd⟩) HT HU).sized Jd Jd);obtain⟨c00,c01,_⟩:=D l;go_region_held3 (λqi=>qi.cell? (J M 0)=E (W nm)/\qi.cell? (J M 1)=E (W hd)) (first|(go_keep;done)|exact⟨m0,m1⟩|exact⟨Jc zC (I:M<O w5.1) m0,Jc zC (I:M<O w5.1) m1⟩)
           (first
            |(refine ES (by rfl) (.tmp 107) (.tmp 108) (by rfl) HE (J g 0) c (Li HP) hD Js (by rfl) (by rfl) ?_;intro g5 c5 w5 hp A qd qj qe qc;have e5:ms=hp:=A.symm;subst e5;have y:Below (O W8.1) W8 w5:=(@zC W8 (JM #[] 49)).drew.grown qj (by simp<;>omega) (λx hx=>by injection hx with hx;omega);have qb:=S y;have qg:=S qd;have z5:=y.size;have m0:=Jc y Jh l.c0;have m1:=Jc y Jh l.c1;clear y qd qj qe qc A)
            |(refine ES (by rfl) (.tmp 107) (.tmp 108) (by rfl) kd (J g 0) c (Li HB) hD Jq (by rfl) (by rfl) ?_;intro g5 c5 w5 hp A qd qj qe qc;have e5:ms=hp:=A.symm;subst e5;have y:Below (O W8.1) W8 w5:=((@zC W8 (JM #[] 49)).alloc Js (JM #[W nm,W hd] 49)).drew.grown qj (by simp<;>omega) (λx hx=>by injection hx with hx;omega);have qb:=S y;have qg:=S qd;have z5:=y.size;have m0:=Jc y Jh l.c0;have m1:=Jc y Jh l.c1;have ke:Hid (∀j u,(zk [(⟨nm,hd⟩:zF)])[j]?=E u->w5.cell? ((J (O W8.1+1) 0).add j)=E u):=λj u hj=>(by have h:=(D HD) j u hj;rw[jO]at h ⊢;exact(zJ qj (b:=O W8.1+1) Js (λx=>by injection x with x;omega) (0+j)).trans h);clear y qd qj qe qc A)
            |(refine ES (by rfl) (.tmp 107) (.tmp 108) (by rfl) HJ (J g 0) c (Li kf) hD Jq (by rfl) (by rfl) ?_;intro g5 c5 w5 hp A qd qj qe qc;have e5:ms=hp:=A.symm;subst e5;have y:Below (O W8.1) W8 w5:=((@zC W8 (JM #[W nm,W hd] 49)).alloc Js (JM #[] 49)).drew.grown qj (by simp<;>omega) (λx hx=>by injection hx with hx;omega);have qb:=S y;have qg:=S qd;have z5:=y.size;have m0:=Jc y Jh l.c0;have m1:=Jc y Jh l.c1;have ka:Hid (∀j u,(zk [(⟨nm,hd⟩:zF)])[j]?=E u->w5.cell? ((J (O W8.1) 0).add j)=E u):=λj u hj=>(by have h:=(D HI) j u hj;rw[jO]at h ⊢;exact(zJ qj (b:=O W8.1) (by simp<;>omega) (λx=>by injection x with x;omega) (0+j)).trans h);clear y qd qj qe qc A)
            |(refine ES (vs:=[⟨nm,hd⟩]) (by rfl) (.tmp 109) (.tmp 111) (by rfl) (qg.y zC) (J (O w5.1) 0) 1 (Fx w5 ⟨nm,hd⟩) T Jq (by rfl) (by rfl) ?_;intro g6 c6 w6 ha X U C P R;have Q:Below (O W8.1) W8 w6:=(qb.alloc qb.size _).grown C (by have:=qb.size;first|omega|(simp;omega)) (λx hx=>by injection hx with hx;have:=(qg.lt g5 F).1;omega);have hg:=S Q;have hs:=S U;have hA:Z ha<=10:=(by rw[X];simp;omega);have h4:=S X;have m0:=Jc Q Jh l.c0;have m1:=Jc Q Jh l.c1;clear Q U C P R X)
            |(refine ES (vs:=[⟨nm,hd⟩]) (by rfl) (.tmp 109) (.tmp 111) (by rfl) qg (J (O W8.1+1) 0) 1 ke T I (by rfl) (by rfl) ?_;intro g6 c6 w6 ha X U C P R;have Q:Below (O W8.1) W8 w6:=qb.grown C (by have:=qb.size;first|omega|(simp;omega)) (λx hx=>by injection hx with hx;have:=(qg.lt g5 F).1;omega);have hg:=S Q;have hs:=S U;have hA:Z ha<=10:=(by rw[X];simp;omega);have h4:=S X;have m0:=Jc Q Jh l.c0;have m1:=Jc Q Jh l.c1;clear Q U C P R X)
            |(refine ES (vs:=[⟨nm,hd⟩]) (by rfl) (.tmp 109) (.tmp 111) (by rfl) qg (J (O W8.1) 0) 1 ka T I (by rfl) (by rfl) ?_;intro g6 c6 w6 ha X U C P R;have Q:Below (O W8.1) W8 w6:=qb.grown C (by have:=qb.size;first|omega|(simp;omega)) (λx hx=>by injection hx with hx;have:=(qg.lt g5 F).1;omega);have hg:=S Q;have hs:=S U;have hA:Z ha<=10:=(by rw[X];simp;omega);have h4:=S X;have m0:=Jc Q Jh l.c0;have m1:=Jc Q Jh l.c1;clear Q U C P R X)
            |(go_at_call 9;have Hm:=OX (E (J g6 0)) c6 ha w6 I hs.arg (by rw[D h4];exact hV);(with_reducible refine Hm.mono ?_);clear Hm;rintro e w9 ⟨tv,tabs,cd,who,rfl,HL9,HT9,hm9,hb9⟩;have hf:=S (hg.trans (hb9.mono hg.size));have m0:=Jc hf Jh l.c0;have m1:=Jc hf Jh l.c1;clear hb9))
          all_goals
           go_wp2
           go_meet
           case rel=>exact⟨tabs,cd,who,F,by rw[<-D h4];exact HL9,S (HT9.low hg.size),hf⟩
        case rest=>
         obtain⟨tabs,cd,who,rfl,kb,ku,hf⟩:=hcut;have KS:=hf.size;have hz:=S (he.y hf);have kj:=S (l.y hf);clear l;go_upto_if 118 with fail
         go_cut [9] from 28 to 166 (λpv wd=>∃(gs cs:Nat)(ns:Jf),pv = Qp Sb/\Hid (ns=if cd=0 then zy tabs (Z ms) else[])/\Hid (Ew wd gs ns)/\Hid (L<=gs)/\Hid (Z ns<=500/\Bg ns (Z ns))/\Hid (Ca wd M nm hd)/\Hid (CR w wd rp cap a bs (O w2.1) ga ca xa g c ms (Ac bs p1) L Sb (Ql gs (Z ns) cs)));case first=>
          as_aux_lemma=>
           by_cases hc:cd=0
           .subst hc;obtain⟨Ks,K8,kP⟩:=kb.good;obtain⟨gT,cT,hu,K3⟩:=D ku;have k6:Z ms<Z tabs:=by rw[kP];simp
            rcases K3 with h0|⟨KD,KG,k1⟩
            .omega
            obtain⟨t,Kl,⟨gq,cq,rfl,Kz,hC⟩,kv⟩:=k1 (Z ms) k6;subst hu;have KQ:O W8.1<=gq:=kv gq F;have KL:(Z ms:Int)<Z tabs:=I;have HZ:=Sg (kb.valid (Z ms) Js);obtain⟨ns,HH⟩:=Jx (zy tabs (Z ms));rw[<-HH]at Kl hC HZ;have sc9:=hz.sc;have sf9:=hz.sf;have KK:Sb<O W8.1:=jl he.sc;have hR:=S (by rw[yU rfl];exact HH:ns=if(0:Int)=0 then zy tabs (Z ms) else[]);have Hl:=S (show Ew (wc.setCell (J Sb 0) (Ql gq (Z ns) cq)) gq ns from⟨by simpa[World.setCell] using Kz,λi hi=>by
             obtain⟨a0,a1,a2,a3⟩:=hC i hi
             have e:∀o,(wc.setCell (J Sb 0) (Ql gq (Z ns) cq)).cell? (J gq o)=wc.cell? (J gq o):=λo=>yj _ _ _ _ (λe=>by injection e with e;omega)
             exact⟨(e _).trans a0,(e _).trans a1,(e _).trans a2,(e _).trans a3⟩⟩)
            have kU:=S (hz.put (Ql gq (Z ns) cq));have K1:=S (kj.other (b:=Sb) (o:=0) (v:=Ql gq (Z ns) cq) Ho);have K7:L<=gq:=I;have Hw:=S HZ;clear k1 hC kv HH HZ k6 Ks K8 kP;go_wp2;go_meet;case rel=>exact⟨gq,cq,ns,F,hR,Hl,S K7,Hw,K1,kU⟩
           .have Hs:(cd==0)=Vt:=Ju hc
            have hR:=S (by rw[yS hc]:([]:Jf)=if cd=0 then zy tabs (Z ms) else[]);have KH:Sb<O wc.1:=jl hz.sc;have Hl:=S (show Ew wc S0 [] from⟨Jy HX.2,λi hi=>yV hi (yz _)⟩);clear hc;go_wp2;go_meet;case rel=>exact⟨S0,0,[],F,hR,Hl,S (Jy HX.2),S ⟨Js,λj hj=>yV hj (yz _)⟩,kj,hz⟩
         case rest=>
          clear hz kj ku he hf;obtain⟨gs,cs,ns,rfl,hR,hO,kY,Hw,hh,K⟩:=hcut;obtain⟨Wd,Kg⟩:=Jx wc;subst Kg;obtain⟨He,Hx⟩:=tR Hw.2;have Kk:gs≠rp:=Jy (D kY)
          have kq:=S (dP rp cap (Ac bs p1) gs cs a bs ns Wd.drew (K.pr.rd.y (yN).drew) hl Hw.1 (hO.y (yN).drew hO.1) Kk He Hx);obtain⟨rc0,rc1,rfz,_,_⟩:=K.pr.rd;obtain⟨mc0,mc1,mf1⟩:=D hh;have sc:=K.sc;have qf:=hh.lt;have kh:M≠rp:=I;have KB:Sb<O Wd.1:=jl sc;have KJ:Sb≠rp:=Jy K.lS
          clear He Hx;go_upto_region 28 with fail
          go_cut [13] from 28 to 166 (λpv we=>∃(ws:Jv)(q1:Nat),pv = Qp M/\Z ws<=4000/\Hid (M7 bs ns (Ac bs p1) ws q1)/\Hid (∀s∈ws,s.size<=16)/\Hid (Ca we M nm (hd++J9 bs ws q1))/\Hid (CR w we rp cap a bs (O w2.1) ga ca xa g c ms (QF bs ws q1) L Sb (Ql gs (Z ns) cs)));case first=>
           as_aux_lemma=>
            go_region_with (first
             |(go_at_call 53;(with_reducible refine(D kq).mono ?_);rintro e w10 ⟨gw,cw,q1,ws,rfl,HRW,hw1,hw2,Hc,HQ,H10,HP10⟩;have kM:=HRW.lt gw F;have md10:=(hh.y (yN).drew).kept HP10 kh;have hU:=S ((K.y (yN).drew).read HP10 H10);have km:=S md10;obtain⟨mc0,mc1,mf1⟩:=md10;have KC:O Wd.1<=O w10.1:=HP10.size;have Kw:=S (fN rp cap q1 gw cw a bs ws w10 H10.free hl I (λi=>yy (Ts Hc i) Jd) kM.2 (by have hx:O Wd.1<=gw:=kM.1;omega) (λi hi=>HRW.atE i hi));clear HP10 H10)
             |(go_at_call 52;(with_reducible refine(D Kw).mono ?_);rintro e w11 ⟨⟨sp,rfl,HSP⟩,H11,HP11⟩;have k4:sp.size<=72010:=(by rw[D HSP];exact Ws Hc hw2);have md11:=km.kept HP11 kh;have kk:=S (hU.read HP11 (H11.strict (by have:=hU.pr.rd.le;exact MN (YK bs ws q1 this (Z ws)))));have HM:=S md11;obtain⟨mc0,mc1,mf1⟩:=md11;have Kr:Hid (sp=J9 bs ws q1):=D HSP;clear HP11 H11))
            all_goals
             go_wp2
             go_meet
             case rel=>
              refine⟨ws,q1,F,hw2,HQ,Hc,S ?_,S ?_⟩
              .rw[<-D Kr];exact HM.put _
              .have h:=D kk;exact h.grow (zx w11 M 1 _) HV (Ne.symm Ho)
          case rest=>
           clear kq hh hO rc0 rc1 rfz mc0 mc1 mf1 sc qf;obtain⟨ws,q1,rfl,Kv,HQ,Hc,hh,h9⟩:=hcut;have k4:=Ws (bs:=bs) (q:=q1) Hc Kv;have H8:(hd++J9 bs ws q1).size<=800000:=by rw[zQ];omega
           obtain⟨t0,kF⟩:∃t0,Hid (t0=hd++J9 bs ws q1):=⟨_,S F⟩;rw[<-D kF]at hh H8;obtain⟨We,Kq⟩:=Jx wc;subst Kq;obtain⟨rc0,rc1,rfz,_,_⟩:=h9.pr.rd;obtain⟨mc0,mc1,mf1⟩:=D hh;go_upto_if 137 with fail
           go_cut [13] from 28 to 166 (λpv we=>∃(tx:JZ)(q2:Nat),pv = Qp M/\tx.size<=800000/\Hid ((cd=0/\tx=hd++J9 bs ws q1/\q2=QF bs ws q1)\/(cd≠0/\tx=⟨#[98,101,103,105,110,10,97]⟩/\q2=Ac bs p1))/\Hid (Ca we M nm tx)/\Hid (CR w we rp cap a bs (O w2.1) ga ca xa g c ms q2 L Sb (Ql gs (Z ns) cs)));case first=>
            as_aux_lemma=>
             by_cases hc:cd=0
             .have Hs:(cd != 0)=Vt:=Ju hc
              have HC:=S hc;clear hc;go_wp2;go_meet;case rel=>exact⟨t0,QF bs ws q1,F,H8,S (yW ⟨HC,kF,F⟩),hh,h9⟩
             .have Hs:(cd != 0)=Vp:=Ju hc
              have HC:=S hc;have kA:=K.pr.rd.le;have kT:=S (h9.read (I5 We rp 1 (G ((Ac bs p1:Nat):Int))) ((h9.pr.rd.free.move (Ac bs p1) _ F).strict kA));have kV:=S (hh.other (b:=rp) (o:=1) (v:=G ((Ac bs p1:Nat):Int)) (Ne.symm kh));clear hc kA;go_wp2;go_meet;case rel=>exact⟨_,Ac bs p1,F,Jd,S (yX ⟨HC,F,F⟩),S (kV.put _),S (kT.grow (zx _ M 1 _) HV (Ne.symm Ho))⟩
           case rest=>
            clear hh h9 K rc0 rc1 rfz mc0 mc1 mf1;obtain⟨tx,q2,rfl,KT,kR,V,qk⟩:=hcut;obtain⟨W13,kx⟩:=Jx wc;subst kx;go_upto_region 32 with fail
            go_cut [19] from 28 to 166 (λbv we=>∃(hW:JF)(bad who2:Int),bv=G bad/\Hid (Zg (ms++[⟨nm,tx⟩]) hW bad who2)/\Hid (Below (O W13.1) W13 we));case first=>
             as_aux_lemma=>
              have HU:tx.size<=2000000000000:=I;have qf:M<O W13.1:=V.lt;have hq:=(qk.pr.row.lt g F).2;have hD:Z ([]:Jp)+Z ms<=1000:=Jq;have T:Z ms+[(⟨nm,tx⟩:zF)].length<=1000:=Jq;have HE:Hid (ZE (W13.alloc (JM #[] 49)).drew (O W13.1) (Ql (O W13.1) (Z ([]:Jp)) 0) []):=(ZE.nil (w:=W13) yk).y (yN).drew;have kd:Hid (ZE ((W13.alloc (JM #[] 49)).alloc (JM #[W nm,W tx] 49)).drew (O W13.1) (Ql (O W13.1) (Z ([]:Jp)) 0) []):=(ZE.nil (w:=W13) yk).y (zC).drew;have HJ:=S (show ZE ((W13.alloc (JM #[W nm,W tx] 49)).alloc (JM #[] 49)).drew (O W13.1) (Ql (O W13.1+1) (Z ([]:Jp)) 0) [] from by
               have:=ZE.nil (w:=W13.alloc (JM #[W nm,W tx] 49)) (B:=O W13.1) Js
               simpa using this.y (yN).drew)
              have HP:=S (qk.pr.row.ops.y (@zC W13 (JM #[] 49)).drew hq);have HB:=S (qk.pr.row.ops.y ((@zC W13 (JM #[] 49)).alloc Js (JM #[W nm,W tx] 49)).drew hq);have kf:=S (qk.pr.row.ops.y ((@zC W13 (JM #[W nm,W tx] 49)).alloc Js (JM #[] 49)).drew hq);have HD:=S (show ∀j u,(zk [(⟨nm,tx⟩:zF)])[j]?=E u->((W13.alloc (JM #[] 49)).alloc (JM #[W nm,W tx] 49)).drew.cell? ((J (O W13.1+1) 0).add j)=E u from λj u hj=>by
               have:=Fx (W13.alloc (JM #[] 49)) ⟨nm,tx⟩ j u hj
               simpa using this)
              have HI:=S (show ∀j u,(zk [(⟨nm,tx⟩:zF)])[j]?=E u->((W13.alloc (JM #[W nm,W tx] 49)).alloc (JM #[] 49)).drew.cell? ((J (O W13.1) 0).add j)=E u from λj u hj=>by
               have h1:=Fx W13 ⟨nm,tx⟩ j u hj
               rw[jO]at h1 ⊢
               exact((@zC (W13.alloc (JM #[W nm,W tx] 49)) (JM #[] 49)).drew.cell (p:=(J (O W13.1) (0+j))) Js).trans h1)
              have hV:=S ((Hk.snoc (m:=⟨nm,tx⟩) HT HU).sized Jd Jd);obtain⟨c00,c01,_⟩:=D V;go_region_held3 (λqi=>qi.cell? (J M 0)=E (W nm)/\qi.cell? (J M 1)=E (W tx)) (first|(go_keep;done)|exact⟨m0,m1⟩|exact⟨Jc zC (I:M<O w5.1) m0,Jc zC (I:M<O w5.1) m1⟩)
               (first
                |(refine ES (by rfl) (.tmp 144) (.tmp 145) (by rfl) HE (J g 0) c (Li HP) hD Js (by rfl) (by rfl) ?_;intro g5 c5 w5 hp A qd qj qe qc;have e5:ms=hp:=A.symm;subst e5;have y:Below (O W13.1) W13 w5:=(@zC W13 (JM #[] 49)).drew.grown qj (by simp<;>omega) (λx hx=>by injection hx with hx;omega);have qb:=S y;have qg:=S qd;have z5:=y.size;have m0:=Jc y Jh V.c0;have m1:=Jc y Jh V.c1;clear y qd qj qe qc A)
                |(refine ES (by rfl) (.tmp 144) (.tmp 145) (by rfl) kd (J g 0) c (Li HB) hD Jq (by rfl) (by rfl) ?_;intro g5 c5 w5 hp A qd qj qe qc;have e5:ms=hp:=A.symm;subst e5;have y:Below (O W13.1) W13 w5:=((@zC W13 (JM #[] 49)).alloc Js (JM #[W nm,W tx] 49)).drew.grown qj (by simp<;>omega) (λx hx=>by injection hx with hx;omega);have qb:=S y;have qg:=S qd;have z5:=y.size;have m0:=Jc y Jh V.c0;have m1:=Jc y Jh V.c1;have ke:Hid (∀j u,(zk [(⟨nm,tx⟩:zF)])[j]?=E u->w5.cell? ((J (O W13.1+1) 0).add j)=E u):=λj u hj=>(by have h:=(D HD) j u hj;rw[jO]at h ⊢;exact(zJ qj (b:=O W13.1+1) Js (λx=>by injection x with x;omega) (0+j)).trans h);clear y qd qj qe qc A)
                |(refine ES (by rfl) (.tmp 144) (.tmp 145) (by rfl) HJ (J g 0) c (Li kf) hD Jq (by rfl) (by rfl) ?_;intro g5 c5 w5 hp A qd qj qe qc;have e5:ms=hp:=A.symm;subst e5;have y:Below (O W13.1) W13 w5:=((@zC W13 (JM #[W nm,W tx] 49)).alloc Js (JM #[] 49)).drew.grown qj (by simp<;>omega) (λx hx=>by injection hx with hx;omega);have qb:=S y;have qg:=S qd;have z5:=y.size;have m0:=Jc y Jh V.c0;have m1:=Jc y Jh V.c1;have ka:Hid (∀j u,(zk [(⟨nm,tx⟩:zF)])[j]?=E u->w5.cell? ((J (O W13.1) 0).add j)=E u):=λj u hj=>(by have h:=(D HI) j u hj;rw[jO]at h ⊢;exact(zJ qj (b:=O W13.1) (by simp<;>omega) (λx=>by injection x with x;omega) (0+j)).trans h);clear y qd qj qe qc A)
                |(refine ES (vs:=[⟨nm,tx⟩]) (by rfl) (.tmp 146) (.tmp 148) (by rfl) (qg.y zC) (J (O w5.1) 0) 1 (Fx w5 ⟨nm,tx⟩) T Jq (by rfl) (by rfl) ?_;intro g6 c6 w6 ha X U C P R;have Q:Below (O W13.1) W13 w6:=(qb.alloc qb.size _).grown C (by have:=qb.size;first|omega|(simp;omega)) (λx hx=>by injection hx with hx;have:=(qg.lt g5 F).1;omega);have hg:=S Q;have hs:=S U;have hA:Z ha<=10:=(by rw[X];simp;omega);have h4:=S X;have m0:=Jc Q Jh V.c0;have m1:=Jc Q Jh V.c1;clear Q U C P R X)
                |(refine ES (vs:=[⟨nm,tx⟩]) (by rfl) (.tmp 146) (.tmp 148) (by rfl) qg (J (O W13.1+1) 0) 1 ke T I (by rfl) (by rfl) ?_;intro g6 c6 w6 ha X U C P R;have Q:Below (O W13.1) W13 w6:=qb.grown C (by have:=qb.size;first|omega|(simp;omega)) (λx hx=>by injection hx with hx;have:=(qg.lt g5 F).1;omega);have hg:=S Q;have hs:=S U;have hA:Z ha<=10:=(by rw[X];simp;omega);have h4:=S X;have m0:=Jc Q Jh V.c0;have m1:=Jc Q Jh V.c1;clear Q U C P R X)
                |(refine ES (vs:=[⟨nm,tx⟩]) (by rfl) (.tmp 146) (.tmp 148) (by rfl) qg (J (O W13.1) 0) 1 ka T I (by rfl) (by rfl) ?_;intro g6 c6 w6 ha X U C P R;have Q:Below (O W13.1) W13 w6:=qb.grown C (by have:=qb.size;first|omega|(simp;omega)) (λx hx=>by injection hx with hx;have:=(qg.lt g5 F).1;omega);have hg:=S Q;have hs:=S U;have hA:Z ha<=10:=(by rw[X];simp;omega);have h4:=S X;have m0:=Jc Q Jh V.c0;have m1:=Jc Q Jh V.c1;clear Q U C P R X)
                |(go_at_call 8;have Hm:=Ng (E (J g6 0)) c6 ha w6 I hs.arg (by rw[D h4];exact hV);(with_reducible refine Hm.mono ?_);clear Hm;rintro e w9 ⟨tv,hW,bad,who2,rfl,HA,HTR,hb9⟩;have hf:=S (hg.trans (hb9.mono hg.size));have m0:=Jc hf Jh V.c0;have m1:=Jc hf Jh V.c1;clear hb9))
              all_goals
               go_wp2
               go_meet
               case rel=>exact⟨hW,bad,who2,F,by rw[<-D h4];exact HA,hf⟩
            case rest=>
             obtain⟨hW,bad,who2,rfl,HA,hZ⟩:=hcut;have hH:=S (qk.y hZ);have hK:=S (V.y hZ);obtain⟨Wf,K5⟩:=Jx wc;subst K5;obtain⟨mc0,mc1,mf1⟩:=D hK;go_upto_if 155 with fail
             go_cut [13] from 28 to 166 (λpv we=>∃(ty:JZ),pv = Qp M/\ty.size<=2000000000000/\Hid ((bad=0/\ty=tx)\/(bad≠0/\∃h,GA tx Ad.zero Ad.zero h/\ty=h++⟨#[49]⟩))/\Hid (Ca we M nm ty)/\Hid (CR w we rp cap a bs (O w2.1) ga ca xa g c ms q2 L Sb (Ql gs (Z ns) cs)));case first=>
              as_aux_lemma=>
               by_cases hc:bad=0
               .have Hs:(bad != 0)=Vt:=Ju hc
                have HC:=S hc;clear hc;go_wp2;go_meet;case rel=>exact⟨tx,F,I,S (yW ⟨HC,F⟩),hK,hH⟩
               .have Hs:(bad != 0)=Vp:=Ju hc
                have hS:Hid (Calls Vb 37 #[W tx,.agg #[W ⟨#[]⟩,G 0,G 0,G 0],.agg #[W ⟨#[]⟩,G 0,G 0,G 0]] Wf _):=Ut tx Ad.zero Ad.zero Wf I (λws h=>yV h tS) Jd;have Ke:=S hc;clear hc;go_wp2_with fail;go_call D hS as e w15 ⟨⟨th,rfl,hthz,HTH⟩,hb15⟩;have kc:=S (hH.y hb15);have md15:=hK.y hb15;have ky:=S md15;obtain⟨mc0,mc1,mf1⟩:=md15;clear hb15 hS;go_wp2;go_meet;case rel=>exact⟨_,F,by rw[zQ];show th.size+1<=_;omega,S (yX ⟨Ke,th,HTH,F⟩),S (ky.put _),S (kc.grow (zx _ M 1 _) HV (Ne.symm Ho))⟩
             case rest=>
              clear mc0 mc1 mf1 hK hH hZ V qk;obtain⟨ty,rfl,kO,Ki,hh,K⟩:=hcut;obtain⟨Wg,Km⟩:=Jx wc;subst Km;obtain⟨mc0,mc1,_⟩:=D hh;have Kc:=S (show ON bs n xa (Z ms) ms q ⟨nm,ty⟩ q2 from by
               refine⟨hd,tabs,cd,who,ws,q1,tx,hW,bad,who2,?_,?_,?_,?_,?_,?_⟩
               .rw[D hB,<-D HK,<-D Hp];exact HHD
               .rw[<-D HO];exact kb
               .rw[D hB,<-D hR];exact HQ
               .rw[D hB];exact kR
               .rw[<-D HO];exact HA
               .rw[<-D HO]
                rcases D Ki with⟨h1,h2⟩|⟨h1,h,h2,h3⟩
                .exact yW ⟨h1,by rw[h2]⟩
                .exact yX ⟨h1,h,h2,by rw[h3]⟩)
              have H5:=K.pr.row.y (@zC Wg (JM #[W nm,W ty] 49));have Hy:=S H5;have KV:O w.1<=O Wg.1:=K.pr.kp.size;clear H5;go_wp2_with (at_builtin;refine As FM underlying23 (.tmp 163) (.tmp 165) F rfl (O w.1) _ (Z ms) (zk ms) F Hy (J (O Wg.1) 0) 1 1 (zk [⟨nm,ty⟩]) F rfl (Fx Wg ⟨nm,ty⟩) (IY _) Jm I Jq ?_);intro v6 w6 qh d hn P;obtain⟨g6,c6,hP,hJ,rfl,kG⟩:=(K.pr.y (@zC Wg (JM #[W nm,W ty] 49))).app qh d (P.imp (λe=>e) (λe=>⟨O Wg.1+1,e,Js⟩));have T:Z hP=Z ms+1:=by rw[hJ];simp
              have Kj:=S (show JX bs n xa qa (Z hP) hP q2 from by rw[T];exact⟨ms,q,⟨nm,ty⟩,hO,Kc,hJ⟩);have kN:=S (by rw[hJ];exact Hk.snoc HT kO:Bu 3 2000000000000 hP);have hG:=S kG;have hY:Z hP<=n:=I;have k7:=S T;clear qh d hn P hJ kG T Hy K;go_wp2;exact⟨⟨g6,c6,q2,hP,hY,by have:=D k7;congr 1;omega,F,hG,Kj,kN⟩,by have:=D k7;simp[intOf];omega⟩
