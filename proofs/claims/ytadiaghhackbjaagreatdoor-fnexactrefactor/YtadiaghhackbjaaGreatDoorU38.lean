import Derived.Test.YtadiaghhackbjaaGreatDoorU37
namespace Go.Proofs.YtadiaghhackbjaaGreatDoor
set_option linter.all false
set_option maxHeartbeats 0
set_option maxRecDepth 100000
open Proofs.Tryz RowKit
def zWy(w:JY)(ms:List zH)(q:zAX)(e:Ending)(w':JY):Prop:=∃(v:Value)(h:List zH)(c:Int),e=.returned (.tuple #[v,Qi c])/\Hid (zEW ms q h c)/\Hid (zAb w' w.heap.size v h)/\Qb w w'
theorem zHz(a:Option Addr)(c0:Nat)(ms:List zH)(q:zAX)(w:JY)(hn:ms.length<=1048576)(hM:zB3 w a ms)(hz:zBk ms)(kO:q.o.s.size<=1048576)(k5:q.t.size<=1048576):Calls prog 6 #[.slice a ms.length c0,zBQ q] w (zWy w ms q):=by
 obtain⟨N,hN⟩:=Jx w.heap.size;obtain⟨W0,O⟩:=Jx (w.alloc (.cells (zMd q) 35));have Ha:Below N w W0:=by rw[O,hN];exact zC _ _
 have h5:=zCw.new w q 35;rw[<-O,<-hN] at h5;obtain⟨W1,hu⟩:=Jx (W0.alloc (.cells #[] 53));have E:W0.heap.size=N+1:=by rw[O,hN];simp
 have hy:W1.heap.size=N+2:=by rw[hu];simp[E]
 have T:Below (N+1) W0 W1:=by rw[hu,<-E];exact zC _ _
 have H4:Hid (Below N w W1):=Ha.trans (T.mono Jo);have kd:=zB (h5.below T Jo);have kq:=zB (by rw[hu,<-E];exact zAb.nil Jo:zAb W1 N (.slice (some ⟨N+1,0,none⟩) 0 0) []);have HM:=zB hM;have Hf:=zB hz;have HV:=zB (zGE a c0 ms W1 hn (hM.below (by unfold Qb;rw[<-hN];exact H4)) hz);have kr:=zB (by rw[hu,O];rfl:W1=(w.alloc (.cells #[Qi q.k,Qs q.m,Qs q.o.s,Qi q.o.k,Qi q.o.l,Qi q.o.sd,Qs q.t,Qi q.l,Qi q.sd] 35)).alloc (.cells #[] 53));have Hw:=zB hy;have HN:=zB hN;unfold zBQ;clear hM hz O hu Ha h5 T E hy;go_enter func6,ntmps6;go_wp2_with fail;rw[<-zA kr];go_call zA HV as e w1 ⟨vt,ts,ct,wt,rfl,HT,HTO,hb1⟩;have H3:Hid (Below N w w1):=H4.trans (hb1.mono (Jy (zA Hw)));have Hk:=zB (kq.below hb1);have H5:=zB (kd.below hb1 (Jy (zA Hw)));have zN:N+2<=w1.heap.size:=by have:=hb1.size;have:=zA Hw;omega
 clear hb1 HV kq kd H4 kr hN;rw[<-zA HN];by_cases hc:ct=0
 ·subst hc;obtain⟨tabs,U,HF⟩:∃tabs U,Hid (RfB ms q ts tabs U):=by
   obtain⟨tabs,U,h⟩:=RfB.of (q:=q) HT;exact⟨tabs,U,zB h⟩
  obtain⟨_,q0,q1,q2,q3,q4,q5,q6,q7,q8⟩:=zA H5;have hK:=zB (zOH q w1);unfold zBQ opV at hK;obtain⟨b,y⟩:∃b,Hid (b=zC6 q):=⟨_,zB rfl⟩;rw[<-zA y] at hK;go_wp2_with fail;go_call zA hK as e w2 ⟨⟨v,rfl,hv⟩,hb2⟩;have z2:=hb2.size;have Hs:=zB (H3.trans (hb2.mono Jo));have H0:=zB (Hk.below hb2);cases v
  ·have HR:=zB (HF.c2 (fun h=>by cases hv.2 h));clear hb2 hv;go_wp2_with fail;go_ret2;exact⟨_,[],2,rfl,HR,by rw[<-zA HN];exact zB (H0.below (zC _ _)),by unfold Qb;rw[<-zA HN];exact Hs.alloc Jo _⟩
  have Hx:=zB (hv.1 rfl);obtain⟨W2,h7⟩:=Jx (w2.alloc (.cells #[Qs b.s,Qi b.k,Qi b.l,Qi b.sd] 33));have hf:Below w2.heap.size w2 W2:=by rw[h7];exact zC _ _
  have hY:=hb2.trans (hf.mono hb2.size);have hJ:=zB (Hs.trans (hf.mono Jo));have kg:=zB (H0.below hf);have hC:=zB ((H5.below hb2 Jo).below hf Jo);have Hi:=zB (by rw[h7];exact⟨Jg,Jg,Jg,Jg⟩:zBO W2 w2.heap.size b);have hZ:=zB (HTO.grown (zE hY none) (fun q e=>by cases e));have zW:w2.heap.size<W2.heap.size:=by rw[h7];simp
  obtain⟨kM,Hv,k1⟩:=HF.l.good;have kX:=zB Hv;have L:=zB k1;have kf:=zB (zFS a c0 ms W2.drew kM (HM.below (by unfold Qb;rw[<-zA HN];exact hJ.drew)) Hf Hv);have k3:=zB h7;clear hv hb2 hY hf Hv k1 q0 q6 q7 q8 hK HTO Hk H0 H5 h7;obtain⟨_,_,q1,q2,q3,q4,q5,_,_,_⟩:=zA hC;go_wp2_with fail;rw[<-zA k3];go_region_held3 (fun W=>W.cell? ⟨N,2,none⟩=some (Qs q.o.s)/\W.cell? ⟨N,3,none⟩=some (Qi q.o.k)/\W.cell? ⟨N,4,none⟩=some (Qi q.o.l)/\W.cell? ⟨N,5,none⟩=some (Qi q.o.sd)) (go_keep)
   (
    first
    |(go_at_call 18;(with_reducible refine(zA kf).mono ?_);rintro e w3 ⟨gU,cU,vs,U',rfl,hgU,hgUl,hvl,HOV,HUA,HUO,hb3⟩;have Hj:=zB hb3;have zz3:=hb3.size;have HO:=zB ((hC.below (yJ _ _).drew Jo).below hb3 (Jo:N<W2.heap.size));obtain⟨kN,_,_,p2,p3,p4,p5,_,_,_⟩:=zA HO;have hG:=zB (zKA gU cU vs U' q.o w3 Jo hgUl HOV HUA (fun i hi=>(Jy ((zEG (HUO.2 i Jo)).1))));unfold opV at hG;rw[hvl] at hG;clear hb3)
    |(go_at_call 17;(with_reducible refine(zA hG).mono ?_);rintro e w4 ⟨⟨v4,rfl,hr4⟩,hb4⟩;obtain⟨_,_,r1,r2,r3,r4,r5,_,_,_⟩:=HO.below hb4 kN))
  obtain rfl:=HF.u.eq HUO;have I:Hid (Below W2.heap.size W2 w4):=(yJ _ _).drew.trans (Hj.trans (hb4.mono Hj.size));have z4:=I.size;have Ht:=zB (HM.below (by unfold Qb;rw[<-zA HN];exact hJ.trans (I.mono Jo)));have G:=zB (fun W (hb:Below w4.heap.size w4 W)=>(⟨kg.below (I.trans (hb.mono z4)),hJ.trans ((I.trans (hb.mono z4)).mono Jo)⟩:zAb W N (.slice (some ⟨N+1,0,none⟩) 0 0) []/\Below N w W));obtain⟨ds,Hd⟩:=Jx (zFC U q.o ms.length);rw[<-Hd] at hr4;obtain⟨av,cv,rfl⟩:=zR hr4;have S:=zB hr4;have h8:=zB Hd;clear hb4 hr4 Hd hG Hj HUO HUA HOV hgU hgUl hvl zz3 p2 p3 p4 p5 kf q1 q2 q3 q4 q5;by_cases h1:ds.length=1
  ·obtain⟨j,rfl⟩:=List.length_eq_one_iff.1 h1;rw[h1];have hj:j<ms.length:=zQf U q.o ms.length j (by rw[<-zA h8];simp);obtain⟨bA,ho,rfl,H,kU⟩:=Ht.resolve_left Jo;have m0:=(H j hj).1;obtain⟨gD,rfl⟩:∃gD,av=some ⟨gD,0,none⟩:=by
    obtain⟨_,⟨_,h0⟩|⟨g,cap,kY,hv,_⟩⟩:=zA S
    ·cases h0
    ·injection hv with h _ _;exact⟨g,h⟩
   have d0:w4.cell? ⟨gD,0,none⟩=some (Qi j):=World.ownsRow.cellAt S 0 Js;have kC:(0:Int)<=(j:Int):=Jo;have kJ:(j:Int)<(ms.length:Int):=Jo;obtain⟨nm,P⟩:=Jx ((atM ms j).n);rw[<-P] at m0;by_cases he:nm=q.m
   ·have hE:(nm.toList==q.m.toList)=true:=by simp[he]
    have hF:=zB (show zAa q/\zCE ms U q from⟨Hx,by rw[zCE,<-zA h8];simp[<-P,he]⟩);clear he P H h1;have Hp:1<=ms.length:=Jo;go_wp2_with fail;go_quiet (fail);obtain⟨w5,Hl⟩:=Jx (w4.drewN nq);have hB:Below w4.heap.size w4 w5:=by rw[Hl];exact⟨rfl,rfl,rfl,yk _,fun _ _=>rfl⟩
    obtain⟨h2,h3⟩:=(zA G) w5 hB;have ht:Hid (Below W2.heap.size W2 w5):=I.trans (hB.mono z4);have Hy:=zB (Ht.below hB);have HW:=zB (zHH (some ⟨bA,ho,none⟩) c0 ms w5 hn Hy Hf);have HY:=zB h2;have HU:=zB h3;rw[<-Hl];clear Hl hB h2 h3 G I Ht S d0 m0 r1 r2 r3 r4 r5 kJ kC;go_wp2_with fail;go_call zA HW as e w6 ⟨vS,tabs',cd,wh,rfl,HL',HTS,hsz,V⟩;obtain⟨rfl,rfl,rfl⟩:=HF.l.one HL';have hV:=zB hsz;have z6:=V.size;have hQ:=zB ((hC.below ht Jo).below V (Jy ht.size));have zt:tabs.length<=100:=Jy (zA L)
    have Hc:=zB (zKm vS tabs q.o w6 zt HTS.tabs (fun i hi=>(hV _ (by simp[zz,hi])).1));obtain⟨_,_,_,r2,r3,r4,r5,_,_,_⟩:=zA hQ;have hs:Hid (Below w5.heap.size w5 w6):=V;unfold opV at Hc;clear V hsz HL' HW;go_wp2_with fail;go_call zA Hc as e w7 ⟨⟨u,rfl,hrw⟩,hb7⟩;obtain⟨X,hX⟩:=Jx w2.heap.size;rw[<-hX] at Hi zW;rw[<-hX];rw[zA L] at hrw;obtain⟨gT,cT,rfl,kv,ks⟩:=zWx hrw Hp;obtain⟨gS,cS,rfl,HE,kp⟩:=zVp HTS L Hp;obtain⟨gR,cR,rfl,HL,HB⟩:=zTy hZ HF.p Hp;have C:Below w5.heap.size w5 w7:=hs.trans (hb7.mono z6);have z5:=ht.size;have f:Below W2.heap.size W2 w7:=ht.trans (C.mono z5);have z7:=hb7.size;have He:=zB (show RfM w w7 N X gS gT gR q b (some ⟨bA,ho,none⟩) ms tabs ts from
     ⟨HU.trans (C.mono Jo),HY.below C,hQ.below hb7 hQ.h,Jo,Hi.below4 f zW,Hy.below C,Jo,fun i hi=>(by
      obtain⟨g,c,h1,h2,h3⟩:=kp i hi
      exact⟨g,c,(hb7.cell (p:=⟨gS,i,none⟩) HE).trans h1,Jo,h3.below hb7 h2⟩),kv,ks,Jo,fun i hi=>(by
      obtain⟨g,c,h1,h2,h3⟩:=HB i hi
      exact⟨g,c,(f.cell (p:=⟨gR,i,none⟩) HL).trans h1,Jo,h3.below f h2⟩)⟩)
    have hP:=zB (by rw[zA y];exact zTw kO k5:b.s.size<=1048576);have ha:=zB (zDF b.s b.k b.l b.sd w7 (by have:=zA hP;unfold maxLen;omega));obtain⟨b0,b1,b2,b3⟩:=He.bo;clear C f hb7 kp ks HB HE kv HL hrw hs ht Hi HTS hZ hQ HY HU Hy hX hC kg hJ r2 r3 r4 r5 z7 z6 z5 z4 zW z2 zN Hc HM Hs H3;go_wp2_with fail;go_call zA ha as e w8 ⟨rfl,hb8⟩;have hH:=zB (He.below hb8);clear hb8 He ha b0 b1 b2 b3;cases hok:okB b.s b.k b.l b.sd
    ·have HR:=zB (HF.c4 hF (yS (by rw[<-zA y];exact hok)));clear hok;go_wp2_with fail;go_ret2;exact⟨_,[],4,rfl,HR,by rw[<-zA HN];exact zB hH.nl,by unfold Qb;rw[<-zA HN];exact hH.bel⟩
    have ha:=zB hok;clear hok;go_wp2_with fail;go_loopw [17] (fun i wr=>∃k:Nat,k<=ms.length/\i=Qi k/\Hid (∀j,j<k->¬ (q.o∈zz tabs j/\b∈zz tabs j))/\Hid (RfM w wr N X gS gT gR q b (some ⟨bA,ho,none⟩) ms tabs ts)) (fun i _=>ms.length-(intOf i).toNat);case atStart=>exact⟨0,ym _,rfl,zB (fun j h=>yR h (yx j)),hH⟩
    case round=>
     clear hH;obtain⟨k,hk,rfl,A,HR⟩:=hrel;by_cases K:k<ms.length
     ·have Hb:(k:Int)<(ms.length:Int):=Jo;have t0:=HR.tc k K;cases hin:inB q.o (zz tabs k)
      ·have D:=zB (show ∀j,j<k+1->¬ (q.o∈zz tabs j/\b∈zz tabs j) from fun j hj h=>by
        by_cases ej:j=k
        ·subst ej;rw[Zt.2 h.1] at hin;cases hin
        ·exact A j Jo h)
       rw[hin] at t0;clear hin;go_wp2_with fail;go_quiet (fail);go_wp2;exact⟨⟨k+1,Jo,Jn,D,zB (HR.below ⟨rfl,rfl,rfl,yk _,fun _ _=>rfl⟩)⟩,Ji⟩
      ·have Y:=zB (Zt.1 hin);rw[hin] at t0;obtain⟨g,c,s0,hg,H⟩:=HR.tb k K;obtain⟨b0,b1,b2,b3⟩:=HR.bo;obtain⟨xs,Q⟩:=Jx (zz tabs k);rw[<-Q] at s0 H Y;have HC:=zB (zOP (.slice (some ⟨g,0,none⟩) xs.length c) xs b wr.drew (by rw[Q];exact(hV _ (by have:=zA L;simp[zz,this,K])).1) ⟨_,c,rfl,yU ⟨g,rfl,hg,H⟩⟩);have J:=zB Q;unfold opV at HC;clear hin H Q;go_wp2_with fail;go_region_held3 (fun W=>W.cell? ⟨gT,k,none⟩=some (.bool true)/\W.cell? ⟨gS,k,none⟩=some (.slice (some ⟨g,0,none⟩) xs.length c)/\W.cell? ⟨X,0,none⟩=some (Qs b.s)/\W.cell? ⟨X,1,none⟩=some (Qi b.k)/\W.cell? ⟨X,2,none⟩=some (Qi b.l)/\W.cell? ⟨X,3,none⟩=some (Qi b.sd)) (go_keep)
        (first|(go_at_call 22;(with_reducible refine(zA HC).mono ?_);rintro e w9 ⟨rfl,hb9⟩;have x:=zB (HR.below ((yJ _ _).drew.trans hb9));have k9:=fun p (hp:p.block<wr.heap.size)=>hb9.cell (p:=p) hp;have t9:=(k9 ⟨gT,k,none⟩ HR.hT).trans t0;have s9:=(k9 ⟨gS,k,none⟩ HR.hS).trans s0;obtain⟨e0,e1,e2,e3⟩:=x.bo;clear k9 hb9))
       clear t0 s0 b0 b1 b2 b3 t9 s9 e0 e1 e2 e3 HC;cases hib:inB b xs
       ·have D:=zB (show ∀j,j<k+1->¬ (q.o∈zz tabs j/\b∈zz tabs j) from fun j hj h=>by
         by_cases ej:j=k
         ·subst ej;rw[<-zA J] at h;rw[Zt.2 h.2] at hib;cases hib
         ·exact A j Jo h)
        clear hib;go_wp2;exact⟨⟨k+1,Jo,Jn,D,x⟩,Ji⟩
       ·have Hr:=zB (HF.c4 hF (yU ⟨k,K,by rw[<-zA J];exact Y,by rw[<-zA J,<-zA y];exact Zt.1 hib⟩));clear hib;go_wp2_with fail;go_ret2;exact⟨_,[],4,rfl,Hr,by rw[<-zA HN];exact zB x.nl,by unfold Qb;rw[<-zA HN];exact x.bel⟩
     ·obtain rfl:k=ms.length:=Jo;have kn:=zB (show ¬ zJ8 tabs ms.length q from fun h=>by
       rcases h with h|⟨i,hi,h1,h2⟩
       ·rw[<-zA y] at h;have:=zA ha;unfold OpR.ok at h;rw[this] at h;cases h
       ·exact A i hi ⟨h1,by rw[zA y];exact h2⟩)
      obtain⟨WA,rfl⟩:=Jx wr;clear K A;go_wp2_with fail;go_loopw [18] (fun i wr=>∃k:Nat,k<=ms.length/\i=Qi k/\Hid (∀j,j<k->q.o∈zz tabs j->zO (swO q.o b (zz tabs j)) 0)/\Hid (RfM w wr N X gS gT gR q b (some ⟨bA,ho,none⟩) ms tabs ts)) (fun i _=>ms.length-(intOf i).toNat);case atStart=>exact⟨0,ym _,rfl,zB (fun j h=>yR h (yx j)),HR⟩
      case round=>
       clear HR;obtain⟨k,hk,rfl,A,HR⟩:=hrel;by_cases K:k<ms.length
       ·have Hb:(k:Int)<(ms.length:Int):=Jo;have t0:=HR.tc k K;cases hin:inB q.o (zz tabs k)
        ·have D:=zB (show ∀j,j<k+1->q.o∈zz tabs j->zO (swO q.o b (zz tabs j)) 0 from fun j hj h=>by
          by_cases ej:j=k
          ·subst ej;rw[Zt.2 h] at hin;cases hin
          ·exact A j Jo h)
         rw[hin] at t0;clear hin;go_wp2_with fail;go_quiet (fail);go_wp2;exact⟨⟨k+1,Jo,Jn,D,zB (HR.below ⟨rfl,rfl,rfl,yk _,fun _ _=>rfl⟩)⟩,Ji⟩
        ·have Y:=zB (Zt.1 hin);rw[hin] at t0;obtain⟨g,c,s0,hg,H⟩:=HR.tb k K;obtain⟨b0,b1,b2,b3⟩:=HR.bo;obtain⟨_,_,_,r2,r3,r4,r5,_,_,_⟩:=HR.rq;obtain⟨xs,Q⟩:=Jx (zz tabs k);rw[<-Q] at s0 H Y;obtain⟨hl,hw⟩:=(zA hV) xs (by rw[Q];have:=zA L;simp[zz,this,K]);have HC:=zB (zKL g c xs q.o b wr.drew hl H hg);have kk:=zB (show ZA (swO q.o b xs)/\(swO q.o b xs).length<=1048576 from⟨zF5 hw hP,by rw[zCF];exact hl⟩);have J:=zB Q;unfold opV at HC;clear hin H Q hw;go_wp2_with fail;go_region_held3 (fun W=>W.cell? ⟨gT,k,none⟩=some (.bool true)/\W.cell? ⟨gS,k,none⟩=some (.slice (some ⟨g,0,none⟩) xs.length c)/\W.cell? ⟨X,0,none⟩=some (Qs b.s)/\W.cell? ⟨X,1,none⟩=some (Qi b.k)/\W.cell? ⟨X,2,none⟩=some (Qi b.l)/\W.cell? ⟨X,3,none⟩=some (Qi b.sd)/\W.cell? ⟨N,2,none⟩=some (Qs q.o.s)/\W.cell? ⟨N,3,none⟩=some (Qi q.o.k)/\W.cell? ⟨N,4,none⟩=some (Qi q.o.l)/\W.cell? ⟨N,5,none⟩=some (Qi q.o.sd)) (go_keep)
          (
           first
           |(go_at_call 24;(with_reducible refine(zA HC).mono ?_);rintro e w9 ⟨⟨u,rfl,hru⟩,hb9⟩;have x:=zB (HR.below ((yJ _ _).drew.trans hb9));have k9:=fun p (hp:p.block<wr.heap.size)=>hb9.cell (p:=p) hp;have t9:=(k9 ⟨gT,k,none⟩ HR.hT).trans t0;have s9:=(k9 ⟨gS,k,none⟩ HR.hS).trans s0;obtain⟨e0,e1,e2,e3⟩:=x.bo;obtain⟨_,_,_,u2,u3,u4,u5,_,_,_⟩:=x.rq;have kw:=zB (zFQ u (swO q.o b xs) w9 kk.2 hru.ops kk.1);have kA:=x.hT;have kK:=x.hS;clear k9 hb9)
           |(go_at_call 23;(with_reducible refine(zA kw).mono ?_);rintro e wa ⟨⟨cd,rfl,hcd⟩,hba⟩;have hh:=zB (x.below hba);have ta:=(hba.cell (p:=⟨gT,k,none⟩) kA).trans t9;have sa:=(hba.cell (p:=⟨gS,k,none⟩) kK).trans s9;obtain⟨f0,f1,f2,f3⟩:=hh.bo;obtain⟨_,_,_,v2,v3,v4,v5,_,_,_⟩:=hh.rq;clear hba))
         clear t0 s0 b0 b1 b2 b3 t9 s9 e0 e1 e2 e3 HC kw u2 u3 u4 u5 r2 r3 r4 r5 v2 v3 v4 v5 f0 f1 f2 f3 ta sa x HR;have Hm:=zB hcd;by_cases hc:cd=0
         ·subst hc;have D:=zB (show ∀j,j<k+1->q.o∈zz tabs j->zO (swO q.o b (zz tabs j)) 0 from fun j hj h=>by
           by_cases ej:j=k
           ·subst ej;rw[<-zA J];exact hcd
           ·exact A j Jo h)
          clear hcd;go_wp2;exact⟨⟨k+1,Jo,Jn,D,hh⟩,Ji⟩
         ·have Hr:=zB (HF.c5 hF kn ⟨k,K,by rw[<-zA J];exact Y,cd,by rw[<-zA J,<-zA y];exact hcd,hc⟩);have ku:(cd != 0)=true:=Ju hc
          clear hcd hc;go_wp2_with fail;go_ret2;exact⟨_,[],5,rfl,Hr,by rw[<-zA HN];exact zB hh.nl,by unfold Qb;rw[<-zA HN];exact hh.bel⟩
       ·obtain rfl:k=ms.length:=Jo;have kP:Hid (¬ zPY tabs ms.length q):=fun⟨i,hi,h1,c,h2,h3⟩=>h3 (zAC (by rw[zA y];exact h2) (A i hi h1))
        obtain⟨WR,rfl⟩:=Jx wr;have HQ:=zB (zAb.nil (w:=WR) (B:=WR.heap.size) (yk _));obtain⟨iM,HS,E,hy,ka⟩:=zS zTD;have HI:=zB HS;have HZ:=zB (yK E (yK hy ka));clear K HS E hy ka A;go_wp2_with fail;go_loopw [19,20] (fun ov iv wr=>∃(k:Nat)(os:List zH),k<=ms.length/\iv=Qi k/\Hid (zE7 q ms tabs ts k os)/\Hid (zAb wr WR.heap.size ov os)/\Hid (Below WR.heap.size WR wr)/\Hid (zBk os)) (fun _ iv _=>ms.length-(intOf iv).toNat);case atStart=>exact⟨0,[],ym _,rfl,zB ⟨rfl,fun i h=>yR h (yx i)⟩,HQ,zB (zC _ _),zB (fun i h=>yR h (yx i))⟩
        case round=>
         clear HQ;obtain⟨k,os,hk,rfl,H7,M,Hh,kx⟩:=hrel;obtain⟨av,cv,rfl⟩:=zR M;have Hz:os.length=k:=H7.1;have kS:os.length<=100:=Jo;have R:=zB (HR.below Hh);have zr:=Hh.size;by_cases K:k<ms.length
         ·have Hb:(k:Int)<(ms.length:Int):=Jo;have t0:=R.tc k K;obtain⟨b',o',e,H,kT⟩:=R.am.resolve_left Jo;obtain⟨rfl,rfl⟩:bA=b'/\ho=o':=by injection e with e;injection e with e1 e2;exact⟨e1,e2⟩
          obtain⟨m0,m1⟩:=H k K;obtain⟨nm,P⟩:=Jx ((atM ms k).n);obtain⟨tx,h9⟩:=Jx ((atM ms k).t);rw[<-P] at m0;rw[<-h9] at m1;have ki:=zB P;have HJ:=zB h9;have kF:=zB (by rw[P];exact(Hf k K).1:nm.size<=maxLen);have kz:tx.size<=20000:=by rw[h9];exact zOa (HF.u.2 k K)
          have kV:=zB Hz;clear e H Hz P h9;obtain⟨W6,d⟩:=Jx (wr.alloc (.cells #[Qs nm,Qs tx] 53));have V:Below wr.heap.size wr W6:=by rw[d];exact zC _ _
          have z6:wr.heap.size<W6.heap.size:=by rw[d];simp
          have y0:W6.cell? ⟨wr.heap.size,0,none⟩=some (Qs nm):=by rw[d];simp[go_sem]
          have y1:W6.cell? ⟨wr.heap.size,1,none⟩=some (Qs tx):=by rw[d];simp[go_sem]
          have yf:W6.frozen? ⟨wr.heap.size,1,none⟩=false:=by rw[d];simp[go_sem]
          have hx:=zB (R.below V);have t6:=(V.cell (p:=⟨gT,k,none⟩) R.hT).trans t0;have hs:=zB V;have kD:=zB d;clear d V;go_upto_region 30 with fail
          rw[<-zA kD];cases hin:inB q.o (zz tabs k)
          focus
           have HA:=zB (show zKg q (zz tabs k) (zCK ts k) (atM ms k) ⟨nm,tx⟩ from⟨ki,yU ⟨fun h=>(by rw[Zt.2 h] at hin;cases hin),HJ⟩⟩)
           have HG:=zB (Jm:tx.size<=maxLen)
           rw[hin] at t6
           clear hin
           go_upto_region 33 with fail
           obtain⟨Wm,rfl⟩:=Jx W6
           obtain⟨tf,rfl⟩:=Jx tx
           have hD:=zB hs
           clear yf kz
          rotate_left
          focus
           have Y:=zB (Zt.1 hin)
           rw[hin] at t6
           obtain⟨g,c,s0,hg,H⟩:=hx.tb k K
           obtain⟨g2,c2,n0,kR,h6⟩:=hx.tr k K
           obtain⟨b0,b1,b2,b3⟩:=hx.bo
           obtain⟨_,_,_,r2,r3,r4,r5,_,_,_⟩:=hx.rq
           obtain⟨_,kh⟩:=HF.p.2 k K
           obtain⟨hW,ke,hm⟩:=zGg kh
           obtain⟨xs,Q⟩:=Jx (zz tabs k)
           obtain⟨ns,H1⟩:=Jx (zCK ts k)
           rw[<-Q] at s0 H Y
           rw[<-H1] at n0 h6 hW ke hm
           obtain⟨hl,hw⟩:=(zA hV) xs (by rw[Q];have:=zA L;simp[zz,this,K])
           obtain⟨HK,H9,kl,HD⟩:=zTx (o:=b) ha
           have HH:1<=(swO q.o b xs).length:=by rw[zCF];exact List.length_pos_iff.2 (fun e=>by rw[e] at Y;exact yR (zA Y) Js)
           have HC:=zB (zKL g c xs q.o b W6.drew hl H hg)
           have H6:=zB (fun W (hb:Below W6.heap.size W6 W)=>zMh g2 c2 ns q.o b W Jo (h6.below hb kR) (Jy hb.size) (by rw[<-zTv q,<-zA y];exact⟨kl,HD⟩))
           have H2:=zB (fun gu cu gn cn W (h1:Ops W gu 0 (swO q.o b xs)) (h2:gu<W.heap.size) (h3:Zv W gn 0 (reN q.o b ns)) (h4:gn<W.heap.size)=>zKo gu 0 cu gn 0 cn (swO q.o b xs) (reN q.o b ns) W (by rw[zCF];exact hl) (by rw[zC7];omega) h1 (zF5 hw hP) h2 h3 (zLi hm hP) h4)
           rw[zC7] at H2
           have hA:=zB (fun W (hb:Below W6.heap.size W6 W)=>(by
            have kc:=fun p (hp:p.block<W6.heap.size)=>hb.cell (p:=p) hp
            have hr:=(zA hx)
            exact⟨(kc ⟨gS,k,none⟩ hr.hS).trans s0,(kc ⟨gR,k,none⟩ hr.hR).trans n0,hr.bo.below4 hb hr.hX,hr.rq.below hb hr.rq.h,(kc ⟨wr.heap.size,0,none⟩ z6).trans y0,(kc ⟨wr.heap.size,1,none⟩ z6).trans y1,(hb.frozen (p:=⟨wr.heap.size,1,none⟩) z6).trans yf⟩:W.cell? ⟨gS,k,none⟩=some (.slice (some ⟨g,0,none⟩) xs.length c)/\W.cell? ⟨gR,k,none⟩=some (.slice (some ⟨g2,0,none⟩) ns.length c2)/\zBO W X b/\zCw W N q/\W.cell? ⟨wr.heap.size,0,none⟩=some (Qs nm)/\W.cell? ⟨wr.heap.size,1,none⟩=some (Qs tx)/\W.frozen? ⟨wr.heap.size,1,none⟩=false))
           have J:=zB Q
           have kQ:=zB H1
           have k2:=zB (fun W=>zMM tx q.o b W Jo (fun _ _=>HK) H9)
           unfold opV at HC H6
           clear hin H h6 Q H1 hw kh HK kl HD hm
           go_upto_region 31 with fail
           go_region_held3 (fun W=>W.cell? ⟨gS,k,none⟩=some (.slice (some ⟨g,0,none⟩) xs.length c)/\W.cell? ⟨gR,k,none⟩=some (.slice (some ⟨g2,0,none⟩) ns.length c2)/\W.cell? ⟨X,0,none⟩=some (Qs b.s)/\W.cell? ⟨X,1,none⟩=some (Qi b.k)/\W.cell? ⟨X,2,none⟩=some (Qi b.l)/\W.cell? ⟨X,3,none⟩=some (Qi b.sd)/\W.cell? ⟨N,2,none⟩=some (Qs q.o.s)/\W.cell? ⟨N,3,none⟩=some (Qi q.o.k)/\W.cell? ⟨N,4,none⟩=some (Qi q.o.l)/\W.cell? ⟨N,5,none⟩=some (Qi q.o.sd)) (go_keep)
            (
             first
             |(go_at_call 24;(with_reducible refine(zA HC).mono ?_);rintro e wa ⟨⟨u,rfl,hru⟩,hba⟩;obtain⟨gu,cu,rfl,kB,km⟩:=zRY hru HH;have hU:Hid (Below W6.heap.size W6 wa):=(yJ _ _).drew.trans hba;obtain⟨a1,a2,⟨a3,a4,a5,a6⟩,⟨_,_,_,a7,a8,a9,aa,_,_,_⟩,_⟩:=(zA hA) wa hU;have ko:=zB km;have kt:=zB (H6 wa hU);clear hba hru km)
             |(go_at_call 26;(with_reducible refine(zA kt).mono ?_);rintro e wb ⟨⟨u2,rfl,hru2⟩,hbb⟩;obtain⟨gn,cn,rfl,k6,k0⟩:=zRZ hru2 (zC7 _ _ _) hW;have Hu:Hid (Below W6.heap.size W6 wb):=hU.trans (hbb.mono hU.size);obtain⟨d1,d2,⟨d3,d4,d5,d6⟩,⟨_,_,_,d7,d8,d9,da,_,_,_⟩,_⟩:=(zA hA) wb Hu;have HP:=zB (H2 gu cu gn cn wb (ko.below hbb kB) (Jy hbb.size) k0 k6);clear hbb hru2 k0)
             |(go_at_call 25;(with_reducible refine(zA HP).mono ?_);rintro e wc ⟨⟨pt,pv,rfl,HPI⟩,hbc⟩;have Hq:Hid (Below W6.heap.size W6 wc):=Hu.trans (hbc.mono Hu.size);obtain⟨f1,f2,⟨f3,f4,f5,f6⟩,⟨_,_,_,f7,f8,f9,fa,_,_,_⟩,x0,x1,xf⟩:=(zA hA) wc Hq;clear hbc))
           have Hm:=zB (k2 wc)
           have k4:=HPI.size
           clear a1 a2 a3 a4 a5 a6 a7 a8 a9 aa d1 d2 d3 d4 d5 d6 d7 d8 d9 da f1 f2 HC kt HP H6 H2 k2 ko HH b0 b1 b2 b3 r2 r3 r4 r5 s0 n0
           go_wp2_with fail
           go_call zA Hm as e wd ⟨⟨hd,rfl,hhz,HHI⟩,hbd⟩
           have kb:Hid (Below W6.heap.size W6 wd):=Hq.trans (hbd.mono Hq.size)
           obtain⟨_,_,_,_,e0,e1,ef⟩:=(zA hA) wd kb
           obtain⟨tf,hO⟩:=Jx (hd++pt)
           have HA:=zB (show zKg q (zz tabs k) (zCK ts k) (atM ms k) ⟨nm,tf⟩ from⟨ki,yS ⟨by rw[<-zA J];exact Y,hd,pt,pv,by rw[<-zA HJ,<-zA y];exact HdQ.of HHI,by rw[<-zA J,<-zA kQ,<-zA y];exact HPI,hO⟩⟩)
           have HG:=zB (by rw[hO,zA7];unfold maxLen;omega:tf.size<=maxLen)
           clear hbd Hm f3 f4 f5 f6 f7 f8 f9 fa x0 x1 xf
           go_upto_region 33 with fail
           rw[<-hO]
           obtain⟨Wm,r⟩:=Jx (wd.setCell ⟨wr.heap.size,1,none⟩ (Qs tf))
           rw[<-r]
           replace y0:Wm.cell? ⟨wr.heap.size,0,none⟩=some (Qs nm):=by rw[r,yj _ _ _ _ (by simp)];exact e0
           replace y1:Wm.cell? ⟨wr.heap.size,1,none⟩=some (Qs tf):=by rw[r];exact yt _ _ _ e1
           have hD:=zB (by rw[r];exact(hs.trans (kb.mono Jo)).setCell (p:=⟨wr.heap.size,1,none⟩) (yk _) _:Below wr.heap.size wr Wm)
           clear r hO k4 hhz e0 e1 ef yf kz
          all_goals
           have zm:=hD.size
           have kj:Hid (zAb (Wm.alloc (.cells #[Qs nm,Qs tf] 53)) WR.heap.size (.slice av os.length cv) os):=M.below (hD.alloc zm _)
           have k8:=zB (zLY Wm ⟨nm,tf⟩)
           go_wp2_with (at_builtin;refine yL _ rfl (.tmp 167) (.tmp 169) 29 rfl WR.heap.size 53 iM _ 2 32 underlying29 HI HZ.1 HZ.2.1 HZ.2.2 rfl Jd _ os.length (zAV os) rfl kj ⟨Wm.heap.size,0,none⟩ 1 1 (zAV [⟨nm,tf⟩]) rfl rfl k8 (zIM _) ?b1 ?b2 ?b3 ?next)
           case b1=>exact Jm
           case b2=>omega
           case b3=>first|omega|(simp;omega)
           case next=>
            intro v4 w4 Z F H8 ky;have S:=zB (by unfold zAb;rw[zGD,yq];exact Z:zAb w4 WR.heap.size v4 (os++[⟨nm,tf⟩]));have kE:Hid (Below WR.heap.size WR w4):=(Hh.trans ((hD.alloc zm _).mono zr)).grown F Jq (fun q hq=>(M.lt q hq).1);have kG:=zB (H7.step HA);have kL:=zB (show zBk (os++[⟨nm,tf⟩]) from fun i hi=>by
             rw[zQX]
             by_cases e:i<os.length
             ·rw[yQ e];exact kx i e
             ·simp at hi;rw[yP e,yQ Jo];exact⟨kF,HG⟩)
            clear Z F H8 ky;go_wp2;exact⟨⟨k+1,os++[⟨nm,tf⟩],Jo,Jn,kG,S,kE,kL⟩,Ji⟩
         ·obtain rfl:k=ms.length:=Jo;have k7:1<=os.length:=Jo;clear Hz;obtain⟨gO,rfl⟩:∃gO,av=some ⟨gO,0,none⟩:=by
           obtain⟨g,c,e⟩:=M.has k7;injection e with e;exact⟨g,e⟩
          have kH:=zB (zGE (some ⟨gO,0,none⟩) cv os wr Jo M.arg kx);clear K;go_wp2_with fail;go_call zA kH as e wz ⟨vz,t2,c2,x2,rfl,HT2,_,hbz⟩;obtain⟨Hg,Ho⟩:=HF.c6 hF kn kP H7 HT2;have Hn:=zB (R.below hbz);have kI:=zB ((M.below hbz).base (show N<=WR.heap.size from Nat.le_of_lt HR.rq.h));clear hbz;by_cases hc:c2=0
          ·have HX:=zB (Ho hc);clear Hg Ho;subst hc;go_wp2_with fail;go_ret2;exact⟨_,os,0,rfl,HX,by rw[<-zA HN];exact kI,by unfold Qb;rw[<-zA HN];exact Hn.bel⟩
          ·have HX:=zB (Hg hc);have ku:(c2 != 0)=true:=Ju hc
           clear Hg Ho hc;go_wp2_with fail;go_ret2;exact⟨_,[],6,rfl,HX,by rw[<-zA HN];exact zB Hn.nl,by unfold Qb;rw[<-zA HN];exact Hn.bel⟩
   ·have hE:(nm.toList==q.m.toList)=false:=by simp;exact fun e=>he (zBC e)
    have HR:=zB (HF.c3 Hx (fun h=>he (by rw[zCE,<-zA h8] at h;simpa[<-P] using h)));clear he P H h1;go_wp2_with fail;go_quiet (fail);go_wp2_with fail;go_ret2;obtain⟨h2,h3⟩:=(zA G) (w4.drewN nq) ⟨rfl,rfl,rfl,yk _,fun _ _=>rfl⟩;exact⟨_,[],3,rfl,HR,by rw[<-zA HN];exact zB h2,by unfold Qb;rw[<-zA HN];exact h3⟩
  ·have hI:((ds.length:Int)!=1)=true:=Jq;have HR:=zB (HF.c3 Hx (fun h=>h1 (by have:=yV List.length h;rw[<-zA h8] at this;simpa using this)));clear h1;go_wp2_with fail;go_quiet (fail);go_wp2_with fail;go_ret2;obtain⟨h2,h3⟩:=(zA G) (w4.drewN nq) ⟨rfl,rfl,rfl,yk _,fun _ _=>rfl⟩;exact⟨_,[],3,rfl,HR,by rw[<-zA HN];exact zB h2,by unfold Qb;rw[<-zA HN];exact h3⟩
 ·have ku:(ct != 0)=true:=Ju hc
  have HR:=zB (show zEW ms q [] 1 from⟨ts,ct,wt,HT,yS ⟨hc,rfl,rfl⟩⟩);clear hc;go_wp2_with fail;go_ret2;exact⟨_,[],1,rfl,HR,by rw[<-zA HN];exact Hk,by unfold Qb;rw[<-zA HN];exact H3⟩
end Go.Proofs.YtadiaghhackbjaaGreatDoor
