import Derived.Test.YtadiaghhackbjaaGreatDoorTie
import Derived.Test.YtadiaghhackbjaaGreatDoorCards
import Derived.LaidMore
import Derived.Lay
import Derived.Test.YtadiaghhackbjaaGreatDoorU38
import Derived.Test.YtadiaghhackbjaaGreatDoorU40
namespace Go.Proofs.YtadiaghhackbjaaGreatDoor
set_option linter.all false
set_option maxHeartbeats 0
set_option maxRecDepth 100000
open Proofs.Tryz RowKit
variable{B:Nat}{w:World}
theorem zRf(q:zAX)(left:Int)(w:JY)(hm:q.m.size<=maxLen)(ho:q.o.s.size<=maxLen)(ht:q.t.size<=maxLen)(h0:0<=left)(h1:left<=1048576):Calls prog 5 #[zBQ q,Qi left] w fun e w'=>(∃r,e=.returned (Qi r)/\(r<0\/(0<=r/\q.o.s.size<=1048576/\q.t.size<=1048576)))/\Qb w w':=by
 unfold zBQ;unfold maxLen at hm ho ht;by_cases c0:left<q.m.size
 ·go_enter func5,ntmps5;go_wp2;go_ret;exact⟨⟨-1,rfl,yS Jo⟩,zC _ _⟩
 have so:∀(l:Int)(W:JY),0<=l->l<=1048576->Calls prog 14 #[.agg #[Qs q.o.s,Qi q.o.k,Qi q.o.l,Qi q.o.sd],Qi l] W fun e w'=>(∃r,e=.returned (Qi r)/\(r<0\/(0<=r/\r<=l/\q.o.s.size<=1048576)))/\Qb W w':=by
  intro l W h0 h1;by_cases c1:l<q.o.s.size
  ·go_enter func14,ntmps14;go_wp2;go_ret;exact⟨⟨-1,rfl,yS Jo⟩,zC _ _⟩
  ·go_enter func14,ntmps14;go_wp2;go_ret;exact⟨⟨_,rfl,yU Jo⟩,zC _ _⟩
 go_enter func5,ntmps5;go_wp2_with fail;go_call so _ _ Jo Jo as e w1 ⟨⟨r,rfl,hr⟩,hb1⟩;have h:=(zC w _).trans (hb1.mono Js);by_cases hn:r<0
 ·go_wp2_with fail;go_ret;exact⟨⟨-1,rfl,yS Jo⟩,h⟩
 have e6:=hb1.cell (p:=Qa w.heap.size 6) Js;obtain⟨H,K,Q⟩:0<=r/\r<=left-q.m.size/\q.o.s.size<=1048576:=Jo;by_cases c2:r<q.t.size
 ·go_wp2_with fail;go_ret;exact⟨⟨-1,rfl,yS Jo⟩,h⟩
 ·go_wp2_with fail;go_ret;exact⟨⟨_,rfl,yU Jo⟩,h⟩
theorem zH0(q:zAX)(w:JY):Calls prog 8 #[zBQ q] w fun e w'=>e=.returned (zBQ q)/\Qb w w':=by
 unfold zBQ;go_enter func8,ntmps8;go_wp2_with fail;go_enter func29,ntmps29;go_wp2;exact yN (v:=zBQ q) (by simp[zBQ,results,results8,go_sem]) rfl ⟨rfl,by repeat(first|exact zC _ _|refine Below.alloc ?_ (by simp<;>omega) _)⟩
theorem zEW.small{ms H:List zH}{q:zAX}{c:Int}(h:zEW ms q H c):H.length<=100:=by
 have n0:H=[]->H.length<=100:=fun h=>by rw[h];exact ym _
 obtain⟨ts,ct,wt,_,⟨_,h,_⟩|⟨_,tabs,U,_,_,⟨_,h,_⟩|⟨_,⟨_,h,_⟩|⟨_,⟨_,h,_⟩|⟨_,⟨_,h,_⟩|⟨_,ms',t2,c2,w2,_,ht,⟨_,h,_⟩|⟨h0,rfl,_⟩⟩⟩⟩⟩⟩⟩:=h;iterate 6 exact n0 h
 subst h0;obtain⟨_,c0,w0,hL,⟨h0,_,h1,_⟩|⟨rfl,_⟩⟩:=ht
 ·exact yR h1.symm h0
 ·exact hL.good.1
theorem zAb.argE{v:Value}{us:List zH}(h:zAb w B v us):∃a c,v=.slice a us.length c/\zB3 w a us/\(us.length=0\/∃g,a=some (Qa g 0)/\B<=g/\Zc w g us us.length):=by
 have h':=h;obtain⟨_,⟨rfl,h0⟩|⟨g,cap,H,rfl,_⟩⟩:=h'
 ·exact⟨none,0,by rw[h0],yS h0,yS h0⟩
 ·refine⟨_,cap,rfl,h.arg,yU ⟨g,rfl,(h.lt g rfl).1,(h.lt g rfl).2,fun j hj=>⟨?_,World.ownsRow.frozenAt h _⟩,fun i hi=>h.ops i hi⟩⟩;rw[World.ownsRow.cellAt h (0+j) Jo];have:0+j<(zAV us).length:=by rw[zJz];omega
  rw[yr this];rfl
theorem zMr{B':Nat}(v v':Value)(xs:List zH)(w:JY)(hn:xs.length<=100)(h:zAb w B v xs)(h':zAb w B' v' xs):Calls prog 10 #[v,v'] w fun e w'=>e=.returned (.bool true)/\Qb w w':=by
 obtain⟨a,c,rfl,h,_⟩:=h.argE;obtain⟨a',c',rfl,h',_⟩:=h'.argE;exact zNG a a' c c' xs w Jo h h'
theorem Zc.arg{g:Nat}{xs:List zH}(h:Zc w g xs xs.length):zB3 w (some (Qa g 0)) xs:=yU ⟨g,0,rfl,h.2.2,h.1⟩
theorem zB7.belowB{w':JY}{g:Nat}(h:zB7 w w' g)(hB:B<=g)(hz:B<=w.heap.size):Below B w w':=⟨h.os,h.tape,h.output,h.size,fun i hi=>h.block i Jo Jo⟩
def MkD(w:JY)(v:Value)(n:Nat):Prop:=∃a c,v=.slice a n c/\(n=0\/∃g,a=some (Qa g 0)/\Zc w g (zIT 1 n) n)
theorem MkD.below{w w':JY}{v:Value}{n:Nat}(h:MkD w v n)(hb:Qb w w'):MkD w' v n:=by
 obtain⟨a,c,rfl,h|⟨g,rfl,h⟩⟩:=h
 ·exact⟨a,c,rfl,yS h⟩
 ·exact⟨_,c,rfl,yU ⟨g,rfl,h.below hb h.1⟩⟩
theorem zRg(v:Value)(xs:List zH)(w:JY)(hn:xs.length<=100)(hB:B<=w.heap.size)(h:zAb w B v xs):Calls prog 11 #[v,Qi 1] w fun e w'=>e=.returned (Qi ((1+2*xs.length:Nat):Int))/\MkD w' v xs.length/\Below B w w':=by
 obtain⟨a,c,rfl,_,h|⟨g,rfl,hg,h⟩⟩:=h.argE
 ·rw[h];go_enter func11,ntmps11;go_wp2;refine wp_loop_rounds 1 ?_;rw[rounds_succ];go_wp2;go_ret;exact⟨rfl,⟨a,c,rfl,yS rfl⟩,yJ _ _⟩
 ·go_call zJH g c 1 xs w Jo Jo Jo h as e w' ⟨⟨k,rfl,hk⟩,hf,hkp⟩;exact⟨by rw[zA hk],⟨_,c,rfl,yU ⟨g,rfl,hf⟩⟩,hkp.belowB hg hB⟩
theorem zLj(v:Value)(n:Nat)(w:JY)(hn:n<=100)(h:MkD w v n):Calls prog 12 #[v,Qi 1] w fun e w'=>e=.returned (Qi ((1+2*n:Nat):Int))/\Qb w w':=by
 obtain⟨a,c,rfl,h|⟨g,rfl,h⟩⟩:=h
 ·subst h;go_enter func12,ntmps12;go_wp2;refine wp_loop_rounds 1 ?_;rw[rounds_succ];go_wp2;go_ret;exact⟨rfl,yJ _ _⟩
 ·go_call zOn g c 1 n w Jo Jo Jo h as e w' ⟨⟨k,rfl,hk⟩,hb⟩;exact⟨by rw[zA hk],hb⟩
theorem zOg(a:Option Addr)(cap:Nat)(ms:List zH)(q:zAX)(w:JY)(hl:ms.length<=maxLen)(hA:zB3 w a ms)(hs:zBk ms)(Ha:q.m.size<=maxLen)(hX:q.o.s.size<=maxLen)(hZ:q.t.size<=maxLen)(hm:zD7 w)(ht:zFD w):Calls prog 3 #[.slice a ms.length cap,zBQ q] w fun e w'=>e=.returned (.bool true)/\Qb w w':=by
 obtain⟨W,hW⟩:=Jx (w.alloc (.cells (zMd q) 26));have U:Qb w W:=by rw[hW];exact zC _ _
 have HQ:=zB (by rw[hW];exact zCw.new w q _:zCw W w.heap.size q);have K:Hid (zD7 W/\zFD W/\zB3 W a ms):=zB ⟨hm.below U,ht.below U,hA.below U⟩;have A:=zB U;have HZ:=zB hs;have hF:=zB (zR0 a cap ms 1048576 W hl (hA.below U) hs Jd Jd);unfold zMd at hW;clear hA hm hs ht U;unfold zBQ;go_enter func3,ntmps3;go_upto_region 4 with fail
 rw[<-hW];clear hW;go_call zA hF as e w1 ⟨⟨r,rfl,hr⟩,hb1⟩;have S:=zB hb1;clear hb1 hF;by_cases Hb:r<0
 ·go_wp2_with fail;go_ret;exact⟨rfl,A.trans (S.mono A.size)⟩
 have p:ms.length<=1048576:=by unfold zRz at hr;omega
 have Hc:r<=1048576:=by unfold zRz at hr;omega
 have Q:Hid (∀w',Qb W w'->zCw w' w.heap.size q):=zB fun w' hb=>HQ.below hb HQ.h
 have h0:=zB (zRf q r w1 Ha hX hZ Jo Hc);obtain⟨_,c0,c1,c2,c3,c4,c5,c6,c7,c8⟩:=zA Q w1 S;clear hr HQ;unfold zBQ at h0;go_wp2_with fail;go_call zA h0 as e w2 ⟨⟨r2,rfl,hr2⟩,hb2⟩;have hD:=zB (S.trans (hb2.mono S.size));clear hb2 h0 c0 c1 c2 c3 c4 c5 c6 c7 c8;by_cases Hb:r2<0
 ·go_wp2_with fail;go_ret;exact⟨rfl,A.trans (hD.mono A.size)⟩
 obtain⟨hx,h5⟩:q.o.s.size<=1048576/\q.t.size<=1048576:=Jo;have i:=zB hD.drew;have hJ:=zB (zGq a cap ms w2.drew p (K.2.2.below i));obtain⟨_,c0,c1,c2,c3,c4,c5,c6,c7,c8⟩:=zA Q w2 hD;clear hr2;go_wp2_with fail;go_region_held3 (fun Y=>Y.cell? (Qa w.heap.size 0)=some (Qi q.k)/\Y.cell? (Qa w.heap.size 1)=some (Qs q.m)/\Y.cell? (Qa w.heap.size 2)=some (Qs q.o.s)/\Y.cell? (Qa w.heap.size 3)=some (Qi q.o.k)/\Y.cell? (Qa w.heap.size 4)=some (Qi q.o.l)/\Y.cell? (Qa w.heap.size 5)=some (Qi q.o.sd)/\Y.cell? (Qa w.heap.size 6)=some (Qs q.t)/\Y.cell? (Qa w.heap.size 7)=some (Qi q.l)/\Y.cell? (Qa w.heap.size 8)=some (Qi q.sd)) (go_keep)
  (
   first
   |(go_at_call 7;(with_reducible refine(zA hJ).mono ?_);rintro e w3 ⟨⟨g3,rfl,_,hf3⟩,hb3⟩;have h3:=zB (i.trans (hb3.mono i.size));have h8:=zB hf3;obtain⟨_,d0,d1,d2,d3,d4,d5,d6,d7,d8⟩:=zA Q w3 h3;have hy:=zB (zH0 q w3);unfold zBQ at hy;clear hb3 hf3)
   |(go_at_call 8;(with_reducible refine(zA hy).mono ?_);rintro e w4 ⟨rfl,hb4⟩;have hu:=zB (h3.trans (hb4.mono h3.size));obtain⟨_,e0,e1,e2,e3,e4,e5,e6,e7,e8⟩:=zA Q w4 hu;have h1:=zB (zHz _ ms.length ms q w4 p (h8.below hb4 h8.1).arg HZ hx h5);unfold zBQ at h1;clear hb4)
   |(go_at_call 6;(with_reducible refine(zA h1).mono ?_);rintro e w5 ⟨v5,out,c,rfl,HL,HT5,hb5⟩;have L:=zB (hu.trans (hb5.mono hu.size));obtain⟨_,f0,f1,f2,f3,f4,f5,f6,f7,f8⟩:=zA Q w5 L))
 clear c0 c1 c2 c3 c4 c5 c6 c7 c8 d0 d1 d2 d3 d4 d5 d6 d7 d8 e0 e1 e2 e3 e4 e5 e6 e7 e8 f0 f1 f2 f3 f4 f5 f6 f7 f8 hJ hy h8;have ho:=HL.small;have hE:=zB (zGq a cap ms w5 p (K.2.2.below L));clear hb5 h1;go_wp2_with fail;go_call zA hE as e w6 ⟨⟨gx,rfl,hgx,hf6⟩,hb6⟩;have hp:=zB (L.trans (hb6.mono L.size));have hw:=zB hb6;have hH:=zB hf6;have hY:=hf6.1;have hC:=zB (zH0 q w6);obtain⟨_,c0,c1,c2,c3,c4,c5,c6,c7,c8⟩:=zA Q w6 hp;clear hb6 hE hf6;unfold zBQ at hC;go_wp2_with fail;go_call zA hC as e w7 ⟨rfl,hb7⟩;have z7:=hb7.size;have j:=zB (hp.trans (hb7.mono hp.size));have hv:=zB (hw.trans (hb7.mono hw.size));have R:=zB (hH.below hb7 hY);have y:=zB (zEZ (some (Qa gx 0)) ms.length ms q w7 (fun hn=>⟨hn,R.arg,HZ,K.1.below j⟩) HZ hx h5 (K.1.below j) (K.2.1.below j) HL);clear hb7 hC hH hw c0 c1 c2 c3 c4 c5 c6 c7 c8;unfold zBQ at y;go_wp2_with fail;go_call zA y as e w8 ⟨⟨v8,rfl,hT8⟩,hb8⟩;have z8:=hb8.size;have hI:=zB (j.trans (hb8.mono j.size));have h4:=zB (hv.trans (hb8.mono hv.size));have h9:=zB (R.below hb8 R.1);have hG:=zB hT8;have H:=zB (zMr v8 v5 out w8 ho hT8 (HT5.below h4));clear hb8 hT8 y R;go_wp2_with fail;go_call zA H as e w9 ⟨rfl,hb9⟩;have z9:=hb9.size;have h7:=zB (hI.trans (hb9.mono hI.size));have hB:=zB (h4.trans (hb9.mono h4.size));have hq:=zB (h9.below hb9 h9.1);have hP:=zB (hG.below hb9);have I:=zB (zGq a cap ms w9 p (K.2.2.below h7));clear hb9 H h9 hG hv;go_wp2_with fail;go_call zA I as e w10 ⟨⟨g10,rfl,_,hf10⟩,hb10⟩;have z10:=hb10.size;have ha:=zB (h7.trans (hb10.mono h7.size));have D:=zB (hB.trans (hb10.mono hB.size));have V:=zB (hq.below hb10 hq.1);have hj:=zB (hP.below hb10);have H:=zB (zNG _ _ ms.length ms.length ms w10 p V.arg hf10.arg);clear hb10 I hq hP hB hf10;go_wp2_with fail;go_call zA H as e w11 ⟨rfl,hb11⟩;have z11:=hb11.size;have hN:=zB (ha.trans (hb11.mono ha.size));have N:=zB (D.trans (hb11.mono D.size));have E:=zB (hj.below hb11);have u:Hid (Calls prog 11 #[Ql gx ms.length ms.length,Qi 1] w11 _):=zJH gx ms.length 1 ms w11 p Jo Jo (V.below hb11 V.1);clear hb11 H V hj D;go_wp2_with fail;go_call zA u as e w12 ⟨⟨k,rfl,hk⟩,_,hkp⟩;have z12:=hkp.size;have Hd:¬ (k:Int)<0:=Jo;have h2:=hkp.belowB (B:=w5.heap.size) hgx N.size;have hh:=zB (hN.trans (h2.mono L.size));have v:=zB (N.trans h2);have d:=zB (E.grown hkp.grown (fun g e x=>by injection x with x;have:=(E.lt g e).1;omega));have H:=zB (zMr v8 v5 out w12 ho d (HT5.below v));clear hk hkp h2 E N u;go_wp2_with fail;go_call zA H as e w13 ⟨rfl,hb13⟩;have z13:=hb13.size;have hS:=zB (hh.trans (hb13.mono hh.size));have C:=zB (v.trans (hb13.mono v.size));have u:=zB (zRg v8 out w13 ho Jo (d.below hb13));have hM:¬ ((1+2*out.length:Nat):Int)<0:=Jo;generalize hV:1+2*out.length=M at u hM;have hO:=zB hV;clear hb13 H d v hV;go_wp2_with fail;go_call zA u as e w14 ⟨rfl,hmk,hb14⟩;have Z:=zB (hS.trans (hb14.mono j.size));have F:=zB (C.trans (hb14.mono (by have:=C.size;have:=j.size;have:=hgx;omega)));have hf:=zB hmk;have P:=zB (zLj v8 out.length w14 ho hmk);rw[zA hO] at P;clear hb14 u hmk C;go_wp2_with fail;go_call zA P as e w15 ⟨rfl,hb15⟩;have hg:=zB (Z.trans (hb15.mono Z.size));have hK:=zB (F.trans (hb15.mono F.size));have hR:=zB (hf.below hb15);have J:=zB hg.drew;have I:=zB (zGq a cap ms w15.drew p (K.2.2.below J));obtain⟨_,c0,c1,c2,c3,c4,c5,c6,c7,c8⟩:=zA Q w15 hg;have b:=zB hK.drew;have hz:=zB (hR.below (yJ _ _).drew);clear hb15 P hf F;go_wp2_with fail;go_region_held3 (fun Y=>Y.cell? (Qa w.heap.size 0)=some (Qi q.k)/\Y.cell? (Qa w.heap.size 1)=some (Qs q.m)/\Y.cell? (Qa w.heap.size 2)=some (Qs q.o.s)/\Y.cell? (Qa w.heap.size 3)=some (Qi q.o.k)/\Y.cell? (Qa w.heap.size 4)=some (Qi q.o.l)/\Y.cell? (Qa w.heap.size 5)=some (Qi q.o.sd)/\Y.cell? (Qa w.heap.size 6)=some (Qs q.t)/\Y.cell? (Qa w.heap.size 7)=some (Qi q.l)/\Y.cell? (Qa w.heap.size 8)=some (Qi q.sd)) (go_keep)
  (
   first
   |(go_at_call 7;(with_reducible refine(zA I).mono ?_);rintro e w16 ⟨⟨g16,rfl,_,hf16⟩,hb16⟩;have n:=zB (J.trans (hb16.mono J.size));have T:=zB (b.trans (hb16.mono b.size));have hQ:=zB (hz.below hb16);have f:=zB hf16;obtain⟨_,d0,d1,d2,d3,d4,d5,d6,d7,d8⟩:=zA Q w16 n;have h6:=zB (zH0 q w16);unfold zBQ at h6;clear hb16 hf16)
   |(go_at_call 8;(with_reducible refine(zA h6).mono ?_);rintro e w17 ⟨rfl,hb17⟩;have X:=zB (n.trans (hb17.mono n.size));have O:=zB (T.trans (hb17.mono T.size));have hi:=zB (hQ.below hb17);obtain⟨_,e0,e1,e2,e3,e4,e5,e6,e7,e8⟩:=zA Q w17 X;have y:=zB (zEZ (some (Qa g16 0)) ms.length ms q w17 (fun hn=>⟨hn,(f.below hb17 f.1).arg,HZ,K.1.below X⟩) HZ hx h5 (K.1.below X) (K.2.1.below X) HL);unfold zBQ at y;clear hb17)
   |(go_at_call 9;(with_reducible refine(zA y).mono ?_);rintro e w18 ⟨⟨v18,rfl,hT18⟩,hb18⟩;have G:=zB (X.trans (hb18.mono X.size));have hc:=zB (O.trans (hb18.mono O.size));have hd:=zB (hi.below hb18);obtain⟨_,f0,f1,f2,f3,f4,f5,f6,f7,f8⟩:=zA Q w18 G))
 clear c0 c1 c2 c3 c4 c5 c6 c7 c8 d0 d1 d2 d3 d4 d5 d6 d7 d8 e0 e1 e2 e3 e4 e5 e6 e7 e8 f0 f1 f2 f3 f4 f5 f6 f7 f8 I h6 f;have H:=zB (zMr v18 v5 out w18 ho hT18 (HT5.below hc));clear hb18 hT18 y hi O;go_wp2_with fail;go_call zA H as e w19 ⟨rfl,hb19⟩;have he:=zB (G.trans (hb19.mono G.size));have P:=zB (zLj v8 out.length w19 ho (hd.below hb19));rw[zA hO] at P;clear hb19 H hd hc;go_wp2_with fail;go_call zA P as e w20 ⟨rfl,hb20⟩;have hU:=zB (A.trans ((he.trans (hb20.mono he.size)).mono A.size));clear hb20 P;go_wp2;go_ret;exact⟨rfl,hU⟩
open Go Go.ChangeShapes Go.WideShapes Go.ChangeAt Go.Joins
theorem RfP.own:ownKnob prog.godebug=none:=Jk
theorem RfP.laidOut:laidOutB prog=true:=Jk
theorem RfP.cellsR:prog.cellsOf 26=9:=Jk
theorem RfP.cellsO:prog.cellsOf 24=4:=Jk
section
variable{H : Type}{enc : TypeId×Value → H}{W : World}{held : Bool}
theorem zXT{t:TypeId}{f0 f1 f2 f3 f4 f5:Field}{fuel:Nat}{cs:List Value}{x:DataW H×List MemPlace}(ht:prog.underlying t=some (.struct #[f0,f1,f2,f3,f4,f5]))(h:DataW.trod enc prog W 0 (fun _=>true) held fuel t cs=some x):∃n,let T:=fun f:Field=>∃y,DataW.trod enc prog W 0 (fun _=>true) held n f.type ((cs.drop f.offset).take (prog.cellsOf f.type))=some y
   T f0/\T f1/\T f2/\T f3/\T f4/\T f5:=by
 obtain⟨xs,n,_,rfl,hl,k,hf⟩:=DataW.trod_struct ht h;match xs,k with
 |[y0,y1,y2,y3,y4,y5],_=>exact⟨n,⟨y0,Ju (hf 0 f0 rfl)⟩,⟨y1,Ju (hf 1 f1 rfl)⟩,⟨y2,Ju (hf 2 f2 rfl)⟩,⟨y3,Ju (hf 3 f3 rfl)⟩,⟨y4,Ju (hf 4 f4 rfl)⟩,⟨y5,Ju (hf 5 f5 rfl)⟩⟩
theorem zT6{r:Go.Reach}{b0:Nat}{v:Value}{d:DataW H}{p:List MemPlace}(hv:Value.okWide prog W r b0 26 v)(h:DataW.Trod enc prog W 0 (fun _=>true) held 26 v d p):∃q:zAX,v=zBQ q/\q.m.size<=maxLen/\q.o.s.size<=maxLen/\q.t.size<=maxLen:=by
 obtain⟨cs,rfl,K⟩:=okWide_struct underlying26 hv;rw[RfP.cellsR] at K;obtain⟨fuel,hf⟩:=h;obtain⟨n,⟨_,t0⟩,⟨_,t1⟩,⟨_,t2⟩,⟨_,t3⟩,⟨_,t4⟩,⟨_,t5⟩⟩:=zXT underlying26 hf;obtain⟨l⟩:=cs;match l,K with
 |[c0,c1,c2,c3,c4,c5,c6,c7,c8],_=>
  simp only[OpnM.cells9,OpnM.cells3,RfP.cellsO] at t0 t1 t2 t3 t4 t5;obtain⟨k,e0,_,_⟩:=DataW.trod_int underlying3 t0;obtain⟨m,e1,_,hm⟩:=DataW.trod_string underlying9 t1;obtain⟨_,_,_,_,_,_,_,s0,s1,s2,s3⟩:=trod_struct4 underlying24 t2;simp only[OpnM.cells9,OpnM.cells3] at s0 s1 s2 s3;obtain⟨os,f0,_,ho⟩:=DataW.trod_string underlying9 s0;obtain⟨ok,f1,_,_⟩:=DataW.trod_int underlying3 s1;obtain⟨ol,f2,_,_⟩:=DataW.trod_int underlying3 s2;obtain⟨od,f3,_,_⟩:=DataW.trod_int underlying3 s3;obtain⟨t,e3,_,ht⟩:=DataW.trod_string underlying9 t3;obtain⟨l,e4,_,_⟩:=DataW.trod_int underlying3 t4;obtain⟨sd,e5,_,_⟩:=DataW.trod_int underlying3 t5;simp[Value.cells] at e0 e1 f0 f1 f2 f3 e3 e4 e5;subst e0 e1 f0 f1 f2 f3 e3 e4 e5;exact⟨⟨k,m,⟨os,ok,ol,od⟩,t,l,sd⟩,rfl,hm,ho,ht⟩
end
theorem zVt{W:JY}(h:W.ShapedOpen prog):zD7 W:=
 cell_of_shapedOpen_int (g:=0) (t:=3) (zero:=#[Qi 0]) h (of_decide_eq_true Jk) Jk rfl Jk Jk underlying3
theorem zFD.heap{w':JY}(h:zFD w)(e:w'.heap=w.heap):zFD w':=by
 unfold zFD Lib.TabIs World.var? at *;rw[e];exact h
theorem zVu(h:laidMetH prog Rows.fnExactRefactorRow.laid w):zFD w:=by
 rw[MakeChecks.laidMetH_plain _ _ _ (by kernel_rfl)] at h;obtain⟨_,⟨_,_,_,_,_,_,_,_,_,_,⟨_,_,_,_,_,_,_,_,_,_,⟨g,t,cs,fuel,p,_,hg,ht,hv,hd,_⟩,_⟩,_⟩,_⟩:=h;have K:prog.globalNamed "internal/strconv.uint64pow10" = some 5:=Jk;obtain rfl:=Option.some.inj (K.symm.trans hg);have H:(prog.globals[5]?).map (·.type)=some 331:=Jk;obtain rfl:=Option.some.inj (H.symm.trans ht);unfold zFD Lib.TabIs;rw[hv,<-Lib.cells_of_tab (k:=.u64) (zs:=Lib.pow10Tab) underlying331 underlying306 Jk Jk hd]
theorem RfP.lifted(os:Os)(started:os.Started)(H:Type)(enc:TypeId×Value->H):ReturnsInHanded {} Tryz.checked os 3 .any (fun w args=>(Rows.fnExactRefactorSpec.pre enc prog Tryz.f3 Rows.fnExactRefactorRow.domain false w args/\laidMetH prog Rows.fnExactRefactorRow.laid w)/\sizedMet enc prog Tryz.f3 (OpenSpec.ofChange Rows.fnExactRefactorSpec) false w args)
   (Rows.fnExactRefactorSpec.post enc prog Tryz.f3 false true false false):=by
 refine returnsInHanded_of_calls (C:=Tryz.checked) RfP.own started Jk
  (ChangeSpec.witness_shaped (enc:=enc) (C:=Tryz.checked) (os:=os) (X:=fun w _=>laidMetH prog Rows.fnExactRefactorRow.laid w) false (World.laidAll prog os Rows.fnExactRefactorRow.laid) #[.slice none 0 0,zBQ ⟨0,⟨#[]⟩,⟨⟨#[]⟩,0,0,0⟩,⟨#[]⟩,0,0⟩] 8 (World.laidAll_os _ _ _)
   (World.shaped_of_ZipB Jk Jk) Jk Jk Jk
   (by rw[MakeChecks.laidMetH_plain _ _ _ (by kernel_rfl)];exact laidMet_laidAll _ Jk Jk)) ?_
 intro w tape i _ V _ u J _;obtain⟨_,_,_,fn',P,_,_,_,_,k⟩:=u;obtain rfl:fn'=Tryz.f3:=Option.some.inj (P.symm.trans func3);obtain⟨⟨⟨ds,gs,before,hw,_⟩,K⟩,_⟩:=J;have hW:=DataW.Whole.of_heap (w':=w.forCall tape i) (by rfl) hw;have hT:zFD (w.forCall tape i):=zFD.heap (zVu K) rfl;clear K;suffices hc:Calls prog 3 i.args (w.forCall tape i) fun e W'=>∃v,e=.returned v/\Rows.fnExactRefactorSpec.post enc prog Tryz.f3 false true false false (w.forCall tape i) i.args v W' from
  hc.mono fun e W' ⟨v,he,hp⟩=>by
   subst he;exact ChangeSpec.post_blind hp
 generalize w.forCall tape i=W at *;generalize i.args=args at *;have Q:∀(j:Nat) t v,Tryz.f3.params[j]?=some t->args[j]?=some v->Value.okWide prog W .any w.heap.size t v:=k;have A:=hW;obtain⟨p,q,Y,hV,rfl,b,B⟩:=hW;have hA:DataW.TrodAll enc prog W 0 (fun _=>true) true Tryz.f3.params.toList args.toList ds p:=Y;rw[Tryz.params3] at hA Q;obtain⟨v0,c,d0,ds0,p0,q0,U,rfl,rfl,h0,r0⟩:=trodAll_cons hA;obtain⟨v1,d,d1,ds1,p1,q1,rfl,rfl,rfl,h1,r1⟩:=trodAll_cons r0;obtain⟨rfl,rfl,rfl⟩:=trodAll_nil r1;obtain rfl:args=#[v0,v1]:=by cases args;simp_all
 obtain⟨rfl,rfl⟩:=trodVars_none hV;have k0:=h0;have k1:=h1;have lt0:∀x∈p0,x.block<W.heap.size:=by obtain⟨m,hm⟩:=k0;exact DataW.trod_lt m _ _ _ hm
 have lt1:∀x∈p1,x.block<W.heap.size:=by obtain⟨m,hm⟩:=k1;exact DataW.trod_lt m _ _ _ hm
 obtain⟨a,len,cap,rfl⟩:=okWide_slice underlying22 (Q 0 22 v0 rfl rfl);obtain⟨a',y,ms,e,m1,m2,m3⟩:∃(a':Option Addr)(y:Nat)(ms:List zH),[Value.slice a len cap]=[.slice a' ms.length y]/\ms.length<=maxLen/\zB3 W a' ms/\zGr ms:=by
  obtain⟨fuel,hf⟩:=h0;exact zOp hf
 simp at e;obtain⟨rfl,rfl,rfl⟩:=e;obtain⟨rq,rfl,q1,q2,q3⟩:=zT6 (Q 1 26 v1 rfl rfl) h1;clear Y k;refine(zOg a cap ms rq W m1 m2 m3.sized q1 q2 q3 (zVt V) hT).mono fun e W' ⟨he,bel⟩=>?_
 subst he;exact⟨_,rfl,_,_,_,[],_,[],A,trodAll_mk1 (shut_bool underlying4 _),(trodAll_cons_mk (Below.trod RfP.laidOut Jk (of_decide_eq_true Jk) k0 bel lt0) (trodAll_cons_mk (Below.trod RfP.laidOut Jk (of_decide_eq_true Jk) k1 bel lt1) trodAll_mk0)),rfl,bel.frame _,fun h=>by cases h⟩
theorem zMs:Rows.FnExactRefactorSaid:=
 OpenClaim.holds_of_wide 3 Tryz.f3 rfl rfl rfl rfl rfl rfl rfl ⟨rfl,rfl,rfl,rfl,rfl⟩ rfl rfl rfl rfl rfl Jk func3 Jk
  (of_decide_eq_true Jk) (by unfold Func.isWrapper;first|(rw[yQ (by decide +kernel)];kernel_rfl)|(rw[yP (by decide +kernel)];exact⟨rfl,rfl⟩))
  (fun os started H enc _=>RfP.lifted os started H enc)
theorem refactor_holds:Rows.FnExactRefactorCardSaid:=
 Claim7.holds_tied_plain_at .later [] [.data,.data,.data,.data,.sentinel,.sentinel,.pinned] true Rows.fnExactRefactorCard.stood.harness true
  zMs (fun _ h=>by cases h) Jk (fun _ h=>by cases h) fnExactRefactor_row_tie rfl ⟨rfl,rfl⟩ Jk rfl
  (fun f fn hf k=>by
   obtain rfl:f=3:=Option.some.inj ((Jk:prog.funcNamed "loop.example/s0059/laws.FnExactRefactor" = some 3).symm.trans hf) |>.symm
   obtain rfl:fn=Tryz.f3:=(Option.some.inj (Tryz.func3.symm.trans k)).symm
   exact⟨Jk,fun j t ht=>by
    rw[Tryz.params3] at ht
    have hm:t∈[22,26]:=Ju (Array.mem_of_getElem? ht)
    have H:([22,26].all fun u=>!prog.wantsStandIn u)=true:=Jk
    exact(by simpa using List.all_eq_true.1 H t hm:prog.wantsStandIn t=false)⟩)
  Jk
#print axioms refactor_holds
end Go.Proofs.YtadiaghhackbjaaGreatDoor
