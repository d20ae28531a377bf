import Derived.Test.YtadiaghhackbjaaGreatDoorU13
import Derived.Test.YtadiaghhackbjaaGreatDoorU16
import Derived.Test.YtadiaghhackbjaaGreatDoorU17
import Derived.Test.YtadiaghhackbjaaGreatDoorU24
namespace Go.Proofs.YtadiaghhackbjaaGreatDoor
set_option linter.all false
set_option maxHeartbeats 0
set_option maxRecDepth 100000
open Proofs.Tryz RowKit
open Go.Deep (BT)
variable{B C P bs cm i n:Nat}{U:List UnR}{am:Option Addr}{bh:Bool}{ns:List OpR}{us:List ByteArray}{v v1:Value}{vs:List UvR}{w w':World}
def zE6(ns:List OpR):ET->Prop
 |.nil=>False
 |.node b o t l r=>o=0/\(((b=1\/b=2)/\l=.nil/\r=.nil)\/(b=6/\t=ByteArray.empty/\zE6 ns l/\r=.nil)\/((b=3\/b=5)/\knB ns (b,t)=true/\zE6 ns l/\r=.nil)\/(b=4/\knB ns (b,t)=true/\zE6 ns l/\zE6 ns r))
theorem zn.well{ns:List OpR}:∀{T:ET},zn ns T->zE6 ns T
 |.nil,h=>h
 |.node b o t l r,⟨h0,h⟩=>by
  refine⟨h0,?_⟩;rcases h with h|⟨h1,h2,hl,h3⟩|⟨h1,h2,hl,h3,_⟩|⟨h1,h2,hl,hr,_⟩
  ·exact yS h
  ·exact yU (yS ⟨h1,h2,hl.well,h3⟩)
  ·exact yU (yU (yS ⟨h1,h2,hl.well,h3⟩))
  ·exact yU (yU (yU ⟨h1,h2,hl.well,hr.well⟩))
theorem zE6.sh{ns:List OpR}:∀{T:ET},zE6 ns T->Sh T
 |.nil,h=>h.elim
 |.node b o t l r,⟨h0,h⟩=>by
  refine⟨h0,?_⟩;rcases h with⟨h|h,rfl,rfl⟩|⟨rfl,_,hl,rfl⟩|⟨h|h,_,hl,rfl⟩|⟨rfl,_,hl,hr⟩
  ·subst h;exact yS ⟨Jd,rfl,rfl⟩
  ·subst h;exact yS ⟨Jd,rfl,rfl⟩
  ·exact yU (yS ⟨Jd,hl.sh,rfl⟩)
  ·subst h;exact yU (yS ⟨Jd,hl.sh,rfl⟩)
  ·subst h;exact yU (yS ⟨Jd,hl.sh,rfl⟩)
  ·exact yU (yU ⟨Jd,hl.sh,hr.sh⟩)
theorem zMU{b:Nat}{t:JZ}(h:knB ns (b,t)=true):(opA ns (rt b t)).s=t:=by
 obtain⟨j,hj,hf,hk,ho⟩:=zNh h;rw[ho];exact(zAg hf).2.1
theorem zRM{xs:List zD}(K:∀i,i<xs.length->zA6 (atN xs i))(k:zCt ns xs):∀(T:ET)(s:Nat),Sh T->zGX xs T s->s+tsz T<=xs.length->zE6 ns T:=by
 intro T;induction T with
 |nil=>intro s h;exact h.elim
 |node b o t l r ihl ihr=>
  rintro s ⟨h0,hsh⟩ ⟨h1,h2,h3⟩ hz;simp only[tsz] at hz;have hi:s+tsz l+tsz r<xs.length:=Jo;have ht:=K _ hi;have hk:=k _ hi;rw[h3] at ht hk;have H:Zh (tN b t l r s)->knB ns (b,t)=true:=fun q=>by
   have:=hk q;unfold knB;cases e:fnd ns t ((b:Int)-2) with
   |none=>exact yR e this
   |some j=>rfl
  refine⟨h0,?_⟩;rcases ht.2 with⟨e,_⟩|⟨e,_⟩|⟨e,e2⟩|⟨e,_⟩
  ·have e':b=1:=by simp only[tN] at e;omega
   subst e';rcases hsh with⟨_,hl,hr⟩|⟨hk,_⟩|⟨hk,_⟩
   ·exact yS ⟨yS rfl,hl,hr⟩
   ·exact yR hk Jd
   ·exact yR hk Jd
  ·have e':b=2:=by simp only[tN] at e;omega
   subst e';rcases hsh with⟨_,hl,hr⟩|⟨hk,_⟩|⟨hk,_⟩
   ·exact yS ⟨yU rfl,hl,hr⟩
   ·exact yR hk Jd
   ·exact yR hk Jd
  ·have e':b=6:=by simp only[tN] at e;omega
   subst e';rcases hsh with⟨hk,_⟩|⟨_,hl,hr⟩|⟨hk,_⟩
   ·exact yR hk Jd
   ·subst hr;refine yU (yS ⟨rfl,?_,ihl s hl h1 Jo,rfl⟩);have:t.size=0:=e2;exact ByteArray.size_eq_zero_iff.1 this
   ·exact yR hk Jd
  ·rcases e with e|e|e
   ·have e':b=3:=by simp only[tN] at e;omega
    subst e';rcases hsh with⟨hk,_⟩|⟨_,hl,hr⟩|⟨hk,_⟩
    ·exact yR hk Jd
    ·subst hr;exact yU (yU (yS ⟨yS rfl,H ⟨by simp[tN],by simp[tN]⟩,ihl s hl h1 Jo,rfl⟩))
    ·exact yR hk Jd
   ·have e':b=4:=by simp only[tN] at e;omega
    subst e';rcases hsh with⟨hk,_⟩|⟨hk,_⟩|⟨_,hl,hr⟩
    ·exact yR hk Jd
    ·exact yR hk Jd
    ·exact yU (yU (yU ⟨rfl,H ⟨by simp[tN],by simp[tN]⟩,ihl s hl h1 Jo,ihr _ hr h2 Jo⟩))
   ·have e':b=5:=by simp only[tN] at e;omega
    subst e';rcases hsh with⟨hk,_⟩|⟨_,hl,hr⟩|⟨hk,_⟩
    ·exact yR hk Jd
    ·subst hr;exact yU (yU (yS ⟨yU rfl,H ⟨by simp[tN],by simp[tN]⟩,ihl s hl h1 Jo,rfl⟩))
    ·exact yR hk Jd
theorem zOD{xs:List zD}(h:Zk xs)(H:zCt ns xs):∃T,zE6 ns T/\tsz T=xs.length/\xs=nd T 0:=by
 obtain⟨T,hs,hz,hx⟩:=zNe h;refine⟨T,zRM h.2.2.2 H T 0 hs (by rw[hx];exact zFw T) Jo,hz,hx⟩
theorem zTO(hv:zO ns 0):∀(T:ET)(l:Int),zE6 ns T->l<=1001->zn ns (grT ns T l)/\l<=lvT ns (grT ns T l):=by
 intro T;induction T with
 |nil=>intro l h;exact h.elim
 |node b o t l r ihl ihr=>
  rintro H ⟨h0,h⟩ hle;simp only[grT];split
  ·rename_i h6;subst h6;rcases h with⟨h|h,_⟩|⟨_,_,hl,_⟩|⟨h|h,_⟩|⟨h,_⟩
   ·omega
   ·omega
   ·exact ihl _ hl hle
   ·omega
   ·omega
   ·omega
  ·rename_i h6;have:zn ns (.node b 0 t (grT ns l (zh ns (rt b t) false)) (grT ns r (zh ns (rt b t) true))):=by
    refine⟨rfl,?_⟩;rcases h with⟨h,rfl,rfl⟩|⟨h,_⟩|⟨h,hk,hl,rfl⟩|⟨h,hk,hl,hr⟩
    ·exact yS ⟨h,rfl,rfl⟩
    ·exact yR h h6
    ·have f:=opF hv (s:=(b,t)) Jo hk;have f1:=f.hi;have f2:=f.pre;have f3:=f.post;have hh:zh ns (rt b t) false<=1001:=by
      show sH ns (b,t) false<=1001;rcases h with h|h
      ·have:=f2 h;omega
      ·have:=f3 h;omega
     obtain⟨g,hg⟩:=ihl _ hl hh;exact yU (yU (yS ⟨h,hk,g,rfl,hg⟩))
    ·have f:=opF hv (s:=(b,t)) Jo hk;have f1:=f.hi;have f2:=f.mid h;have hh:zh ns (rt b t) false<=1001:=by show sH ns (b,t) false<=1001;omega
     have k:zh ns (rt b t) true<=1001:=by show sH ns (b,t) true<=1001;omega
     obtain⟨g,hg⟩:=ihl _ hl hh;obtain⟨g2,K⟩:=ihr _ hr k;exact yU (yU (yU ⟨h,hk,g,g2,hg,K⟩))
   unfold clT;split
   ·refine⟨⟨rfl,yU (yS ⟨rfl,rfl,this,rfl⟩)⟩,?_⟩;simp only[lvT];rw[zBX ns 6 _ (by omega)];exact hle
   ·rename_i hn;refine⟨this,?_⟩;simp only[lvT];show H<=zAN ns (rt b t);omega
open Go.Maps
structure Ft(w:JY)(p bo bs:Nat)(bh:Bool)(op:Nat):Prop where
 c0:w.cell? (Qa p 0)=some (.map (some bo))
 c1:w.cell? (Qa p 1)=some (.map (some bs))
 c2:w.cell? (Qa p 2)=some (.bool bh)
 c3:w.cell? (Qa p 3)=some (Qi op)
 fz:∀o,w.frozen? (Qa p o)=false
theorem zJ2(bo bs n:Nat)(xs:List OpR)(t:JZ)(kd:Int)(w:JY)(hi:Idx w bo bs xs n)(hn:n=xs.length)(ht:t.size<=maxLen)(hk:(Lit.int .i64 kd).wf=true):Calls prog 175 #[.agg #[.map (some bo),.map (some bs)],.string t,.int .i64 kd] w fun e w'=>e=.returned (.bool (ZF xs t kd))/\Below w.heap.size w w':=by
 subst hn;obtain⟨⟨D,H,hD⟩,_,_⟩:=hi;go_call zDn bo bs xs.length D t kd w H ht hk as e w' ⟨rfl,hb⟩;refine⟨?_,hb⟩;have h:=(hD t kd ht hk).1;have:Maps.has D (klO t kd)=ZF xs t kd:=by
  rw[Bool.eq_iff_iff,h,Zl];rfl
 rw[this]
theorem Ft.kept{p bo op:Nat}(h:Ft w p bo bs bh op)(hb:Qb w w'):Ft w' p bo bs bh op:=by
 have hp:p<w.heap.size:=block_lt_of_cell h.c0;have e:=fun o=>hb.cell (p:=Qa p o) hp
 exact⟨(e _).trans h.c0,(e _).trans h.c1,(e _).trans h.c2,(e _).trans h.c3,fun o=>(hb.frozen (p:=Qa p o) hp).trans (h.fz o)⟩
theorem Ft.set2{p bo op:Nat}(h:Ft w p bo bs bh op)(b':Bool):Ft (w.setCell ⟨p,2,none⟩ (.bool b')) p bo bs b' op:=
 ⟨(yj _ _ _ _ Js).trans h.c0,(yj _ _ _ _ Js).trans h.c1,yt _ _ _ h.c2,(yj _ _ _ _ Js).trans h.c3,fun o=>(yv _ _ _ _).trans (h.fz o)⟩
theorem Ft.set3{p bo op:Nat}(h:Ft w p bo bs bh op)(op':Nat)(n:Int)(hn:n=(op':Int)):Ft (w.setCell ⟨p,3,none⟩ (Qi n)) p bo bs bh op':=by
 subst hn;exact⟨(yj _ _ _ _ Js).trans h.c0,(yj _ _ _ _ Js).trans h.c1,(yj _ _ _ _ Js).trans h.c2,yt _ _ _ h.c3,fun o=>(yv _ _ _ _).trans (h.fz o)⟩
theorem zEU(w:JY)(p o:Nat)(v:Value):zJ w (w.setCell (Qa p o) v) p:=zBH [v] o w
def zMV(xs:List OpR)(t:zU)(bh:Bool)(op:Nat)(role:Int)(w w':JY)(p bo bs:Nat):Prop:=
 (0<=role->Ft w' p bo bs (zDP xs t bh) (zC3 t op))/\zJ w w' p
theorem zJ3(p bo bs op:Nat)(last:Bool)(xs:List OpR)(t:zU)(w:JY)(h:Ft w p bo bs false op)(hi:Idx w bo bs xs xs.length)(ht:t.t.size<=maxLen)(x:op<=1048576):Calls prog 205 #[Qp p,.agg #[Qi t.k,Qs t.g,Qs t.t]] w fun e w'=>e=.returned (Qi (ZP xs last t false op))/\zMV xs t false op (ZP xs last t false op) w w' p bo bs:=by
 have HI:=zB (hi.kept (zC w (.cells #[Qi t.k,Qs t.g,Qs t.t] 135)));have HF:=zB h;clear hi;obtain⟨c0,c1,c2,c3,fz⟩:=h;have f2:=fz 2;have f3:=fz 3;have hp:p<w.heap.size:=block_lt_of_cell c0;have hk:t.k=1\/t.k=2\/t.k=4\/t.k=3\/(t.k≠1/\t.k≠2/\t.k≠4/\t.k≠3):=Jo;rcases hk with hk|hk|hk|hk|hk
 ·have H:=zB hk;have g1:(t.k==1)=true:=Jq;have g2:(t.k==2)=false:=Jq;have g4:(t.k==4)=false:=Jq;have g3:(t.k==3)=false:=Jq;clear hk;go_enter func205,ntmps205;go_wp2_with fail;go_ret;refine⟨zF (by simp[ZP,zA H]),fun _=>?_,(zEU w p 2 _).trans (zJ.of_below (zC _ _))⟩;rw[(by simp[zDP,zA H]:zDP xs t false=true),(by simp[zC3,zA H]:zC3 t op=op)];exact(HF.set2 true).kept (zC _ _)
 ·have H:=zB hk;have g1:(t.k==1)=false:=Jq;have g2:(t.k==2)=true:=Jq;have g4:(t.k==4)=false:=Jq;have g3:(t.k==3)=false:=Jq;clear hk;go_enter func205,ntmps205;go_wp2_with fail;go_ret;refine⟨zF (by simp[ZP,zA H]),fun _=>?_,(zEU w p 2 _).trans (zJ.of_below (zC _ _))⟩;rw[(by simp[zDP,zA H]:zDP xs t false=true),(by simp[zC3,zA H]:zC3 t op=op)];exact(HF.set2 true).kept (zC _ _)
 ·have H:=zB hk;have g1:(t.k==1)=false:=Jq;have g2:(t.k==2)=false:=Jq;have g4:(t.k==4)=true:=Jq;have g3:(t.k==3)=false:=Jq;clear hk;go_enter func205,ntmps205;go_wp2_with fail;go_ret;refine⟨zF (by simp[ZP,zA H]),fun _=>?_,(zEU w p 3 _).trans (zJ.of_below (zC _ _))⟩;rw[(by simp[zDP,zA H]:zDP xs t false=false),(by simp[zC3,zA H]:zC3 t op=op+1)];exact(HF.set3 (op+1) _ Jo).kept (zC _ _)
 ·have H:=zB hk;have g1:(t.k==1)=false:=Jq;have g2:(t.k==2)=false:=Jq;have g4:(t.k==4)=false:=Jq;have g3:(t.k==3)=true:=Jq;clear hk;have d0:=Jc (zC w (.cells #[Qi t.k,Qs t.g,Qs t.t] 135)) hp c0;have d1:=Jc (zC w (.cells #[Qi t.k,Qs t.g,Qs t.t] 135)) hp c1;have e2:(w.alloc (.cells #[Qi t.k,Qs t.g,Qs t.t] 135)).cell? (Qa w.heap.size 2)=some (Qs t.t):=Jg;have hz:p<(w.alloc (.cells #[Qi t.k,Qs t.g,Qs t.t] 135)).heap.size:=Jq;have q:w.heap.size<(w.alloc (.cells #[Qi t.k,Qs t.g,Qs t.t] 135)).heap.size:=Js;go_enter func205,ntmps205;go_wp2_with fail;go_region_held (fun w'=>w'.cell? (Qa p 0)=some (.map (some bo))/\w'.cell? (Qa p 1)=some (.map (some bs))/\w'.cell? (Qa w.heap.size 2)=some (Qs t.t)) (go_keep) (first|(go_at_call 175;refine(zJ2 bo bs xs.length xs t.t 1 _ (HI.kept (yJ _ _).drew) rfl ht Jd).mono ?_;rintro e w2 ⟨rfl,hb2⟩;have q0:=(hb2.cell (p:=Qa p 0) hz).trans (show(w.alloc (.cells #[Qi t.k,Qs t.g,Qs t.t] 135)).drew.cell? (Qa p 0)=_ from d0);have q1:=(hb2.cell (p:=Qa p 1) hz).trans (show(w.alloc (.cells #[Qi t.k,Qs t.g,Qs t.t] 135)).drew.cell? (Qa p 1)=_ from d1);have q2:=(hb2.cell (p:=Qa w.heap.size 2) q).trans (show(w.alloc (.cells #[Qi t.k,Qs t.g,Qs t.t] 135)).drew.cell? (Qa w.heap.size 2)=_ from e2);have Q:=zB hb2;clear hb2));have K:Qb w w2:=(zC w (.cells #[Qi t.k,Qs t.g,Qs t.t] 135)).trans (((yJ _ _).drew.trans Q).mono (Nat.le_of_lt q));cases hh:ZF xs t.t 1
  ·have HH:=zB hh;go_wp2_with fail;go_ret;have hr:ZP xs last t false op = -1:=by simp[ZP,zA H,zA HH]
   exact⟨zF hr.symm,fun h0=>yR h0 (by rw[hr];decide),zJ.of_below K⟩
  ·have HH:=zB hh;go_wp2_with fail;go_ret;refine⟨zF (by simp[ZP,zA H,zA HH]),fun _=>?_,zJ.of_below K⟩;rw[(by simp[zDP,zA H]:zDP xs t false=false),(by simp[zC3,zA H]:zC3 t op=op)];exact HF.kept K
 ·have H:=zB hk;have g1:(t.k==1)=false:=Jq;have g2:(t.k==2)=false:=Jq;have g4:(t.k==4)=false:=Jq;have g3:(t.k==3)=false:=Jq;clear hk;go_enter func205,ntmps205;go_wp2_with fail;go_ret;have hr:ZP xs last t false op = -1:=by have:=zA H;simp[ZP,this]
  exact⟨zF hr.symm,fun h0=>yR h0 (by rw[hr];decide),zJ.of_below (zC _ _)⟩
def zJ4(xs:List OpR)(s:JZ):Int:=if ZF xs s 2=true then 2 else if ZF xs s 3=true then 3 else -1
theorem zPT(p bo bs op:Nat)(xs:List OpR)(s:JZ)(w:JY)(h:Ft w p bo bs true op)(hi:Idx w bo bs xs xs.length)(ht:s.size<=maxLen):Calls prog 225 #[Qp p,Qs s] w fun e w'=>e=.returned (Qi (zJ4 xs s))/\Hid (Ft w' p bo bs (!ZF xs s 2) op)/\Hid (zJ w w' p):=by
 have HI:=zB hi;have HF:=zB h;clear hi;obtain⟨c0,c1,c2,c3,fz⟩:=h;have hp:p<w.heap.size:=block_lt_of_cell c0;go_enter func225,ntmps225;go_wp2_with fail;go_call zJ2 bo bs xs.length xs s 2 _ HI rfl ht Jd as e w1 ⟨rfl,hb1⟩;have H:=zB (HF.kept hb1);have x:=zB (HI.kept hb1);have q:=zB hb1;have d0:=H.c0;have d1:=H.c1;have d2:=H.c2;have g2:=H.fz 2;clear hb1 HF HI;cases hh:ZF xs s 2
 ·have HH:=zB hh;go_wp2_with fail;go_call zJ2 bo bs xs.length xs s 3 _ x rfl ht Jd as e w2 ⟨rfl,hb2⟩;have Q:=zB (H.kept hb2);have k:=q.trans (hb2.mono q.size);cases hh3:ZF xs s 3
  ·have K:=zB hh3;go_wp2_with fail;go_ret;exact⟨zF (by simp[zJ4,zA HH,zA K]),by simpa[zA HH] using Q,zB (zJ.of_below k)⟩
  ·have K:=zB hh3;go_wp2_with fail;go_ret;exact⟨zF (by simp[zJ4,zA HH,zA K]),by simpa[zA HH] using Q,zB (zJ.of_below k)⟩
 ·have HH:=zB hh;go_wp2_with fail;go_ret;exact⟨zF (by simp[zJ4,zA HH]),zB (by rw[zA HH];exact H.set2 false),zB ((zJ.of_below q).trans (zEU _ p 2 _))⟩
theorem zJ5(p bo bs op:Nat)(last:Bool)(xs:List OpR)(t:zU)(w:JY)(h:Ft w p bo bs true op)(hi:Idx w bo bs xs xs.length)(ht:t.t.size<=maxLen)(q:op<=1048576):Calls prog 204 #[Qp p,.agg #[Qi t.k,Qs t.g,Qs t.t],.bool last] w fun e w'=>e=.returned (Qi (ZP xs last t true op))/\zMV xs t true op (ZP xs last t true op) w w' p bo bs:=by
 have HI:=zB (hi.kept (zC w (.cells #[Qi t.k,Qs t.g,Qs t.t] 135)));have HF:=zB (h.kept (zC w (.cells #[Qi t.k,Qs t.g,Qs t.t] 135)));clear hi;have hp:p<w.heap.size:=block_lt_of_cell h.c0;have d0:=HF.c0;have d3:=HF.c3;have g3:=HF.fz 3;have x:=h.c3;have Q:=h.fz 3;have H0:=zB h;clear h;have hk:t.k=3\/t.k=5\/t.k=7\/(t.k≠3/\t.k≠5/\t.k≠7):=Jo;rcases hk with hk|hk|hk|hk
 ·have H:=zB hk;have k3:(t.k==3)=true:=Jq;clear hk;go_enter func204,ntmps204;go_wp2_with fail;go_call zPT p bo bs op xs t.t _ HF HI ht as e w1 ⟨rfl,hf1,hk1⟩;go_wp2_with fail;go_ret;refine⟨zF (by simp[ZP,zJ4,zA H]),fun _=>?_,(zJ.of_below (zC _ _)).trans hk1⟩;rw[(by cases hb:ZF xs t.t 2<;>simp[zDP,zA H,hb]:zDP xs t true=(!ZF xs t.t 2)),(by simp[zC3,zA H]:zC3 t op=op)];exact hf1
 ·have H:=zB hk;have k3:(t.k==3)=false:=Jq;have k5:(t.k==5)=true:=Jq;clear hk;by_cases ho:0<op
  ·have HO:=zB ho;have K:(0:Int)<(op:Int):=Jo;go_enter func204,ntmps204;go_wp2_with fail;go_ret;refine⟨zF (by simp[ZP,zA H,zA HO]),fun _=>?_,?_⟩
   ·rw[(by simp[zDP,zA H]:zDP xs t true=true),(by simp[zC3,zA H]:zC3 t op=op-1)]
    first
     |exact(H0.set3 (op-1) _ Jo).kept (zC _ _)
     |exact HF.set3 (op-1) _ Jo
   ·first
     |exact(zEU w p 3 _).trans (zJ.of_below (zC _ _))
     |exact(zJ.of_below (zC _ _)).trans (zEU _ p 3 _)
  ·have HO:=zB ho;have K:¬ (0:Int)<(op:Int):=Jo;go_enter func204,ntmps204;go_wp2_with fail;go_ret;have hr:ZP xs last t true op = -1:=by simp[ZP,zA H,zA HO]
   exact⟨zF hr.symm,fun h0=>yR h0 (by rw[hr];decide),zJ.of_below (zC _ _)⟩
 ·have H:=zB hk;have k3:(t.k==3)=false:=Jq;have k5:(t.k==5)=false:=Jq;have k7:(t.k==7)=true:=Jq;clear hk;by_cases ho:op=0
  ·subst ho;cases last
   ·go_enter func204,ntmps204;go_wp2_with fail;go_ret;have hr:ZP xs false t true 0 = -1:=by simp[ZP,zA H]
    exact⟨zF hr.symm,fun h0=>yR h0 (by rw[hr];decide),zJ.of_below (zC _ _)⟩
   ·go_enter func204,ntmps204;go_wp2_with fail;go_ret;refine⟨zF (by simp[ZP,zA H]),fun _=>?_,zJ.of_below (zC _ _)⟩;rw[(by simp[zDP,zA H]:zDP xs t true=true),(by simp[zC3,zA H]:zC3 t 0=0)];exact HF
  ·have HO:=zB ho;have K:((op:Int)==0)=false:=Jq;go_enter func204,ntmps204;go_wp2_with fail;go_ret;have hr:ZP xs last t true op = -1:=by simp[ZP,zA H,zA HO]
   exact⟨zF hr.symm,fun h0=>yR h0 (by rw[hr];decide),zJ.of_below (zC _ _)⟩
 ·have H:=zB hk;have k3:(t.k==3)=false:=Jq;have k5:(t.k==5)=false:=Jq;have k7:(t.k==7)=false:=Jq;clear hk;go_enter func204,ntmps204;go_wp2_with fail;go_ret;have hr:ZP xs last t true op = -1:=by have:=zA H;simp[ZP,this]
  exact⟨zF hr.symm,fun h0=>yR h0 (by rw[hr];decide),zJ.of_below (zC _ _)⟩
theorem zTP(p bo bs op:Nat)(bh last:Bool)(xs:List OpR)(t:zU)(w:JY)(h:Ft w p bo bs bh op)(hi:Idx w bo bs xs xs.length)(ht:t.t.size<=maxLen)(q:op<=1048576):Calls prog 182 #[Qp p,.agg #[Qi t.k,Qs t.g,Qs t.t],.bool last] w fun e w'=>e=.returned (Qi (ZP xs last t bh op))/\zMV xs t bh op (ZP xs last t bh op) w w' p bo bs:=by
 have HI:=zB (hi.kept (zC w (.cells #[Qi t.k,Qs t.g,Qs t.t] 135)));have HF:=zB (h.kept (zC w (.cells #[Qi t.k,Qs t.g,Qs t.t] 135)));have hp:p<w.heap.size:=block_lt_of_cell h.c0;have d2:=HF.c2;clear hi h;cases bh
 ·go_enter func182,ntmps182;go_wp2_with fail;go_call zJ3 p bo bs op last xs t _ HF HI ht q as e w1 ⟨rfl,hs1,hk1⟩;have K:=zB hs1;have H:=zB hk1;clear hs1 hk1;go_wp2_with fail;go_ret;exact⟨rfl,K,(zJ.of_below (zC _ _)).trans H⟩
 ·go_enter func182,ntmps182;go_wp2_with fail;go_call zJ5 p bo bs op last xs t _ HF HI ht q as e w1 ⟨rfl,hs1,hk1⟩;have K:=zB hs1;have H:=zB hk1;clear hs1 hk1;go_wp2_with fail;go_ret;exact⟨rfl,K,(zJ.of_below (zC _ _)).trans H⟩
theorem zMW:(prog.info? 3).map (fun i=>(i.zero,i.size,i.bytes))=some (some (Qi 0),1,8):=Jk
theorem zEV(w:JY)(v:Int):∀j u,(zk [v])[j]?=some u->(w.alloc (.cells #[Qi v] 3)).cell? ((Qa w.heap.size 0).add j)=some u:=by
 intro j u hj;rw[Addr.add_mid];have:=yC (w:=w.alloc (.cells #[Qi v] 3)) (b:=w.heap.size) (heap_alloc_new w _) 0 1;exact this j u (by simpa[zk] using hj)
theorem zQd(ts:List zU):∀k,zCn ts k<=k
 |0=>yk _
 |k+1=>by
  have:=zQd ts k;simp only[zCn,zC3];split
  ·omega
  ·split<;>omega
theorem zPU(xs:List OpR)(ts:List zU)(k:Nat):zZ xs ts k = -1\/0<=zZ xs ts k:=by
 unfold zZ ZP;(repeat' split)<;>omega
theorem zPV(bo bs b' A N:Nat)(xs:List OpR)(ts:List zU)(w:JY)(hm:ts.length<=1048576)(U:Idx w bo bs xs xs.length)(hc:zO xs 0)(hs:zDf w b' A ts)(m:zRq ts)(h3:b'<w.heap.size):Calls prog 140 #[.agg #[.map (some bo),.map (some bs)],.slice (some (Qa b' A)) ts.length N] w fun e w'=>(∃(a:Option Addr)(c:Nat)(us:List Int)(v:Int),e=.returned (.tuple #[.slice a us.length c,Qi v])/\zV9 w' w.heap.size a us/\zP5 xs (zO xs 0) ts us v)/\Qb w w':=by
 have HT:=zB hs;have hy:=zB m;have HC:=zB hc;have V:=zB U;clear hs m hc U;have ht:∀W:JY,(Instr.makeSlice 49 (Qi 0) (Qi (ts.length:Int))).run prog W=.ok (Ql W.heap.size 0 ts.length) (W.alloc (.cells (madeCells #[Qi 0] ts.length) 3)):=by
  obtain⟨inf,hi,hz⟩:=Option.map_eq_some_iff.1 zMW;simp only[Prod.mk.injEq] at hz;obtain⟨hz,hu,h4⟩:=hz;intro W;have:=run_make (P:=prog) W 49 3 inf _ underlying49 hi hz .i64 .i64 0 ts.length Jo Jo (by rw[h4];omega) Jo;simpa[hu,Value.cells] using this
 have hE:bo<w.heap.size:=by obtain⟨D,hD,_⟩:=V.ops;exact hD.lt
 have hB:bs<w.heap.size:=by obtain⟨D,hD,_⟩:=V.srts;exact hD.lt
 obtain⟨i0,hh,O,r,E⟩:=info_parts zMW;have hv:=zB hh;have I:=zB (yK O (yK r E));clear hh O r E;go_enter func140,ntmps140;go_wp2_with fail;clear ht;obtain⟨W0,y⟩:=Jx (((w.alloc (.cells #[.map (some bo),.map (some bs)] 161)).alloc (.cells #[.map (some bo),.map (some bs),.bool false,Qi 0] 253)).alloc (.cells (madeCells #[Qi 0] ts.length) 3));have hd:=zB (show Ft W0 (w.heap.size+1) bo bs false 0 by
  rw[y]
  refine⟨?_,?_,?_,?_,fun o=>?_⟩<;>simp[go_sem])
 have hn:=zB (show Idx W0 bo bs xs xs.length by
  rw[y]
  exact((V.kept (zC _ _)).kept (zC _ _)).kept (zC _ _))
 have M:=zB (show W0.ownsRow (w.heap.size+2) 3 1 (Ql (w.heap.size+1+1) 0 ts.length) 0 (zk []) by
  rw[y]
  have h0:=World.ownsRow_made (base:=w.heap.size+2) (e:=3) (size:=1) ((w.alloc (.cells #[.map (some bo),.map (some bs)] 161)).alloc (.cells #[.map (some bo),.map (some bs),.bool false,Qi 0] 253)) (madeCells #[Qi 0] ts.length) ts.length Js Jm (by rw[size_madeCells];omega)
  simpa[zk] using h0)
 have hp:=zB (show Qb w W0 by
  rw[y]
  exact((zC _ _).alloc Js _).alloc Jq _)
 rw[<-y];clear y V;go_loopw [7,19] (fun rv iv wr=>∃(k g c:Nat),k<=ts.length/\iv=Qi k/\rv = Ql g k c/\Hid (zCL xs ts k)/\Hid (Ft wr (w.heap.size+1) bo bs (zCm xs ts k) (zCn ts k))/\Hid (Idx wr bo bs xs xs.length)/\Hid (wr.ownsRow (w.heap.size+2) 3 1 (Ql g k c) k (zk (Zs xs ts k)))/\Hid (Qb w wr)/\Hid (k=ts.length->¬ (0<ts.length/\(atT ts (ts.length-1)).k=7))) (fun _ iv _=>ts.length-(intOf iv).toNat);case atStart=>exact⟨0,w.heap.size+1+1,ts.length,ym _,rfl,rfl,zB (fun i hi=>Jo),hd,hn,M,hp,zB (fun h=>Jo)⟩
 case round=>
  clear hd hn M hp;obtain⟨k,g,c,hk,rfl,rfl,x,F,R,Y,X,n⟩:=hrel;by_cases G:k<ts.length
  ·obtain⟨a0,a1,a2⟩:=((HT) k G).below X h3;have hA:=block_lt_of_cell F.c0;have T:=zB (F.kept (zC wr (.cells #[Qi (atT ts k).k,Qs (atT ts k).g,Qs (atT ts k).t] 135)));have B:=zB (R.kept (zC wr (.cells #[Qi (atT ts k).k,Qs (atT ts k).g,Qs (atT ts k).t] 135)));have hw:zCn ts k<=1048576:=by
    have:=zQd ts k;omega
   have hC:=Y.lt g rfl;have hx:(((k:Int)==(ts.length:Int)-1))=decide (k+1=ts.length):=by
    rw[Bool.eq_iff_iff];simp;omega
   go_wp2_with fail;go_call zTP (w.heap.size+1) bo bs (zCn ts k) (zCm xs ts k) (decide (k+1=ts.length)) xs (atT ts k) _ T B (hy k G).2 hw as e w2 ⟨rfl,hs2,hk2⟩;have HR:=zB (show ZP xs (decide (k+1=ts.length)) (atT ts k) (zCm xs ts k) (zCn ts k)=zZ xs ts k from rfl);rw[zA HR] at hs2 ⊢;have b:=zPU xs ts k;have zr:wr.heap.size<w2.heap.size:=Jz hk2.size
   have q0:w2.cell? (Qa wr.heap.size 0)=some (Qi (atT ts k).k):=by rw[hk2.cell Js Jo];simp[go_sem]
   have he:=zB (B.of_blocks (hk2.block bo Jq Jo) (hk2.block bs Jq Jo));have s:=zB (((Y.alloc (.cells #[Qi (atT ts k).k,Qs (atT ts k).g,Qs (atT ts k).t] 135))).kept (zv hk2) (yU (by simp[Value.ownBlock];omega)));have u:=zB ((X.alloc X.size (.cells #[Qi (atT ts k).k,Qs (atT ts k).g,Qs (atT ts k).t] 135)).trans (hk2.below (by have:=X.size;simp;omega) Jo));have L:=zB hs2;have E:=u.size;clear hs2 hk2 Y X B T R F;by_cases hr:zZ xs ts k = -1
   ·have h8:=zB hr;have h9:(zZ xs ts k == -1)=true:=Ju hr
    clear hr b;go_wp2_with fail;go_ret2;exact⟨⟨none,0,[],(k:Int),rfl,yS ⟨rfl,rfl⟩,yU ⟨HC,yS ⟨k,G,x,Jy (zA h8),rfl,rfl⟩⟩⟩,u⟩
   have h9:(zZ xs ts k == -1)=false:=Ju hr
   have Z:0<=zZ xs ts k:=Jo;have ha:Hid (Ft w2 (w.heap.size+1) bo bs (zCm xs ts (k+1)) (zCn ts (k+1))):=(zA L) Z;have l:=zB (show zCL xs ts (k+1) from fun i hi=>by
    by_cases e:i=k
    ·subst e;exact Z
    ·exact x i Jo)
   clear hr b L x;go_wp2_with (at_builtin;refine wpList_append_own _ rfl (.tmp 35) (.tmp 37) 49 rfl (w.heap.size+2) 3 i0 _ 1 8 underlying49 hv I.1 I.2.1 I.2.2 rfl Jd _ k (zk (Zs xs ts k)) rfl (s.alloc _) (Qa w2.heap.size 0) 1 1 (zk [zZ xs ts k]) rfl rfl (zEV w2 (zZ xs ts k)) (zBF _) ?b1 ?b2 ?b3 ?next);case b1=>exact Jm
   case b2=>omega
   case b3=>simp;omega
   case next=>
    intro v4 w4 K Q J;have p:Qb w w4:=(u.alloc Jo _).grown Q Jq (fun q hq=>by simp[Value.ownBlock] at hq;omega);have H:∀bb,bb<w2.heap.size->bb≠g->w4.heap[bb]?=w2.heap[bb]?:=fun bb h1 h2=>(Q.block bb Jq (by simp[Value.ownBlock];omega)).trans ((zC w2 _).block bb h1)
    have q4:w4.cell? (Qa wr.heap.size 0)=some (Qi (atT ts k).k):=(yu (H wr.heap.size zr Jo)).trans q0;have S:=zB (he.of_blocks (H bo Jo Jo) (H bs Jo Jo));have hj:w.heap.size+1<w2.heap.size:=Jo;have hb:=zB (show Ft w4 (w.heap.size+1) bo bs (zCm xs ts (k+1)) (zCn ts (k+1)) from by
     have e:=fun o=>yu (w:=w2) (a:=(Qa (w.heap.size+1) o)) (H (w.heap.size+1) hj Jo)
     have f:=fun o=>yD (w:=w2) (a:=(Qa (w.heap.size+1) o)) (H (w.heap.size+1) hj Jo)
     have h:=zA ha
     exact⟨(e _).trans h.c0,(e _).trans h.c1,(e _).trans h.c2,(e _).trans h.c3,fun o=>(f o).trans (h.fz o)⟩)
    obtain⟨g4,c4,rfl⟩:=ZC K (by simp[J]);rw[<-zAT,<-zGt] at K;have d:=zB K;have C:=zB p;clear K Q J H p s he ha u;by_cases hl:k+1=ts.length
    ·have h5:decide (k+1=ts.length)=true:=decide_eq_true hl;by_cases h7:(atT ts k).k=7
     ·have h6:((atT ts k).k==7)=true:=Ju h7
      have H7:=zB h7;have HL:=zB hl;clear h7 hl;go_wp2_with fail;go_ret2;have hl:=zA HL;have ho:=zA d;have j:(Zs xs ts (k+1)).length=k+1:=zAP _ _ _;rw[<-j] at ho;obtain⟨hg,hf⟩:=zEh (by rw[j] at ho ⊢;exact ho);refine⟨⟨some (Qa g4 0),c4,Zs xs ts (k+1),-1,by rw[j];first|rfl|(rw[hl];rfl),yU ⟨g4,rfl,Jo,hf⟩,yU ⟨zA HC,yU ⟨hl ▸ zA l,yS ⟨⟨Jo,?_⟩,by rw[hl],rfl⟩⟩⟩⟩,zA C⟩;rw[<-hl];exact H7
     ·have h6:((atT ts k).k==7)=false:=Ju h7
      have HE:=zB (show k+1=ts.length->¬ (0<ts.length/\(atT ts (ts.length-1)).k=7) from fun e=>by
       rw[<-e]
       exact fun h=>h7 h.2)
      have HL:=zB hl;clear hl;go_wp2_with fail;have hl:=zA HL;exact⟨⟨k+1,g4,c4,Jo,Jn,by first|rfl|(rw[hl]),l,hb,S,d,C,HE⟩,Ji⟩
    ·have h5:decide (k+1=ts.length)=false:=decide_eq_false hl;have HE:Hid (k+1=ts.length->¬ (0<ts.length/\(atT ts (ts.length-1)).k=7)):=fun e=>yR e hl
     go_wp2_with fail;exact⟨⟨k+1,g4,c4,Jo,Jn,rfl,l,hb,S,d,C,HE⟩,Ji⟩
  ·have HX:=zB (Jo:k=ts.length);go_wp2_with fail;go_ret2;have e:=zA HX;subst e;exact⟨⟨none,0,[],(ts.length:Int),rfl,yS ⟨rfl,rfl⟩,yU ⟨HC,yU ⟨x,yU ⟨n rfl,rfl,rfl⟩⟩⟩⟩,X⟩
def hL:ET->List Int
 |.nil=>[]
 |.node _ _ _ l r=>hL l++hL r++[((1+max (hT l) (hT r):Nat):Int)]
theorem zGc:∀T:ET,(hL T).length=tsz T
 |.nil=>rfl
 |.node _ _ _ l r=>by simp[hL,tsz,zGc l,zGc r];omega
theorem zHN{a b:List Int}(h:i<a.length):atI (a++b) i=atI a i:=by
 simp[atI,List.getD,List.getElem?_append,h]
theorem zHO{a b:List Int}(h:a.length<=i):atI (a++b) i=atI b (i-a.length):=by
 simp[atI,List.getD,List.getElem?_append_right h]
theorem zOE{a b:List zD}(h:i<a.length):atN (a++b) i=atN a i:=by
 simp[atN,List.getD,List.getElem?_append,h]
theorem zOF{a b:List zD}(h:a.length<=i):atN (a++b) i=atN b (i-a.length):=by
 simp[atN,List.getD,List.getElem?_append_right h]
theorem zIy:∀{T:ET},Sh T->atI (hL T) (tsz T-1)=(hT T:Int)
 |.nil,h=>h.elim
 |.node b o t l r,_=>by
  have e:tsz (.node b o t l r:ET)-1=(hL l++hL r).length:=by simp[tsz,zGc]
  rw[e];simp only[hL,hT];rw[zHO (yk _)];simp[atI]
def zTQ(n:zD)(H:List Int)(s i:Nat):Prop:=
 (zY n.k=0/\atI H i=1)\/(zY n.k=1/\∃a,n.a=((s+a:Nat):Int)/\a<i/\atI H i=atI H a+1) \/
 (zY n.k=2/\∃a c,n.a=((s+a:Nat):Int)/\n.b=((s+c:Nat):Int)/\a<i/\c<i/\atI H i=max (atI H a) (atI H c)+1)
theorem zTR:∀(T:ET),Sh T->∀(s i:Nat),i<tsz T->zTQ (atN (nd T s) i) (hL T) s i
 |.nil,h,_,_,_=>h.elim
 |.node b o t l r,h,s,i,hi=>by
  simp only[tsz] at hi;have el:=zGc l;have er:=zGc r;have nl:=ZX l s;have nr:=ZX r (s+tsz l);by_cases h1:i<tsz l
  ·have H:Sh l:=by
    rcases h.2 with⟨_,rfl,_⟩|⟨_,hl,_⟩|⟨_,hl,_⟩
    ·simp[tsz] at h1
    ·exact hl
    ·exact hl
   have ih:=zTR l H s i h1;have en:atN (nd (.node b o t l r) s) i=atN (nd l s) i:=by
    simp only[nd];rw[yA,zOE Jo]
   have eH:∀k,k<tsz l->atI (hL (.node b o t l r)) k=atI (hL l) k:=fun k hk=>by
    simp only[hL];rw[yA,zHN Jo]
   unfold zTQ;rw[en];rcases ih with⟨k0,e⟩|⟨k1,a,e1,e2,e3⟩|⟨k2,a,c,e1,e2,e3,e4,e5⟩
   ·exact yS ⟨k0,by rw[eH i h1];exact e⟩
   ·exact yU (yS ⟨k1,a,e1,e2,by rw[eH i h1,eH a Jo];exact e3⟩)
   ·exact yU (yU ⟨k2,a,c,e1,e2,e3,e4,by rw[eH i h1,eH a Jo,eH c Jo];exact e5⟩)
  ·by_cases h2:i<tsz l+tsz r
   ·have K:Sh r:=by
     rcases h.2 with⟨_,rfl,rfl⟩|⟨_,hl,rfl⟩|⟨_,_,hr⟩
     ·simp[tsz] at h2
     ·simp[tsz] at h2;omega
     ·exact hr
    have ih:=zTR r K (s+tsz l) (i-tsz l) Jo;have en:atN (nd (.node b o t l r) s) i=atN (nd r (s+tsz l)) (i-tsz l):=by
     simp only[nd];rw[yA,zOF Jo,nl,zOE Jo]
    have eH:∀k,k<tsz r->atI (hL (.node b o t l r)) (tsz l+k)=atI (hL r) k:=fun k hk=>by
     simp only[hL];rw[yA,zHO Jo,el,zHN Jo];congr 1;omega
    have ei:i=tsz l+(i-tsz l):=Jo;unfold zTQ;rw[en];rcases ih with⟨k0,e⟩|⟨k1,a,e1,e2,e3⟩|⟨k2,a,c,e1,e2,e3,e4,e5⟩
    ·exact yS ⟨k0,by rw[ei,eH _ (by omega)];exact e⟩
    ·refine yU (yS ⟨k1,tsz l+a,by rw[e1];congr 1;omega,Jo,?_⟩);conv=>lhs;rw[ei]
     rw[eH _ (by omega),eH a (by omega)];exact e3
    ·refine yU (yU ⟨k2,tsz l+a,tsz l+c,by rw[e1];congr 1;omega,by rw[e2];congr 1;omega,Jo,Jo,?_⟩);conv=>lhs;rw[ei]
     rw[eH _ (by omega),eH a (by omega),eH c (by omega)];exact e5
   ·have ei:i=tsz l+tsz r:=Jo;have en:atN (nd (.node b o t l r) s) i=tN b t l r s:=by
     simp only[nd];rw[zOF Jq];have:i-(nd l s++nd r (s+tsz l)).length=0:=Jq;rw[this];rfl
    have eI:atI (hL (.node b o t l r)) i=((1+max (hT l) (hT r):Nat):Int):=by
     simp only[hL];rw[zHO Jq];have:i-(hL l++hL r).length=0:=Jq;rw[this];rfl
    unfold zTQ;rw[en,eI];rcases h.2 with⟨k0,rfl,rfl⟩|⟨k1,hl,rfl⟩|⟨k2,hl,hr⟩
    ·exact yS ⟨k0,rfl⟩
    ·have hp:=Sh.pos hl;refine yU (yS ⟨k1,tsz l-1,?_,Jo,?_⟩)
     ·simp only[tN,k1];rw[yP Jd];omega
     ·have e:atI (hL (.node b o t l .nil)) (tsz l-1)=(hT l:Int):=by
       simp only[hL];rw[yA,zHN Jo];exact zIy hl
      rw[e];simp only[hT];omega
    ·have hp:=Sh.pos hl;have q:=Sh.pos hr;refine yU (yU ⟨k2,tsz l-1,tsz l+tsz r-1,?_,?_,Jo,Jo,?_⟩)
     ·simp only[tN,k2];rw[yP Jd];omega
     ·simp only[tN,k2];rw[yQ trivial];omega
     ·have e:atI (hL (.node b o t l r)) (tsz l-1)=(hT l:Int):=by
       simp only[hL];rw[yA,zHN Jo];exact zIy hl
      have e2:atI (hL (.node b o t l r)) (tsz l+tsz r-1)=(hT r:Int):=by
       simp only[hL];rw[yA,zHO Jo,el,zHN Jo];have:tsz l+tsz r-1-tsz l=tsz r-1:=Jo;rw[this];exact zIy hr
      rw[e,e2];omega
theorem zTS:∀(T:ET)(x:Int),x∈hL T->0<=x/\x<=(tsz T:Int)
 |.nil,x,h=>by simp[hL] at h
 |.node b o t l r,x,h=>by
  simp only[hL,List.mem_append,List.mem_singleton] at h;simp only[tsz];rcases h with(h|h)|h
  ·have:=zTS l x h;omega
  ·have:=zTS r x h;omega
  ·have:=zNn l;have:=zNn r;subst h;omega
theorem zVM(T:ET)(h:i<tsz T):0<=atI (hL T) i/\atI (hL T) i<=(tsz T:Int):=by
 have hl:=zGc T;refine zTS T _ ?_;unfold atI;rw[yn,yr Jo];exact List.getElem_mem _
theorem Ze.mono{B':Nat}{ws:List JZ}(h:Ze w B v ws)(hb:B'<=B):Ze w B' v ws:=by
 obtain⟨h1,h2|⟨g,cap,H,hv,hg,h3⟩⟩:=h
 ·exact⟨h1,yS h2⟩
 ·exact⟨h1,yU ⟨g,cap,H,hv,yw hb hg,h3⟩⟩
theorem zLb(w:JY)(ps:List JZ)(k:Nat)(p:JZ)(h:ps[k]?=some p):(w.alloc (.cells (ps.map Value.string).toArray 9)).cell? (Qa w.heap.size k)=some (Qs p):=by
 have:=yC (w:=w.alloc (.cells (ps.map Value.string).toArray 9)) (b:=w.heap.size) (heap_alloc_new w _) 0 ps.length;have h2:=this k (Qs p) (by simp[List.getElem?_take,h,(jc.1 h).1];exact(jc.1 h).2);simpa using h2
theorem zIN(s:JZ)(w:JY)(hs:s.size<=20000)(hm:zD7 w):Calls prog 107 #[Qs s] w (zPz w s):=by
 obtain⟨i0,J,P,x,Y⟩:=zS zEd;have HI:=zB J;have HZ:=zB (yK P (yK x Y));clear J P x Y;go_enter func107,ntmps107;go_wp2_with (go_at_call 105;refine(zRK s hs w hm).mono ?_;rintro e w1 ⟨ps,HF,hpl,rfl,hw1⟩;have HC:Hid (∀k p,ps[k]?=some p->w1.cell? (Qa w.heap.size k)=some (Qs p)):=fun k p hk=>(by rw[hw1];exact zLb w ps k p hk);have U:=zB (show Qb w w1 from(by rw[hw1];exact zC _ _));have x:w.heap.size+1<=w1.heap.size:=(by rw[hw1];simp);clear hw1);go_loopw [3,9] (fun a i wr=>∃(k:Nat)(us:List JZ)(v:Value),k<=ps.length/\i=Qi k/\a=v/\us.length<=k/\Hid (us=zI2 (ps.take k))/\Hid (Ze wr w1.heap.size v us)/\Qb w1 wr) (fun _ i _=>ps.length-(intOf i).toNat);case atStart=>exact⟨0,[],_,ym _,rfl,rfl,ym _,zB rfl,zB (World.ownsRow_nil _ _ _ _),yJ _ _⟩
 case round=>
  obtain⟨k,us,v,hk,rfl,rfl,B,HU,HR,h⟩:=hrel;by_cases u:k<ps.length
  ·have A:(k:Int)<(ps.length:Int):=Jo;obtain⟨p,hp⟩:∃p,ps[k]?=some p:=⟨_,yr u⟩;have hc:wr.cell? (Qa w.heap.size k)=some (Qs p):=Jc h Jh (HC k p hp);have HT:=zB (zQo ps k p hp);by_cases h0:0<p.size
   ·have b:=zFt (t:=p) Jo;have X:=zB (by rw[zA HT,yQ h0,zA HU]:zI2 (ps.take (k+1))=us++[p]);clear hp HT h0;go_wp2_with (at_builtin;refine yL _ rfl (.tmp 15) (.tmp 17) 87 rfl w1.heap.size 9 i0 _ 1 16 underlying87 HI HZ.1 HZ.2.1 HZ.2.2 rfl Jd _ us.length (ZM us) rfl (HR.below (zC _ _)) (Qa wr.heap.size 0) 1 1 (ZM [p]) rfl rfl (Ju (zAz wr p)) (Z3 _) ?b1 ?b2 ?b3 ?next);case b1=>exact Jm
    case b2=>omega
    case b3=>have:=h.size;simp;omega
    case next=>
     intro v4 w4 K H y V;have HO:=zB (show Ze w4 w1.heap.size v4 (us++[p]) by
      unfold Ze
      rw[Zg,yq]
      exact K)
     have Q:Qb w1 w4:=(h.alloc h.size _).grown H (by have:=h.size;simp;omega) (fun q hq=>(HR.lt q hq).1);clear K H y V;go_wp2;exact⟨⟨k+1,us++[p],_,Jo,Jn,rfl,Jq,zB X.symm,HO,Q⟩,Ji⟩
   ·obtain rfl:=zFu (t:=p) Jo;have X:=zB (by rw[zA HT,yP h0,zA HU,List.append_nil]:zI2 (ps.take (k+1))=us);clear hp HT h0;go_wp2;exact⟨⟨k+1,us,_,Jo,Jn,rfl,Jo,zB X.symm,HR,h⟩,Ji⟩
  ·have j:k=ps.length:=Jo;have HE:=zB (by rw[zA HU,j,List.take_length,zA HF]:us=wds s);clear j;go_wp2;go_ret;have e:=zA HE;subst e;exact⟨_,rfl,HR.mono Jo,Jo,U.trans (h.mono Jo)⟩
def zTT:Value->Value->Nat
 |.string r,.bool true=>r.size+1
 |_,_=>0
theorem zVN{s:JZ}(h:20000<s.size):zy s [] [] ByteArray.empty 1 0:=yS ⟨h,rfl,rfl,rfl,rfl,rfl⟩
theorem zHs(s:JZ)(w:JY)(hs:s.size<=maxLen)(hm:zD7 w):Calls prog 127 #[Qs s] w (zGw w s):=by
 by_cases J:20000<s.size
 ·have hj:(20000:Int)<(s.size:Int):=Jo;have HP:=zB (fun w'=>zBU (w:=w) (w':=w') (zVN J));unfold maxLen at hs;clear J;go_enter func127,ntmps127;go_wp2;refine yN (v:=.tuple #[.agg #[.slice none 0 0,.slice none 0 0,Qs ⟨#[]⟩],Qi 1,Qi 0]) ?res rfl (HP _ ?_);case res=>simp[results,results127,go_sem]
  first
   |exact zC _ _
   |exact zM (yk _) [.slice none 0 0,.slice none 0 0,Qs ⟨#[]⟩] 0 _ (zC _ _)
 have hb:s.size<=20000:=Jo;have hj:¬ (20000:Int)<(s.size:Int):=Jo;have HM:=zB hm;have h7:=hm.lt;clear hm J hs;go_enter func127,ntmps127;go_wp2_with fail;obtain⟨W0,u⟩:=Jx ((w.alloc (.cells #[.slice none 0 0,.slice none 0 0,Qs ⟨#[]⟩] 89)).alloc (.cells #[.slice none 0 0,.slice none 0 0,Qs ⟨#[]⟩] 89));have hw:=zB (by rw[u];exact(zC _ _).alloc Js _:Qb w W0);have hi:w.heap.size+2<=W0.heap.size:=by rw[u];simp
 have hf:=zB (by rw[u];exact⟨Jg,Jg,Jg,fun o=>Jg⟩:zGx W0 w.heap.size);have hg:=zB (by rw[u];exact⟨Jg,Jg,Jg,fun o=>Jg,yk _,World.ownsRow_nil _ _ _ _,World.ownsRow_nil _ _ _ _,Jb,Jb,fun g e=>by cases e⟩:UnM W0 (w.heap.size+1) (w.heap.size+1) (.slice none 0 0) (.slice none 0 0) [] [] ⟨#[]⟩);rw[<-u];clear u;go_loopw [6,7,8] (fun rest more num wr=>∃(r:JZ)(m:Bool)(n:Nat),rest=Qs r/\more=.bool m/\num=Qi n/\n<=20002/\Below (w.heap.size+1) W0 wr/\((m=false/\Hid (zy s [] [] ByteArray.empty 3 0))\/(m=true/\∃(a:Nat)(us:List JZ)(os:List OpR)(vu vo:Value),a<=s.size/\n<=a+1/\us.length<=a/\os.length<=a/\Hid (r=s.extract a s.size)/\Hid (zFA s (pcs 10 s a) n us os)/\Hid (UnM wr (w.heap.size+1) (w.heap.size+1) vu vo us os ⟨#[]⟩)))) (fun rest more _ _=>zTT rest more);case atStart=>exact⟨s,true,1,rfl,rfl,rfl,Jo,yJ _ _,yU ⟨rfl,0,[],[],_,_,ym _,Jo,yk _,yk _,zB (zM5 s).symm,zB (zFA.start hb),hg⟩⟩
 case round=>
  clear hg;obtain⟨r,m,n,rfl,rfl,rfl,hn,P,j⟩:=hrel;have b:Hid (Qb w wr):=hw.trans (P.mono Jo);have hA:w.heap.size+2<=wr.heap.size:=yw hi P.size;obtain⟨y0,y1,y2,y3⟩:=hf.below P Jo;have G:=zB (HM.below b);rcases j with⟨rfl,HE⟩|⟨rfl,a,us,os,vu,vo,ha,h8,h6,h5,HR,HT,HU⟩
  ·have HP:=zB (fun w'=>zBU (w:=w) (w':=w') HE);have y30:=y3 0;have y31:=y3 1;have y32:=y3 2;go_wp2;refine yN (v:=.tuple #[.agg #[.slice none 0 0,.slice none 0 0,Qs ⟨#[]⟩],Qi 3,Qi 0]) ?res rfl (HP _ ?_);case res=>simp[results,results127,go_sem,y0,y1,y2]
   first
    |exact b
    |exact zM (yk _) [.slice none 0 0,.slice none 0 0,Qs ⟨#[]⟩] 0 _ b
  ·obtain⟨z,hz⟩:=Jx (nx 10 s a);obtain⟨g1,g2,g3,g4⟩:=zAc 10 s a ha;rw[<-hz] at g1 g2;have Q:=zAw 10 s a ha;rw[<-hz] at Q;obtain⟨t,ht⟩:=Jx (s.extract a z);have hq:t.size<=20000:=by rw[ht,Za];omega
   have V:=zB (zWh s r a HR ha hb wr G);rw[<-hz,<-ht] at V;have i:=zB (Q ▸ zA HT);have f:r.size=s.size-a:=by rw[zA HR,Za,Nat.min_self]
   have hy:=zB f;have B:=zB ht;obtain⟨mo,K⟩:=Jx (decide (z<s.size));rw[<-K] at V;have he:=zB K;have h9:=HU.lt;have h0:=zB y3;have y30:=y3 0;have y31:=y3 1;have y32:=y3 2;clear hz g3 g4 Q ht f HT K HM hf HR y3;go_wp2_with fail;go_call zA V as e w1 ⟨rfl,hb1⟩;have hu:=zB hb1;have z1:=hb1.size;have N:=zB (zIN t w1 hq (G.below hb1));clear hb1 V G;go_wp2_with fail;go_call zA N as e w2 ⟨v,rfl,hr2,hl2,hb2⟩;obtain⟨ws,C⟩:=Jx (wds t);rw[<-C] at hr2 hl2;have Y:=zB C;have d:=zB (hu.trans (hb2.mono z1));have z2:wr.heap.size<=w2.heap.size:=yw z1 hb2.size;have y:=zB (HU.below d);have D:=zB (b.trans (d.mono Jo));have S:Hid (Below (w.heap.size+1) W0 w2):=P.trans (d.mono Jo);have Q:=zB hr2.strs;have M:=zB (show ∀q,v.ownBlock=some q->q≠w.heap.size+1/\vu.ownBlock≠some q from fun q e=>by
    have:=(hr2.lt q e).1
    exact⟨Jo,fun e2=>Jy ((HU.ru.lt q e2).2)⟩)
   have F:=zB (show ∀x∈ws,x.size<=maxLen from fun x hx=>by
    have:=zGz (l:=t) (by rw[<-zA Y];exact hx)
    unfold maxLen
    omega)
   obtain⟨x0,x1,x2,x3⟩:zGx w2 w.heap.size:=zGx.below ⟨y0,y1,y2,fun o=>h0 o⟩ d Jo;have x30:=x3 0;have x31:=x3 1;have x32:=x3 2;have ho:ws.length<=20001:=Jo;by_cases h:ws=[zAK]
   ·have HI:Hid (zy s us os (zBa s z) 0 0):=i.begin (by show wds (s.extract a z)=_;rw[<-zA B,<-zA Y];exact h);obtain⟨gw,c,rfl,h1,hc⟩:=Q.lt (by rw[h];simp);have k0:w2.cell? (Qa gw 0)=some (Qs ⟨#[98,101,103,105,110]⟩):=hc 0 _ (by rw[h];rfl);have hd:ws.length=1:=by rw[h];rfl
    rw[hd];obtain⟨au,cu,rfl⟩:=zR y.ru;obtain⟨ao,co,rfl⟩:∃a c,vo=.slice a os.length c:=zR y.ro;have u0:=y.c0;have u1:=y.c1;have u2:=y.c2;have f2:=y.fz 2;obtain⟨ans,_⟩:=zGy (b':=zBa s z) Jo y D HI Jo Jo;have R:=zB ans;have e1:w.heap.size+1≠w.heap.size:=Jo;have e2:w.heap.size≠w.heap.size+1:=Jo;clear ans hc h C hr2 hl2 hb2 x3 Q M F N Y hd;go_wp2_with fail;refine yN (v:=.tuple #[.agg #[.slice au us.length cu,.slice ao os.length co,Qs (zBa s z)],Qi 0,Qi 0]) ?res rfl R;case res=>simp[results,results127,go_sem,x0,x1,x2,e1,e2,u0,u1,u2]
   ·have I:wds (s.extract a z)≠[zAK]:=by rw[<-zA B,<-zA Y];exact h
    have T:=zB (zRL (w.heap.size+1) (w.heap.size+1) vu vo v us os ⟨#[]⟩ ws w2 y Q F M Jo Jo ho);have A:=zB (fun(hl:∀us' os',¬ zBA ws us os us' os')=>i.bad I (by show ∀us' os',¬ zBA (wds (s.extract a z)) us os us' os';rw[<-zA B,<-zA Y];exact hl));have U:=zB (fun us' os' (hl:zBA ws us os us' os')=>i.next I (us':=us') (os':=os') (by show zBA (wds (s.extract a z)) us os us' os';rw[<-zA B,<-zA Y];exact hl));have L:((ws.length:Int)==1)=false\/(((ws.length:Int)==1)=true/\∃gw c k,v = Ql gw ws.length c/\w2.cell? (Qa gw 0)=some (Qs k)/\(k.toList==[98,101,103,105,110])=false):=by
     by_cases e:ws.length=1
     ·right;obtain⟨gw,c,hv,h1,hc⟩:=Q.lt Jo;match ws,e with
      |[k],_=>exact⟨rfl,gw,c,k,hv,hc 0 k rfl,zGS (fun ek=>h (by rw[ek];rfl))⟩
     ·left;simp;omega
    obtain⟨av,cv,hv⟩:=zR hr2;clear h I C hr2 hl2 hb2 x3 M F N Y Q;rcases L with O|⟨O,gw,c,k,hp,k0,hk⟩;all_goals
     first
      |(subst hp;clear hv;have h2:(0:Int)<(ws.length:Int):=(Jy (beq_iff_eq.1 O)))
      |subst hv
     go_wp2_with fail
     go_call zA T as e w3 ⟨ok,rfl,j,hb3⟩
     have E:=zB (D.trans (hb3.mono Jo))
     have Z:Hid (Below (w.heap.size+1) W0 w3):=S.trans hb3
     have q0:=Jc hb3 (Nat.lt_succ_self _) x0
     have q1:=Jc hb3 (Nat.lt_succ_self _) x1
     have q2:=Jc hb3 (Nat.lt_succ_self _) x2
     have q30:=(hb3.frozen (p:=Qa w.heap.size 0) (Nat.lt_succ_self _)).trans x30
     have q31:=(hb3.frozen (p:=Qa w.heap.size 1) (Nat.lt_succ_self _)).trans x31
     have q32:=(hb3.frozen (p:=Qa w.heap.size 2) (Nat.lt_succ_self _)).trans x32
     clear hb3 T
     rcases j with⟨rfl,us',os',vu',vo',H,W,h4,h3⟩|⟨rfl,H⟩
     ·have hh:=zB (U us' os' H)
      have hr:=zB W
      clear H W A U
      go_wp2_with fail
      refine⟨⟨zBa s z,mo,n+1,rfl,rfl,Jn,Jo,Z,?_⟩,?_⟩
      ·have K:=zA he
       by_cases X:z<s.size
       ·right
        refine⟨by rw[K];simpa using X,z+1,us',os',vu',vo',Jo,Jo,Jo,Jo,zB ?_,zB ?_,hr⟩
        ·unfold zBa;rw[yQ X]
        ·have:=zA hh;rw[yQ X] at this;exact this
       ·left
        refine⟨by rw[K];simpa using X,zB ?_⟩
        have:=zA hh
        rw[yP X] at this
        exact this.fin
      ·have K:=zA he
       have f:=zA hy
       by_cases X:z<s.size
       ·have:mo=true:=by rw[K];simpa using X
        subst this
        simp only[zTT]
        unfold zBa
        rw[yQ X,Za]
        omega
       ·have:mo=false:=by rw[K];simpa using X
        subst this
        simp only[zTT]
        omega
     ·have HI:=zB (A H)
      have HP:=zB (fun w'=>zBU (w:=w) (w':=w') HI)
      clear H A U
      go_wp2_with fail
      refine yN (v:=.tuple #[.agg #[.slice none 0 0,.slice none 0 0,Qs ⟨#[]⟩],Qi 2,Qi n]) ?res rfl (HP _ ?_)
      case res=>simp[results,results127,go_sem,q0,q1,q2]
      first
       |exact E
       |exact zM (yk _) [.slice none 0 0,.slice none 0 0,Qs ⟨#[]⟩] 0 _ E
def zTU(B:Nat)(vs:List UvR):Prop:=∀i,i<vs.length->(∀g,(atV vs i).vu.ownBlock=some g->B<=g)/\(∀g,(atV vs i).vo.ownBlock=some g->B<=g)
theorem zTU.step{x:UvR}(h:zTU B vs)(hu:∀g,x.vu.ownBlock=some g->B<=g)(ho:∀g,x.vo.ownBlock=some g->B<=g):zTU B (vs++[x]):=fun i hi=>by
 by_cases e:i<vs.length
 ·rw[zNW e];exact h i e
 ·have e1:i=vs.length:=by simp at hi;omega
  subst e1;rw[zNX];exact⟨hu,ho⟩
structure PgA(w:JY)(B P bs:Nat)(am:Option Addr)(cm n:Nat)(v1:Value)(vs:List UvR)(U:List UnR):Prop where
 hP:P<B
 hbs:bs<B
 hne:bs≠P
 c0:w.cell? (Qa P 0)=some (.slice am n cm)
 c1:w.cell? (Qa P 1)=some v1
 c2:w.cell? (Qa P 2)=some (.slice none 0 0)
 c3:w.cell? (Qa P 3)=some (.map none)
 c4:w.cell? (Qa P 4)=some (.map (some bs))
 fz:∀o,w.frozen? (Qa P o)=false
 row:zBt w B v1 vs
 uns:zIE w v1 vs U
 lo:zTU B vs
 sm:Zx w bs 0 (fun _=>none)
theorem PgA.lt(h:PgA w B P bs am cm n v1 vs U):P<w.heap.size:=World.block_lt_of_cell? _ _ h.c0
theorem PgA.step{w w1 w4:JY}{B P bs:Nat}{am:Option Addr}{cm n:Nat}{v1 v4:Value}{vs:List UvR}{U:List UnR}{x:UvR}{y:UnR}(h:PgA w B P bs am cm n v1 vs U)(hB:B<=w.heap.size)(hb:Qb w w1)(h1:ZO w1 x.vu y.us)(h2:ZS w1 x.vo y.os)(h3:x.b=y.b)(hu:∀g,x.vu.ownBlock=some g->w.heap.size<=g/\g<w1.heap.size)(ho:∀g,x.vo.ownBlock=some g->w.heap.size<=g/\g<w1.heap.size)(hg:w1.grownBy w4 v1.ownBlock)(hr:zBt w4 B v4 (vs++[x]))(Q:v4.ownBlock=v1.ownBlock\/∃k,v4.ownBlock=some k/\w1.heap.size<=k):PgA (w4.setCell (Qa P 1) v4) B P bs am cm n v4 (vs++[x]) (U++[y]):=by
 have X:=h.lt;have hz:=hb.size;have J:=hg.size;have j:=h.hP;have Y:=h.hbs;have H:∀g,v1.ownBlock=some g->B<=g/\g<w.heap.size:=h.row.lt;have nP:v1.ownBlock≠some P:=fun e=>Jy ((H P e).1)
 have nb:v1.ownBlock≠some bs:=fun e=>Jy ((H bs e).1)
 have kc:=fun q=>(zK hg (b:=P) Jo nP q).trans (hb.cell (p:=Qa P q) X)
 have kf:=fun q=>(ZW hg (b:=P) Jo nP q).trans (hb.frozen (p:=Qa P q) X)
 have n4:v4.ownBlock≠some P:=fun e=>by
  rcases Q with h|⟨k,h,hk⟩
  ·exact nP (h.symm.trans e)
  ·rw[h] at e;injection e with e;omega
 have hU:=h.uns.step hb (fun g e=>(H g e).2) h1 h2 h3 hu ho hg Q;have oth:∀(q:Nat),q≠1->(w4.setCell (Qa P 1) v4).cell? (Qa P q)=w.cell? (Qa P q):=fun q hq=>(yj _ _ _ _ (by first|(simp;omega)|(intro x;injection x with _ x;omega))).trans (kc q)
 have sg:=ZJ w4 P 1 v4;have K:=h.lo.step (x:=x) (fun g e=>Jy ((hu g e).1)) (fun g e=>Jy ((ho g e).1));refine⟨h.hP,h.hbs,h.hne,(oth 0 Jo).trans h.c0,yt _ _ _ ((kc 1).trans h.c1),(oth 2 Jo).trans h.c2,(oth 3 Jo).trans h.c3,(oth 4 Jo).trans h.c4,fun o=>(yv _ _ _ _).trans ((kf o).trans (h.fz o)),hr.grown sg (fun k e x=>n4 (e.trans x.symm)),⟨hU.1,fun i hi=>?_⟩,K,((h.sm.kept (zE hb none) Js).kept hg (fun e=>nb e.symm)).kept sg (fun e=>h.hne (by injection e))⟩;obtain⟨⟨q1,q2,q3⟩,q4,q5⟩:=hU.2 i hi;exact⟨⟨q1.grown sg (fun g e x=>by injection x with x;have:=(K i hi).1 g e;omega),q2.grown sg (fun g e x=>by injection x with x;have:=(K i hi).2 g e;omega),q3⟩,fun g e=>⟨(q4 g e).1,by simpa[World.setCell] using(q4 g e).2⟩,fun g e=>⟨(q5 g e).1,by simpa[World.setCell] using(q5 g e).2⟩⟩
theorem zCj{e s:Nat}{xs:List Value}(h:w.ownsRow B e s v n xs)(hs:∀g,v.ownBlock=some g->w'.heap[g]?=w.heap[g]?):w'.ownsRow B e s v n xs:=by
 obtain⟨a,h1|⟨g,cap,H,h1,h2,h3,h4⟩⟩:=h
 ·exact⟨a,yS h1⟩
 ·exact⟨a,yU ⟨g,cap,H,h1,h2,(hs g (by rw[h1];rfl)).trans h3,h4⟩⟩
theorem ZO.same(h:ZO w v us)(hz:w.heap.size<=w'.heap.size)(hs:∀g,v.ownBlock=some g->w'.heap[g]?=w.heap[g]?):ZO w' v us:=by
 obtain⟨a,c,rfl,h0|⟨g,rfl,hg,hc⟩⟩:=h
 ·exact⟨a,c,rfl,yS h0⟩
 ·exact⟨_,c,rfl,yU ⟨g,rfl,yl hg hz,fun j x hj=>(yu (hs g rfl)).trans (hc j x hj)⟩⟩
theorem ZS.same{us:List OpR}(h:ZS w v us)(hz:w.heap.size<=w'.heap.size)(hs:∀g,v.ownBlock=some g->w'.heap[g]?=w.heap[g]?):ZS w' v us:=by
 obtain⟨a,c,rfl,h0|⟨g,rfl,hg,hc⟩⟩:=h
 ·exact⟨a,c,rfl,yS h0⟩
 ·refine⟨_,c,rfl,yU ⟨g,rfl,yl hg hz,fun i hi=>?_⟩⟩;have hk:=fun q=>(yu (w:=w) (w':=w') (a:=Qa g q) (hs g rfl))
  obtain⟨h1,h2,h3,h4⟩:=hc i hi;exact⟨(hk _).trans h1,(hk _).trans h2,(hk _).trans h3,(hk _).trans h4⟩
structure PgC(w:JY)(B C P:Nat)(am:Option Addr)(cm n:Nat)(v1:Value)(vs:List UvR)(U:List UnR):Prop where
 c0:w.cell? (Qa P 0)=some (.slice am n cm)
 c1:w.cell? (Qa P 1)=some v1
 row:zBt w B v1 vs
 hv:∀g,v1.ownBlock=some g->g<C
 uns:zCu w C vs U
 lo:zTU B vs
 ln:vs.length<=n/\n<=vs.length
theorem PgC.lt(h:PgC w B C P am cm n v1 vs U):P<w.heap.size:=World.block_lt_of_cell? _ _ h.c0
theorem PgC.keep(h:PgC w B C P am cm n v1 vs U)(hz:w.heap.size<=w'.heap.size)(hs:∀i,B<=i->i<C->w'.heap[i]?=w.heap[i]?)(h0:w'.cell? (Qa P 0)=w.cell? (Qa P 0))(h1:w'.cell? (Qa P 1)=w.cell? (Qa P 1)):PgC w' B C P am cm n v1 vs U:=by
 refine⟨h0.trans h.c0,h1.trans h.c1,zCj h.row (fun g e=>hs g (h.row.lt g e).1 (h.hv g e)),h.hv,⟨h.uns.1,fun i hi=>?_⟩,h.lo,h.ln⟩;obtain⟨⟨q1,q2,q3⟩,q4,q5⟩:=h.uns.2 i hi;exact⟨⟨q1.same hz (fun g e=>hs g ((h.lo i hi).1 g e) (q4 g e)),q2.same hz (fun g e=>hs g ((h.lo i hi).2 g e) (q5 g e)),q3⟩,q4,q5⟩
theorem PgC.below(h:PgC w B C P am cm n v1 vs U)(hC:C<=w.heap.size)(hb:Qb w w'):PgC w' B C P am cm n v1 vs U:=
 h.keep hb.size (fun i _ hi=>hb.block i Jo) (hb.cell (p:=Qa P 0) h.lt) (hb.cell (p:=Qa P 1) h.lt)
theorem PgC.eff{kv:Value}{pv:Option Nat}(h:PgC w B C P am cm n v1 vs U)(hP:P<B)(hC:C<=w.heap.size)(he:Eff w w' P 2 kv pv)(hk:∀g,kv.ownBlock=some g->C<=g)(hp:∀g,pv=some g->C<=g):PgC w' B C P am cm n v1 vs U:=
 h.keep he.size (fun i hB hi=>he.blk i Jo Jo (fun e=>Jy (hk i e)) (fun e=>Jy (hp i e))) (he.cel 0 Jo Jo).1 (he.cel 1 Jo Jo).1
theorem PgC.at(h:PgC w B C P am cm n v1 vs U)(hi:i<n):∃g c,v1 = Ql g vs.length c/\w.cell? (Qa g (i*3))=some (atV vs i).vu/\w.cell? (Qa g (i*3+1))=some (atV vs i).vo/\w.cell? (Qa g (i*3+2))=some (Qs (atV vs i).b):=by
 have hl:=h.ln;have hr:=h.row;obtain⟨a,h1|⟨g,cap,H,h1,h2,h3,h4⟩⟩:=h.row
 ·have:=h1.2;simp at this;omega
 ·subst h1;obtain⟨x,y,z⟩:=hr.ops i Jo;exact⟨g,cap,rfl,x,y,z⟩
structure KpP(P:Nat)(v1:Value)(w w':JY):Prop where
 os:w'.os=w.os
 tape:w'.tape=w.tape
 output:w'.output=w.output
 size:w.heap.size<=w'.heap.size
 blk:∀q,q<w.heap.size->q≠P->v1.ownBlock≠some q->w'.heap[q]?=w.heap[q]?
 cel:∀o,o≠1->w'.cell? (Qa P o)=w.cell? (Qa P o)/\w'.frozen? (Qa P o)=w.frozen? (Qa P o)
def zPW(w:JY)(H B P bs:Nat)(am:Option Addr)(cm:Nat)(ms:List zH)(v1:Value)(vs:List UvR)(U:List UnR)(k:Nat)(e:Ending)(w':JY):Prop:=
 zBD e (¬ B2 ms k)/\KpP P v1 w w'/\∃x us os b c l v4,zy (atM ms k).t us os b c l/\PgA w' B P bs am cm ms.length v4 (vs++[x]) (U++[⟨dst us,os,b⟩])/\Zd w.heap.size v1.ownBlock v4.ownBlock
theorem zV3{ms:List zH}{k:Nat}{os:List OpR}{b:JZ}{c l:Int}(h:zy (atM ms k).t us os b c l)(hc:c=0)(h1:(atM ms k).n.size<=64)(h2:zBr (atM ms k).n):¬ B2 ms k:=by
 rintro(⟨us',os',b',c',l',h',hc'⟩|h'|h')
 ·exact hc' ((zy.one h h').2.2.2.1 ▸ hc)
 ·exact h' h2
 ·omega
theorem PgA.below{w w':JY}{B P bs:Nat}{am:Option Addr}{cm n:Nat}{v1:Value}{vs:List UvR}{U:List UnR}(h:PgA w B P bs am cm n v1 vs U)(hb:Qb w w'):PgA w' B P bs am cm n v1 vs U:=by
 have hl:=h.lt;have kc:=fun q=>hb.cell (p:=Qa P q) hl
 refine⟨h.hP,h.hbs,h.hne,(kc 0).trans h.c0,(kc 1).trans h.c1,(kc 2).trans h.c2,(kc 3).trans h.c3,(kc 4).trans h.c4,fun o=>(hb.frozen (p:=Qa P o) hl).trans (h.fz o),h.row.below hb,⟨h.uns.1,fun i hi=>?_⟩,h.lo,h.sm.kept (zE hb none) Js⟩;obtain⟨⟨q1,q2,q3⟩,q4,q5⟩:=h.uns.2 i hi;have hz:=hb.size;exact⟨⟨q1.below hb,q2.below hb,q3⟩,fun g e=>⟨(q4 g e).1,Jy ((q4 g e).2)⟩,fun g e=>⟨(q5 g e).1,Jy ((q5 g e).2)⟩⟩
theorem zWi{W3 w4:JY}{H:Nat}{g4 c4:Nat}{x:UvR}{os:List OpR}{b nm:JZ}{ob:Obj}(h:PgA w B P bs am cm n v1 vs U)(hB:B<=w.heap.size)(hH:H<=P)(hb:Qb w W3)(h1:ZO W3 x.vu us)(h2:ZS W3 x.vo os)(h3:x.b=b)(hu:∀g,x.vu.ownBlock=some g->w.heap.size<=g/\g<W3.heap.size)(ho:∀g,x.vo.ownBlock=some g->w.heap.size<=g/\g<W3.heap.size)(hn:W3.cell? (Qa w.heap.size 0)=some (Qs nm))(X:w4.ownsRow B 89 3 (Ql g4 (vs.length+1) c4) (vs.length+1) (Zz vs++Zz [x]))(hg:(W3.alloc ob).drew.grownBy w4 v1.ownBlock)(Q:v1.ownBlock=some g4\/g4=(W3.alloc ob).drew.heap.size):PgA (w4.setCell (Qa P 1) (Ql g4 (vs.length+1) c4)) B P bs am cm n (Ql g4 (vs.length+1) c4) (vs++[x]) (U++[⟨us,os,b⟩])/\KpP P v1 w (w4.setCell (Qa P 1) (Ql g4 (vs.length+1) c4))/\(w4.setCell (Qa P 1) (Ql g4 (vs.length+1) c4)).cell? (Qa w.heap.size 0)=some (Qs nm)/\Zd w.heap.size v1.ownBlock (some g4):=by
 have K:Qb W3 (W3.alloc ob).drew:=(zC _ _).drew;have k:Qb w (W3.alloc ob).drew:=hb.trans (K.mono hb.size);have hz:(W3.alloc ob).drew.heap.size=W3.heap.size+1:=Js;have J:=hb.size;have V:=h.lt;have v:=h.hP;have j:w.heap.size<W3.heap.size:=World.block_lt_of_cell? _ _ hn;have hr:zBt w4 B (Ql g4 (vs.length+1) c4) (vs++[x]):=by
  unfold zBt;rw[zF9,yq];exact X
 refine⟨h.step hB k (h1.below K) (h2.below K) h3 (fun g e=>?_) (fun g e=>?_) hg hr (Q.imp (fun e=>e.symm) (fun e=>⟨g4,rfl,Jo⟩)),?_,?_,Q.imp (fun e=>e.symm) (fun e=>⟨g4,rfl,Jo⟩)⟩
 ·have:=hu g e;omega
 ·have:=ho g e;omega
 ·have u:=hg.size;refine⟨hg.os.trans k.os,hg.tape.trans k.tape,hg.output.trans k.output,by simp[World.setCell];omega,fun q hq Y hv=>?_,fun o ho=>?_⟩
  ·rw[je _ _ _ _ (Ju Y)];exact(hg.block q Jo (fun e=>hv e.symm)).trans (k.block q Jo)
  ·have y:=(hg.block P Jo (fun e=>Jy ((h.row.lt P e.symm).1))).trans (k.block P Jo);exact⟨(yj _ _ _ _ (by intro x;injection x with _ x;omega)).trans (yu (w:=w) y),(yv _ _ _ _).trans (yD (w:=w) y)⟩
 ·refine(yj _ _ _ _ (by intro x;injection x with x;omega)).trans ((zK hg (b:=w.heap.size) Jo (fun e=>Jy ((h.row.lt _ e).2)) 0).trans (Jc K j hn))
theorem zKf(H B P bs:Nat)(am:Option Addr)(cm:Nat)(ms:List zH)(v1:Value)(vs:List UvR)(U:List UnR)(k:Nat)(w:JY)(h:PgA w B P bs am cm ms.length v1 vs U)(hB:B<=w.heap.size)(hH:H<=P)(hM:zB3 w am ms)(hk:k<ms.length)(hO:vs.length<=1048576)(hs:(atM ms k).t.size<=maxLen)(hp:(atM ms k).n.size<=maxLen)(m:zD7 w):Calls prog 84 #[.pointer (some ⟨P,0,none⟩),Qi k] w (zPW w H B P bs am cm ms v1 vs U k):=by
 have h1:=h.lt;have hI:=h.hP;have c0:=h.c0;have hN:(k:Int)<(ms.length:Int):=Jo;rcases hM with hM|⟨bA,h4,rfl,hf,hF⟩
 ·omega
 obtain⟨m0,m1⟩:=hf k hk;obtain⟨i0,h8,o,hm,ho⟩:=zS zSL;have HI:=zB h8;have HZ:=zB (yK o (yK hm ho));clear h8 o hm ho;obtain⟨s,hq⟩:=Jx ((atM ms k).t);obtain⟨nm,hl⟩:=Jx ((atM ms k).n);rw[<-hq] at m1 hs;rw[<-hl] at m0 hp;have he:=zB hq;have D:=zB hl;obtain⟨a1,c1,rfl⟩:∃a c,v1=.slice a vs.length c:=zR h.row;have ha:=zB h;have d1:=h.c1;have hQ:=zB m;obtain⟨W0,N⟩:=Jx (w.alloc (.cells #[Qs nm,Qs s] 53));have hi:Below w.heap.size w W0:=by rw[N];exact zC _ _
 have o:W0.heap.size=w.heap.size+1:=by rw[N];simp
 have n0:W0.cell? ⟨w.heap.size,0,none⟩=some (Qs nm):=by rw[N];simp[go_sem]
 have HU:=zB (zHs s W0 hs (m.below hi));have hD:=zB N;have hE:=zB hi;have hd:=zB o;clear h hq hl hf m N hi o;go_enter func84,ntmps84;go_wp2_with (first|(go_at_call 127;rw[<-zA hD];(with_reducible refine(zA HU).mono ?_);rintro e w1 ⟨vu,vo,us,os,b,cc,l,rfl,hui,hru,hro,huo,hul,hol,hb1⟩;have hc:=zB hui;have hm:w.heap.size+1<=w1.heap.size:=(by have:=hb1.size;rw[zA hd] at this;exact this);have hA:=zB hb1;obtain⟨au,cu,rfl⟩:∃a c,vu=.slice a us.length c:=zR hru;obtain⟨ao,co,rfl⟩:∃a c,vo=.slice a os.length c:=zR hro;have ht:=zB hro;have HX:=zB (zMF (.slice au us.length cu) us (w1.alloc (.cells #[.slice au us.length cu,.slice ao os.length co,Qs b] 89)) (fun x hx=>(by have:=(zEH hui).2 x hx;unfold maxLen;omega)) Jo (hru.strs.below (zC _ _)) (fun g e=>(by have:=(hru.lt g e).2;simp;omega)));have n1:w1.cell? ⟨w.heap.size,0,none⟩=some (Qs nm):=(hb1.cell (p:=⟨w.heap.size,0,none⟩) (by show w.heap.size<W0.heap.size;rw[zA hd];omega)).trans n0;clear hui hru hro huo hb1 HU n0)|(go_at_call 128;(with_reducible refine(zA HX).mono ?_);rintro e w2 ⟨vd,rfl,hrd,hb2⟩;have hy:=zB hb2;have ho:w1.heap.size+1<=w2.heap.size:=(by have:=hb2.size;simpa using this);have n2:w2.cell? ⟨w.heap.size,0,none⟩=some (Qs nm):=(hb2.cell (p:=⟨w.heap.size,0,none⟩) Jq).trans (((zC w1 _).cell (p:=⟨w.heap.size,0,none⟩) (Jo:w.heap.size<w1.heap.size)).trans n1);obtain⟨ad,cd,rfl⟩:∃a c,vd=.slice a (dst us).length c:=zR hrd;have hb:=zB hrd;have x0:w2.cell? ⟨w1.heap.size,0,none⟩=some (.slice au us.length cu):=(hb2.cell (p:=⟨w1.heap.size,0,none⟩) Js).trans Jg;have x1:w2.cell? ⟨w1.heap.size,1,none⟩=some (.slice ao os.length co):=(hb2.cell (p:=⟨w1.heap.size,1,none⟩) Js).trans Jg;have x2:w2.cell? ⟨w1.heap.size,2,none⟩=some (Qs b):=(hb2.cell (p:=⟨w1.heap.size,2,none⟩) Js).trans Jg;have xf:w2.frozen? ⟨w1.heap.size,0,none⟩=false:=(hb2.frozen (p:=⟨w1.heap.size,0,none⟩) Js).trans Jg;clear HX hb2 hrd n1));obtain⟨X,hX⟩:=Jx w1.heap.size;obtain⟨W3,V⟩:=Jx (w2.setCell ⟨w1.heap.size,0,none⟩ (.slice ad (dst us).length cd));have hC:W3.heap.size=w2.heap.size:=by rw[V];simp[World.setCell]
 have M:Below w.heap.size w W3:=by
  rw[V];refine Below.setCell (p:=⟨w1.heap.size,0,none⟩) ?_ (Jo:w.heap.size<=w1.heap.size) _;exact(hE.trans (hA.mono (by rw[zA hd];omega))).trans (((zC _ _).mono Jo).trans (hy.mono Jq))
 have y0:W3.cell? ⟨X,0,none⟩=some (.slice ad (dst us).length cd):=by rw[V,hX];exact yt _ _ _ x0
 have y1:W3.cell? ⟨X,1,none⟩=some (.slice ao os.length co):=by rw[V,hX];exact(yj _ _ _ _ Js).trans x1
 have y2:W3.cell? ⟨X,2,none⟩=some (Qs b):=by rw[V,hX];exact(yj _ _ _ _ Js).trans x2
 have n3:W3.cell? ⟨w.heap.size,0,none⟩=some (Qs nm):=by rw[V];exact(yj _ _ _ _ (by intro x;injection x with x;omega)).trans n2
 have p3:W3.cell? ⟨P,1,none⟩=some (.slice a1 vs.length c1):=(M.cell (p:=⟨P,1,none⟩) h1).trans d1;have sg:w2.grownBy W3 (some w1.heap.size):=by rw[V];exact ZJ _ _ _ _
 have hz:ZO W3 (.slice ad (dst us).length cd) (dst us):=hb.strs.grown sg (fun g e x=>by injection x with x;have:=(hb.lt g e).1;simp at this;omega);have h5:ZS W3 (.slice ao os.length co) os:=((ht.ops.below (zC _ _)).below hy).grown sg (fun g e x=>by injection x with x;have:=(ht.lt g e).2;omega);have h2:∀g,(Value.slice ad (dst us).length cd).ownBlock=some g->w.heap.size<=g/\g<W3.heap.size:=fun g e=>Jz (hb.lt g e)
 have hg:∀g,(Value.slice ao os.length co).ownBlock=some g->w.heap.size<=g/\g<W3.heap.size:=fun g e=>by have:=ht.lt g e;rw[zA hd] at this;omega
 have hw:X<W3.heap.size:=Jo;have I:X≠P:=Jo;have hJ:w.heap.size<X:=Jo;have G:=zB (fun(w4:JY)(g4 c4:Nat)(ob:Obj)=>zWi (ob:=ob) (x:=⟨.slice ad (dst us).length cd,.slice ao os.length co,b⟩) (w4:=w4) (g4:=g4) (c4:=c4) ha hB hH M hz h5 rfl h2 hg n3);have h0:=zB (ha.row.below M);have h9:Hid (∀i,i<w.heap.size+1->B<=i\/i<B->True):=fun _ _ _=>trivial
 have h7:(Value.slice a1 vs.length c1).ownBlock≠some P:=fun e=>Jy ((ha.row.lt P e).1)
 have h6:(Value.slice a1 vs.length c1).ownBlock≠some X:=fun e=>Jy ((ha.row.lt X e).2)
 have L:=zB (yK h7 h6);have pf:=(M.frozen (p:=⟨P,1,none⟩) h1).trans (ha.fz 1);rw[<-V,<-hX];have O:P<W3.heap.size:=Jo;have hG:=zB (show(dst us).length<=20001 from(by have:=zHY us [];simp at this;unfold dst;omega));clear hX V x0 x1 x2 xf n2 M sg hz h5 h2 hg hb hy h9 h7 h6 d1 c0 m0 m1 hC;have k6:∀o',(W3.alloc o').drew.cell? ⟨P,1,none⟩=some (.slice a1 vs.length c1):=fun o'=>((zC W3 o').cell (p:=⟨P,1,none⟩) O).trans p3
 have A:(fun W:World=>W.cell? ⟨X,0,none⟩=some (.slice ad (dst us).length cd)/\W.cell? ⟨X,1,none⟩=some (.slice ao os.length co)/\W.cell? ⟨X,2,none⟩=some (Qs b)) W3.drew:=⟨y0,y1,y2⟩;have y:=zB (show(fun W:World=>W.cell? ⟨X,0,none⟩=some (.slice ad (dst us).length cd)/\W.cell? ⟨X,1,none⟩=some (.slice ao os.length co)/\W.cell? ⟨X,2,none⟩=some (Qs b)) (W3.alloc (.cells #[.slice ad (dst us).length cd,.slice ao os.length co,Qs b] 89)).drew from⟨((zC W3 _).cell (p:=⟨X,0,none⟩) hw).trans y0,((zC W3 _).cell (p:=⟨X,1,none⟩) hw).trans y1,((zC W3 _).cell (p:=⟨X,2,none⟩) hw).trans y2⟩);refine wp_region_held_drew (S:=fun W:World=>W.cell? ⟨X,0,none⟩=some (.slice ad (dst us).length cd)/\W.cell? ⟨X,1,none⟩=some (.slice ao os.length co)/\W.cell? ⟨X,2,none⟩=some (Qs b)) Jk A (fun _=>?_);refine tkH 0 A ?_;refine tkH 1 A ?_;refine tkH 2 A ?_;refine tkH 3 A ?_;refine tkH 5 A ?_;refine yO (rs:=[4,6]) Jk Js ?_;refine yH rfl (fun K hK=>?_) (yH rfl (fun K hK=>?_) yI)
 ·simp only[yc,ya,yb];go_simp;refine hK.out _ _ A (fun _=>?_);clear hK;refine yO (rs:=[6]) Jk Js ?_;refine yH rfl (fun K hK=>?_) yI;simp only[yc,ya,yb];go_simp;refine hK.out _ _ y (fun _=>?_);clear hK;refine yO (rs:=[7]) Jk Js ?_;refine yH rfl (fun K hK=>?_) yI;refine step_append_lies _ (by rfl) (.tmp 31) (.tmp 33) 51 (by rfl) B 89 i0 _ 3 64 underlying51 HI HZ.1 HZ.2.1 HZ.2.2 rfl Jd _ vs.length (Zz vs) (by rfl) (h0.below ((zC _ _).drew)) ⟨W3.heap.size,0,none⟩ 1 1 (Zz [⟨.slice ad (dst us).length cd,.slice ao os.length co,b⟩]) (by rfl) rfl (fun j u hj=>(Ju (zHh W3 ⟨.slice ad (dst us).length cd,.slice ao os.length co,b⟩ j u hj))) (fun u hu=>by simp[Zz] at hu;rcases hu with rfl|rfl|rfl<;>rfl) Jd Jm Jo Jq _ rfl ?_;intro g4 c4 w4 Q q C R;have m2:w4.cell? ⟨P,1,none⟩=some (.slice a1 vs.length c1):=(zK q (b:=P) Jq L.1 1).trans (k6 _);have m3:w4.frozen? ⟨P,1,none⟩=false:=(ZW q (b:=P) Jq L.1 1).trans (((zC W3 _).frozen (p:=⟨P,1,none⟩) O).trans pf);have ec:=fun j=>zK q (b:=X) Jq L.2 j
  have e0:w4.cell? ⟨X,0,none⟩=some (.slice ad (dst us).length cd):=(ec 0).trans y.1;have e1:w4.cell? ⟨X,1,none⟩=some (.slice ao os.length co):=(ec 1).trans y.2.1;have e2:w4.cell? ⟨X,2,none⟩=some (Qs b):=(ec 2).trans y.2.2;have T:=zB (G _ _ _ _ Q q C);clear Q q C R ec;refine hK.out _ _ ⟨e0,e1,e2⟩ (fun E=>?_);clear hK;simp only[yc,ya,yb];simp only[Act.put,ye,yg,yh];refine tkH 8 E ?_;refine tkH 9 E ?_;refine yO (rs:=[10]) Jk Js ?_;refine yH rfl (fun K hK=>?_) yI;simp only[yc,ya,yb];go_simp;refine hK.out _ _ ⟨by rw[yj _ _ _ _ (by simp[I])];exact e0,by rw[yj _ _ _ _ (by simp[I])];exact e1,by rw[yj _ _ _ _ (by simp[I])];exact e2⟩ (fun hn=>?_);clear hK;refine wpAnyH_done Jk ?_ _;clear E hn;obtain⟨f1,f2,f3,f4⟩:=zA T;obtain⟨w5,f⟩:=Jx (w4.setCell ⟨P,1,none⟩ (.slice (some ⟨g4,0,none⟩) (vs.length+1) c4));rw[<-f] at f1 f2 f3;rw[<-f];have Y:=zB (fun(e:Ending)(hr:zBD e (¬ B2 ms k))=>show zPW w H B P bs (some ⟨bA,h4,none⟩) cm ms (.slice a1 vs.length c1) vs U k e w5 from⟨hr,f2,_,us,os,b,cc,l,_,by rw[<-zA he];exact hc,f1,f4⟩);have d:=zB (by rw[<-zA he];exact zA hc:zy (atM ms k).t us os b cc l);have r:Hid (Calls prog 129 #[Qi 3,Qs nm] w5 fun e w'=>zBD e (zF7 3 nm)/\w'=w5):=zDN 3 nm w5 hp;clear f1 f2 f4 f T G A y k6 e0 e1 e2 m2 m3 y0 y1 y2 p3 n3 pf;by_cases J:cc=0
  ·subst J;by_cases hh:nm.size<=64
   ·have Z:(nm.size:Int)<=64:=Jo;go_wp2_with (first|(go_at_call 129;(with_reducible refine(zA r).mono ?_);rintro e w6 ⟨⟨v,rfl,hv⟩,hx⟩;obtain rfl:=hx.symm;have HV:=zB hv;clear hv hx));go_ret;refine Y _ ⟨v,rfl,?_⟩;have hv:=zA HV;unfold zE9 at hv ⊢;rw[hv,zLs];exact⟨fun h=>zV3 d rfl (by rw[<-zA D];exact hh) (by rw[<-zA D];exact h),fun h=>by by_cases x:zBr nm;exact x;exact yR (yU (yS (by rw[<-zA D];exact x))) h⟩
   ·have Z:¬ (nm.size:Int)<=64:=Jo;have F:Hid (B2 ms k):=yU (yU (by rw[<-zA D];omega));go_wp2_with fail;go_ret;exact Y _ ⟨false,rfl,zQ (fun h=>h F)⟩
  ·have h3:(cc==0)=false:=Ju J
   have F:Hid (B2 ms k):=yS ⟨us,os,b,cc,l,d,J⟩;clear J;go_wp2_with fail;go_ret;exact Y _ ⟨false,rfl,zQ (fun h=>h F)⟩
 ·simp only[yc,ya,yb];go_simp;refine hK.out _ _ y (fun _=>?_);clear hK;refine yO (rs:=[4]) Jk Js ?_;refine yH rfl (fun K hK=>?_) yI;simp only[yc,ya,yb];go_simp;refine hK.out _ _ y (fun _=>?_);clear hK;refine yO (rs:=[7]) Jk Js ?_;refine yH rfl (fun K hK=>?_) yI;refine step_append_lies _ (by rfl) (.tmp 31) (.tmp 33) 51 (by rfl) B 89 i0 _ 3 64 underlying51 HI HZ.1 HZ.2.1 HZ.2.2 rfl Jd _ vs.length (Zz vs) (by rfl) (h0.below ((zC _ _).drew)) ⟨W3.heap.size,0,none⟩ 1 1 (Zz [⟨.slice ad (dst us).length cd,.slice ao os.length co,b⟩]) (by rfl) rfl (fun j u hj=>(Ju (zHh W3 ⟨.slice ad (dst us).length cd,.slice ao os.length co,b⟩ j u hj))) (fun u hu=>by simp[Zz] at hu;rcases hu with rfl|rfl|rfl<;>rfl) Jd Jm Jo Jq _ rfl ?_;intro g4 c4 w4 Q q C R;have m2:w4.cell? ⟨P,1,none⟩=some (.slice a1 vs.length c1):=(zK q (b:=P) Jq L.1 1).trans (k6 _);have m3:w4.frozen? ⟨P,1,none⟩=false:=(ZW q (b:=P) Jq L.1 1).trans (((zC W3 _).frozen (p:=⟨P,1,none⟩) O).trans pf);have ec:=fun j=>zK q (b:=X) Jq L.2 j
  have e0:w4.cell? ⟨X,0,none⟩=some (.slice ad (dst us).length cd):=(ec 0).trans y.1;have e1:w4.cell? ⟨X,1,none⟩=some (.slice ao os.length co):=(ec 1).trans y.2.1;have e2:w4.cell? ⟨X,2,none⟩=some (Qs b):=(ec 2).trans y.2.2;have T:=zB (G _ _ _ _ Q q C);clear Q q C R ec;refine hK.out _ _ ⟨e0,e1,e2⟩ (fun E=>?_);clear hK;simp only[yc,ya,yb];simp only[Act.put,ye,yg,yh];refine tkH 8 E ?_;refine tkH 9 E ?_;refine yO (rs:=[10]) Jk Js ?_;refine yH rfl (fun K hK=>?_) yI;simp only[yc,ya,yb];go_simp;refine hK.out _ _ ⟨by rw[yj _ _ _ _ (by simp[I])];exact e0,by rw[yj _ _ _ _ (by simp[I])];exact e1,by rw[yj _ _ _ _ (by simp[I])];exact e2⟩ (fun hn=>?_);clear hK;refine wpAnyH_done Jk ?_ _;clear E hn;obtain⟨f1,f2,f3,f4⟩:=zA T;obtain⟨w5,f⟩:=Jx (w4.setCell ⟨P,1,none⟩ (.slice (some ⟨g4,0,none⟩) (vs.length+1) c4));rw[<-f] at f1 f2 f3;rw[<-f];have Y:=zB (fun(e:Ending)(hr:zBD e (¬ B2 ms k))=>show zPW w H B P bs (some ⟨bA,h4,none⟩) cm ms (.slice a1 vs.length c1) vs U k e w5 from⟨hr,f2,_,us,os,b,cc,l,_,by rw[<-zA he];exact hc,f1,f4⟩);have d:=zB (by rw[<-zA he];exact zA hc:zy (atM ms k).t us os b cc l);have r:Hid (Calls prog 129 #[Qi 3,Qs nm] w5 fun e w'=>zBD e (zF7 3 nm)/\w'=w5):=zDN 3 nm w5 hp;clear f1 f2 f4 f T G A y k6 e0 e1 e2 m2 m3 y0 y1 y2 p3 n3 pf;by_cases J:cc=0
  ·subst J;by_cases hh:nm.size<=64
   ·have Z:(nm.size:Int)<=64:=Jo;go_wp2_with (first|(go_at_call 129;(with_reducible refine(zA r).mono ?_);rintro e w6 ⟨⟨v,rfl,hv⟩,hx⟩;obtain rfl:=hx.symm;have HV:=zB hv;clear hv hx));go_ret;refine Y _ ⟨v,rfl,?_⟩;have hv:=zA HV;unfold zE9 at hv ⊢;rw[hv,zLs];exact⟨fun h=>zV3 d rfl (by rw[<-zA D];exact hh) (by rw[<-zA D];exact h),fun h=>by by_cases x:zBr nm;exact x;exact yR (yU (yS (by rw[<-zA D];exact x))) h⟩
   ·have Z:¬ (nm.size:Int)<=64:=Jo;have F:Hid (B2 ms k):=yU (yU (by rw[<-zA D];omega));go_wp2_with fail;go_ret;exact Y _ ⟨false,rfl,zQ (fun h=>h F)⟩
  ·have h3:(cc==0)=false:=Ju J
   have F:Hid (B2 ms k):=yS ⟨us,os,b,cc,l,d,J⟩;clear J;go_wp2_with fail;go_ret;exact Y _ ⟨false,rfl,zQ (fun h=>h F)⟩
end Go.Proofs.YtadiaghhackbjaaGreatDoor
