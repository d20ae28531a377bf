import Derived.Deep.RegionHeldLaw
import Derived.Test.YtadiaghhackbjaaGreatDoorU01
import Derived.Test.YtadiaghhackbjaaGreatDoorU02
namespace Go.Proofs.YtadiaghhackbjaaGreatDoor
set_option linter.all false
set_option maxHeartbeats 0
set_option maxRecDepth 100000
open Proofs.Tryz RowKit
variable{o:zD}{w:World}{xs:List OpR}
theorem zO8(k:Int)(w:JY):Calls prog 79 #[Qi k] w fun e w'=>e=.returned (Qi (zY k:Int))/\w'=w:=by
 by_cases h4:k=4
 ·subst h4;go_enter func79,ntmps79;go_wp2;go_ret;exact⟨zF (by simp[zY]),rfl⟩
 by_cases h3:k=3
 ·subst h3;go_enter func79,ntmps79;go_wp2;go_ret;exact⟨zF (by simp[zY]),rfl⟩
 by_cases h5:k=5
 ·subst h5;go_enter func79,ntmps79;go_wp2;go_ret;exact⟨zF (by simp[zY]),rfl⟩
 by_cases h6:k=6
 ·subst h6;go_enter func79,ntmps79;go_wp2;go_ret;exact⟨zF (by simp[zY]),rfl⟩
 have e4:(k==4)=false:=Ju h4
 have e3:(k==3)=false:=Ju h3
 have e5:(k==5)=false:=Ju h5
 have e6:(k==6)=false:=Ju h6
 have HK:=zB (by simp[zY,h4,h3,h5,h6]:zY k=0);clear h4 h3 h5 h6;go_enter func79,ntmps79;go_wp2;go_ret;exact⟨zF (by rw[zA HK];rfl),rfl⟩
theorem zf{k:Int}{n:Nat}(h:zY k=n)(z:Int)(hz:(n:Int)=z)(w:JY):Calls prog 79 #[Qi k] w fun e w'=>e=.returned (Qi z)/\w'=w:=by
 subst hz;subst h;exact zO8 k w
def frI(xs:List zD)(i:Nat):Int:=match frS xs i with
 |some f=>(f:Int)
 |none=>-1
theorem zJd{xs:List zD}{i f:Nat}(h:frS xs i=some f):frI xs i=(f:Int):=by unfold frI;rw[h]
theorem zBL{xs:List zD}{i:Nat}(h:frS xs i=none):frI xs i = -1:=by unfold frI;rw[h]
theorem zJe(a:Option Addr)(n cap:Nat)(w:JY):Calls prog 169 #[.slice a n cap,Qi (-1)] w fun e w'=>e=.returned (Qi (-1))/\w'=w:=by
 go_enter func169,ntmps169;go_wp2;go_ret;exact⟨rfl,rfl⟩
theorem zGY(b Q cap:Nat)(xs:List zD)(hm:xs.length<=1048576):∀(n i:Nat)(w:JY),i<n->i<xs.length->Zv w b Q xs->b<w.heap.size ->
  Calls prog 169 #[.slice (some (Qa b Q)) xs.length cap,Qi i] w fun e w'=>e=.returned (Qi (frI xs i))/\Qb w w'
 |0,_,_,h,_,_,_=>yR h (yx _)
 |n+1,i,w,hin,hi,hw,hB=>by
  obtain⟨h0,h1,h2,h3⟩:=hw i hi;have IH:=zB (zGY b Q cap xs hm n);have HW:=zB hw;have J:(i:Int)<(xs.length:Int):=Jo;have v:¬ (i:Int)<0:=Jo;clear hw;rcases zCN (atN xs i).k with hk|hk|hk
  ·have HK:=zB hk;have HF:=zB (zGl hk);clear hk;by_cases ha:(atN xs i).a=0
   ·rw[ha] at h2;by_cases hb:(atN xs i).b=0
    ·rw[hb] at h3;have HR:Hid (frI xs i=(i:Int)):=zJd (by rw[zA HF,yQ ⟨ha,hb⟩]);clear ha hb;go_enter func169,ntmps169;go_wp2_with (go_at_call 79;refine(zf HK 0 rfl _).mono ?_;rintro e w' ⟨rfl,rfl⟩);go_ret;exact⟨zF HR.symm,zC _ _⟩
    ·have x:((atN xs i).b==0)=false:=Ju hb
     have K:((atN xs i).b != 0)=true:=Ju hb
     have HR:Hid (frI xs i = -1):=zBL (by rw[zA HF,yP (fun h=>hb h.2)]);clear ha hb;go_enter func169,ntmps169;go_wp2_with (go_at_call 79;refine(zf HK 0 rfl _).mono ?_;rintro e w' ⟨rfl,rfl⟩);go_ret;exact⟨zF HR.symm,zC _ _⟩
   ·have X:((atN xs i).a==0)=false:=Ju ha
    have q:((atN xs i).a != 0)=true:=Ju ha
    have HR:Hid (frI xs i = -1):=zBL (by rw[zA HF,yP (fun h=>ha h.1)]);clear ha;go_enter func169,ntmps169;go_wp2_with (go_at_call 79;refine(zf HK 0 rfl _).mono ?_;rintro e w' ⟨rfl,rfl⟩);go_ret;exact⟨zF HR.symm,zC _ _⟩
  ·have HK:=zB hk;have HF:=zB (zIl hk);clear hk;by_cases ha:(atN xs i).a=(i:Int)-1
   ·rw[ha] at h2;by_cases hb:(atN xs i).b=0
    ·rw[hb] at h3;by_cases H:1<=i
     ·have HR:=zB (by unfold frI;rw[zA HF,yQ ⟨H,ha,hb⟩]:frI xs i=frI xs (i-1));have ei:(i:Int)-1=((i-1:Nat):Int):=Jo;clear ha hb;go_enter func169,ntmps169;go_wp2_with (first|(go_at_call 79;refine(zf HK 1 rfl _).mono ?_;rintro e w' ⟨rfl,rfl⟩)|(go_at_call 169;refine(IH (i-1) _ Jo Jo (HW.below (zC _ _) hB) Jq).mono ?_;rintro e w' ⟨rfl,hb1⟩));go_ret;exact⟨zF HR.symm,(zC _ _).trans (hb1.mono Js)⟩
     ·have HR:Hid (frI xs i = -1):=zBL (by rw[zA HF,yP (fun h=>H h.1)]);have ei:(i:Int)-1 = -1:=Jo;clear ha hb H;go_enter func169,ntmps169;go_wp2_with (first|(go_at_call 79;refine(zf HK 1 rfl _).mono ?_;rintro e w' ⟨rfl,rfl⟩)|(go_at_call 169;refine(zJe _ _ _ _).mono ?_;rintro e w' ⟨rfl,rfl⟩));go_ret;exact⟨zF HR.symm,zC _ _⟩
    ·have x:((atN xs i).b==0)=false:=Ju hb
     have K:((atN xs i).b != 0)=true:=Ju hb
     have HR:Hid (frI xs i = -1):=zBL (by rw[zA HF,yP (fun h=>hb h.2.2)]);clear ha hb;go_enter func169,ntmps169;go_wp2_with (go_at_call 79;refine(zf HK 1 rfl _).mono ?_;rintro e w' ⟨rfl,rfl⟩);go_ret;exact⟨zF HR.symm,zC _ _⟩
   ·have X:((atN xs i).a==(i:Int)-1)=false:=Ju ha
    have q:((atN xs i).a != (i:Int)-1)=true:=Ju ha
    have HR:Hid (frI xs i = -1):=zBL (by rw[zA HF,yP (fun h=>ha h.2.1)]);clear ha;go_enter func169,ntmps169;go_wp2_with (go_at_call 79;refine(zf HK 1 rfl _).mono ?_;rintro e w' ⟨rfl,rfl⟩);go_ret;exact⟨zF HR.symm,zC _ _⟩
  ·have HK:=zB hk;have HN:=zB (zGm (xs:=xs) (i:=i) hk);have HP:=zB (fun(p1:1<=i) p2 f p3 p4 p5=>zIm (xs:=xs) (i:=i) (f:=f) hk p1 p2 p3 p4 p5);clear hk;by_cases hb:(atN xs i).b=(i:Int)-1;case neg=>
    have x:((atN xs i).b==(i:Int)-1)=false:=Ju hb
    have K:((atN xs i).b != (i:Int)-1)=true:=Ju hb
    have HR:Hid (frI xs i = -1):=zBL (HN (fun h=>hb h.2.1));clear hb;go_enter func169,ntmps169;go_wp2_with (go_at_call 79;refine(zf HK 2 rfl _).mono ?_;rintro e w' ⟨rfl,rfl⟩);go_ret;exact⟨zF HR.symm,zC _ _⟩
   rw[hb] at h3;by_cases H:1<=i;case neg=>
    have HR:Hid (frI xs i = -1):=zBL (HN (fun h=>H h.1));have ei:(i:Int)-1 = -1:=Jo;clear hb H;go_enter func169,ntmps169;go_wp2_with (first|(go_at_call 79;refine(zf HK 2 rfl _).mono ?_;rintro e w' ⟨rfl,rfl⟩)|(go_at_call 169;refine(zJe _ _ _ _).mono ?_;rintro e w' ⟨rfl,rfl⟩));go_ret;exact⟨zF HR.symm,zC _ _⟩
   have ei:(i:Int)-1=((i-1:Nat):Int):=Jo;cases hf:frS xs (i-1) with
   |none=>
    have HR:Hid (frI xs i = -1):=zBL (HN (fun⟨_,_,f,h,_⟩=>by rw[hf] at h;cases h));have HI:=zB (zBL hf);clear hb hf;go_enter func169,ntmps169;go_wp2_with (first|(go_at_call 79;refine(zf HK 2 rfl _).mono ?_;rintro e w' ⟨rfl,rfl⟩)|(go_at_call 169;refine(IH (i-1) _ Jo Jo (HW.below (zC _ _) hB) Jq).mono ?_;rw[zA HI];rintro e w' ⟨rfl,hb1⟩));go_ret;exact⟨zF HR.symm,(zC _ _).trans (hb1.mono Js)⟩
   |some f=>
    have P:=zAD hf;have HI:=zB (zJd hf);by_cases y:1<=f;case neg=>
     have HR:Hid (frI xs i = -1):=zBL (HN (fun⟨_,_,f',h,h',_⟩=>by rw[hf] at h;injection h with h;omega));have Y:(f:Int)<1:=Jo;clear hb hf;go_enter func169,ntmps169;go_wp2_with (first|(go_at_call 79;refine(zf HK 2 rfl _).mono ?_;rintro e w' ⟨rfl,rfl⟩)|(go_at_call 169;refine(IH (i-1) _ Jo Jo (HW.below (zC _ _) hB) Jq).mono ?_;rw[zA HI];rintro e w' ⟨rfl,hb1⟩));go_ret;exact⟨zF HR.symm,(zC _ _).trans (hb1.mono Js)⟩
    have Y:¬ (f:Int)<1:=Jo;have j:(f:Int)<=1048576:=Jo;by_cases ha:(atN xs i).a=(f:Int)-1;case neg=>
     have X:((atN xs i).a==(f:Int)-1)=false:=Ju ha
     have q:((atN xs i).a != (f:Int)-1)=true:=Ju ha
     have HR:Hid (frI xs i = -1):=zBL (HN (fun⟨_,_,f',h,_,h'⟩=>by rw[hf] at h;injection h with h;subst h;exact ha h'));clear hb hf ha;go_enter func169,ntmps169;go_wp2_with (first|(go_at_call 79;refine(zf HK 2 rfl _).mono ?_;rintro e w' ⟨rfl,rfl⟩)|(go_at_call 169;refine(IH (i-1) _ Jo Jo (HW.below (zC _ _) hB) Jq).mono ?_;rw[zA HI];rintro e w' ⟨rfl,hb1⟩;have c1:w'.cell? (Qa w.heap.size 2)=some (Qi (atN xs i).a):=Jc hb1 Jh Jg));go_ret;exact⟨zF HR.symm,(zC _ _).trans (hb1.mono Js)⟩
    rw[ha] at h2;have HR:=zB (by unfold frI;rw[(zA HP) H hb f hf y ha]:frI xs i=frI xs (f-1));have ef:(f:Int)-1=((f-1:Nat):Int):=Jo;clear hb hf ha;go_enter func169,ntmps169;go_wp2_with (go_at_call 79;refine(zf HK 2 rfl _).mono ?_;rintro e w' ⟨rfl,rfl⟩);refine(IH (i-1) _ Jo Jo (HW.below (zC _ _) hB) Jq).mono ?_;rw[zA HI];rintro e w1 ⟨rfl,hb1⟩;have c1:w1.cell? (Qa w.heap.size 2)=some (Qi ((f:Int)-1)):=Jc hb1 Jh (by simp[go_sem,ef]);go_wp2_with fail;go_call IH (f-1) _ Jo Jo (HW.below ((zC _ _).trans (hb1.mono Js)) hB) (Jz hb1.size) as e w2 ⟨rfl,hb2⟩;go_wp2_with fail;go_ret;exact⟨zF HR.symm,((zC _ _).trans (hb1.mono Js)).trans (hb2.mono (Jz hb1.size))⟩
theorem zLA(h:20000<o.t.size):¬ zA6 o:=fun h'=>Jy h'.1
theorem zQG(h:o.t.size<=20000)(hk:o.k=1):zA6 o↔zGI o.t:=by
 unfold zA6;rw[hk];simp[h]
theorem zQH(h:o.t.size<=20000)(hk:o.k=2):zA6 o↔zBr o.t:=by
 unfold zA6;rw[hk];simp[h]
theorem zQI(hk:o.k=6):zA6 o↔o.t.size=0:=by
 unfold zA6;rw[hk];refine⟨fun h=>?_,fun h=>⟨Jo,yU (yU (yS ⟨rfl,h⟩))⟩⟩;rcases h.2 with h|h|h|h
 ·omega
 ·omega
 ·exact h.2
 ·omega
theorem zIr(h:o.t.size<=20000)(hk:o.k=3\/o.k=4\/o.k=5):zA6 o↔zGH o.t=true:=by
 unfold zA6;rcases hk with hk|hk|hk<;>rw[hk]<;>simp[h]
theorem zL5(hk:¬ (o.k=1\/o.k=2\/o.k=3\/o.k=4\/o.k=5\/o.k=6)):¬ zA6 o:=by
 unfold zA6;rintro⟨_,h|h|h|h⟩
 ·omega
 ·omega
 ·omega
 ·omega
theorem zL6(o:zD)(w:JY)(hs:o.t.size<=maxLen):Calls prog 170 #[.agg #[Qi o.k,Qs o.t,Qi o.a,Qi o.b]] w fun e w'=>zBD e (zA6 o)/\Qb w w':=by
 have HS:=zB hs;unfold maxLen at hs;by_cases H:20000<o.t.size
 ·have K:(20000:Int)<(o.t.size:Int):=Jo;have HN:=zB (zLA H);clear H;go_enter func170,ntmps170;go_wp2_with fail;go_ret;exact⟨⟨_,rfl,zQ HN⟩,zC _ _⟩
 have K:¬ (20000:Int)<(o.t.size:Int):=Jo;have q:o.t.size<=20000:=Jo;clear H;by_cases k1:o.k=1
 ·have HT:=zB (zQG q k1);rw[k1];clear k1;go_enter func170,ntmps170;go_wp2_with (go_at_call 126;refine(zBE _ _ HS).mono ?_;rintro e w' ⟨⟨v,rfl,hv⟩,rfl⟩);go_ret;exact⟨⟨_,rfl,hv.trans HT.symm⟩,zC _ _⟩
 by_cases k2:o.k=2
 ·have HT:=zB (zQH q k2);rw[k2];clear k1 k2;go_enter func170,ntmps170;go_wp2_with (go_at_call 39;refine(zEp _ _ HS).mono ?_;rintro e w' ⟨⟨v,rfl,hv⟩,rfl⟩);go_ret;exact⟨⟨_,rfl,hv.trans HT.symm⟩,zC _ _⟩
 by_cases k6:o.k=6
 ·have HT:=zB (zQI k6);rw[k6];clear k1 k2 k6;by_cases h0:o.t.size=0
  ·rw[zFu h0];go_enter func170,ntmps170;go_wp2_with fail;go_ret;exact⟨⟨_,rfl,Zb (HT.2 h0)⟩,zC _ _⟩
  ·have Q:o.t.toList.isEmpty=false:=zFt h0;go_enter func170,ntmps170;go_wp2_with fail;go_ret;exact⟨⟨_,rfl,zQ (fun h=>h0 (HT.1 h))⟩,zC _ _⟩
 have e1:(o.k==1)=false:=Ju k1
 have e2:(o.k==2)=false:=Ju k2
 have e6:(o.k==6)=false:=Ju k6
 by_cases k3:3<=o.k
 ·by_cases k5:o.k<=5
  ·have HT:=zB (zIr q Jo);clear k1 k2 k6;go_enter func170,ntmps170;go_wp2_with (go_at_call 43;refine(zFG _ _ HS).mono ?_;rintro e w' ⟨rfl,rfl⟩);go_ret;exact⟨⟨_,rfl,HT.symm⟩,zC _ _⟩
  ·have HT:=zB (zL5 (o:=o) Jo);clear k1 k2 k6;go_enter func170,ntmps170;go_wp2_with fail;go_ret;exact⟨⟨_,rfl,zQ HT⟩,zC _ _⟩
 ·have HT:=zB (zL5 (o:=o) Jo);clear k1 k2 k6;go_enter func170,ntmps170;go_wp2_with fail;go_ret;exact⟨⟨_,rfl,zQ HT⟩,zC _ _⟩
theorem zGB(b K cap:Nat)(xs:List zD)(w:JY)(hm:xs.length<=1048576)(hw:Zv w b K xs)(hs:zBb xs)(hB:b<w.heap.size):Calls prog 120 #[.agg #[.slice (some (Qa b K)) xs.length cap]] w fun e w'=>zBD e (Zk xs)/\Qb w w':=by
 have HW:=zB hw;have HS:=zB hs;clear hw hs;by_cases h1:xs.length<1
 ·have Y:(xs.length:Int)<1:=Jo;have HN:Hid (¬ Zk xs):=fun h=>Jy h.1
  go_enter func120,ntmps120;go_wp2_with fail;go_ret;exact⟨⟨_,rfl,zQ HN⟩,zC _ _⟩
 have Y:¬ (xs.length:Int)<1:=Jo;by_cases h2:20000<xs.length
 ·have y:(20000:Int)<(xs.length:Int):=Jo;have HN:Hid (¬ Zk xs):=fun h=>Jy h.2.1
  go_enter func120,ntmps120;go_wp2_with fail;go_ret;exact⟨⟨_,rfl,zQ HN⟩,zC _ _⟩
 have y:¬ (20000:Int)<(xs.length:Int):=Jo;have ei:(xs.length:Int)-1=((xs.length-1:Nat):Int):=Jo;by_cases h3:frS xs (xs.length-1)=some 0;case neg=>
  have p:(frI xs (xs.length-1)!=0)=true:=by
   unfold frI;cases hf:frS xs (xs.length-1) with
   |none=>rfl
   |some f=>
    simp only[bne_iff_ne,ne_eq];intro e;have:f=0:=Jo;subst this;exact h3 hf
  have HN:Hid (¬ Zk xs):=fun h=>h3 h.2.2.1
  clear h3;go_enter func120,ntmps120;go_wp2_with (go_at_call 169;refine(zGY b K cap xs hm xs.length (xs.length-1) _ Jo Jo (HW.below (zC _ _) hB) Jq).mono ?_;rintro e w' ⟨rfl,hb1⟩);go_ret;exact⟨⟨_,rfl,zQ HN⟩,(zC _ _).trans (hb1.mono Js)⟩
 have HI:=zB (zJd h3);have H3:=zB h3;clear h3;go_enter func120,ntmps120;go_wp2_with fail;refine(zGY b K cap xs hm xs.length (xs.length-1) _ Jo Jo (HW.below (zC _ _) hB) Jq).mono ?_;rw[zA HI];rintro e w1 ⟨rfl,hb1⟩;have x:Qb w w1:=(zC _ _).trans (hb1.mono Js);clear hb1;go_wp2_with fail;go_loopw [4] (fun i wr=>∃k:Nat,k<=xs.length/\i=Qi k/\Hid (∀j,j<k->zA6 (atN xs j))/\Qb w wr) (fun i _=>xs.length-(intOf i).toNat);case atStart=>exact⟨0,ym _,rfl,zB (fun j hj=>yR hj (yx j)),x⟩
 case round=>
  obtain⟨k,hk,rfl,X,H⟩:=hrel;by_cases Q:k<xs.length
  ·obtain⟨c0,c1,c2,c3⟩:=((HW) k Q).below H hB;have J:(k:Int)<(xs.length:Int):=Jo;go_wp2_with fail;go_call zL6 (atN xs k) _ (HS k Q) as e w2 ⟨⟨v,rfl,hv⟩,hb2⟩;have q:=H.trans (hb2.mono H.size);have HV:=zB hv;clear hv hb2;cases v
   ·go_wp2_with fail;go_ret;exact⟨⟨_,rfl,zQ (fun h=>Bool.false_ne_true (HV.2 (h.2.2.2 k Q)))⟩,q⟩
   ·go_wp2_with fail;refine⟨⟨k+1,Jo,Jn,zB (fun j hj=>?_),q⟩,Ji⟩;by_cases e:j=k
    ·subst e;exact HV.1 rfl
    ·exact X j Jo
  ·have P:k=xs.length:=Jo;go_wp2_with fail;go_ret;exact⟨⟨_,rfl,Zb ⟨Jo,Jo,H3,fun i hi=>X i Jo⟩⟩,H⟩
theorem zJf{B b o:Nat}{v0 v1 v2 v3 u:Value}(H:B≠b)(h:w.cell? (Qa b o)=some u):((((w.setCell (Qa B 0) v0).setCell (Qa B 1) v1).setCell (Qa B 2) v2).setCell (Qa B 3) v3).cell? (Qa b o)=some u:=by
 rw[World.cell?_setCell_far _ _ _ _ H,World.cell?_setCell_far _ _ _ _ H,World.cell?_setCell_far _ _ _ _ H,World.cell?_setCell_far _ _ _ _ H];exact h
def fI:Option Nat->Int
 |some j=>(j:Int)
 |none=>-1
theorem zFx(b H cap:Nat)(xs:List OpR)(t:JZ)(kd:Int)(w:JY)(hm:xs.length<=1048576)(hw:Ops w b H xs)(hB:b<w.heap.size):Calls prog 121 #[.agg #[.slice (some (Qa b H)) xs.length cap],Qs t,Qi kd] w fun e w'=>e=.returned (Qi (fI (fnd xs t kd)))/\Qb w w':=by
 go_enter func121,ntmps121;go_wp2;have K:Ops (w.alloc (.cells #[.slice (some (Qa b H)) xs.length cap] 63)) b H xs:=hw.below (zC _ _) hB;have HO:=zB K;clear K hw;go_loop [7] (fun i=>∃k:Nat,k<=xs.length/\i=Qi k/\Hid (∀j,j<k->¬ ((atO xs j).s=t/\(atO xs j).k=kd))) (fun i=>xs.length-(intOf i).toNat);case atStart=>exact⟨0,ym _,rfl,zB (fun j h=>Jo)⟩
 case round=>
  obtain⟨k,hk,rfl,hn⟩:=hrel;by_cases Q:k<xs.length
  ·obtain⟨a0,a1,a2,a3⟩:=(zA HO) k Q;have q:=zB (show ∀(_:¬ ((atO xs k).s=t/\(atO xs k).k=kd)),∀j,j<k+1->¬ ((atO xs j).s=t/\(atO xs j).k=kd) from fun x j hj=>by
    by_cases e:j=k
    ·subst e;exact x
    ·exact hn j Jo)
   go_wp2
   ·rename_i X y _;go_ret;refine⟨zF ?_,zC _ _⟩;rw[zQs Q (zA hn) ⟨zEA X,Ju y⟩];rfl
   ·refine⟨⟨k+1,Jo,Jn,zB (q ?_)⟩,Ji⟩;rintro⟨_,h⟩;simp_all
   ·refine⟨⟨k+1,Jo,Jn,zB (q ?_)⟩,Ji⟩;rintro⟨h,_⟩;simp_all
  ·go_wp2;go_ret;refine⟨zF ?_,zC _ _⟩;rw[zPu (fun j hj=>(zA hn) j Jo)];rfl
theorem zAp(o:zD)(w:JY)(v:Bool)(hv:v=decide (3<=o.k/\o.k<=5)):Calls prog 78 #[.agg #[Qi o.k,Qs o.t,Qi o.a,Qi o.b]] w fun e w'=>e=.returned (.bool v)/\Qb w w':=by
 by_cases h3:3<=o.k
 ·by_cases h5:o.k<=5
  ·have HV:=zB (by rw[hv];simp[h3,h5]:v=true);clear hv;go_enter func78,ntmps78;go_wp2;go_ret;exact⟨zi HV.symm,zC _ _⟩
  ·have HV:=zB (by rw[hv];simp[h5]:v=false);clear hv;go_enter func78,ntmps78;go_wp2;go_ret;exact⟨zi HV.symm,zC _ _⟩
 ·have HV:=zB (by rw[hv];simp[h3]:v=false);clear hv;go_enter func78,ntmps78;go_wp2;go_ret;exact⟨zi HV.symm,zC _ _⟩
theorem zEv(b h cap:Nat)(xs:List OpR)(o:zD)(j:Nat)(w:JY)(hm:xs.length<=1048576)(hw:Ops w b h xs)(hB:b<w.heap.size)(h3:3<=o.k)(h5:o.k<=5)(hf:fnd xs o.t (o.k-2)=some j):Calls prog 123 #[.agg #[.slice (some (Qa b h)) xs.length cap],.agg #[Qi o.k,Qs o.t,Qi o.a,Qi o.b]] w fun e w'=>e=.returned (.agg #[Qs (atO xs j).s,Qi (atO xs j).k,Qi (atO xs j).l,Qi (atO xs j).sd])/\Qb w w':=by
 have hj:=(zAg hf).1;have c:(j:Int)<(xs.length:Int):=Jo;have V:=zB (by rw[hf];rfl:fI (fnd xs o.t (o.k-2))=(j:Int));have HW:=zB hw;clear hw hf;have U:Hid (∀o1 o2 o3:Obj,zB2 (((w.alloc o1).alloc o2).alloc o3).drew b h xs j):=fun o1 o2 o3=>(HW j hj).below ((((zC w o1).alloc Js o2).alloc Jq o3).drew) hB
 go_enter func123,ntmps123;go_wp2_with fail;obtain⟨r0,r1,r2,r3⟩:=(zA U) (.cells #[.slice (some (Qa b h)) xs.length cap] 63) (.cells #[Qi o.k,Qs o.t,Qi o.a,Qi o.b] 106) (.cells #[Qs ⟨#[]⟩,Qi 0,Qi 0,Qi 0] 33);have Y:Hid (∀o1 o2 o3:Obj,Qb w (((w.alloc o1).alloc o2).alloc o3).drew):=fun o1 o2 o3=>(((zC w o1).alloc Js o2).alloc Jq o3).drew
 have B:b≠w.heap.size+1+1:=Jo;have A:w.heap.size+1+1≠b:=Jo;have P:=zB (by rw[IntKind.wrap_i64];omega:IntKind.i64.wrap (o.k-2)=o.k-2);have x:=zB (show((((w.alloc (.cells #[.slice (some (Qa b h)) xs.length cap] 63)).alloc (.cells #[Qi o.k,Qs o.t,Qi o.a,Qi o.b] 106)).alloc (.cells #[Qs ⟨#[]⟩,Qi 0,Qi 0,Qi 0] 33)).drew).heap.size=w.heap.size+3 from(Js:(((w.alloc (.cells #[.slice (some (Qa b h)) xs.length cap] 63)).alloc (.cells #[Qi o.k,Qs o.t,Qi o.a,Qi o.b] 106)).alloc (.cells #[Qs ⟨#[]⟩,Qi 0,Qi 0,Qi 0] 33)).heap.size=w.heap.size+3));have Q:=zB (by rw[zA x];omega:b<((((w.alloc (.cells #[.slice (some (Qa b h)) xs.length cap] 63)).alloc (.cells #[Qi o.k,Qs o.t,Qi o.a,Qi o.b] 106)).alloc (.cells #[Qs ⟨#[]⟩,Qi 0,Qi 0,Qi 0] 33)).drew).heap.size);have u:=zB (by rw[zA x];omega:w.heap.size<((((w.alloc (.cells #[.slice (some (Qa b h)) xs.length cap] 63)).alloc (.cells #[Qi o.k,Qs o.t,Qi o.a,Qi o.b] 106)).alloc (.cells #[Qs ⟨#[]⟩,Qi 0,Qi 0,Qi 0] 33)).drew).heap.size);have y:=zB (by rw[zA x];omega:w.heap.size+1<((((w.alloc (.cells #[.slice (some (Qa b h)) xs.length cap] 63)).alloc (.cells #[Qi o.k,Qs o.t,Qi o.a,Qi o.b] 106)).alloc (.cells #[Qs ⟨#[]⟩,Qi 0,Qi 0,Qi 0] 33)).drew).heap.size);have K:=zB (by rw[zA x];omega:w.heap.size+1+1<((((w.alloc (.cells #[.slice (some (Qa b h)) xs.length cap] 63)).alloc (.cells #[Qi o.k,Qs o.t,Qi o.a,Qi o.b] 106)).alloc (.cells #[Qs ⟨#[]⟩,Qi 0,Qi 0,Qi 0] 33)).drew).heap.size);have J:=zB (by rw[zA x];omega:w.heap.size<=((((w.alloc (.cells #[.slice (some (Qa b h)) xs.length cap] 63)).alloc (.cells #[Qi o.k,Qs o.t,Qi o.a,Qi o.b] 106)).alloc (.cells #[Qs ⟨#[]⟩,Qi 0,Qi 0,Qi 0] 33)).drew).heap.size);have X:=zB (show((((w.alloc (.cells #[.slice (some (Qa b h)) xs.length cap] 63)).alloc (.cells #[Qi o.k,Qs o.t,Qi o.a,Qi o.b] 106)).alloc (.cells #[Qs ⟨#[]⟩,Qi 0,Qi 0,Qi 0] 33)).drew).cell? (Qa w.heap.size 0)=some (.slice (some (Qa b h)) xs.length cap)/\((((w.alloc (.cells #[.slice (some (Qa b h)) xs.length cap] 63)).alloc (.cells #[Qi o.k,Qs o.t,Qi o.a,Qi o.b] 106)).alloc (.cells #[Qs ⟨#[]⟩,Qi 0,Qi 0,Qi 0] 33)).drew).cell? (Qa (w.heap.size+1) 0)=some (Qi o.k)/\((((w.alloc (.cells #[.slice (some (Qa b h)) xs.length cap] 63)).alloc (.cells #[Qi o.k,Qs o.t,Qi o.a,Qi o.b] 106)).alloc (.cells #[Qs ⟨#[]⟩,Qi 0,Qi 0,Qi 0] 33)).drew).cell? (Qa (w.heap.size+1) 1)=some (Qs o.t) from
  (show(((w.alloc (.cells #[.slice (some (Qa b h)) xs.length cap] 63)).alloc (.cells #[Qi o.k,Qs o.t,Qi o.a,Qi o.b] 106)).alloc (.cells #[Qs ⟨#[]⟩,Qi 0,Qi 0,Qi 0] 33)).cell? (Qa w.heap.size 0)=some (.slice (some (Qa b h)) xs.length cap)/\(((w.alloc (.cells #[.slice (some (Qa b h)) xs.length cap] 63)).alloc (.cells #[Qi o.k,Qs o.t,Qi o.a,Qi o.b] 106)).alloc (.cells #[Qs ⟨#[]⟩,Qi 0,Qi 0,Qi 0] 33)).cell? (Qa (w.heap.size+1) 0)=some (Qi o.k)/\(((w.alloc (.cells #[.slice (some (Qa b h)) xs.length cap] 63)).alloc (.cells #[Qi o.k,Qs o.t,Qi o.a,Qi o.b] 106)).alloc (.cells #[Qs ⟨#[]⟩,Qi 0,Qi 0,Qi 0] 33)).cell? (Qa (w.heap.size+1) 1)=some (Qs o.t) from⟨Jg,Jg,Jg⟩))
 have H:=zB (show(((((w.alloc (.cells #[.slice (some (Qa b h)) xs.length cap] 63)).alloc (.cells #[Qi o.k,Qs o.t,Qi o.a,Qi o.b] 106)).alloc (.cells #[Qs ⟨#[]⟩,Qi 0,Qi 0,Qi 0] 33)).drew).cell? (Qa (w.heap.size+1+1) 0)=some (Qs ⟨#[]⟩)/\((((w.alloc (.cells #[.slice (some (Qa b h)) xs.length cap] 63)).alloc (.cells #[Qi o.k,Qs o.t,Qi o.a,Qi o.b] 106)).alloc (.cells #[Qs ⟨#[]⟩,Qi 0,Qi 0,Qi 0] 33)).drew).cell? (Qa (w.heap.size+1+1) 1)=some (Qi 0)/\((((w.alloc (.cells #[.slice (some (Qa b h)) xs.length cap] 63)).alloc (.cells #[Qi o.k,Qs o.t,Qi o.a,Qi o.b] 106)).alloc (.cells #[Qs ⟨#[]⟩,Qi 0,Qi 0,Qi 0] 33)).drew).cell? (Qa (w.heap.size+1+1) 2)=some (Qi 0)/\((((w.alloc (.cells #[.slice (some (Qa b h)) xs.length cap] 63)).alloc (.cells #[Qi o.k,Qs o.t,Qi o.a,Qi o.b] 106)).alloc (.cells #[Qs ⟨#[]⟩,Qi 0,Qi 0,Qi 0] 33)).drew).cell? (Qa (w.heap.size+1+1) 3)=some (Qi 0))/\∀q,((((w.alloc (.cells #[.slice (some (Qa b h)) xs.length cap] 63)).alloc (.cells #[Qi o.k,Qs o.t,Qi o.a,Qi o.b] 106)).alloc (.cells #[Qs ⟨#[]⟩,Qi 0,Qi 0,Qi 0] 33)).drew).frozen? (Qa (w.heap.size+1+1) q)=false from
  (show((((w.alloc (.cells #[.slice (some (Qa b h)) xs.length cap] 63)).alloc (.cells #[Qi o.k,Qs o.t,Qi o.a,Qi o.b] 106)).alloc (.cells #[Qs ⟨#[]⟩,Qi 0,Qi 0,Qi 0] 33)).cell? (Qa (w.heap.size+1+1) 0)=some (Qs ⟨#[]⟩)/\(((w.alloc (.cells #[.slice (some (Qa b h)) xs.length cap] 63)).alloc (.cells #[Qi o.k,Qs o.t,Qi o.a,Qi o.b] 106)).alloc (.cells #[Qs ⟨#[]⟩,Qi 0,Qi 0,Qi 0] 33)).cell? (Qa (w.heap.size+1+1) 1)=some (Qi 0)/\(((w.alloc (.cells #[.slice (some (Qa b h)) xs.length cap] 63)).alloc (.cells #[Qi o.k,Qs o.t,Qi o.a,Qi o.b] 106)).alloc (.cells #[Qs ⟨#[]⟩,Qi 0,Qi 0,Qi 0] 33)).cell? (Qa (w.heap.size+1+1) 2)=some (Qi 0)/\(((w.alloc (.cells #[.slice (some (Qa b h)) xs.length cap] 63)).alloc (.cells #[Qi o.k,Qs o.t,Qi o.a,Qi o.b] 106)).alloc (.cells #[Qs ⟨#[]⟩,Qi 0,Qi 0,Qi 0] 33)).cell? (Qa (w.heap.size+1+1) 3)=some (Qi 0))/\∀q,(((w.alloc (.cells #[.slice (some (Qa b h)) xs.length cap] 63)).alloc (.cells #[Qi o.k,Qs o.t,Qi o.a,Qi o.b] 106)).alloc (.cells #[Qs ⟨#[]⟩,Qi 0,Qi 0,Qi 0] 33)).frozen? (Qa (w.heap.size+1+1) q)=false from⟨⟨Jg,Jg,Jg,Jg⟩,fun q=>Jg⟩))
 go_region_held (fun w'=>w'.cell? (Qa w.heap.size 0)=some (.slice (some (Qa b h)) xs.length cap)/\w'.cell? (Qa (w.heap.size+1) 0)=some (Qi o.k)/\w'.cell? (Qa (w.heap.size+1) 1)=some (Qs o.t)/\w'.cell? (Qa b (h+j*4))=some (Qs (atO xs j).s)/\w'.cell? (Qa b (h+j*4+1))=some (Qi (atO xs j).k)/\w'.cell? (Qa b (h+j*4+2))=some (Qi (atO xs j).l)/\w'.cell? (Qa b (h+j*4+3))=some (Qi (atO xs j).sd)) (first|(go_keep;done)|(refine⟨zJf Jo ?_,zJf Jo ?_,zJf Jo ?_,zJf Jo ?_,zJf Jo ?_,zJf Jo ?_,zJf Jo ?_⟩<;>simp[*]))
  (first|(go_at_call 121;have HX:=zFx b h cap xs o.t (o.k-2) (((w.alloc (.cells #[.slice (some (Qa b h)) xs.length cap] 63)).alloc (.cells #[Qi o.k,Qs o.t,Qi o.a,Qi o.b] 106)).alloc (.cells #[Qs ⟨#[]⟩,Qi 0,Qi 0,Qi 0] 33)).drew hm (HW.below (Y _ _ _) hB) Q;rw[zA V] at HX;rw[zA P];refine HX.mono ?_;clear HX;rintro e w2 ⟨rfl,hb2⟩;have q0:=Jc hb2 u X.1;have q1:=(hb2.cell (p:=(Qa (w.heap.size+1) 0)) y).trans X.2.1;have q2:=(hb2.cell (p:=(Qa (w.heap.size+1) 1)) y).trans X.2.2;have s0:=(hb2.cell (p:=(Qa b (h+j*4))) Q).trans r0;have s1:=(hb2.cell (p:=(Qa b (h+j*4+1))) Q).trans r1;have s2:=(hb2.cell (p:=(Qa b (h+j*4+2))) Q).trans r2;have s3:=(hb2.cell (p:=(Qa b (h+j*4+3))) Q).trans r3;have t0:=(hb2.cell (p:=(Qa (w.heap.size+1+1) 0)) K).trans H.1.1;have t1:=(hb2.cell (p:=(Qa (w.heap.size+1+1) 1)) K).trans H.1.2.1;have t2:=(hb2.cell (p:=(Qa (w.heap.size+1+1) 2)) K).trans H.1.2.2.1;have t3:=(hb2.cell (p:=(Qa (w.heap.size+1+1) 3)) K).trans H.1.2.2.2;have u0:=(hb2.frozen (p:=(Qa (w.heap.size+1+1) 0)) K).trans (H.2 0);have u1:=(hb2.frozen (p:=(Qa (w.heap.size+1+1) 1)) K).trans (H.2 1);have u2:=(hb2.frozen (p:=(Qa (w.heap.size+1+1) 2)) K).trans (H.2 2);have u3:=(hb2.frozen (p:=(Qa (w.heap.size+1+1) 3)) K).trans (H.2 3);have B2:=zB ((Y _ _ _).trans (hb2.mono J));clear hb2))
 go_wp2;refine yN (v:=.agg #[Qs (atO xs j).s,Qi (atO xs j).k,Qi (atO xs j).l,Qi (atO xs j).sd]) ?res rfl ⟨rfl,?_⟩;case res=>simp[results,results123,go_sem,t0,t1,t2,t3]
 exact zM (Jo:w.heap.size<=w.heap.size+1+1) [Qs (atO xs j).s,Qi (atO xs j).k,Qi (atO xs j).l,Qi (atO xs j).sd] 0 w2 B2
theorem zJg(W:JY)(s:JZ)(k l sd:Int):(Instr.field 33 (.agg #[Qs s,Qi k,Qi l,Qi sd]) 2).run prog W=.ok (Qi l) W:=Jk
theorem zQJ{j:Nat}(h3:3<=o.k)(h5:o.k<=5)(hf:fnd xs o.t (o.k-2)=some j):zAN xs o=(atO xs j).l:=by
 unfold zAN;rw[yQ ⟨h3,h5⟩,hf]
theorem zJh(h:¬ (3<=o.k/\o.k<=5)):zAN xs o=1001:=by
 unfold zAN;rw[yP h]
theorem zBv(b K cap:Nat)(xs:List OpR)(o:zD)(w:JY)(hm:xs.length<=1048576)(hw:Ops w b K xs)(hB:b<w.heap.size)(q:3<=o.k->o.k<=5->fnd xs o.t (o.k-2)≠none):Calls prog 125 #[.agg #[.slice (some (Qa b K)) xs.length cap],.agg #[Qi o.k,Qs o.t,Qi o.a,Qi o.b]] w fun e w'=>e=.returned (Qi (zAN xs o))/\Qb w w':=by
 by_cases H:3<=o.k/\o.k<=5
 ·obtain⟨h3,h5⟩:=H;cases hf:fnd xs o.t (o.k-2) with
  |none=>exact yR hf (q h3 h5)
  |some j=>
   have HL:=zB (zQJ h3 h5 hf);have HW:=zB hw;have HF:=zB hf;have HD:=zB (by simp[h3,h5]:true=decide (3<=o.k/\o.k<=5));clear hw hf q;go_enter func125,ntmps125;go_wp2_with fail;go_call zAp o _ true HD as e w1 ⟨rfl,hb1⟩;have h:Qb w w1:=((zC _ _).alloc Js _).trans (hb1.mono Jq);have c0:w1.cell? (Qa w.heap.size 0)=some (.slice (some (Qa b K)) xs.length cap):=Jc hb1 Jh Jg;have d0:w1.cell? (Qa (w.heap.size+1) 0)=some (Qi o.k):=(hb1.cell (p:=(Qa (w.heap.size+1) 0)) Js).trans Jg;have d1:w1.cell? (Qa (w.heap.size+1) 1)=some (Qs o.t):=(hb1.cell (p:=(Qa (w.heap.size+1) 1)) Js).trans Jg;have d2:w1.cell? (Qa (w.heap.size+1) 2)=some (Qi o.a):=(hb1.cell (p:=(Qa (w.heap.size+1) 2)) Js).trans Jg;have d3:w1.cell? (Qa (w.heap.size+1) 3)=some (Qi o.b):=(hb1.cell (p:=(Qa (w.heap.size+1) 3)) Js).trans Jg;have Q:b<w1.heap.size:=yl hB h.size;clear hb1;go_wp2_with fail;go_call zEv b K cap xs o j _ hm (HW.below h hB) Q h3 h5 HF as e w2 ⟨rfl,hb2⟩;have x:=zJg;go_wp2;go_ret;exact⟨zF HL.symm,h.trans (hb2.mono h.size)⟩
 ·have HL:=zB (zJh (xs:=xs) H);have HD:=zB (by simp[H]:false=decide (3<=o.k/\o.k<=5));clear hw H q;go_enter func125,ntmps125;go_wp2_with fail;go_call zAp o _ false HD as e w1 ⟨rfl,hb1⟩;go_wp2_with fail;go_ret;exact⟨zF HL.symm,((zC _ _).alloc Js _).trans (hb1.mono Jq)⟩
def Cs(cs:List (Nat×Nat×Value))(w:JY):Prop:=∀p∈cs,w.cell? (Qa p.1 p.2.1)=some p.2.2
theorem Cs.below{cs:List (Nat×Nat×Value)}{w':JY}(h:Cs cs w)(hb:Qb w w'):Cs cs w':=
 fun p hp=>Jc hb (block_lt_of_cell (h p hp)) (h p hp)
theorem zEw{B:Nat}{a w':JY}(h:Below B a w)(h1:w'.os=w.os)(h2:w'.tape=w.tape)(h3:w'.output=w.output)(h4:w'.heap=w.heap):Below B a w':=
 ⟨h1.trans h.os,h2.trans h.tape,h3.trans h.output,by rw[h4];exact h.size,fun i hi=>by rw[h4];exact h.block i hi⟩
theorem zJi{ns:List zD}{i j:Nat}(ho:Zh (atN ns i))(hf:fnd xs (atN ns i).t ((atN ns i).k-2)=some j):zJF xs ns i↔zF6 xs j false<=zAN xs (atN ns (atN ns i).a.toNat)/\(zY (atN ns i).k=1\/zF6 xs j true<=zAN xs (atN ns (atN ns i).b.toNat)):=by
 constructor
 ·intro h;exact h j ho hf
 ·intro h j' _ H;rw[hf] at H;injection H with H;subst H;exact h
end Go.Proofs.YtadiaghhackbjaaGreatDoor
