import Derived.Laws.CopyOwn
import Derived.Test.YtadiaghhackbjaaGreatDoorU13
namespace Go.Proofs.YtadiaghhackbjaaGreatDoor
set_option linter.all false
set_option maxHeartbeats 0
set_option maxRecDepth 100000
open Proofs.Tryz RowKit
variable{k:Nat}{st:List Nat}{w:World}
theorem zMi(k:Int)(w:JY):Calls prog 238 #[Qi k] w fun e w'=>e=.returned (Qi (zY k:Int))/\w'=w:=by
 by_cases h4:k=4
 ·subst h4;go_enter func238,ntmps238;go_wp2;go_ret;exact⟨zF (by simp[zY]),rfl⟩
 by_cases h3:k=3
 ·subst h3;go_enter func238,ntmps238;go_wp2;go_ret;exact⟨zF (by simp[zY]),rfl⟩
 by_cases h5:k=5
 ·subst h5;go_enter func238,ntmps238;go_wp2;go_ret;exact⟨zF (by simp[zY]),rfl⟩
 by_cases h6:k=6
 ·subst h6;go_enter func238,ntmps238;go_wp2;go_ret;exact⟨zF (by simp[zY]),rfl⟩
 have e4:(k==4)=false:=Ju h4
 have e3:(k==3)=false:=Ju h3
 have e5:(k==5)=false:=Ju h5
 have e6:(k==6)=false:=Ju h6
 have HK:=zB (by simp[zY,h4,h3,h5,h6]:zY k=0);clear h4 h3 h5 h6;go_enter func238,ntmps238;go_wp2;go_ret;exact⟨zF (by rw[zA HK];rfl),rfl⟩
theorem zAR{k:Int}{n:Nat}(h:zY k=n)(z:Int)(hz:(n:Int)=z)(w:JY):Calls prog 238 #[Qi k] w fun e w'=>e=.returned (Qi z)/\w'=w:=by
 subst hz;subst h;exact zMi k w
theorem zC8(o:zD)(w:JY)(hs:o.t.size<=maxLen):Calls prog 240 #[.agg #[Qi o.k,Qs o.t,Qi o.a,Qi o.b]] w fun e w'=>zBD e (zA6 o)/\Qb w w':=by
 have HS:=zB hs;unfold maxLen at hs;by_cases H:20000<o.t.size
 ·have q:(20000:Int)<(o.t.size:Int):=Jo;have HN:=zB (zLA H);clear H;go_enter func240,ntmps240;go_wp2_with fail;go_ret;exact⟨⟨_,rfl,zQ HN⟩,zC _ _⟩
 have q:¬ (20000:Int)<(o.t.size:Int):=Jo;have K:o.t.size<=20000:=Jo;clear H;by_cases k1:o.k=1
 ·have HT:=zB ((zQG K k1).trans (zPy _).symm);rw[k1];clear k1;go_enter func240,ntmps240;go_wp2_with (go_at_call 129;refine(zDN 2 _ _ HS).mono ?_;rintro e w' ⟨⟨v,rfl,hv⟩,hx⟩;obtain rfl:=hx.symm);go_ret;exact⟨⟨_,rfl,hv.trans HT.symm⟩,zC _ _⟩
 by_cases k2:o.k=2
 ·have HT:=zB ((zQH K k2).trans (zLs _).symm);rw[k2];clear k1 k2;go_enter func240,ntmps240;go_wp2_with (go_at_call 129;refine(zDN 3 _ _ HS).mono ?_;rintro e w' ⟨⟨v,rfl,hv⟩,hx⟩;obtain rfl:=hx.symm);go_ret;exact⟨⟨_,rfl,hv.trans HT.symm⟩,zC _ _⟩
 by_cases k6:o.k=6
 ·have HT:=zB (zQI k6);rw[k6];clear k1 k2 k6;by_cases h0:o.t.size=0
  ·rw[zFu h0];go_enter func240,ntmps240;go_wp2_with fail;go_ret;exact⟨⟨_,rfl,Zb (HT.2 h0)⟩,zC _ _⟩
  ·have Q:o.t.toList.isEmpty=false:=zFt h0;go_enter func240,ntmps240;go_wp2_with fail;go_ret;exact⟨⟨_,rfl,zQ (fun h=>h0 (HT.1 h))⟩,zC _ _⟩
 have e1:(o.k==1)=false:=Ju k1
 have e2:(o.k==2)=false:=Ju k2
 have e6:(o.k==6)=false:=Ju k6
 by_cases k3:o.k=3
 ·have HT:=zB (zIr K (yS k3));rw[k3];clear k1 k2 k6 e1 e2 e6 k3;go_enter func240,ntmps240;go_wp2_with (go_at_call 99;refine(zAm _ _ HS).mono ?_;rintro e w' ⟨rfl,hx⟩;obtain rfl:=hx.symm);go_ret;exact⟨⟨_,rfl,HT.symm⟩,zC _ _⟩
 by_cases k4:o.k=4
 ·have HT:=zB (zIr K (yU (yS k4)));rw[k4];clear k1 k2 k6 e1 e2 e6 k3 k4;go_enter func240,ntmps240;go_wp2_with (go_at_call 99;refine(zAm _ _ HS).mono ?_;rintro e w' ⟨rfl,hx⟩;obtain rfl:=hx.symm);go_ret;exact⟨⟨_,rfl,HT.symm⟩,zC _ _⟩
 by_cases k5:o.k=5
 ·have HT:=zB (zIr K (yU (yU k5)));rw[k5];clear k1 k2 k6 e1 e2 e6 k3 k4 k5;go_enter func240,ntmps240;go_wp2_with (go_at_call 99;refine(zAm _ _ HS).mono ?_;rintro e w' ⟨rfl,hx⟩;obtain rfl:=hx.symm);go_ret;exact⟨⟨_,rfl,HT.symm⟩,zC _ _⟩
 have e3:(o.k==3)=false:=Ju k3
 have e4:(o.k==4)=false:=Ju k4
 have e5:(o.k==5)=false:=Ju k5
 have HT:=zB (zL5 (o:=o) Jo);clear k1 k2 k6 k3 k4 k5;go_enter func240,ntmps240;go_wp2_with fail;go_ret;exact⟨⟨_,rfl,zQ HT⟩,zC _ _⟩
theorem zTq:(prog.info? 3).map (·.size)=some 1:=Jk
theorem zHS(o:zD)(a:Option Addr)(cap:Nat)(w:JY):Calls prog 239 #[.agg #[Qi o.k,Qs o.t,Qi o.a,Qi o.b],.slice a 0 cap] w fun e w'=>zBD e (o.a=0/\o.b=0)/\Qb w w':=by
 have H:∀W:JY,(Builtin.copy_ #[49,49] 3 #[Ql (w.heap.size+1) 2 2,.slice a 0 cap]).run prog W=.ok (goInt 0) W:=fun W=>run_copy_none W _ _ _ 3 _ _ _ _ _ _ underlying49 zTq Js
 have HC:=zB H;clear H;by_cases ha:o.a=0
 ·rw[ha];by_cases hb:o.b=0
  ·rw[hb];clear ha hb;go_enter func239,ntmps239;go_wp2;rw[zA HC];simp only[Result.andThen];rw[Oper.upon_value];go_wp2;go_ret;exact⟨⟨_,rfl,Zb Js⟩,(zC _ _).alloc Js _⟩
  ·have K:(o.b==0)=false:=Ju hb
   clear ha;go_enter func239,ntmps239;go_wp2;rw[zA HC];simp only[Result.andThen];rw[Oper.upon_value];go_wp2;go_ret;exact⟨⟨_,rfl,zQ (fun h=>hb h.2)⟩,(zC _ _).alloc Js _⟩
 ·have q:(o.a==0)=false:=Ju ha
  go_enter func239,ntmps239;go_wp2;rw[zA HC];simp only[Result.andThen];rw[Oper.upon_value];go_wp2;go_ret;exact⟨⟨_,rfl,zQ (fun h=>ha h.1)⟩,(zC _ _).alloc Js _⟩
theorem zTr(o:zD)(g H cap:Nat)(t:Int)(w:JY)(h0:w.cell? (Qa g H)=some (Qi t)):Calls prog 239 #[.agg #[Qi o.k,Qs o.t,Qi o.a,Qi o.b],.slice (some (Qa g H)) 1 cap] w fun e w'=>zBD e (o.a=t/\o.b=0)/\Qb w w':=by
 have HC:=zB (show ∀(x y:Int),(Builtin.copy_ #[49,49] 3 #[Ql (w.heap.size+1) 2 2,.slice (some (Qa g H)) 1 cap]).run prog ((w.alloc (.cells #[Qi o.k,Qs o.t,Qi x,Qi y] 106)).alloc (.cells #[Qi 0,Qi 0] 334))=.ok (goInt 1) (((w.alloc (.cells #[Qi o.k,Qs o.t,Qi x,Qi y] 106)).alloc (.cells #[Qi 0,Qi 0] 334)).setCells (w.heap.size+1) 0 [Qi t]) from fun x y=>by
  have K:g<w.heap.size:=block_lt_of_cell h0
  have bel:Qb w ((w.alloc (.cells #[Qi o.k,Qs o.t,Qi x,Qi y] 106)).alloc (.cells #[Qi 0,Qi 0] 334)):=(zC _ _).alloc Js _
  exact run_copy_cells _ _ _ _ 3 _ _ _ _ _ _ _ [Qi t] underlying49 zTq rfl (fun j v hj=>by
   rw[Addr.add_mid]
   match j,hj with
   |0,hj=>
    simp only[List.getElem?_cons_zero,Option.some.injEq] at hj
    rw[<-hj]
    exact Jc bel K h0) (fun j hj=>by simp at hj;subst hj;simp[go_sem]) (fun j hj=>Jg) (fun v hv=>by simp at hv;rw[hv];rfl))
 clear h0;by_cases ha:o.a=t
 ·rw[ha];by_cases hb:o.b=0
  ·rw[hb];clear ha hb;go_enter func239,ntmps239;go_wp2;rw[zA HC];simp only[Result.andThen,World.setCells];rw[Oper.upon_value];go_wp2;go_ret;exact⟨⟨_,rfl,Zb Js⟩,(zC _ _).alloc Js _⟩
  ·have q:(o.b==0)=false:=Ju hb
   clear ha;go_enter func239,ntmps239;go_wp2;rw[zA HC];simp only[Result.andThen,World.setCells];rw[Oper.upon_value];go_wp2;go_ret;exact⟨⟨_,rfl,zQ (fun h=>hb h.2)⟩,(zC _ _).alloc Js _⟩
 ·have Q:(o.a==t)=false:=Ju ha
  go_enter func239,ntmps239;go_wp2;rw[zA HC];simp only[Result.andThen,World.setCells];rw[Oper.upon_value];go_wp2;go_ret;exact⟨⟨_,rfl,zQ (fun h=>ha h.1)⟩,(zC _ _).alloc Js _⟩
theorem zTs(o:zD)(g H cap:Nat)(t t':Int)(w:JY)(h0:w.cell? (Qa g H)=some (Qi t))(h1:w.cell? (Qa g (H+1))=some (Qi t')):Calls prog 239 #[.agg #[Qi o.k,Qs o.t,Qi o.a,Qi o.b],.slice (some (Qa g H)) 2 cap] w fun e w'=>zBD e (o.a=t/\o.b=t')/\Qb w w':=by
 have HC:=zB (show ∀(x y:Int),(Builtin.copy_ #[49,49] 3 #[Ql (w.heap.size+1) 2 2,.slice (some (Qa g H)) 2 cap]).run prog ((w.alloc (.cells #[Qi o.k,Qs o.t,Qi x,Qi y] 106)).alloc (.cells #[Qi 0,Qi 0] 334))=.ok (goInt 2) (((w.alloc (.cells #[Qi o.k,Qs o.t,Qi x,Qi y] 106)).alloc (.cells #[Qi 0,Qi 0] 334)).setCells (w.heap.size+1) 0 [Qi t,Qi t']) from fun x y=>by
  have K:g<w.heap.size:=block_lt_of_cell h0
  have bel:Qb w ((w.alloc (.cells #[Qi o.k,Qs o.t,Qi x,Qi y] 106)).alloc (.cells #[Qi 0,Qi 0] 334)):=(zC _ _).alloc Js _
  exact run_copy_cells _ _ _ _ 3 _ _ _ _ _ _ _ [Qi t,Qi t'] underlying49 zTq rfl (fun j v hj=>by
   rw[Addr.add_mid]
   match j,hj with
   |0,hj=>
    simp only[List.getElem?_cons_zero,Option.some.injEq] at hj
    rw[<-hj]
    exact Jc bel K h0
   |1,hj=>
    simp only[List.getElem?_cons_succ,List.getElem?_cons_zero,Option.some.injEq] at hj
    rw[<-hj]
    exact(bel.cell (p:=(Qa g (H+1))) K).trans h1) (fun j hj=>by simp at hj;rcases(Jo:j=0\/j=1) with rfl|rfl<;>simp[go_sem]) (fun j hj=>Jg) (fun v hv=>by simp at hv;rcases hv with rfl|rfl<;>rfl))
 clear h0 h1;by_cases ha:o.a=t
 ·rw[ha];by_cases hb:o.b=t'
  ·rw[hb];clear ha hb;go_enter func239,ntmps239;go_wp2;rw[zA HC];simp only[Result.andThen,World.setCells];rw[Oper.upon_value];go_wp2;go_ret;exact⟨⟨_,rfl,Zb Js⟩,(zC _ _).alloc Js _⟩
  ·have q:(o.b==t')=false:=Ju hb
   clear ha;go_enter func239,ntmps239;go_wp2;rw[zA HC];simp only[Result.andThen,World.setCells];rw[Oper.upon_value];go_wp2;go_ret;exact⟨⟨_,rfl,zQ (fun h=>hb h.2)⟩,(zC _ _).alloc Js _⟩
 ·have Q:(o.a==t)=false:=Ju ha
  go_enter func239,ntmps239;go_wp2;rw[zA HC];simp only[Result.andThen,World.setCells];rw[Oper.upon_value];go_wp2;go_ret;exact⟨⟨_,rfl,zQ (fun h=>ha h.1)⟩,(zC _ _).alloc Js _⟩
def ZL(st:List Nat):List Int:=st.reverse.map fun(n:Nat)=>(n:Int)
theorem zB0(st:List Nat):(ZL st).length=st.length:=by simp[ZL]
theorem zFm{o:zD}(h:st.length<zY o.k):zCs o k st=none:=by
 unfold zCs;rcases zCN o.k with hk|hk|hk
 ·omega
 ·rw[yP Jo,yQ hk];match st,h with
  |[],_=>rfl
  |_::_,h=>simp[hk] at h
 ·rw[yP Jo,yP Jo];match st,h with
  |[],_=>rfl
  |[_],_=>rfl
  |_::_::_,h=>simp[hk] at h;omega
theorem zTt{o:zD}{m:Nat}(h:m+zY o.k=st.length):zCs o k st=if o.a=((ZL st).drop m).getD 0 0/\o.b=((ZL st).drop m).getD 1 0 then some (k::st.drop (zY o.k)) else none:=by
 unfold zCs;rcases zCN o.k with hk|hk|hk
 ·rw[yQ hk,hk];have:(ZL st).drop m=[]:=by apply List.drop_eq_nil_of_le;rw[zB0];omega
  rw[this];simp
 ·rw[yP Jo,yQ hk,hk];match st,h with
  |[],h=>simp[hk] at h
  |t::r,h=>
   have hm:m=(ZL r).length:=by rw[zB0];simp[hk] at h;omega
   have:(ZL (t::r)).drop m=[(t:Int)]:=by
    rw[hm];have e:ZL (t::r)=ZL r++[(t:Int)]:=by simp[ZL]
    rw[e];simp
   rw[this];simp
 ·rw[yP Jo,yP Jo,hk];match st,h with
  |[],h=>simp[hk] at h
  |[_],h=>simp[hk] at h
  |t2::t1::r,h=>
   have hm:m=(ZL r).length:=by rw[zB0];simp[hk] at h;omega
   have:(ZL (t2::t1::r)).drop m=[(t1:Int),(t2:Int)]:=by
    rw[hm];have e:ZL (t2::t1::r)=ZL r++[(t1:Int),(t2:Int)]:=by simp[ZL]
    rw[e];simp
   rw[this];simp
theorem zMj{m c:Nat}(h:m+c=st.length):ZL (k::st.drop c)=(ZL st).take m++[(k:Int)]:=by
 unfold ZL;rw[List.reverse_cons,List.map_append,List.map_cons,List.map_nil,<-List.map_take,List.reverse_drop];congr 3;omega
theorem zOX(o:zD)(a:Option Addr)(cap:Nat)(vals:List Int)(w:JY)(n:Nat)(hn:n=vals.length)(h2:vals.length<=2)(hc:vals.length=0\/∃g h,a=some (Qa g h)/\∀j,j<vals.length->w.cell? (Qa g (h+j))=some (Qi (vals.getD j 0))):Calls prog 239 #[.agg #[Qi o.k,Qs o.t,Qi o.a,Qi o.b],.slice a n cap] w fun e w'=>zBD e (o.a=vals.getD 0 0/\o.b=vals.getD 1 0)/\Qb w w':=by
 subst hn;match vals,h2,hc with
 |[],_,_=>exact zHS o a cap w
 |[t],_,hc=>
  rcases hc with hc|⟨g,h,ha,H⟩
  ·simp at hc
  ·subst ha;exact zTr o g h cap t w (H 0 Js)
 |[t,t'],_,hc=>
  rcases hc with hc|⟨g,h,ha,H⟩
  ·simp at hc
  ·subst ha;exact zTs o g h cap t t' w (H 0 Js) (H 1 Js)
theorem zRW{B e g c n m:Nat}{zs:List Int}(h:w.ownsRow B e 1 (Ql g n c) n (zk zs))(hm:m<=n):w.ownsRow B e 1 (Ql g m c) m (zk (zs.take m)):=by
 obtain⟨hl,h|⟨g',Q,K,hv,hB,H,hn,hc,q,k⟩⟩:=h
 ·simp at h
 ·simp only[Value.slice.injEq,Option.some.injEq,Addr.mk.injEq] at hv;obtain⟨⟨rfl,_⟩,_,rfl⟩:=hv;rw[zGM] at hl;refine⟨by rw[zGM];simp;omega,yU ⟨g,c,K,rfl,hB,H,Jo,hc,q,?_⟩⟩;have:zk (zs.take m)=(zk zs).take m:=by simp[zk,List.map_take]
  rw[this,<-k,List.take_take];congr 1;omega
theorem zTu:(prog.info? 3).map (fun i=>(i.zero,i.size,i.bytes))=some (some (Qi 0),1,8):=Jk
theorem zKN(w:JY)(v:Int):∀j u,(zk [v])[j]?=some u->(w.alloc (.cells #[Qi v] 3)).cell? ((Qa w.heap.size 0).add j)=some u:=by
 intro j u hj;rw[Addr.add_mid];have:=yC (w:=w.alloc (.cells #[Qi v] 3)) (b:=w.heap.size) (heap_alloc_new w _) 0 1;exact this j u (by simpa[zk] using hj)
theorem zLf{B e size n:Nat}{v:Value}{xs:List Value}(h:w.ownsRow B e size v n xs):(v=.slice none 0 0/\n=0)\/∃g c,v = Ql g n c/\B<=g/\g<w.heap.size/\n<=c:=by
 have h':=h;obtain⟨_,hv|⟨g,c,H,hv,hB,hh,hn,_⟩⟩:=h
 ·exact yS hv
 ·refine yU ⟨g,c,hv,hB,?_,hn⟩;subst hv;exact(h'.lt g rfl).2
theorem zGh{B:Nat}{a w':JY}(h:Below B a w)(h1:w'.os=w.os)(h2:w'.tape=w.tape)(h3:w'.output=w.output)(h4:w'.heap=w.heap):Below B a w':=
 ⟨h1.trans h.os,h2.trans h.tape,h3.trans h.output,by rw[h4];exact h.size,fun i hi=>by rw[h4];exact h.block i hi⟩
def zMk(xs:List zD)(k m:Nat)(st:List Nat):Prop:=(atN xs k).a=((ZL st).drop m).getD 0 0/\(atN xs k).b=((ZL st).drop m).getD 1 0
theorem zCG{xs:List zD}(hs:stk xs k=some st)(hk:k<xs.length)(h:zCs (atN xs k) k st=none):¬ Zk xs:=fun ho=>by
 obtain⟨st',H⟩:=ho.stkS (k:=k+1) Jo;rw[zDL hs,h] at H;cases H
theorem zOY(b Z cap:Nat)(xs:List zD)(w:JY)(hm:xs.length<=1048576)(hw:Zv w b Z xs)(hs:zBb xs)(hB:b<w.heap.size):Calls prog 220 #[.agg #[.slice (some (Qa b Z)) xs.length cap]] w fun e w'=>zBD e (Zk xs)/\Qb w w':=by
 have HW:=zB hw;have HS:=zB hs;clear hw hs;by_cases h2:20000<xs.length
 ·have h9:(20000:Int)<(xs.length:Int):=Jo;have HN:Hid (¬ Zk xs):=fun h=>Jy h.2.1
  go_enter func220,ntmps220;go_wp2_with fail;go_ret;exact⟨⟨_,rfl,zQ HN⟩,zC _ _⟩
 have h9:¬ (20000:Int)<(xs.length:Int):=Jo;obtain⟨i0,hg,hh,ho,hr⟩:∃i,prog.info? 3=some i/\i.zero=some (Qi 0)/\i.size=1/\i.bytes=8:=by
  obtain⟨i,hi,hz⟩:=Option.map_eq_some_iff.1 zTu;simp only[Prod.mk.injEq] at hz;exact⟨i,hi,hz.1,hz.2.1,hz.2.2⟩
 have HI:=zB hg;have HZ:=zB (yK hh (yK ho hr));clear hg hh ho hr;go_enter func220,ntmps220;go_wp2_with fail;go_loopw [3,14] (fun lv iv wr=>∃(k:Nat)(st:List Nat)(v:Value),k<=xs.length/\iv=Qi k/\lv=v/\Hid (stk xs k=some st)/\Hid (wr.ownsRow w.heap.size 3 1 v st.length (zk (ZL st)))/\Hid (st.length<=k)/\Hid (k=0->v=.slice none 0 0/\st=[])/\Hid (0<k->0<st.length)/\Hid (∀j,j<k->zA6 (atN xs j))/\Qb w wr) (fun _ iv _=>xs.length-(intOf iv).toNat);case atStart=>exact⟨0,[],_,ym _,rfl,rfl,zB rfl,zB (World.ownsRow_nil _ _ _ _),zB (ym _),zB (fun _=>⟨rfl,rfl⟩),zB (fun h=>yR h (Nat.lt_irrefl _)),zB (fun j hj=>yR hj (yx j)),zC _ _⟩
 case round=>
  obtain⟨k,st,v,hk,rfl,rfl,V,u,I,h8,hf,r,K⟩:=hrel;by_cases P:k<xs.length
  ·obtain⟨c0,c1,c2,c3⟩:=((HW) k P).below K hB;have hE:(k:Int)<(xs.length:Int):=Jo;have l:st.length<=20000:=Jy (zA I)
   obtain⟨c,HC⟩:∃c:Nat,Hid (zY (atN xs k).k=c):=⟨_,zB rfl⟩;have hF:c<=2:=by have:=zA HC;have:=zCN (atN xs k).k;omega
   have G:=zB (HS k P);rcases zLf u with⟨hv,T⟩|⟨g,cp,hv,h0,ht,he⟩
   ·subst hv;obtain rfl:st=[]:=List.eq_nil_of_length_eq_zero T;clear T l hf h8 u I;rcases(Jo:c=1\/c=2\/c=0) with hc|hc|hc
    ·subst hc;have X:=zB (zCG V P (zFm (by rw[zA HC];decide)));go_wp2_with (go_at_call 238;refine(zAR HC _ rfl _).mono ?_;rintro e w' ⟨rfl,hx⟩;obtain rfl:=hx.symm);go_quiet (fail);go_wp2;go_ret;exact⟨⟨_,rfl,zQ X⟩,zGh (K.alloc K.size _) rfl rfl rfl rfl⟩
    ·subst hc;have X:=zB (zCG V P (zFm (by rw[zA HC];decide)));go_wp2_with (go_at_call 238;refine(zAR HC _ rfl _).mono ?_;rintro e w' ⟨rfl,hx⟩;obtain rfl:=hx.symm);go_quiet (fail);go_wp2;go_ret;exact⟨⟨_,rfl,zQ X⟩,zGh (K.alloc K.size _) rfl rfl rfl rfl⟩
    ·subst hc;have H:=zB (show wr.heap.size<(wr.alloc (.cells #[Qi (atN xs k).k,Qs (atN xs k).t,Qi (atN xs k).a,Qi (atN xs k).b] 106)).drew.heap.size from(Js:wr.heap.size<(wr.alloc (.cells #[Qi (atN xs k).k,Qs (atN xs k).t,Qi (atN xs k).a,Qi (atN xs k).b] 106)).heap.size));have Q:=zB (show(wr.alloc (.cells #[Qi (atN xs k).k,Qs (atN xs k).t,Qi (atN xs k).a,Qi (atN xs k).b] 106)).drew.cell? (Qa wr.heap.size 0)=some (Qi (atN xs k).k)/\(wr.alloc (.cells #[Qi (atN xs k).k,Qs (atN xs k).t,Qi (atN xs k).a,Qi (atN xs k).b] 106)).drew.cell? (Qa wr.heap.size 1)=some (Qs (atN xs k).t)/\(wr.alloc (.cells #[Qi (atN xs k).k,Qs (atN xs k).t,Qi (atN xs k).a,Qi (atN xs k).b] 106)).drew.cell? (Qa wr.heap.size 2)=some (Qi (atN xs k).a)/\(wr.alloc (.cells #[Qi (atN xs k).k,Qs (atN xs k).t,Qi (atN xs k).a,Qi (atN xs k).b] 106)).drew.cell? (Qa wr.heap.size 3)=some (Qi (atN xs k).b) from
      (show(wr.alloc (.cells #[Qi (atN xs k).k,Qs (atN xs k).t,Qi (atN xs k).a,Qi (atN xs k).b] 106)).cell? (Qa wr.heap.size 0)=some (Qi (atN xs k).k)/\(wr.alloc (.cells #[Qi (atN xs k).k,Qs (atN xs k).t,Qi (atN xs k).a,Qi (atN xs k).b] 106)).cell? (Qa wr.heap.size 1)=some (Qs (atN xs k).t)/\(wr.alloc (.cells #[Qi (atN xs k).k,Qs (atN xs k).t,Qi (atN xs k).a,Qi (atN xs k).b] 106)).cell? (Qa wr.heap.size 2)=some (Qi (atN xs k).a)/\(wr.alloc (.cells #[Qi (atN xs k).k,Qs (atN xs k).t,Qi (atN xs k).a,Qi (atN xs k).b] 106)).cell? (Qa wr.heap.size 3)=some (Qi (atN xs k).b) from⟨Jg,Jg,Jg,Jg⟩))
     have C:=zB (show((atN xs k).a=0/\(atN xs k).b=0->zCs (atN xs k) k []=some [k])/\(¬ ((atN xs k).a=0/\(atN xs k).b=0)->zCs (atN xs k) k []=none) by
      unfold zCs
      rw[yQ (zA HC)]
      exact⟨fun h=>yQ h,fun h=>yP h⟩)
     by_cases x:(atN xs k).a=0/\(atN xs k).b=0;case neg=>
      have X:=zB (zCG V P (C.2 x));have S:=zB x;clear x;go_wp2_with (go_at_call 238;refine(zAR HC _ rfl _).mono ?_;rintro e w' ⟨rfl,hx⟩;obtain rfl:=hx.symm);go_region_with (first|(go_at_call 239;have HB:=(zC wr (.cells #[Qi (atN xs k).k,Qs (atN xs k).t,Qi (atN xs k).a,Qi (atN xs k).b] 106)).drew;have HX:=zHS (atN xs k) none 0 ((wr.alloc (.cells #[Qi (atN xs k).k,Qs (atN xs k).t,Qi (atN xs k).a,Qi (atN xs k).b] 106)).drew);refine HX.mono ?_;clear HX;rintro e w2 ⟨⟨v2,rfl,hv2⟩,hb2⟩;obtain rfl:v2=false:=Bool.eq_false_iff.2 (fun h=>S (hv2.1 h));have z2:wr.heap.size<w2.heap.size:=yl H hb2.size;have q20:w2.cell? (Qa wr.heap.size 0)=some (Qi (atN xs k).k):=Jc hb2 H Q.1;have q21:w2.cell? (Qa wr.heap.size 1)=some (Qs (atN xs k).t):=Jc hb2 H Q.2.1;have q22:w2.cell? (Qa wr.heap.size 2)=some (Qi (atN xs k).a):=Jc hb2 H Q.2.2.1;have q23:w2.cell? (Qa wr.heap.size 3)=some (Qi (atN xs k).b):=Jc hb2 H Q.2.2.2;have B2:=zB (K.trans ((HB.trans (hb2.mono (Nat.le_of_lt H))).mono K.size));clear hb2 hv2 HB));go_wp2;go_ret;exact⟨⟨_,rfl,zQ X⟩,B2⟩
     have U:=zB x;clear x;by_cases Y:zA6 (atN xs k);case neg=>
      have X:Hid (¬ Zk xs):=fun h=>Y (h.2.2.2 k P)
      have N:=zB Y;clear Y;go_wp2_with (go_at_call 238;refine(zAR HC _ rfl _).mono ?_;rintro e w' ⟨rfl,hx⟩;obtain rfl:=hx.symm);go_region_with (first|(go_at_call 239;have HB:=(zC wr (.cells #[Qi (atN xs k).k,Qs (atN xs k).t,Qi (atN xs k).a,Qi (atN xs k).b] 106)).drew;have HX:=zHS (atN xs k) none 0 ((wr.alloc (.cells #[Qi (atN xs k).k,Qs (atN xs k).t,Qi (atN xs k).a,Qi (atN xs k).b] 106)).drew);refine HX.mono ?_;clear HX;rintro e w2 ⟨⟨v2,rfl,hv2⟩,hb2⟩;obtain rfl:v2=true:=hv2.2 U;have z2:wr.heap.size<w2.heap.size:=yl H hb2.size;have q20:w2.cell? (Qa wr.heap.size 0)=some (Qi (atN xs k).k):=Jc hb2 H Q.1;have q21:w2.cell? (Qa wr.heap.size 1)=some (Qs (atN xs k).t):=Jc hb2 H Q.2.1;have q22:w2.cell? (Qa wr.heap.size 2)=some (Qi (atN xs k).a):=Jc hb2 H Q.2.2.1;have q23:w2.cell? (Qa wr.heap.size 3)=some (Qi (atN xs k).b):=Jc hb2 H Q.2.2.2;have B2:=zB (K.trans ((HB.trans (hb2.mono (Nat.le_of_lt H))).mono K.size));clear hb2 hv2 HB)|(go_at_call 240;refine(zC8 (atN xs k) _ G).mono ?_;rintro e w3 ⟨⟨v3,rfl,hv3⟩,hb3⟩;obtain rfl:v3=false:=Bool.eq_false_iff.2 (fun h=>N (hv3.1 h));have q30:w3.cell? (Qa wr.heap.size 0)=some (Qi (atN xs k).k):=Jc hb3 z2 q20;have q31:w3.cell? (Qa wr.heap.size 1)=some (Qs (atN xs k).t):=Jc hb3 z2 q21;have q32:w3.cell? (Qa wr.heap.size 2)=some (Qi (atN xs k).a):=Jc hb3 z2 q22;have q33:w3.cell? (Qa wr.heap.size 3)=some (Qi (atN xs k).b):=Jc hb3 z2 q23;have B3:=zB (B2.trans (hb3.mono B2.size));clear hb3 hv3));go_wp2;go_ret;exact⟨⟨_,rfl,zQ X⟩,B3⟩
     have B:=zB Y;clear Y;go_wp2_with (go_at_call 238;refine(zAR HC _ rfl _).mono ?_;rintro e w' ⟨rfl,hx⟩;obtain rfl:=hx.symm);go_region_with (first|(go_at_call 239;have HB:=(zC wr (.cells #[Qi (atN xs k).k,Qs (atN xs k).t,Qi (atN xs k).a,Qi (atN xs k).b] 106)).drew;have HX:=zHS (atN xs k) none 0 ((wr.alloc (.cells #[Qi (atN xs k).k,Qs (atN xs k).t,Qi (atN xs k).a,Qi (atN xs k).b] 106)).drew);refine HX.mono ?_;clear HX;rintro e w2 ⟨⟨v2,rfl,hv2⟩,hb2⟩;obtain rfl:v2=true:=hv2.2 U;have z2:wr.heap.size<w2.heap.size:=yl H hb2.size;have q20:w2.cell? (Qa wr.heap.size 0)=some (Qi (atN xs k).k):=Jc hb2 H Q.1;have q21:w2.cell? (Qa wr.heap.size 1)=some (Qs (atN xs k).t):=Jc hb2 H Q.2.1;have q22:w2.cell? (Qa wr.heap.size 2)=some (Qi (atN xs k).a):=Jc hb2 H Q.2.2.1;have q23:w2.cell? (Qa wr.heap.size 3)=some (Qi (atN xs k).b):=Jc hb2 H Q.2.2.2;have B2:=zB (K.trans ((HB.trans (hb2.mono (Nat.le_of_lt H))).mono K.size));clear hb2 hv2 HB)|(go_at_call 240;refine(zC8 (atN xs k) _ G).mono ?_;rintro e w3 ⟨⟨v3,rfl,hv3⟩,hb3⟩;obtain rfl:v3=true:=hv3.2 B;have q30:w3.cell? (Qa wr.heap.size 0)=some (Qi (atN xs k).k):=Jc hb3 z2 q20;have q31:w3.cell? (Qa wr.heap.size 1)=some (Qs (atN xs k).t):=Jc hb3 z2 q21;have q32:w3.cell? (Qa wr.heap.size 2)=some (Qi (atN xs k).a):=Jc hb3 z2 q22;have q33:w3.cell? (Qa wr.heap.size 3)=some (Qi (atN xs k).b):=Jc hb3 z2 q23;have B3:=zB (B2.trans (hb3.mono B2.size));clear hb3 hv3));have h7:w.heap.size<=w3.heap.size:=B3.size;clear q20 q21 q22 q23 q30 q31 q32 q33 B2;go_wp2_with (at_builtin;refine yL _ rfl (.tmp 42) (.tmp 44) 49 rfl w.heap.size 3 i0 _ 1 8 underlying49 HI HZ.1 HZ.2.1 HZ.2.2 rfl Jd _ 0 [] rfl (World.ownsRow_nil _ _ _ _) (Qa w3.heap.size 0) 1 1 (zk [(k:Int)]) rfl rfl (zKN w3 (k:Int)) (zBF _) ?b1 ?b2 ?b3 ?next);case b1=>exact Jm
     case b2=>omega
     case b3=>simp;omega
     case next=>
      intro v4 w4 J y A E;have L:=zB ((B3.alloc B3.size _).grown y Jq (fun q hq=>by simp[Value.ownBlock] at hq));have M:Hid (w4.ownsRow w.heap.size 3 1 v4 [k].length (zk (ZL [k]))):=J;have O:=zB (by rw[zDL (zA V),(zA C).1 (zA U)]:stk xs (k+1)=some [k]);clear J y A E B3;go_wp2_with fail;refine⟨⟨k+1,[k],v4,Jo,Jn,rfl,O,M,zB Js,zB (fun h=>Jo),zB (fun _=>Js),zB (fun j hj=>?_),L⟩,Ji⟩;by_cases e:j=k
      ·subst e;exact B
      ·exact r j Jo
   ·subst hv;obtain⟨n,hn⟩:=Jx st.length;rw[<-hn] at l he;have HN:=zB hn;rw[<-hn];have HO:=zB (by rw[hn];exact zA u:wr.ownsRow w.heap.size 3 1 (Ql g n cp) n (zk (ZL st)));clear hn u;by_cases hu:n<c
    ·have X:=zB (zCG V P (zFm (by rw[zA HC,<-zA HN];exact hu)));have hD:(n:Int)-(c:Int)<0:=Jo;go_wp2_with (go_at_call 238;refine(zAR HC _ rfl _).mono ?_;rintro e w' ⟨rfl,hx⟩;obtain rfl:=hx.symm);go_quiet (fail);go_wp2;go_ret;exact⟨⟨_,rfl,zQ X⟩,zGh (K.alloc K.size _) rfl rfl rfl rfl⟩
    ·obtain⟨m,s⟩:∃m,n=m+c:=⟨n-c,Jo⟩;have hK:(n:Int)-(c:Int)=(m:Int):=Jo;have hH:(m:Int)<=(n:Int):=Jo;have hM:n-m=c:=Jo;have f:=zB s;have hC:(m:Int)<=(cp:Int):=Jo;have hI:decide ((m:Int)<0)=false:=Js;have hJ:m<=k:=by have:=zA I;have:=zA HN;omega
     have F:=zB (show ∀(W:JY)(a:Option Addr)(cp':Nat),Qb wr W->(c=0\/a=some (Qa g m))->Calls prog 239 #[.agg #[Qi (atN xs k).k,Qs (atN xs k).t,Qi (atN xs k).a,Qi (atN xs k).b],.slice a c cp'] W fun e w'=>zBD e (zMk xs k m st)/\Qb W w' from fun W a cp' hW ha=>by
      have hl:((ZL st).drop m).length=c:=by rw[List.length_drop,zB0,<-zA HN];omega
      refine zOX (atN xs k) _ cp' ((ZL st).drop m) W c hl.symm Jo ?_
      rcases ha with ha|ha
      ·exact yS Jo
      ·refine yU ⟨g,m,ha,fun j hj=>?_⟩
       rw[hW.cell (p:=(Qa g (m+j))) ht]
       have hy:m+j<n:=Jo
       have e1:=HO.cellAt (m+j) Jo
       have e2:=zKu (ZL st) (m+j) (by rw[zB0,<-zA HN];exact hy)
       rw[e1,e2]
       simp[atI,List.getElem?_drop])
     have H:=zB (show wr.heap.size<(wr.alloc (.cells #[Qi (atN xs k).k,Qs (atN xs k).t,Qi (atN xs k).a,Qi (atN xs k).b] 106)).drew.heap.size from(Js:wr.heap.size<(wr.alloc (.cells #[Qi (atN xs k).k,Qs (atN xs k).t,Qi (atN xs k).a,Qi (atN xs k).b] 106)).heap.size));have Q:=zB (show(wr.alloc (.cells #[Qi (atN xs k).k,Qs (atN xs k).t,Qi (atN xs k).a,Qi (atN xs k).b] 106)).drew.cell? (Qa wr.heap.size 0)=some (Qi (atN xs k).k)/\(wr.alloc (.cells #[Qi (atN xs k).k,Qs (atN xs k).t,Qi (atN xs k).a,Qi (atN xs k).b] 106)).drew.cell? (Qa wr.heap.size 1)=some (Qs (atN xs k).t)/\(wr.alloc (.cells #[Qi (atN xs k).k,Qs (atN xs k).t,Qi (atN xs k).a,Qi (atN xs k).b] 106)).drew.cell? (Qa wr.heap.size 2)=some (Qi (atN xs k).a)/\(wr.alloc (.cells #[Qi (atN xs k).k,Qs (atN xs k).t,Qi (atN xs k).a,Qi (atN xs k).b] 106)).drew.cell? (Qa wr.heap.size 3)=some (Qi (atN xs k).b) from
      (show(wr.alloc (.cells #[Qi (atN xs k).k,Qs (atN xs k).t,Qi (atN xs k).a,Qi (atN xs k).b] 106)).cell? (Qa wr.heap.size 0)=some (Qi (atN xs k).k)/\(wr.alloc (.cells #[Qi (atN xs k).k,Qs (atN xs k).t,Qi (atN xs k).a,Qi (atN xs k).b] 106)).cell? (Qa wr.heap.size 1)=some (Qs (atN xs k).t)/\(wr.alloc (.cells #[Qi (atN xs k).k,Qs (atN xs k).t,Qi (atN xs k).a,Qi (atN xs k).b] 106)).cell? (Qa wr.heap.size 2)=some (Qi (atN xs k).a)/\(wr.alloc (.cells #[Qi (atN xs k).k,Qs (atN xs k).t,Qi (atN xs k).a,Qi (atN xs k).b] 106)).cell? (Qa wr.heap.size 3)=some (Qi (atN xs k).b) from⟨Jg,Jg,Jg,Jg⟩))
     obtain⟨ad,h6⟩:∃ad,(if cp=m then some (Qa g 0) else some (Qa g m))=ad:=⟨_,rfl⟩;have R:=zB (show c=0\/ad=some (Qa g m) by
      by_cases h:cp=m
      ·exact yS Jo
      ·exact yU (h6.symm.trans (yP h)))
     have C:=zB (show(zMk xs k m st->zCs (atN xs k) k st=some (k::st.drop c))/\(¬ zMk xs k m st->zCs (atN xs k) k st=none) by
      have:=zTt (o:=atN xs k) (k:=k) (m:=m) (st:=st) (by rw[zA HC,<-zA HN];exact s.symm)
      rw[zA HC] at this
      exact⟨fun h=>this.trans (yQ h),fun h=>this.trans (yP h)⟩)
     clear s;by_cases x:zMk xs k m st;case neg=>
      have X:=zB (zCG V P (C.2 x));have S:=zB x;clear x;go_wp2_with (go_at_call 238;refine(zAR HC _ rfl _).mono ?_;rintro e w' ⟨rfl,hx⟩;obtain rfl:=hx.symm);go_region_with (first|(go_at_call 239;have HB:=(zC wr (.cells #[Qi (atN xs k).k,Qs (atN xs k).t,Qi (atN xs k).a,Qi (atN xs k).b] 106)).drew;have HX:=(zA F) ((wr.alloc (.cells #[Qi (atN xs k).k,Qs (atN xs k).t,Qi (atN xs k).a,Qi (atN xs k).b] 106)).drew) ad (cp-m) HB R;refine HX.mono ?_;clear HX;rintro e w2 ⟨⟨v2,rfl,hv2⟩,hb2⟩;obtain rfl:v2=false:=Bool.eq_false_iff.2 (fun h=>S (hv2.1 h));have z2:wr.heap.size<w2.heap.size:=yl H hb2.size;have q20:w2.cell? (Qa wr.heap.size 0)=some (Qi (atN xs k).k):=Jc hb2 H Q.1;have q21:w2.cell? (Qa wr.heap.size 1)=some (Qs (atN xs k).t):=Jc hb2 H Q.2.1;have q22:w2.cell? (Qa wr.heap.size 2)=some (Qi (atN xs k).a):=Jc hb2 H Q.2.2.1;have q23:w2.cell? (Qa wr.heap.size 3)=some (Qi (atN xs k).b):=Jc hb2 H Q.2.2.2;have B2:=zB (K.trans ((HB.trans (hb2.mono (Nat.le_of_lt H))).mono K.size));have G2:=zB (HB.trans (hb2.mono (Nat.le_of_lt H)));clear hb2 hv2 HB));go_wp2;go_ret;exact⟨⟨_,rfl,zQ X⟩,B2⟩
     have U:=zB x;clear x;by_cases Y:zA6 (atN xs k);case neg=>
      have X:Hid (¬ Zk xs):=fun h=>Y (h.2.2.2 k P)
      have N:=zB Y;clear Y;go_wp2_with (go_at_call 238;refine(zAR HC _ rfl _).mono ?_;rintro e w' ⟨rfl,hx⟩;obtain rfl:=hx.symm);go_region_with (first|(go_at_call 239;have HB:=(zC wr (.cells #[Qi (atN xs k).k,Qs (atN xs k).t,Qi (atN xs k).a,Qi (atN xs k).b] 106)).drew;have HX:=(zA F) ((wr.alloc (.cells #[Qi (atN xs k).k,Qs (atN xs k).t,Qi (atN xs k).a,Qi (atN xs k).b] 106)).drew) ad (cp-m) HB R;refine HX.mono ?_;clear HX;rintro e w2 ⟨⟨v2,rfl,hv2⟩,hb2⟩;obtain rfl:v2=true:=hv2.2 U;have z2:wr.heap.size<w2.heap.size:=yl H hb2.size;have q20:w2.cell? (Qa wr.heap.size 0)=some (Qi (atN xs k).k):=Jc hb2 H Q.1;have q21:w2.cell? (Qa wr.heap.size 1)=some (Qs (atN xs k).t):=Jc hb2 H Q.2.1;have q22:w2.cell? (Qa wr.heap.size 2)=some (Qi (atN xs k).a):=Jc hb2 H Q.2.2.1;have q23:w2.cell? (Qa wr.heap.size 3)=some (Qi (atN xs k).b):=Jc hb2 H Q.2.2.2;have B2:=zB (K.trans ((HB.trans (hb2.mono (Nat.le_of_lt H))).mono K.size));have G2:=zB (HB.trans (hb2.mono (Nat.le_of_lt H)));clear hb2 hv2 HB)|(go_at_call 240;refine(zC8 (atN xs k) _ G).mono ?_;rintro e w3 ⟨⟨v3,rfl,hv3⟩,hb3⟩;obtain rfl:v3=false:=Bool.eq_false_iff.2 (fun h=>N (hv3.1 h));have q30:w3.cell? (Qa wr.heap.size 0)=some (Qi (atN xs k).k):=Jc hb3 z2 q20;have q31:w3.cell? (Qa wr.heap.size 1)=some (Qs (atN xs k).t):=Jc hb3 z2 q21;have q32:w3.cell? (Qa wr.heap.size 2)=some (Qi (atN xs k).a):=Jc hb3 z2 q22;have q33:w3.cell? (Qa wr.heap.size 3)=some (Qi (atN xs k).b):=Jc hb3 z2 q23;have B3:=zB (B2.trans (hb3.mono B2.size));have G3:=zB (G2.trans (hb3.mono G2.size));clear hb3 hv3));go_wp2;go_ret;exact⟨⟨_,rfl,zQ X⟩,B3⟩
     have B:=zB Y;clear Y;go_wp2_with (go_at_call 238;refine(zAR HC _ rfl _).mono ?_;rintro e w' ⟨rfl,hx⟩;obtain rfl:=hx.symm);go_region_with (first|(go_at_call 239;have HB:=(zC wr (.cells #[Qi (atN xs k).k,Qs (atN xs k).t,Qi (atN xs k).a,Qi (atN xs k).b] 106)).drew;have HX:=(zA F) ((wr.alloc (.cells #[Qi (atN xs k).k,Qs (atN xs k).t,Qi (atN xs k).a,Qi (atN xs k).b] 106)).drew) ad (cp-m) HB R;refine HX.mono ?_;clear HX;rintro e w2 ⟨⟨v2,rfl,hv2⟩,hb2⟩;obtain rfl:v2=true:=hv2.2 U;have z2:wr.heap.size<w2.heap.size:=yl H hb2.size;have q20:w2.cell? (Qa wr.heap.size 0)=some (Qi (atN xs k).k):=Jc hb2 H Q.1;have q21:w2.cell? (Qa wr.heap.size 1)=some (Qs (atN xs k).t):=Jc hb2 H Q.2.1;have q22:w2.cell? (Qa wr.heap.size 2)=some (Qi (atN xs k).a):=Jc hb2 H Q.2.2.1;have q23:w2.cell? (Qa wr.heap.size 3)=some (Qi (atN xs k).b):=Jc hb2 H Q.2.2.2;have B2:=zB (K.trans ((HB.trans (hb2.mono (Nat.le_of_lt H))).mono K.size));have G2:=zB (HB.trans (hb2.mono (Nat.le_of_lt H)));clear hb2 hv2 HB)|(go_at_call 240;refine(zC8 (atN xs k) _ G).mono ?_;rintro e w3 ⟨⟨v3,rfl,hv3⟩,hb3⟩;obtain rfl:v3=true:=hv3.2 B;have q30:w3.cell? (Qa wr.heap.size 0)=some (Qi (atN xs k).k):=Jc hb3 z2 q20;have q31:w3.cell? (Qa wr.heap.size 1)=some (Qs (atN xs k).t):=Jc hb3 z2 q21;have q32:w3.cell? (Qa wr.heap.size 2)=some (Qi (atN xs k).a):=Jc hb3 z2 q22;have q33:w3.cell? (Qa wr.heap.size 3)=some (Qi (atN xs k).b):=Jc hb3 z2 q23;have B3:=zB (B2.trans (hb3.mono B2.size));have G3:=zB (G2.trans (hb3.mono G2.size));clear hb3 hv3));have hp:=zB (zRW (HO.kept (zE G3 none) (yU Jb)) (m:=m) Jo);have h7:w.heap.size<=w3.heap.size:=B3.size;have hG:((ZL st).take m).length=m:=by rw[List.length_take,zB0,<-zA HN];omega
     clear q20 q21 q22 q23 q30 q31 q32 q33 G2 G3 B2 F;go_wp2_with (at_builtin;refine yL _ rfl (.tmp 42) (.tmp 44) 49 rfl w.heap.size 3 i0 _ 1 8 underlying49 HI HZ.1 HZ.2.1 HZ.2.2 rfl Jd _ m (zk ((ZL st).take m)) rfl (hp.alloc _) (Qa w3.heap.size 0) 1 1 (zk [(k:Int)]) rfl rfl (zKN w3 (k:Int)) (zBF _) ?b1 ?b2 ?b3 ?next);case b1=>exact Jm
     case b2=>omega
     case b3=>simp;omega
     case next=>
      intro v4 w4 J y A E;have L:=zB ((B3.alloc B3.size _).grown y Jq (fun q hq=>by simp[Value.ownBlock] at hq;omega));have M:=zB (show w4.ownsRow w.heap.size 3 1 v4 (k::st.drop c).length (zk (ZL (k::st.drop c))) by
       rw[zMj (m:=m) (by rw[<-zA HN];exact(zA f).symm),zAT]
       have:(k::st.drop c).length=m+1:=by have:=zA HN;have:=zA f;simp;omega
       rw[this]
       exact J)
      have h5:=zB (by have:=zA HN;have:=zA f;simp;omega:(k::st.drop c).length<=k+1);have O:=zB (by rw[zDL (zA V),(zA C).1 (zA U)]:stk xs (k+1)=some (k::st.drop c));clear J y A E hp B3;go_wp2_with fail;refine⟨⟨k+1,k::st.drop c,v4,Jo,Jn,rfl,O,M,h5,zB (fun h=>Jo),zB (fun _=>Js),zB (fun j hj=>?_),L⟩,Ji⟩;by_cases e:j=k
      ·subst e;exact B
      ·exact r j Jo
  ·have hb:k=xs.length:=Jo;have d:=zB hb;clear hb;rcases zLf u with⟨hv,T⟩|⟨g,cp,hv,h0,ht,he⟩
   ·subst hv;have X:Hid (¬ Zk xs):=fun h=>by have:=(zA hf) (by have:=h.1;have:=zA d;omega);omega
    go_wp2_with fail;go_ret;exact⟨⟨_,rfl,zQ X⟩,K⟩
   ·subst hv;by_cases D:st.length=1
    ·have hd:=zB (show Zk xs by
      have h1:1<=xs.length:=by have:=zA I;have:=zA d;omega
      exact⟨h1,Jo,(zHa h1).2 ⟨st,by rw[<-zA d];exact V,D⟩,fun i hi=>r i (Jy (zA d))⟩)
     rw[D];clear D;go_wp2_with fail;go_ret;exact⟨⟨_,rfl,Zb hd⟩,K⟩
    ·have X:=zB (show ¬ Zk xs from fun h=>by
      obtain⟨st',h4,h3⟩:=(zHa h.1).1 h.2.2.1
      have e:=zA V
      rw[zA d,h4] at e
      injection e with e
      subst e
      exact D h3)
     have hA:((st.length:Int)==1)=false:=Jq;clear D;go_wp2_with fail;go_ret;exact⟨⟨_,rfl,zQ X⟩,K⟩
end Go.Proofs.YtadiaghhackbjaaGreatDoor
