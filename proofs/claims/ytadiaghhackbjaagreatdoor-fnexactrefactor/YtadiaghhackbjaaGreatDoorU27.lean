import Derived.Test.YtadiaghhackbjaaGreatDoorU10
import Derived.Test.YtadiaghhackbjaaGreatDoorU22
import Derived.Test.YtadiaghhackbjaaGreatDoorU25
namespace Go.Proofs.YtadiaghhackbjaaGreatDoor
set_option linter.all false
set_option maxHeartbeats 0
set_option maxRecDepth 100000
open Proofs.Tryz RowKit
variable{C b bb bf bo c g m1 m2 n o p r:Nat}{G1 G2:ByteArray -> Option Value}{W:List ZG}{dn:ByteArray -> Int -> Bool}{e v:Value}{ns:List OpR}{st:List ByteArray × Int}{w w' wr:World}
theorem zMY{H:List Int}{k:Nat}(h:k<H.length):H.take (k+1)=H.take k++[atI H k]:=by
 rw[List.take_add_one];simp[atI,List.getD,h]
theorem zON{H:List Int}{i k:Nat}(h:i<k):atI (H.take k) i=atI H i:=by
 simp[atI,List.getD,List.getElem?_take,h]
theorem zMZ(bn cn:Nat)(ns:List zD)(H:List Int)(w:JY)(hw:Zv w bn 0 ns)(hB:bn<w.heap.size)(hl:ns.length<=100000)(h1:1<=ns.length)(hH:H.length=ns.length)(n:∀i,i<ns.length->zTQ (atN ns i) H 0 i)(m:∀i,i<ns.length->0<=atI H i/\atI H i<=100000):Calls prog 69 #[.agg #[Ql bn ns.length cn]] w fun e w'=>e=.returned (Qi (atI H (ns.length-1)))/\Qb w w':=by
 obtain⟨i0,O,g,G,l⟩:=info_parts zMW;have u:=zB O;have X:=zB (yK g (yK G l));have HW:=zB hw;have T:=zB n;have A:=zB m;have f:=zB hH;clear O g G l hw n m hH;have HO:=zB (show((w.alloc (.cells #[Ql bn ns.length cn] 70)).alloc (.cells #[] 3)).ownsRow (w.heap.size+1) 3 1 (Ql (w.heap.size+1) 0 0) 0 (zk []) by
  have h0:=yG (base:=w.heap.size+1) (e:=3) (size:=1) (w.alloc (.cells #[Ql bn ns.length cn] 70)) #[] 0 Js (ym _) rfl
  simpa[zk] using h0)
 have F:Below (w.heap.size+1) (w.alloc (.cells #[Ql bn ns.length cn] 70)) ((w.alloc (.cells #[Ql bn ns.length cn] 70)).alloc (.cells #[] 3)):=(zC _ _).mono Js;go_enter func69,ntmps69;go_wp2_with fail;go_loopw [3,4] (fun hv iv wr=>∃(k go co:Nat),k<=ns.length/\iv=Qi k/\hv = Ql go k co/\Hid (wr.ownsRow (w.heap.size+1) 3 1 (Ql go k co) k (zk (H.take k)))/\Hid (Below (w.heap.size+1) (w.alloc (.cells #[Ql bn ns.length cn] 70)) wr)/\w.heap.size+1<wr.heap.size) (fun _ iv _=>ns.length-(intOf iv).toNat);case atStart=>exact⟨0,w.heap.size+1,0,ym _,rfl,rfl,HO,zB F,Js⟩
 case round=>
  clear HO F;obtain⟨k,go,co,hk,rfl,rfl,y,Y,hz⟩:=hrel;have tc:wr.cell? (Qa w.heap.size 0)=some (Ql bn ns.length cn):=by
   rw[(zA Y).cell (p:=Qa w.heap.size 0) (show w.heap.size<_ by omega)];simp[go_sem]
  have C:Qb w wr:=(zC _ _).trans (Y.mono Jo);have o:=zB (show zGk wr go (H.take k) (H.take k).length by
   have E:(H.take k).length=k:=by rw[List.length_take,zA f];omega
   have ho:=zA y
   refine(zEh (base:=w.heap.size+1) (cap:=co) (e:=3) ?_).2
   rw[E];exact ho)
  have E:(H.take k).length=k:=by rw[List.length_take,zA f];omega
  have L:=zB E;have s:=y.lt go rfl;have v:=zB s;by_cases B:k<ns.length
  ·have r:(k:Int)<(ns.length:Int):=Jo;obtain⟨a0,a1,a2,a3⟩:=((HW) k B).below C hB;rw[yY] at a0 a1 a2 a3;have N:=(zA A) k B;have hf:bn<wr.heap.size:=Jy C.size
   have U:=zB (zMY (H:=H) (k:=k) (by rw[zA f];exact B));have D:=zB (show ∀i,i<k->wr.cell? (Qa go i)=some (Qi (atI H i)) from fun i hi=>by
    have:=o.2.2 i (by rw[zA L];exact hi)
    rw[this,zON hi])
   rcases(zA T) k B with⟨k0,e⟩|⟨k1,a,e1,e2,e3⟩|⟨k2,a,c,e1,e2,e3,e4,e5⟩
   ·have V:=zB k0;have P:=zB e;clear k0 e;go_wp2_with (first|(go_at_call 79;refine(zf V 0 rfl _).mono ?_;rintro e w' ⟨rfl,hx⟩;obtain rfl:=hx.symm)|(at_builtin;refine wpList_append_own _ rfl (.tmp 47) (.tmp 50) 49 rfl (w.heap.size+1) 3 i0 _ 1 8 underlying49 u X.1 X.2.1 X.2.2 rfl Jd _ k (zk (H.take k)) rfl ((y.alloc _).alloc _) (Qa (wr.heap.size+1) 0) 1 1 (zk [1]) rfl rfl (Ju (zEV (wr.alloc (.cells #[Qi (atN ns k).k,Qs (atN ns k).t,Qi (atN ns k).a,Qi (atN ns k).b] 106)) (1))) (zBF _) ?b1 ?b2 ?b3 ?next));case b1=>exact Jm
    case b2=>omega
    case b3=>simp;omega
    case next=>
     intro v4 w4 h K Q;have x:Below (w.heap.size+1) (w.alloc (.cells #[Ql bn ns.length cn] 70)) w4:=((Y.alloc Jo _).alloc Jq _).grown K Jq (fun q hq=>by have:=v.1;simp[Value.ownBlock] at hq;omega);have z4:w.heap.size+1<w4.heap.size:=Jz K.size
     obtain⟨g4,c4,rfl⟩:=ZC h (by simp[Q]);rw[<-zAT,<-zA P,<-zA U] at h;have J:=zB h;have j:=zB x;clear h K Q x;go_wp2_with fail;exact⟨⟨k+1,g4,c4,Jo,Jn,rfl,J,j,z4⟩,Ji⟩
   ·have V:=zB k1;have P:=zB e3;rw[yY] at e1;have ca:=(zA D) a e2;have S:go<wr.heap.size:=v.2;have Z:go≠wr.heap.size:=Jo;have R:=(zA A) a Jo;obtain⟨I,M⟩:=R;have W:(a:Int)<(k:Int):=Jo;rw[e1] at a2;clear k1 e3 e1;go_wp2_with (first|(go_at_call 79;refine(zf V 1 rfl _).mono ?_;rintro e w' ⟨rfl,hx⟩;obtain rfl:=hx.symm)|(at_builtin;refine wpList_append_own _ rfl (.tmp 47) (.tmp 50) 49 rfl (w.heap.size+1) 3 i0 _ 1 8 underlying49 u X.1 X.2.1 X.2.2 rfl Jd _ k (zk (H.take k)) rfl ((y.alloc _).alloc _) (Qa (wr.heap.size+1) 0) 1 1 (zk [atI H a+1]) rfl rfl (Ju (zEV (wr.alloc (.cells #[Qi (atN ns k).k,Qs (atN ns k).t,Qi a,Qi (atN ns k).b] 106)) (atI H a+1))) (zBF _) ?b1 ?b2 ?b3 ?next));case b1=>exact Jm
    case b2=>omega
    case b3=>simp;omega
    case next=>
     intro v4 w4 h K Q;have x:Below (w.heap.size+1) (w.alloc (.cells #[Ql bn ns.length cn] 70)) w4:=((Y.alloc Jo _).alloc Jq _).grown K Jq (fun q hq=>by have:=v.1;simp[Value.ownBlock] at hq;omega);have z4:w.heap.size+1<w4.heap.size:=Jz K.size
     obtain⟨g4,c4,rfl⟩:=ZC h (by simp[Q]);rw[<-zAT,<-zA P,<-zA U] at h;have J:=zB h;have j:=zB x;clear h K Q x;go_wp2_with fail;exact⟨⟨k+1,g4,c4,Jo,Jn,rfl,J,j,z4⟩,Ji⟩
   ·have V:=zB k2;rw[yY] at e1 e2;have ca:=(zA D) a e3;have cc:=(zA D) c e4;have S:go<wr.heap.size:=v.2;have Z:go≠wr.heap.size:=Jo;obtain⟨I,M⟩:=(zA A) a Jo;obtain⟨ha,hb⟩:=(zA A) c Jo;have W:(a:Int)<(k:Int):=Jo;have hc:(c:Int)<(k:Int):=Jo;rw[e1] at a2;rw[e2] at a3;by_cases hg:atI H a<atI H c
    ·have P:=zB (Jo:atI H k=atI H c+1);clear k2 e5 e1 e2 N;go_wp2_with (first|(go_at_call 79;refine(zf V 2 rfl _).mono ?_;rintro e w' ⟨rfl,hx⟩;obtain rfl:=hx.symm)|(at_builtin;refine wpList_append_own _ rfl (.tmp 47) (.tmp 50) 49 rfl (w.heap.size+1) 3 i0 _ 1 8 underlying49 u X.1 X.2.1 X.2.2 rfl Jd _ k (zk (H.take k)) rfl ((y.alloc _).alloc _) (Qa (wr.heap.size+1) 0) 1 1 (zk [atI H c+1]) rfl rfl (Ju (zEV (wr.alloc (.cells #[Qi (atN ns k).k,Qs (atN ns k).t,Qi a,Qi c] 106)) (atI H c+1))) (zBF _) ?b1 ?b2 ?b3 ?next));case b1=>exact Jm
     case b2=>omega
     case b3=>simp;omega
     case next=>
      intro v4 w4 h K Q;have x:Below (w.heap.size+1) (w.alloc (.cells #[Ql bn ns.length cn] 70)) w4:=((Y.alloc Jo _).alloc Jq _).grown K Jq (fun q hq=>by have:=v.1;simp[Value.ownBlock] at hq;omega);have z4:w.heap.size+1<w4.heap.size:=Jz K.size
      obtain⟨g4,c4,rfl⟩:=ZC h (by simp[Q]);rw[<-zAT,<-zA P,<-zA U] at h;have J:=zB h;have j:=zB x;clear h K Q x;go_wp2_with fail;exact⟨⟨k+1,g4,c4,Jo,Jn,rfl,J,j,z4⟩,Ji⟩
    ·have P:=zB (Jo:atI H k=atI H a+1);clear k2 e5 e1 e2 N;go_wp2_with (first|(go_at_call 79;refine(zf V 2 rfl _).mono ?_;rintro e w' ⟨rfl,hx⟩;obtain rfl:=hx.symm)|(at_builtin;refine wpList_append_own _ rfl (.tmp 47) (.tmp 50) 49 rfl (w.heap.size+1) 3 i0 _ 1 8 underlying49 u X.1 X.2.1 X.2.2 rfl Jd _ k (zk (H.take k)) rfl ((y.alloc _).alloc _) (Qa (wr.heap.size+1) 0) 1 1 (zk [atI H a+1]) rfl rfl (Ju (zEV (wr.alloc (.cells #[Qi (atN ns k).k,Qs (atN ns k).t,Qi a,Qi c] 106)) (atI H a+1))) (zBF _) ?b1 ?b2 ?b3 ?next));case b1=>exact Jm
     case b2=>omega
     case b3=>simp;omega
     case next=>
      intro v4 w4 h K Q;have x:Below (w.heap.size+1) (w.alloc (.cells #[Ql bn ns.length cn] 70)) w4:=((Y.alloc Jo _).alloc Jq _).grown K Jq (fun q hq=>by have:=v.1;simp[Value.ownBlock] at hq;omega);have z4:w.heap.size+1<w4.heap.size:=Jz K.size
      obtain⟨g4,c4,rfl⟩:=ZC h (by simp[Q]);rw[<-zAT,<-zA P,<-zA U] at h;have J:=zB h;have j:=zB x;clear h K Q x;go_wp2_with fail;exact⟨⟨k+1,g4,c4,Jo,Jn,rfl,J,j,z4⟩,Ji⟩
  ·have r:¬ (k:Int)<(ns.length:Int):=Jo;have e:k=ns.length:=Jo;subst e;have d:=o.2.2 (ns.length-1) (by rw[zA L];omega);rw[zON Jo] at d;have ec:((ns.length:Int)-1)=((ns.length-1:Nat):Int):=Jo;have hd:((ns.length:Int)-1)<(ns.length:Int):=Jo;have he:(0:Int)<=(ns.length:Int)-1:=Jo;have et:((ns.length:Int)-1).toNat=ns.length-1:=Jo;go_wp2_with fail;go_ret;exact⟨rfl,C⟩
open Go.Maps
theorem zRQ{D:DataW Unit}{s s2:JZ}{kd k2 l2 sd2:Int}{yd:DataW Unit}{yp:List MemPlace}(hD:Maps.has D (klO s kd)=true->∃j,j<ns.length/\(atO ns j).s=s/\(atO ns j).k=kd/\D.atKey (klO s kd) (zA9 ⟨#[]⟩ 0 0 0)=zA9 (atO ns j).s (atO ns j).k (atO ns j).l (atO ns j).sd)(hh:Maps.has D (klO s kd)=true)(hv:zAU (.agg #[.string s2,.int .i64 k2,.int .i64 l2,.int .i64 sd2])=some (yd,yp))(h:∀zd,D.atKey (klO s kd) zd=yd):∃j,j<ns.length/\s=(atO ns j).s/\kd=(atO ns j).k/\s2=(atO ns j).s/\k2=(atO ns j).k/\l2=(atO ns j).l/\sd2=(atO ns j).sd:=by
 obtain⟨j,hj,e1,e2,e3⟩:=hD hh;rw[h] at e3;rw[zEI] at hv;have e4:zA9 s2 k2 l2 sd2=zA9 (atO ns j).s (atO ns j).k (atO ns j).l (atO ns j).sd:=by
  rw[<-e3];injection hv with hv;exact yV Prod.fst hv
 unfold zA9 at e4;simp only[DataW.agg.injEq,List.cons.injEq,DataW.lit.injEq,Lit.string.injEq,Lit.int.injEq,true_and,and_true] at e4;obtain⟨a1,a2,a3,a4⟩:=e4;exact⟨j,hj,e1.symm,e2.symm,by
  apply zET
  have:=yV List.toArray a1
  simpa using this,a2,a3,a4⟩
theorem zWl(hc:zO ns 0){j:Nat}(hj:j<ns.length)(hb:(b:Int)-2=(atO ns j).k):opA ns (rt b (atO ns j).s)=atO ns j:=by
 unfold opA;simp only[rt];rw[zPv hc hj ⟨rfl,hb.symm⟩]
theorem zVT{j:Nat}(hj:j<ns.length):ZF ns (atO ns j).s (atO ns j).k=true:=(Zl _ _ _).2 ⟨j,hj,rfl,rfl⟩
def zVU(w:JY)(g o c:Nat)(ns:List OpR)(ts:List zU)(x:Ending)(w':JY):Prop:=
 ∃p bf bb,x=.returned (Qp p)/\w.heap.size<=p/\Hid (PC w' p g o bf bb ns ts)/\Hid (Z4 w' p g o ts.length c 0 bf bb)
structure zAv(w wr:JY)(ns:List OpR)(D:DataW Unit)(bo p bf bb r C:Nat)(g o n c:Nat)(left:Lit->Bool)(dn:ByteArray->Int->Bool)(cnt m1 m2:Nat)(G1 G2:ByteArray->Option Value):Prop where
 rg:wr.ranges prog 210 zAU bo r ns.length D left cnt
 sub:∀kl,left kl=true->Maps.has D kl=true
 s1:Zx wr bf m1 G1
 s2:Zx wr bb m2 G2
 n1:m1+cnt<=C
 n2:m2+cnt<=C
 f1:BfD (r+1) wr p ns dn G1
 f2:BbD (r+1) wr p ns dn G2
 pr:Z4 wr p g o n c 0 bf bb
 sz:r<wr.heap.size
 bel:Below w.heap.size w wr
theorem Z4.keptO{i:Nat}(h:Z4 w p g o n c i bf bb)(hk:zJ w w' b)(H:p≠b):Z4 w' p g o n c i bf bb:=by
 obtain⟨h0,h1,h2,h3,h4⟩:=h;have k:p<w.heap.size:=block_lt_of_cell h0;exact⟨(hk.cell k H 0).trans h0,(hk.cell k H 1).trans h1,(hk.cell k H 2).trans h2,(hk.cell k H 3).trans h3,(hk.frozen k H 1).trans h4⟩
theorem zJ.of_grown(h:w.grownBy w' (some b)):zJ w w' b:=⟨h.os,h.tape,h.output,h.size,fun i hi H=>h.block i hi (fun x=>H (by injection x))⟩
theorem zAv.step{D:DataW Unit}{left:Lit->Bool}{cnt:Nat}(h:zAv w wr ns D bo p bf bb r C g o n c left dn cnt m1 m2 G1 G2)(hb:Below wr.heap.size wr w'):zAv w w' ns D bo p bf bb r C g o n c left dn cnt m1 m2 G1 G2 where
 rg:=h.rg.kept (zE hb none) Js Js
 sub:=h.sub
 s1:=h.s1.kept (zE hb none) Js
 s2:=h.s2.kept (zE hb none) Js
 n1:=h.n1
 n2:=h.n2
 f1:=h.f1.kept (zJ.of_below hb) (Nat.lt_succ_self r)
 f2:=h.f2.kept (zJ.of_below hb) (Nat.lt_succ_self r)
 pr:=h.pr.below hb
 sz:=yl h.sz hb.size
 bel:=h.bel.trans (hb.mono h.bel.size)
def zLd(B bo p bf bb r:Nat):Prop:=B<=r/\B<=p/\B<=bf/\B<=bb/\p<r/\bf<r/\bb<r/\bf≠bb/\p≠bf/\p≠bb/\bo<B
theorem zAv.next{D:DataW Unit}{left left':Lit->Bool}{cnt cnt':Nat}(h:zAv w wr ns D bo p bf bb r C g o n c left dn cnt m1 m2 G1 G2)(K:zLd w.heap.size bo p bf bb r)(k:w'.ranges prog 210 zAU bo r ns.length D left' cnt')(hl:∀z,left' z=true->left z=true)(hc:cnt'<cnt)(hk:zJ wr w' r):zAv w w' ns D bo p bf bb r C g o n c left' dn cnt' m1 m2 G1 G2:=by
 obtain⟨a1,a2,a3,a4,a5,a6,a7,a8,a9,a10,a11⟩:=K;exact⟨k,fun kl H=>h.sub kl (hl kl H),h.s1.kept (zv hk) (fun e=>by injection e;omega),h.s2.kept (zv hk) (fun e=>by injection e;omega),Jy h.n1,Jy h.n2,
  h.f1.kept hk (Nat.lt_succ_self r),h.f2.kept hk (Nat.lt_succ_self r),h.pr.keptO hk Jo,yl h.sz hk.size,h.bel.trans (hk.below h.bel.size a1)⟩
theorem zAv.put1{D:DataW Unit}{left:Lit->Bool}{dn':ByteArray->Int->Bool}{cnt:Nat}{s:JZ}(h:zAv w wr ns D bo p bf bb r C g o n c left dn cnt m1 m2 G1 G2)(k:zLd w.heap.size bo p bf bb r)(hm:zHJ dn dn' s 1)(hs:s≠opn)(hv:zDx (r+1) wr 184 p (opA ns (rt 3 s)) v)(hn:m1+1+cnt<=C)(H:Zx w' bf (m1+1) (fun t'=>if t'.data=s.data then some v else G1 t'))(hk:zJ wr w' bf):zAv w w' ns D bo p bf bb r C g o n c left dn' cnt (m1+1) m2 (fun t'=>if t'.data=s.data then some v else G1 t') G2:=by
 obtain⟨a1,a2,a3,a4,a5,a6,a7,a8,a9,a10,a11⟩:=k;exact⟨h.rg.kept (zv hk) (fun e=>by injection e;omega) (fun e=>by injection e;omega),h.sub,H,h.s2.kept (zv hk) (fun e=>by injection e;omega),Jo,h.n2,
  (h.f1.put hm hs hv).kept hk Jo,(h.f2.keep hm rfl).kept hk Jo,h.pr.keptO hk Jo,yl h.sz hk.size,h.bel.trans (hk.below h.bel.size a3)⟩
theorem zAv.put2{w wr w':JY}{ns:List OpR}{D:DataW Unit}{bo p bf bb r C:Nat}{g o n c:Nat}{left:Lit->Bool}{dn dn':ByteArray->Int->Bool}{cnt m1 m2:Nat}{G1 G2:ByteArray->Option Value}{s:JZ}{v:Value}(h:zAv w wr ns D bo p bf bb r C g o n c left dn cnt m1 m2 G1 G2)(k:zLd w.heap.size bo p bf bb r)(hm:zHJ dn dn' s 2)(h3:dn s 3=false)(hv:zFf (r+1) wr 185 p (opA ns (rt 4 s)) v)(hn:m2+1+cnt<=C)(H:Zx w' bb (m2+1) (fun t'=>if t'.data=s.data then some v else G2 t'))(hk:zJ wr w' bb):zAv w w' ns D bo p bf bb r C g o n c left dn' cnt m1 (m2+1) G1 (fun t'=>if t'.data=s.data then some v else G2 t'):=by
 obtain⟨a1,a2,a3,a4,a5,a6,a7,a8,a9,a10,a11⟩:=k;exact⟨h.rg.kept (zv hk) (fun e=>by injection e;omega) (fun e=>by injection e;omega),h.sub,h.s1.kept (zv hk) (fun e=>by injection e;omega),H,h.n1,Jo,
  (h.f1.keep hm Jd).kept hk Jo,(h.f2.put2 hm h3 hv).kept hk Jo,h.pr.keptO hk Jo,yl h.sz hk.size,h.bel.trans (hk.below h.bel.size a4)⟩
theorem zAv.put3{w wr w':JY}{ns:List OpR}{D:DataW Unit}{bo p bf bb r C:Nat}{g o n c:Nat}{left:Lit->Bool}{dn dn':ByteArray->Int->Bool}{cnt m1 m2:Nat}{G1 G2:ByteArray->Option Value}{s:JZ}{v:Value}(h:zAv w wr ns D bo p bf bb r C g o n c left dn cnt m1 m2 G1 G2)(k:zLd w.heap.size bo p bf bb r)(hm:zHJ dn dn' s 3)(h2:dn s 2=false)(hv:zDx (r+1) wr 187 p (opA ns (rt 5 s)) v)(hn:m2+1+cnt<=C)(H:Zx w' bb (m2+1) (fun t'=>if t'.data=s.data then some v else G2 t'))(hk:zJ wr w' bb):zAv w w' ns D bo p bf bb r C g o n c left dn' cnt m1 (m2+1) G1 (fun t'=>if t'.data=s.data then some v else G2 t'):=by
 obtain⟨a1,a2,a3,a4,a5,a6,a7,a8,a9,a10,a11⟩:=k;exact⟨h.rg.kept (zv hk) (fun e=>by injection e;omega) (fun e=>by injection e;omega),h.sub,h.s1.kept (zv hk) (fun e=>by injection e;omega),H,h.n1,Jo,
  (h.f1.keep hm Jd).kept hk Jo,(h.f2.put3 hm h2 hv).kept hk Jo,h.pr.keptO hk Jo,yl h.sz hk.size,h.bel.trans (hk.below h.bel.size a4)⟩
theorem zAv.done{D:DataW Unit}{left:Lit->Bool}{cnt:Nat}{ts:List zU}(h:zAv w wr ns D bo p bf bb r C g o ts.length c left (dnL ns left) cnt m1 m2 G1 G2)(H:zLd w.heap.size bo p bf bb r)(hl:∀kl,left kl=false)(ht:zDf w g o ts)(hg:g<w.heap.size):PC wr p g o bf bb ns ts/\Z4 wr p g o ts.length c 0 bf bb:=by
 obtain⟨a1,a2,a3,a4,a5,a6,a7,a8,a9,a10,a11⟩:=H;have e:dnL ns left=ZF ns:=by
  funext t k;unfold dnL;rw[hl];simp
 have f1:=h.f1;have f2:=h.f2;rw[e] at f1 f2;exact⟨⟨Jo,Jo,Jo,ht.below h.bel hg,⟨m1,G1,h.s1,f1.ok Jo⟩,⟨m2,G2,h.s2,f2.ok Jo⟩⟩,h.pr⟩
theorem zLe{left:Lit->Bool}{t:JZ}{k:Int}(h:zGu ns)(ha:(ZF ns t 2=true/\k=3)\/(ZF ns t 3=true/\k=2)):dnL ns left t k=false:=by
 unfold dnL;rcases ha with⟨h1,rfl⟩|⟨h1,rfl⟩
 ·cases e:ZF ns t 3 with
  |false=>rfl
  |true=>exact yR ⟨h1,e⟩ (h t)
 ·cases e:ZF ns t 2 with
  |false=>rfl
  |true=>exact yR ⟨e,h1⟩ (h t)
theorem zKj(bo bs g o c:Nat)(ns:List OpR)(ts:List zU)(w:JY)(hi:Idx w bo bs ns ns.length)(C:zO ns 0)(hp:ZA ns)(hm:ns.length<=1048576)(ht:zDf w g o ts)(hg:g<w.heap.size):Calls prog 95 #[.agg #[.map (some bo),.map (some bs)],.slice (some ⟨g,o,none⟩) ts.length c] w fun x w'=>zVU w g o c ns ts x w'/\Below w.heap.size w w':=by
 have h8:=@run_makeMap prog;obtain⟨⟨D,E,hD⟩,_,_⟩:=hi;have h7:=E.lt;have hf:=zB (zCZ C);have HV:=zB (zB5 (zCZ C));have hv:=zB (zJ0 C);have HC:=zB C;have HZ:=zB hp;have HD:=zB hD;have HT:=zB ht;obtain⟨W3,u⟩:=Jx ((((w.alloc (.cells #[.map (some bo),.map (some bs)] 161)).alloc (.map #[] 0)).alloc (.map #[] 0)).alloc (.cells #[.slice (some ⟨g,o,none⟩) ts.length c,.int .i64 0,.map (some (w.heap.size+1)),.map (some (w.heap.size+1+1))] 206));have X:Below w.heap.size w W3:=by rw[u];exact(((zC _ _).alloc Js _).alloc Jq _).alloc Jq _
 have z3:W3.heap.size=w.heap.size+4:=by rw[u];simp
 have own3:W3.ownsMap prog 210 zAU bo ns.length D:=E.kept (row:=none) ⟨X.os,X.tape,X.output,X.size,fun i hi _=>X.block i hi⟩ Js;have s13:Zx W3 (w.heap.size+1) 0 (fun _=>none):=by
  rw[u];have:=Zx.made (w.alloc (.cells #[.map (some bo),.map (some bs)] 161));simp only[World.size_alloc] at this;exact(this.kept (zE (zC _ _) none) Js).kept (zE (zC _ _) none) Js
 have s23:Zx W3 (w.heap.size+1+1) 0 (fun _=>none):=by
  rw[u];have:=Zx.made ((w.alloc (.cells #[.map (some bo),.map (some bs)] 161)).alloc (.map #[] 0));simp only[World.size_alloc] at this;exact this.kept (zE (zC _ _) none) Js
 have pr3:Z4 W3 (w.heap.size+1+1+1) g o ts.length c 0 (w.heap.size+1) (w.heap.size+1+1):=by
  rw[u];exact⟨Jg,Jg,Jg,Jg,Jg⟩
 have x3:W3.cell? ⟨w.heap.size,0,none⟩=some (.map (some bo)):=by rw[u];simp[go_sem]
 obtain⟨w4,O,s14,k4⟩:=s13.update (ty:=203) underlying203 Jm (t:=⟨#[40]⟩) Jd (.func (.func 141) #[.pointer (some ⟨w.heap.size+1+1+1,0,none⟩)] #[]);have own4:=zB (own3.kept (zv k4) (fun e=>by injection e;omega));have s24:=s23.kept (zv k4) (fun e=>by injection e;omega);have pr4:=pr3.keptO k4 Jo;have x4:w4.cell? ⟨w.heap.size,0,none⟩=some (.map (some bo)):=(k4.cell Jo Jo 0).trans x3;have R:Below w.heap.size w w4:=X.trans (k4.below X.size Jo);have z4:w.heap.size+4<=w4.heap.size:=Jy k4.size
 have hy:=zB (yK s14 (yK s24 (yK pr4 R)));have G:=zB (show zLd w.heap.size bo (w.heap.size+1+1+1) (w.heap.size+1) (w.heap.size+1+1) w4.heap.size from⟨Jo,Jo,Jo,Jo,Jo,Jo,Jo,Jo,Jo,Jo,h7⟩);rw[u] at O;clear s13 s23 pr3 x3 own3 X s14 s24 pr4 R k4 z3 u hD C hp ht;go_enter func95,ntmps95;go_wp2_with (at_range;refine wpList_range_own _ rfl _ 158 rfl 210 33 zKV underlying158 zAU bo ns.length D rfl own4 ?_;intro w0 N a hE);have hr:=zB (show zAv w w0 ns D bo (w.heap.size+1+1+1) (w.heap.size+1) (w.heap.size+1+1) w4.heap.size (Maps.size D+1) g o ts.length c (Maps.has D) (dnL ns (Maps.has D)) (Maps.size D) (0+1) 0 (fun t'=>if t'.data=(⟨#[40]⟩:JZ).data then some (.func (.func 141) #[.pointer (some ⟨w.heap.size+1+1+1,0,none⟩)] #[]) else none) (fun _=>none) by
  obtain⟨h1,h2,h3,h4⟩:=zA hy
  have m:Below w4.heap.size w4 w0:=⟨a.os,a.tape,a.output,a.size,fun i hi=>a.block i hi Js⟩
  have ho:∀t k,dnL ns (Maps.has D) t k=false:=fun t k=>by
   unfold dnL
   cases e:ZF ns t k with
   |false=>rfl
   |true=>
    obtain⟨j,hj,e1,e2⟩:=(Zl _ _ _).1 e
    have:=((HD t k (by rw[<-e1];exact HZ j hj) (by rw[<-e2];exact zHg (hf j hj))).1).2 ⟨j,hj,e1,e2⟩
    rw[this];rfl
  refine⟨N,fun kl h=>h,h1.kept (zE m none) Js,h2.kept (zE m none) Js,Jo,Jo,⟨rfl,fun t hG=>⟨fun _=>yP (fun e=>hG (zET e)),fun e=>?_⟩⟩,fun t=>⟨fun _ _=>rfl,fun e=>?_,fun e=>?_⟩,h3.below m,Jo,h4.trans (m.mono h4.size)⟩
  ·rw[ho] at e;cases e
  ·rw[ho] at e;cases e
  ·rw[ho] at e;cases e)
 have h6:Hid (Maps.size D<=1048576):=yw own4.size_le hm;clear N a hy own4 x4 O E h8;go_loopw [7] (fun _ wr=>∃(left:Lit->Bool)(cnt m1 m2:Nat)(G1 G2:ByteArray->Option Value),Hid (zAv w wr ns D bo (w.heap.size+1+1+1) (w.heap.size+1) (w.heap.size+1+1) w4.heap.size (Maps.size D+1) g o ts.length c left (dnL ns left) cnt m1 m2 G1 G2)) (fun _ wr=>wr.rangeLeft bo w4.heap.size);case atStart=>exact⟨_,_,_,_,_,_,hr⟩
 case round=>
  clear hr hE;obtain⟨left,cnt,m1,m2,G1,G2,P⟩:=hrel;go_wp2_with (at_next;refine wpList_next_ranges _ rfl _ rfl 210 zKV zAU (fun x:ByteArray×Int=>.agg #[.string x.1,.int .i64 x.2]) (fun c:ByteArray×Int×Int×Int=>.agg #[.string c.1,.int .i64 c.2.1,.int .i64 c.2.2.1,.int .i64 c.2.2.2]) (fun key kl h=>zJx h) (fun v y h=>zHG h) bo w4.heap.size ns.length D left cnt rfl P.rg ?_ ?_)
  ·intro hI hC;have h0:=zB (P.done G hC HT hg);have hF:=zB P.bel;go_wp2;go_ret;exact⟨⟨_,_,_,rfl,Jo,zB h0.1,zB h0.2⟩,hF⟩
  ·intro s kd s2 k2 l2 sd2 kl yd yp w1 cnt1 p hu hz hx r hl hs hB hJ;obtain⟨s',kd',he,F,n⟩:=zJw p;simp only[Value.agg.injEq,Array.mk.injEq,List.cons.injEq,Value.string.injEq,Value.int.injEq,true_and,and_true] at he;obtain⟨rfl,rfl⟩:=he;have h9:kl=klO s kd:=by
    have:=zLu F n;rw[this] at p;injection p with p;exact p.symm
   subst h9;obtain⟨q,j,hj,hq,rfl,rfl,rfl,rfl,rfl,rfl⟩:∃q:OpR,∃j,j<ns.length/\atO ns j=q/\s=q.s/\kd=q.k/\s2=q.s/\k2=q.k/\l2=q.l/\sd2=q.sd:=by
    obtain⟨j,hj,e⟩:=zRQ (HD s kd F n).2 (P.sub _ hu) hz hx;exact⟨_,j,hj,rfl,e⟩
   have M:=zB (by rw[<-hq];exact zIo (hf j hj):q.k=1\/q.k=2\/q.k=3);have hA:Hid (q.s≠opn):=fun e=>by have:=(zHk (t:=opn) HV ⟨j,hj,by rw[hq];exact e⟩).1;revert this;decide
   have HB:=zB (by rw[<-hq];exact zVT hj:ZF ns q.s q.k=true);have hn:=zB (zTJ (left:=left) HZ hf F n HB);have hc:=zB (P.next G r (fun z h=>by simp only[Bool.and_eq_true] at h;exact h.1) hl (zJ.of_grown hs));have h5:=zB (by have:=P.n1;omega:m1+1+cnt1<=Maps.size D+1);have hd:=zB (by have:=P.n2;omega:m2+1+cnt1<=Maps.size D+1);have hw:m1<maxLen:=by have:=zA h5;have:=zA h6;unfold maxLen;omega
   have S:m2<maxLen:=by have:=zA hd;have:=zA h6;unfold maxLen;omega
   have Z:=zB P.rg.left_eq;have hb:Hid (∀b:Nat,(b:Int)-2=q.k->opA ns (rt b q.s)=q):=fun b h=>by rw[<-hq] at h ⊢;exact zWl HC hj h
   have A:q.s.size<=maxLen:=F;have ha:=zB hl;have U:=zB (hc.step (zC w1 (.cells #[.string q.s,.int .i64 q.k,.int .i64 q.l,.int .i64 q.sd] 33)));have K:=zB (show OpC (w1.alloc (.cells #[.string q.s,.int .i64 q.k,.int .i64 q.l,.int .i64 q.sd] 33)) w1.heap.size q from⟨Jg,Jg,Jg,Jg⟩);have belD:Below (w1.alloc (.cells #[.string q.s,.int .i64 q.k,.int .i64 q.l,.int .i64 q.sd] 33)).heap.size (w1.alloc (.cells #[.string q.s,.int .i64 q.k,.int .i64 q.l,.int .i64 q.sd] 33)) (w1.alloc (.cells #[.string q.s,.int .i64 q.k,.int .i64 q.l,.int .i64 q.sd] 33)).drew:=(yJ _ _).drew;have hK:w4.heap.size<w1.heap.size:=hc.sz;have T:w1.heap.size≠0:=Jo;have hH:=U.pr.2.2.1;have hM:=U.pr.2.2.2.1;clear p hu hz hx P hs hl hq F n hc r hB;have W:w4.heap.size+1<=(w1.alloc (.cells #[.string q.s,.int .i64 q.k,.int .i64 q.l,.int .i64 q.sd] 33)).drew.heap.size:=Jq;rcases zA M with hk|hk|hk
   ·have e1:(q.k==1)=true:=by rw[hk];rfl
    have HK:=zB hk;have f:w1.heap.size≠w.heap.size+1:=Jo;have B:=zB (by have:=zA hn;rw[hk] at this ⊢;exact this:zHJ (dnL ns left) (dnL ns fun z=>left z&&!z.sameKey (klO q.s q.k)) q.s 1);have d:=zB (hb 3 (by rw[hk];decide));clear hk M HB;go_wp2_with fail;go_region_held (fun w'=>w'.cell? ⟨w.heap.size+1+1+1,2,none⟩=some (.map (some (w.heap.size+1)))/\w'.cell? ⟨w1.heap.size,0,none⟩=some (.string q.s)/\w'.cell? ⟨w1.heap.size,1,none⟩=some (.int .i64 q.k)/\w'.cell? ⟨w1.heap.size,2,none⟩=some (.int .i64 q.l)/\w'.cell? ⟨w1.heap.size,3,none⟩=some (.int .i64 q.sd)) (first|(go_keep;done)|exact⟨J.pr.2.2.1,Q.1,Q.2.1,Q.2.2.1,Q.2.2.2⟩|exact⟨Y.pr.2.2.1,H.1,H.2.1,H.2.2.1,H.2.2.2⟩|exact⟨U.pr.2.2.1,K.1,K.2.1,K.2.2.1,K.2.2.2⟩)
     (first|(go_at_call 142;refine(zJv (w.heap.size+1+1+1) q _ A).mono ?_;rintro x w5 ⟨⟨v,rfl,HR⟩,hb5⟩;have Y:=zB (U.step (belD.trans hb5));have H:=zB (K.kept (zJ.of_below (g:=0) (belD.trans hb5)) T);obtain⟨w6,I,L,V⟩:=Y.s1.update (ty:=203) underlying203 hw (t:=q.s) A v;have J:=zB (Y.put1 G B hA (by rw[zA d];exact(show zDx _ w5 184 (w.heap.size+1+1+1) q v from HR).low W) h5 L V);have Q:=zB (H.kept V f);clear hb5))
    go_wp2_with fail;refine⟨⟨_,_,_,_,_,_,J⟩,?_⟩;rw[zA Z,(zA J).rg.left_eq];exact ha
   ·have e1:(q.k==1)=false:=by rw[hk];rfl
    have e2:(q.k==2)=true:=by rw[hk];rfl
    have HK:=zB hk;have f:w1.heap.size≠w.heap.size+1+1:=Jo;have B:=zB (by have:=zA hn;rw[hk] at this ⊢;exact this:zHJ (dnL ns left) (dnL ns fun z=>left z&&!z.sameKey (klO q.s q.k)) q.s 2);have d:=zB (hb 4 (by rw[hk];decide));have hh:Hid (dnL ns left q.s 3=false):=zLe hv (by have:=zA HB;rw[hk] at this;exact yS ⟨this,rfl⟩);clear hk M HB;go_wp2_with fail;go_region_held (fun w'=>w'.cell? ⟨w.heap.size+1+1+1,3,none⟩=some (.map (some (w.heap.size+1+1)))/\w'.cell? ⟨w1.heap.size,0,none⟩=some (.string q.s)/\w'.cell? ⟨w1.heap.size,1,none⟩=some (.int .i64 q.k)/\w'.cell? ⟨w1.heap.size,2,none⟩=some (.int .i64 q.l)/\w'.cell? ⟨w1.heap.size,3,none⟩=some (.int .i64 q.sd)) (first|(go_keep;done)|exact⟨J.pr.2.2.2.1,Q.1,Q.2.1,Q.2.2.1,Q.2.2.2⟩|exact⟨Y.pr.2.2.2.1,H.1,H.2.1,H.2.2.1,H.2.2.2⟩|exact⟨U.pr.2.2.2.1,K.1,K.2.1,K.2.2.1,K.2.2.2⟩)
     (first|(go_at_call 143;refine(zKe (w.heap.size+1+1+1) q _ A).mono ?_;rintro x w5 ⟨⟨v,rfl,HR⟩,hb5⟩;have Y:=zB (U.step (belD.trans hb5));have H:=zB (K.kept (zJ.of_below (g:=0) (belD.trans hb5)) T);obtain⟨w6,I,L,V⟩:=Y.s2.update (ty:=204) underlying204 S (t:=q.s) A v;have J:=zB (Y.put2 G B hh (by rw[zA d];exact(show zFf _ w5 185 (w.heap.size+1+1+1) q v from HR).low W) hd L V);have Q:=zB (H.kept V f);clear hb5))
    go_wp2_with fail;refine⟨⟨_,_,_,_,_,_,J⟩,?_⟩;rw[zA Z,(zA J).rg.left_eq];exact ha
   ·have e1:(q.k==1)=false:=by rw[hk];rfl
    have e2:(q.k==2)=false:=by rw[hk];rfl
    have e3:(q.k==3)=true:=by rw[hk];rfl
    have HK:=zB hk;have f:w1.heap.size≠w.heap.size+1+1:=Jo;have B:=zB (by have:=zA hn;rw[hk] at this ⊢;exact this:zHJ (dnL ns left) (dnL ns fun z=>left z&&!z.sameKey (klO q.s q.k)) q.s 3);have d:=zB (hb 5 (by rw[hk];decide));have hh:Hid (dnL ns left q.s 2=false):=zLe hv (by have:=zA HB;rw[hk] at this;exact yU ⟨this,rfl⟩);clear hk M HB;go_wp2_with fail;go_region_held (fun w'=>w'.cell? ⟨w.heap.size+1+1+1,3,none⟩=some (.map (some (w.heap.size+1+1)))/\w'.cell? ⟨w1.heap.size,0,none⟩=some (.string q.s)/\w'.cell? ⟨w1.heap.size,1,none⟩=some (.int .i64 q.k)/\w'.cell? ⟨w1.heap.size,2,none⟩=some (.int .i64 q.l)/\w'.cell? ⟨w1.heap.size,3,none⟩=some (.int .i64 q.sd)) (first|(go_keep;done)|exact⟨J.pr.2.2.2.1,Q.1,Q.2.1,Q.2.2.1,Q.2.2.2⟩|exact⟨Y.pr.2.2.2.1,H.1,H.2.1,H.2.2.1,H.2.2.2⟩|exact⟨U.pr.2.2.2.1,K.1,K.2.1,K.2.2.1,K.2.2.2⟩)
     (first|(go_at_call 144;refine(zIb (w.heap.size+1+1+1) q _ A).mono ?_;rintro x w5 ⟨⟨v,rfl,HR⟩,hb5⟩;have Y:=zB (U.step (belD.trans hb5));have H:=zB (K.kept (zJ.of_below (g:=0) (belD.trans hb5)) T);obtain⟨w6,I,L,V⟩:=Y.s2.update (ty:=204) underlying204 S (t:=q.s) A v;have J:=zB (Y.put3 G B hh (by rw[zA d];exact(show zDx _ w5 187 (w.heap.size+1+1+1) q v from HR).low W) hd L V);have Q:=zB (H.kept V f);clear hb5))
    go_wp2_with fail;refine⟨⟨_,_,_,_,_,_,J⟩,?_⟩;rw[zA Z,(zA J).rg.left_eq];exact ha
def zIf(e:Value)(W:List ZG):Prop:=(∃T v,e=.iface T v)/\∀(b:Nat)(v:Value)(ps:List JZ)(last:Int)(w:JY)(st:List ByteArray×Int),zE0 w b v ps last->ps.length+2*W.length<=200000->st=W.foldl put1 (ps,last) ->
 Calls prog 162 #[Qp b,e] w (zFY w b v st)
def zL:Value:=.agg #[Qs ⟨#[]⟩]
theorem zWm(v:Value):∀w,(Instr.typeAssert (.iface 283 v) 216 283 true).run prog w=.ok (.tuple #[v,.bool true]) w:=fun w=>Jk
theorem zVV(v:Value):∀w,(Instr.typeAssert (.iface 285 v) 216 285 true).run prog w=.ok (.tuple #[v,.bool true]) w:=fun w=>Jk
theorem zVW(v:Value):Z0 285 v 283 zL:=fun w=>Jk
theorem zWn(v:Value):Z0 264 v 283 zL/\Z0 264 v 285 zL:=⟨fun w=>Jk,fun w=>Jk⟩
theorem zWo(v:Value):Z0 267 v 283 zL/\Z0 267 v 285 zL:=⟨fun w=>Jk,fun w=>Jk⟩
theorem zVX(v:Value):Z0 268 v 283 zL/\Z0 268 v 285 zL:=⟨fun w=>Jk,fun w=>Jk⟩
theorem zWp(v:Value):Z0 260 v 283 zL/\Z0 260 v 285 zL/\Z0 260 v 264 zP/\Z0 260 v 267 zI/\Z0 260 v 268 zP:=
 ⟨fun w=>Jk,fun w=>Jk,fun w=>Jk,fun w=>Jk,fun w=>Jk⟩
theorem zKD(st:List ByteArray×Int)(x:ZG):(put1 st x).1.length<=st.1.length+2:=by
 unfold put1;simp only[yq,yy,yZ];split<;>simp
theorem zEX:∀(W:List ZG)(st:List ByteArray×Int),(W.foldl put1 st).1.length<=st.1.length+2*W.length
 |[],st=>Js
 |x::r,st=>by
  have h1:=zKD st x;have h2:=zEX r (put1 st x);simp only[List.foldl_cons,yy] at *;omega
theorem zFY.up{w1:JY}(h:Qb w w1){x:Ending}(hp:zFY w1 b v st x w'):zFY w b v st x w':=by
 obtain⟨rfl,v',h1,h2,h3⟩:=hp;have:=h.size;exact⟨rfl,v',h1,zB (zAZ.below h h2),zB (h3.imp id (fun⟨k,a,b⟩=>⟨k,a,Jo⟩))⟩
theorem zFY.join{w1:JY}{v1:Value}(h2:zAZ w w1 b v.ownBlock)(h3:v1.ownBlock=v.ownBlock\/∃k,v1.ownBlock=some k/\w.heap.size<=k){x:Ending}(hp:zFY w1 b v1 st x w'):zFY w b v st x w':=by
 obtain⟨rfl,v',p1,p2,p3⟩:=hp;exact⟨rfl,v',p1,zB (h2.trans p2 h3),zB (h2.at h3 _ p3)⟩
theorem zWq(t:JZ):zIf (zLz t) [⟨t,false,false⟩]:=by
 refine⟨⟨_,_,rfl⟩,?_⟩;intro b v ps last w st h hl H;have n0:=zWm (.agg #[Qs t]);have HP:=zB h;have k:Hid (st=(ps++((if zA4 last 1 then[blk] else[])++[t]),1)):=H;simp only[yy,yZ] at hl;clear h H;unfold zLz;go_enter func162,ntmps162;go_wp2_with fail;refine(zE1 b v ps last 1 t _ (HP.below (zC _ _)) Jo).mono ?_;intro x w1 hp;rw[<-zA k] at hp;obtain⟨rfl,v1,p1,p2,p3⟩:=hp.up (zC _ _);go_wp2_with fail;go_end0;exact⟨rfl,v1,p1,p2,p3⟩
theorem zVY(t:JZ):zIf (zG5 t) [⟨t,false,false⟩]:=by
 refine⟨⟨_,_,rfl⟩,?_⟩;intro b v ps last w st h hl H;have n0:=zVV (.agg #[Qs t]);have n1:=zVW (.agg #[Qs t]);unfold Z0 zL at n1;have HP:=zB h;have k:Hid (st=(ps++((if zA4 last 1 then[blk] else[])++[t]),1)):=H;simp only[yy,yZ] at hl;clear h H;unfold zG5;go_enter func162,ntmps162;go_wp2_with fail;refine(zE1 b v ps last 1 t _ (HP.below (zC _ _)) Jo).mono ?_;intro x w1 hp;rw[<-zA k] at hp;obtain⟨rfl,v1,p1,p2,p3⟩:=hp.up (zC _ _);go_wp2_with fail;go_end0;exact⟨rfl,v1,p1,p2,p3⟩
theorem zWr(he:zIf e W)(p:OpR):zIf (zGV p e) (⟨p.s,true,false⟩::W):=by
 refine⟨⟨_,_,rfl⟩,?_⟩;intro b v ps last w st h hl Q;obtain⟨⟨T,u,rfl⟩,H⟩:=he;have n0:=zSS (.agg #[Qs p.s,Qi p.k,Qi p.l,Qi p.sd,.iface T u]);have n1:=zWn (.agg #[Qs p.s,Qi p.k,Qi p.l,Qi p.sd,.iface T u]);unfold Z0 zL at n1;obtain⟨n1,n2⟩:=n1;have HP:=zB h;have j:b<w.heap.size:=block_lt_of_cell h.c0;have hv:v.ownBlock≠some w.heap.size:=fun e=>Jy ((h.row.lt _ e).2)
 have K:=zEX [⟨p.s,true,false⟩] (ps,last);obtain⟨st1,q⟩:∃st1,Hid (st1=put1 (ps,last) ⟨p.s,true,false⟩):=⟨_,zB rfl⟩;have X:Hid (st1=(ps++((if zA4 last 2 then[blk] else[])++[p.s]),2)):=zA q;have Y:=zB (by rw[Q,List.foldl_cons,<-zA q]:st=W.foldl put1 (st1.1,st1.2));have y:st1.1.length+2*W.length<=200000:=by
  simp only[List.foldl_cons,List.foldl_nil,yy,yZ] at hl K;rw[<-zA q] at K;omega
 simp only[yy] at hl;have HC:=zB H;clear h Q H K;unfold zGV;go_enter func162,ntmps162;go_wp2_with fail;refine(zE1 b v ps last 2 p.s _ (HP.below (zC _ _)) Jo).mono ?_;intro x w1 hp;rw[<-zA X] at hp;obtain⟨rfl,v1,p1,p2,p3⟩:=hp;have q4:w1.cell? (Qa w.heap.size 4)=some (.iface T u):=(p2.cell (b:=w.heap.size) Js Jo hv 4).trans Jg;have HK:=zB (zAZ.below (zC _ _) p2);have HA:=zB (p3.imp id (fun⟨k,a,b⟩=>⟨k,a,by simp at b;omega⟩):v1.ownBlock=v.ownBlock\/∃k,v1.ownBlock=some k/\w.heap.size<=k);clear p2 p3 n0 n1 n2;go_wp2_with fail;refine(HC b v1 st1.1 st1.2 _ st p1 y Y).mono ?_;intro x w2 hp;obtain⟨rfl,v2,r1,r2,r3⟩:=hp.join HK HA;clear q4;go_wp2_with fail;go_end0;exact⟨rfl,v2,r1,r2,r3⟩
theorem zVZ(he:zIf e W)(p:OpR):zIf (zCv p e) (W++[⟨p.s,true,false⟩]):=by
 refine⟨⟨_,_,rfl⟩,?_⟩;intro b v ps last w st h hl Q;obtain⟨⟨T,u,rfl⟩,H⟩:=he;have n0:=zQE (.agg #[Qs p.s,Qi p.k,Qi p.l,Qi p.sd,.iface T u]);have n1:=zVX (.agg #[Qs p.s,Qi p.k,Qi p.l,Qi p.sd,.iface T u]);have n3:=zQD (.agg #[Qs p.s,Qi p.k,Qi p.l,Qi p.sd,.iface T u]);unfold Z0 zL at n1;obtain⟨n1,n2⟩:=n1;obtain⟨_,n3,n4⟩:=n3;unfold Z0 zP at n3;unfold Z0 zI at n4;have HP:=zB h;have Y:b<w.heap.size:=block_lt_of_cell h.c0;have hv:v.ownBlock≠some w.heap.size:=fun e=>Jy ((h.row.lt _ e).2)
 obtain⟨st1,q⟩:∃st1,Hid (st1=W.foldl put1 (ps,last)):=⟨_,zB rfl⟩;have K:=zEX W (ps,last);rw[<-zA q] at K;have y:=zB (by rw[Q,List.foldl_append,<-zA q];rfl:st=(st1.1++((if zA4 st1.2 2 then[blk] else[])++[p.s]),2));simp only[yq,yy,yZ] at hl K;have X:st1.1.length+2<=200000:=Jo;have HC:=zB H;clear h Q H K;unfold zCv;go_enter func162,ntmps162;go_wp2_with fail;refine(HC b v ps last _ st1 (HP.below (zC _ _)) Jo q).mono ?_;intro x w1 hp;obtain⟨rfl,v1,p1,p2,p3⟩:=hp;have q4:w1.cell? (Qa w.heap.size 0)=some (Qs p.s):=(p2.cell (b:=w.heap.size) Js Jo hv 0).trans Jg;have HK:=zB (zAZ.below (zC _ _) p2);have HA:=zB (p3.imp id (fun⟨k,a,b⟩=>⟨k,a,by simp at b;omega⟩):v1.ownBlock=v.ownBlock\/∃k,v1.ownBlock=some k/\w.heap.size<=k);clear p2 p3 n0 n1 n2 n3 n4;go_wp2_with fail;refine(zE1 b v1 st1.1 st1.2 2 p.s _ p1 X).mono ?_;intro x w2 hp;rw[<-zA y] at hp;obtain⟨rfl,v2,r1,r2,r3⟩:=hp.join HK HA;clear q4;go_wp2_with fail;go_end0;exact⟨rfl,v2,r1,r2,r3⟩
theorem zWs{e':Value}{W':List ZG}(he:zIf e W)(J:zIf e' W')(p:OpR):zIf (zFU p e e') (W++(⟨p.s,true,true⟩::W')):=by
 refine⟨⟨_,_,rfl⟩,?_⟩;intro b v ps last w st h hl y;obtain⟨⟨T,u,rfl⟩,K⟩:=he;obtain⟨⟨T',u',rfl⟩,H⟩:=J;have n0:=zST (.agg #[Qs p.s,Qi p.k,Qi p.l,Qi p.sd,.iface T u,.iface T' u']);have n1:=zWo (.agg #[Qs p.s,Qi p.k,Qi p.l,Qi p.sd,.iface T u,.iface T' u']);have n3:=zSQ (.agg #[Qs p.s,Qi p.k,Qi p.l,Qi p.sd,.iface T u,.iface T' u']);unfold Z0 zL at n1;obtain⟨n1,n2⟩:=n1;obtain⟨_,n3⟩:=n3;unfold Z0 zP at n3;have HP:=zB h;have d:b<w.heap.size:=block_lt_of_cell h.c0;have hv:v.ownBlock≠some w.heap.size:=fun e=>Jy ((h.row.lt _ e).2)
 obtain⟨st1,X⟩:∃st1,Hid (st1=W.foldl put1 (ps,last)):=⟨_,zB rfl⟩;have Q:=zEX W (ps,last);rw[<-zA X] at Q;obtain⟨st2,q⟩:∃st2,Hid (st2=put1 st1 ⟨p.s,true,true⟩):=⟨_,zB rfl⟩;have j:=zKD st1 ⟨p.s,true,true⟩;rw[<-zA q] at j;have Y:Hid (st2=(st1.1++((if zA4 st1.2 3 then[blk] else[])++[p.s]),3)):=zA q;have U:=zB (by rw[y,List.foldl_append,<-zA X,List.foldl_cons,<-zA q]:st=W'.foldl put1 (st2.1,st2.2));simp only[yq,yy,yZ] at hl Q;have B:st1.1.length+2<=200000:=Jo;have A:st2.1.length+2*W'.length<=200000:=Jo;have HC:=zB K;have c:=zB H;clear h y K H Q j;unfold zFU;go_enter func162,ntmps162;go_wp2_with fail;refine(HC b v ps last _ st1 (HP.below (zC _ _)) Jo X).mono ?_;intro x w1 hp;obtain⟨rfl,v1,p1,p2,p3⟩:=hp;have q0:w1.cell? (Qa w.heap.size 0)=some (Qs p.s):=(p2.cell (b:=w.heap.size) Js Jo hv 0).trans Jg;have q5:w1.cell? (Qa w.heap.size 5)=some (.iface T' u'):=(p2.cell (b:=w.heap.size) Js Jo hv 5).trans Jg;have HK:=zB (zAZ.below (zC _ _) p2);have hz:w.heap.size<w1.heap.size:=Jz p2.size
 have P:v1.ownBlock≠some w.heap.size:=fun e=>by
  rcases zA p3 with h|⟨k,h1,h2⟩
  ·exact hv (h.symm.trans e)
  ·rw[h1] at e;injection e with e;simp at h2;omega
 have HA:=zB (p3.imp id (fun⟨k,a,b⟩=>⟨k,a,by simp at b;omega⟩):v1.ownBlock=v.ownBlock\/∃k,v1.ownBlock=some k/\w.heap.size<=k);clear p2 p3 n0 n1 n2 n3;go_wp2_with fail;refine(zE1 b v1 st1.1 st1.2 3 p.s _ p1 B).mono ?_;intro x w2 hp;rw[<-zA Y] at hp;obtain⟨rfl,v2,r1,r2,r3⟩:=hp;have s5:w2.cell? (Qa w.heap.size 5)=some (.iface T' u'):=(r2.cell (b:=w.heap.size) hz Jo P 5).trans q5;have V:=zB (HK.trans r2 HA);have C:=zB (HK.at HA _ r3);clear r2 r3 HK HA q0 q5;go_wp2_with fail;refine(c b v2 st2.1 st2.2 _ st r1 A U).mono ?_;intro x w3 hp;obtain⟨rfl,v3,t1,t2,t3⟩:=hp.join V C;clear s5;go_wp2_with fail;go_end0;exact⟨rfl,v3,t1,t2,t3⟩
theorem zWt(he:zIf e W):zIf (zG6 e) (⟨opn,false,false⟩::(W++[⟨zCI,false,false⟩])):=by
 refine⟨⟨_,_,rfl⟩,?_⟩;intro b v ps last w st h hl y;obtain⟨⟨T,u,rfl⟩,H⟩:=he;have n0:=zSR (.agg #[.iface T u]);have n1:=zWp (.agg #[.iface T u]);obtain⟨n1,n2,n3,n4,n5⟩:=n1;unfold Z0 zL at n1 n2;unfold Z0 zP at n3 n5;unfold Z0 zI at n4;have HP:=zB h;have U:b<w.heap.size:=block_lt_of_cell h.c0;have hv:v.ownBlock≠some w.heap.size:=fun e=>Jy ((h.row.lt _ e).2)
 obtain⟨st1,Q⟩:∃st1,Hid (st1=put1 (ps,last) ⟨opn,false,false⟩):=⟨_,zB rfl⟩;have q:=zKD (ps,last) ⟨opn,false,false⟩;rw[<-zA Q] at q;have Y:Hid (st1=(ps++((if zA4 last 1 then[blk] else[])++[⟨#[40]⟩]),1)):=zA Q;obtain⟨st2,K⟩:∃st2,Hid (st2=W.foldl put1 (st1.1,st1.2)):=⟨_,zB rfl⟩;have X:=zEX W (st1.1,st1.2);rw[<-zA K] at X;have p:=zB (show st=(st2.1++((if zA4 st2.2 1 then[blk] else[])++[⟨#[41]⟩]),1) by
  rw[y,List.foldl_cons,<-zA Q,List.foldl_append]
  show List.foldl put1 (List.foldl put1 (st1.1,st1.2) W) _=_
  rw[<-zA K]
  rfl)
 simp only[yq,yy,yZ] at hl q X;have P:st1.1.length+2*W.length<=200000:=Jo;have J:st2.1.length+2<=200000:=Jo;have HC:=zB H;clear h y H q X;unfold zG6;go_enter func162,ntmps162;go_wp2_with fail;refine(zE1 b v ps last 1 ⟨#[40]⟩ _ (HP.below (zC _ _)) Jo).mono ?_;intro x w1 hp;rw[<-zA Y] at hp;obtain⟨rfl,v1,p1,p2,p3⟩:=hp;have q4:w1.cell? (Qa w.heap.size 0)=some (.iface T u):=(p2.cell (b:=w.heap.size) Js Jo hv 0).trans Jg;have HK:=zB (zAZ.below (zC _ _) p2);have HA:=zB (p3.imp id (fun⟨k,a,b⟩=>⟨k,a,by simp at b;omega⟩):v1.ownBlock=v.ownBlock\/∃k,v1.ownBlock=some k/\w.heap.size<=k);clear p2 p3 n0 n1 n2 n3 n4 n5;go_wp2_with fail;refine(HC b v1 st1.1 st1.2 _ st2 p1 P K).mono ?_;intro x w2 hp;obtain⟨rfl,v2,r1,r2,r3⟩:=hp;have j:=zB (HK.trans r2 HA);have V:=zB (HK.at HA _ r3);clear r2 r3 HK HA q4;go_wp2_with fail;refine(zE1 b v2 st2.1 st2.2 1 ⟨#[41]⟩ _ r1 J).mono ?_;intro x w3 hp;rw[<-zA p] at hp;obtain⟨rfl,v3,t1,t2,t3⟩:=hp.join j V;go_wp2_with fail;go_end0;exact⟨rfl,v3,t1,t2,t3⟩
theorem zVa(ns:List OpR):∀T:ET,zE6 ns T->zIf (exT ns T) (yT T):=by
 intro T;induction T with
 |nil=>intro h;exact h.elim
 |node b o t l r ihl ihr=>
  rintro⟨rfl,h⟩;rcases h with⟨h|h,rfl,rfl⟩|⟨rfl,rfl,hl,rfl⟩|⟨h|h,hk,hl,rfl⟩|⟨rfl,hk,hl,hr⟩
  ·subst h;exact zWq t
  ·subst h;exact zVY t
  ·have e:yT (.node 6 0 ByteArray.empty l .nil)=⟨opn,false,false⟩::(yT l++[⟨zCI,false,false⟩]):=by simp[yT,ySy,wS]
   rw[e];exact zWt (ihl hl)
  ·subst h;have e:yT (.node 3 0 t l .nil)=⟨(opA ns (rt 3 t)).s,true,false⟩::yT l:=by rw[zMU hk];simp[yT,ySy,wS]
   rw[e];exact zWr (ihl hl) _
  ·subst h;have e:yT (.node 5 0 t l .nil)=yT l++[⟨(opA ns (rt 5 t)).s,true,false⟩]:=by rw[zMU hk];simp[yT,ySy,wS]
   rw[e];exact zVZ (ihl hl) _
  ·have e:yT (.node 4 0 t l r)=yT l++(⟨(opA ns (rt 4 t)).s,true,true⟩::yT r):=by rw[zMU hk];simp[yT,ySy,wS]
   rw[e];exact zWs (ihl hl) (ihr hr) _
end Go.Proofs.YtadiaghhackbjaaGreatDoor
