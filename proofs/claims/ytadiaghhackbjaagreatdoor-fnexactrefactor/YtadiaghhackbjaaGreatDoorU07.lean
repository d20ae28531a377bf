import Derived.Test.YtadiaghhackbjaaGreatDoorU03
namespace Go.Proofs.YtadiaghhackbjaaGreatDoor
set_option linter.all false
set_option maxHeartbeats 0
set_option maxRecDepth 100000
open Proofs.Tryz RowKit
variable{F:Nat -> List zD}{e u v:Value}{g i:Nat}{ns:List OpR}{w w':World}{xs:List zD}
def zLz(t:JZ):Value:=.iface 283 (.agg #[Qs t])
def zG5(t:JZ):Value:=.iface 285 (.agg #[Qs t])
def zGV(p:OpR)(e:Value):Value:=.iface 264 (.agg #[Qs p.s,Qi p.k,Qi p.l,Qi p.sd,e])
def zCv(p:OpR)(e:Value):Value:=.iface 268 (.agg #[Qs p.s,Qi p.k,Qi p.l,Qi p.sd,e])
def zFU(p:OpR)(e e':Value):Value:=.iface 267 (.agg #[Qs p.s,Qi p.k,Qi p.l,Qi p.sd,e,e'])
def zG6(e:Value):Value:=.iface 260 (.agg #[e])
def opA(ns:List OpR)(o:zD):OpR:=match fnd ns o.t (o.k-2) with
 |some j=>atO ns j
 |none=>⟨ByteArray.empty,0,0,0⟩
def exN(p:OpR)(o:zD)(e e':Value):Value:=
 if o.k=1 then zLz o.t else if o.k=2 then zG5 o.t else if o.k=3 then zGV p e else if o.k=4 then zFU p e e' else if o.k=5 then zCv p e else zG6 e
def exL(ns:List OpR)(xs:List zD):Nat->List Value
 |0=>[]
 |k+1=>exL ns xs k++[exN (opA ns (atN xs k)) (atN xs k) ((exL ns xs k).getD (atN xs k).a.toNat .nilIface) ((exL ns xs k).getD (atN xs k).b.toNat .nilIface)]
theorem zIp(ns:List OpR)(xs:List zD):∀k,(exL ns xs k).length=k
 |0=>rfl
 |k+1=>by simp[exL,zIp ns xs k]
def exS(ns:List OpR)(xs:List zD)(i:Nat):Value:=(exL ns xs (i+1)).getD i .nilIface
theorem zGW(ns:List OpR)(xs:List zD)(i:Nat):exS ns xs i=exN (opA ns (atN xs i)) (atN xs i) ((exL ns xs i).getD (atN xs i).a.toNat .nilIface) ((exL ns xs i).getD (atN xs i).b.toNat .nilIface):=by
 have h:=zIp ns xs i;unfold exS;show(exL ns xs i++[_]).getD i .nilIface=_;simp[List.getD,List.getElem?_append,h]
theorem zC4(ns:List OpR)(xs:List zD):∀k i,i<k->(exL ns xs k).getD i .nilIface=exS ns xs i
 |0,_,h=>yR h (yx _)
 |k+1,i,h=>by
  by_cases e:i=k
  ·subst e;rfl
  ·have hl:=zIp ns xs k;rw[<-zC4 ns xs k i Jo];show(exL ns xs k++[_]).getD i .nilIface=_;simp[List.getD,List.getElem?_append,hl,(Jo:i<k)]
theorem zUT(h1:1<=i)(ha:(atN xs i).a=(i:Int)-1)(e':Value)(hk:zY (atN xs i).k=1):exS ns xs i=exN (opA ns (atN xs i)) (atN xs i) (exS ns xs (i-1)) e':=by
 rw[zGW,ha];have:((i:Int)-1).toNat=i-1:=Jo;rw[this,zC4 ns xs i (i-1) Jo];have h4:(atN xs i).k≠4:=fun e=>by rw[e] at hk;simp[zY] at hk
 simp only[exN,yP h4]
theorem zUU{j:Nat}(h1:1<=i)(ha:(atN xs i).a=(j:Int))(hj:j<i)(hb:(atN xs i).b=(i:Int)-1):exS ns xs i=exN (opA ns (atN xs i)) (atN xs i) (exS ns xs j) (exS ns xs (i-1)):=by
 rw[zGW,ha,hb];have:((i:Int)-1).toNat=i-1:=Jo;rw[this,zC4 ns xs i (i-1) Jo,Int.toNat_natCast,zC4 ns xs i j hj]
def zDp(ns:List OpR)(o:zD)(h:Int)(e:Value):Value:=if zAN ns o<h then zG6 e else e
def ft(ns:List OpR)(xs:List zD):Nat->Nat->Int->Value
 |0,_,_=>.nilIface
 |n+1,i,least=>
  if(atN xs i).k=6 then ft ns xs n (i-1) least
  else if zY (atN xs i).k=0 then zDp ns (atN xs i) least (exN (opA ns (atN xs i)) (atN xs i) .nilIface .nilIface)
  else if zY (atN xs i).k=1 then zDp ns (atN xs i) least (exN (opA ns (atN xs i)) (atN xs i) (ft ns xs n (i-1) (zh ns (atN xs i) false)) .nilIface)
  else zDp ns (atN xs i) least (exN (opA ns (atN xs i)) (atN xs i) (ft ns xs n (atN xs i).a.toNat (zh ns (atN xs i) false)) (ft ns xs n (i-1) (zh ns (atN xs i) true)))
theorem zEt(ns:List OpR)(xs:List zD):∀n m i f,i<n->i<m->frS xs i=some f->∀l,ft ns xs n i l=ft ns xs m i l
 |0,_,_,_,h,_,_=>yR h (yx _)
 |_+1,0,_,_,_,h,_=>yR h (yx _)
 |n+1,m+1,i,f,h,h',hf=>by
  intro l;rcases zBG hf with⟨hk,ha,hb,X⟩|⟨hk,q,ha,Q,H⟩|⟨hk,q,Q,f2,K,y,ha,H⟩
  ·have h6:(atN xs i).k≠6:=fun e=>by rw[e] at hk;simp[zY] at hk
   simp only[ft,yP h6,hk,if_true]
  ·have e:=zEt ns xs n m (i-1) f Jo Jo H;simp only[ft,e];by_cases h6:(atN xs i).k=6
   ·rw[yQ h6,yQ h6]
   ·simp only[yP h6,hk,if_true,Nat.one_ne_zero,if_false]
  ·have h6:(atN xs i).k≠6:=fun e=>by rw[e] at hk;simp[zY] at hk
   have x:=zAD K;have e1:=zEt ns xs n m (i-1) f2 Jo Jo K;have e2:=zEt ns xs n m (f2-1) f Jo Jo H;have ea:(atN xs i).a.toNat=f2-1:=Jo;simp only[ft,yP h6,ea,e1,e2]
def fS(ns:List OpR)(xs:List zD)(i:Nat)(l:Int):Value:=ft ns xs (i+1) i l
theorem zIq(hk:zY (atN xs i).k=0)(l:Int):fS ns xs i l=zDp ns (atN xs i) l (exN (opA ns (atN xs i)) (atN xs i) .nilIface .nilIface):=by
 have h6:(atN xs i).k≠6:=fun e=>by rw[e] at hk;simp[zY] at hk
 simp only[fS,ft,yP h6,hk,if_true]
theorem zJb{f:Nat}(hk:(atN xs i).k=6)(h1:1<=i)(hf:frS xs (i-1)=some f)(l:Int):fS ns xs i l=fS ns xs (i-1) l:=by
 have e:fS ns xs i l=ft ns xs i (i-1) l:=by simp only[fS,ft,yQ hk]
 rw[e];exact zEt ns xs _ _ _ f Jo Jo hf l
theorem zL0{f:Nat}(hk:zY (atN xs i).k=1)(h6:(atN xs i).k≠6)(h1:1<=i)(hf:frS xs (i-1)=some f)(l:Int):fS ns xs i l=zDp ns (atN xs i) l (exN (opA ns (atN xs i)) (atN xs i) (fS ns xs (i-1) (zh ns (atN xs i) false)) .nilIface):=by
 have e:=zEt ns xs i (i-1+1) (i-1) f Jo Jo hf;unfold fS;conv=>lhs;unfold ft
 simp only[yP h6,hk,if_true,Nat.one_ne_zero,if_false,e]
theorem zO2{f f2:Nat}(hk:zY (atN xs i).k=2)(h1:1<=i)(h:frS xs (i-1)=some f2)(h2:1<=f2)(ha:(atN xs i).a=(f2:Int)-1)(hf:frS xs (f2-1)=some f)(l:Int):fS ns xs i l=zDp ns (atN xs i) l (exN (opA ns (atN xs i)) (atN xs i) (fS ns xs (f2-1) (zh ns (atN xs i) false)) (fS ns xs (i-1) (zh ns (atN xs i) true))):=by
 have h6:(atN xs i).k≠6:=fun e=>by rw[e] at hk;simp[zY] at hk
 have H:=zAD h;have e1:=zEt ns xs i (i-1+1) (i-1) f2 Jo Jo h;have e2:=zEt ns xs i (f2-1+1) (f2-1) f Jo Jo hf;have ea:(atN xs i).a.toNat=f2-1:=Jo;unfold fS;conv=>lhs;unfold ft
 simp only[yP h6,ea,e1,e2,hk];rfl
def zGA(e:Value)(l:Int):Prop:=∃T v f r,e=.iface T v/\(∀w,(method 451 T v "loop.example/s0059/impl.level").run prog w=.ok (f,r) w)/\(∀a w,(callFunc f a).run prog w=.ok (.enter f a) w) /\
 ∀w,Calls prog f #[r] w fun x w'=>x=.returned (Qi l)/\Qb w w'
theorem zEu(w:JY):Calls prog 269 #[.agg #[]] w fun x w'=>x=.returned (Qi 1001)/\Qb w w':=by
 go_enter func269,ntmps269;go_wp2_with fail;go_ret;exact⟨rfl,by first|exact zC _ _|exact yJ _ _⟩
theorem zDR(p:OpR)(w:JY):Calls prog 272 #[.agg #[Qs p.s,Qi p.k,Qi p.l,Qi p.sd]] w fun x w'=>x=.returned (Qi p.l)/\Qb w w':=by
 go_enter func272,ntmps272;go_wp2_with fail;go_ret;exact⟨rfl,by first|exact zC _ _|exact yJ _ _⟩
theorem zQA(t:JZ):zGA (zLz t) 1001:=⟨_,_,269,.agg #[],rfl,fun w=>Jk,fun a w=>Jk,zEu⟩
theorem zNZ(t:JZ):zGA (zG5 t) 1001:=⟨_,_,269,.agg #[],rfl,fun w=>Jk,fun a w=>Jk,zEu⟩
theorem zUV(e:Value):zGA (zG6 e) 1001:=⟨_,_,269,.agg #[],rfl,fun w=>Jk,fun a w=>Jk,zEu⟩
theorem zQB(p:OpR)(e:Value):zGA (zGV p e) p.l:=⟨_,_,272,.agg #[Qs p.s,Qi p.k,Qi p.l,Qi p.sd],rfl,fun w=>Jk,fun a w=>Jk,zDR p⟩
theorem zNa(p:OpR)(e:Value):zGA (zCv p e) p.l:=⟨_,_,272,.agg #[Qs p.s,Qi p.k,Qi p.l,Qi p.sd],rfl,fun w=>Jk,fun a w=>Jk,zDR p⟩
theorem zQC(p:OpR)(e e':Value):zGA (zFU p e e') p.l:=⟨_,_,272,.agg #[Qs p.s,Qi p.k,Qi p.l,Qi p.sd],rfl,fun w=>Jk,fun a w=>Jk,zDR p⟩
def zCp(w:JY)(g m:Nat):Prop:=w.cell? (Qa g 0)=some (Qi m)/\w.frozen? (Qa g 0)=false
theorem zCp.below{m:Nat}(h:zCp w g m)(hb:Qb w w'):zCp w' g m:=
 ⟨Jc hb (block_lt_of_cell h.1) h.1,(hb.frozen (p:=Qa g 0) (block_lt_of_cell h.1)).trans h.2⟩
theorem zCp.set{m:Nat}(h:zCp w g m)(n:Nat):zCp (w.setCell (Qa g 0) (Qi n)) g n:=
 ⟨yt _ _ _ h.1,(yv _ _ _ _).trans h.2⟩
theorem zJ.setG(v:Value):zJ w (w.setCell (Qa g 0) v) g:=⟨rfl,rfl,rfl,Jt,fun _ _ hi=>je _ _ _ _ hi⟩
def zL1(l h:Int):Nat:=if l<h then 2 else 1
def zG7(l h:Int)(e:Value):Value:=if l<h then zG6 e else e
theorem zDq{l:Int}(h:zGA e l)(g m:Nat)(H:Int)(w:JY)(hg:zCp w g m)(hm:m<=100000):Calls prog 222 #[Qp g,e,Qi H] w fun x w'=>x=.returned (zG7 l H e)/\Hid (zCp w' g (m+zL1 l H))/\Hid (zJ w w' g):=by
 obtain⟨T,v,f,r,rfl,j,Y,k⟩:=h;have HC:=zB k;have c0:=hg.1;have f0:=hg.2;have p:=block_lt_of_cell hg.1;have Q:=zB (hg.set (m+1));have e1:((m+1:Nat):Int)=(m:Int)+1:=Jo;have e2:((m+1+1:Nat):Int)=(m:Int)+1+1:=Jo;rw[e1] at Q;clear k hg;go_enter func222,ntmps222;go_wp2_with fail;go_call HC _ as x w1 ⟨rfl,hb1⟩;have q:=zB ((zJ.setG (w:=w) (g:=g) (Qi ((m:Int)+1))).trans (zJ.of_below hb1));have K:=zB (Q.below hb1);have c1:=K.1;have f1:=K.2;rw[e1] at c1;clear hb1 Q c0 f0 j Y;by_cases hl:l<H
 ·have y:¬ H<=l:=Jo;have HN:Hid (zL1 l H=2):=yQ hl;have HV:Hid (zG7 l H (.iface T v)=zG6 (.iface T v)):=yQ hl;have X:=zB (K.set (m+1+1));rw[e2] at X;have J:=zB (q.trans (zJ.setG (w:=w1) (g:=g) (Qi ((m:Int)+1+1))));clear K q;go_wp2_with fail;go_ret;exact⟨by rw[zA HV];rfl,by rw[zA HN];exact X,J⟩
 ·have y:H<=l:=Jo;have HN:Hid (zL1 l H=1):=yP hl;have HV:Hid (zG7 l H (.iface T v)=.iface T v):=yP hl;clear hl;go_wp2_with fail;go_ret;exact⟨by rw[zA HV];rfl,by rw[zA HN];exact K,q⟩
theorem zEK(p:OpR)(o:zD)(e e':Value):∃T v,exN p o e e'=.iface T v:=by
 unfold exN;split
 ·exact⟨_,_,rfl⟩
 ·split
  ·exact⟨_,_,rfl⟩
  ·split
   ·exact⟨_,_,rfl⟩
   ·split
    ·exact⟨_,_,rfl⟩
    ·split
     ·exact⟨_,_,rfl⟩
     ·exact⟨_,_,rfl⟩
theorem zCP(ns:List OpR)(xs:List zD)(i:Nat):∃T v,exS ns xs i=.iface T v:=by
 rw[zGW];exact zEK _ _ _ _
theorem zDS(l h:Int)(T:TypeId)(v:Value):∃T' v',zG7 l h (.iface T v)=.iface T' v':=by
 unfold zG7;split
 ·exact⟨_,_,rfl⟩
 ·exact⟨_,_,rfl⟩
def Z0(T:TypeId)(v:Value)(A:TypeId)(z:Value):Prop:=∀w,(Instr.typeAssert (.iface T v) 216 A true).run prog w=.ok (.tuple #[z,.bool false]) w
def zG:Value:=.agg #[.nilIface]
def zP:Value:=.agg #[Qs ⟨#[]⟩,Qi 0,Qi 0,Qi 0,.nilIface]
def zI:Value:=.agg #[Qs ⟨#[]⟩,Qi 0,Qi 0,Qi 0,.nilIface,.nilIface]
theorem zWK(v:Value):Z0 283 v 260 zG/\Z0 283 v 264 zP/\Z0 283 v 267 zI/\Z0 283 v 268 zP:=
 ⟨fun w=>Jk,fun w=>Jk,fun w=>Jk,fun w=>Jk⟩
theorem zUW(v:Value):Z0 285 v 260 zG/\Z0 285 v 264 zP/\Z0 285 v 267 zI/\Z0 285 v 268 zP:=
 ⟨fun w=>Jk,fun w=>Jk,fun w=>Jk,fun w=>Jk⟩
theorem zWL(v:Value):Z0 264 v 260 zG:=fun w=>Jk
theorem zSQ(v:Value):Z0 267 v 260 zG/\Z0 267 v 264 zP:=⟨fun w=>Jk,fun w=>Jk⟩
theorem zQD(v:Value):Z0 268 v 260 zG/\Z0 268 v 264 zP/\Z0 268 v 267 zI:=⟨fun w=>Jk,fun w=>Jk,fun w=>Jk⟩
theorem zSR(v:Value):∀w,(Instr.typeAssert (.iface 260 v) 216 260 true).run prog w=.ok (.tuple #[v,.bool true]) w:=fun w=>Jk
theorem zSS(v:Value):∀w,(Instr.typeAssert (.iface 264 v) 216 264 true).run prog w=.ok (.tuple #[v,.bool true]) w:=fun w=>Jk
theorem zST(v:Value):∀w,(Instr.typeAssert (.iface 267 v) 216 267 true).run prog w=.ok (.tuple #[v,.bool true]) w:=fun w=>Jk
theorem zQE(v:Value):∀w,(Instr.typeAssert (.iface 268 v) 216 268 true).run prog w=.ok (.tuple #[v,.bool true]) w:=fun w=>Jk
def zBV(w:JY)(g m:Nat)(e:Value)(x:Ending)(w':JY):Prop:=x=.returned e/\Hid (zCp w' g m)/\Hid (zJ w w' g)
theorem zNb{T:TypeId}(hn:Z0 T v 260 zG/\Z0 T v 264 zP/\Z0 T v 267 zI/\Z0 T v 268 zP){l:Int}(h:zGA (.iface T v) l)(g m:Nat)(H:Int)(w:JY)(hg:zCp w g m)(hm:m<=100000):Calls prog 200 #[Qp g,.iface T v,Qi H] w (zBV w g (m+zL1 l H) (zG7 l H (.iface T v))):=by
 obtain⟨n1,n2,n3,n4⟩:=hn;unfold Z0 zG at n1;unfold Z0 zP at n2 n4;unfold Z0 zI at n3;have HG:=zB hg;have HL:=zB h;clear hg h;go_enter func200,ntmps200;go_wp2_with fail;go_call zDq HL g m H _ HG hm as x w1 ⟨rfl,h1,h2⟩;obtain⟨T',v',k⟩:=zDS l H T v;rw[k];clear n1 n2 n3 n4;go_wp2_with fail;go_ret;exact⟨by rw[k];rfl,h1,h2⟩
theorem zUX{T:TypeId}(g m:Nat)(h:Int)(w:JY)(he:∃T' v',e=.iface T' v')(hc:∀o,Calls prog 200 #[Qp g,.iface T v,Qi h] (w.alloc o) (zBV (w.alloc o) g m e)):Calls prog 200 #[Qp g,zG6 (.iface T v),Qi h] w (zBV w g m e):=by
 obtain⟨T',v',rfl⟩:=he;have i1:=zSR (.agg #[.iface T v]);have HC:=zB hc;clear hc;unfold zG6;go_enter func200,ntmps200;go_wp2_with fail;go_call HC _ as x w1 ⟨rfl,h1,h2⟩;have h3:=zB ((zJ.of_below (zC _ _)).trans h2);clear i1;go_wp2_with fail;go_ret;exact⟨rfl,h1,h3⟩
theorem ZE{B n:Nat}{e:TypeId}{xs:List Value}(h:w.ownsRow B e 4 u n xs):∃a c,u=.slice a n c:=by
 obtain⟨_,⟨rfl,rfl⟩|⟨g,cap,H,rfl,_⟩⟩:=h
 ·exact⟨none,0,rfl⟩
 ·exact⟨_,_,rfl⟩
def ZK(w:JY)(B:Nat)(u:Value)(us:List zD):Prop:=w.ownsRow B 106 4 u us.length (zT us)
theorem ZK.below{B:Nat}{us:List zD}(h:ZK w B u us)(hb:Qb w w'):ZK w' B u us:=
 World.ownsRow.kept h (zE hb none) (by cases u.ownBlock with
 |none=>exact yS rfl
 |some k=>exact yU Js)
theorem ZK.lt{w:JY}{B:Nat}{u:Value}{us:List zD}(h:ZK w B u us):∀g,u.ownBlock=some g->g<w.heap.size:=fun g hg=>(World.ownsRow.lt h g hg).2
def zAQ(w:JY)(B:Nat)(u:Value)(vs:List zD)(x:Ending)(w':JY):Prop:=
 ∃u',x=.returned u'/\Hid (ZK w' B u' vs)/\Hid (w.grownBy w' u.ownBlock)/\Hid (u'.ownBlock=u.ownBlock\/∃k,u'.ownBlock=some k/\w.heap.size<=k)
def zEL(e:Value)(F:Nat->List zD):Prop:=∃T v f,e=.iface T v/\(∀w,(method 451 T v "loop.example/s0059/impl.appendTo").run prog w=.ok (f,v) w)/\(∀a w,(callFunc f a).run prog w=.ok (.enter f a) w) /\
 ∀(B:Nat)(u:Value)(us vs:List zD)(w:JY),ZK w B u us->B<=w.heap.size->us.length+(F us.length).length<=100000->vs=us++F us.length->Calls prog f #[v,u] w (zAQ w B u vs)
theorem zUY(t:JZ):zEL (zLz t) (fun _=>[⟨1,t,0,0⟩]):=by
 refine⟨_,_,278,rfl,fun w=>Jk,fun a w=>Jk,?_⟩;intro B u us vs w q hB j Y;obtain⟨i0,J,p,y,X⟩:∃i,prog.info? 106=some i/\i.zero=some (.agg #[Qi 0,Qs ⟨#[]⟩,Qi 0,Qi 0])/\i.size=4/\i.bytes=40:=by
  obtain⟨i,hi,hz⟩:=Option.map_eq_some_iff.1 zDK;simp only[Prod.mk.injEq] at hz;exact⟨i,hi,hz.1,hz.2.1,hz.2.2⟩
 have HI:=zB J;have HZ:=zB (yK p (yK y X));clear J p y X;obtain⟨a,c,rfl⟩:=ZE q;have HR:=zB q;have HV:=zB Y;simp only[yy,yZ] at j;clear q Y;go_enter func278,ntmps278;go_wp2_with (at_builtin;refine yL _ rfl (.tmp 5) (.tmp 10) 68 rfl B 106 i0 _ 4 40 underlying68 HI HZ.1 HZ.2.1 HZ.2.2 rfl Jd _ us.length (zT us) rfl ((HR.below (zC _ _)).below (zC _ _)) (Qa (w.heap.size+1) 0) 1 1 (zT [⟨1,t,0,0⟩]) rfl rfl (Ju (Zr (w.alloc _) ⟨1,t,0,0⟩)) (zj _) ?b1 ?b2 ?b3 ?next);case b1=>exact Jm
 case b2=>omega
 case b3=>first|omega|(simp;omega)
 case next=>
  intro v4 w4 K H x Q;have HO:=zB (show ZK w4 B v4 vs by
   rw[zA HV]
   unfold ZK
   rw[ze,yq]
   exact K)
  have HG:=zB (zV ((zC _ _).alloc Js _) H);have HA:Hid (v4.ownBlock=(Value.slice a us.length c).ownBlock\/∃k,v4.ownBlock=some k/\w.heap.size<=k):=Q.imp id (fun h=>⟨_,h,by first|omega|(simp;omega)⟩);clear K H x Q;go_wp2_with fail;go_ret;exact⟨v4,rfl,HO,HG,HA⟩
theorem zSU(t:JZ):zEL (zG5 t) (fun _=>[⟨2,t,0,0⟩]):=by
 refine⟨_,_,279,rfl,fun w=>Jk,fun a w=>Jk,?_⟩;intro B u us vs w q hB j Y;obtain⟨i0,J,p,y,X⟩:∃i,prog.info? 106=some i/\i.zero=some (.agg #[Qi 0,Qs ⟨#[]⟩,Qi 0,Qi 0])/\i.size=4/\i.bytes=40:=by
  obtain⟨i,hi,hz⟩:=Option.map_eq_some_iff.1 zDK;simp only[Prod.mk.injEq] at hz;exact⟨i,hi,hz.1,hz.2.1,hz.2.2⟩
 have HI:=zB J;have HZ:=zB (yK p (yK y X));clear J p y X;obtain⟨a,c,rfl⟩:=ZE q;have HR:=zB q;have HV:=zB Y;simp only[yy,yZ] at j;clear q Y;go_enter func279,ntmps279;go_wp2_with (at_builtin;refine yL _ rfl (.tmp 5) (.tmp 10) 68 rfl B 106 i0 _ 4 40 underlying68 HI HZ.1 HZ.2.1 HZ.2.2 rfl Jd _ us.length (zT us) rfl ((HR.below (zC _ _)).below (zC _ _)) (Qa (w.heap.size+1) 0) 1 1 (zT [⟨2,t,0,0⟩]) rfl rfl (Ju (Zr (w.alloc _) ⟨2,t,0,0⟩)) (zj _) ?b1 ?b2 ?b3 ?next);case b1=>exact Jm
 case b2=>omega
 case b3=>first|omega|(simp;omega)
 case next=>
  intro v4 w4 K H x Q;have HO:=zB (show ZK w4 B v4 vs by
   rw[zA HV]
   unfold ZK
   rw[ze,yq]
   exact K)
  have HG:=zB (zV ((zC _ _).alloc Js _) H);have HA:Hid (v4.ownBlock=(Value.slice a us.length c).ownBlock\/∃k,v4.ownBlock=some k/\w.heap.size<=k):=Q.imp id (fun h=>⟨_,h,by first|omega|(simp;omega)⟩);clear K H x Q;go_wp2_with fail;go_ret;exact⟨v4,rfl,HO,HG,HA⟩
def zEM(F:Nat->List zD)(k:Int)(t:JZ)(s:Nat):List zD:=F s++[⟨k,t,((s+(F s).length:Nat):Int)-1,0⟩]
theorem zDT(h:zEL e F)(k:Int)(t:JZ)(B:Nat)(u:Value)(us vs:List zD)(w:JY)(X:ZK w B u us)(hB:B<=w.heap.size)(Y:us.length+(zEM F k t us.length).length<=100000)(C:vs=us++zEM F k t us.length):Calls prog 271 #[.agg #[e],u,Qi k,Qs t] w (zAQ w B u vs):=by
 obtain⟨i0,d,V,U,b⟩:∃i,prog.info? 106=some i/\i.zero=some (.agg #[Qi 0,Qs ⟨#[]⟩,Qi 0,Qi 0])/\i.size=4/\i.bytes=40:=by
  obtain⟨i,hi,hz⟩:=Option.map_eq_some_iff.1 zDK;simp only[Prod.mk.injEq] at hz;exact⟨i,hi,hz.1,hz.2.1,hz.2.2⟩
 have HI:=zB d;have HZ:=zB (yK V (yK U b));clear d V U b;obtain⟨T,v,f,rfl,hm,D,Q⟩:=h;have HC:=zB Q;obtain⟨a,c,rfl⟩:=ZE X;have HR:=zB X;obtain⟨H,p⟩:∃H,Hid (H=us++F us.length):=⟨_,zB rfl⟩;have g:H.length=us.length+(F us.length).length:=by rw[zA p,yq]
 have G:H.length+1<=100000:=by
  simp only[zEM,yq,yy,yZ] at Y;omega
 have E:=zB (Jo:us.length+(F us.length).length<=100000);have HV:=zB (show vs=H++[⟨k,t,(H.length:Int)-1,0⟩] by
  rw[C,zA p,zEM,yq,yA])
 clear Q X C Y g;go_enter func271,ntmps271;go_wp2_with fail;go_call HC B _ us H _ (HR.below (zC _ _)) Jq E p as x w1 ⟨u1,rfl,hr1,hg1,ho1⟩;obtain⟨a1,c1,rfl⟩:=ZE hr1;have y:=zB (zV (zC _ _) hg1);have J:Hid ((Value.slice a1 H.length c1).ownBlock=(Value.slice a us.length c).ownBlock\/∃k,(Value.slice a1 H.length c1).ownBlock=some k/\w.heap.size<=k):=ho1.imp id (fun⟨k,h1,h2⟩=>⟨k,h1,by simp at h2;omega⟩);have hz:=y.size;clear hg1 ho1 hm D;go_wp2_with (at_builtin;refine yL _ rfl (.tmp 13) (.tmp 20) 68 rfl B 106 i0 _ 4 40 underlying68 HI HZ.1 HZ.2.1 HZ.2.2 rfl Jd _ H.length (zT H) rfl (hr1.below (zC _ _)) (Qa w1.heap.size 0) 1 1 (zT [⟨k,t,(H.length:Int)-1,0⟩]) rfl rfl (Ju (Zr w1 ⟨k,t,(H.length:Int)-1,0⟩)) (zj _) ?b1 ?b2 ?b3 ?next);case b1=>exact Jm
 case b2=>omega
 case b3=>first|omega|(simp;omega)
 case next=>
  intro v4 w4 q K P j;have HO:=zB (show ZK w4 B v4 vs by
   rw[zA HV]
   unfold ZK
   rw[ze,yq]
   exact q)
  have A:=zB (zV (zC _ _) K);have HG:=zB (zX y A J);have HA:=zB (ZZ y J v4.ownBlock (j.imp id (fun h=>⟨_,h,by first|omega|simp⟩)));clear q K P j y A J;go_wp2_with fail;go_ret;exact⟨v4,rfl,HO,HG,HA⟩
theorem zL2{w1:JY}{B:Nat}{vs:List zD}(h:Qb w w1){x:Ending}(hp:zAQ w1 B u vs x w'):zAQ w B u vs x w':=by
 obtain⟨u',rfl,hr,hg,ho⟩:=hp;have:=h.size;exact⟨u',rfl,hr,zB (zV h hg),zB (ho.imp id (fun⟨k,h1,h2⟩=>⟨k,h1,Jo⟩))⟩
theorem zUZ(h:zEL e F):zEL (zG6 e) (zEM F 6 ByteArray.empty):=by
 refine⟨_,_,270,rfl,fun w=>Jk,fun a w=>Jk,?_⟩;intro B u us vs w H hB q K;have HH:=zB h;obtain⟨T,v,f,rfl,hm,Q,k⟩:=h;have HR:=zB H;have HV:=zB K;clear k H K hm Q;go_enter func270,ntmps270;go_wp2_with fail;refine(zDT HH 6 ByteArray.empty B _ us vs _ (HR.below (zC _ _)) Jq q HV).mono ?_;intro x w1 hp;obtain⟨u',rfl,hr,hg,ho⟩:=zL2 (zC _ _) hp;go_wp2_with fail;go_ret;exact⟨u',rfl,hr,hg,ho⟩
theorem zUa(h:zEL e F)(p:OpR):zEL (zGV p e) (zEM F 3 p.s):=by
 refine⟨_,_,273,rfl,fun w=>Jk,fun a w=>Jk,?_⟩;intro B u us vs w H hB q K;have HH:=zB h;obtain⟨T,v,f,rfl,hm,Q,k⟩:=h;have HR:=zB H;have HV:=zB K;clear k H K hm Q;go_enter func273,ntmps273;go_wp2_with fail;refine(zDT HH 3 p.s B _ us vs _ (HR.below (zC _ _)) Jq q HV).mono ?_;intro x w1 hp;obtain⟨u',rfl,hr,hg,ho⟩:=zL2 (zC _ _) hp;go_wp2_with fail;go_ret;exact⟨u',rfl,hr,hg,ho⟩
theorem zSV(h:zEL e F)(p:OpR):zEL (zCv p e) (zEM F 5 p.s):=by
 refine⟨_,_,276,rfl,fun w=>Jk,fun a w=>Jk,?_⟩;intro B u us vs w H hB q K;have HH:=zB h;obtain⟨T,v,f,rfl,hm,Q,k⟩:=h;have HR:=zB H;have HV:=zB K;clear k H K hm Q;go_enter func276,ntmps276;go_wp2_with fail;refine(zDT HH 5 p.s B _ us vs _ (HR.below (zC _ _)) Jq q HV).mono ?_;intro x w1 hp;obtain⟨u',rfl,hr,hg,ho⟩:=zL2 (zC _ _) hp;go_wp2_with fail;go_ret;exact⟨u',rfl,hr,hg,ho⟩
def zNc(F G:Nat->List zD)(t:JZ)(s:Nat):List zD:=(F s++G (s+(F s).length))++[⟨4,t,((s+(F s).length:Nat):Int)-1,((s+(F s).length+(G (s+(F s).length)).length:Nat):Int)-1⟩]
theorem zUb{e':Value}{G:Nat->List zD}(h:zEL e F)(h':zEL e' G)(p:OpR):zEL (zFU p e e') (zNc F G p.s):=by
 refine⟨_,_,274,rfl,fun w=>Jk,fun a w=>Jk,?_⟩;intro B u us vs w Y hB P n;obtain⟨i0,O,M,A,d⟩:∃i,prog.info? 106=some i/\i.zero=some (.agg #[Qi 0,Qs ⟨#[]⟩,Qi 0,Qi 0])/\i.size=4/\i.bytes=40:=by
  obtain⟨i,hi,hz⟩:=Option.map_eq_some_iff.1 zDK;simp only[Prod.mk.injEq] at hz;exact⟨i,hi,hz.1,hz.2.1,hz.2.2⟩
 have HI:=zB O;have HZ:=zB (yK M (yK A d));clear O M A d;obtain⟨T,v,f,rfl,hm,S,y⟩:=h;obtain⟨T',v',f',rfl,ha,N,Q⟩:=h';have HC:=zB y;have R:=zB Q;obtain⟨a,c,rfl⟩:=ZE Y;have HR:=zB Y;obtain⟨H,g⟩:∃H,Hid (H=us++F us.length):=⟨_,zB rfl⟩;have D:H.length=us.length+(F us.length).length:=by rw[zA g,yq]
 obtain⟨K,U⟩:∃K,Hid (K=H++G H.length):=⟨_,zB rfl⟩;have r:K.length=H.length+(G H.length).length:=by rw[zA U,yq]
 have Z:K.length+1<=100000:=by
  simp only[zNc,yq,yy,yZ,<-D] at P;omega
 have t:=zB (Jo:us.length+(F us.length).length<=100000);have W:=zB (Jo:H.length+(G H.length).length<=100000);have hb:H.length<=100000:=Jo;have HV:=zB (show vs=K++[⟨4,p.s,(H.length:Int)-1,(K.length:Int)-1⟩] by
  have e:K=us++(F us.length++G H.length):=U.trans ((yV (·++G H.length) g).trans (yA _ _ _))
  rw[n]
  unfold zNc
  rw[<-D,<-r,<-yA,<-e])
 clear y Y n P Q D r;go_enter func274,ntmps274;go_wp2_with fail;go_call HC B _ us H _ (HR.below (zC _ _)) Jq t g as x w1 ⟨u1,rfl,hr1,hg1,ho1⟩;obtain⟨a1,c1,rfl⟩:=ZE hr1;have E:(Value.slice a us.length c).ownBlock≠some w.heap.size:=fun e=>Jy (HR.lt _ e)
 have q0:w1.cell? (Qa w.heap.size 0)=some (Qs p.s):=(zK hg1 (b:=w.heap.size) Js E 0).trans Jg;have q5:w1.cell? (Qa w.heap.size 5)=some (.iface T' v'):=(zK hg1 (b:=w.heap.size) Js E 5).trans Jg;have J:=zB (zV (zC _ _) hg1);have o:=zB ho1;have C:Hid ((Value.slice a1 H.length c1).ownBlock=(Value.slice a us.length c).ownBlock\/∃k,(Value.slice a1 H.length c1).ownBlock=some k/\w.heap.size<=k):=ho1.imp id (fun⟨k,h1,h2⟩=>⟨k,h1,by simp at h2;omega⟩);have hz:=J.size;have A:w.heap.size+1<=w1.heap.size:=Jz hg1.size
 have L:(Value.slice a1 H.length c1).ownBlock≠some w.heap.size:=fun e=>by
  rcases zA o with h|⟨k,h1,h2⟩
  ·exact E (h.symm.trans e)
  ·rw[h1] at e;injection e with e;simp at h2;omega
 clear hg1 ho1 hm S o;go_wp2_with fail;go_call R B _ H K _ hr1 Jo W U as x w2 ⟨u2,rfl,hr2,hg2,ho2⟩;obtain⟨a2,c2,rfl⟩:=ZE hr2;have r0:w2.cell? (Qa w.heap.size 0)=some (Qs p.s):=(zK hg2 (b:=w.heap.size) Jo L 0).trans q0;have j:=zB (zX J hg2 C);have I:=zB (ZZ J C _ ho2);have d:=j.size;clear hg2 ho2 ha N J C q0 q5 hr1;go_wp2_with (at_builtin;refine yL _ rfl (.tmp 17) (.tmp 27) 68 rfl B 106 i0 _ 4 40 underlying68 HI HZ.1 HZ.2.1 HZ.2.2 rfl Jd _ K.length (zT K) rfl (hr2.below (zC _ _)) (Qa w2.heap.size 0) 1 1 (zT [⟨4,p.s,(H.length:Int)-1,(K.length:Int)-1⟩]) rfl rfl (Ju (Zr w2 ⟨4,p.s,(H.length:Int)-1,(K.length:Int)-1⟩)) (zj _) ?b1 ?b2 ?b3 ?next);case b1=>exact Jm
 case b2=>omega
 case b3=>first|omega|(simp;omega)
 case next=>
  intro v4 w4 X q l V;have HO:=zB (show ZK w4 B v4 vs by
   rw[zA HV]
   unfold ZK
   rw[ze,yq]
   exact X)
  have m:=zB (zV (zC _ _) q);have HG:=zB (zX j m I);have HA:=zB (ZZ j I v4.ownBlock (V.imp id (fun h=>⟨_,h,by first|omega|simp⟩)));clear X q l V j m I;go_wp2_with fail;go_ret;exact⟨v4,rfl,HO,HG,HA⟩
open Go.Deep (BT)
abbrev ET:=BT ByteArray
def tsz:ET->Nat
 |.nil=>0
 |.node _ _ _ l r=>tsz l+tsz r+1
def tN(b:Nat)(t:JZ)(l r:ET)(s:Nat):zD:=
 ⟨(b:Int),t,if zY (b:Int)=0 then 0 else((s+tsz l:Nat):Int)-1,if zY (b:Int)=2 then((s+tsz l+tsz r:Nat):Int)-1 else 0⟩
def nd:ET->Nat->List zD
 |.nil,_=>[]
 |.node b _ t l r,s=>nd l s++nd r (s+tsz l)++[tN b t l r s]
theorem ZX:∀(T:ET)(s:Nat),(nd T s).length=tsz T
 |.nil,_=>rfl
 |.node b o t l r,s=>by simp[nd,tsz,ZX l,ZX r];omega
def Sh:ET->Prop
 |.nil=>False
 |.node b o _ l r=>o=0/\((zY (b:Int)=0/\l=.nil/\r=.nil)\/(zY (b:Int)=1/\Sh l/\r=.nil)\/(zY (b:Int)=2/\Sh l/\Sh r))
theorem Sh.pos:∀{T:ET},Sh T->1<=tsz T
 |.nil,h=>h.elim
 |.node _ _ _ _ _,_=>by simp[tsz]
def zGX(xs:List zD):ET->Nat->Prop
 |.nil,_=>True
 |.node b _ t l r,s=>zGX xs l s/\zGX xs r (s+tsz l)/\atN xs (s+tsz l+tsz r)=tN b t l r s
theorem zCq{ys:List zD}(h:i<xs.length):atN (xs++ys) i=atN xs i:=by
 simp[atN,List.getD,List.getElem?_append,h]
theorem zBW{ys:List zD}(h:xs.length<=i):atN (xs++ys) i=atN ys (i-xs.length):=by
 simp[atN,List.getD,List.getElem?_append_right h]
theorem zUc(pre post:List zD):∀(T:ET)(s:Nat),s=pre.length->zGX (pre++(nd T s++post)) T s:=by
 intro T;induction T generalizing pre post with
 |nil=>intro _ _;trivial
 |node b o t l r ihl ihr=>
  intro s hs;subst hs;refine⟨?_,?_,?_⟩
  ·have:=ihl pre (nd r (pre.length+tsz l)++[tN b t l r pre.length]++post) pre.length rfl;simpa[nd,yA] using this
  ·have:=ihr (pre++nd l pre.length) ([tN b t l r pre.length]++post) (pre.length+tsz l) (by simp[ZX]);simpa[nd,yA] using this
  ·rw[zBW Jo];have e:pre.length+tsz l+tsz r-pre.length=tsz l+tsz r:=Jo;rw[e,zCq (by simp[nd,ZX])];simp only[nd];rw[zBW (by simp[ZX])];simp[ZX,atN]
theorem zFw(T:ET):zGX (nd T 0) T 0:=by
 have:=zUc [] [] T 0 rfl;simpa using this
theorem zNd:∀(T:ET)(s:Nat),zGX xs T s->∀j,j<tsz T->atN xs (s+j)=atN (nd T s) j:=by
 intro T;induction T with
 |nil=>intro s _ j hj;simp[tsz] at hj
 |node b o t l r ihl ihr=>
  rintro s ⟨h1,h2,h3⟩ j hj;simp only[tsz] at hj;simp only[nd];by_cases c1:j<tsz l
  ·rw[ihl s h1 j c1,yA,zCq (by rw[ZX];exact c1)]
  ·by_cases c2:j<tsz l+tsz r
   ·have:=ihr (s+tsz l) h2 (j-tsz l) Jo;have e:s+tsz l+(j-tsz l)=s+j:=Jo;rw[e] at this;rw[this,zCq (by simp[ZX];omega),zBW (by rw[ZX];omega),ZX]
   ·have e:j=tsz l+tsz r:=Jo;subst e;rw[<-Nat.add_assoc,h3,zBW (by simp[ZX])];simp[ZX,atN]
theorem zO3{T:ET}(h:zGX xs T 0)(hl:xs.length=tsz T):xs=nd T 0:=by
 apply List.ext_getElem (by rw[ZX,hl]);intro i h1 h2;have:=zNd T 0 h i Jo;rw[yY] at this;simpa[atN,List.getD,h1,h2] using this
theorem zBu:∀(T:ET)(s:Nat),Sh T->zGX xs T s->frS xs (s+tsz T-1)=some s:=by
 intro T;induction T with
 |nil=>intro s h;exact h.elim
 |node b o t l r ihl ihr=>
  rintro s ⟨_,hsh⟩ ⟨h1,h2,h3⟩;have e:s+tsz (.node b o t l r)-1=s+tsz l+tsz r:=by simp only[tsz];omega
  rw[e];rcases hsh with⟨hk,rfl,rfl⟩|⟨hk,hl,rfl⟩|⟨hk,hl,hr⟩
  ·simp only[tsz,Nat.add_zero] at h3 ⊢;have H:zY (atN xs s).k=0:=by rw[h3];exact hk
   rw[zGl H,yQ];rw[h3];simp[tN,hk]
  ·simp only[tsz,Nat.add_zero] at h3 ⊢;have hp:=hl.pos;have H:zY (atN xs (s+tsz l)).k=1:=by rw[h3];exact hk
   rw[zIl H,yQ]
   ·exact ihl s hl h1
   ·rw[h3];simp[tN,hk];omega
  ·have hp:=hl.pos;have hq:=hr.pos;have H:zY (atN xs (s+tsz l+tsz r)).k=2:=by rw[h3];exact hk
   have f2:=ihr (s+tsz l) hr h2;rw[zIm H Jo (by rw[h3];simp[tN,hk]) f2 Jo (by rw[h3];simp[tN,hk])];exact ihl s hl h1
theorem zDr(xs:List zD)(q:∀i,i<xs.length->0<=(atN xs i).k):∀n i f,i<n->i<xs.length->frS xs i=some f->∃T,Sh T/\f+tsz T=i+1/\zGX xs T f
 |0,_,_,h,_,_=>yR h (yx _)
 |n+1,i,f,h,hi,hf=>by
  have H:(((atN xs i).k.toNat:Nat):Int)=(atN xs i).k:=Int.toNat_of_nonneg (q i hi);rcases zBG hf with⟨hk,ha,hb,P⟩|⟨hk,Y,ha,j,K⟩|⟨hk,Y,j,f2,Q,u,ha,K⟩
  ·refine⟨.node (atN xs i).k.toNat 0 (atN xs i).t .nil .nil,⟨rfl,yS ⟨by rw[H];exact hk,rfl,rfl⟩⟩,by simp[tsz];omega,trivial,trivial,?_⟩;simp only[tsz,Nat.add_zero,tN,H,hk];rw[P];generalize atN xs i=o at *;cases o
   simp_all
  ·have J:=zAD K;obtain⟨T,hs,hz,hl⟩:=zDr xs q n (i-1) f Jo Jo K;have hp:=hs.pos;refine⟨.node (atN xs i).k.toNat 0 (atN xs i).t T .nil,⟨rfl,yU (yS ⟨by rw[H];exact hk,hs,rfl⟩)⟩,by simp[tsz];omega,hl,trivial,?_⟩;have e:f+tsz T+tsz (BT.nil:ET)=i:=by simp[tsz];omega
   rw[e];simp only[tN,H,hk];have e2:((f+tsz T:Nat):Int)-1=(i:Int)-1:=Jo;rw[e2];generalize atN xs i=o at *;cases o
   simp_all
  ·have J:=zAD Q;have v:=zAD K;obtain⟨T1,X,V,y⟩:=zDr xs q n (f2-1) f Jo Jo K;obtain⟨T2,x,U,p⟩:=zDr xs q n (i-1) f2 Jo Jo Q;have hp:=X.pos;have hq:=x.pos;have ef:f+tsz T1=f2:=Jo;refine⟨.node (atN xs i).k.toNat 0 (atN xs i).t T1 T2,⟨rfl,yU (yU ⟨by rw[H];exact hk,X,x⟩)⟩,by simp[tsz];omega,y,by rw[ef];exact p,?_⟩;have e:f+tsz T1+tsz T2=i:=Jo;rw[e];simp only[tN,H,hk];have e2:((f+tsz T1:Nat):Int)-1=(f2:Int)-1:=Jo;have e3:((f+tsz T1+tsz T2:Nat):Int)-1=(i:Int)-1:=Jo;rw[e2,e3];generalize atN xs i=o at *;cases o
   simp_all
theorem zA6.nonneg{o:zD}(h:zA6 o):0<=o.k:=by
 rcases h.2 with⟨h,_⟩|⟨h,_⟩|⟨h,_⟩|⟨h|h|h,_⟩<;>omega
theorem zNe(h:Zk xs):∃T,Sh T/\tsz T=xs.length/\xs=nd T 0:=by
 obtain⟨T,hs,hz,hl⟩:=zDr xs (fun i hi=>(h.2.2.2 i hi).nonneg) xs.length (xs.length-1) 0 (Jy h.1) (Jy h.1) h.2.2.1;have e:tsz T=xs.length:=Jy h.1
 exact⟨T,hs,e,zO3 hl e.symm⟩
def rt(b:Nat)(t:JZ):zD:=⟨(b:Int),t,0,0⟩
def clT(ns:List OpR)(b:Nat)(t:JZ)(h:Int)(T:ET):ET:=if zAN ns (rt b t)<h then .node 6 0 ByteArray.empty T .nil else T
def grT(ns:List OpR):ET->Int->ET
 |.nil,_=>.nil
 |.node b _ t l r,least=>if b=6 then grT ns l least else clT ns b t least (.node b 0 t (grT ns l (zh ns (rt b t) false)) (grT ns r (zh ns (rt b t) true)))
def exT(ns:List OpR):ET->Value
 |.nil=>.nilIface
 |.node b _ t l r=>exN (opA ns (rt b t)) (rt b t) (exT ns l) (exT ns r)
theorem zQF(ns:List OpR)(o:zD)(b:Nat)(t:JZ)(h1:o.k=(b:Int))(h2:o.t=t):zAN ns o=zAN ns (rt b t):=by
 unfold zAN rt;rw[h1,h2]
theorem zEN(ns:List OpR)(o:zD)(b:Nat)(t:JZ)(h1:o.k=(b:Int))(h2:o.t=t)(c:Bool):zh ns o c=zh ns (rt b t) c:=by
 unfold zh rt;rw[h1,h2]
theorem zO4(ns:List OpR)(o:zD)(b:Nat)(t:JZ)(h1:o.k=(b:Int))(h2:o.t=t):opA ns o=opA ns (rt b t):=by
 unfold opA rt;rw[h1,h2]
theorem zO5(p:OpR)(o:zD)(b:Nat)(t:JZ)(h1:o.k=(b:Int))(h2:o.t=t)(e e':Value):exN p o e e'=exN p (rt b t) e e':=by
 unfold exN rt;rw[h1,h2]
theorem zL3(ns:List OpR)(o:zD)(b:Nat)(t:JZ)(h1:o.k=(b:Int))(h2:o.t=t)(h:Int)(s:Nat)(T:ET)(u:List zD)(hu:u=nd T s):zDh ns o h s u=nd (clT ns b t h T) s:=by
 subst hu;unfold zDh clT;rw[zQF ns o b t h1 h2];split
 ·simp only[nd,tN,ZX,tsz];simp[show zY 6=1 from rfl,show zY ((6:Nat):Int)=1 from rfl]
 ·rfl
theorem zUd(ns:List OpR)(xs:List zD):∀(T:ET)(s:Nat),Sh T->zGX xs T s->∀(l:Int)(p:Nat),gS ns xs (s+tsz T-1) l p=nd (grT ns T l) p:=by
 intro T;induction T with
 |nil=>intro s h;exact h.elim
 |node b o t l r ihl ihr=>
  rintro s ⟨h0,hsh⟩ ⟨h1,h2,h3⟩ least p;have e:s+tsz (.node b o t l r)-1=s+tsz l+tsz r:=by simp only[tsz];omega
  rw[e];have hK:(atN xs (s+tsz l+tsz r)).k=(b:Int):=by rw[h3];rfl
  have hT:(atN xs (s+tsz l+tsz r)).t=t:=by rw[h3];rfl
  have K:((atN xs (s+tsz l+tsz r)).k=6)↔b=6:=by rw[hK];omega
  rcases hsh with⟨hk,rfl,rfl⟩|⟨hk,hl,rfl⟩|⟨hk,hl,hr⟩
  ·have H:zY (atN xs (s+tsz (BT.nil:ET)+tsz (BT.nil:ET))).k=0:=by rw[hK];exact hk
   have h6:¬ b=6:=fun e=>by subst e;exact yR hk Jd
   rw[zEm H];simp only[grT,yP h6];refine zL3 ns _ b t hK hT least p _ _ ?_;rw[hK,hT];simp[nd,tN,hk,tsz,grT]
  ·have hp:=hl.pos;simp only[tsz,Nat.add_zero] at hK hT K h3 ⊢;have H:zY (atN xs (s+tsz l)).k=1:=by rw[hK];exact hk
   have q:=zBu l s hl h1;by_cases h6:b=6
   ·rw[zEC (K.2 h6) Jo q,ihl s hl h1];simp only[grT,yQ h6]
   ·rw[zGQ H (fun x=>h6 (K.1 x)) Jo q least p (ihl s hl h1 _ p).symm];simp only[grT,yP h6];rw[zEN ns _ b t hK hT];refine zL3 ns _ b t hK hT least p _ _ ?_;simp[nd,tN,hK,hT,hk,tsz,ZX,grT]
  ·have hp:=hl.pos;have hq:=hr.pos;have H:zY (atN xs (s+tsz l+tsz r)).k=2:=by rw[hK];exact hk
   have h6:¬ b=6:=fun e=>by subst e;exact yR hk Jd
   have f2:=zBu r (s+tsz l) hr h2;have f1:=zBu l s hl h1;rw[zHb H Jo f2 Jo (by rw[h3];simp[tN,hk]) f1 least p (ihl s hl h1 _ p).symm (ihr (s+tsz l) hr h2 _ _).symm];simp only[grT,yP h6];rw[zEN ns _ b t hK hT,zEN ns _ b t hK hT];refine zL3 ns _ b t hK hT least p _ _ ?_;rw[hK,hT];simp[nd,tN,hk,tsz,ZX,Nat.add_assoc]
theorem zJc(ns:List OpR)(o:zD)(b:Nat)(t:JZ)(h1:o.k=(b:Int))(h2:o.t=t)(h:Int)(T:ET)(e:Value)(he:e=exT ns T):zDp ns o h e=exT ns (clT ns b t h T):=by
 subst he;unfold zDp clT;rw[zQF ns o b t h1 h2];split
 ·simp[exT,exN,rt]
 ·rfl
theorem zUe(ns:List OpR)(xs:List zD):∀(T:ET)(s:Nat),Sh T->zGX xs T s->∀(l:Int),fS ns xs (s+tsz T-1) l=exT ns (grT ns T l):=by
 intro T;induction T with
 |nil=>intro s h;exact h.elim
 |node b o t l r ihl ihr=>
  rintro s ⟨h0,hsh⟩ ⟨h1,h2,h3⟩ least;have e:s+tsz (.node b o t l r)-1=s+tsz l+tsz r:=by simp only[tsz];omega
  rw[e];have hK:(atN xs (s+tsz l+tsz r)).k=(b:Int):=by rw[h3];rfl
  have hT:(atN xs (s+tsz l+tsz r)).t=t:=by rw[h3];rfl
  have K:((atN xs (s+tsz l+tsz r)).k=6)↔b=6:=by rw[hK];omega
  rcases hsh with⟨hk,rfl,rfl⟩|⟨hk,hl,rfl⟩|⟨hk,hl,hr⟩
  ·have H:zY (atN xs (s+tsz (BT.nil:ET)+tsz (BT.nil:ET))).k=0:=by rw[hK];exact hk
   have h6:¬ b=6:=fun e=>by subst e;exact yR hk Jd
   rw[zIq H];simp only[grT,yP h6];refine zJc ns _ b t hK hT least _ _ ?_;rw[zO4 ns _ b t hK hT,zO5 _ _ b t hK hT];simp[exT,grT]
  ·have hp:=hl.pos;simp only[tsz,Nat.add_zero] at hK hT K h3 ⊢;have H:zY (atN xs (s+tsz l)).k=1:=by rw[hK];exact hk
   have q:=zBu l s hl h1;by_cases h6:b=6
   ·rw[zJb (K.2 h6) Jo q,ihl s hl h1];simp only[grT,yQ h6]
   ·rw[zL0 H (fun x=>h6 (K.1 x)) Jo q,ihl s hl h1];simp only[grT,yP h6];rw[zEN ns _ b t hK hT];refine zJc ns _ b t hK hT least _ _ ?_;rw[zO4 ns _ b t hK hT,zO5 _ _ b t hK hT];simp[exT,grT]
  ·have hp:=hl.pos;have hq:=hr.pos;have H:zY (atN xs (s+tsz l+tsz r)).k=2:=by rw[hK];exact hk
   have h6:¬ b=6:=fun e=>by subst e;exact yR hk Jd
   have f2:=zBu r (s+tsz l) hr h2;have f1:=zBu l s hl h1;rw[zO2 H Jo f2 Jo (by rw[h3];simp[tN,hk]) f1,ihl s hl h1,ihr (s+tsz l) hr h2];simp only[grT,yP h6];rw[zEN ns _ b t hK hT,zEN ns _ b t hK hT];refine zJc ns _ b t hK hT least _ _ ?_;rw[zO4 ns _ b t hK hT,zO5 _ _ b t hK hT];simp[exT]
structure ZG where
 t:JZ
 o:Bool
 i:Bool
def ZG.zero:ZG:=⟨⟨#[]⟩,false,false⟩
def atW(xs:List ZG)(i:Nat):ZG:=xs.getD i ZG.zero
def opn:ByteArray:=⟨#[40]⟩
def zCI:ByteArray:=⟨#[41]⟩
def blk:ByteArray:=⟨#[32]⟩
abbrev SyR:=Nat×ByteArray
def ySy:ET->List SyR
 |.nil=>[]
 |.node b _ t l r=>
  if b=6 then(6,opn)::(ySy l++[(7,zCI)])
  else if b=3 then(3,t)::ySy l
  else if b=5 then ySy l++[(5,t)]
  else if b=4 then ySy l++((4,t)::ySy r)
  else[(b,t)]
def wS(s:SyR):ZG:=⟨s.2,decide (3<=s.1/\s.1<=5),decide (s.1=4)⟩
def yT(T:ET):List ZG:=(ySy T).map wS
theorem zL4:∀{T:ET},Sh T->1<=(ySy T).length
 |.nil,h=>h.elim
 |.node b o t l r,h=>by
  simp only[ySy];split
  ·simp
  ·split
   ·simp
   ·split
    ·simp
    ·split
     ·simp;omega
     ·simp
theorem zQz:∀{T:ET},Sh T->∀s r,ySy T=s::r->s.1≠4/\s.1≠5/\s.1≠7\/s.1>6\/s.1=0:=by
 intro T;induction T with
 |nil=>intro h;exact h.elim
 |node b o t l r ihl ihr=>
  rintro⟨_,h⟩ s q hq;have app:∀ys:List SyR,Sh l->ySy l++ys=s::q->s.1≠4/\s.1≠5/\s.1≠7\/s.1>6\/s.1=0:=fun ys hl he=>by
   have hp:=zL4 hl;cases e:ySy l with
   |nil=>rw[e] at hp;simp at hp
   |cons a c=>
    rw[e,List.cons_append] at he;injection he with h1 h2;subst h1;exact ihl hl a c e
  simp only[ySy] at hq;split at hq
  ·injection hq with h1 h2;subst h1;exact yS ⟨Js,Js,Js⟩
  ·split at hq
   ·injection hq with h1 h2;subst h1;exact yS ⟨Js,Js,Js⟩
   ·split at hq
    ·rename_i h5;subst h5;rcases h with⟨hk,_⟩|⟨_,hl,_⟩|⟨hk,_⟩
     ·exact yR hk Jd
     ·exact app _ hl hq
     ·exact yR hk Jd
    ·split at hq
     ·rename_i h4;subst h4;rcases h with⟨hk,_⟩|⟨hk,_⟩|⟨_,hl,_⟩
      ·exact yR hk Jd
      ·exact yR hk Jd
      ·exact app _ hl hq
     ·injection hq with h1 h2;subst h1;show b≠4/\b≠5/\b≠7\/b>6\/b=0;omega
theorem zSW{T:ET}(h:Sh T):1<=(yT T).length:=by
 rw[yT,List.length_map];exact zL4 h
theorem zSX{T:ET}(h:Sh T):(atW (yT T) 0).i=false:=by
 cases e:ySy T with
 |nil=>have:=zL4 h;rw[e] at this;simp at this
 |cons s r=>
  have h1:s.1≠4:=by
   rcases zQz h s r e with⟨h1,_⟩|h1|h1<;>omega
  simp[yT,e,atW,wS,h1]
def zQ0(a b:ZG):Bool:=b.i||a.i||(b.o&&a.o)
def zCr(ws:List ZG):Nat->List UInt8
 |0=>[]
 |k+1=>zCr ws k++((if k≠0/\zQ0 (atW ws (k-1)) (atW ws k)=true then[32] else[])++(atW ws k).t.data.toList)
def kW(x:ZG):Int:=if x.i then 3 else if x.o then 2 else 1
def zA4(a b:Int):Bool:=decide (a=3\/b=3\/(a=2/\b=2))
def put1(st:List ByteArray×Int)(x:ZG):List ByteArray×Int:=(st.1++((if zA4 st.2 (kW x) then[blk] else[])++[x.t]),kW x)
def zIZ(ps:List JZ):List UInt8:=(ps.map (fun s=>s.data.toList)).flatten
theorem zNf(a b:List JZ):zIZ (a++b)=zIZ a++zIZ b:=by simp[zIZ]
theorem zSY(a b:ZG):zA4 (kW a) (kW b)=zQ0 a b:=by
 unfold kW zA4 zQ0;cases a.i<;>cases b.i<;>cases a.o<;>cases b.o<;>decide
theorem zSZ(x:ZG)(h:x.i=false):zA4 0 (kW x)=false:=by
 unfold kW zA4;rw[h];cases x.o<;>decide
theorem zO6(ws:List ZG)(k:Nat)(h:k<ws.length):ws.take (k+1)=ws.take k++[atW ws k]:=by
 rw[List.take_succ_eq_append_getElem h];simp[atW,List.getD,h]
theorem zIF(ws:List ZG)(h0:(atW ws 0).i=false):∀k,k<=ws.length->zIZ ((ws.take k).foldl put1 ([],0)).1=zCr ws k/\((ws.take k).foldl put1 ([],0)).2=(if k=0 then 0 else kW (atW ws (k-1)))
 |0,_=>by simp[zIZ,zCr]
 |k+1,hk=>by
  obtain⟨e1,e2⟩:=zIF ws h0 k Jo;rw[zO6 ws k Jo,List.foldl_append];simp only[List.foldl_cons,List.foldl_nil,put1,zNf,e1,e2,zCr];refine⟨?_,Js⟩;congr 1;by_cases h:k=0
  ·subst h;simp[zSZ _ h0,zIZ]
  ·have hb:=zSY (atW ws (k-1)) (atW ws k);simp only[yP h,h,ne_eq,not_false_eq_true,true_and];by_cases hg:zQ0 (atW ws (k-1)) (atW ws k)=true
   ·simp[hg,hb,zIZ,blk]
   ·simp[hg,hb,zIZ]
open Go.Maps
structure zAZ(w w':JY)(p:Nat)(row:Option Nat):Prop where
 os:w'.os=w.os
 tape:w'.tape=w.tape
 output:w'.output=w.output
 size:w.heap.size<=w'.heap.size
 block:∀i,i<w.heap.size->i≠p->some i≠row->w'.heap[i]?=w.heap[i]?
theorem zQ1{W:JY}{p:Nat}{V A B:Value}(h4:∃u,W.cell? ⟨p,4,none⟩=some u)(h5:∃u,W.cell? ⟨p,5,none⟩=some u)(h6:∃u,W.cell? ⟨p,6,none⟩=some u):(((W.setCell ⟨p,6,none⟩ V).setCell ⟨p,4,none⟩ A).setCell ⟨p,5,none⟩ B).cell? ⟨p,4,none⟩=some A/\(((W.setCell ⟨p,6,none⟩ V).setCell ⟨p,4,none⟩ A).setCell ⟨p,5,none⟩ B).cell? ⟨p,5,none⟩=some B /\
  (((W.setCell ⟨p,6,none⟩ V).setCell ⟨p,4,none⟩ A).setCell ⟨p,5,none⟩ B).cell? ⟨p,6,none⟩=some V/\∀o,o<4->(((W.setCell ⟨p,6,none⟩ V).setCell ⟨p,4,none⟩ A).setCell ⟨p,5,none⟩ B).cell? ⟨p,o,none⟩=W.cell? ⟨p,o,none⟩:=by
 obtain⟨u4,h4⟩:=h4;obtain⟨u5,h5⟩:=h5;obtain⟨u6,h6⟩:=h6;have k4:(W.setCell ⟨p,6,none⟩ V).cell? ⟨p,4,none⟩=some u4:=by rw[yj _ _ _ _ (by simp)];exact h4
 have k5:((W.setCell ⟨p,6,none⟩ V).setCell ⟨p,4,none⟩ A).cell? ⟨p,5,none⟩=some u5:=by rw[yj _ _ _ _ (by simp),yj _ _ _ _ (by simp)];exact h5
 refine⟨?_,yt _ _ _ k5,?_,fun o ho=>?_⟩
 ·rw[yj _ _ _ _ (by simp)];exact yt _ _ _ k4
 ·rw[yj _ _ _ _ (by simp),yj _ _ _ _ (by simp)];exact yt _ _ _ h6
 ·rw[yj _ _ _ _ (by simp),yj _ _ _ _ (by simp),yj _ _ _ _ (by simp)]
theorem zCQ(W:JY)(p o:Nat)(V:Value):W.grownBy (W.setCell (Qa p o) V) (some p):=
 ⟨rfl,rfl,rfl,Jt,fun i _ hi=>je _ _ _ _ (fun e=>hi (by rw[e]))⟩
theorem zK9{w4:JY}{p bo bs L Q start q base c n:Nat}{s:JZ}{row:Option Nat}{cs:List Value}{o:Obj}(hc:w.cell? (Qa p 0)=some (.map (some bo))/\w.cell? (Qa p 1)=some (.map (some bs))/\w.cell? (Qa p 2)=some (Qi L))(H:∀o,w4.cell? (Qa p o)=w.cell? (Qa p o))(q3:w4.cell? (Qa p 3)=some (Qs s))(q4:w4.cell? (Qa p 4)=some (Qi Q))(q5:w4.cell? (Qa p 5)=some (Qi start))(q6:w4.cell? (Qa p 6)=some v)(fz:∀o,w4.frozen? (Qa p o)=false)(K:w4.ownsRow base 135 3 (Ql g n c) n cs)(hg:(w.alloc o).drew.grownBy w4 row)(k:¬ g=p):Hid (Sc (((w4.setCell (Qa p 6) (Ql g n c)).setCell (Qa p 4) (Qi q)).setCell (Qa p 5) (Qi q)) p bo bs L s q q (Ql g n c)) /\
  Hid ((((w4.setCell (Qa p 6) (Ql g n c)).setCell (Qa p 4) (Qi q)).setCell (Qa p 5) (Qi q)).ownsRow base 135 3 (Ql g n c) n cs)/\g≠p /\
  zAZ w (((w4.setCell (Qa p 6) (Ql g n c)).setCell (Qa p 4) (Qi q)).setCell (Qa p 5) (Qi q)) p row:=by
 obtain⟨a4,a5,a6,alo⟩:=zQ1 (V:=Ql g n c) (A:=Qi q) (B:=Qi q) ⟨_,q4⟩ ⟨_,q5⟩ ⟨_,q6⟩;have x:∀b:Nat,¬ b=p->some b≠some p:=fun b h e=>h (Option.some.inj e)
 refine⟨zB ⟨(alo 0 Jo).trans ((H 0).trans hc.1),(alo 1 Jo).trans ((H 1).trans hc.2.1),(alo 2 Jo).trans ((H 2).trans hc.2.2),(alo 3 Jo).trans q3,a4,a5,a6,fun o=>?_⟩,zB ?_,k,?_⟩
 ·rw[yv,yv,yv];exact fz o
 ·exact((K.kept (zCQ _ p 6 _) (yU (by simp[Value.ownBlock];exact k))).kept (zCQ _ p 4 _) (yU (by simp[Value.ownBlock];exact k))).kept (zCQ _ p 5 _) (yU (by simp[Value.ownBlock];exact k))
 ·have e1:=hg.size;simp at e1;refine⟨hg.os,hg.tape,hg.output,by simp[World.setCell];omega,fun i hi h1 h2=>?_⟩;rw[je _ _ _ _ (Ju h1),je _ _ _ _ (Ju h1),je _ _ _ _ (Ju h1)];exact(hg.block i Jq h2).trans ((zC w o).block i hi)
theorem zO7(p bo bs L:Nat)(s:JZ)(Q start:Nat)(v:Value)(x q base:Nat)(X:List zU)(w:JY)(h:Sc w p bo bs L s Q start v)(h1:Q<=start)(h2:start<=q)(hq:q<=s.size)(U:w.ownsRow base 135 3 v X.length (zu X))(c:v.ownBlock≠some p)(f:X.length<=20000)(E:base<=w.heap.size):Calls prog 178 #[.pointer (some ⟨p,0,none⟩),Qi x,Qi q] w fun e w'=>e=.returned (.tuple #[])/\∃g cap:Nat,Hid (Sc w' p bo bs L s q q (.slice (some ⟨g,0,none⟩) (X.length+1) cap))/\Hid (w'.ownsRow base 135 3 (.slice (some ⟨g,0,none⟩) (X.length+1) cap) (X.length+1) (zu (X++[⟨(x:Int),s.extract Q start,s.extract start q⟩])))/\g≠p/\zAZ w w' p v.ownBlock:=by
 have hp:p<w.heap.size:=block_lt_of_cell h.c0;obtain⟨c0,c1,c2,c3,c4,c5,c6,fz⟩:=h;have i:(Q:Int)<=(start:Int):=Jo;have F:(start:Int)<=(s.size:Int):=Jo;have G:(start:Int)<=(q:Int):=Jo;have I:(q:Int)<=(s.size:Int):=Jo;have k6:∀o,(w.alloc o).drew.cell? ⟨p,6,none⟩=some v:=fun o=>((zC w o).cell (p:=⟨p,6,none⟩) hp).trans c6
 have HO:=zB U;have HN:=zB c;have HC:=zB (yK c0 (yK c1 c2));clear U c c0 c1 c2;obtain⟨i0,hi,B,C,d⟩:=info_parts zVv;have HI:=zB hi;have HZ:=zB (yK B (yK C d));clear hi B C d;have l:¬ w.heap.size=p:=Jo;go_enter func178,ntmps178;go_wp2_with fail;have hS:(fun W:World=>W.cell? ⟨p,3,none⟩=some (Qs s)/\W.cell? ⟨p,4,none⟩=some (Qi Q)/\W.cell? ⟨p,5,none⟩=some (Qi start)) w.drew:=⟨c3,c4,c5⟩;have HS:=zB hS;have a:=zB (show(fun W:World=>W.cell? ⟨p,3,none⟩=some (Qs s)/\W.cell? ⟨p,4,none⟩=some (Qi Q)/\W.cell? ⟨p,5,none⟩=some (Qi start)) (w.alloc (.cells #[Qi x,Qs (s.extract Q start),Qs (s.extract start q)] 135)).drew from⟨((zC w _).cell (p:=⟨p,3,none⟩) hp).trans c3,((zC w _).cell (p:=⟨p,4,none⟩) hp).trans c4,((zC w _).cell (p:=⟨p,5,none⟩) hp).trans c5⟩);refine wp_region_held_drew (S:=fun W:World=>W.cell? ⟨p,3,none⟩=some (Qs s)/\W.cell? ⟨p,4,none⟩=some (Qi Q)/\W.cell? ⟨p,5,none⟩=some (Qi start)) Jk hS (fun _=>?_);refine tkH 0 hS ?_;refine tkH 1 hS ?_;refine tkH 2 hS ?_;refine tkH 3 hS ?_;refine tkH 5 hS ?_;refine tkH 6 hS ?_;refine tkH 7 hS ?_;refine tkH 8 hS ?_;refine tkH 9 hS ?_;refine tkH 10 hS ?_;refine tkH 11 hS ?_;refine tkH 12 hS ?_;refine tkH 13 hS ?_;refine tkH 14 hS ?_;refine tkH 15 hS ?_;refine tkH 16 hS ?_;refine tkH 17 hS ?_;refine tkH 18 hS ?_;refine tkH 19 hS ?_;refine tkH 20 hS ?_;refine tkH 21 hS ?_;refine tkH 22 hS ?_;refine tkH 23 hS ?_;refine tkH 24 hS ?_;refine tkH 25 hS ?_;refine tkH 26 hS ?_;refine tkH 27 hS ?_;refine tkH 28 hS ?_;refine tkH 29 hS ?_;refine yO (rs:=[4,30]) Jk Js ?_;refine yH rfl (fun K hK=>?_) (yH rfl (fun K hK=>?_) yI)
 ·simp only[yc,ya,yb];go_simp;refine hK.out _ _ hS (fun _=>?_);clear hK;refine yO (rs:=[30]) Jk Js ?_;refine yH rfl (fun K hK=>?_) yI;simp only[yc,ya,yb];go_simp;refine hK.out _ _ a (fun _=>?_);clear hK;refine yO (rs:=[31]) Jk Js ?_;refine yH rfl (fun K hK=>?_) yI;refine step_append_lies _ (by rfl) (.tmp 10) (.tmp 36) 131 (by rfl) base 135 i0 _ 3 40 underlying131 HI HZ.1 HZ.2.1 HZ.2.2 rfl Jd _ X.length (zu X) (by rfl) (HO.alloc _).drew ⟨w.heap.size,0,none⟩ 1 1 (zu [⟨(x:Int),s.extract Q start,s.extract start q⟩]) (by rfl) rfl (fun j u hj=>zFq w ⟨(x:Int),s.extract Q start,s.extract start q⟩ j u hj) (zCz _) Jd Jm Jo Jq _ rfl ?_;intro g4 c4' w4 y H Y D;have k:=fun o=>(H.cell_far ⟨p,o,none⟩ Jq (fun e=>HN e.symm)).trans ((zC w (.cells #[Qi x,Qs (s.extract Q start),Qs (s.extract start q)] 135)).cell (p:=⟨p,o,none⟩) hp)
  have f6:=fun o=>(H.frozen_far ⟨p,o,none⟩ Jq (fun e=>HN e.symm)).trans (((zC w (.cells #[Qi x,Qs (s.extract Q start),Qs (s.extract start q)] 135)).frozen (p:=⟨p,o,none⟩) hp).trans (fz o))
  have q3:=(k 3).trans c3;have q4:=(k 4).trans c4;have q5:=(k 5).trans c5;have q6:=(k 6).trans c6;have HF:=zB k;have A:=zB H;have b:=zB y;have V:¬ g4=p:=fun e=>by
   subst e;rcases Y with h|h
   ·exact HN h
   ·simp at h;omega
  clear k H y Y;refine hK.out _ _ ⟨q3,q4,q5⟩ (fun J=>?_);clear hK;simp only[yc,ya,yb];simp only[Act.put,ye,yg,yh];refine tkH 32 J ?_;refine tkH 33 J ?_;refine yO (rs:=[34]) Jk Js ?_;refine yH rfl (fun K hK=>?_) yI;simp only[yc,ya,yb];go_simp;refine hK.out _ _ ⟨by rw[yj _ _ _ _ (by simp)];exact q3,by rw[yj _ _ _ _ (by simp)];exact q4,by rw[yj _ _ _ _ (by simp)];exact q5⟩ (fun P=>?_);clear hK;refine wpAnyH_done Jk ?_ _;have r4:(w4.setCell ⟨p,6,none⟩ (.slice (some ⟨g4,0,none⟩) (X.length+1) c4')).cell? ⟨p,4,none⟩=some (Qi Q):=P.2.1;have r5:(w4.setCell ⟨p,6,none⟩ (.slice (some ⟨g4,0,none⟩) (X.length+1) c4')).cell? ⟨p,5,none⟩=some (Qi start):=P.2.2;clear J P;go_wp2;go_end0;refine⟨rfl,g4,c4',?_⟩;rw[zB6];exact zK9 HC HF q3 q4 q5 q6 f6 b A V
 ·simp only[yc,ya,yb];go_simp;refine hK.out _ _ a (fun _=>?_);clear hK;refine yO (rs:=[4]) Jk Js ?_;refine yH rfl (fun K hK=>?_) yI;simp only[yc,ya,yb];go_simp;refine hK.out _ _ a (fun _=>?_);clear hK;refine yO (rs:=[31]) Jk Js ?_;refine yH rfl (fun K hK=>?_) yI;refine step_append_lies _ (by rfl) (.tmp 10) (.tmp 36) 131 (by rfl) base 135 i0 _ 3 40 underlying131 HI HZ.1 HZ.2.1 HZ.2.2 rfl Jd _ X.length (zu X) (by rfl) (HO.alloc _).drew ⟨w.heap.size,0,none⟩ 1 1 (zu [⟨(x:Int),s.extract Q start,s.extract start q⟩]) (by rfl) rfl (fun j u hj=>zFq w ⟨(x:Int),s.extract Q start,s.extract start q⟩ j u hj) (zCz _) Jd Jm Jo Jq _ rfl ?_;intro g4 c4' w4 y H Y D;have k:=fun o=>(H.cell_far ⟨p,o,none⟩ Jq (fun e=>HN e.symm)).trans ((zC w (.cells #[Qi x,Qs (s.extract Q start),Qs (s.extract start q)] 135)).cell (p:=⟨p,o,none⟩) hp)
  have f6:=fun o=>(H.frozen_far ⟨p,o,none⟩ Jq (fun e=>HN e.symm)).trans (((zC w (.cells #[Qi x,Qs (s.extract Q start),Qs (s.extract start q)] 135)).frozen (p:=⟨p,o,none⟩) hp).trans (fz o))
  have q3:=(k 3).trans c3;have q4:=(k 4).trans c4;have q5:=(k 5).trans c5;have q6:=(k 6).trans c6;have HF:=zB k;have A:=zB H;have b:=zB y;have V:¬ g4=p:=fun e=>by
   subst e;rcases Y with h|h
   ·exact HN h
   ·simp at h;omega
  clear k H y Y;refine hK.out _ _ ⟨q3,q4,q5⟩ (fun J=>?_);clear hK;simp only[yc,ya,yb];simp only[Act.put,ye,yg,yh];refine tkH 32 J ?_;refine tkH 33 J ?_;refine yO (rs:=[34]) Jk Js ?_;refine yH rfl (fun K hK=>?_) yI;simp only[yc,ya,yb];go_simp;refine hK.out _ _ ⟨by rw[yj _ _ _ _ (by simp)];exact q3,by rw[yj _ _ _ _ (by simp)];exact q4,by rw[yj _ _ _ _ (by simp)];exact q5⟩ (fun P=>?_);clear hK;refine wpAnyH_done Jk ?_ _;have r4:(w4.setCell ⟨p,6,none⟩ (.slice (some ⟨g4,0,none⟩) (X.length+1) c4')).cell? ⟨p,4,none⟩=some (Qi Q):=P.2.1;have r5:(w4.setCell ⟨p,6,none⟩ (.slice (some ⟨g4,0,none⟩) (X.length+1) c4')).cell? ⟨p,5,none⟩=some (Qi start):=P.2.2;clear J P;go_wp2;go_end0;refine⟨rfl,g4,c4',?_⟩;rw[zB6];exact zK9 HC HF q3 q4 q5 q6 f6 b A V
theorem zNg(bo bs n:Nat)(xs:List OpR)(t:JZ)(w:JY)(hi:Idx w bo bs xs n)(hn:n=xs.length)(hk:zJP xs)(ht:t.size<=maxLen):Calls prog 180 #[.agg #[.map (some bo),.map (some bs)],.string t] w fun e w'=>zBD e (opT xs t)/\Below w.heap.size w w':=by
 subst hn;obtain⟨⟨D,k,hD⟩,_,_⟩:=hi;have H1:=zB (hD _ _ ht zXE).1;have H2:=zB (hD _ _ ht zXF).1;have H3:=zB (hD _ _ ht zXG).1;have HK:=zB (zK4 (t:=t) hk);have HO:=zB k;clear hD k hk;go_enter func180,ntmps180;go_wp2_with fail;go_call zDn bo bs xs.length D t 1 _ (HO.alloc _) ht Jd as e w1 ⟨rfl,hb1⟩;have h:Below w.heap.size w w1:=(zC _ _).trans (hb1.mono Js);have z1:w.heap.size<w1.heap.size:=Jz hb1.size
 have c0:w1.cell? ⟨w.heap.size,0,none⟩=some (.map (some bo)):=by rw[hb1.cell (p:=⟨w.heap.size,0,none⟩) Js];simp[go_sem]
 have c1:w1.cell? ⟨w.heap.size,1,none⟩=some (.map (some bs)):=by rw[hb1.cell (p:=⟨w.heap.size,1,none⟩) Js];simp[go_sem]
 have K:=zB ((HO.alloc (.cells #[.map (some bo),.map (some bs)] 161)).kept (w':=w1) (row:=none) ⟨hb1.os,hb1.tape,hb1.output,hb1.size,fun i hi _=>hb1.block i hi⟩ Js);clear HO hb1;cases h1:Maps.has D (klO t 1)
 case true=>
  have G1:=zB h1;go_wp2_with fail;go_ret;exact⟨⟨true,rfl,⟨fun _=>HK.2 (yS (H1.1 G1)),fun _=>rfl⟩⟩,h⟩
 have G1:=zB h1;go_wp2_with fail;go_call zDn bo bs xs.length D t 2 _ K ht Jd as e w2 ⟨rfl,hb2⟩;have H:=h.trans (hb2.mono h.size);have d0:w2.cell? ⟨w.heap.size,0,none⟩=some (.map (some bo)):=(hb2.cell (p:=⟨w.heap.size,0,none⟩) z1).trans c0;have d1:w2.cell? ⟨w.heap.size,1,none⟩=some (.map (some bs)):=(hb2.cell (p:=⟨w.heap.size,1,none⟩) z1).trans c1;have Q:=zB (K.kept (w':=w2) (row:=none) ⟨hb2.os,hb2.tape,hb2.output,hb2.size,fun i hi _=>hb2.block i hi⟩ Js);clear K hb2 c0 c1;cases h2:Maps.has D (klO t 2)
 case true=>
  have G2:=zB h2;go_wp2_with fail;go_ret;exact⟨⟨true,rfl,⟨fun _=>HK.2 (yU (yS (H2.1 G2))),fun _=>rfl⟩⟩,H⟩
 have G2:=zB h2;go_wp2_with fail;go_call zDn bo bs xs.length D t 3 _ Q ht Jd as e w3 ⟨rfl,hb3⟩;have q:=H.trans (hb3.mono H.size);clear h1 h2;go_wp2_with fail;go_ret;refine⟨⟨_,rfl,?_⟩,q⟩;unfold zE9;rw[zA HK,<-zA H1,<-zA H2,<-zA H3,zA G1,zA G2];simp
end Go.Proofs.YtadiaghhackbjaaGreatDoor
