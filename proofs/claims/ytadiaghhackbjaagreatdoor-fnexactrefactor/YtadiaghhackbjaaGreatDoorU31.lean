import Derived.Test.YtadiaghhackbjaaGreatDoorU30
namespace Go.Proofs.YtadiaghhackbjaaGreatDoor
set_option linter.all false
set_option maxHeartbeats 0
set_option maxRecDepth 100000
open Proofs.Tryz RowKit
def SwN(W wr:JY)(B P:Nat)(v:Value)(ys:List zD):Prop:=SwS 106 4 W wr B P v ys.length (zT ys)
def reO(o b:OpR)(n:zD):zD:=if zPX o n=true then⟨n.k,b.s,n.a,n.b⟩ else n
theorem zTk{o b:OpR}{ns:List zD}{k:Nat}(h:k<ns.length):reN o b (ns.take (k+1))=reN o b (ns.take k)++[reO o b (atN ns k)]:=by
 have e:atN ns k=ns[k]:=by simp[atN,yn,h]
 rw[List.take_succ_eq_append_getElem h,e];simp only[reN,reO,List.map_append,List.map_cons,List.map_nil]
theorem zMh(g c:Nat)(ns:List zD)(o b:OpR)(w:JY)(hm:ns.length<=1048576)(hw:Zv w g 0 ns)(hg:g<w.heap.size)(hk:1<=o.k/\o.k<=3):Calls prog 26 #[.agg #[Ql g ns.length c],opV o,opV b] w fun e w'=>(∃u,e=.returned (.agg #[u])/\w'.ownsRow (w.heap.size+4) 106 4 u ns.length (zT (reN o b ns)))/\Below w.heap.size w w':=by
 unfold opV;obtain⟨i0,E,B,d,C⟩:=zS zDK;have HI:=zB E;have HZ:=zB (yK B (yK d C));clear E B d C;obtain⟨W,hW⟩:=Jx ((((w.alloc (.cells #[Ql g ns.length c] 70)).alloc (.cells #[Qs o.s,Qi o.k,Qi o.l,Qi o.sd] 33)).alloc (.cells #[Qs b.s,Qi b.k,Qi b.l,Qi b.sd] 33)).alloc (.cells #[.slice none 0 0] 70));have D:W.heap.size=w.heap.size+4:=by rw[hW];simp
 have F:=zB (by rw[hW];exact(((zC _ _).alloc Js _).alloc Jq _).alloc Jq _:Below w.heap.size w W);have HT:=zB (by rw[hW];simp[go_sem]:W.cell? (Qa w.heap.size 0)=some (Ql g ns.length c));have HO:=zB (by rw[hW];exact⟨Jg,Jg,Jg,Jg⟩:zBO W (w.heap.size+1) o);have m:=zB (by rw[hW];exact⟨Jg,Jg,Jg,Jg⟩:zBO W (w.heap.size+2) b);have G:=zB (by rw[hW];simp[go_sem]:W.cell? (Qa (w.heap.size+3) 0)=some (.slice none 0 0));have I:=zB (by rw[hW];simp[go_sem]:W.frozen? (Qa (w.heap.size+3) 0)=false);have L:Hid (Zv W g 0 ns):=fun i hi=>(hw i hi).below F hg
 have HE:=zB (show SwN W ((W.alloc (.cells #[] 106)).alloc (.cells #[Ql (w.heap.size+1+1+1+1) 0 0] 70)) (w.heap.size+4) (w.heap.size+5) (Ql (w.heap.size+1+1+1+1) 0 0) [] by
  have e:w.heap.size+1+1+1+1=W.heap.size:=Jo
  have e5:w.heap.size+5=(W.alloc (.cells #[] 106)).heap.size:=Jq
  rw[e,e5]
  have hr:(W.alloc (.cells #[] 106)).ownsRow W.heap.size 106 4 (Ql W.heap.size 0 0) 0 []:=by
   have:=yG (base:=W.heap.size) (e:=106) (size:=4) W #[] 0 (yk _) (ym _) rfl
   simpa using this
  exact⟨Jg,Jg,zBZ hr (zC _ _),Jb,(zC _ _).alloc Js _⟩)
 have HW:=zB D;clear hw;go_enter func26,ntmps26;go_wp2_with fail;rw[<-hW];clear hW D;go_loopw [8,9] (fun i nv wr=>∃(n:Nat)(v:Value),n<=ns.length/\i=Qi n/\Hid (SwN W wr (w.heap.size+4) (w.heap.size+5) v (reN o b (ns.take n)))) (fun i _ _=>ns.length-(intOf i).toNat);case atStart=>exact⟨0,_,ym _,rfl,HE⟩
 case round=>
  clear HE;obtain⟨n,v,hn,rfl,HS⟩:=hrel;obtain⟨av,cv,rfl⟩:=zR HS.row;have HB:=zB HS.bel;have tb:=Jc HB (Jo:w.heap.size<w.heap.size+4) HT;by_cases A:n<ns.length
  ·have f:(n:Int)<(ns.length:Int):=Jo;obtain⟨a0,a1,a2,a3⟩:=((L) n A).below HB Jo;simp only[yY] at a0 a1 a2 a3;obtain⟨x,hx⟩:=Jx (atN ns n);have J:=zB (zTk (o:=o) (b:=b) A);rw[<-hx] at a0 a1 a2 a3 J;clear hx;have zr:w.heap.size+5<wr.heap.size:=block_lt_of_cell HS.ce;obtain⟨d0,d1,d2,d3⟩:=HO.below4 HB Jo;have r:IntKind.i64.wrap (o.k+2)=o.k+2:=Go.IntWalk.i64_in _ Jo;have e0:=(m.below4 HB Jo).1;obtain⟨ys,P⟩:=Jx (reN o b (ns.take n));have M:ys.length<=1048576:=by rw[P,zC7,List.length_take];omega
   rw[<-P] at HS J;have N:=zB P;clear P;obtain⟨W1,U⟩:=Jx (wr.alloc (.cells #[Qi x.k,Qs x.t,Qi x.a,Qi x.b] 106));have V:Below wr.heap.size wr W1:=by rw[U];exact zC _ _
   have f0:=(V.cell (p:=(Qa (w.heap.size+1) 0)) (Jo:w.heap.size+1<wr.heap.size)).trans d0;have f1:=(V.cell (p:=(Qa (w.heap.size+1) 1)) (Jo:w.heap.size+1<wr.heap.size)).trans d1;have f2:=(V.cell (p:=(Qa (w.heap.size+2) 0)) (Jo:w.heap.size+2<wr.heap.size)).trans e0;have y:=zB (fun(S:JZ)=>(show SwN W (wr.alloc (.cells #[Qi x.k,Qs S,Qi x.a,Qi x.b] 106)) _ _ _ _ from SwS.below HS zr Jo (zC _ _)));clear V d0 d1 d2 d3 e0;by_cases hc:x.k=o.k+2/\x.t=o.s
   ·have g1:(x.k==o.k+2)=true:=by simp[hc.1]
    have g2:(x.t.toList==o.s.toList)=true:=by simp[hc.2]
    have HC:=zB (by unfold reO;rw[yQ (by simp[zPX,hc.1,hc.2])]:reO o b x=⟨x.k,b.s,x.a,x.b⟩);have H2:=zB (y b.s);have p2:=H2.ce;clear hc HS y;subst U;have X:Hid (((wr.alloc (.cells #[Qi x.k,Qs b.s,Qi x.a,Qi x.b] 106)).alloc (.cells #[Qi x.k,Qs b.s,Qi x.a,Qi x.b] 106)).ownsRow (w.heap.size+4) 106 4 (.slice av ys.length cv) ys.length (zT ys)):=zBZ H2.row (zC _ _);have Y:=zB (by have:=Zr (wr.alloc (.cells #[Qi x.k,Qs b.s,Qi x.a,Qi x.b] 106)) ⟨x.k,b.s,x.a,x.b⟩;simpa using this:∀j u,(zT [(⟨x.k,b.s,x.a,x.b⟩:zD)])[j]?=some u->((wr.alloc (.cells #[Qi x.k,Qs b.s,Qi x.a,Qi x.b] 106)).alloc (.cells #[Qi x.k,Qs b.s,Qi x.a,Qi x.b] 106)).cell? ((Qa (wr.heap.size+1) 0).add j)=some u);go_wp2_with (at_builtin;refine yL _ rfl (.tmp 41) (.tmp 43) 68 rfl (w.heap.size+4) 106 i0 _ 4 40 underlying68 HI HZ.1 HZ.2.1 HZ.2.2 rfl Jd _ ys.length (zT ys) rfl X (Qa (wr.heap.size+1) 0) 1 1 (zT [⟨x.k,b.s,x.a,x.b⟩]) rfl rfl Y (zj _) ?b1 ?b2 ?b3 ?next);case b1=>exact Jm
    case b2=>omega
    case b3=>simp;omega
    case next=>
     intro v4 w4 K H q Q;obtain⟨g4,c4,rfl⟩:=ZC K (by simp[q]);have HN:=zB (H2.put Jo Jq (zC _ _) H (show w4.ownsRow (w.heap.size+4) 106 4 _ (ys++[(⟨x.k,b.s,x.a,x.b⟩:zD)]).length (zT (ys++[⟨x.k,b.s,x.a,x.b⟩])) by rw[ze,yq];exact K) (Q.elim (fun x=>yS (x.symm.trans (by rfl))) (fun z=>yU (by have:=(show some g4=some _ from z);injection this;simp;omega))));obtain⟨q0,q1⟩:=H2.far Jq (zC _ _) H;clear K H q Q;go_wp2;refine⟨⟨n+1,Ql g4 (ys.length+1) c4,Jo,Jn,zB ?_⟩,Ji⟩;rw[zA J,zA HC];exact HN
   ·have HC:=zB (by unfold reO;rw[yP (by simpa[zPX] using hc)]:reO o b x=⟨x.k,x.t,x.a,x.b⟩);by_cases h1:x.k=o.k+2
    ·have g1:(x.k==o.k+2)=true:=by simp[h1]
     have g2:(x.t.toList==o.s.toList)=false:=Bool.eq_false_iff.2 fun h=>hc ⟨h1,zBC (Ju h)⟩
     clear h1;have H2:=zB (y x.t);have p2:=H2.ce;clear hc HS y;subst U;have X:Hid (((wr.alloc (.cells #[Qi x.k,Qs x.t,Qi x.a,Qi x.b] 106)).alloc (.cells #[Qi x.k,Qs x.t,Qi x.a,Qi x.b] 106)).ownsRow (w.heap.size+4) 106 4 (.slice av ys.length cv) ys.length (zT ys)):=zBZ H2.row (zC _ _);have Y:=zB (by have:=Zr (wr.alloc (.cells #[Qi x.k,Qs x.t,Qi x.a,Qi x.b] 106)) ⟨x.k,x.t,x.a,x.b⟩;simpa using this:∀j u,(zT [(⟨x.k,x.t,x.a,x.b⟩:zD)])[j]?=some u->((wr.alloc (.cells #[Qi x.k,Qs x.t,Qi x.a,Qi x.b] 106)).alloc (.cells #[Qi x.k,Qs x.t,Qi x.a,Qi x.b] 106)).cell? ((Qa (wr.heap.size+1) 0).add j)=some u);go_wp2_with (at_builtin;refine yL _ rfl (.tmp 41) (.tmp 43) 68 rfl (w.heap.size+4) 106 i0 _ 4 40 underlying68 HI HZ.1 HZ.2.1 HZ.2.2 rfl Jd _ ys.length (zT ys) rfl X (Qa (wr.heap.size+1) 0) 1 1 (zT [⟨x.k,x.t,x.a,x.b⟩]) rfl rfl Y (zj _) ?b1 ?b2 ?b3 ?next);case b1=>exact Jm
     case b2=>omega
     case b3=>simp;omega
     case next=>
      intro v4 w4 K H q Q;obtain⟨g4,c4,rfl⟩:=ZC K (by simp[q]);have HN:=zB (H2.put Jo Jq (zC _ _) H (show w4.ownsRow (w.heap.size+4) 106 4 _ (ys++[(⟨x.k,x.t,x.a,x.b⟩:zD)]).length (zT (ys++[⟨x.k,x.t,x.a,x.b⟩])) by rw[ze,yq];exact K) (Q.elim (fun x=>yS (x.symm.trans (by rfl))) (fun z=>yU (by have:=(show some g4=some _ from z);injection this;simp;omega))));obtain⟨q0,q1⟩:=H2.far Jq (zC _ _) H;clear K H q Q;go_wp2;refine⟨⟨n+1,Ql g4 (ys.length+1) c4,Jo,Jn,zB ?_⟩,Ji⟩;rw[zA J,zA HC];exact HN
    ·have g1:(x.k==o.k+2)=false:=by simp[h1]
     clear h1;have H2:=zB (y x.t);have p2:=H2.ce;clear hc HS y;subst U;have X:Hid (((wr.alloc (.cells #[Qi x.k,Qs x.t,Qi x.a,Qi x.b] 106)).alloc (.cells #[Qi x.k,Qs x.t,Qi x.a,Qi x.b] 106)).ownsRow (w.heap.size+4) 106 4 (.slice av ys.length cv) ys.length (zT ys)):=zBZ H2.row (zC _ _);have Y:=zB (by have:=Zr (wr.alloc (.cells #[Qi x.k,Qs x.t,Qi x.a,Qi x.b] 106)) ⟨x.k,x.t,x.a,x.b⟩;simpa using this:∀j u,(zT [(⟨x.k,x.t,x.a,x.b⟩:zD)])[j]?=some u->((wr.alloc (.cells #[Qi x.k,Qs x.t,Qi x.a,Qi x.b] 106)).alloc (.cells #[Qi x.k,Qs x.t,Qi x.a,Qi x.b] 106)).cell? ((Qa (wr.heap.size+1) 0).add j)=some u);go_wp2_with (at_builtin;refine yL _ rfl (.tmp 41) (.tmp 43) 68 rfl (w.heap.size+4) 106 i0 _ 4 40 underlying68 HI HZ.1 HZ.2.1 HZ.2.2 rfl Jd _ ys.length (zT ys) rfl X (Qa (wr.heap.size+1) 0) 1 1 (zT [⟨x.k,x.t,x.a,x.b⟩]) rfl rfl Y (zj _) ?b1 ?b2 ?b3 ?next);case b1=>exact Jm
     case b2=>omega
     case b3=>simp;omega
     case next=>
      intro v4 w4 K H q Q;obtain⟨g4,c4,rfl⟩:=ZC K (by simp[q]);have HN:=zB (H2.put Jo Jq (zC _ _) H (show w4.ownsRow (w.heap.size+4) 106 4 _ (ys++[(⟨x.k,x.t,x.a,x.b⟩:zD)]).length (zT (ys++[⟨x.k,x.t,x.a,x.b⟩])) by rw[ze,yq];exact K) (Q.elim (fun x=>yS (x.symm.trans (by rfl))) (fun z=>yU (by have:=(show some g4=some _ from z);injection this;simp;omega))));obtain⟨q0,q1⟩:=H2.far Jq (zC _ _) H;clear K H q Q;go_wp2;refine⟨⟨n+1,Ql g4 (ys.length+1) c4,Jo,Jn,zB ?_⟩,Ji⟩;rw[zA J,zA HC];exact HN
  ·have f:¬ (n:Int)<(ns.length:Int):=Jo;obtain rfl:n=ns.length:=Jo;have e:=zA HS;rw[List.take_length] at e;have hl:(reN o b ns).length=ns.length:=zC7 o b ns;have O:=zB e;have p0:=e.ce;have e3:wr.cell? (Qa (w.heap.size+3) 0)=some (.slice none 0 0):=(HB.cell (p:=(Qa (w.heap.size+3) 0)) (Jo:w.heap.size+3<w.heap.size+4)).trans G;have e4:wr.frozen? (Qa (w.heap.size+3) 0)=false:=(yD (w:=W) (HB.block _ (Jo:w.heap.size+3<w.heap.size+4))).trans I;clear e;have HL:=zB hl;clear hl;go_wp2;refine yN (v:=.agg #[.slice av (reN o b (ns.take ns.length)).length cv]) ?res rfl ⟨⟨_,rfl,?_⟩,?_⟩;case res=>simp[results,results26,go_sem, *]
   ·have hx:=zFZ HS.row (w.heap.size+1+1+1) 0 (.slice av (reN o b (ns.take ns.length)).length cv) (fun e=>Jy ((World.ownsRow.lt HS.row _ e).1));rw[List.take_length] at hx ⊢;rw[zA HL] at hx ⊢;exact hx
   ·exact(F.trans (HB.mono Jo)).setCell (p:=(Qa (w.heap.size+1+1+1) 0)) Jq _
def SwO(W wr:JY)(B P:Nat)(v:Value)(ys:List OpR):Prop:=SwS 33 4 W wr B P v ys.length (zl ys)
theorem zTl{o b:OpR}{xs:List OpR}{k:Nat}(h:k<xs.length):swO o b (xs.take (k+1))=swO o b (xs.take k)++[if ZV (atO xs k) o=true then b else atO xs k]:=by
 have e:atO xs k=xs[k]:=by simp[atO,yn,h]
 rw[List.take_succ_eq_append_getElem h,e];simp only[swO,List.map_append,List.map_cons,List.map_nil]
theorem zKL(g c:Nat)(xs:List OpR)(o b:OpR)(w:JY)(hm:xs.length<=1048576)(hw:Ops w g 0 xs)(hg:g<w.heap.size):Calls prog 24 #[.agg #[Ql g xs.length c],opV o,opV b] w fun e w'=>(∃u,e=.returned (.agg #[u])/\zAo w' (w.heap.size+4) u (swO o b xs))/\Below w.heap.size w w':=by
 unfold opV;obtain⟨i0,D,a,B,A⟩:=zS zEb;have HI:=zB D;have HZ:=zB (yK a (yK B A));clear D a B A;obtain⟨W,hW⟩:=Jx ((((w.alloc (.cells #[Ql g xs.length c] 63)).alloc (.cells #[Qs o.s,Qi o.k,Qi o.l,Qi o.sd] 33)).alloc (.cells #[Qs b.s,Qi b.k,Qi b.l,Qi b.sd] 33)).alloc (.cells #[.slice none 0 0] 63));have C:W.heap.size=w.heap.size+4:=by rw[hW];simp
 have E:=zB (by rw[hW];exact(((zC _ _).alloc Js _).alloc Jq _).alloc Jq _:Below w.heap.size w W);have HT:=zB (by rw[hW];simp[go_sem]:W.cell? (Qa w.heap.size 0)=some (Ql g xs.length c));have HO:=zB (by rw[hW];exact⟨Jg,Jg,Jg,Jg⟩:zBO W (w.heap.size+1) o);have L:=zB (by rw[hW];exact⟨Jg,Jg,Jg,Jg⟩:zBO W (w.heap.size+2) b);have f:=zB (by rw[hW];simp[go_sem]:W.cell? (Qa (w.heap.size+3) 0)=some (.slice none 0 0));have F:=zB (by rw[hW];simp[go_sem]:W.frozen? (Qa (w.heap.size+3) 0)=false);have G:Hid (Ops W g 0 xs):=fun i hi=>(hw i hi).below E hg
 have HE:=zB (show SwO W ((W.alloc (.cells #[] 33)).alloc (.cells #[Ql (w.heap.size+1+1+1+1) 0 0] 63)) (w.heap.size+4) (w.heap.size+5) (Ql (w.heap.size+1+1+1+1) 0 0) [] by
  have e:w.heap.size+1+1+1+1=W.heap.size:=Jo
  have e5:w.heap.size+5=(W.alloc (.cells #[] 33)).heap.size:=Jq
  rw[e,e5]
  have hr:zAo (W.alloc (.cells #[] 33)) W.heap.size (Ql W.heap.size 0 0) []:=by
   have:=yG (base:=W.heap.size) (e:=33) (size:=4) W #[] 0 (yk _) (ym _) rfl
   simpa[zAo,zl] using this
  exact⟨Jg,Jg,zBZ hr (zC _ _),Jb,(zC _ _).alloc Js _⟩)
 have HW:=zB C;clear hw;go_enter func24,ntmps24;go_wp2_with fail;rw[<-hW];clear hW C;go_loopw [8] (fun i wr=>∃(n:Nat)(v:Value),n<=xs.length/\i=Qi n/\Hid (SwO W wr (w.heap.size+4) (w.heap.size+5) v (swO o b (xs.take n)))) (fun i _=>xs.length-(intOf i).toNat);case atStart=>exact⟨0,_,ym _,rfl,HE⟩
 case round=>
  clear HE;obtain⟨n,v,hn,rfl,HS⟩:=hrel;obtain⟨av,cv,rfl⟩:=zR HS.row;have HB:=zB HS.bel;have tb:=Jc HB (Jo:w.heap.size<w.heap.size+4) HT;by_cases V:n<xs.length
  ·have d:(n:Int)<(xs.length:Int):=Jo;obtain⟨a0,a1,a2,a3⟩:=((G) n V).below HB Jo;simp only[yY] at a0 a1 a2 a3;obtain⟨c0,c1,c2,c3⟩:=zA HO;have d0:=(HB.cell (p:=(Qa (w.heap.size+1) 0)) (Jo:w.heap.size+1<w.heap.size+4)).trans c0;have d1:=(HB.cell (p:=(Qa (w.heap.size+1) 1)) (Jo:w.heap.size+1<w.heap.size+4)).trans c1;have d2:=(HB.cell (p:=(Qa (w.heap.size+1) 2)) (Jo:w.heap.size+1<w.heap.size+4)).trans c2;have d3:=(HB.cell (p:=(Qa (w.heap.size+1) 3)) (Jo:w.heap.size+1<w.heap.size+4)).trans c3;clear c0 c1 c2 c3;have hq:=fun W=>zBs (atO xs n) o W
   have m:=zDm;go_wp2_with fail;go_quiet (fail);clear hq m;have Y:=zB (zTl (o:=o) (b:=b) V);cases hsm:ZV (atO xs n) o
   ·have J:=zB hsm;clear hsm;have H:Hid (SwO W (wr.drewN nq) _ _ _ _):=SwS.drewN HS nq;have p0:=H.ce;have P:(swO o b (xs.take n)).length<=1048576:=by rw[zCF,List.length_take];omega
    obtain⟨ys,X⟩:=Jx (swO o b (xs.take n));rw[<-X] at H P Y p0;have I:=zB X;clear X;have zq:w.heap.size+5<(wr.drewN nq).heap.size:=block_lt_of_cell p0;obtain⟨x,hx⟩:=Jx (atO xs n);rw[<-hx] at a0 a1 a2 a3 Y J;have HX:=zB hx;clear hx d0 d1 d2 d3 HS;have tb':(wr.drewN nq).cell? (Qa w.heap.size 0)=some (Ql g xs.length c):=tb;have b0:(wr.drewN nq).cell? (Qa g (n*4))=some (Qs x.s):=a0;have b1:(wr.drewN nq).cell? (Qa g (n*4+1))=some (Qi x.k):=a1;have b2:(wr.drewN nq).cell? (Qa g (n*4+2))=some (Qi x.l):=a2;have b3:(wr.drewN nq).cell? (Qa g (n*4+3))=some (Qi x.sd):=a3;generalize wr.drewN nq=wq at *;clear tb a0 a1 a2 a3 HB;have NF:=zB (fun(q:Nat)(hq:q<w.heap.size+4\/q=w.heap.size+5) e=>(hq.elim (fun hq=>yR (World.ownsRow.lt (zA H).row q e).1 Jo) (fun hq=>(zA H).np (hq ▸ e)):False));go_wp2_with fail;go_region_law (refine step_append_lies _ (by rfl) (.tmp 32) (.tmp 38) 61 (by rfl) (w.heap.size+4) 33 i0 _ 4 40 underlying61 HI HZ.1 HZ.2.1 HZ.2.2 rfl Jd _ ys.length (zl ys) (by rfl) (zBZ H.row (zC _ _).drew) (Qa wq.heap.size 0) 1 1 (zl [x]) (by rfl) rfl (zD9 wq x) (zAi _) Jd Jm Jo Jq _ rfl ?_;intro g4 c4 w4 K h Q M;have HN:=zB (H.put Jo Jo (zC _ _).drew h (show zAo w4 (w.heap.size+4) _ (ys++[x]) by unfold zAo;rw[zAS,yq];exact K) (Q.elim yS (fun y=>yU (by rw[y];simp))));obtain⟨q0,q1⟩:=H.far zq (zC _ _).drew h);all_goals
     clear K h Q
     go_wp2
     refine⟨⟨n+1,Ql g4 (ys.length+1) c4,Jo,Jn,zB ?_⟩,Ji⟩
     rw[zA Y,yP (by rw[zA J];simp)]
     exact HN
   ·have J:=zB hsm;clear hsm;have H:Hid (SwO W (wr.drewN nq) _ _ _ _):=SwS.drewN HS nq;obtain⟨e0,e1,e2,e3⟩:=L.below4 H.bel Jo;have p0:=H.ce;have p1:=H.fr;have P:(swO o b (xs.take n)).length<=1048576:=by rw[zCF,List.length_take];omega
    obtain⟨ys,X⟩:=Jx (swO o b (xs.take n));rw[<-X] at H P Y p0;have I:=zB X;clear X;have zq:w.heap.size+5<(wr.drewN nq).heap.size:=block_lt_of_cell p0;generalize wr.drewN nq=wq at *;clear HS HB a0 a1 a2 a3 d0 d1 d2 d3 tb;go_wp2_with (at_builtin;refine yL _ rfl (.tmp 26) (.tmp 28) 61 rfl (w.heap.size+4) 33 i0 _ 4 40 underlying61 HI HZ.1 HZ.2.1 HZ.2.2 rfl Jd _ ys.length (zl ys) rfl (zBZ H.row (zC _ _)) (Qa wq.heap.size 0) 1 1 (zl [b]) rfl rfl (Ju (zD9 wq b)) (zAi _) ?b1 ?b2 ?b3 ?next);case b1=>exact Jm
    case b2=>omega
    case b3=>simp;omega
    case next=>
     intro v4 w4 K h j Q;obtain⟨g4,c4,rfl⟩:=ZC K (by simp[j]);have HN:=zB (H.put Jo Jo (zC _ _) h (show zAo w4 (w.heap.size+4) _ (ys++[b]) by unfold zAo;rw[zAS,yq];exact K) (Q.elim (fun x=>yS (x.symm.trans (by rfl))) (fun x=>yU (by have:some g4=some (wq.heap.size+1):=x;injection this;omega))));obtain⟨q0,q1⟩:=H.far zq (zC _ _) h;clear K h j Q;go_wp2;refine⟨⟨n+1,Ql g4 (ys.length+1) c4,Jo,Jn,zB ?_⟩,Ji⟩;rw[zA Y,yQ (zA J)];exact HN
  ·have d:¬ (n:Int)<(xs.length:Int):=Jo;obtain rfl:n=xs.length:=Jo;have e:=zA HS;rw[List.take_length] at e;have U:=zB e;have p0:=e.ce;have e3:wr.cell? (Qa (w.heap.size+3) 0)=some (.slice none 0 0):=(HB.cell (p:=(Qa (w.heap.size+3) 0)) (Jo:w.heap.size+3<w.heap.size+4)).trans f;have e4:wr.frozen? (Qa (w.heap.size+3) 0)=false:=(yD (w:=W) (HB.block _ (Jo:w.heap.size+3<w.heap.size+4))).trans F;clear e;go_wp2;refine yN (v:=.agg #[.slice av (swO o b xs).length cv]) ?res rfl ⟨⟨_,rfl,?_⟩,?_⟩;case res=>simp[results,results24,go_sem, *]
   ·exact zFZ U.row _ 0 _ (fun e=>Jy ((World.ownsRow.lt U.row _ e).1))
   ·exact(E.trans (HB.mono Jo)).setCell (p:=(Qa (w.heap.size+1+1+1) 0)) Jq _
end Go.Proofs.YtadiaghhackbjaaGreatDoor
