import Derived.Test.YtadiaghhackbjaaGreatDoorU23
import Derived.Test.YtadiaghhackbjaaGreatDoorU26
import Derived.Test.YtadiaghhackbjaaGreatDoorU27
import Derived.Test.YtadiaghhackbjaaGreatDoorU35
namespace Go.Proofs.YtadiaghhackbjaaGreatDoor
set_option linter.all false
set_option maxHeartbeats 0
set_option maxRecDepth 100000
open Proofs.Tryz RowKit Maps
variable{g k:Nat}{ns:List OpR}{w:World}{xs:List zD}
theorem zKO{o:zD}{p:OpR}{v:Bool}(h:zME ns o p v)(ho:Zh o)(hk:fnd ns o.t (o.k-2)≠none):p=opA ns o:=by
 rcases h with⟨j,_,hj,_,rfl⟩|⟨h,_⟩
 ·exact(zHK hj).symm
 ·exact yR (h ho) hk
theorem zD8(bo bs:Nat)(ns:List OpR)(o:zD)(e e':Value)(w:JY)(hi:Idx w bo bs ns ns.length)(hc:zO ns 0)(H:zBi ns ns.length)(ht:o.t.size<=maxLen)(hk:o.k=1\/o.k=2):Calls prog 223 #[.agg #[.map (some bo),.map (some bs)],.agg #[Qi o.k,Qs o.t,Qi o.a,Qi o.b],e,e'] w fun x w'=>x=.returned (exN (opA ns o) o e e')/\Qb w w':=by
 have HI:=zB (fun o1 o2=>(hi.kept (zC w o1)).kept (zC _ o2));have HC:=zB hc;have K:=zB H;clear hi hc H;go_enter func223,ntmps223;go_wp2_with fail;go_call zHE bo bs ns o _ (HI _ _) HC K ht as x w1 ⟨⟨p,v,rfl,hp⟩,hb1⟩;have h:Qb w w1:=((zC _ _).alloc Js _).trans (hb1.mono Jq);have z1:w.heap.size+2<=w1.heap.size:=Jz hb1.size
 have c0:(w1.alloc (.cells #[Qs p.s,Qi p.k,Qi p.l,Qi p.sd] 33)).cell? (Qa (w.heap.size+1) 0)=some (Qi o.k):=((zC _ _).cell (p:=(Qa (w.heap.size+1) 0)) (Jo:w.heap.size+1<w1.heap.size)).trans ((hb1.cell (p:=(Qa (w.heap.size+1) 0)) Js).trans Jg);have c1:(w1.alloc (.cells #[Qs p.s,Qi p.k,Qi p.l,Qi p.sd] 33)).cell? (Qa (w.heap.size+1) 1)=some (Qs o.t):=((zC _ _).cell (p:=(Qa (w.heap.size+1) 1)) (Jo:w.heap.size+1<w1.heap.size)).trans ((hb1.cell (p:=(Qa (w.heap.size+1) 1)) Js).trans Jg);clear hp hb1;rcases hk with hk|hk
 ·have HE:=zB (by simp only[exN,hk];rfl:exN (opA ns o) o e e'=zLz o.t);rw[hk] at c0;go_wp2_with fail;go_ret;exact⟨by rw[zA HE];rfl,h.alloc h.size _⟩
 ·have HE:=zB (by simp only[exN,hk];rfl:exN (opA ns o) o e e'=zG5 o.t);rw[hk] at c0;go_wp2_with fail;go_ret;exact⟨by rw[zA HE];rfl,h.alloc h.size _⟩
theorem zE3(bo bs:Nat)(ns:List OpR)(o:zD)(T:TypeId)(u:Value)(e':Value)(w:JY)(hi:Idx w bo bs ns ns.length)(hc:zO ns 0)(K:zBi ns ns.length)(ht:o.t.size<=maxLen)(hk:o.k=3\/o.k=5\/o.k=6)(q:Zh o->fnd ns o.t (o.k-2)≠none):Calls prog 223 #[.agg #[.map (some bo),.map (some bs)],.agg #[Qi o.k,Qs o.t,Qi o.a,Qi o.b],.iface T u,e'] w fun x w'=>x=.returned (exN (opA ns o) o (.iface T u) e')/\Qb w w':=by
 have HI:=zB (fun o1 o2=>(hi.kept (zC w o1)).kept (zC _ o2));have HC:=zB hc;have Q:=zB K;have H:=zB q;clear hi hc K q;go_enter func223,ntmps223;go_wp2_with fail;go_call zHE bo bs ns o _ (HI _ _) HC Q ht as x w1 ⟨⟨p,v,rfl,hp⟩,hb1⟩;have HP:=zB hp;have h:Qb w w1:=((zC _ _).alloc Js _).trans (hb1.mono Jq);have z1:w.heap.size+2<=w1.heap.size:=Jz hb1.size
 have c0:(w1.alloc (.cells #[Qs p.s,Qi p.k,Qi p.l,Qi p.sd] 33)).cell? (Qa (w.heap.size+1) 0)=some (Qi o.k):=((zC _ _).cell (p:=(Qa (w.heap.size+1) 0)) (Jo:w.heap.size+1<w1.heap.size)).trans ((hb1.cell (p:=(Qa (w.heap.size+1) 0)) Js).trans Jg);clear hp hb1;rcases hk with hk|hk|hk
 ·have HE:=zB (show exN (opA ns o) o (.iface T u) e'=zGV p (.iface T u) by
   rw[zKO (zA HP) ⟨Jo,Jo⟩ ((zA H) ⟨Jo,Jo⟩)]
   simp only[exN,hk];rfl)
  rw[hk] at c0;clear hk H;go_wp2_with fail;go_ret;exact⟨by rw[zA HE];rfl,h.alloc h.size _⟩
 ·have HE:=zB (show exN (opA ns o) o (.iface T u) e'=zCv p (.iface T u) by
   rw[zKO (zA HP) ⟨Jo,Jo⟩ ((zA H) ⟨Jo,Jo⟩)]
   simp only[exN,hk];rfl)
  rw[hk] at c0;clear hk H;go_wp2_with fail;go_ret;exact⟨by rw[zA HE];rfl,h.alloc h.size _⟩
 ·have HE:=zB (by simp only[exN,hk];rfl:exN (opA ns o) o (.iface T u) e'=zG6 (.iface T u));rw[hk] at c0;clear hk H;go_wp2_with fail;go_ret;exact⟨by rw[zA HE];rfl,h.alloc h.size _⟩
theorem zMl(bo bs:Nat)(ns:List OpR)(o:zD)(T T':TypeId)(u u':Value)(w:JY)(hi:Idx w bo bs ns ns.length)(hc:zO ns 0)(K:zBi ns ns.length)(ht:o.t.size<=maxLen)(hk:o.k=4)(q:Zh o->fnd ns o.t (o.k-2)≠none):Calls prog 223 #[.agg #[.map (some bo),.map (some bs)],.agg #[Qi o.k,Qs o.t,Qi o.a,Qi o.b],.iface T u,.iface T' u'] w fun x w'=>x=.returned (exN (opA ns o) o (.iface T u) (.iface T' u'))/\Qb w w':=by
 have HI:=zB (fun o1 o2=>(hi.kept (zC w o1)).kept (zC _ o2));have HC:=zB hc;have X:=zB K;have H:=zB q;have Q:=zB hk;clear hi hc K q hk;go_enter func223,ntmps223;go_wp2_with fail;go_call zHE bo bs ns o _ (HI _ _) HC X ht as x w1 ⟨⟨p,v,rfl,hp⟩,hb1⟩;have HP:=zB hp;have h:Qb w w1:=((zC _ _).alloc Js _).trans (hb1.mono Jq);have z1:w.heap.size+2<=w1.heap.size:=Jz hb1.size
 have c0:(w1.alloc (.cells #[Qs p.s,Qi p.k,Qi p.l,Qi p.sd] 33)).cell? (Qa (w.heap.size+1) 0)=some (Qi o.k):=((zC _ _).cell (p:=(Qa (w.heap.size+1) 0)) (Jo:w.heap.size+1<w1.heap.size)).trans ((hb1.cell (p:=(Qa (w.heap.size+1) 0)) Js).trans Jg);clear hp hb1;have hk:=zA Q;have HE:=zB (show exN (opA ns o) o (.iface T u) (.iface T' u')=zFU p (.iface T u) (.iface T' u') by
  rw[zKO (zA HP) ⟨Jo,Jo⟩ ((zA H) ⟨Jo,Jo⟩)]
  simp only[exN,hk];rfl)
 rw[hk] at c0;clear hk H;go_wp2_with fail;go_ret;exact⟨by rw[zA HE];rfl,h.alloc h.size _⟩
theorem zMm(bo bs:Nat)(ns:List OpR)(o:zD)(T T':TypeId)(u u':Value)(w:JY)(hi:Idx w bo bs ns ns.length)(hc:zO ns 0)(H:zBi ns ns.length)(ht:o.t.size<=maxLen)(hk:zA6 o)(K:Zh o->fnd ns o.t (o.k-2)≠none):Calls prog 223 #[.agg #[.map (some bo),.map (some bs)],.agg #[Qi o.k,Qs o.t,Qi o.a,Qi o.b],.iface T u,.iface T' u'] w fun x w'=>x=.returned (exN (opA ns o) o (.iface T u) (.iface T' u'))/\Qb w w':=by
 rcases hk.2 with⟨h,_⟩|⟨h,_⟩|⟨h,_⟩|⟨h|h|h,_⟩
 ·exact zD8 bo bs ns o _ _ w hi hc H ht (yS h)
 ·exact zD8 bo bs ns o _ _ w hi hc H ht (yU h)
 ·exact zE3 bo bs ns o _ _ _ w hi hc H ht (yU (yU h)) K
 ·exact zE3 bo bs ns o _ _ _ w hi hc H ht (yS h) K
 ·exact zMl bo bs ns o _ _ _ _ w hi hc H ht h K
 ·exact zE3 bo bs ns o _ _ _ w hi hc H ht (yU (yS h)) K
def ExS(w:JY)(g:Nat)(ns:List OpR)(xs:List zD)(k:Nat):Prop:=g<w.heap.size/\∀j,j<xs.length->w.cell? (Qa g j)=some ((exL ns xs k).getD j .nilIface)/\w.frozen? (Qa g j)=false
theorem ExS.below{w':JY}(h:ExS w g ns xs k)(hb:Qb w w'):ExS w' g ns xs k:=
 ⟨yl h.1 hb.size,fun j hj=>⟨Jc hb h.1 (h.2 j hj).1,(hb.frozen (p:=Qa g j) h.1).trans (h.2 j hj).2⟩⟩
theorem ExS.set(h:ExS w g ns xs k)(hk:k<xs.length){v:Value}(hv:v=exS ns xs k):ExS (w.setCell (Qa g k) v) g ns xs (k+1):=by
 refine⟨by simpa[World.setCell] using h.1,fun j hj=>⟨?_,(yv _ _ _ _).trans (h.2 j hj).2⟩⟩;by_cases e:j=k
 ·subst e;rw[yt _ _ _ (h.2 j hj).1,hv];rfl
 ·rw[yj _ _ _ _ (fun x=>e (by injection x with _ x;exact x.symm)),(h.2 j hj).1];have hl:=zIp ns xs k;congr 1;show _=(exL ns xs k++[_]).getD j .nilIface;simp only[List.getD,List.getElem?_append,hl];by_cases h1:j<k
  ·rw[yQ h1]
  ·rw[yP h1,List.getElem?_eq_none Jo,List.getElem?_eq_none Jq]
theorem zXR:(prog.info? 216).map (fun i=>(i.zero,i.size,i.bytes))=some (some .nilIface,1,16):=Jk
theorem zVn(W:JY)(n j:Nat)(hj:j<n):(W.alloc (.cells (madeCells #[.nilIface] n) 216)).cell? (Qa W.heap.size j)=some .nilIface/\(W.alloc (.cells (madeCells #[.nilIface] n) 216)).frozen? (Qa W.heap.size j)=false:=by
 have hb:(W.alloc (.cells (madeCells #[.nilIface] n) 216)).heap[W.heap.size]?=some (.cells (madeCells #[.nilIface] n) 216 (0,0)):=heap_alloc_new W _;refine⟨?_,frozen_of_row _ _ _ _ _ hb⟩;rw[cell_of_row _ W.heap.size j _ 216 (0,0) hb];simp[madeCells,hj,Nat.mod_one]
theorem zPi(h:Zk xs)(hk:k<xs.length)(h1:1<=k):∃ja jb:Nat,(atN xs k).a=(ja:Int)/\(atN xs k).b=(jb:Int)/\ja<k/\jb<k:=by
 rcases h.kidsAt hk with⟨h0,ha,hb⟩|⟨_,h2,ha,hb⟩|⟨_,h2,hb,H,K⟩
 ·exact⟨0,0,ha,hb,h1,h1⟩
 ·exact⟨k-1,0,Jo,hb,Jo,Jo⟩
 ·exact⟨(atN xs k).a.toNat,k-1,Jo,Jo,Jo,Jo⟩
def EO(w:JY)(X N g ja jb bo bs:Nat)(o:zD)(ea eb:Value):Prop:=
 w.cell? (Qa X 0)=some (.map (some bo))/\w.cell? (Qa X 1)=some (.map (some bs))/\w.cell? (Qa N 0)=some (Qi o.k)/\w.cell? (Qa N 1)=some (Qs o.t)/\w.cell? (Qa N 2)=some (Qi o.a)/\w.cell? (Qa N 3)=some (Qi o.b)/\w.cell? (Qa g ja)=some ea/\w.cell? (Qa g jb)=some eb
theorem EO.below{w':JY}{X N ja jb bo bs:Nat}{o:zD}{ea eb:Value}(h:EO w X N g ja jb bo bs o ea eb)(hb:Qb w w'):EO w' X N g ja jb bo bs o ea eb:=by
 have c:∀{b o':Nat}{v:Value},w.cell? (Qa b o')=some v->w'.cell? (Qa b o')=some v:=fun h=>Jc hb (block_lt_of_cell h) h
 obtain⟨h0,h1,h2,h3,h4,h5,h6,h7⟩:=h;exact⟨c h0,c h1,c h2,c h3,c h4,c h5,c h6,c h7⟩
theorem EO.set{X N ja jb bo bs:Nat}{o:zD}{ea eb:Value}(h:EO w X N g ja jb bo bs o ea eb)(hX:X≠g)(hN:N≠g)(ha:ja≠k)(hb:jb≠k)(v:Value):EO (w.setCell (Qa g k) v) X N g ja jb bo bs o ea eb:=by
 have c:∀{b o':Nat}{u:Value},(b≠g\/o'≠k)->w.cell? (Qa b o')=some u->(w.setCell (Qa g k) v).cell? (Qa b o')=some u:=fun H h=>(yj _ _ _ _ (fun x=>by
  injection x with x1 x2
  rcases H with h|h
  ·exact h x1.symm
  ·exact h x2.symm)).trans h
 obtain⟨h0,h1,h2,h3,h4,h5,h6,h7⟩:=h;exact⟨c (yS hX) h0,c (yS hX) h1,c (yS hN) h2,c (yS hN) h3,c (yS hN) h4,c (yS hN) h5,c (yU ha) h6,c (yU hb) h7⟩
theorem zPj(bo bs bn A cn:Nat)(ns:List OpR)(xs:List zD)(w:JY)(hi:Idx w bo bs ns ns.length)(hc:zO ns 0)(hh:zBi ns ns.length)(he:Zv w bn A xs)(hl:zBb xs)(hq:bn<w.heap.size)(D:Zk xs)(hd:zCt ns xs):Calls prog 201 #[.agg #[.map (some bo),.map (some bs)],.agg #[.slice (some (Qa bn A)) xs.length cn]] w fun x w'=>x=.returned (exS ns xs (xs.length-1))/\Below w.heap.size w w':=by
 have HI:=zB hi;have HC:=zB hc;have s:=zB hh;have ho:=zB he;have Z:=zB hl;have HO:=zB D;have hr:=zB hd;have hy:=D.1;have h0:=D.2.1;obtain⟨iX,R,L,m,I⟩:=zS zXR;have hn:∀W:JY,(Instr.makeSlice 303 (Qi (xs.length:Int)) (Qi (xs.length:Int))).run prog W=.ok (Ql W.heap.size xs.length xs.length) (W.alloc (.cells (madeCells #[.nilIface] xs.length) 216)):=by
  intro W;have:=run_make (P:=prog) W 303 216 iX _ underlying303 R L .i64 .i64 xs.length xs.length Jo (Int.le_refl _) (by rw[I];omega) Jo;simpa[m,Value.cells] using this
 clear hi hc hh he hl D hd R L m I;obtain⟨W1,B⟩:∃W1,Hid (W1=((w.alloc (.cells #[.map (some bo),.map (some bs)] 161)).alloc (.cells #[.slice (some (Qa bn A)) xs.length cn] 70)).alloc (.cells (madeCells #[.nilIface] xs.length) 216)):=⟨_,zB rfl⟩;have hg:Below w.heap.size w W1:=by rw[zA B];exact((zC _ _).alloc Js _).alloc Jq _
 have hp:W1.heap.size=w.heap.size+3:=by rw[zA B];simp
 have hf:=zB (show ExS W1 (w.heap.size+1+1) ns xs 0 by
  rw[zA B]
  refine⟨Js,fun j hj=>?_⟩
  have:=zVn ((w.alloc (.cells #[.map (some bo),.map (some bs)] 161)).alloc (.cells #[.slice (some (Qa bn A)) xs.length cn] 70)) xs.length j hj
  simpa[exL] using this)
 have X0:W1.cell? (Qa w.heap.size 0)=some (.map (some bo)):=by rw[zA B];simp[go_sem]
 have X1:W1.cell? (Qa w.heap.size 1)=some (.map (some bs)):=by rw[zA B];simp[go_sem]
 have HX:=zB (yK X0 X1);have HT:W1.cell? (Qa (w.heap.size+1) 0)=some (.slice (some (Qa bn A)) xs.length cn):=by rw[zA B];simp[go_sem]
 clear X0 X1;go_enter func201,ntmps201;go_wp2_with fail;go_loopw [15] (fun iv wr=>∃k:Nat,k<=xs.length/\iv=Qi k/\Hid (ExS wr (w.heap.size+1+1) ns xs k)/\Hid (wr.cell? (Qa w.heap.size 0)=some (.map (some bo))/\wr.cell? (Qa w.heap.size 1)=some (.map (some bs)))/\Below w.heap.size w wr/\w.heap.size+3<=wr.heap.size) (fun iv _=>xs.length-(intOf iv).toNat);case atStart=>
  rw[<-zA B];exact⟨0,ym _,rfl,hf,HX,hg,Jo⟩
 case round=>
  clear hf HX HT hp hg B hn;obtain⟨k,hk,rfl,e,hx,v,hw⟩:=hrel;by_cases J:k<xs.length
  ·have hv:(k:Int)<(xs.length:Int):=Jo;obtain⟨a0,a1,a2,a3⟩:=((ho) k J).below v hq;obtain⟨m0,m1⟩:=e.2 k J;have i:Below w.heap.size w (wr.alloc (.cells #[Qi (atN xs k).k,Qs (atN xs k).t,Qi (atN xs k).a,Qi (atN xs k).b] 106)).drew:=(v.alloc v.size _).drew;by_cases f:k=0
   ·subst f;have f:=HO.first;obtain⟨r,y⟩:(atN xs 0).a=0/\(atN xs 0).b=0:=by
     rcases HO.kidsAt (k:=0) Jo with⟨_,ha,hb⟩|⟨_,h,_⟩|⟨_,h,_⟩
     ·exact⟨ha,hb⟩
     ·omega
     ·omega
    rw[r] at a2;rw[y] at a3;simp only[Nat.zero_mul,Nat.add_zero] at a0 a1 a2 a3;have e0:((exL ns xs 0).getD 0 Value.nilIface)=.nilIface:=rfl;rw[e0] at m0;obtain⟨T,u,V⟩:=zEK (opA ns (atN xs 0)) (atN xs 0) .nilIface .nilIface;have d:=zB (show(Value.iface T u)=exS ns xs 0 by
     rw[zGW,<-V]
     simp[exL])
    have hm:(atN xs 0).k=1\/(atN xs 0).k=2:=by
     rcases(HO.2.2.2 0 Jo).2 with⟨h,_⟩|⟨h,_⟩|⟨h,_⟩|⟨h|h|h,_⟩
     ·exact yS h
     ·exact yU h
     all_goals(rw[h] at f;simp[zY] at f)
    have Y:=zB (fun(W:JY)(h1:Idx W bo bs ns ns.length)=>zD8 bo bs ns (atN xs 0) .nilIface .nilIface W h1 HC s (Z 0 J) hm);rw[V,r,y] at Y;have Q:=zB (show EO (wr.alloc (.cells #[Qi (atN xs 0).k,Qs (atN xs 0).t,Qi 0,Qi 0] 106)).drew w.heap.size wr.heap.size (w.heap.size+1+1) 0 0 bo bs ⟨(atN xs 0).k,(atN xs 0).t,0,0⟩ .nilIface .nilIface from by
     have y:=zC wr (.cells #[Qi (atN xs 0).k,Qs (atN xs 0).t,Qi 0,Qi 0] 106)
     refine EO.below (w:=wr.alloc (.cells #[Qi (atN xs 0).k,Qs (atN xs 0).t,Qi 0,Qi 0] 106)) ?_ (yJ _ _).drew
     refine⟨?_,?_,Jg,Jg,Jg,Jg,?_,?_⟩
     ·exact Jc y (Jo:w.heap.size<wr.heap.size) hx.1
     ·exact Jc y (Jo:w.heap.size<wr.heap.size) hx.2
     ·exact(y.cell (p:=(Qa (w.heap.size+1+1) 0)) (Jo:w.heap.size+1+1<wr.heap.size)).trans m0
     ·exact(y.cell (p:=(Qa (w.heap.size+1+1) 0)) (Jo:w.heap.size+1+1<wr.heap.size)).trans m0)
    have q:=zB ((e.below (zC wr (.cells #[Qi (atN xs 0).k,Qs (atN xs 0).t,Qi 0,Qi 0] 106))).below (yJ _ _).drew);have H:Hid (Below w.heap.size w (wr.alloc (.cells #[Qi (atN xs 0).k,Qs (atN xs 0).t,Qi 0,Qi 0] 106)).drew):=(v.alloc v.size _).drew;have X:=zB (Js:wr.heap.size+1<=(wr.alloc (.cells #[Qi (atN xs 0).k,Qs (atN xs 0).t,Qi 0,Qi 0] 106)).drew.heap.size);obtain⟨q0,q1,q2,q3,q4,q5,q6,q7⟩:=zA Q;clear V r y m0 m1 i hm f e0;go_wp2_with fail;refine wp_region_held_drew (S:=fun w'=>w'.cell? (Qa w.heap.size 0)=some (.map (some bo))/\w'.cell? (Qa w.heap.size 1)=some (.map (some bs))/\w'.cell? (Qa wr.heap.size 0)=some (Qi (atN xs 0).k)/\w'.cell? (Qa wr.heap.size 1)=some (Qs (atN xs 0).t)/\w'.cell? (Qa wr.heap.size 2)=some (Qi 0)/\w'.cell? (Qa wr.heap.size 3)=some (Qi 0)) Jk ⟨q0,q1,q2,q3,q4,q5⟩ (fun hHeld=>?_);refine tkH 0 Ja ?_;refine tkH 1 Ja ?_;refine tkH 2 Ja ?_;refine tkH 3 Ja ?_;refine tkH 4 Ja ?_;refine tkH 5 Ja ?_;refine tkH 6 Ja ?_;refine tkH 7 Ja ?_;refine tkH 9 Ja ?_;refine tkH 10 Ja ?_;refine tkH 11 Ja ?_;refine tkH 12 Ja ?_;refine yO (rs:=[8,13]) Jk Js ?_;refine yH rfl (fun K hK=>?_) (yH rfl (fun K hK=>?_) yI)
    ·go_simp;refine hK.out _ _ hHeld (fun _=>?_);clear hK K;refine yO (rs:=[13]) Jk Js ?_;refine yH rfl (fun K hK=>?_) yI;go_simp;refine hK.out _ _ hHeld (fun _=>?_);clear hK K;refine yO (rs:=[14]) Jk Js ?_;refine yH rfl (fun K hK=>?_) yI;go_simp;go_wp2_with ((go_at_call 223;refine(Y _ (HI.kept H)).mono ?_;rintro x w3 ⟨rfl,hb3⟩;replace Q:=zB (Q.below hb3);replace q:=zB (q.below hb3);replace H:=zB (H.trans (hb3.mono H.size));replace X:=zB (yw X hb3.size);clear hb3));replace⟨q0,q1,q2,q3,q4,q5,q6,q7⟩:=zA Q;refine hK.out _ _ ⟨q0,q1,q2,q3,q4,q5⟩ (fun hHeld=>?_);clear hK K;obtain⟨m0,m1⟩:=q.2 0 J;have e0:((exL ns xs 0).getD 0 Value.nilIface)=.nilIface:=rfl;rw[e0] at m0;clear e0;refine tkH 15 Ja ?_;refine yO (rs:=[16]) Jk Js ?_;refine yH rfl (fun K hK=>?_) yI;go_simp;have U:=zB (show(w3.setCell (Qa (w.heap.size+1+1) 0) (.iface T u)).cell? (Qa w.heap.size 0)=some (.map (some bo))/\(w3.setCell (Qa (w.heap.size+1+1) 0) (.iface T u)).cell? (Qa w.heap.size 1)=some (.map (some bs))/\(w3.setCell (Qa (w.heap.size+1+1) 0) (.iface T u)).cell? (Qa wr.heap.size 0)=some (Qi (atN xs 0).k)/\(w3.setCell (Qa (w.heap.size+1+1) 0) (.iface T u)).cell? (Qa wr.heap.size 1)=some (Qs (atN xs 0).t)/\(w3.setCell (Qa (w.heap.size+1+1) 0) (.iface T u)).cell? (Qa wr.heap.size 2)=some (Qi 0)/\(w3.setCell (Qa (w.heap.size+1+1) 0) (.iface T u)).cell? (Qa wr.heap.size 3)=some (Qi 0) from
      have c:∀{b o':Nat}{x:Value},b≠w.heap.size+1+1->w3.cell? (Qa b o')=some x->(w3.setCell (Qa (w.heap.size+1+1) 0) (.iface T u)).cell? (Qa b o')=some x:=fun N h=>(yj _ _ _ _ (fun x=>N (by injection x with x1;exact x1.symm))).trans h
      ⟨c Jo q0,c Jo q1,c Jo q2,c Jo q3,c Jo q4,c Jo q5⟩)
     refine hK.out _ _ U (fun _=>?_);clear hK K;refine wpAnyH_done Jk ?_ _;have C:=zB (q.set J d);have O:=zB (yK U.1 U.2.1);have F:Below w.heap.size w (w3.setCell (Qa (w.heap.size+1+1) 0) (.iface T u)):=H.setCell Jq _;have E:w.heap.size+3<=(w3.setCell (Qa (w.heap.size+1+1) 0) (.iface T u)).heap.size:=by have:=zA X;simp[World.setCell];omega
     clear Q q H X m0 m1 U q0 q1 q2 q3 q4 q5 q6 q7 hHeld;go_wp2_with fail;exact⟨⟨1,Jo,Jn,C,O,F,E⟩,Ji⟩
    ·go_simp;refine hK.out _ _ hHeld (fun _=>?_);clear hK K;refine yO (rs:=[8]) Jk Js ?_;refine yH rfl (fun K hK=>?_) yI;go_simp;refine hK.out _ _ hHeld (fun _=>?_);clear hK K;refine yO (rs:=[14]) Jk Js ?_;refine yH rfl (fun K hK=>?_) yI;go_simp;go_wp2_with ((go_at_call 223;refine(Y _ (HI.kept H)).mono ?_;rintro x w3 ⟨rfl,hb3⟩;replace Q:=zB (Q.below hb3);replace q:=zB (q.below hb3);replace H:=zB (H.trans (hb3.mono H.size));replace X:=zB (yw X hb3.size);clear hb3));replace⟨q0,q1,q2,q3,q4,q5,q6,q7⟩:=zA Q;refine hK.out _ _ ⟨q0,q1,q2,q3,q4,q5⟩ (fun hHeld=>?_);clear hK K;obtain⟨m0,m1⟩:=q.2 0 J;have e0:((exL ns xs 0).getD 0 Value.nilIface)=.nilIface:=rfl;rw[e0] at m0;clear e0;refine tkH 15 Ja ?_;refine yO (rs:=[16]) Jk Js ?_;refine yH rfl (fun K hK=>?_) yI;go_simp;have U:=zB (show(w3.setCell (Qa (w.heap.size+1+1) 0) (.iface T u)).cell? (Qa w.heap.size 0)=some (.map (some bo))/\(w3.setCell (Qa (w.heap.size+1+1) 0) (.iface T u)).cell? (Qa w.heap.size 1)=some (.map (some bs))/\(w3.setCell (Qa (w.heap.size+1+1) 0) (.iface T u)).cell? (Qa wr.heap.size 0)=some (Qi (atN xs 0).k)/\(w3.setCell (Qa (w.heap.size+1+1) 0) (.iface T u)).cell? (Qa wr.heap.size 1)=some (Qs (atN xs 0).t)/\(w3.setCell (Qa (w.heap.size+1+1) 0) (.iface T u)).cell? (Qa wr.heap.size 2)=some (Qi 0)/\(w3.setCell (Qa (w.heap.size+1+1) 0) (.iface T u)).cell? (Qa wr.heap.size 3)=some (Qi 0) from
      have c:∀{b o':Nat}{x:Value},b≠w.heap.size+1+1->w3.cell? (Qa b o')=some x->(w3.setCell (Qa (w.heap.size+1+1) 0) (.iface T u)).cell? (Qa b o')=some x:=fun N h=>(yj _ _ _ _ (fun x=>N (by injection x with x1;exact x1.symm))).trans h
      ⟨c Jo q0,c Jo q1,c Jo q2,c Jo q3,c Jo q4,c Jo q5⟩)
     refine hK.out _ _ U (fun _=>?_);clear hK K;refine wpAnyH_done Jk ?_ _;have C:=zB (q.set J d);have O:=zB (yK U.1 U.2.1);have F:Below w.heap.size w (w3.setCell (Qa (w.heap.size+1+1) 0) (.iface T u)):=H.setCell Jq _;have E:w.heap.size+3<=(w3.setCell (Qa (w.heap.size+1+1) 0) (.iface T u)).heap.size:=by have:=zA X;simp[World.setCell];omega
     clear Q q H X m0 m1 U q0 q1 q2 q3 q4 q5 q6 q7 hHeld;go_wp2_with fail;exact⟨⟨1,Jo,Jn,C,O,F,E⟩,Ji⟩
   ·obtain⟨ja,jb,G,g,M,l⟩:=zPi HO J Jo;obtain⟨Ta,ua,n⟩:=zCP ns xs ja;obtain⟨Tb,ub,o⟩:=zCP ns xs jb;have ca:=e.2 ja Jo;have cb:=e.2 jb Jo;rw[zC4 ns xs k ja M,n] at ca;rw[zC4 ns xs k jb l,o] at cb;obtain⟨T,u,V⟩:=zEK (opA ns (atN xs k)) (atN xs k) (.iface Ta ua) (.iface Tb ub);have d:=zB (show(Value.iface T u)=exS ns xs k by
     rw[zGW,G,g,Int.toNat_natCast,Int.toNat_natCast,zC4 ns xs k ja M,zC4 ns xs k jb l,n,o,V])
    have Y:=zB (fun(W:JY)(h1:Idx W bo bs ns ns.length)=>zMm bo bs ns (atN xs k) Ta Tb ua ub W h1 HC s (Z k J) (HO.2.2.2 k J) (hr k J));rw[V,G,g] at Y;rw[G] at a2;rw[g] at a3;have hu:(ja:Int)<(xs.length:Int):=Jo;have ht:(jb:Int)<(xs.length:Int):=Jo;have Q:=zB (show EO (wr.alloc (.cells #[Qi (atN xs k).k,Qs (atN xs k).t,Qi ja,Qi jb] 106)).drew w.heap.size wr.heap.size (w.heap.size+1+1) ja jb bo bs ⟨(atN xs k).k,(atN xs k).t,(ja:Int),(jb:Int)⟩ (.iface Ta ua) (.iface Tb ub) from by
     have y:=zC wr (.cells #[Qi (atN xs k).k,Qs (atN xs k).t,Qi ja,Qi jb] 106)
     refine EO.below (w:=wr.alloc (.cells #[Qi (atN xs k).k,Qs (atN xs k).t,Qi ja,Qi jb] 106)) ?_ (yJ _ _).drew
     refine⟨?_,?_,Jg,Jg,Jg,Jg,?_,?_⟩
     ·exact Jc y (Jo:w.heap.size<wr.heap.size) hx.1
     ·exact Jc y (Jo:w.heap.size<wr.heap.size) hx.2
     ·exact(y.cell (p:=(Qa (w.heap.size+1+1) ja)) (Jo:w.heap.size+1+1<wr.heap.size)).trans ca.1
     ·exact(y.cell (p:=(Qa (w.heap.size+1+1) jb)) (Jo:w.heap.size+1+1<wr.heap.size)).trans cb.1)
    have q:=zB ((e.below (zC wr (.cells #[Qi (atN xs k).k,Qs (atN xs k).t,Qi ja,Qi jb] 106))).below (yJ _ _).drew);have H:Hid (Below w.heap.size w (wr.alloc (.cells #[Qi (atN xs k).k,Qs (atN xs k).t,Qi ja,Qi jb] 106)).drew):=(v.alloc v.size _).drew;have X:wr.heap.size+1<=(wr.alloc (.cells #[Qi (atN xs k).k,Qs (atN xs k).t,Qi ja,Qi jb] 106)).drew.heap.size:=Js;have X:=zB X;clear ca cb n o V G g m0 m1 i;go_wp2_with fail;go_region_held (fun w'=>w'.cell? (Qa w.heap.size 0)=some (.map (some bo))/\w'.cell? (Qa w.heap.size 1)=some (.map (some bs))/\w'.cell? (Qa wr.heap.size 0)=some (Qi (atN xs k).k)/\w'.cell? (Qa wr.heap.size 1)=some (Qs (atN xs k).t)/\w'.cell? (Qa wr.heap.size 2)=some (Qi ja)/\w'.cell? (Qa wr.heap.size 3)=some (Qi jb)/\w'.cell? (Qa (w.heap.size+1+1) ja)=some (.iface Ta ua)/\w'.cell? (Qa (w.heap.size+1+1) jb)=some (.iface Tb ub)) (first|exact zA Q|exact Q.set Jo Jo Jo Jo _)
     ((go_at_call 223;refine(Y _ (HI.kept H)).mono ?_;rintro x w3 ⟨rfl,hb3⟩;replace Q:=zB (Q.below hb3);replace q:=zB (q.below hb3);replace H:=zB (H.trans (hb3.mono H.size));replace X:=zB (yw X hb3.size);clear hb3;obtain⟨m0,m1⟩:=q.2 k J))
    have C:=zB (q.set J d);have U:=zB (show(w3.setCell (Qa (w.heap.size+1+1) k) (.iface T u)).cell? (Qa w.heap.size 0)=some (.map (some bo))/\(w3.setCell (Qa (w.heap.size+1+1) k) (.iface T u)).cell? (Qa w.heap.size 1)=some (.map (some bs)) from
     have h:=Q.set (k:=k) Jo Jo Jo Jo (.iface T u)
     ⟨h.1,h.2.1⟩)
    have F:Below w.heap.size w (w3.setCell (Qa (w.heap.size+1+1) k) (.iface T u)):=H.setCell Jq _;have E:w.heap.size+3<=(w3.setCell (Qa (w.heap.size+1+1) k) (.iface T u)).heap.size:=by have:=zA X;simp[World.setCell];omega
    clear Q q H X m0 m1;go_wp2_with fail;exact⟨⟨k+1,Jo,Jn,C,U,F,E⟩,Ji⟩
  ·have hz:k=xs.length:=Jo;have HL:=zB (e.2 (xs.length-1) Jo);rw[zC4 ns xs k (xs.length-1) Jo] at HL;obtain⟨T,u,V⟩:=zCP ns xs (xs.length-1);rw[V] at HL;have hs:=zB V;have c1:=HL.1;have ei:(xs.length:Int)-1=((xs.length-1:Nat):Int):=Jo;have e2:((xs.length-1:Nat):Int)<(xs.length:Int):=Jo;clear V HL;go_wp2_with fail;go_ret;exact⟨by rw[zA hs];rfl,v⟩
theorem zLg{k:Int}:(zCR k != 0)=decide (3<=k/\k<=5):=by
 unfold zCR;split
 ·rename_i h;simp[h];omega
 ·rename_i h;simp;omega
theorem zMn(bo bs bn K cn:Nat)(xs:List OpR)(ns:List zD)(w:JY)(F:ns.length<=1048576)(hi:Idx w bo bs xs xs.length)(hc:zO xs 0)(B:zBi xs xs.length)(A:Zv w bn K ns)(c:zBb ns)(E:bn<w.heap.size):Calls prog 221 #[.agg #[.map (some bo),.map (some bs)],.agg #[.slice (some (Qa bn K)) ns.length cn]] w fun e w'=>zBD e (zCt xs ns)/\Qb w w':=by
 have HI:=zB hi;have HC:=zB hc;have C:=zB B;have D:=zB A;have d:=zB c;have U:=zB (show Cs [(w.heap.size,0,.map (some bo)),(w.heap.size,1,.map (some bs))] ((w.alloc (.cells #[.map (some bo),.map (some bs)] 161)).alloc (.cells #[.slice (some (Qa bn K)) ns.length cn] 70)) from fun p hp=>by
  simp only[List.mem_cons,List.not_mem_nil,or_false] at hp
  rcases hp with rfl|rfl
  ·simp[go_sem]
  ·simp[go_sem])
 have X:Qb w ((w.alloc (.cells #[.map (some bo),.map (some bs)] 161)).alloc (.cells #[.slice (some (Qa bn K)) ns.length cn] 70)):=(zC _ _).alloc Js _;clear hi hc B A c;go_enter func221,ntmps221;go_wp2_with fail;go_loopw [12] (fun iv wr=>∃k:Nat,k<=ns.length/\iv=Qi k/\Hid (∀i,i<k->Zh (atN ns i)->fnd xs (atN ns i).t ((atN ns i).k-2)≠none)/\Hid (Cs [(w.heap.size,0,.map (some bo)),(w.heap.size,1,.map (some bs))] wr)/\Qb w wr) (fun iv _=>ns.length-(intOf iv).toNat);case atStart=>exact⟨0,ym _,rfl,zB (fun i hi=>yR hi (yx i)),U,X⟩
 case round=>
  clear U X;obtain⟨k,hk,rfl,J,P,q⟩:=hrel;have c0:=(zA P) (w.heap.size,0,.map (some bo)) Js;have c1:=(zA P) (w.heap.size,1,.map (some bs)) Js;simp only at c0 c1;by_cases V:k<ns.length
  ·have f:(k:Int)<(ns.length:Int):=Jo;obtain⟨a0,a1,a2,a3⟩:=((D) k V).below q E;have y:=zB (P.below (zC wr (.cells #[Qi (atN ns k).k,Qs (atN ns k).t,Qi (atN ns k).a,Qi (atN ns k).b] 106)));have d0:=(zA y) (w.heap.size,0,.map (some bo)) Js;have d1:=(zA y) (w.heap.size,1,.map (some bs)) Js;simp only at d0 d1;have H:Qb w (wr.alloc (.cells #[Qi (atN ns k).k,Qs (atN ns k).t,Qi (atN ns k).a,Qi (atN ns k).b] 106)):=q.alloc q.size _;go_wp2_with fail;go_call zHE bo bs xs (atN ns k) _ (HI.kept H) HC C (d k V) as e w3 ⟨⟨p,v,rfl,hp⟩,hb3⟩;have HP:=zB hp;have u:=zB ((y.below hb3).below (zC w3 (.cells #[Qs p.s,Qi p.k,Qi p.l,Qi p.sd] 33)));have n0:w3.cell? (Qa wr.heap.size 0)=some (Qi (atN ns k).k):=Jc hb3 Jh Jg;have z3:wr.heap.size<w3.heap.size:=Jz hb3.size
   have n0':(w3.alloc (.cells #[Qs p.s,Qi p.k,Qi p.l,Qi p.sd] 33)).cell? (Qa wr.heap.size 0)=some (Qi (atN ns k).k):=Jc (zC _ _) z3 n0;have x:Qb w (w3.alloc (.cells #[Qs p.s,Qi p.k,Qi p.l,Qi p.sd] 33)):=(H.trans (hb3.mono H.size)).alloc (H.trans (hb3.mono H.size)).size _;clear hp hb3 c0 c1 d0 d1;cases v
   ·by_cases ho:Zh (atN ns k)
    ·have HF:=zB (show fnd xs (atN ns k).t ((atN ns k).k-2)=none by
      rcases zA HP with⟨j,_,_,h,_⟩|⟨h,_⟩
      ·cases h
      ·exact h ho)
     have Y:=zB ho;have hz:(zCR (atN ns k).k != 0)=true:=by rw[zLg];exact decide_eq_true ho
     clear ho;go_wp2_with (go_at_call 164;refine(zCS _ _).mono ?_;rintro e w' ⟨rfl,hx⟩;obtain rfl:=hx.symm);go_ret;exact⟨⟨_,rfl,zQ (fun h=>h k V Y HF)⟩,x⟩
    ·have Y:=zB ho;have hz:(zCR (atN ns k).k != 0)=false:=by rw[zLg];exact decide_eq_false ho
     clear ho;go_wp2_with (go_at_call 164;refine(zCS _ _).mono ?_;rintro e w' ⟨rfl,hx⟩;obtain rfl:=hx.symm);refine⟨⟨k+1,Jo,Jn,zB (fun i hi Q=>?_),u,x⟩,Ji⟩;by_cases e:i=k
     ·subst e;exact yR Q Y
     ·exact J i Jo Q
   ·have HF:=zB (show fnd xs (atN ns k).t ((atN ns k).k-2)≠none by
     rcases zA HP with⟨j,_,h,_,_⟩|⟨_,h⟩
     ·rw[h];simp
     ·cases h)
    go_wp2_with fail;refine⟨⟨k+1,Jo,Jn,zB (fun i hi Q=>?_),u,x⟩,Ji⟩;by_cases e:i=k
    ·subst e;exact HF
    ·exact J i Jo Q
  ·have g:k=ns.length:=Jo;go_wp2_with fail;go_ret;exact⟨⟨_,rfl,Zb (fun i hi Q=>J i Jo Q)⟩,q⟩
theorem zHy(bo bs bn k cn:Nat)(xs:List OpR)(ns:List zD)(w:JY)(j:ns.length<=1048576)(hi:Idx w bo bs xs xs.length)(hc:zO xs 0)(Y:zBi xs xs.length)(X:Zv w bn k ns)(y:zBb ns)(q:bn<w.heap.size):Calls prog 199 #[.agg #[.map (some bo),.map (some bs)],.agg #[.slice (some (Qa bn k)) ns.length cn]] w fun e w'=>zBD e (Zk ns/\zCt xs ns)/\Qb w w':=by
 have HI:=zB hi;have HC:=zB hc;have P:=zB Y;have x:=zB X;have J:=zB y;have K:Qb w ((w.alloc (.cells #[.map (some bo),.map (some bs)] 161)).alloc (.cells #[.slice (some (Qa bn k)) ns.length cn] 70)):=(zC _ _).alloc Js _;clear hi hc Y X y;go_enter func199,ntmps199;go_wp2_with fail;go_call zOY bn k cn ns _ j (x.below K q) J (yl q K.size) as e w2 ⟨⟨v,rfl,hv⟩,hb2⟩;have HV:=zB hv;have H:=K.trans (hb2.mono K.size);have k1:w2.cell? (Qa (w.heap.size+1) 0)=some (.slice (some (Qa bn k)) ns.length cn):=(hb2.cell (p:=(Qa (w.heap.size+1) 0)) Js).trans Jg;have k2:w2.cell? (Qa w.heap.size 0)=some (.map (some bo)):=Jc hb2 Jh Jg;have k3:w2.cell? (Qa w.heap.size 1)=some (.map (some bs)):=Jc hb2 Jh Jg;clear hv hb2 K;cases v
 ·go_wp2_with fail;go_ret;exact⟨⟨_,rfl,zQ (fun h=>Bool.false_ne_true (HV.2 h.1))⟩,H⟩
 have HO:=zB (HV.1 rfl);clear HV;go_wp2_with fail;go_call zMn bo bs bn k cn xs ns _ j (HI.kept H) HC P (x.below H q) J (yl q H.size) as e w3 ⟨⟨v,rfl,hv⟩,hb3⟩;have HV:=zB hv;have Q:=H.trans (hb3.mono H.size);clear hv hb3 H k1 k2 k3;cases v
 ·go_wp2_with fail;go_ret;exact⟨⟨_,rfl,zQ (fun h=>Bool.false_ne_true (HV.2 h.2))⟩,Q⟩
 ·go_wp2_with fail;go_ret;exact⟨⟨_,rfl,Zb ⟨HO,HV.1 rfl⟩⟩,Q⟩
def zVo(ns:List OpR)(xs:List zD)(x:Ending):Prop:=
 (∃v:Value,x=.returned (.tuple #[v,.bool false])/\Hid (¬ ((zO ns 0/\Zk xs/\zCt ns xs)/\(gS ns xs (xs.length-1) 0 0).length<=20000))/\(v=.nilIface\/∃T u,v=.iface T u)) \/
 (x=.returned (.tuple #[fS ns xs (xs.length-1) 0,.bool true])/\Hid ((zO ns 0/\Zk xs/\zCt ns xs)/\(gS ns xs (xs.length-1) 0 0).length<=20000))
theorem zOZ(b C cap bn H cn:Nat)(ns:List OpR)(xs:List zD)(w:JY)(hm:ns.length<=1048576)(O:xs.length<=1048576)(hw:Ops w b C ns)(E:ZA ns)(hB:b<w.heap.size)(M:Zv w bn H xs)(N:zBb xs)(V:bn<w.heap.size):Calls prog 161 #[.agg #[.slice (some (Qa b C)) ns.length cap],.agg #[.slice (some (Qa bn H)) xs.length cn]] w fun x w'=>zVo ns xs x/\Qb w w':=by
 have HW:=zB hw;have I:=zB M;have HZ:=zB E;have i:=zB N;clear hw M E N;go_enter func161,ntmps161;go_wp2_with fail;go_call zDQ b C cap ns _ hm (HW.below ((zC _ _).alloc Js _) hB) HZ Jq as e w1 ⟨⟨x,y,c,rfl,hc,hix⟩,hb1⟩;have HC:=zB hc;have n:=zB hix;have K:Qb w w1:=((zC _ _).alloc Js _).trans (hb1.mono Jq);have c1:w1.cell? (Qa (w.heap.size+1) 0)=some (.slice (some (Qa bn H)) xs.length cn):=(hb1.cell (p:=(Qa (w.heap.size+1) 0)) Js).trans Jg;have z1:w.heap.size+2<=w1.heap.size:=Jz hb1.size
 clear hc hix hb1;by_cases J:c=0;case neg=>
  have R:(c != 0)=true:=Ju J
  have HN:Hid (¬ zO ns 0):=fun h=>J (zAC HC h)
  clear J;go_wp2_with fail;refine yN (v:=.tuple #[.nilIface,.bool false]) ?res rfl ⟨yS ⟨.nilIface,rfl,zB (fun h=>HN h.1.1),yS rfl⟩,K.alloc K.size _⟩;case res=>simp[results,results161,go_sem]
 subst J;obtain⟨bo,bs,rfl,rfl,a⟩:=(zA n) rfl;have d:=zB (a.kept (zC w1 (.cells #[.map (some bo),.map (some bs)] 161)));have G:=zB (zCZ HC);have belA:Qb w (w1.alloc (.cells #[.map (some bo),.map (some bs)] 161)):=K.alloc K.size _;have Y:=zB (show Cs [(w.heap.size+1,0,.slice (some (Qa bn H)) xs.length cn),(w1.heap.size,0,.map (some bo)),(w1.heap.size,1,.map (some bs))] (w1.alloc (.cells #[.map (some bo),.map (some bs)] 161)) from fun p hp=>by
  simp only[List.mem_cons,List.not_mem_nil,or_false] at hp
  rcases hp with rfl|rfl|rfl
  ·exact((zC _ _).cell (p:=(Qa (w.heap.size+1) 0)) (Jo:w.heap.size+1<w1.heap.size)).trans c1
  ·simp[go_sem]
  ·simp[go_sem])
 clear n a c1;have k1:=(zA Y) (w.heap.size+1,0,.slice (some (Qa bn H)) xs.length cn) Js;have k2:=(zA Y) (w1.heap.size,0,.map (some bo)) Js;have k3:=(zA Y) (w1.heap.size,1,.map (some bs)) Js;simp only at k1 k2 k3;go_wp2_with fail;go_call zHy bo bs bn H cn ns xs _ O d HC G (I.below belA V) i (yl V belA.size) as e w3 ⟨⟨v,rfl,hv⟩,hb3⟩;have HV:=zB hv;have X:=belA.trans (hb3.mono belA.size);have z3:w1.heap.size+1<=w3.heap.size:=Jz hb3.size
 have f:=zB (Y.below hb3);have l:=zB (d.kept hb3);clear hv hb3 Y d k1 k2 k3 belA;cases v
 ·go_wp2_with fail;refine yN (v:=.tuple #[.nilIface,.bool false]) ?res rfl ⟨yS ⟨.nilIface,rfl,zB (fun h=>Bool.false_ne_true (HV.2 ⟨h.1.2.1,h.1.2.2⟩)),yS rfl⟩,X⟩;case res=>simp[results,results161,go_sem]
 have HO:=zB (HV.1 rfl).1;have HK:=zB (HV.1 rfl).2;clear HV;have S:=HO.2.1;have s:=HO.1;have L:=zB (show zCp (w3.alloc (.cells #[Qi 0] 276)) w3.heap.size 0 from⟨Jg,Jg⟩);have P:=zB (f.below (zC w3 (.cells #[Qi 0] 276)));have m:=zB (l.kept (zC w3 (.cells #[Qi 0] 276)));have k:Qb w (w3.alloc (.cells #[Qi 0] 276)):=X.alloc X.size _;have k1:=(zA P) (w.heap.size+1,0,.slice (some (Qa bn H)) xs.length cn) Js;have k2:=(zA P) (w1.heap.size,0,.map (some bo)) Js;have k3:=(zA P) (w1.heap.size,1,.map (some bs)) Js;simp only at k1 k2 k3;clear f l P;go_wp2_with fail;go_call zPj bo bs bn H cn ns xs _ m HC G (I.below k V) i (yl V k.size) HO HK as e w5 ⟨rfl,hb5⟩;have g:=zB (L.below hb5);have A:=k.trans (hb5.mono k.size);have j:=zB (zIx ns xs HO.2.2.2 HK HZ xs.length (xs.length-1) 0 Jo Jo HO.2.2.1 w3.heap.size 0 0 w5 g Jo);obtain⟨T,u,B⟩:=zCP ns xs (xs.length-1);obtain⟨T2,u2,Q⟩:=zDd ns xs xs.length (xs.length-1) 0 Jo HO.2.2.1 0;rw[B,Q] at j;have r:=zB Q;have o:=(zCl ns xs xs.length (xs.length-1) 0 Jo HO.2.2.1 0 0).2;rw[B];clear hb5 L m k1 k2 k3 B Q k;go_wp2_with fail;go_call j as e w6 ⟨rfl,hg6,hk6⟩;have U:Qb w w6:=A.trans (hk6.below (by exact A.size) Jo);have cg:=hg6.1;obtain⟨q,hq⟩:=Jx ((gS ns xs (xs.length-1) 0 0).length);rw[<-hq] at cg o;rw[yY] at cg;have HQ:=zB hq;clear hg6 hk6 j g hq;by_cases F:q<=20000
 ·have D:(q:Int)<=20000:=Jo;go_wp2_with fail;go_quiet (fail);go_wp2;refine yN (v:=.tuple #[.iface T2 u2,.bool true]) ?res rfl ⟨yU ⟨by rw[zA r],zB ⟨⟨HC,HO,HK⟩,by rw[<-zA HQ];exact F⟩⟩,zEw U rfl rfl rfl rfl⟩;case res=>simp[results,results161,go_sem,D]
 ·have D:¬ (q:Int)<=20000:=Jo;go_wp2_with fail;go_quiet (fail);go_wp2;refine yN (v:=.tuple #[.iface T2 u2,.bool false]) ?res rfl ⟨yS ⟨_,rfl,zB (fun h=>F (by rw[zA HQ];exact h.2)),yU ⟨_,_,rfl⟩⟩,zEw U rfl rfl rfl rfl⟩;case res=>simp[results,results161,go_sem,D]
theorem zLh(ps:List JZ):Lib.join (ps.map (·.data.toList)) (⟨#[]⟩:JZ).data.toList=zIZ ps:=by
 unfold Lib.join zIZ;induction ps with
 |nil=>rfl
 |cons a r ih=>
  cases r with
  |nil=>simp[List.intercalate]
  |cons b r=>simp[List.intercalate,List.intersperse] at ih ⊢;rw[ih]
theorem zRX{base n size cap:Nat}{e:TypeId}{xs:List Value}(h:w.ownsRow base e size (Ql g n cap) n xs):n<=cap/\cap<=maxLen:=by
 obtain⟨_,h|⟨g',k,K,H,_,_,h1,h2,_⟩⟩:=h
 ·simp at h
 ·simp only[Value.slice.injEq,Option.some.injEq] at H;obtain⟨_,_,rfl⟩:=H;exact⟨h1,h2⟩
theorem zKq(b A cap bn Y cn:Nat)(ns:List OpR)(xs:List zD)(w:JY)(hm:ns.length<=1048576)(M:xs.length<=1048576)(hw:Ops w b A ns)(c:ZA ns)(hB:b<w.heap.size)(I:Zv w bn Y xs)(l:zBb xs)(Z:bn<w.heap.size):Calls prog 110 #[.agg #[.slice (some (Qa b A)) ns.length cap],.agg #[.slice (some (Qa bn Y)) xs.length cn]] w fun e w'=>(∃(s:JZ)(v:Bool),e=.returned (.tuple #[Qs s,.bool v])/\Hid (zCa ns xs s v))/\Qb w w':=by
 have HW:=zB hw;have R:=zB I;have HZ:=zB c;have O:=zB l;have p:Hid (∀o1 o2:Obj,Qb w ((w.alloc o1).alloc o2)):=fun o1 o2=>(zC w o1).alloc Js o2
 clear hw I c l;go_enter func110,ntmps110;go_wp2_with fail;go_call zOZ b A cap bn Y cn ns xs _ hm M (HW.below (p _ _) hB) HZ Jq (R.below (p _ _) Z) O Jq as e w1 ⟨hp,hb1⟩;have H:Qb w w1:=((p) _ _).trans (hb1.mono Jq);clear hb1 p;rcases hp with⟨v,rfl,hn,hv⟩|⟨rfl,hy⟩
 ·have HN:=zB hn;clear hn;rcases hv with rfl|⟨T,u,rfl⟩
  ·go_wp2_with fail;go_ret2;exact⟨⟨_,_,rfl,zB (yU ⟨HN,rfl,rfl⟩)⟩,H⟩
  ·go_wp2_with fail;go_ret2;exact⟨⟨_,_,rfl,zB (yU ⟨HN,rfl,rfl⟩)⟩,H⟩
 ·obtain⟨G,hG,K,f,P,N,F⟩:=zGe hy;rw[F];obtain⟨⟨T,u,C⟩,j⟩:=zVa ns G K.well;have n:(yT G).length<=40000:=by
   have:=zJ6 G;simp[yT];omega
  have h0:=zSX K.sh;have J:=zIF (yT G) h0 (yT G).length (yk _);rw[List.take_length] at J;obtain⟨st,a⟩:∃st,Hid (st=(yT G).foldl put1 ([],0)):=⟨_,zB rfl⟩;have U:=zEX (yT G) ([],0);rw[<-zA a] at J U;have L:Hid (zIZ st.1=txT G):=J.1;have D:=zQe f 20000 P;have ha:=zB (by rw[zLh,zA L];omega:(Lib.join (st.1.map (·.data.toList)) (⟨#[]⟩:JZ).data.toList).length<=140737488355328);have B:zE0 (w1.alloc (.cells #[.slice none 0 0,Qi 0] 235)) w1.heap.size (.slice none 0 0) [] 0:=
   ⟨Jg,Jg,fun o=>Jg,World.ownsRow_nil _ _ _ _⟩
  have X:=zB (j w1.heap.size (.slice none 0 0) [] 0 _ st B Jq a);simp only[yZ,yY] at U;have hc:st.1.length<=80000:=Jo;have HG:=zB hG;have d:st.1≠[]:=fun e=>by
   have:=zSW K.sh;have h1:(yT G).length≠0:=Jo;have e2:1<=st.1.length:=by
    rw[zA a];cases hh:yT G with
    |nil=>rw[hh] at h1;exact yR rfl h1
    |cons x r=>
     have mono:∀(W:List ZG)(q:List ByteArray×Int),q.1.length<=(W.foldl put1 q).1.length:=fun W=>by
      induction W with
      |nil=>intro q;exact yk _
      |cons y W ih=>
       intro q;have:=ih (put1 q y);simp only[List.foldl_cons];refine yw ?_ this;simp[put1]
     have:=mono r (put1 ([],0) x);simp only[List.foldl_cons];refine yw ?_ this;simp[put1]
   rw[e] at e2;simp at e2
  have t:=zB d;rw[C] at X ⊢;clear hG K f N F C j n h0 J U D B P d;go_wp2_with fail;go_call X as x w2 ⟨rfl,v2,p1,p2,p3⟩;have V:Qb w w2:=⟨p2.os.trans H.os,p2.tape.trans H.tape,p2.output.trans H.output,by have:=p2.size;have:=H.size;simp at *;omega,fun i hi=>(p2.block i (by have:=H.size;simp;omega) (Jy H.size) Jb).trans (((zC w1 _).block i (Jy H.size)).trans (H.block i hi))⟩;have c0:=p1.c0;have Q:=p1.row;obtain⟨g2,k2,rfl⟩:∃g k,v2 = Ql g st.1.length k:=by
   obtain⟨_,⟨rfl,h0⟩|⟨g,cap,hd,h,_⟩⟩:=Q
   ·exact yR (List.eq_nil_of_length_eq_zero h0) t
   ·exact⟨_,_,h⟩
  have m:=zB Q.cells;have S:=(Q.lt g2 rfl).2;have hb:=(zRX Q).1;clear p2 p3 Q X;go_wp2_with fail;go_call zNT g2 0 k2 st.1 ⟨#[]⟩ _ m S Jo hb ha as x w3 ⟨rfl,hb3⟩;rw[zLh,zA L];have E:=V.trans (hb3.mono V.size);clear c0 hb3;go_wp2_with fail;go_ret2;exact⟨⟨_,_,rfl,zB (yS ⟨hy,rfl,by rw[<-zA HG]⟩)⟩,E⟩
theorem zIa.one{T:Nat->List OpR}{b:Nat->ByteArray}{n:Nat}{H out':List (List zD)}{c c' who who':Int}(h:zIa T b n H c who)(h':zIa T b n out' c' who'):H=out'/\c=c'/\who=who':=by
 rcases h' with⟨k,us,cd,t,h1,h2,h3,h4,rfl,rfl,rfl⟩|⟨h1,rfl,rfl⟩
 ·exact h.hit h1 h2 h3 h4
 ·exact h.miss h1
theorem zAe.one{ms:List zH}{H out':List (List zD)}{c c' who who':Int}(h:zAe ms H c who)(h':zAe ms out' c' who'):H=out'/\c=c'/\who=who':=by
 obtain⟨tabs,c0,w0,hL,h⟩:=h;obtain⟨tabs',c0',w0',K,h'⟩:=h';obtain⟨rfl,rfl,rfl⟩:=hL.one K;rcases h with⟨a,rfl,rfl,rfl⟩|⟨a,U,hU,h⟩<;>rcases h' with⟨a',rfl,rfl,rfl⟩|⟨a',U',k,h'⟩
 ·exact⟨rfl,rfl,rfl⟩
 ·exact yR a' a
 ·exact yR a a'
 ·obtain rfl:=hU.eq k;exact h.one h'
end Go.Proofs.YtadiaghhackbjaaGreatDoor
