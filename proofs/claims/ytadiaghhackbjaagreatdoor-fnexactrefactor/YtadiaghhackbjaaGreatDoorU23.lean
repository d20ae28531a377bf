import Derived.Test.YtadiaghhackbjaaGreatDoorU10
import Derived.Test.YtadiaghhackbjaaGreatDoorU13
import Derived.Test.YtadiaghhackbjaaGreatDoorU16
import Derived.Test.YtadiaghhackbjaaGreatDoorU17
namespace Go.Proofs.YtadiaghhackbjaaGreatDoor
set_option linter.all false
set_option maxHeartbeats 0
set_option maxRecDepth 100000
open Proofs.Tryz RowKit Maps
variable{N:Nat}{e e':Value}{p:OpR}{s:ByteArray}{w:World}{xs:List OpR}
theorem zQb{W:JY}{p bo bs L:Nat}(h:Sc W p bo bs L s 0 0 (.slice none 0 0))(hi:Idx W bo bs xs xs.length)(h1:bo<p)(h2:bs<p):zDb W W p bo bs L xs s 0 0 [] (.slice none 0 0):=
 ⟨h,World.ownsRow_nil _ _ _ _,Jb,hi,yJ _ _,zI4.start xs s,fun q h1 h2=>Jo,yk _,ym _,h1,h2⟩
theorem zN7{w2:JY}{bo bs L:Nat}(hi:Idx w2 bo bs xs xs.length)(h1:bo<w2.heap.size)(h2:bs<w2.heap.size):zDb (w2.alloc (.cells #[.map (some bo),.map (some bs),Qi L,Qs s,Qi 0,Qi 0,.slice none 0 0] 201)) (w2.alloc (.cells #[.map (some bo),.map (some bs),Qi L,Qs s,Qi 0,Qi 0,.slice none 0 0] 201)) w2.heap.size bo bs L xs s 0 0 [] (.slice none 0 0):=by
 refine zQb ⟨?_,?_,?_,?_,?_,?_,?_,fun o=>?_⟩ (hi.kept (zC _ _)) h1 h2;all_goals simp[go_sem]
theorem zE5(g:Nat):∀(vs:List Value)(o:Nat)(w:JY)(q:Addr),(w.setCells g o vs).frozen? q=w.frozen? q
 |[],_,_,_=>rfl
 |v::r,o,w,q=>(zE5 g r (o+1) (w.setCell (Qa g o) v) q).trans (yv _ _ _ _)
theorem zD6(g i:Nat)(h:i≠g):∀(vs:List Value)(o:Nat)(w:JY),(w.setCells g o vs).heap[i]?=w.heap[i]?
 |[],_,_=>rfl
 |v::r,o,w=>(zD6 g i h r (o+1) (w.setCell (Qa g o) v)).trans (je _ _ _ _ h)
theorem zN8{w2:JY}{p bo bs L:Nat}(hi:Idx w2 bo bs xs xs.length)(h1:bo<p)(h2:bs<p)(hc:∀j,j<7->(w2.cell? (Qa p j)).isSome=true)(hf:∀o,w2.frozen? (Qa p o)=false):zDb (w2.setCells p 0 [.map (some bo),.map (some bs),Qi L,Qs s,Qi 0,Qi 0,.slice none 0 0]) (w2.setCells p 0 [.map (some bo),.map (some bs),Qi L,Qs s,Qi 0,Qi 0,.slice none 0 0]) p bo bs L xs s 0 0 [] (.slice none 0 0):=by
 have h:=World.cell?_setCells_in p [.map (some bo),.map (some bs),Qi L,Qs s,Qi 0,Qi 0,.slice none 0 0] 0 w2 (fun j hj=>by simpa using hc j (Ju hj));refine zQb ⟨Ju (h 0 Js),Ju (h 1 Js),Ju (h 2 Js),Ju (h 3 Js),Ju (h 4 Js),Ju (h 5 Js),Ju (h 6 Js),fun o=>(zE5 p _ _ _ _).trans (hf o)⟩ (hi.of_blocks (zD6 p bo Jo _ _ _) (zD6 p bs Jo _ _ _)) h1 h2
theorem zVF(bo bs:Nat)(xs:List OpR)(s:JZ)(w:JY)(hi:Idx w bo bs xs xs.length)(hc:zO xs 0)(X:ZA xs)(y:s.size<=20000):Calls prog 92 #[.agg #[.map (some bo),.map (some bs)],Qs s] w fun e w'=>(∃(g cp:Nat)(us:List zU),e=.returned (Ql g us.length cp)/\(w.heap.size<=g/\us.length<=cp/\cp<=maxLen)/\Hid (zIj w' g us us.length)/\Hid (zAA xs s 0 us))/\Qb w w':=by
 have HS:=zB X;have u:=zB (zCZ hc);have HV:=zB (zB5 (zCZ hc));have HK:=zB (zNN (zCZ hc));have U:bo<w.heap.size:=by obtain⟨D,hD,_⟩:=hi.ops;exact hD.lt
 have A:bs<w.heap.size:=by obtain⟨D,hD,_⟩:=hi.srts;exact hD.lt
 have belI:Qb w (w.alloc (.cells #[.map (some bo),.map (some bs)] 161)):=zC _ _;have k0:(w.alloc (.cells #[.map (some bo),.map (some bs)] 161)).cell? (Qa w.heap.size 0)=some (.map (some bo)):=Jg;have k1:(w.alloc (.cells #[.map (some bo),.map (some bs)] 161)).cell? (Qa w.heap.size 1)=some (.map (some bs)):=Jg;have K:=zB (hi.kept (zC w (.cells #[.map (some bo),.map (some bs)] 161)));clear hi X hc;go_enter func92,ntmps92;go_wp2_with fail;obtain⟨W0,Q⟩:=Jx (w.alloc (.cells #[.map (some bo),.map (some bs)] 161));have a:w.heap.size+1=W0.heap.size:=by rw[Q];simp
 rw[<-Q] at belI k0 k1 K ⊢;clear Q;have n1:¬ W0.heap.size=w.heap.size:=Jo;go_region_held (fun w'=>w'.cell? (Qa w.heap.size 0)=some (.map (some bo))/\w'.cell? (Qa w.heap.size 1)=some (.map (some bs))) (go_keep)
  (first|(go_at_call 137;refine(zIc bo bs xs _ (by first|exact K.kept (yJ _ _).drew|exact(K.kept (zC _ _)).kept (yJ _ _).drew) HV HS u).mono ?_;rintro e w2 ⟨⟨L,rfl,hL,hLx⟩,hb2⟩;have q0:=hb2.cell (p:=Qa w.heap.size 0) (by first|(simp;omega));have q1:=hb2.cell (p:=Qa w.heap.size 1) (by first|(simp;omega));have Y:=zB hLx;have h:=zB hb2;obtain⟨v,P⟩:=zH1 hb2;clear hLx hb2))
 ·have J:W0.heap.size<=w2.heap.size:=h.size;have k:=zB (zN7 (w2:=w2) (L:=L) (s:=s) (K.kept ((yJ _ _).drew.trans h)) Jo Jo);have H:Qb w (w2.alloc (.cells #[.map (some bo),.map (some bs),Qi L,Qs s,Qi 0,Qi 0,.slice none 0 0] 201)):=(belI.drew.trans (h.mono belI.size)).alloc Jo _;have x:w.heap.size<=w2.heap.size:=Jo;have V:=k.lt;go_wp2_with fail;go_call zN3 _ bo bs L xs s _ k y hL Y HV HK as e w4 ⟨rfl,g,cp,us,hcell,⟨hpg,hcp,hcpm⟩,hfil,hlex,hbel⟩;have c6:=zA hcell;have q:=H.trans (hbel.mono x);go_wp2_with fail;go_ret;exact⟨⟨g,cp,us,rfl,⟨Jo,hcp,hcpm⟩,hfil,hlex⟩,q⟩
 ·have J:W0.heap.size<w2.heap.size:=Jz h.size
  have k:=zB (zN8 (w2:=w2) (p:=W0.heap.size) (L:=L) (s:=s) (((K.kept (zC _ _)).kept (yJ _ _).drew).kept h) Jo Jo (fun j hj=>by
   rw[v _ _ (by simp)]
   match j,hj with
   |0,_=>simp[go_sem]
   |1,_=>simp[go_sem]
   |2,_=>simp[go_sem]
   |3,_=>simp[go_sem]
   |4,_=>simp[go_sem]
   |5,_=>simp[go_sem]
   |6,_=>simp[go_sem]) (fun o=>by rw[P _ _ (by simp)];simp[go_sem]))
  have H:Qb w (w2.setCells W0.heap.size 0 [.map (some bo),.map (some bs),Qi L,Qs s,Qi 0,Qi 0,.slice none 0 0]):=zM belI.size _ _ _ ((belI.alloc belI.size _).drew.trans (h.mono (by have:=belI.size;simp;omega)));have x:w.heap.size<=W0.heap.size:=belI.size;have V:=k.lt;go_wp2_with fail;go_call zN3 _ bo bs L xs s _ k y hL Y HV HK as e w4 ⟨rfl,g,cp,us,hcell,⟨hpg,hcp,hcpm⟩,hfil,hlex,hbel⟩;have c6:=zA hcell;have q:=H.trans (hbel.mono x);go_wp2_with fail;go_ret;exact⟨⟨g,cp,us,rfl,⟨Jo,hcp,hcpm⟩,hfil,hlex⟩,q⟩
theorem zTK{T:TypeId}{v:Value}(p:OpR)(g m m1:Nat)(H:Int){e1:Value}(w:JY)(he:∃T' v',e1=.iface T' v')(hg:zCp w g m)(y:p.s.size<=maxLen)(X:m1<=100000)(hc:∀W,zCp W g m->Calls prog 200 #[Qp g,.iface T v,Qi (ZU p.s p.k p.l p.sd false)] W (zBV W g m1 e1)):Calls prog 200 #[Qp g,zCv p (.iface T v),Qi H] w (zBV w g (m1+zL1 p.l H) (zG7 p.l H (zCv p e1))):=by
 obtain⟨T',v',rfl⟩:=he;obtain⟨n1,n2,n3⟩:=zQD (.agg #[Qs p.s,Qi p.k,Qi p.l,Qi p.sd,.iface T v]);have i1:=zQE (.agg #[Qs p.s,Qi p.k,Qi p.l,Qi p.sd,.iface T v]);unfold Z0 zG at n1;unfold Z0 zP at n2;unfold Z0 zI at n3;have j:=block_lt_of_cell hg.1;have HC:=zB hc;have K:Hid (zCp (w.alloc (.cells #[Qs p.s,Qi p.k,Qi p.l,Qi p.sd,.iface T v] 268)).drew g m):=hg.below ((zC _ _).drew);have h:=zB (show zEQ (w.alloc (.cells #[Qs p.s,Qi p.k,Qi p.l,Qi p.sd,.iface T v] 268)).drew w.heap.size p (.iface T v) from
  (show zEQ (w.alloc (.cells #[Qs p.s,Qi p.k,Qi p.l,Qi p.sd,.iface T v] 268)) w.heap.size p (.iface T v) from⟨Jg,Jg,Jg,Jg,Jg,Jg⟩).below ((yJ _ _).drew))
 have q:Hid (zJ w (w.alloc (.cells #[Qs p.s,Qi p.k,Qi p.l,Qi p.sd,.iface T v] 268)).drew g):=zJ.of_below ((zC _ _).drew);clear hc hg;unfold zCv;go_enter func200,ntmps200;go_wp2_with fail;clear n1 n2 n3 i1;obtain⟨k0,k1,k2,k3,k4,k5⟩:=zA h;go_region_with
  (first|(go_at_call 183;refine(zAn p.s p.k p.l p.sd false _ y).mono ?_;rintro e w3 ⟨rfl,hb3⟩;replace h:=zB (h.below hb3);replace⟨k0,k1,k2,k3,k4,k5⟩:=zA h;replace K:=zB (K.below hb3);replace q:=zB (q.trans (zJ.of_below hb3));clear hb3)|(go_at_call 200;refine(HC _ K).mono ?_;rintro e w4 ⟨rfl,hg4,hk4⟩;replace h:=zB (h.kept hk4 Jo);replace K:=hg4;replace q:=zB (q.trans hk4);clear hk4 hg4;replace⟨k0,k1,k2,k3,k4,k5⟩:=zA h))
 all_goals
  replace h:=zB (h.set (.iface T' v'))
  replace K:=zB (K.other (N:=w.heap.size) (o:=4) Jo (.iface T' v'))
  replace q:=zB (q.far 4 (.iface T' v') (yk _))
  clear k0 k1 k2 k3 k4 k5
  obtain⟨k0,k1,k2,k3,k4,k5⟩:=zA h
  go_wp2_with fail
  go_call zDq (zNa p (.iface T' v')) g m1 H _ K X as x w6 ⟨rfl,h1,h2⟩
  obtain⟨T6,v6,Q⟩:=zDS p.l H 268 (.agg #[Qs p.s,Qi p.k,Qi p.l,Qi p.sd,.iface T' v'])
  have Y:=zB (q.trans h2)
  unfold zCv
  rw[Q]
  clear k0 k1 k2 k3 k4 k5 h K q h2
  go_wp2_with fail
  go_ret
  exact⟨by first|rfl|(rw[Q];rfl),h1,Y⟩
def zDy(w:JY)(N:Nat)(p:OpR)(e e':Value):Prop:=w.cell? (Qa N 0)=some (Qs p.s)/\w.cell? (Qa N 1)=some (Qi p.k)/\w.cell? (Qa N 2)=some (Qi p.l)/\w.cell? (Qa N 3)=some (Qi p.sd)/\w.cell? (Qa N 4)=some e/\w.cell? (Qa N 5)=some e'/\w.frozen? (Qa N 4)=false/\w.frozen? (Qa N 5)=false
theorem zDy.kept{w':JY}{g:Nat}(h:zDy w N p e e')(hk:zJ w w' g)(H:N≠g):zDy w' N p e e':=by
 obtain⟨h0,h1,h2,h3,h4,h5,h6,h7⟩:=h;have k:=block_lt_of_cell h0;have c:=hk.cell k H;exact⟨(c 0).trans h0,(c 1).trans h1,(c 2).trans h2,(c 3).trans h3,(c 4).trans h4,(c 5).trans h5,(hk.frozen k H 4).trans h6,(hk.frozen k H 5).trans h7⟩
theorem zDy.below{w':JY}(h:zDy w N p e e')(hb:Qb w w'):zDy w' N p e e':=
 h.kept (g:=w.heap.size) (zJ.of_below hb) (by have:N<w.heap.size:=block_lt_of_cell h.1;omega)
theorem zDy.set4(h:zDy w N p e e')(u:Value):zDy (w.setCell (Qa N 4) u) N p u e':=by
 obtain⟨h0,h1,h2,h3,h4,h5,h6,h7⟩:=h;have c:∀o,o≠4->(w.setCell (Qa N 4) u).cell? (Qa N o)=w.cell? (Qa N o):=fun o ho=>yj _ _ _ _ (fun x=>ho (by injection x with _ x;exact x.symm))
 exact⟨(c 0 Jo).trans h0,(c 1 Jo).trans h1,(c 2 Jo).trans h2,(c 3 Jo).trans h3,yt _ _ _ h4,(c 5 Jo).trans h5,(yv _ _ _ _).trans h6,(yv _ _ _ _).trans h7⟩
theorem zDy.set5(h:zDy w N p e e')(u:Value):zDy (w.setCell (Qa N 5) u) N p e u:=by
 obtain⟨h0,h1,h2,h3,h4,h5,h6,h7⟩:=h;have c:∀o,o≠5->(w.setCell (Qa N 5) u).cell? (Qa N o)=w.cell? (Qa N o):=fun o ho=>yj _ _ _ _ (fun x=>ho (by injection x with _ x;exact x.symm))
 exact⟨(c 0 Jo).trans h0,(c 1 Jo).trans h1,(c 2 Jo).trans h2,(c 3 Jo).trans h3,(c 4 Jo).trans h4,yt _ _ _ h5,(yv _ _ _ _).trans h6,(yv _ _ _ _).trans h7⟩
theorem zVG{T T2:TypeId}{v v2:Value}(p:OpR)(g m m1 m2:Nat)(q:Int){e1 e2:Value}(w:JY)(he:∃T' v',e1=.iface T' v')(J:∃T' v',e2=.iface T' v')(hg:zCp w g m)(Q:p.s.size<=maxLen)(j:m2<=100000)(hc:∀W,zCp W g m->Calls prog 200 #[Qp g,.iface T v,Qi (ZU p.s p.k p.l p.sd false)] W (zBV W g m1 e1))(Y:∀W,zCp W g m1->Calls prog 200 #[Qp g,.iface T2 v2,Qi (ZU p.s p.k p.l p.sd true)] W (zBV W g m2 e2)):Calls prog 200 #[Qp g,zFU p (.iface T v) (.iface T2 v2),Qi q] w (zBV w g (m2+zL1 p.l q) (zG7 p.l q (zFU p e1 e2))):=by
 obtain⟨T',v',rfl⟩:=he;obtain⟨T2',v2',rfl⟩:=J;obtain⟨n1,n2⟩:=zSQ (.agg #[Qs p.s,Qi p.k,Qi p.l,Qi p.sd,.iface T v,.iface T2 v2]);have i1:=zST (.agg #[Qs p.s,Qi p.k,Qi p.l,Qi p.sd,.iface T v,.iface T2 v2]);unfold Z0 zG at n1;unfold Z0 zP at n2;have V:=block_lt_of_cell hg.1;have HC:=zB hc;have y:=zB Y;have H:Hid (zCp (w.alloc (.cells #[Qs p.s,Qi p.k,Qi p.l,Qi p.sd,.iface T v,.iface T2 v2] 267)).drew g m):=hg.below ((zC _ _).drew);have h:=zB (show zDy (w.alloc (.cells #[Qs p.s,Qi p.k,Qi p.l,Qi p.sd,.iface T v,.iface T2 v2] 267)).drew w.heap.size p (.iface T v) (.iface T2 v2) from
  (show zDy (w.alloc (.cells #[Qs p.s,Qi p.k,Qi p.l,Qi p.sd,.iface T v,.iface T2 v2] 267)) w.heap.size p (.iface T v) (.iface T2 v2) from⟨Jg,Jg,Jg,Jg,Jg,Jg,Jg,Jg⟩).below ((yJ _ _).drew))
 have K:Hid (zJ w (w.alloc (.cells #[Qs p.s,Qi p.k,Qi p.l,Qi p.sd,.iface T v,.iface T2 v2] 267)).drew g):=zJ.of_below ((zC _ _).drew);clear hc Y hg;unfold zFU;go_enter func200,ntmps200;go_wp2_with fail;clear n1 n2 i1;obtain⟨k0,k1,k2,k3,k4,k5,k6,k7⟩:=zA h;go_region_with
  (first|(go_at_call 183;refine(zAn p.s p.k p.l p.sd false _ Q).mono ?_;rintro e w3 ⟨rfl,hb3⟩;replace h:=zB (h.below hb3);replace⟨k0,k1,k2,k3,k4,k5,k6,k7⟩:=zA h;replace H:=zB (H.below hb3);replace K:=zB (K.trans (zJ.of_below hb3));clear hb3)|(go_at_call 200;refine(HC _ H).mono ?_;rintro e w4 ⟨rfl,hg4,hk4⟩;replace h:=zB (h.kept hk4 Jo);replace H:=hg4;replace K:=zB (K.trans hk4);clear hk4 hg4;replace⟨k0,k1,k2,k3,k4,k5,k6,k7⟩:=zA h))
 all_goals
  replace h:=zB ((h.set4 (.iface T' v')).below ((yJ _ _).drew))
  replace H:=zB ((H.other (N:=w.heap.size) (o:=4) Jo (.iface T' v')).below ((yJ _ _).drew))
  replace K:=zB ((K.far 4 (.iface T' v') (yk _)).trans (zJ.of_below ((yJ _ _).drew)))
  clear k0 k1 k2 k3 k4 k5 k6 k7 HC
  obtain⟨k0,k1,k2,k3,k4,k5,k6,k7⟩:=zA h
  go_wp2_with fail
  go_region_with
   (first|(go_at_call 183;refine(zAn p.s p.k p.l p.sd true _ Q).mono ?_;rintro e w5 ⟨rfl,hb3⟩;replace h:=zB (h.below hb3);replace⟨k0,k1,k2,k3,k4,k5,k6,k7⟩:=zA h;replace H:=zB (H.below hb3);replace K:=zB (K.trans (zJ.of_below hb3));clear hb3)|(go_at_call 200;refine(y _ H).mono ?_;rintro e w6 ⟨rfl,hg4,hk4⟩;replace h:=zB (h.kept hk4 Jo);replace H:=hg4;replace K:=zB (K.trans hk4);clear hk4 hg4;replace⟨k0,k1,k2,k3,k4,k5,k6,k7⟩:=zA h))
 all_goals
  replace h:=zB (h.set5 (.iface T2' v2'))
  replace H:=zB (H.other (N:=w.heap.size) (o:=5) Jo (.iface T2' v2'))
  replace K:=zB (K.far 5 (.iface T2' v2') (yk _))
  clear k0 k1 k2 k3 k4 k5 k6 k7 y
  obtain⟨k0,k1,k2,k3,k4,k5,k6,k7⟩:=zA h
  go_wp2_with fail
  go_call zDq (zQC p (.iface T' v') (.iface T2' v2')) g m2 q _ H j as x w7 ⟨rfl,h1,h2⟩
  obtain⟨T6,v6,X⟩:=zDS p.l q 267 (.agg #[Qs p.s,Qi p.k,Qi p.l,Qi p.sd,.iface T' v',.iface T2' v2'])
  have P:=zB (K.trans h2)
  unfold zFU
  rw[X]
  clear k0 k1 k2 k3 k4 k5 k6 k7 h H K h2
  go_wp2_with fail
  go_ret
  exact⟨by first|rfl|(rw[X];rfl),h1,P⟩
theorem zFg(ns:List OpR)(o:zD)(l:Int)(s:Nat)(u:List zD):(zDh ns o l s u).length+1=u.length+zL1 (zAN ns o) l:=by
 unfold zDh zL1;split<;>simp
theorem zHK{ns:List OpR}{o:zD}{j:Nat}(h:fnd ns o.t (o.k-2)=some j):opA ns o=atO ns j:=by
 unfold opA;rw[h]
theorem zHL{ns:List OpR}{o:zD}{j:Nat}(h:fnd ns o.t (o.k-2)=some j)(b:Bool):zh ns o b=ZU (opA ns o).s (opA ns o).k (opA ns o).l (opA ns o).sd b:=by
 rw[zHK h];unfold zh;rw[h];rfl
theorem zDd(ns:List OpR)(xs:List zD):∀n i f,i<n->frS xs i=some f->∀l,∃T v,fS ns xs i l=.iface T v
 |0,_,_,h,_=>yR h (yx _)
 |n+1,i,f,h,hf=>by
  intro l;have cl:∀p o e e',∃T v,zDp ns (atN xs i) l (exN p o e e')=.iface T v:=fun p o e e'=>by
   obtain⟨T,v,h⟩:=zEK p o e e';rw[h];exact zDS (zAN ns (atN xs i)) l T v
  rcases zBG hf with⟨hk,ha,hb,X⟩|⟨hk,K,ha,Q,H⟩|⟨hk,K,Q,f2,q,x,ha,H⟩
  ·rw[zIq hk];exact cl _ _ _ _
  ·by_cases h6:(atN xs i).k=6
   ·rw[zJb h6 K H];exact zDd ns xs n (i-1) f Jo H l
   ·rw[zL0 hk h6 K H];exact cl _ _ _ _
  ·rw[zO2 hk K q x ha H];exact cl _ _ _ _
theorem zE2{g m m':Nat}(hm:m=m')(he:e=e'){f:FuncId}{args:Array Value}(h:Calls prog f args w (zBV w g m e)):Calls prog f args w (zBV w g m' e'):=by
 subst hm;subst he;exact h
theorem zIx(ns:List OpR)(xs:List zD)(y:∀i,i<xs.length->zA6 (atN xs i))(P:zCt ns xs)(p:ZA ns):∀n i f,i<n->i<xs.length->frS xs i=some f->∀(g m:Nat)(H:Int)(w:JY),zCp w g m->m+2*(i+1-f)<=90000 ->
  Calls prog 200 #[Qp g,exS ns xs i,Qi H] w (zBV w g (m+(gS ns xs i H 0).length) (fS ns xs i H))
 |0,_,_,h,_,_=>yR h (yx _)
 |n+1,i,f,h,hi,hf=>by
  intro g m H w hg hm;have Y:Zh (atN xs i)->∃j,fnd ns (atN xs i).t ((atN xs i).k-2)=some j:=fun ho=>by
   cases e:fnd ns (atN xs i).t ((atN xs i).k-2) with
   |none=>exact yR e (P i hi ho)
   |some j=>exact⟨j,rfl⟩
  have x:Zh (atN xs i)->zAN ns (atN xs i)=(opA ns (atN xs i)).l:=fun ho=>by
   obtain⟨j,hj⟩:=Y ho;rw[zHK hj];exact zQJ ho.1 ho.2 hj
  have U:Zh (atN xs i)->(opA ns (atN xs i)).s.size<=maxLen:=fun ho=>by
   obtain⟨j,hj⟩:=Y ho;rw[zHK hj];exact p j (zAg hj).1
  rcases zBG hf with⟨hk,ha,hb,F⟩|⟨hk,q,ha,A,K⟩|⟨hk,q,A,f2,Q,b,ha,K⟩
  ·rcases(y i hi).2 with⟨h1,_⟩|⟨h2,_⟩|⟨h6,_⟩|⟨X,_⟩
   ·have hl:zAN ns (atN xs i)=1001:=zJh Jo;have e0:exS ns xs i=zLz (atN xs i).t:=by rw[zGW];simp only[exN,h1,if_true]
    have e1:fS ns xs i H=zG7 1001 H (zLz (atN xs i).t):=by
     rw[zIq hk,zDp,hl];simp only[exN,h1,if_true];rfl
    have e2:=zFg ns (atN xs i) H 0 [⟨(atN xs i).k,(atN xs i).t,0,0⟩];rw[<-zEm hk,hl] at e2;simp only[yy,yZ] at e2;rw[e0];exact zE2 Jo e1.symm (zNb (zWK _) (zQA _) g m H w hg Jo)
   ·have hl:zAN ns (atN xs i)=1001:=zJh Jo;have e0:exS ns xs i=zG5 (atN xs i).t:=by rw[zGW];simp only[exN,h2];rfl
    have e1:fS ns xs i H=zG7 1001 H (zG5 (atN xs i).t):=by
     rw[zIq hk,zDp,hl];simp only[exN,h2];rfl
    have e2:=zFg ns (atN xs i) H 0 [⟨(atN xs i).k,(atN xs i).t,0,0⟩];rw[<-zEm hk,hl] at e2;simp only[yy,yZ] at e2;rw[e0];exact zE2 Jo e1.symm (zNb (zUW _) (zNZ _) g m H w hg Jo)
   ·rw[h6] at hk;simp[zY] at hk
   ·rcases X with h|h|h<;>rw[h] at hk<;>simp[zY] at hk
  ·have D:=zAD K;have ih:=zIx ns xs y P p n (i-1) f Jo Jo K;have a:=zCl ns xs i (i-1) f Jo K;obtain⟨T,v,J⟩:=zCP ns xs (i-1);rw[J] at ih;have ex:=zUT (ns:=ns) q ha .nilIface hk;rw[J] at ex;rcases(y i hi).2 with⟨h1,_⟩|⟨h2,_⟩|⟨h6,_⟩|⟨X,_⟩
   ·rw[h1] at hk;simp[zY] at hk
   ·rw[h2] at hk;simp[zY] at hk
   ·have e0:exS ns xs i=zG6 (.iface T v):=by rw[ex];simp only[exN,h6];rfl
    rw[e0];refine zE2 rfl (zJb h6 q K H).symm (zUX g _ H w (zDd ns xs i (i-1) f Jo K H) (fun o=>?_));refine zE2 (by rw[zEC h6 q K]) rfl (ih g m H _ (hg.below (zC _ _)) Jo)
   ·rcases X with h|h|h
    ·have ho:Zh (atN xs i):=⟨Jo,Jo⟩;obtain⟨j,hj⟩:=Y ho;have e0:exS ns xs i=zGV (opA ns (atN xs i)) (.iface T v):=by rw[ex];simp only[exN,h];rfl
     have e1:fS ns xs i H=zG7 (opA ns (atN xs i)).l H (zGV (opA ns (atN xs i)) (fS ns xs (i-1) (zh ns (atN xs i) false))):=by
      rw[zL0 hk Jo q K,zDp,x ho];simp only[exN,h];rfl
     have e2:=zFg ns (atN xs i) H 0 (gS ns xs (i-1) (zh ns (atN xs i) false) 0++[⟨(atN xs i).k,(atN xs i).t,((0+(gS ns xs (i-1) (zh ns (atN xs i) false) 0).length:Nat):Int)-1,0⟩]);rw[<-zGQ hk Jo q K H 0 rfl,x ho,yq] at e2;simp only[yy,yZ] at e2;have d:=(a (zh ns (atN xs i) false) 0).2;rw[e0];refine zE2 ?_ e1.symm (zUp (opA ns (atN xs i)) g m (m+(gS ns xs (i-1) (zh ns (atN xs i) false) 0).length) H w (zDd ns xs i (i-1) f Jo K _) hg (U ho) Jo (fun W hW=>?_))
     ·omega
     ·rw[<-zHL hj false];exact ih g m _ W hW Jo
    ·rw[h] at hk;simp[zY] at hk
    ·have ho:Zh (atN xs i):=⟨Jo,Jo⟩;obtain⟨j,hj⟩:=Y ho;have e0:exS ns xs i=zCv (opA ns (atN xs i)) (.iface T v):=by rw[ex];simp only[exN,h];rfl
     have e1:fS ns xs i H=zG7 (opA ns (atN xs i)).l H (zCv (opA ns (atN xs i)) (fS ns xs (i-1) (zh ns (atN xs i) false))):=by
      rw[zL0 hk Jo q K,zDp,x ho];simp only[exN,h];rfl
     have e2:=zFg ns (atN xs i) H 0 (gS ns xs (i-1) (zh ns (atN xs i) false) 0++[⟨(atN xs i).k,(atN xs i).t,((0+(gS ns xs (i-1) (zh ns (atN xs i) false) 0).length:Nat):Int)-1,0⟩]);rw[<-zGQ hk Jo q K H 0 rfl,x ho,yq] at e2;simp only[yy,yZ] at e2;have d:=(a (zh ns (atN xs i) false) 0).2;rw[e0];refine zE2 ?_ e1.symm (zTK (opA ns (atN xs i)) g m (m+(gS ns xs (i-1) (zh ns (atN xs i) false) 0).length) H w (zDd ns xs i (i-1) f Jo K _) hg (U ho) Jo (fun W hW=>?_))
     ·omega
     ·rw[<-zHL hj false];exact ih g m _ W hW Jo
  ·have D:=zAD Q;have E:=zAD K;have h4:(atN xs i).k=4:=by
    unfold zY at hk;split at hk
    ·assumption
    ·split at hk<;>omega
   have ho:Zh (atN xs i):=⟨Jo,Jo⟩;obtain⟨j,hj⟩:=Y ho;have ih1:=zIx ns xs y P p n (f2-1) f Jo Jo K;have ih2:=zIx ns xs y P p n (i-1) f2 Jo Jo Q;have C:=(zCl ns xs i (f2-1) f Jo K (zh ns (atN xs i) false) 0).2;have B:=(zCl ns xs i (i-1) f2 Jo Q (zh ns (atN xs i) true) 0).2;obtain⟨T,v,J⟩:=zCP ns xs (f2-1);obtain⟨T2,v2,V⟩:=zCP ns xs (i-1);rw[J] at ih1;rw[V] at ih2;have ex:=zUU (ns:=ns) (j:=f2-1) q (by rw[ha];omega) Jo A;rw[J,V] at ex;have e0:exS ns xs i=zFU (opA ns (atN xs i)) (.iface T v) (.iface T2 v2):=by rw[ex];simp only[exN,h4];rfl
   have e1:fS ns xs i H=zG7 (opA ns (atN xs i)).l H (zFU (opA ns (atN xs i)) (fS ns xs (f2-1) (zh ns (atN xs i) false)) (fS ns xs (i-1) (zh ns (atN xs i) true))):=by
    rw[zO2 hk q Q b ha K,zDp,x ho];simp only[exN,h4];rfl
   obtain⟨u1,u⟩:=Jx (gS ns xs (f2-1) (zh ns (atN xs i) false) 0);obtain⟨u2,c⟩:=Jx (gS ns xs (i-1) (zh ns (atN xs i) true) (0+u1.length));have e2:=zFg ns (atN xs i) H 0 ((u1++u2)++[⟨(atN xs i).k,(atN xs i).t,((0+u1.length:Nat):Int)-1,((0+u1.length+u2.length:Nat):Int)-1⟩]);rw[<-zHb hk q Q b ha K H 0 u c,x ho,yq,yq] at e2;simp only[yy,yZ] at e2;have e3:u2.length=(gS ns xs (i-1) (zh ns (atN xs i) true) 0).length:=by
    rw[c];exact zDM ns xs i (i-1) f2 Jo Q _ _ _
   rw[<-u] at C;rw[<-e3] at B;rw[e0];refine zE2 ?_ e1.symm (zVG (opA ns (atN xs i)) g m (m+u1.length) (m+u1.length+u2.length) H w (zDd ns xs i (f2-1) f Jo K _) (zDd ns xs i (i-1) f2 Jo Q _) hg (U ho) Jo (fun W hW=>?_) (fun W hW=>?_))
   ·omega
   ·rw[<-zHL hj false,u];exact ih1 g m _ W hW Jo
   ·rw[<-zHL hj true,e3];exact ih2 g _ _ W hW Jo
end Go.Proofs.YtadiaghhackbjaaGreatDoor
