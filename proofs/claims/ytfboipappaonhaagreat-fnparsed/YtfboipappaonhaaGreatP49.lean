import Derived.Deep.RegionHeldLaw
import Derived.Defers
import Derived.Recover
import Derived.Laws.Pointers
import Derived.Test.YtfboipappaonhaaGreatP17
import Derived.Test.YtfboipappaonhaaGreatP40
import Derived.Test.YtfboipappaonhaaGreatP48
namespace Go.Proofs.YtfboipappaonhaaGreat
set_option linter.unusedSimpArgs false
set_option linter.unusedVariables false
set_option maxHeartbeats 16000000
set_option maxRecDepth 100000
open Go.RowKit Go.Maps
theorem zLW {ns:List OpR} {D:DataW Unit} {s s2:ByteArray} {kd k2 l2 sd2:Int} {yd:DataW Unit} {yp:List MemPlace}
  (hD:Maps.has D (klO s kd) = true -> ∃ j,j < ns.length /\ (atO ns j).s = s /\ (atO ns j).k = kd /\ D.atKey (klO s kd) (zAI ⟨#[]⟩ 0 0 0) = zAI (atO ns j).s (atO ns j).k (atO ns j).l (atO ns j).sd)
  (hh:Maps.has D (klO s kd) = true) (hv:Zy (.agg #[.string s2,.int .i64 k2,.int .i64 l2,.int .i64 sd2]) = some (yd,yp)) (hat:∀ zd,D.atKey (klO s kd) zd = yd) :
  ∃ j,j < ns.length /\ s = (atO ns j).s /\ kd = (atO ns j).k /\ s2 = (atO ns j).s /\ k2 = (atO ns j).k /\ l2 = (atO ns j).l /\ sd2 = (atO ns j).sd:=by
 obtain ⟨j,hj,e1,e2,e3⟩:=hD hh
 rw [hat] at e3
 rw [zCf] at hv
 have e4:zAI s2 k2 l2 sd2 = zAI (atO ns j).s (atO ns j).k (atO ns j).l (atO ns j).sd:=by
  rw [<- e3]; injection hv with hv; exact congrArg Prod.fst hv
 unfold zAI at e4
 simp only [DataW.agg.injEq,List.cons.injEq,DataW.lit.injEq,Lit.string.injEq,Lit.int.injEq,true_and,and_true] at e4
 obtain ⟨a1,a2,a3,a4⟩:=e4
 exact ⟨j,hj,e1.symm,e2.symm,by
  apply zCk
  have:=congrArg List.toArray a1
  simpa using this,a2,a3,a4⟩
theorem zOk {ns:List OpR} (hc:zM ns 0) {j b:Nat} (hj:j < ns.length) (hb:(b:Int) - 2 = (atO ns j).k):opA ns (rt b (atO ns j).s) = atO ns j:=by
 unfold opA
 simp only [rt]
 rw [zKS hc hj ⟨rfl,hb.symm⟩]
theorem zN3 {ns:List OpR} {j:Nat} (hj:j < ns.length):za ns (atO ns j).s (atO ns j).k = true:=(ZJ _ _ _).2 ⟨j,hj,rfl,rfl⟩
def zN4 (w:World) (g o c:Nat) (ns:List OpR) (ts:List zI) (x:Ending) (w':World):Prop:=
 ∃ p bf bb,x = .returned (.pointer (some ⟨p,0,none⟩)) /\ w.heap.size <= p /\ Hid (PC w' p g o bf bb ns ts) /\ Hid (Zb w' p g o ts.length c 0 bf bb)
structure zAE (w wr:World) (ns:List OpR) (D:DataW Unit) (bo p bf bb r C:Nat) (g o n c:Nat) (left:Lit -> Bool) (dn:ByteArray -> Int -> Bool) (cnt m1 m2:Nat) (G1 G2:ByteArray -> Option Value):Prop where
 rg:wr.ranges Tryz.prog 161 Zy bo r ns.length D left cnt
 sub:∀ kl,left kl = true -> Maps.has D kl = true
 s1:zB6 wr bf m1 G1
 s2:zB6 wr bb m2 G2
 n1:m1 + cnt <= C
 n2:m2 + cnt <= C
 f1:BfD (r + 1) wr p ns dn G1
 f2:BbD (r + 1) wr p ns dn G2
 pr:Zb wr p g o n c 0 bf bb
 sz:r < wr.heap.size
 bel:Below w.heap.size w wr
theorem Zb.keptO {w w':World} {p g o n c i bf bb b:Nat} (h:Zb w p g o n c i bf bb) (hk:zE w w' b) (hne:p ≠ b):Zb w' p g o n c i bf bb:=by
 obtain ⟨h0,h1,h2,h3,h4⟩:=h
 have hlt:p < w.heap.size:=block_lt_of_cell h0
 exact ⟨(hk.cell hlt hne 0).trans h0,(hk.cell hlt hne 1).trans h1,(hk.cell hlt hne 2).trans h2,(hk.cell hlt hne 3).trans h3,(hk.frozen hlt hne 1).trans h4⟩
theorem zE.of_grown {w w':World} {b:Nat} (h:w.grownBy w' (some b)):zE w w' b:=⟨h.os,h.tape,h.output,h.size,fun i hi hne=>h.block i hi (fun x=>hne (by injection x))⟩
theorem zAE.step {w wr w':World} {ns:List OpR} {D:DataW Unit} {bo p bf bb r C:Nat} {g o n c:Nat} {left:Lit -> Bool} {dn:ByteArray -> Int -> Bool} {cnt m1 m2:Nat} {G1 G2:ByteArray -> Option Value}
  (h:zAE w wr ns D bo p bf bb r C g o n c left dn cnt m1 m2 G1 G2) (hb:Below wr.heap.size wr w'):zAE w w' ns D bo p bf bb r C g o n c left dn cnt m1 m2 G1 G2 where
 rg:=h.rg.kept (zS hb none) (by simp) (by simp)
 sub:=h.sub
 s1:=h.s1.kept (zS hb none) (by simp)
 s2:=h.s2.kept (zS hb none) (by simp)
 n1:=h.n1
 n2:=h.n2
 f1:=h.f1.kept (zE.of_below hb) (Nat.lt_succ_self r)
 f2:=h.f2.kept (zE.of_below hb) (Nat.lt_succ_self r)
 pr:=h.pr.below hb
 sz:=Nat.lt_of_lt_of_le h.sz hb.size
 bel:=h.bel.trans (hb.mono h.bel.size)
def zHV (B bo p bf bb r:Nat):Prop:=B <= r /\ B <= p /\ B <= bf /\ B <= bb /\ p < r /\ bf < r /\ bb < r /\ bf ≠ bb /\ p ≠ bf /\ p ≠ bb /\ bo < B
theorem zAE.next {w wr w':World} {ns:List OpR} {D:DataW Unit} {bo p bf bb r C:Nat} {g o n c:Nat} {left left':Lit -> Bool} {dn:ByteArray -> Int -> Bool} {cnt cnt' m1 m2:Nat} {G1 G2:ByteArray -> Option Value}
  (h:zAE w wr ns D bo p bf bb r C g o n c left dn cnt m1 m2 G1 G2) (hat:zHV w.heap.size bo p bf bb r) (hrg:w'.ranges Tryz.prog 161 Zy bo r ns.length D left' cnt') (hl:∀ z,left' z = true -> left z = true) (hc:cnt' < cnt) (hk:zE wr w' r) :
  zAE w w' ns D bo p bf bb r C g o n c left' dn cnt' m1 m2 G1 G2:=by
 obtain ⟨a1,a2,a3,a4,a5,a6,a7,a8,a9,a10,a11⟩:=hat
 exact ⟨hrg,fun kl hl'=>h.sub kl (hl kl hl'),h.s1.kept (zU hk) (fun e=>by injection e; omega),h.s2.kept (zU hk) (fun e=>by injection e; omega),by have:=h.n1; omega,by have:=h.n2; omega,
  h.f1.kept hk (Nat.lt_succ_self r),h.f2.kept hk (Nat.lt_succ_self r),h.pr.keptO hk (by omega),Nat.lt_of_lt_of_le h.sz hk.size,h.bel.trans (hk.below h.bel.size a1)⟩
theorem zAE.put1 {w wr w':World} {ns:List OpR} {D:DataW Unit} {bo p bf bb r C:Nat} {g o n c:Nat} {left:Lit -> Bool} {dn dn':ByteArray -> Int -> Bool} {cnt m1 m2:Nat} {G1 G2:ByteArray -> Option Value} {s:ByteArray} {v:Value}
  (h:zAE w wr ns D bo p bf bb r C g o n c left dn cnt m1 m2 G1 G2) (hat:zHV w.heap.size bo p bf bb r) (hm:zEd dn dn' s 1) (hs:s ≠ opn) (hv:zCP (r + 1) wr 132 p (opA ns (rt 3 s)) v)
  (hn:m1 + 1 + cnt <= C) (hs':zB6 w' bf (m1 + 1) (fun t'=>if t'.data = s.data then some v else G1 t')) (hk:zE wr w' bf) :
  zAE w w' ns D bo p bf bb r C g o n c left dn' cnt (m1 + 1) m2 (fun t'=>if t'.data = s.data then some v else G1 t') G2:=by
 obtain ⟨a1,a2,a3,a4,a5,a6,a7,a8,a9,a10,a11⟩:=hat
 exact ⟨h.rg.kept (zU hk) (fun e=>by injection e; omega) (fun e=>by injection e; omega),h.sub,hs',h.s2.kept (zU hk) (fun e=>by injection e; omega),by omega,h.n2,
  (h.f1.put hm hs hv).kept hk (by omega),(h.f2.keep hm rfl).kept hk (by omega),h.pr.keptO hk (by omega),Nat.lt_of_lt_of_le h.sz hk.size,h.bel.trans (hk.below h.bel.size a3)⟩
theorem zAE.put2 {w wr w':World} {ns:List OpR} {D:DataW Unit} {bo p bf bb r C:Nat} {g o n c:Nat} {left:Lit -> Bool} {dn dn':ByteArray -> Int -> Bool} {cnt m1 m2:Nat} {G1 G2:ByteArray -> Option Value} {s:ByteArray} {v:Value}
  (h:zAE w wr ns D bo p bf bb r C g o n c left dn cnt m1 m2 G1 G2) (hat:zHV w.heap.size bo p bf bb r) (hm:zEd dn dn' s 2) (h3:dn s 3 = false) (hv:zDP (r + 1) wr 133 p (opA ns (rt 4 s)) v)
  (hn:m2 + 1 + cnt <= C) (hs':zB6 w' bb (m2 + 1) (fun t'=>if t'.data = s.data then some v else G2 t')) (hk:zE wr w' bb) :
  zAE w w' ns D bo p bf bb r C g o n c left dn' cnt m1 (m2 + 1) G1 (fun t'=>if t'.data = s.data then some v else G2 t'):=by
 obtain ⟨a1,a2,a3,a4,a5,a6,a7,a8,a9,a10,a11⟩:=hat
 exact ⟨h.rg.kept (zU hk) (fun e=>by injection e; omega) (fun e=>by injection e; omega),h.sub,h.s1.kept (zU hk) (fun e=>by injection e; omega),hs',h.n1,by omega,
  (h.f1.keep hm (by decide)).kept hk (by omega),(h.f2.put2 hm h3 hv).kept hk (by omega),h.pr.keptO hk (by omega),Nat.lt_of_lt_of_le h.sz hk.size,h.bel.trans (hk.below h.bel.size a4)⟩
theorem zAE.put3 {w wr w':World} {ns:List OpR} {D:DataW Unit} {bo p bf bb r C:Nat} {g o n c:Nat} {left:Lit -> Bool} {dn dn':ByteArray -> Int -> Bool} {cnt m1 m2:Nat} {G1 G2:ByteArray -> Option Value} {s:ByteArray} {v:Value}
  (h:zAE w wr ns D bo p bf bb r C g o n c left dn cnt m1 m2 G1 G2) (hat:zHV w.heap.size bo p bf bb r) (hm:zEd dn dn' s 3) (h2:dn s 2 = false) (hv:zCP (r + 1) wr 135 p (opA ns (rt 5 s)) v)
  (hn:m2 + 1 + cnt <= C) (hs':zB6 w' bb (m2 + 1) (fun t'=>if t'.data = s.data then some v else G2 t')) (hk:zE wr w' bb) :
  zAE w w' ns D bo p bf bb r C g o n c left dn' cnt m1 (m2 + 1) G1 (fun t'=>if t'.data = s.data then some v else G2 t'):=by
 obtain ⟨a1,a2,a3,a4,a5,a6,a7,a8,a9,a10,a11⟩:=hat
 exact ⟨h.rg.kept (zU hk) (fun e=>by injection e; omega) (fun e=>by injection e; omega),h.sub,h.s1.kept (zU hk) (fun e=>by injection e; omega),hs',h.n1,by omega,
  (h.f1.keep hm (by decide)).kept hk (by omega),(h.f2.put3 hm h2 hv).kept hk (by omega),h.pr.keptO hk (by omega),Nat.lt_of_lt_of_le h.sz hk.size,h.bel.trans (hk.below h.bel.size a4)⟩
theorem zAE.done {w wr:World} {ns:List OpR} {D:DataW Unit} {bo p bf bb r C:Nat} {g o c:Nat} {left:Lit -> Bool} {cnt m1 m2:Nat} {G1 G2:ByteArray -> Option Value} {ts:List zI}
  (h:zAE w wr ns D bo p bf bb r C g o ts.length c left (dnL ns left) cnt m1 m2 G1 G2) (hat:zHV w.heap.size bo p bf bb r) (hl:∀ kl,left kl = false) (ht:zCE w g o ts) (hg:g < w.heap.size) :
  PC wr p g o bf bb ns ts /\ Zb wr p g o ts.length c 0 bf bb:=by
 obtain ⟨a1,a2,a3,a4,a5,a6,a7,a8,a9,a10,a11⟩:=hat
 have e:dnL ns left = za ns:=by
  funext t k
  unfold dnL
  rw [hl]
  simp
 have f1:=h.f1
 have f2:=h.f2
 rw [e] at f1 f2
 exact ⟨⟨by omega,by omega,by omega,ht.below h.bel hg,⟨m1,G1,h.s1,f1.ok (by omega)⟩,⟨m2,G2,h.s2,f2.ok (by omega)⟩⟩,h.pr⟩
theorem zHW {ns:List OpR} {left:Lit -> Bool} {t:ByteArray} {k:Int} (h:zCK ns) (ha:(za ns t 2 = true /\ k = 3) \/ (za ns t 3 = true /\ k = 2)):dnL ns left t k = false:=by
 unfold dnL
 rcases ha with ⟨h1,rfl⟩ | ⟨h1,rfl⟩
 ·cases e:za ns t 3 with
  | false=>rfl
  | true=>exact absurd ⟨h1,e⟩ (h t)
 ·cases e:za ns t 2 with
  | false=>rfl
  | true=>exact absurd ⟨e,h1⟩ (h t)
theorem zGr (bo bs g o c:Nat) (ns:List OpR) (ts:List zI) (w:World) (hi:Idx w bo bs ns ns.length) (hcd:zM ns 0) (hsz:ZV ns) (hm:ns.length <= 1048576) (ht:zCE w g o ts) (hg:g < w.heap.size) :
  Calls Tryz.prog 42 #[.agg #[.map (some bo),.map (some bs)],.slice (some ⟨g,o,none⟩) ts.length c] w fun x w'=>zN4 w g o c ns ts x w' /\ Below w.heap.size w w':=by
 have hmm:=@run_makeMap Tryz.prog
 obtain ⟨⟨D,hown,hD⟩,_,_⟩:=hi
 have hbl:=hown.lt
 have HOK:=zB (zBQ hcd)
 have HV:=zB (Z6 (zBQ hcd))
 have HAP:=zB (zGX hcd)
 have HC:=zB hcd
 have HZ:=zB hsz
 have HD:=zB hD
 have HT:=zB ht
 obtain ⟨W3,hW3⟩:∃ W3,W3 = (((w.alloc (.cells #[.map (some bo),.map (some bs)] 69)).alloc (.map #[] 0)).alloc (.map #[] 0)).alloc (.cells #[.slice (some ⟨g,o,none⟩) ts.length c,.int .i64 0,.map (some (w.heap.size + 1)),.map (some (w.heap.size + 1 + 1))] 157):=⟨_,rfl⟩
 have bel3:Below w.heap.size w W3:=by rw [hW3]; exact (((zC _ _).alloc (by simp) _).alloc (by simp; omega) _).alloc (by simp; omega) _
 have z3:W3.heap.size = w.heap.size + 4:=by rw [hW3]; simp
 have own3:W3.ownsMap Tryz.prog 161 Zy bo ns.length D:=hown.kept (row:=none) ⟨bel3.os,bel3.tape,bel3.output,bel3.size,fun i hi _=>bel3.block i hi⟩ (by simp)
 have s13:zB6 W3 (w.heap.size + 1) 0 (fun _=>none):=by
  rw [hW3]
  have:=zB6.made (w.alloc (.cells #[.map (some bo),.map (some bs)] 69))
  simp only [World.size_alloc] at this
  exact (this.kept (zS (zC _ _) none) (by simp)).kept (zS (zC _ _) none) (by simp)
 have s23:zB6 W3 (w.heap.size + 1 + 1) 0 (fun _=>none):=by
  rw [hW3]
  have:=zB6.made ((w.alloc (.cells #[.map (some bo),.map (some bs)] 69)).alloc (.map #[] 0))
  simp only [World.size_alloc] at this
  exact this.kept (zS (zC _ _) none) (by simp)
 have pr3:Zb W3 (w.heap.size + 1 + 1 + 1) g o ts.length c 0 (w.heap.size + 1) (w.heap.size + 1 + 1):=by
  rw [hW3]
  exact ⟨by simp [go_sem],by simp [go_sem],by simp [go_sem],by simp [go_sem],by simp [go_sem]⟩
 have x3:W3.cell? ⟨w.heap.size,0,none⟩ = some (.map (some bo)):=by rw [hW3]; simp [go_sem]
 obtain ⟨w4,hrun,s14,k4⟩:=s13.update (ty:=154) Tryz.underlying154 (by unfold maxLen; omega) (t:=⟨#[40]⟩) (by decide) (.func (.func 82) #[.pointer (some ⟨w.heap.size + 1 + 1 + 1,0,none⟩)] #[])
 have own4:=zB (own3.kept (zU k4) (fun e=>by injection e; omega))
 have s24:=s23.kept (zU k4) (fun e=>by injection e; omega)
 have pr4:=pr3.keptO k4 (by omega)
 have x4:w4.cell? ⟨w.heap.size,0,none⟩ = some (.map (some bo)):=(k4.cell (by omega) (by omega) 0).trans x3
 have bel4:Below w.heap.size w w4:=bel3.trans (k4.below bel3.size (by omega))
 have z4:w.heap.size + 4 <= w4.heap.size:=by have:=k4.size; omega
 have HI4:=zB (And.intro s14 (And.intro s24 (And.intro pr4 bel4)))
 have HAT:=zB (show zHV w.heap.size bo (w.heap.size + 1 + 1 + 1) (w.heap.size + 1) (w.heap.size + 1 + 1) w4.heap.size from ⟨by omega,by omega,by omega,by omega,by omega,by omega,by omega,by omega,by omega,by omega,hbl⟩)
 rw [hW3] at hrun
 clear s13 s23 pr3 x3 own3 bel3 s14 s24 pr4 bel4 k4 z3 hW3 hD hcd hsz ht
 go_enter Tryz.func42,Tryz.ntmps42
 go_wp2_with (at_range; refine wpList_range_own _ rfl _ 66 rfl 161 123 zGh Tryz.underlying66 Zy bo ns.length D rfl (zA own4) ?_; intro w0 hrg0 hg0 hs0)
 have HI0:=zB (show zAE w w0 ns D bo (w.heap.size + 1 + 1 + 1) (w.heap.size + 1) (w.heap.size + 1 + 1) w4.heap.size (Maps.size D + 1) g o ts.length c (Maps.has D) (dnL ns (Maps.has D)) (Maps.size D) (0 + 1) 0 (fun t'=>if t'.data = (⟨#[40]⟩:ByteArray).data then some (.func (.func 82) #[.pointer (some ⟨w.heap.size + 1 + 1 + 1,0,none⟩)] #[]) else none) (fun _=>none) by
  obtain ⟨h1,h2,h3,h4⟩:=zA HI4
  have hbb:Below w4.heap.size w4 w0:=⟨hg0.os,hg0.tape,hg0.output,hg0.size,fun i hi=>hg0.block i hi (by simp)⟩
  have hdn:∀ t k,dnL ns (Maps.has D) t k = false:=fun t k=>by
   unfold dnL
   cases e:za ns t k with
   | false=>rfl
   | true=>
    obtain ⟨j,hj,e1,e2⟩:=(ZJ _ _ _).1 e
    have:=(((zA HD) t k (by rw [<- e1]; exact (zA HZ) j hj) (by rw [<- e2]; exact zE0 ((zA HOK) j hj))).1).2 ⟨j,hj,e1,e2⟩
    rw [this]; rfl
  refine ⟨hrg0,fun kl h=>h,h1.kept (zS hbb none) (by simp),h2.kept (zS hbb none) (by simp),by omega,by omega,⟨rfl,fun t hto=>⟨fun _=>if_neg (fun e=>hto (zCk e)),fun e=>?_⟩⟩,fun t=>⟨fun _ _=>rfl,fun e=>?_,fun e=>?_⟩,h3.below hbb,by omega,h4.trans (hbb.mono h4.size)⟩
  ·rw [hdn] at e; cases e
  ·rw [hdn] at e; cases e
  ·rw [hdn] at e; cases e)
 have HSD:=zB (show Maps.size D <= 1048576 from Nat.le_trans (zA own4).size_le hm)
 clear hrg0 hg0 HI4 own4 x4 hrun hown hmm
 go_loopw [7] (fun _ wr=>∃ (left:Lit -> Bool) (cnt m1 m2:Nat) (G1 G2:ByteArray -> Option Value),Hid (zAE w wr ns D bo (w.heap.size + 1 + 1 + 1) (w.heap.size + 1) (w.heap.size + 1 + 1) w4.heap.size (Maps.size D + 1) g o ts.length c left (dnL ns left) cnt m1 m2 G1 G2)) (fun _ wr=>wr.rangeLeft bo w4.heap.size)
 case atStart=>exact ⟨_,_,_,_,_,_,HI0⟩
 case round=>
  clear HI0 hs0
  obtain ⟨left,cnt,m1,m2,G1,G2,HIV⟩:=hrel
  go_wp2_with (at_next; refine wpList_next_ranges _ rfl _ rfl 161 zGh Zy (fun x:ByteArray × Int=>.agg #[.string x.1,.int .i64 x.2]) (fun c:ByteArray × Int × Int × Int=>.agg #[.string c.1,.int .i64 c.2.1,.int .i64 c.2.2.1,.int .i64 c.2.2.2]) (fun key kl h=>zGa h) (fun v y h=>zEe h) bo w4.heap.size ns.length D left cnt rfl (zA HIV).rg ?_ ?_)
  ·intro hc0 hl0
   have HPC:=zB ((zA HIV).done (zA HAT) hl0 (zA HT) hg)
   have HBE:=zB (zA HIV).bel
   go_wp2
   go_ret
   exact ⟨⟨_,_,_,rfl,by omega,zB (zA HPC).1,zB (zA HPC).2⟩,zA HBE⟩
  ·intro s kd s2 k2 l2 sd2 kl yd yp w1 cnt1 hkey hlk hvv hat hrg1 hlt hg1 hs1 hen
   obtain ⟨s',kd',he,hss,hkw⟩:=zGZ hkey
   simp only [Value.agg.injEq,Array.mk.injEq,List.cons.injEq,Value.string.injEq,Value.int.injEq,true_and,and_true] at he
   obtain ⟨rfl,rfl⟩:=he
   have hkl:kl = klO s kd:=by
    have:=zHz hss hkw
    rw [this] at hkey
    injection hkey with hkey
    exact hkey.symm
   subst hkl
   obtain ⟨q,j,hj,hq,rfl,rfl,rfl,rfl,rfl,rfl⟩:∃ q:OpR,∃ j,j < ns.length /\ atO ns j = q /\ s = q.s /\ kd = q.k /\ s2 = q.s /\ k2 = q.k /\ l2 = q.l /\ sd2 = q.sd:=by
    obtain ⟨j,hj,e⟩:=zLW ((zA HD) s kd hss hkw).2 ((zA HIV).sub _ hlk) hvv hat
    exact ⟨_,j,hj,rfl,e⟩
   have HKD:=zB (show q.k = 1 \/ q.k = 2 \/ q.k = 3 by rw [<- hq]; exact zFf ((zA HOK) j hj))
   have HSG:=zB (show q.s ≠ opn from fun e=>by have:=(zEp (t:=opn) (zA HV) ⟨j,hj,by rw [hq]; exact e⟩).1; revert this; decide)
   have HB:=zB (show za ns q.s q.k = true by rw [<- hq]; exact zN3 hj)
   have HMO:=zB (zM6 (left:=left) (zA HZ) (zA HOK) hss hkw (zA HB))
   have HI1:=zB ((zA HIV).next (zA HAT) hrg1 (fun z h=>by simp only [Bool.and_eq_true] at h; exact h.1) hlt (zE.of_grown hg1))
   have HN1:=zB (show m1 + 1 + cnt1 <= Maps.size D + 1 by have:=(zA HIV).n1; omega)
   have HN2:=zB (show m2 + 1 + cnt1 <= Maps.size D + 1 by have:=(zA HIV).n2; omega)
   have HMs1:m1 < maxLen:=by have:=zA HN1; have:=zA HSD; unfold maxLen; omega
   have HMs2:m2 < maxLen:=by have:=zA HN2; have:=zA HSD; unfold maxLen; omega
   have HLF:=zB (zA HIV).rg.left_eq
   have HOA:=zB (show ∀ b:Nat,(b:Int) - 2 = q.k -> opA ns (rt b q.s) = q from fun b h=>by rw [<- hq] at h ⊢; exact zOk (zA HC) hj h)
   have HQS:q.s.size <= maxLen:=hss
   have HLT:=zB hlt
   have HI2:=zB ((zA HI1).step (zC w1 (.cells #[.string q.s,.int .i64 q.k,.int .i64 q.l,.int .i64 q.sd] 123)))
   have HOC:=zB (show OpC (w1.alloc (.cells #[.string q.s,.int .i64 q.k,.int .i64 q.l,.int .i64 q.sd] 123)) w1.heap.size q from ⟨by simp [go_sem],by simp [go_sem],by simp [go_sem],by simp [go_sem]⟩)
   have belD:Below (w1.alloc (.cells #[.string q.s,.int .i64 q.k,.int .i64 q.l,.int .i64 q.sd] 123)).heap.size (w1.alloc (.cells #[.string q.s,.int .i64 q.k,.int .i64 q.l,.int .i64 q.sd] 123)) (w1.alloc (.cells #[.string q.s,.int .i64 q.k,.int .i64 q.l,.int .i64 q.sd] 123)).drew:=(Below.refl _ _).drew
   have hw1:w4.heap.size < w1.heap.size:=(zA HI1).sz
   have HNZ:w1.heap.size ≠ 0:=by omega
   have hpA:=(zA HI2).pr.2.2.1
   have hpB:=(zA HI2).pr.2.2.2.1
   clear hkey hlk hvv hat HIV hg1 hlt hq hss hkw HI1 hrg1 hs1
   have HLO:w4.heap.size + 1 <= (w1.alloc (.cells #[.string q.s,.int .i64 q.k,.int .i64 q.l,.int .i64 q.sd] 123)).drew.heap.size:=by simp; omega
   rcases zA HKD with hk | hk | hk
   ·have e1:(q.k == 1) = true:=by rw [hk]; rfl
    have HK:=zB hk
    have HNB:w1.heap.size ≠ w.heap.size + 1:=by omega
    have HM1:=zB (show zEd (dnL ns left) (dnL ns fun z=>left z && !z.sameKey (klO q.s q.k)) q.s 1 by have:=zA HMO; rw [hk] at this ⊢; exact this)
    have HQA:=zB ((zA HOA) 3 (by rw [hk]; decide))
    clear hk HKD HB
    go_wp2_with fail
    go_region_held (fun w'=>w'.cell? ⟨w.heap.size + 1 + 1 + 1,2,none⟩ = some (.map (some (w.heap.size + 1))) /\ w'.cell? ⟨w1.heap.size,0,none⟩ = some (.string q.s) /\ w'.cell? ⟨w1.heap.size,1,none⟩ = some (.int .i64 q.k) /\ w'.cell? ⟨w1.heap.size,2,none⟩ = some (.int .i64 q.l) /\ w'.cell? ⟨w1.heap.size,3,none⟩ = some (.int .i64 q.sd)) (first | (go_keep; done) | exact ⟨(zA HI6).pr.2.2.1,(zA HO6).1,(zA HO6).2.1,(zA HO6).2.2.1,(zA HO6).2.2.2⟩ | exact ⟨(zA HI5).pr.2.2.1,(zA HO5).1,(zA HO5).2.1,(zA HO5).2.2.1,(zA HO5).2.2.2⟩ | exact ⟨(zA HI2).pr.2.2.1,(zA HOC).1,(zA HOC).2.1,(zA HOC).2.2.1,(zA HOC).2.2.2⟩)
     (first | (go_at_call 83; refine (zGY (w.heap.size + 1 + 1 + 1) q _ HQS).mono ?_; rintro x w5 ⟨⟨v,rfl,HR⟩,hb5⟩; have HI5:=zB ((zA HI2).step (belD.trans hb5)); have HO5:=zB ((zA HOC).kept (zE.of_below (g:=0) (belD.trans hb5)) HNZ); obtain ⟨w6,hrun6,hs6,hk6⟩:=(zA HI5).s1.update (ty:=154) Tryz.underlying154 HMs1 (t:=q.s) HQS v; have HI6:=zB ((zA HI5).put1 (zA HAT) (zA HM1) (zA HSG) (by rw [zA HQA]; exact (show zCP _ w5 132 (w.heap.size + 1 + 1 + 1) q v from zA HR).low HLO) (zA HN1) hs6 hk6); have HO6:=zB ((zA HO5).kept hk6 HNB); clear hb5))
    go_wp2_with fail
    refine ⟨⟨_,_,_,_,_,_,HI6⟩,?_⟩
    rw [zA HLF,(zA HI6).rg.left_eq]
    exact zA HLT
   ·have e1:(q.k == 1) = false:=by rw [hk]; rfl
    have e2:(q.k == 2) = true:=by rw [hk]; rfl
    have HK:=zB hk
    have HNB:w1.heap.size ≠ w.heap.size + 1 + 1:=by omega
    have HM1:=zB (show zEd (dnL ns left) (dnL ns fun z=>left z && !z.sameKey (klO q.s q.k)) q.s 2 by have:=zA HMO; rw [hk] at this ⊢; exact this)
    have HQA:=zB ((zA HOA) 4 (by rw [hk]; decide))
    have HAB:=zB (show dnL ns left q.s 3 = false from zHW (zA HAP) (by have:=zA HB; rw [hk] at this; exact Or.inl ⟨this,rfl⟩))
    clear hk HKD HB
    go_wp2_with fail
    go_region_held (fun w'=>w'.cell? ⟨w.heap.size + 1 + 1 + 1,3,none⟩ = some (.map (some (w.heap.size + 1 + 1))) /\ w'.cell? ⟨w1.heap.size,0,none⟩ = some (.string q.s) /\ w'.cell? ⟨w1.heap.size,1,none⟩ = some (.int .i64 q.k) /\ w'.cell? ⟨w1.heap.size,2,none⟩ = some (.int .i64 q.l) /\ w'.cell? ⟨w1.heap.size,3,none⟩ = some (.int .i64 q.sd)) (first | (go_keep; done) | exact ⟨(zA HI6).pr.2.2.2.1,(zA HO6).1,(zA HO6).2.1,(zA HO6).2.2.1,(zA HO6).2.2.2⟩ | exact ⟨(zA HI5).pr.2.2.2.1,(zA HO5).1,(zA HO5).2.1,(zA HO5).2.2.1,(zA HO5).2.2.2⟩ | exact ⟨(zA HI2).pr.2.2.2.1,(zA HOC).1,(zA HOC).2.1,(zA HOC).2.2.1,(zA HOC).2.2.2⟩)
     (first | (go_at_call 84; refine (zGq (w.heap.size + 1 + 1 + 1) q _ HQS).mono ?_; rintro x w5 ⟨⟨v,rfl,HR⟩,hb5⟩; have HI5:=zB ((zA HI2).step (belD.trans hb5)); have HO5:=zB ((zA HOC).kept (zE.of_below (g:=0) (belD.trans hb5)) HNZ); obtain ⟨w6,hrun6,hs6,hk6⟩:=(zA HI5).s2.update (ty:=155) Tryz.underlying155 HMs2 (t:=q.s) HQS v; have HI6:=zB ((zA HI5).put2 (zA HAT) (zA HM1) (zA HAB) (by rw [zA HQA]; exact (show zDP _ w5 133 (w.heap.size + 1 + 1 + 1) q v from zA HR).low HLO) (zA HN2) hs6 hk6); have HO6:=zB ((zA HO5).kept hk6 HNB); clear hb5))
    go_wp2_with fail
    refine ⟨⟨_,_,_,_,_,_,HI6⟩,?_⟩
    rw [zA HLF,(zA HI6).rg.left_eq]
    exact zA HLT
   ·have e1:(q.k == 1) = false:=by rw [hk]; rfl
    have e2:(q.k == 2) = false:=by rw [hk]; rfl
    have e3:(q.k == 3) = true:=by rw [hk]; rfl
    have HK:=zB hk
    have HNB:w1.heap.size ≠ w.heap.size + 1 + 1:=by omega
    have HM1:=zB (show zEd (dnL ns left) (dnL ns fun z=>left z && !z.sameKey (klO q.s q.k)) q.s 3 by have:=zA HMO; rw [hk] at this ⊢; exact this)
    have HQA:=zB ((zA HOA) 5 (by rw [hk]; decide))
    have HAB:=zB (show dnL ns left q.s 2 = false from zHW (zA HAP) (by have:=zA HB; rw [hk] at this; exact Or.inr ⟨this,rfl⟩))
    clear hk HKD HB
    go_wp2_with fail
    go_region_held (fun w'=>w'.cell? ⟨w.heap.size + 1 + 1 + 1,3,none⟩ = some (.map (some (w.heap.size + 1 + 1))) /\ w'.cell? ⟨w1.heap.size,0,none⟩ = some (.string q.s) /\ w'.cell? ⟨w1.heap.size,1,none⟩ = some (.int .i64 q.k) /\ w'.cell? ⟨w1.heap.size,2,none⟩ = some (.int .i64 q.l) /\ w'.cell? ⟨w1.heap.size,3,none⟩ = some (.int .i64 q.sd)) (first | (go_keep; done) | exact ⟨(zA HI6).pr.2.2.2.1,(zA HO6).1,(zA HO6).2.1,(zA HO6).2.2.1,(zA HO6).2.2.2⟩ | exact ⟨(zA HI5).pr.2.2.2.1,(zA HO5).1,(zA HO5).2.1,(zA HO5).2.2.1,(zA HO5).2.2.2⟩ | exact ⟨(zA HI2).pr.2.2.2.1,(zA HOC).1,(zA HOC).2.1,(zA HOC).2.2.1,(zA HOC).2.2.2⟩)
     (first | (go_at_call 85; refine (zFN (w.heap.size + 1 + 1 + 1) q _ HQS).mono ?_; rintro x w5 ⟨⟨v,rfl,HR⟩,hb5⟩; have HI5:=zB ((zA HI2).step (belD.trans hb5)); have HO5:=zB ((zA HOC).kept (zE.of_below (g:=0) (belD.trans hb5)) HNZ); obtain ⟨w6,hrun6,hs6,hk6⟩:=(zA HI5).s2.update (ty:=155) Tryz.underlying155 HMs2 (t:=q.s) HQS v; have HI6:=zB ((zA HI5).put3 (zA HAT) (zA HM1) (zA HAB) (by rw [zA HQA]; exact (show zCP _ w5 135 (w.heap.size + 1 + 1 + 1) q v from zA HR).low HLO) (zA HN2) hs6 hk6); have HO6:=zB ((zA HO5).kept hk6 HNB); clear hb5))
    go_wp2_with fail
    refine ⟨⟨_,_,_,_,_,_,HI6⟩,?_⟩
    rw [zA HLF,(zA HI6).rg.left_eq]
    exact zA HLT
end Go.Proofs.YtfboipappaonhaaGreat
namespace Go.Proofs.YtfboipappaonhaaGreat
set_option linter.unusedSimpArgs false
set_option linter.unusedVariables false
set_option maxHeartbeats 16000000
set_option maxRecDepth 100000
open Go.RowKit
def zOH (code place:Int):Ending:=.panicked [{ v:=.iface 146 (.agg #[.int .i64 code,.int .i64 place]),recovered:=false }]
def zN5 (ts:List zI) (x:Ending):Prop:=
 (∃ i,i < ts.length /\ (atT ts i).k = 6 /\ (∀ j,j < i -> (atT ts j).k ≠ 6) /\ x = zOH 3 (zFJ ts i:Int)) \/ ((∀ j,j < ts.length -> (atT ts j).k ≠ 6) /\ x = .returned (.tuple #[]))
theorem zGs (g o c:Nat) (ts:List zI) (w:World) (hm:ts.length + ZF ts ts.length <= 1048576) (hc:ts.length <= c) (hc2:c <= maxLen) (hw:zCE w g o ts) (hB:g < w.heap.size) (hz:∀ i,i < ts.length -> (atT ts i).g.size <= 1048576) :
  Calls Tryz.prog 40 #[.slice (some ⟨g,o,none⟩) ts.length c] w fun x w'=>zN5 ts x /\ Below w.heap.size w w':=by
 have HW:=zB hw
 have HZ:=zB hz
 clear hw hz
 go_enter Tryz.func40,Tryz.ntmps40
 go_wp2_with fail
 go_loopw [6] (fun iv wr=>∃ k:Nat,k <= ts.length /\ iv = .int .i64 (k:Int) /\ Hid (∀ j,j < k -> (atT ts j).k ≠ 6) /\ Below w.heap.size w wr) (fun iv _=>ts.length - (intOf iv).toNat)
 case atStart=>exact ⟨0,Nat.zero_le _,rfl,zB (fun j hj=>absurd hj (Nat.not_lt_zero j)),Below.refl _ _⟩
 case round=>
  obtain ⟨k,hk,rfl,hno,hbel⟩:=hrel
  by_cases hlt:k < ts.length
  ·have hltI:(k:Int) < (ts.length:Int):=by omega
   obtain ⟨a0,a1,a2⟩:=((zA HW) k hlt).below hbel hB
   have hgr:g < wr.heap.size:=by have:=hbel.size; omega
   have hgn:g ≠ wr.heap.size:=by omega
   have bel1:Below w.heap.size w (wr.alloc (.cells #[.int .i64 (atT ts k).k,.string (atT ts k).g,.string (atT ts k).t] 97)):=hbel.alloc hbel.size _
   by_cases h6:(atT ts k).k = 6
   ·have hb:((atT ts k).k == 6) = true:=by rw [h6]; rfl
    have H6:=zB h6
    have HX:=zES g o c k ts _ hm hlt hc hc2 (fun j hj=>((zA HW) j hj).below bel1 hB) (by simp; omega) ((zA HZ) k hlt)
    clear h6
    go_wp2_with fail
    refine HX.mono ?_
    rintro x w2 ⟨rfl,hb2⟩
    have bel2:=bel1.trans (hb2.mono bel1.size)
    clear HX hb2
    go_wp2_with fail
    exact ⟨rfl,Or.inl ⟨k,hlt,zA H6,zA hno,rfl⟩,bel2⟩
   ·have hb:((atT ts k).k == 6) = false:=by simp [h6]
    have HN2:=zB (show ∀ j,j < k + 1 -> (atT ts j).k ≠ 6 from fun j hj=>by
     by_cases e:j = k
     ·rw [e]; exact h6
     ·exact (zA hno) j (by omega))
    clear h6
    go_wp2_with fail
    exact ⟨⟨k + 1,by omega,by go_num,HN2,bel1⟩,by simp [intOf]; omega⟩
  ·have hke:k = ts.length:=by omega
   have HN2:=zB (show ∀ j,j < ts.length -> (atT ts j).k ≠ 6 from by rw [<- hke]; exact zA hno)
   have hnl:¬ ((k:Int) < (ts.length:Int)):=by omega
   clear hke
   go_wp2_with fail
   go_end0
   exact ⟨Or.inr ⟨zA HN2,rfl⟩,hbel⟩
theorem zIS (code place:Int) (w:World) :
  Calls Tryz.prog 37 #[.iface 146 (.agg #[.int .i64 code,.int .i64 place])] w fun x w'=>x = .returned (.tuple #[.int .i64 code,.int .i64 place]) /\ Below w.heap.size w w':=by
 go_enter Tryz.func37,Tryz.ntmps37
 have hta:∀ W:World,(Instr.typeAssert (.iface 146 (.agg #[.int .i64 code,.int .i64 place])) 20 146 true).run Tryz.prog W = .ok (.tuple #[.agg #[.int .i64 code,.int .i64 place],.bool true]) W:=fun W=>by kernel_rfl
 go_wp2_with fail
 go_region
 go_wp2_with fail
 refine bodyPost_ret (v:=.tuple #[.int .i64 code,.int .i64 place]) (by simp [results,Tryz.results37,go_sem]) rfl ⟨rfl,?_⟩
 first
  | exact (zC _ _).drew
  | exact zC _ _
theorem zKG (p q:Addr) (w:World) :
  CallsD Tryz.prog 36 #[.pointer (some p),.pointer (some q)] .returning w fun e u' w'=>e = .returned (.tuple #[]) /\ u' = .returning /\ w' = w:=by
 refine callsD_of_wpS Tryz.func36 rfl fun c₀ cs hu=>?_
 apply wpS_seq
 apply wpS_region
 simp [wpOpsS,go_sem,recoverD,hu,Tryz.ntmps36,Exit.thenS]
 apply wpS_seq
 apply wpS_region
 simp [wpOpsS,go_sem,hu,Tryz.ntmps36,Exit.thenS]
 refine wpS_cond (t:=false) (by simp [Act.eval,Array.replicate]) ?_
 simp only [Bool.false_eq_true,if_false]
 refine wpS_of_wp (wp_skip ?_)
 cases c₀
 simp_all [bodyPostS,results,Tryz.results36]
theorem zFP (p q:Nat) (x y code place:Int) (w:World) (hp:w.cell? ⟨p,0,none⟩ = some (.int .i64 x)) (hpz:w.frozen? ⟨p,0,none⟩ = false) (hq:w.cell? ⟨q,0,none⟩ = some (.int .i64 y)) (hqz:w.frozen? ⟨q,0,none⟩ = false) (hne:p ≠ q) :
  CallsD Tryz.prog 36 #[.pointer (some ⟨p,0,none⟩),.pointer (some ⟨q,0,none⟩)] (.panicking [{ v:=.iface 146 (.agg #[.int .i64 code,.int .i64 place]),recovered:=false }]) w fun e u' w'=>
   e = .returned (.tuple #[]) /\ u' = .panicking [{ v:=.iface 146 (.agg #[.int .i64 code,.int .i64 place]),recovered:=true }] /\ ∃ w1,Below w.heap.size w w1 /\ w' = (w1.setCell ⟨p,0,none⟩ (.int .i64 code)).setCell ⟨q,0,none⟩ (.int .i64 place):=by
 have hpl:=block_lt_of_cell hp
 have hql:=block_lt_of_cell hq
 refine callsD_of_wpS Tryz.func36 rfl fun c₀ cs hu=>?_
 apply wpS_seq
 apply wpS_region
 simp [wpOpsS,go_sem,recoverD,hu,Tryz.ntmps36,Exit.thenS]
 apply wpS_seq
 apply wpS_region
 simp [wpOpsS,go_sem,hu,Tryz.ntmps36,Exit.thenS]
 refine wpS_cond (t:=true) (by simp [Act.eval,Array.replicate]) ?_
 simp only [if_true]
 refine wpS_of_wp ?_
 have HA:=zIS code place w
 go_wp2_with fail
 refine HA.mono ?_
 rintro x1 w1 ⟨rfl,hb1⟩
 have p1:=(hb1.cell (p:=⟨p,0,none⟩) hpl).trans hp
 have p2:=(hb1.frozen (p:=⟨p,0,none⟩) hpl).trans hpz
 have q1:=(hb1.cell (p:=⟨q,0,none⟩) hql).trans hq
 have q2:=(hb1.frozen (p:=⟨q,0,none⟩) hql).trans hqz
 have q3:(w1.setCell ⟨p,0,none⟩ (.int .i64 code)).cell? ⟨q,0,none⟩ = some (.int .i64 y):=(World.cell?_setCell_other _ _ _ _ (fun e=>hne (by injection e))).trans q1
 go_wp2_with fail
 refine ⟨rfl,_,rfl,.tuple #[],by simp [results,Tryz.results36,go_sem],rfl,rfl,w1,hb1,rfl⟩
end Go.Proofs.YtfboipappaonhaaGreat
