import Derived.Maps.RangeWalk
import Derived.Test.YtfboipappaonhaaGreatP01
import Derived.Test.YtfboipappaonhaaGreatP17
import Derived.Test.YtfboipappaonhaaGreatP34
import Derived.Test.YtfboipappaonhaaGreatP47
namespace Go.Proofs.YtfboipappaonhaaGreat
set_option linter.unusedSimpArgs false
set_option linter.unusedVariables false
set_option maxHeartbeats 16000000
set_option maxRecDepth 100000
open Go.RowKit Go.Maps
def zCP (lo:Nat) (w:World) (K:FuncId) (p:Nat) (q:OpR) (x:Value):Prop:=
 ∃ ba bp bh,x = .func (.func K) #[] #[.pointer (some ⟨ba,0,none⟩),.pointer (some ⟨bp,0,none⟩),.pointer (some ⟨bh,0,none⟩)] /\ lo <= ba /\ lo <= bp /\ lo <= bh /\
  OpC w ba q /\ w.cell? ⟨bp,0,none⟩ = some (.pointer (some ⟨p,0,none⟩)) /\ w.cell? ⟨bh,0,none⟩ = some (.int .i64 (zz q.s q.k q.l q.sd false))
def zDP (lo:Nat) (w:World) (K:FuncId) (p:Nat) (q:OpR) (x:Value):Prop:=
 ∃ ba bp bh bs,x = .func (.func K) #[] #[.pointer (some ⟨ba,0,none⟩),.pointer (some ⟨bp,0,none⟩),.pointer (some ⟨bh,0,none⟩),.pointer (some ⟨bs,0,none⟩)] /\ lo <= ba /\ lo <= bp /\ lo <= bh /\ lo <= bs /\
  OpC w ba q /\ w.cell? ⟨bp,0,none⟩ = some (.pointer (some ⟨p,0,none⟩)) /\ w.cell? ⟨bh,0,none⟩ = some (.int .i64 (zz q.s q.k q.l q.sd false)) /\ w.cell? ⟨bs,0,none⟩ = some (.int .i64 (zz q.s q.k q.l q.sd true))
theorem zCP.kept {lo:Nat} {w w':World} {K:FuncId} {p g:Nat} {q:OpR} {x:Value} (h:zCP lo w K p q x) (hk:zE w w' g) (hg:g < lo):zCP lo w' K p q x:=by
 obtain ⟨ba,bp,bh,h0,n1,n2,n3,h1,h2,h3⟩:=h
 exact ⟨ba,bp,bh,h0,n1,n2,n3,h1.kept hk (by omega),(hk.cell (b:=bp) (block_lt_of_cell h2) (by omega) 0).trans h2,(hk.cell (b:=bh) (block_lt_of_cell h3) (by omega) 0).trans h3⟩
theorem zDP.kept {lo:Nat} {w w':World} {K:FuncId} {p g:Nat} {q:OpR} {x:Value} (h:zDP lo w K p q x) (hk:zE w w' g) (hg:g < lo):zDP lo w' K p q x:=by
 obtain ⟨ba,bp,bh,bs,h0,n1,n2,n3,n4,h1,h2,h3,h4⟩:=h
 exact ⟨ba,bp,bh,bs,h0,n1,n2,n3,n4,h1.kept hk (by omega),(hk.cell (b:=bp) (block_lt_of_cell h2) (by omega) 0).trans h2,(hk.cell (b:=bh) (block_lt_of_cell h3) (by omega) 0).trans h3,(hk.cell (b:=bs) (block_lt_of_cell h4) (by omega) 0).trans h4⟩
theorem zCP.low {lo lo':Nat} {w:World} {K:FuncId} {p:Nat} {q:OpR} {x:Value} (h:zCP lo w K p q x) (hl:lo' <= lo):zCP lo' w K p q x:=by
 obtain ⟨ba,bp,bh,h0,n1,n2,n3,h1,h2,h3⟩:=h
 exact ⟨ba,bp,bh,h0,by omega,by omega,by omega,h1,h2,h3⟩
theorem zDP.low {lo lo':Nat} {w:World} {K:FuncId} {p:Nat} {q:OpR} {x:Value} (h:zDP lo w K p q x) (hl:lo' <= lo):zDP lo' w K p q x:=by
 obtain ⟨ba,bp,bh,bs,h0,n1,n2,n3,n4,h1,h2,h3,h4⟩:=h
 exact ⟨ba,bp,bh,bs,h0,by omega,by omega,by omega,by omega,h1,h2,h3,h4⟩
def BfD (lo:Nat) (w:World) (p:Nat) (ns:List OpR) (dn:ByteArray -> Int -> Bool) (G:ByteArray -> Option Value):Prop:=
 G opn = some (.func (.func 82) #[.pointer (some ⟨p,0,none⟩)] #[]) /\
 ∀ t,t ≠ opn -> (dn t 1 = false -> G t = none) /\ (dn t 1 = true -> ∃ v,G t = some v /\ zCP lo w 132 p (opA ns (rt 3 t)) v)
def BbD (lo:Nat) (w:World) (p:Nat) (ns:List OpR) (dn:ByteArray -> Int -> Bool) (G:ByteArray -> Option Value):Prop:=
 ∀ t,(dn t 2 = false -> dn t 3 = false -> G t = none) /\
 (dn t 2 = true -> ∃ v,G t = some v /\ zDP lo w 133 p (opA ns (rt 4 t)) v) /\
 (dn t 3 = true -> ∃ v,G t = some v /\ zCP lo w 135 p (opA ns (rt 5 t)) v)
theorem BfD.kept {lo:Nat} {w w':World} {p g:Nat} {ns:List OpR} {dn:ByteArray -> Int -> Bool} {G:ByteArray -> Option Value} (h:BfD lo w p ns dn G) (hk:zE w w' g) (hg:g < lo):BfD lo w' p ns dn G:=
 ⟨h.1,fun t ht=>⟨(h.2 t ht).1,fun hb=>by obtain ⟨v,h1,h2⟩:=(h.2 t ht).2 hb; exact ⟨v,h1,h2.kept hk hg⟩⟩⟩
theorem BbD.kept {lo:Nat} {w w':World} {p g:Nat} {ns:List OpR} {dn:ByteArray -> Int -> Bool} {G:ByteArray -> Option Value} (h:BbD lo w p ns dn G) (hk:zE w w' g) (hg:g < lo):BbD lo w' p ns dn G:=
 fun t=>⟨(h t).1,fun hb=>by obtain ⟨v,h1,h2⟩:=(h t).2.1 hb; exact ⟨v,h1,h2.kept hk hg⟩,fun hb=>by obtain ⟨v,h1,h2⟩:=(h t).2.2 hb; exact ⟨v,h1,h2.kept hk hg⟩⟩
theorem zCk {s t:ByteArray} (h:s.data = t.data):s = t:=by cases s; cases t; simp at h; rw [h]
def zEd (dn dn':ByteArray -> Int -> Bool) (s:ByteArray) (kd:Int):Prop:=∀ t k,dn' t k = true ↔ dn t k = true \/ (t = s /\ k = kd)
theorem zEd.other {dn dn':ByteArray -> Int -> Bool} {s:ByteArray} {kd:Int} (h:zEd dn dn' s kd) {t:ByteArray} {k:Int} (hn:¬ (t = s /\ k = kd)):dn' t k = dn t k:=by
 have:=h t k
 cases a:dn' t k <;> cases b:dn t k <;> simp [a,b,hn] at this ⊢
 all_goals exact absurd this (by simp [hn])
theorem BfD.keep {lo:Nat} {w:World} {p:Nat} {ns:List OpR} {dn dn':ByteArray -> Int -> Bool} {G:ByteArray -> Option Value} {s:ByteArray} {kd:Int} (h:BfD lo w p ns dn G) (hm:zEd dn dn' s kd) (hk:kd ≠ 1):BfD lo w p ns dn' G:=
 ⟨h.1,fun t ht=>by rw [hm.other (fun e=>hk e.2.symm)]; exact h.2 t ht⟩
theorem BbD.keep {lo:Nat} {w:World} {p:Nat} {ns:List OpR} {dn dn':ByteArray -> Int -> Bool} {G:ByteArray -> Option Value} {s:ByteArray} {kd:Int} (h:BbD lo w p ns dn G) (hm:zEd dn dn' s kd) (hk:kd = 1):BbD lo w p ns dn' G:=
 fun t=>by rw [hm.other (fun e=>by omega),hm.other (fun e=>by omega)]; exact h t
theorem BfD.put {lo:Nat} {w:World} {p:Nat} {ns:List OpR} {dn dn':ByteArray -> Int -> Bool} {G:ByteArray -> Option Value} {s:ByteArray} {v:Value} (h:BfD lo w p ns dn G) (hm:zEd dn dn' s 1) (hs:s ≠ opn) (hv:zCP lo w 132 p (opA ns (rt 3 s)) v) :
  BfD lo w p ns dn' (fun t'=>if t'.data = s.data then some v else G t'):=by
 refine ⟨?_,fun t ht=>?_⟩
 ·simp only
  rw [if_neg (fun e=>hs (zCk e).symm)]
  exact h.1
 ·by_cases e:t = s
  ·subst e
   refine ⟨fun hf=>?_,fun _=>⟨v,if_pos rfl,hv⟩⟩
   rw [(hm t 1).2 (Or.inr ⟨rfl,rfl⟩)] at hf
   cases hf
  ·simp only
   rw [if_neg (fun x=>e (zCk x)),hm.other (fun x=>e x.1)]
   exact h.2 t ht
theorem BbD.put2 {lo:Nat} {w:World} {p:Nat} {ns:List OpR} {dn dn':ByteArray -> Int -> Bool} {G:ByteArray -> Option Value} {s:ByteArray} {v:Value} (h:BbD lo w p ns dn G) (hm:zEd dn dn' s 2) (h3:dn s 3 = false) (hv:zDP lo w 133 p (opA ns (rt 4 s)) v) :
  BbD lo w p ns dn' (fun t'=>if t'.data = s.data then some v else G t'):=by
 intro t
 by_cases e:t = s
 ·subst e
  refine ⟨fun hf=>?_,fun _=>⟨v,if_pos rfl,hv⟩,fun hf=>?_⟩
  ·rw [(hm t 2).2 (Or.inr ⟨rfl,rfl⟩)] at hf
   cases hf
  ·rw [hm.other (fun x=>by omega),h3] at hf
   cases hf
 ·simp only
  rw [if_neg (fun x=>e (zCk x)),hm.other (fun x=>e x.1),hm.other (fun x=>e x.1)]
  exact h t
theorem BbD.put3 {lo:Nat} {w:World} {p:Nat} {ns:List OpR} {dn dn':ByteArray -> Int -> Bool} {G:ByteArray -> Option Value} {s:ByteArray} {v:Value} (h:BbD lo w p ns dn G) (hm:zEd dn dn' s 3) (h2:dn s 2 = false) (hv:zCP lo w 135 p (opA ns (rt 5 s)) v) :
  BbD lo w p ns dn' (fun t'=>if t'.data = s.data then some v else G t'):=by
 intro t
 by_cases e:t = s
 ·subst e
  refine ⟨fun _ hf=>?_,fun hf=>?_,fun _=>⟨v,if_pos rfl,hv⟩⟩
  ·rw [(hm t 3).2 (Or.inr ⟨rfl,rfl⟩)] at hf
   cases hf
  ·rw [hm.other (fun x=>by omega),h2] at hf
   cases hf
 ·simp only
  rw [if_neg (fun x=>e (zCk x)),hm.other (fun x=>e x.1),hm.other (fun x=>e x.1)]
  exact h t
theorem zDd {ns:List OpR} {t:ByteArray} {q:Nat} {k:Int} (h:za ns t k = true) (hq:(q:Int) - 2 = k) (b:Bool):zz (opA ns (rt q t)).s (opA ns (rt q t)).k (opA ns (rt q t)).l (opA ns (rt q t)).sd b = sH ns (q,t) b:=by
 have hk:=zCy h hq
 unfold knB at hk
 unfold sH ZE opA
 simp only [rt] at hk ⊢
 cases hf:fnd ns t ((q:Int) - 2) with
 | none=>rw [hf] at hk; cases hk
 | some j=>rfl
theorem BfD.ok {lo:Nat} {w:World} {p:Nat} {ns:List OpR} {G:ByteArray -> Option Value} (h:BfD lo w p ns (za ns) G) (hp:p < lo):zMR w p ns G:=by
 refine ⟨h.1,fun t ht=>⟨(h.2 t ht).1,fun hb=>?_⟩⟩
 obtain ⟨v,h1,ba,bp,bh,rfl,n1,n2,n3,c1,c2,c3⟩:=(h.2 t ht).2 hb
 rw [zDd hb (by decide)] at c3
 exact ⟨ba,bp,bh,h1,by omega,by omega,by omega,c1,c2,c3⟩
theorem BbD.ok {lo:Nat} {w:World} {p:Nat} {ns:List OpR} {G:ByteArray -> Option Value} (h:BbD lo w p ns (za ns) G) (hp:p < lo):zMS w p ns G:=by
 intro t
 refine ⟨fun hn=>(h t).1 ?_ ?_,fun hb=>?_,fun hb=>?_⟩
 ·cases e:za ns t 2 with
  | false=>rfl
  | true=>obtain ⟨j,hj,e1,_⟩:=(ZJ _ _ _).1 e; exact absurd ⟨j,hj,e1⟩ hn
 ·cases e:za ns t 3 with
  | false=>rfl
  | true=>obtain ⟨j,hj,e1,_⟩:=(ZJ _ _ _).1 e; exact absurd ⟨j,hj,e1⟩ hn
 ·obtain ⟨v,h1,ba,bp,bh,bs,rfl,n1,n2,n3,n4,c1,c2,c3,c4⟩:=(h t).2.1 hb
  rw [zDd hb (by decide)] at c3
  rw [zDd hb (by decide)] at c4
  exact ⟨ba,bp,bh,bs,h1,by omega,by omega,by omega,by omega,c1,c2,c3,c4⟩
 ·obtain ⟨v,h1,ba,bp,bh,rfl,n1,n2,n3,c1,c2,c3⟩:=(h t).2.2 hb
  rw [zDd hb (by decide)] at c3
  exact ⟨ba,bp,bh,h1,by omega,by omega,by omega,c1,c2,c3⟩
def dnL (ns:List OpR) (left:Lit -> Bool) (t:ByteArray) (k:Int):Bool:=za ns t k && !left (klO t k)
theorem zM6 {ns:List OpR} {left:Lit -> Bool} {s:ByteArray} {kd:Int} (hz:ZV ns) (hok:zBF ns ns.length) (hss:s.size <= maxLen) (hkw:(Lit.int .i64 kd).wf = true) (hh:za ns s kd = true) :
  zEd (dnL ns left) (dnL ns (fun z=>left z && !z.sameKey (klO s kd))) s kd:=by
 intro t k
 unfold dnL
 constructor
 ·intro h
  simp only [Bool.and_eq_true,Bool.not_eq_true',Bool.and_eq_false_iff,Bool.not_eq_false'] at h
  obtain ⟨h1,h2⟩:=h
  rcases h2 with h2 | h2
  ·exact Or.inl (by simp [h1,h2])
  ·right
   have e:klO t k = klO s kd:=by simpa [Lit.sameKey,klO] using h2
   obtain ⟨j,hj,e1,e2⟩:=(ZJ _ _ _).1 h1
   have:=zH0 (by rw [<- e1]; exact hz j hj) hss (by rw [<- e2]; exact zE0 (hok j hj)) hkw e
   exact this
 ·rintro (h | ⟨rfl,rfl⟩)
  ·simp only [Bool.and_eq_true,Bool.not_eq_true'] at h
   simp [h.1,h.2]
  ·simp [hh,Lit.sameKey,klO]
theorem zGq (p:Nat) (q:OpR) (w:World) (hs:q.s.size <= maxLen) :
  Calls Tryz.prog 84 #[.pointer (some ⟨p,0,none⟩),.agg #[.string q.s,.int .i64 q.k,.int .i64 q.l,.int .i64 q.sd]] w fun x w'=>(∃ v,x = .returned v /\ Hid (zDP w.heap.size w' 133 p q v)) /\ Below w.heap.size w w':=by
 obtain ⟨W,hW⟩:∃ W,W = (w.alloc (.cells #[.pointer (some ⟨p,0,none⟩)] 75)).alloc (.cells #[.string q.s,.int .i64 q.k,.int .i64 q.l,.int .i64 q.sd] 123):=⟨_,rfl⟩
 have hWz:w.heap.size + 2 <= W.heap.size:=by rw [hW]; simp
 have bel0:Below w.heap.size w W:=by rw [hW]; exact (zC _ _).alloc (by simp) _
 have g0:W.cell? ⟨w.heap.size,0,none⟩ = some (.pointer (some ⟨p,0,none⟩)):=by rw [hW]; simp [go_sem]
 have g1:OpC W (w.heap.size + 1) q:=by rw [hW]; exact ⟨by simp [go_sem],by simp [go_sem],by simp [go_sem],by simp [go_sem]⟩
 have HX:=fun b W'=>Zr q.s q.k q.l q.sd b W' hs
 obtain ⟨k0,k1,k2,k3⟩:=g1
 have HW:=zB hW
 clear hW
 have Dx00:W.heap.size ≠ w.heap.size:=(by omega)
 have Dy00:w.heap.size ≠ W.heap.size:=(by omega)
 have Dx01:W.heap.size ≠ w.heap.size + 1:=(by omega)
 have Dy01:w.heap.size + 1 ≠ W.heap.size:=(by omega)
 have Dx10:W.heap.size + 1 ≠ w.heap.size:=(by omega)
 have Dy10:w.heap.size ≠ W.heap.size + 1:=(by omega)
 have Dx11:W.heap.size + 1 ≠ w.heap.size + 1:=(by omega)
 have Dy11:w.heap.size + 1 ≠ W.heap.size + 1:=(by omega)
 go_enter Tryz.func84,Tryz.ntmps84
 go_wp2_with fail
 rw [<- zA HW]
 go_region_held (fun w'=>w'.cell? ⟨w.heap.size + 1,0,none⟩ = some (.string q.s) /\ w'.cell? ⟨w.heap.size + 1,1,none⟩ = some (.int .i64 q.k) /\ w'.cell? ⟨w.heap.size + 1,2,none⟩ = some (.int .i64 q.l) /\ w'.cell? ⟨w.heap.size + 1,3,none⟩ = some (.int .i64 q.sd)) (first | (go_keep; done) | exact ⟨Bs0,Bs1,Bs2,Bs3⟩ | exact ⟨As0,As1,As2,As3⟩)
  (first | (go_at_call 90; with_reducible refine (HX false _).mono ?_; rintro e w1 ⟨rfl,hb1⟩; have hz1:=hb1.size; (try simp at hz1); have Ax00:w1.heap.size ≠ w.heap.size:=(by omega); have Ay00:w.heap.size ≠ w1.heap.size:=(by omega); have Ax01:w1.heap.size ≠ w.heap.size + 1:=(by omega); have Ay01:w.heap.size + 1 ≠ w1.heap.size:=(by omega); have Ax10:w1.heap.size + 1 ≠ w.heap.size:=(by omega); have Ay10:w.heap.size ≠ w1.heap.size + 1:=(by omega); have Ax11:w1.heap.size + 1 ≠ w.heap.size + 1:=(by omega); have Ay11:w.heap.size + 1 ≠ w1.heap.size + 1:=(by omega); (try (have Al0:W.heap.size < w1.heap.size:=by omega)); (try (have An0:W.heap.size ≠ w1.heap.size:=by omega)); (try (have Am0:W.heap.size ≠ w1.heap.size + 1:=by omega)); (try (have Al1:W.heap.size + 1 < w1.heap.size:=by omega)); (try (have An1:W.heap.size + 1 ≠ w1.heap.size:=by omega)); (try (have Am1:W.heap.size + 1 ≠ w1.heap.size + 1:=by omega)); have As0:w1.cell? ⟨w.heap.size + 1,0,none⟩ = some (.string q.s):=(hb1.cell (p:=⟨w.heap.size + 1,0,none⟩) (by simp; omega)).trans (by simp [*,World.cell?_alloc_some,World.cell?_setCell_far]); have As1:w1.cell? ⟨w.heap.size + 1,1,none⟩ = some (.int .i64 q.k):=(hb1.cell (p:=⟨w.heap.size + 1,1,none⟩) (by simp; omega)).trans (by simp [*,World.cell?_alloc_some,World.cell?_setCell_far]); have As2:w1.cell? ⟨w.heap.size + 1,2,none⟩ = some (.int .i64 q.l):=(hb1.cell (p:=⟨w.heap.size + 1,2,none⟩) (by simp; omega)).trans (by simp [*,World.cell?_alloc_some,World.cell?_setCell_far]); have As3:w1.cell? ⟨w.heap.size + 1,3,none⟩ = some (.int .i64 q.sd):=(hb1.cell (p:=⟨w.heap.size + 1,3,none⟩) (by simp; omega)).trans (by simp [*,World.cell?_alloc_some,World.cell?_setCell_far]); have As4:w1.cell? ⟨w.heap.size,0,none⟩ = some (.pointer (some ⟨p,0,none⟩)):=(hb1.cell (p:=⟨w.heap.size,0,none⟩) (by simp; omega)).trans (by simp [*,World.cell?_alloc_some,World.cell?_setCell_far]); (try (have Aa0:w1.cell? ⟨W.heap.size,0,none⟩ = some (.int .i64 0):=(hb1.cell (p:=⟨W.heap.size,0,none⟩) (by first | omega | (simp; done) | (simp; omega))).trans (by first | (simp [go_sem]; done) | (simp [*,World.cell?_alloc_some]; done) | (simp [*,go_sem]; done)))); (try (have Af0:w1.frozen? ⟨W.heap.size,0,none⟩ = false:=(hb1.frozen (p:=⟨W.heap.size,0,none⟩) (by first | omega | (simp; done) | (simp; omega))).trans (by first | (simp [go_sem]; done) | (simp [*,go_sem]; done)))); (try (have Aa1:w1.cell? ⟨W.heap.size + 1,0,none⟩ = some (.int .i64 0):=(hb1.cell (p:=⟨W.heap.size + 1,0,none⟩) (by first | omega | (simp; done) | (simp; omega))).trans (by first | (simp [go_sem]; done) | (simp [*,World.cell?_alloc_some]; done) | (simp [*,go_sem]; done)))); (try (have Af1:w1.frozen? ⟨W.heap.size + 1,0,none⟩ = false:=(hb1.frozen (p:=⟨W.heap.size + 1,0,none⟩) (by first | omega | (simp; done) | (simp; omega))).trans (by first | (simp [go_sem]; done) | (simp [*,go_sem]; done)))); have bel1:Below w.heap.size w w1:=Below.trans (by repeat (first | exact bel0 | exact bel0 | refine Below.drew ?_ | refine Below.setCell ?_ (by first | omega | (simp; omega)) _ | refine Below.alloc ?_ (by first | omega | (simp; omega)) _)) (hb1.mono (by first | omega | (simp; omega))); clear hb1) | (go_at_call 90; with_reducible refine (HX true _).mono ?_; rintro e w2 ⟨rfl,hb2⟩; have hz2:=hb2.size; (try simp at hz2); have Bx00:w2.heap.size ≠ w.heap.size:=(by omega); have By00:w.heap.size ≠ w2.heap.size:=(by omega); have Bx01:w2.heap.size ≠ w.heap.size + 1:=(by omega); have By01:w.heap.size + 1 ≠ w2.heap.size:=(by omega); have Bx10:w2.heap.size + 1 ≠ w.heap.size:=(by omega); have By10:w.heap.size ≠ w2.heap.size + 1:=(by omega); have Bx11:w2.heap.size + 1 ≠ w.heap.size + 1:=(by omega); have By11:w.heap.size + 1 ≠ w2.heap.size + 1:=(by omega); (try (have Bl0:W.heap.size < w2.heap.size:=by omega)); (try (have Bn0:W.heap.size ≠ w2.heap.size:=by omega)); (try (have Bm0:W.heap.size ≠ w2.heap.size + 1:=by omega)); (try (have Bl1:W.heap.size + 1 < w2.heap.size:=by omega)); (try (have Bn1:W.heap.size + 1 ≠ w2.heap.size:=by omega)); (try (have Bm1:W.heap.size + 1 ≠ w2.heap.size + 1:=by omega)); (try (have Bl2:w1.heap.size < w2.heap.size:=by omega)); (try (have Bn2:w1.heap.size ≠ w2.heap.size:=by omega)); (try (have Bm2:w1.heap.size ≠ w2.heap.size + 1:=by omega)); (try (have Bl3:w1.heap.size + 1 < w2.heap.size:=by omega)); (try (have Bn3:w1.heap.size + 1 ≠ w2.heap.size:=by omega)); (try (have Bm3:w1.heap.size + 1 ≠ w2.heap.size + 1:=by omega)); have Bs0:w2.cell? ⟨w.heap.size + 1,0,none⟩ = some (.string q.s):=(hb2.cell (p:=⟨w.heap.size + 1,0,none⟩) (by simp; omega)).trans (by simp [*,World.cell?_alloc_some,World.cell?_setCell_far]); have Bs1:w2.cell? ⟨w.heap.size + 1,1,none⟩ = some (.int .i64 q.k):=(hb2.cell (p:=⟨w.heap.size + 1,1,none⟩) (by simp; omega)).trans (by simp [*,World.cell?_alloc_some,World.cell?_setCell_far]); have Bs2:w2.cell? ⟨w.heap.size + 1,2,none⟩ = some (.int .i64 q.l):=(hb2.cell (p:=⟨w.heap.size + 1,2,none⟩) (by simp; omega)).trans (by simp [*,World.cell?_alloc_some,World.cell?_setCell_far]); have Bs3:w2.cell? ⟨w.heap.size + 1,3,none⟩ = some (.int .i64 q.sd):=(hb2.cell (p:=⟨w.heap.size + 1,3,none⟩) (by simp; omega)).trans (by simp [*,World.cell?_alloc_some,World.cell?_setCell_far]); have Bs4:w2.cell? ⟨w.heap.size,0,none⟩ = some (.pointer (some ⟨p,0,none⟩)):=(hb2.cell (p:=⟨w.heap.size,0,none⟩) (by simp; omega)).trans (by simp [*,World.cell?_alloc_some,World.cell?_setCell_far]); (try (have Ba0:w2.cell? ⟨W.heap.size,0,none⟩ = some (.int .i64 0):=(hb2.cell (p:=⟨W.heap.size,0,none⟩) (by first | omega | (simp; done) | (simp; omega))).trans (by first | (simp [go_sem]; done) | (simp [*,World.cell?_alloc_some]; done) | (simp [*,go_sem]; done)))); (try (have Bf0:w2.frozen? ⟨W.heap.size,0,none⟩ = false:=(hb2.frozen (p:=⟨W.heap.size,0,none⟩) (by first | omega | (simp; done) | (simp; omega))).trans (by first | (simp [go_sem]; done) | (simp [*,go_sem]; done)))); (try (have Ba1:w2.cell? ⟨W.heap.size + 1,0,none⟩ = some (.int .i64 0):=(hb2.cell (p:=⟨W.heap.size + 1,0,none⟩) (by first | omega | (simp; done) | (simp; omega))).trans (by first | (simp [go_sem]; done) | (simp [*,World.cell?_alloc_some]; done) | (simp [*,go_sem]; done)))); (try (have Bf1:w2.frozen? ⟨W.heap.size + 1,0,none⟩ = false:=(hb2.frozen (p:=⟨W.heap.size + 1,0,none⟩) (by first | omega | (simp; done) | (simp; omega))).trans (by first | (simp [go_sem]; done) | (simp [*,go_sem]; done)))); (try (have Ba2:w2.cell? ⟨w1.heap.size,0,none⟩ = some (.int .i64 0):=(hb2.cell (p:=⟨w1.heap.size,0,none⟩) (by first | omega | (simp; done) | (simp; omega))).trans (by first | (simp [go_sem]; done) | (simp [*,World.cell?_alloc_some]; done) | (simp [*,go_sem]; done)))); (try (have Bf2:w2.frozen? ⟨w1.heap.size,0,none⟩ = false:=(hb2.frozen (p:=⟨w1.heap.size,0,none⟩) (by first | omega | (simp; done) | (simp; omega))).trans (by first | (simp [go_sem]; done) | (simp [*,go_sem]; done)))); (try (have Ba3:w2.cell? ⟨w1.heap.size + 1,0,none⟩ = some (.int .i64 0):=(hb2.cell (p:=⟨w1.heap.size + 1,0,none⟩) (by first | omega | (simp; done) | (simp; omega))).trans (by first | (simp [go_sem]; done) | (simp [*,World.cell?_alloc_some]; done) | (simp [*,go_sem]; done)))); (try (have Bf3:w2.frozen? ⟨w1.heap.size + 1,0,none⟩ = false:=(hb2.frozen (p:=⟨w1.heap.size + 1,0,none⟩) (by first | omega | (simp; done) | (simp; omega))).trans (by first | (simp [go_sem]; done) | (simp [*,go_sem]; done)))); have bel2:Below w.heap.size w w2:=Below.trans (by repeat (first | exact bel0 | exact bel1 | refine Below.drew ?_ | refine Below.setCell ?_ (by first | omega | (simp; omega)) _ | refine Below.alloc ?_ (by first | omega | (simp; omega)) _)) (hb2.mono (by first | omega | (simp; omega))); clear hb2))
 all_goals go_wp2_with fail
 all_goals go_ret
 all_goals refine ⟨⟨_,rfl,zB ⟨_,_,_,_,rfl,?_,?_,?_,?_,⟨?_,?_,?_,?_⟩,?_,?_,?_⟩⟩,?_⟩
 all_goals first
  | omega
  | (simp [*,World.cell?_alloc_some,World.cell?_setCell_far]; done)
  | (simp [*,go_sem]; done)
  | (simp; omega)
  | repeat (first | exact bel0 | exact bel2 | refine Below.drew ?_ | refine Below.setCell ?_ (by first | omega | (simp; omega)) _ | refine Below.alloc ?_ (by first | omega | (simp; omega)) _)
end Go.Proofs.YtfboipappaonhaaGreat
namespace Go.Proofs.YtfboipappaonhaaGreat
set_option linter.unusedSimpArgs false
set_option linter.unusedVariables false
set_option maxHeartbeats 16000000
set_option maxRecDepth 100000
open Go.RowKit Go.Maps
theorem zLT {c:Value} {l:List Lit} {d:Nat} (h:Tryz.prog.keyLits (d + 1) 9 [c] = some l):∃ s,c = .string s /\ s.size <= maxLen:=by
 unfold Program.keyLits at h
 rw [Tryz.underlying9] at h
 cases c with
 | string s=>
  simp only at h
  split at h
  ·rename_i hs; exact ⟨s,rfl,hs⟩
  ·cases h
 | _=>simp at h
theorem zLU {c:Value} {l:List Lit} {d:Nat} (h:Tryz.prog.keyLits (d + 1) 3 [c] = some l):∃ n,c = .int .i64 n /\ (Lit.int .i64 n).wf = true:=by
 unfold Program.keyLits at h
 rw [Tryz.underlying3] at h
 cases c with
 | int q n=>
  simp only at h
  split at h
  ·rename_i hs; obtain ⟨rfl,hw⟩:=hs; exact ⟨n,rfl,hw⟩
  ·cases h
 | _=>simp at h
theorem zLV {c0 c1:Value} {ls:List Lit} {d:Nat} (h:Tryz.prog.keyLits (d + 1 + 1) 161 [c0,c1] = some ls):∃ s kd,c0 = .string s /\ c1 = .int .i64 kd /\ s.size <= maxLen /\ (Lit.int .i64 kd).wf = true:=by
 have e:Tryz.prog.keyLits (d + 1 + 1) 161 [c0,c1] = (Tryz.prog.keyLits (d + 1) 9 [c0]).bind fun a=>(Tryz.prog.keyLits (d + 1) 3 [c1]).map fun b=>a ++ b:=by
  conv=>lhs; unfold Program.keyLits
  rw [Tryz.underlying161]
  cases h0:Tryz.prog.keyLits (d + 1) 9 [c0] with
  | none=>simp [zEq,zHx,zHy,h0]
  | some l0=>
   cases h1:Tryz.prog.keyLits (d + 1) 3 [c1] with
   | none=>simp [zEq,zHx,zHy,h0,h1]
   | some l1=>simp [zEq,zHx,zHy,h0,h1]
 rw [e] at h
 cases h0:Tryz.prog.keyLits (d + 1) 9 [c0] with
 | none=>rw [h0] at h; cases h
 | some l0=>
  cases h1:Tryz.prog.keyLits (d + 1) 3 [c1] with
  | none=>rw [h0,h1] at h; cases h
  | some l1=>
   obtain ⟨s,rfl,hs⟩:=zLT h0
   obtain ⟨kd,rfl,hw⟩:=zLU h1
   exact ⟨s,kd,rfl,rfl,hs,hw⟩
theorem zGZ {key:Value} {kl:Lit} (h:keyOf Tryz.prog 161 key = some kl):∃ s kd,key = .agg #[.string s,.int .i64 kd] /\ s.size <= maxLen /\ (Lit.int .i64 kd).wf = true:=by
 unfold keyOf at h
 rw [Tryz.underlying161] at h
 simp only [zML,Bool.true_and] at h
 split at h
 ·rename_i hf
  cases key with
  | agg cs=>
   simp only [Value.formed,Tryz.underlying161,zEq,beq_iff_eq] at hf
   obtain ⟨l⟩:=cs
   match l,hf with
   | [c0,c1],_=>
    obtain ⟨ls,hl,_⟩:=Option.map_eq_some_iff.1 h
    have hl':Tryz.prog.keyLits (Tryz.prog.types.size + 1) 161 [c0,c1] = some ls:=hl
    rw [zHB] at hl'
    obtain ⟨s,kd,rfl,rfl,hs,hw⟩:=zLV hl'
    exact ⟨s,kd,rfl,hs,hw⟩
  | _=>simp [Value.formed,Tryz.underlying161] at hf
 ·cases h
theorem zEe {v:Value} {y:DataW Unit × List MemPlace} (h:Zy v = some y):∃ c:ByteArray × Int × Int × Int,v = .agg #[.string c.1,.int .i64 c.2.1,.int .i64 c.2.2.1,.int .i64 c.2.2.2]:=by
 obtain ⟨s,k,l,sd,rfl⟩:=zC1 h
 exact ⟨(s,k,l,sd),rfl⟩
theorem zGa {key:Value} {kl:Lit} (h:keyOf Tryz.prog 161 key = some kl):∃ x:ByteArray × Int,key = .agg #[.string x.1,.int .i64 x.2]:=by
 obtain ⟨s,kd,rfl,_⟩:=zGZ h
 exact ⟨(s,kd),rfl⟩
theorem zFO (bo bs:Nat) (xs:List OpR) (w:World) (hi:Idx w bo bs xs xs.length) (hv:zi xs) (hsz:ZV xs) (hok:zBF xs xs.length) :
  Calls Tryz.prog 78 #[.agg #[.map (some bo),.map (some bs)]] w fun e w'=>(∃ L:Nat,e = .returned (.int .i64 (L:Int)) /\ L <= 16 /\ ∀ j,j < xs.length -> (atO xs j).s.size <= L) /\ Below w.heap.size w w':=by
 obtain ⟨⟨D,hown,hD⟩,_,_⟩:=hi
 have HD:=zB hD
 have HV:=zB hv
 have HZ:=zB hsz
 have HOK:=zB hok
 have hbl:=hown.lt
 clear hD hv hsz hok
 have e1:(w.alloc (.cells #[.map (some bo),.map (some bs)] 69)).heap.size = w.heap.size + 1:=by simp
 go_enter Tryz.func78,Tryz.ntmps78
 go_wp2_with (at_range; refine wpList_range_own _ rfl _ 66 rfl 161 123 zGh Tryz.underlying66 Zy bo xs.length D rfl (hown.alloc _) ?_; intro w0 hrg0 hg0 hs0)
 go_frame
 rw [e1] at hrg0 hs0 ⊢
 have hb0:Below w.heap.size w w0:=(zC _ _).grown hg0 (by simp) (fun j hj=>by cases hj)
 go_loopw [3] (fun lv wr=>∃ (L:Nat) (left:Lit -> Bool) (cnt:Nat),lv = .int .i64 (L:Int) /\ L <= 16 /\ Hid (wr.ranges Tryz.prog 161 Zy bo (w.heap.size + 1) xs.length D left cnt) /\ Hid (∀ j,j < xs.length -> left (klO (atO xs j).s (atO xs j).k) = false -> (atO xs j).s.size <= L) /\ Hid (∀ kl,left kl = true -> Maps.has D kl = true) /\ w.heap.size + 1 < wr.heap.size /\ Hid (Below w.heap.size w wr)) (fun _ wr=>wr.rangeLeft bo (w.heap.size + 1))
 case atStart=>
  refine ⟨0,_,_,rfl,by omega,zB hrg0,zB (fun j hj h=>?_),zB (fun kl h=>h),by omega,zB hb0⟩
  have:=(((zA HD) (atO xs j).s (atO xs j).k ((zA HZ) j hj) (zE0 ((zA HOK) j hj))).1).2 ⟨j,hj,rfl,rfl⟩
  rw [this] at h
  cases h
 case round=>
  obtain ⟨L,left,cnt,rfl,hL,hrg,hle,hsub,hz,hbl2⟩:=hrel
  go_wp2_with (at_next; refine wpList_next_ranges _ rfl _ rfl 161 zGh Zy (fun x:ByteArray × Int=>.agg #[.string x.1,.int .i64 x.2]) (fun c:ByteArray × Int × Int × Int=>.agg #[.string c.1,.int .i64 c.2.1,.int .i64 c.2.2.1,.int .i64 c.2.2.2]) (fun key kl h=>zGa h) (fun v y h=>zEe h) bo (w.heap.size + 1) xs.length D left cnt rfl (zA hrg) ?_ ?_)
  ·intro hc0 hl0
   go_wp2
   go_ret
   exact ⟨⟨L,rfl,hL,fun j hj=>(zA hle) j hj (hl0 _)⟩,zA hbl2⟩
  ·intro s kd s2 k2 l2 sd2 kl yd yp w1 cnt1 hkey hlk hvv hat hrg1 hlt hg1 hs1 hen
   obtain ⟨s',kd',he,hss,hkw⟩:=zGZ hkey
   simp only [Value.agg.injEq,Array.mk.injEq,List.cons.injEq,Value.string.injEq,Value.int.injEq,true_and,and_true] at he
   obtain ⟨rfl,rfl⟩:=he
   have hkl:kl = klO s kd:=by
    have:=zHz hss hkw
    rw [this] at hkey
    injection hkey with hkey
    exact hkey.symm
   subst hkl
   have hs16:s.size <= 16:=by
    obtain ⟨j,hj,e,_⟩:=(((zA HD) s kd hss hkw).1).1 ((zA hsub) _ hlk)
    rw [<- e]
    exact ((zA HV) j hj).2.1
   obtain ⟨L',hL'⟩:∃ L':Nat,L' = max L s.size:=⟨_,rfl⟩
   have hmx:max (L:Int) (s.size:Int) = (L':Int):=by omega
   have HLE:=zB (show ∀ j,j < xs.length -> ((fun z=>left z && !z.sameKey (klO s kd)) (klO (atO xs j).s (atO xs j).k)) = false -> (atO xs j).s.size <= L' from fun j hj h=>by
    simp only [Bool.and_eq_false_iff,Bool.not_eq_false'] at h
    rcases h with h | h
    ·have:=(zA hle) j hj h; omega
    ·have e:klO (atO xs j).s (atO xs j).k = klO s kd:=by simpa [Lit.sameKey,klO] using h
     have e':=(zH0 ((zA HZ) j hj) hss (zE0 ((zA HOK) j hj)) hkw e).1
     rw [e']; omega)
   have HSUB:=zB (show ∀ z,((fun z=>left z && !z.sameKey (klO s kd)) z) = true -> Maps.has D z = true from fun z h=>by
    simp only [Bool.and_eq_true] at h
    exact (zA hsub) z h.1)
   have HB1:=zB ((zA hbl2).grown hg1 (zA hbl2).size (fun j hj=>by injection hj with hj; omega))
   have HR1:=zB (hrg1.alloc (.cells #[.string s,.int .i64 kd] 161))
   have HRO:=zB (show cnt1 < cnt from hlt)
   clear hkey hlk hvv hat hle hsub hbl2 hg1
   go_wp2
   refine ⟨⟨L',_,cnt1,?_,by omega,HR1,HLE,HSUB,by simp; omega,zB ((zA HB1).alloc (zA HB1).size _)⟩,?_⟩
   ·first | rfl | (congr 1; omega)
   ·rw [(zA HR1).left_eq,(zA hrg).left_eq]; exact zA HRO
end Go.Proofs.YtfboipappaonhaaGreat
