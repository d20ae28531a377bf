import Derived.Test.YtfboipappaonhaaGreatM10
import Derived.Test.YtfboipappaonhaaGreatM25
import Derived.Test.YtfboipappaonhaaGreatM26
import Derived.Test.YtfboipappaonhaaGreatM40
namespace Go.Proofs.YtfboipappaonhaaGreat
set_option linter.unusedSimpArgs false
set_option linter.unusedVariables false
set_option maxHeartbeats 16000000
set_option maxRecDepth 100000
open Go.RowKit Go.Maps
def zJv (w0 w:World) (K:FuncId) (p:Nat) (q:OpR) (x:Value):Prop:=
 ∃ ba bp bh,x = .func (.func K) #[] #[.pointer (some ⟨ba,0,none⟩),.pointer (some ⟨bp,0,none⟩),.pointer (some ⟨bh,0,none⟩)] /\ w0.heap.size <= ba /\ w0.heap.size <= bp /\ w0.heap.size <= bh /\
  OpC w ba q /\ w.cell? ⟨bp,0,none⟩ = some (.pointer (some ⟨p,0,none⟩)) /\ w.cell? ⟨bh,0,none⟩ = some (.int .i64 (zm q.s q.k q.l q.sd false))
theorem zFs (p:Nat) (q:OpR) (w:World) (hs:q.s.size <= maxLen) :
  Calls Tryz.prog 83 #[.pointer (some ⟨p,0,none⟩),.agg #[.string q.s,.int .i64 q.k,.int .i64 q.l,.int .i64 q.sd]] w fun x w'=>(∃ v,x = .returned v /\ Hid (zJv w w' 132 p q v)) /\ Below w.heap.size w w':=by
 obtain ⟨W,hW⟩:∃ W,W = (w.alloc (.cells #[.pointer (some ⟨p,0,none⟩)] 75)).alloc (.cells #[.string q.s,.int .i64 q.k,.int .i64 q.l,.int .i64 q.sd] 123):=⟨_,rfl⟩
 have hWz:W.heap.size = w.heap.size + 2:=by rw [hW]; simp
 have bel0:Below w.heap.size w W:=by rw [hW]; exact (zC _ _).alloc (by simp) _
 have g0:W.cell? ⟨w.heap.size,0,none⟩ = some (.pointer (some ⟨p,0,none⟩)):=by rw [hW]; simp [go_sem]
 have g1:OpC W (w.heap.size + 1) q:=by rw [hW]; exact ⟨by simp [go_sem],by simp [go_sem],by simp [go_sem],by simp [go_sem]⟩
 have HX:=ZD q.s q.k q.l q.sd false W hs
 have HG:=zB (And.intro g0 g1)
 have HZ:=zB hWz
 have HB:=zB bel0
 rw [hW] at HX
 have HW:=zB hW
 clear g0 g1 hWz bel0 hW
 go_enter Tryz.func83,Tryz.ntmps83
 go_wp2_with fail
 refine HX.mono ?_
 rw [<- zA HW]
 rintro x w1 ⟨rfl,hb1⟩
 have hz1:w.heap.size + 2 <= w1.heap.size:=by have:=hb1.size; rw [zA HZ] at this; exact this
 have bel1:Below w.heap.size w (w1.alloc (.cells #[.int .i64 (zm q.s q.k q.l q.sd false)] 3)):=((zA HB).trans (hb1.mono (zA HB).size)).alloc (by omega) _
 have l0:w.heap.size < W.heap.size:=by rw [zA HZ]; omega
 have l1:w.heap.size + 1 < W.heap.size:=by rw [zA HZ]; omega
 have r0:(w1.alloc (.cells #[.int .i64 (zm q.s q.k q.l q.sd false)] 3)).cell? ⟨w.heap.size,0,none⟩ = some (.pointer (some ⟨p,0,none⟩)):=((zC _ _).cell (p:=⟨w.heap.size,0,none⟩) (by simp only; omega)).trans ((hb1.cell (p:=⟨w.heap.size,0,none⟩) l0).trans (zA HG).1)
 have r1:OpC (w1.alloc (.cells #[.int .i64 (zm q.s q.k q.l q.sd false)] 3)) (w.heap.size + 1) q:=((zA HG).2.kept (zE.of_below (g:=W.heap.size) hb1) (by omega)).kept (zE.of_below (g:=W.heap.size) (zC _ _)) (by omega)
 have r2:(w1.alloc (.cells #[.int .i64 (zm q.s q.k q.l q.sd false)] 3)).cell? ⟨w1.heap.size,0,none⟩ = some (.int .i64 (zm q.s q.k q.l q.sd false)):=by simp [go_sem]
 have HEND:=zB (show zJv w (w1.alloc (.cells #[.int .i64 (zm q.s q.k q.l q.sd false)] 3)) 132 p q (.func (.func 132) #[] #[.pointer (some ⟨w.heap.size + 1,0,none⟩),.pointer (some ⟨w.heap.size,0,none⟩),.pointer (some ⟨w1.heap.size,0,none⟩)]) from ⟨_,_,_,rfl,by omega,by omega,by omega,r1,r0,r2⟩)
 clear r0 r1 r2 l0 l1 HX HG HZ HB hb1 hz1
 go_wp2_with fail
 go_ret
 exact ⟨⟨_,rfl,HEND⟩,bel1⟩
theorem zEe (p:Nat) (q:OpR) (w:World) (hs:q.s.size <= maxLen) :
  Calls Tryz.prog 85 #[.pointer (some ⟨p,0,none⟩),.agg #[.string q.s,.int .i64 q.k,.int .i64 q.l,.int .i64 q.sd]] w fun x w'=>(∃ v,x = .returned v /\ Hid (zJv w w' 135 p q v)) /\ Below w.heap.size w w':=by
 obtain ⟨W,hW⟩:∃ W,W = (w.alloc (.cells #[.pointer (some ⟨p,0,none⟩)] 75)).alloc (.cells #[.string q.s,.int .i64 q.k,.int .i64 q.l,.int .i64 q.sd] 123):=⟨_,rfl⟩
 have hWz:W.heap.size = w.heap.size + 2:=by rw [hW]; simp
 have bel0:Below w.heap.size w W:=by rw [hW]; exact (zC _ _).alloc (by simp) _
 have g0:W.cell? ⟨w.heap.size,0,none⟩ = some (.pointer (some ⟨p,0,none⟩)):=by rw [hW]; simp [go_sem]
 have g1:OpC W (w.heap.size + 1) q:=by rw [hW]; exact ⟨by simp [go_sem],by simp [go_sem],by simp [go_sem],by simp [go_sem]⟩
 have HX:=ZD q.s q.k q.l q.sd false W hs
 have HG:=zB (And.intro g0 g1)
 have HZ:=zB hWz
 have HB:=zB bel0
 rw [hW] at HX
 have HW:=zB hW
 clear g0 g1 hWz bel0 hW
 go_enter Tryz.func85,Tryz.ntmps85
 go_wp2_with fail
 refine HX.mono ?_
 rw [<- zA HW]
 rintro x w1 ⟨rfl,hb1⟩
 have hz1:w.heap.size + 2 <= w1.heap.size:=by have:=hb1.size; rw [zA HZ] at this; exact this
 have bel1:Below w.heap.size w (w1.alloc (.cells #[.int .i64 (zm q.s q.k q.l q.sd false)] 3)):=((zA HB).trans (hb1.mono (zA HB).size)).alloc (by omega) _
 have l0:w.heap.size < W.heap.size:=by rw [zA HZ]; omega
 have l1:w.heap.size + 1 < W.heap.size:=by rw [zA HZ]; omega
 have r0:(w1.alloc (.cells #[.int .i64 (zm q.s q.k q.l q.sd false)] 3)).cell? ⟨w.heap.size,0,none⟩ = some (.pointer (some ⟨p,0,none⟩)):=((zC _ _).cell (p:=⟨w.heap.size,0,none⟩) (by simp only; omega)).trans ((hb1.cell (p:=⟨w.heap.size,0,none⟩) l0).trans (zA HG).1)
 have r1:OpC (w1.alloc (.cells #[.int .i64 (zm q.s q.k q.l q.sd false)] 3)) (w.heap.size + 1) q:=((zA HG).2.kept (zE.of_below (g:=W.heap.size) hb1) (by omega)).kept (zE.of_below (g:=W.heap.size) (zC _ _)) (by omega)
 have r2:(w1.alloc (.cells #[.int .i64 (zm q.s q.k q.l q.sd false)] 3)).cell? ⟨w1.heap.size,0,none⟩ = some (.int .i64 (zm q.s q.k q.l q.sd false)):=by simp [go_sem]
 have HEND:=zB (show zJv w (w1.alloc (.cells #[.int .i64 (zm q.s q.k q.l q.sd false)] 3)) 135 p q (.func (.func 135) #[] #[.pointer (some ⟨w.heap.size + 1,0,none⟩),.pointer (some ⟨w.heap.size,0,none⟩),.pointer (some ⟨w1.heap.size,0,none⟩)]) from ⟨_,_,_,rfl,by omega,by omega,by omega,r1,r0,r2⟩)
 clear r0 r1 r2 l0 l1 HX HG HZ HB hb1 hz1
 go_wp2_with fail
 go_ret
 exact ⟨⟨_,rfl,HEND⟩,bel1⟩
def zBu (lo:Nat) (w:World) (K:FuncId) (p:Nat) (q:OpR) (x:Value):Prop:=
 ∃ ba bp bh,x = .func (.func K) #[] #[.pointer (some ⟨ba,0,none⟩),.pointer (some ⟨bp,0,none⟩),.pointer (some ⟨bh,0,none⟩)] /\ lo <= ba /\ lo <= bp /\ lo <= bh /\
  OpC w ba q /\ w.cell? ⟨bp,0,none⟩ = some (.pointer (some ⟨p,0,none⟩)) /\ w.cell? ⟨bh,0,none⟩ = some (.int .i64 (zm q.s q.k q.l q.sd false))
def zCp (lo:Nat) (w:World) (K:FuncId) (p:Nat) (q:OpR) (x:Value):Prop:=
 ∃ ba bp bh bs,x = .func (.func K) #[] #[.pointer (some ⟨ba,0,none⟩),.pointer (some ⟨bp,0,none⟩),.pointer (some ⟨bh,0,none⟩),.pointer (some ⟨bs,0,none⟩)] /\ lo <= ba /\ lo <= bp /\ lo <= bh /\ lo <= bs /\
  OpC w ba q /\ w.cell? ⟨bp,0,none⟩ = some (.pointer (some ⟨p,0,none⟩)) /\ w.cell? ⟨bh,0,none⟩ = some (.int .i64 (zm q.s q.k q.l q.sd false)) /\ w.cell? ⟨bs,0,none⟩ = some (.int .i64 (zm q.s q.k q.l q.sd true))
theorem zBu.kept {lo:Nat} {w w':World} {K:FuncId} {p g:Nat} {q:OpR} {x:Value} (h:zBu lo w K p q x) (hk:zE w w' g) (hg:g < lo):zBu lo w' K p q x:=by
 obtain ⟨ba,bp,bh,h0,n1,n2,n3,h1,h2,h3⟩:=h
 exact ⟨ba,bp,bh,h0,n1,n2,n3,h1.kept hk (by omega),(hk.cell (b:=bp) (block_lt_of_cell h2) (by omega) 0).trans h2,(hk.cell (b:=bh) (block_lt_of_cell h3) (by omega) 0).trans h3⟩
theorem zCp.kept {lo:Nat} {w w':World} {K:FuncId} {p g:Nat} {q:OpR} {x:Value} (h:zCp lo w K p q x) (hk:zE w w' g) (hg:g < lo):zCp lo w' K p q x:=by
 obtain ⟨ba,bp,bh,bs,h0,n1,n2,n3,n4,h1,h2,h3,h4⟩:=h
 exact ⟨ba,bp,bh,bs,h0,n1,n2,n3,n4,h1.kept hk (by omega),(hk.cell (b:=bp) (block_lt_of_cell h2) (by omega) 0).trans h2,(hk.cell (b:=bh) (block_lt_of_cell h3) (by omega) 0).trans h3,(hk.cell (b:=bs) (block_lt_of_cell h4) (by omega) 0).trans h4⟩
theorem zBu.low {lo lo':Nat} {w:World} {K:FuncId} {p:Nat} {q:OpR} {x:Value} (h:zBu lo w K p q x) (hl:lo' <= lo):zBu lo' w K p q x:=by
 obtain ⟨ba,bp,bh,h0,n1,n2,n3,h1,h2,h3⟩:=h
 exact ⟨ba,bp,bh,h0,by omega,by omega,by omega,h1,h2,h3⟩
theorem zCp.low {lo lo':Nat} {w:World} {K:FuncId} {p:Nat} {q:OpR} {x:Value} (h:zCp lo w K p q x) (hl:lo' <= lo):zCp lo' w K p q x:=by
 obtain ⟨ba,bp,bh,bs,h0,n1,n2,n3,n4,h1,h2,h3,h4⟩:=h
 exact ⟨ba,bp,bh,bs,h0,by omega,by omega,by omega,by omega,h1,h2,h3,h4⟩
def BfD (lo:Nat) (w:World) (p:Nat) (ns:List OpR) (dn:ByteArray -> Int -> Bool) (G:ByteArray -> Option Value):Prop:=
 G opn = some (.func (.func 82) #[.pointer (some ⟨p,0,none⟩)] #[]) /\
 ∀ t,t ≠ opn -> (dn t 1 = false -> G t = none) /\ (dn t 1 = true -> ∃ v,G t = some v /\ zBu lo w 132 p (opA ns (rt 3 t)) v)
def BbD (lo:Nat) (w:World) (p:Nat) (ns:List OpR) (dn:ByteArray -> Int -> Bool) (G:ByteArray -> Option Value):Prop:=
 ∀ t,(dn t 2 = false -> dn t 3 = false -> G t = none) /\
 (dn t 2 = true -> ∃ v,G t = some v /\ zCp lo w 133 p (opA ns (rt 4 t)) v) /\
 (dn t 3 = true -> ∃ v,G t = some v /\ zBu lo w 135 p (opA ns (rt 5 t)) v)
theorem BfD.kept {lo:Nat} {w w':World} {p g:Nat} {ns:List OpR} {dn:ByteArray -> Int -> Bool} {G:ByteArray -> Option Value} (h:BfD lo w p ns dn G) (hk:zE w w' g) (hg:g < lo):BfD lo w' p ns dn G:=
 ⟨h.1,fun t ht=>⟨(h.2 t ht).1,fun hb=>by obtain ⟨v,h1,h2⟩:=(h.2 t ht).2 hb; exact ⟨v,h1,h2.kept hk hg⟩⟩⟩
theorem BbD.kept {lo:Nat} {w w':World} {p g:Nat} {ns:List OpR} {dn:ByteArray -> Int -> Bool} {G:ByteArray -> Option Value} (h:BbD lo w p ns dn G) (hk:zE w w' g) (hg:g < lo):BbD lo w' p ns dn G:=
 fun t=>⟨(h t).1,fun hb=>by obtain ⟨v,h1,h2⟩:=(h t).2.1 hb; exact ⟨v,h1,h2.kept hk hg⟩,fun hb=>by obtain ⟨v,h1,h2⟩:=(h t).2.2 hb; exact ⟨v,h1,h2.kept hk hg⟩⟩
theorem zCE {s t:ByteArray} (h:s.data = t.data):s = t:=by cases s; cases t; simp at h; rw [h]
def zDy (dn dn':ByteArray -> Int -> Bool) (s:ByteArray) (kd:Int):Prop:=∀ t k,dn' t k = true ↔ dn t k = true \/ (t = s /\ k = kd)
theorem zDy.other {dn dn':ByteArray -> Int -> Bool} {s:ByteArray} {kd:Int} (h:zDy dn dn' s kd) {t:ByteArray} {k:Int} (hn:¬ (t = s /\ k = kd)):dn' t k = dn t k:=by
 have:=h t k
 cases a:dn' t k <;> cases b:dn t k <;> simp [a,b,hn] at this ⊢
 all_goals exact absurd this (by simp [hn])
theorem BfD.keep {lo:Nat} {w:World} {p:Nat} {ns:List OpR} {dn dn':ByteArray -> Int -> Bool} {G:ByteArray -> Option Value} {s:ByteArray} {kd:Int} (h:BfD lo w p ns dn G) (hm:zDy dn dn' s kd) (hk:kd ≠ 1):BfD lo w p ns dn' G:=
 ⟨h.1,fun t ht=>by rw [hm.other (fun e=>hk e.2.symm)]; exact h.2 t ht⟩
theorem BbD.keep {lo:Nat} {w:World} {p:Nat} {ns:List OpR} {dn dn':ByteArray -> Int -> Bool} {G:ByteArray -> Option Value} {s:ByteArray} {kd:Int} (h:BbD lo w p ns dn G) (hm:zDy dn dn' s kd) (hk:kd = 1):BbD lo w p ns dn' G:=
 fun t=>by rw [hm.other (fun e=>by omega),hm.other (fun e=>by omega)]; exact h t
theorem BfD.put {lo:Nat} {w:World} {p:Nat} {ns:List OpR} {dn dn':ByteArray -> Int -> Bool} {G:ByteArray -> Option Value} {s:ByteArray} {v:Value} (h:BfD lo w p ns dn G) (hm:zDy dn dn' s 1) (hs:s ≠ opn) (hv:zBu lo w 132 p (opA ns (rt 3 s)) v) :
  BfD lo w p ns dn' (fun t'=>if t'.data = s.data then some v else G t'):=by
 refine ⟨?_,fun t ht=>?_⟩
 ·simp only
  rw [if_neg (fun e=>hs (zCE e).symm)]
  exact h.1
 ·by_cases e:t = s
  ·subst e
   refine ⟨fun hf=>?_,fun _=>⟨v,if_pos rfl,hv⟩⟩
   rw [(hm t 1).2 (Or.inr ⟨rfl,rfl⟩)] at hf
   cases hf
  ·simp only
   rw [if_neg (fun x=>e (zCE x)),hm.other (fun x=>e x.1)]
   exact h.2 t ht
theorem BbD.put2 {lo:Nat} {w:World} {p:Nat} {ns:List OpR} {dn dn':ByteArray -> Int -> Bool} {G:ByteArray -> Option Value} {s:ByteArray} {v:Value} (h:BbD lo w p ns dn G) (hm:zDy dn dn' s 2) (h3:dn s 3 = false) (hv:zCp lo w 133 p (opA ns (rt 4 s)) v) :
  BbD lo w p ns dn' (fun t'=>if t'.data = s.data then some v else G t'):=by
 intro t
 by_cases e:t = s
 ·subst e
  refine ⟨fun hf=>?_,fun _=>⟨v,if_pos rfl,hv⟩,fun hf=>?_⟩
  ·rw [(hm t 2).2 (Or.inr ⟨rfl,rfl⟩)] at hf
   cases hf
  ·rw [hm.other (fun x=>by omega),h3] at hf
   cases hf
 ·simp only
  rw [if_neg (fun x=>e (zCE x)),hm.other (fun x=>e x.1),hm.other (fun x=>e x.1)]
  exact h t
theorem BbD.put3 {lo:Nat} {w:World} {p:Nat} {ns:List OpR} {dn dn':ByteArray -> Int -> Bool} {G:ByteArray -> Option Value} {s:ByteArray} {v:Value} (h:BbD lo w p ns dn G) (hm:zDy dn dn' s 3) (h2:dn s 2 = false) (hv:zBu lo w 135 p (opA ns (rt 5 s)) v) :
  BbD lo w p ns dn' (fun t'=>if t'.data = s.data then some v else G t'):=by
 intro t
 by_cases e:t = s
 ·subst e
  refine ⟨fun _ hf=>?_,fun hf=>?_,fun _=>⟨v,if_pos rfl,hv⟩⟩
  ·rw [(hm t 3).2 (Or.inr ⟨rfl,rfl⟩)] at hf
   cases hf
  ·rw [hm.other (fun x=>by omega),h2] at hf
   cases hf
 ·simp only
  rw [if_neg (fun x=>e (zCE x)),hm.other (fun x=>e x.1),hm.other (fun x=>e x.1)]
  exact h t
theorem zCz {ns:List OpR} {t:ByteArray} {q:Nat} {k:Int} (h:ZM ns t k = true) (hq:(q:Int) - 2 = k) (b:Bool):zm (opA ns (rt q t)).s (opA ns (rt q t)).k (opA ns (rt q t)).l (opA ns (rt q t)).sd b = sH ns (q,t) b:=by
 have hk:=zCi h hq
 unfold knB at hk
 unfold sH zT opA
 simp only [rt] at hk ⊢
 cases hf:fnd ns t ((q:Int) - 2) with
 | none=>rw [hf] at hk; cases hk
 | some j=>rfl
theorem BfD.ok {lo:Nat} {w:World} {p:Nat} {ns:List OpR} {G:ByteArray -> Option Value} (h:BfD lo w p ns (ZM ns) G) (hp:p < lo):zLR w p ns G:=by
 refine ⟨h.1,fun t ht=>⟨(h.2 t ht).1,fun hb=>?_⟩⟩
 obtain ⟨v,h1,ba,bp,bh,rfl,n1,n2,n3,c1,c2,c3⟩:=(h.2 t ht).2 hb
 rw [zCz hb (by decide)] at c3
 exact ⟨ba,bp,bh,h1,by omega,by omega,by omega,c1,c2,c3⟩
theorem BbD.ok {lo:Nat} {w:World} {p:Nat} {ns:List OpR} {G:ByteArray -> Option Value} (h:BbD lo w p ns (ZM ns) G) (hp:p < lo):zLS w p ns G:=by
 intro t
 refine ⟨fun hn=>(h t).1 ?_ ?_,fun hb=>?_,fun hb=>?_⟩
 ·cases e:ZM ns t 2 with
  | false=>rfl
  | true=>obtain ⟨j,hj,e1,_⟩:=(Z7 _ _ _).1 e; exact absurd ⟨j,hj,e1⟩ hn
 ·cases e:ZM ns t 3 with
  | false=>rfl
  | true=>obtain ⟨j,hj,e1,_⟩:=(Z7 _ _ _).1 e; exact absurd ⟨j,hj,e1⟩ hn
 ·obtain ⟨v,h1,ba,bp,bh,bs,rfl,n1,n2,n3,n4,c1,c2,c3,c4⟩:=(h t).2.1 hb
  rw [zCz hb (by decide)] at c3
  rw [zCz hb (by decide)] at c4
  exact ⟨ba,bp,bh,bs,h1,by omega,by omega,by omega,by omega,c1,c2,c3,c4⟩
 ·obtain ⟨v,h1,ba,bp,bh,rfl,n1,n2,n3,c1,c2,c3⟩:=(h t).2.2 hb
  rw [zCz hb (by decide)] at c3
  exact ⟨ba,bp,bh,h1,by omega,by omega,by omega,c1,c2,c3⟩
def dnL (ns:List OpR) (left:Lit -> Bool) (t:ByteArray) (k:Int):Bool:=ZM ns t k && !left (klO t k)
theorem zLv {ns:List OpR} {left:Lit -> Bool} {s:ByteArray} {kd:Int} (hz:Zr ns) (hok:zAD ns ns.length) (hss:s.size <= maxLen) (hkw:(Lit.int .i64 kd).wf = true) (hh:ZM ns s kd = true) :
  zDy (dnL ns left) (dnL ns (fun z=>left z && !z.sameKey (klO s kd))) s kd:=by
 intro t k
 unfold dnL
 constructor
 ·intro h
  simp only [Bool.and_eq_true,Bool.not_eq_true',Bool.and_eq_false_iff,Bool.not_eq_false'] at h
  obtain ⟨h1,h2⟩:=h
  rcases h2 with h2 | h2
  ·exact Or.inl (by simp [h1,h2])
  ·right
   have e:klO t k = klO s kd:=by simpa [Lit.sameKey,klO] using h2
   obtain ⟨j,hj,e1,e2⟩:=(Z7 _ _ _).1 h1
   have:=zHB (by rw [<- e1]; exact hz j hj) hss (by rw [<- e2]; exact zEJ (hok j hj)) hkw e
   exact this
 ·rintro (h | ⟨rfl,rfl⟩)
  ·simp only [Bool.and_eq_true,Bool.not_eq_true'] at h
   simp [h.1,h.2]
  ·simp [hh,Lit.sameKey,klO]
theorem zF4 (p:Nat) (q:OpR) (w:World) (hs:q.s.size <= maxLen) :
  Calls Tryz.prog 84 #[.pointer (some ⟨p,0,none⟩),.agg #[.string q.s,.int .i64 q.k,.int .i64 q.l,.int .i64 q.sd]] w fun x w'=>(∃ v,x = .returned v /\ Hid (zCp w.heap.size w' 133 p q v)) /\ Below w.heap.size w w':=by
 obtain ⟨W,hW⟩:∃ W,W = (w.alloc (.cells #[.pointer (some ⟨p,0,none⟩)] 75)).alloc (.cells #[.string q.s,.int .i64 q.k,.int .i64 q.l,.int .i64 q.sd] 123):=⟨_,rfl⟩
 have hWz:w.heap.size + 2 <= W.heap.size:=by rw [hW]; simp
 have bel0:Below w.heap.size w W:=by rw [hW]; exact (zC _ _).alloc (by simp) _
 have g0:W.cell? ⟨w.heap.size,0,none⟩ = some (.pointer (some ⟨p,0,none⟩)):=by rw [hW]; simp [go_sem]
 have g1:OpC W (w.heap.size + 1) q:=by rw [hW]; exact ⟨by simp [go_sem],by simp [go_sem],by simp [go_sem],by simp [go_sem]⟩
 have HX:=fun b W'=>ZD q.s q.k q.l q.sd b W' hs
 obtain ⟨k0,k1,k2,k3⟩:=g1
 have HW:=zB hW
 clear hW
 have Dx00:W.heap.size ≠ w.heap.size:=(by omega)
 have Dy00:w.heap.size ≠ W.heap.size:=(by omega)
 have Dx01:W.heap.size ≠ w.heap.size + 1:=(by omega)
 have Dy01:w.heap.size + 1 ≠ W.heap.size:=(by omega)
 have Dx10:W.heap.size + 1 ≠ w.heap.size:=(by omega)
 have Dy10:w.heap.size ≠ W.heap.size + 1:=(by omega)
 have Dx11:W.heap.size + 1 ≠ w.heap.size + 1:=(by omega)
 have Dy11:w.heap.size + 1 ≠ W.heap.size + 1:=(by omega)
 go_enter Tryz.func84,Tryz.ntmps84
 go_wp2_with fail
 rw [<- zA HW]
 go_region_held (fun w'=>w'.cell? ⟨w.heap.size + 1,0,none⟩ = some (.string q.s) /\ w'.cell? ⟨w.heap.size + 1,1,none⟩ = some (.int .i64 q.k) /\ w'.cell? ⟨w.heap.size + 1,2,none⟩ = some (.int .i64 q.l) /\ w'.cell? ⟨w.heap.size + 1,3,none⟩ = some (.int .i64 q.sd)) (first | (go_keep; done) | exact ⟨Bs0,Bs1,Bs2,Bs3⟩ | exact ⟨As0,As1,As2,As3⟩)
  (first | (go_at_call 90; with_reducible refine (HX false _).mono ?_; rintro e w1 ⟨rfl,hb1⟩; have hz1:=hb1.size; (try simp at hz1); have Ax00:w1.heap.size ≠ w.heap.size:=(by omega); have Ay00:w.heap.size ≠ w1.heap.size:=(by omega); have Ax01:w1.heap.size ≠ w.heap.size + 1:=(by omega); have Ay01:w.heap.size + 1 ≠ w1.heap.size:=(by omega); have Ax10:w1.heap.size + 1 ≠ w.heap.size:=(by omega); have Ay10:w.heap.size ≠ w1.heap.size + 1:=(by omega); have Ax11:w1.heap.size + 1 ≠ w.heap.size + 1:=(by omega); have Ay11:w.heap.size + 1 ≠ w1.heap.size + 1:=(by omega); (try (have Al0:W.heap.size < w1.heap.size:=by omega)); (try (have An0:W.heap.size ≠ w1.heap.size:=by omega)); (try (have Am0:W.heap.size ≠ w1.heap.size + 1:=by omega)); (try (have Al1:W.heap.size + 1 < w1.heap.size:=by omega)); (try (have An1:W.heap.size + 1 ≠ w1.heap.size:=by omega)); (try (have Am1:W.heap.size + 1 ≠ w1.heap.size + 1:=by omega)); have As0:w1.cell? ⟨w.heap.size + 1,0,none⟩ = some (.string q.s):=(hb1.cell (p:=⟨w.heap.size + 1,0,none⟩) (by simp; omega)).trans (by simp [*,World.cell?_alloc_some,World.cell?_setCell_far]); have As1:w1.cell? ⟨w.heap.size + 1,1,none⟩ = some (.int .i64 q.k):=(hb1.cell (p:=⟨w.heap.size + 1,1,none⟩) (by simp; omega)).trans (by simp [*,World.cell?_alloc_some,World.cell?_setCell_far]); have As2:w1.cell? ⟨w.heap.size + 1,2,none⟩ = some (.int .i64 q.l):=(hb1.cell (p:=⟨w.heap.size + 1,2,none⟩) (by simp; omega)).trans (by simp [*,World.cell?_alloc_some,World.cell?_setCell_far]); have As3:w1.cell? ⟨w.heap.size + 1,3,none⟩ = some (.int .i64 q.sd):=(hb1.cell (p:=⟨w.heap.size + 1,3,none⟩) (by simp; omega)).trans (by simp [*,World.cell?_alloc_some,World.cell?_setCell_far]); have As4:w1.cell? ⟨w.heap.size,0,none⟩ = some (.pointer (some ⟨p,0,none⟩)):=(hb1.cell (p:=⟨w.heap.size,0,none⟩) (by simp; omega)).trans (by simp [*,World.cell?_alloc_some,World.cell?_setCell_far]); (try (have Aa0:w1.cell? ⟨W.heap.size,0,none⟩ = some (.int .i64 0):=(hb1.cell (p:=⟨W.heap.size,0,none⟩) (by first | omega | (simp; done) | (simp; omega))).trans (by first | (simp [go_sem]; done) | (simp [*,World.cell?_alloc_some]; done) | (simp [*,go_sem]; done)))); (try (have Af0:w1.frozen? ⟨W.heap.size,0,none⟩ = false:=(hb1.frozen (p:=⟨W.heap.size,0,none⟩) (by first | omega | (simp; done) | (simp; omega))).trans (by first | (simp [go_sem]; done) | (simp [*,go_sem]; done)))); (try (have Aa1:w1.cell? ⟨W.heap.size + 1,0,none⟩ = some (.int .i64 0):=(hb1.cell (p:=⟨W.heap.size + 1,0,none⟩) (by first | omega | (simp; done) | (simp; omega))).trans (by first | (simp [go_sem]; done) | (simp [*,World.cell?_alloc_some]; done) | (simp [*,go_sem]; done)))); (try (have Af1:w1.frozen? ⟨W.heap.size + 1,0,none⟩ = false:=(hb1.frozen (p:=⟨W.heap.size + 1,0,none⟩) (by first | omega | (simp; done) | (simp; omega))).trans (by first | (simp [go_sem]; done) | (simp [*,go_sem]; done)))); have bel1:Below w.heap.size w w1:=Below.trans (by repeat (first | exact bel0 | exact bel0 | refine Below.drew ?_ | refine Below.setCell ?_ (by first | omega | (simp; omega)) _ | refine Below.alloc ?_ (by first | omega | (simp; omega)) _)) (hb1.mono (by first | omega | (simp; omega))); clear hb1) | (go_at_call 90; with_reducible refine (HX true _).mono ?_; rintro e w2 ⟨rfl,hb2⟩; have hz2:=hb2.size; (try simp at hz2); have Bx00:w2.heap.size ≠ w.heap.size:=(by omega); have By00:w.heap.size ≠ w2.heap.size:=(by omega); have Bx01:w2.heap.size ≠ w.heap.size + 1:=(by omega); have By01:w.heap.size + 1 ≠ w2.heap.size:=(by omega); have Bx10:w2.heap.size + 1 ≠ w.heap.size:=(by omega); have By10:w.heap.size ≠ w2.heap.size + 1:=(by omega); have Bx11:w2.heap.size + 1 ≠ w.heap.size + 1:=(by omega); have By11:w.heap.size + 1 ≠ w2.heap.size + 1:=(by omega); (try (have Bl0:W.heap.size < w2.heap.size:=by omega)); (try (have Bn0:W.heap.size ≠ w2.heap.size:=by omega)); (try (have Bm0:W.heap.size ≠ w2.heap.size + 1:=by omega)); (try (have Bl1:W.heap.size + 1 < w2.heap.size:=by omega)); (try (have Bn1:W.heap.size + 1 ≠ w2.heap.size:=by omega)); (try (have Bm1:W.heap.size + 1 ≠ w2.heap.size + 1:=by omega)); (try (have Bl2:w1.heap.size < w2.heap.size:=by omega)); (try (have Bn2:w1.heap.size ≠ w2.heap.size:=by omega)); (try (have Bm2:w1.heap.size ≠ w2.heap.size + 1:=by omega)); (try (have Bl3:w1.heap.size + 1 < w2.heap.size:=by omega)); (try (have Bn3:w1.heap.size + 1 ≠ w2.heap.size:=by omega)); (try (have Bm3:w1.heap.size + 1 ≠ w2.heap.size + 1:=by omega)); have Bs0:w2.cell? ⟨w.heap.size + 1,0,none⟩ = some (.string q.s):=(hb2.cell (p:=⟨w.heap.size + 1,0,none⟩) (by simp; omega)).trans (by simp [*,World.cell?_alloc_some,World.cell?_setCell_far]); have Bs1:w2.cell? ⟨w.heap.size + 1,1,none⟩ = some (.int .i64 q.k):=(hb2.cell (p:=⟨w.heap.size + 1,1,none⟩) (by simp; omega)).trans (by simp [*,World.cell?_alloc_some,World.cell?_setCell_far]); have Bs2:w2.cell? ⟨w.heap.size + 1,2,none⟩ = some (.int .i64 q.l):=(hb2.cell (p:=⟨w.heap.size + 1,2,none⟩) (by simp; omega)).trans (by simp [*,World.cell?_alloc_some,World.cell?_setCell_far]); have Bs3:w2.cell? ⟨w.heap.size + 1,3,none⟩ = some (.int .i64 q.sd):=(hb2.cell (p:=⟨w.heap.size + 1,3,none⟩) (by simp; omega)).trans (by simp [*,World.cell?_alloc_some,World.cell?_setCell_far]); have Bs4:w2.cell? ⟨w.heap.size,0,none⟩ = some (.pointer (some ⟨p,0,none⟩)):=(hb2.cell (p:=⟨w.heap.size,0,none⟩) (by simp; omega)).trans (by simp [*,World.cell?_alloc_some,World.cell?_setCell_far]); (try (have Ba0:w2.cell? ⟨W.heap.size,0,none⟩ = some (.int .i64 0):=(hb2.cell (p:=⟨W.heap.size,0,none⟩) (by first | omega | (simp; done) | (simp; omega))).trans (by first | (simp [go_sem]; done) | (simp [*,World.cell?_alloc_some]; done) | (simp [*,go_sem]; done)))); (try (have Bf0:w2.frozen? ⟨W.heap.size,0,none⟩ = false:=(hb2.frozen (p:=⟨W.heap.size,0,none⟩) (by first | omega | (simp; done) | (simp; omega))).trans (by first | (simp [go_sem]; done) | (simp [*,go_sem]; done)))); (try (have Ba1:w2.cell? ⟨W.heap.size + 1,0,none⟩ = some (.int .i64 0):=(hb2.cell (p:=⟨W.heap.size + 1,0,none⟩) (by first | omega | (simp; done) | (simp; omega))).trans (by first | (simp [go_sem]; done) | (simp [*,World.cell?_alloc_some]; done) | (simp [*,go_sem]; done)))); (try (have Bf1:w2.frozen? ⟨W.heap.size + 1,0,none⟩ = false:=(hb2.frozen (p:=⟨W.heap.size + 1,0,none⟩) (by first | omega | (simp; done) | (simp; omega))).trans (by first | (simp [go_sem]; done) | (simp [*,go_sem]; done)))); (try (have Ba2:w2.cell? ⟨w1.heap.size,0,none⟩ = some (.int .i64 0):=(hb2.cell (p:=⟨w1.heap.size,0,none⟩) (by first | omega | (simp; done) | (simp; omega))).trans (by first | (simp [go_sem]; done) | (simp [*,World.cell?_alloc_some]; done) | (simp [*,go_sem]; done)))); (try (have Bf2:w2.frozen? ⟨w1.heap.size,0,none⟩ = false:=(hb2.frozen (p:=⟨w1.heap.size,0,none⟩) (by first | omega | (simp; done) | (simp; omega))).trans (by first | (simp [go_sem]; done) | (simp [*,go_sem]; done)))); (try (have Ba3:w2.cell? ⟨w1.heap.size + 1,0,none⟩ = some (.int .i64 0):=(hb2.cell (p:=⟨w1.heap.size + 1,0,none⟩) (by first | omega | (simp; done) | (simp; omega))).trans (by first | (simp [go_sem]; done) | (simp [*,World.cell?_alloc_some]; done) | (simp [*,go_sem]; done)))); (try (have Bf3:w2.frozen? ⟨w1.heap.size + 1,0,none⟩ = false:=(hb2.frozen (p:=⟨w1.heap.size + 1,0,none⟩) (by first | omega | (simp; done) | (simp; omega))).trans (by first | (simp [go_sem]; done) | (simp [*,go_sem]; done)))); have bel2:Below w.heap.size w w2:=Below.trans (by repeat (first | exact bel0 | exact bel1 | refine Below.drew ?_ | refine Below.setCell ?_ (by first | omega | (simp; omega)) _ | refine Below.alloc ?_ (by first | omega | (simp; omega)) _)) (hb2.mono (by first | omega | (simp; omega))); clear hb2))
 all_goals go_wp2_with fail
 all_goals go_ret
 all_goals refine ⟨⟨_,rfl,zB ⟨_,_,_,_,rfl,?_,?_,?_,?_,⟨?_,?_,?_,?_⟩,?_,?_,?_⟩⟩,?_⟩
 all_goals first
  | omega
  | (simp [*,World.cell?_alloc_some,World.cell?_setCell_far]; done)
  | (simp [*,go_sem]; done)
  | (simp; omega)
  | repeat (first | exact bel0 | exact bel2 | refine Below.drew ?_ | refine Below.setCell ?_ (by first | omega | (simp; omega)) _ | refine Below.alloc ?_ (by first | omega | (simp; omega)) _)
end Go.Proofs.YtfboipappaonhaaGreat
