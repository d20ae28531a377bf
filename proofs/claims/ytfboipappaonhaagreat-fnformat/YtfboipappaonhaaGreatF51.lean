import Derived.Laws.CopyOwn
import Derived.Test.YtfboipappaonhaaGreatF02
import Derived.Test.YtfboipappaonhaaGreatF50
namespace Go.Proofs.YtfboipappaonhaaGreat
set_option linter.unusedVariables false
set_option maxHeartbeats 16000000
set_option maxRecDepth 100000
open Go.RowKit
theorem zJo (k:Int) (w:World) :
  Calls Tryz.prog 91 #[.int .i64 k] w fun e w'=>e = .returned (.int .i64 (zU k:Int))/\w'=w:=by
 by_cases h4:k=4
 ·subst h4
  go_enter Tryz.func91,Tryz.ntmps91
  go_wp2
  go_ret
  exact ⟨zF (by simp [zU]),rfl⟩
 by_cases h3:k=3
 ·subst h3
  go_enter Tryz.func91,Tryz.ntmps91
  go_wp2
  go_ret
  exact ⟨zF (by simp [zU]),rfl⟩
 by_cases h5:k=5
 ·subst h5
  go_enter Tryz.func91,Tryz.ntmps91
  go_wp2
  go_ret
  exact ⟨zF (by simp [zU]),rfl⟩
 by_cases h6:k=6
 ·subst h6
  go_enter Tryz.func91,Tryz.ntmps91
  go_wp2
  go_ret
  exact ⟨zF (by simp [zU]),rfl⟩
 have e4:(k==4)=false:=by simpa using h4
 have e3:(k==3)=false:=by simpa using h3
 have e5:(k==5)=false:=by simpa using h5
 have e6:(k==6)=false:=by simpa using h6
 have HK:=zB (show zU k=0 by simp [zU,h4,h3,h5,h6])
 clear h4 h3 h5 h6
 go_enter Tryz.func91,Tryz.ntmps91
 go_wp2
 go_ret
 exact ⟨zF (by rw [zA HK]; rfl),rfl⟩
theorem Z5 {k:Int} {n:Nat} (h:zU k=n) (z:Int) (hz:(n:Int)=z) (w:World) :
  Calls Tryz.prog 91 #[.int .i64 k] w fun e w'=>e = .returned (.int .i64 z)/\w'=w:=by
 subst hz
 subst h
 exact zJo k w
theorem zB2 (o:zD) (w:World) (hs:o.t.size<=maxLen) :
  Calls Tryz.prog 93 #[.agg #[.int .i64 o.k,.string o.t,.int .i64 o.a,.int .i64 o.b]] w fun e w'=>zCw e (zAA o)/\Below w.heap.size w w':=by
 have HS:=zB hs
 unfold maxLen at hs
 by_cases hbig:20000<o.t.size
 ·have hbigI:(20000:Int)<(o.t.size:Int):=by omega
  have HN:=zB (zIA hbig)
  clear hbig
  go_enter Tryz.func93,Tryz.ntmps93
  go_wp2_with fail
  go_ret
  exact ⟨⟨_,rfl,zQ (zA HN)⟩,zC _ _⟩
 have hbigI:¬ (20000:Int)<(o.t.size:Int):=by omega
 have hsm:o.t.size<=20000:=by omega
 clear hbig
 by_cases k1:o.k=1
 ·have HT:=zB ((zLi hsm k1).trans (zPo _).symm)
  rw [k1]
  clear k1
  go_enter Tryz.func93,Tryz.ntmps93
  go_wp2_with (go_at_call 139; refine (zHq 2 _ _ (zA HS)).mono ?_; rintro e w' ⟨⟨v,rfl,hv⟩,hx⟩; obtain rfl:=hx.symm)
  go_ret
  exact ⟨⟨_,rfl,hv.trans (zA HT).symm⟩,zC _ _⟩
 by_cases k2:o.k=2
 ·have HT:=zB ((zLj hsm k2).trans (zPp _).symm)
  rw [k2]
  clear k1 k2
  go_enter Tryz.func93,Tryz.ntmps93
  go_wp2_with (go_at_call 139; refine (zHq 3 _ _ (zA HS)).mono ?_; rintro e w' ⟨⟨v,rfl,hv⟩,hx⟩; obtain rfl:=hx.symm)
  go_ret
  exact ⟨⟨_,rfl,hv.trans (zA HT).symm⟩,zC _ _⟩
 by_cases k6:o.k=6
 ·have HT:=zB (zLk k6)
  rw [k6]
  clear k1 k2 k6
  by_cases h0:o.t.size=0
  ·rw [zFb h0]
   go_enter Tryz.func93,Tryz.ntmps93
   go_wp2_with fail
   go_ret
   exact ⟨⟨_,rfl,Zx ((zA HT).2 h0)⟩,zC _ _⟩
  ·have hne:o.t.toList.isEmpty=false:=zFa h0
   go_enter Tryz.func93,Tryz.ntmps93
   go_wp2_with fail
   go_ret
   exact ⟨⟨_,rfl,zQ (fun h=>h0 ((zA HT).1 h))⟩,zC _ _⟩
 have e1:(o.k==1)=false:=by simpa using k1
 have e2:(o.k==2)=false:=by simpa using k2
 have e6:(o.k==6)=false:=by simpa using k6
 by_cases k3:o.k=3
 ·have HT:=zB (zGU hsm (Or.inl k3))
  rw [k3]
  clear k1 k2 k6 e1 e2 e6 k3
  go_enter Tryz.func93,Tryz.ntmps93
  go_wp2_with (go_at_call 140; refine (zAM _ _ (zA HS)).mono ?_; rintro e w' ⟨rfl,hx⟩; obtain rfl:=hx.symm)
  go_ret
  exact ⟨⟨_,rfl,(zA HT).symm⟩,zC _ _⟩
 by_cases k4:o.k=4
 ·have HT:=zB (zGU hsm (Or.inr (Or.inl k4)))
  rw [k4]
  clear k1 k2 k6 e1 e2 e6 k3 k4
  go_enter Tryz.func93,Tryz.ntmps93
  go_wp2_with (go_at_call 140; refine (zAM _ _ (zA HS)).mono ?_; rintro e w' ⟨rfl,hx⟩; obtain rfl:=hx.symm)
  go_ret
  exact ⟨⟨_,rfl,(zA HT).symm⟩,zC _ _⟩
 by_cases k5:o.k=5
 ·have HT:=zB (zGU hsm (Or.inr (Or.inr k5)))
  rw [k5]
  clear k1 k2 k6 e1 e2 e6 k3 k4 k5
  go_enter Tryz.func93,Tryz.ntmps93
  go_wp2_with (go_at_call 140; refine (zAM _ _ (zA HS)).mono ?_; rintro e w' ⟨rfl,hx⟩; obtain rfl:=hx.symm)
  go_ret
  exact ⟨⟨_,rfl,(zA HT).symm⟩,zC _ _⟩
 have e3:(o.k==3)=false:=by simpa using k3
 have e4:(o.k==4)=false:=by simpa using k4
 have e5:(o.k==5)=false:=by simpa using k5
 have HT:=zB (zIn (o:=o) (by omega))
 clear k1 k2 k6 k3 k4 k5
 go_enter Tryz.func93,Tryz.ntmps93
 go_wp2_with fail
 go_ret
 exact ⟨⟨_,rfl,zQ (zA HT)⟩,zC _ _⟩
theorem zOe:(Tryz.prog.info? 3).map (·.size)=some 1:=by kernel_rfl
theorem zFX (o:zD) (a:Option Addr) (cap:Nat) (w:World) :
  Calls Tryz.prog 92 #[.agg #[.int .i64 o.k,.string o.t,.int .i64 o.a,.int .i64 o.b],.slice a 0 cap] w fun e w'=>zCw e (o.a=0/\o.b=0)/\Below w.heap.size w w':=by
 have hcp:∀ W:World,(Builtin.copy_ #[79,79] 3 #[.slice (some ⟨w.heap.size+1,0,none⟩) 2 2,.slice a 0 cap]).run Tryz.prog W = .ok (goInt 0) W:=fun W=>run_copy_none W _ _ _ 3 _ _ _ _ _ _ Tryz.underlying79 zOe (by simp)
 have HC:=zB hcp
 clear hcp
 by_cases ha:o.a=0
 ·rw [ha]
  by_cases hb:o.b=0
  ·rw [hb]
   clear ha hb
   go_enter Tryz.func92,Tryz.ntmps92
   go_wp2
   rw [zA HC]
   simp only [Result.andThen]
   rw [Oper.upon_value]
   go_wp2
   go_ret
   exact ⟨⟨_,rfl,Zx (by simp)⟩,(zC _ _).alloc (by simp) _⟩
  ·have hb':(o.b==0)=false:=by simpa using hb
   clear ha
   go_enter Tryz.func92,Tryz.ntmps92
   go_wp2
   rw [zA HC]
   simp only [Result.andThen]
   rw [Oper.upon_value]
   go_wp2
   go_ret
   exact ⟨⟨_,rfl,zQ (fun h=>hb h.2)⟩,(zC _ _).alloc (by simp) _⟩
 ·have ha':(o.a==0)=false:=by simpa using ha
  go_enter Tryz.func92,Tryz.ntmps92
  go_wp2
  rw [zA HC]
  simp only [Result.andThen]
  rw [Oper.upon_value]
  go_wp2
  go_ret
  exact ⟨⟨_,rfl,zQ (fun h=>ha h.1)⟩,(zC _ _).alloc (by simp) _⟩
theorem zOf (o:zD) (g off cap:Nat) (t:Int) (w:World) (h0:w.cell? ⟨g,off,none⟩=some (.int .i64 t)) :
  Calls Tryz.prog 92 #[.agg #[.int .i64 o.k,.string o.t,.int .i64 o.a,.int .i64 o.b],.slice (some ⟨g,off,none⟩) 1 cap] w fun e w'=>zCw e (o.a=t/\o.b=0)/\Below w.heap.size w w':=by
 have HC:=zB (show ∀ (x y:Int),(Builtin.copy_ #[79,79] 3 #[.slice (some ⟨w.heap.size+1,0,none⟩) 2 2,.slice (some ⟨g,off,none⟩) 1 cap]).run Tryz.prog ((w.alloc (.cells #[.int .i64 o.k,.string o.t,.int .i64 x,.int .i64 y] 81)).alloc (.cells #[.int .i64 0,.int .i64 0] 209)) = .ok (goInt 1) (((w.alloc (.cells #[.int .i64 o.k,.string o.t,.int .i64 x,.int .i64 y] 81)).alloc (.cells #[.int .i64 0,.int .i64 0] 209)).setCells (w.heap.size+1) 0 [.int .i64 t]) from fun x y=>by
  have hlt:g<w.heap.size:=block_lt_of_cell h0
  have bel:Below w.heap.size w ((w.alloc (.cells #[.int .i64 o.k,.string o.t,.int .i64 x,.int .i64 y] 81)).alloc (.cells #[.int .i64 0,.int .i64 0] 209)):=(zC _ _).alloc (by simp) _
  exact run_copy_cells _ _ _ _ 3 _ _ _ _ _ _ _ [.int .i64 t] Tryz.underlying79 zOe rfl (fun j v hj=>by
   rw [Addr.add_mid]
   match j,hj with
   | 0,hj=>
    simp only [List.getElem?_cons_zero,Option.some.injEq] at hj
    rw [<- hj]
    exact (bel.cell (p:=⟨g,off,none⟩) hlt).trans h0) (fun j hj=>by simp at hj; subst hj; simp [go_sem]) (fun j hj=>by simp [go_sem]) (fun v hv=>by simp at hv; rw [hv]; rfl))
 clear h0
 by_cases ha:o.a=t
 ·rw [ha]
  by_cases hb:o.b=0
  ·rw [hb]
   clear ha hb
   go_enter Tryz.func92,Tryz.ntmps92
   go_wp2
   rw [zA HC]
   simp only [Result.andThen,World.setCells]
   rw [Oper.upon_value]
   go_wp2
   go_ret
   exact ⟨⟨_,rfl,Zx (by simp)⟩,(zC _ _).alloc (by simp) _⟩
  ·have hb':(o.b==0)=false:=by simpa using hb
   clear ha
   go_enter Tryz.func92,Tryz.ntmps92
   go_wp2
   rw [zA HC]
   simp only [Result.andThen,World.setCells]
   rw [Oper.upon_value]
   go_wp2
   go_ret
   exact ⟨⟨_,rfl,zQ (fun h=>hb h.2)⟩,(zC _ _).alloc (by simp) _⟩
 ·have ha':(o.a==t)=false:=by simpa using ha
  go_enter Tryz.func92,Tryz.ntmps92
  go_wp2
  rw [zA HC]
  simp only [Result.andThen,World.setCells]
  rw [Oper.upon_value]
  go_wp2
  go_ret
  exact ⟨⟨_,rfl,zQ (fun h=>ha h.1)⟩,(zC _ _).alloc (by simp) _⟩
theorem zOg (o:zD) (g off cap:Nat) (t t':Int) (w:World) (h0:w.cell? ⟨g,off,none⟩=some (.int .i64 t)) (h1:w.cell? ⟨g,off+1,none⟩=some (.int .i64 t')) :
  Calls Tryz.prog 92 #[.agg #[.int .i64 o.k,.string o.t,.int .i64 o.a,.int .i64 o.b],.slice (some ⟨g,off,none⟩) 2 cap] w fun e w'=>zCw e (o.a=t/\o.b=t')/\Below w.heap.size w w':=by
 have HC:=zB (show ∀ (x y:Int),(Builtin.copy_ #[79,79] 3 #[.slice (some ⟨w.heap.size+1,0,none⟩) 2 2,.slice (some ⟨g,off,none⟩) 2 cap]).run Tryz.prog ((w.alloc (.cells #[.int .i64 o.k,.string o.t,.int .i64 x,.int .i64 y] 81)).alloc (.cells #[.int .i64 0,.int .i64 0] 209)) = .ok (goInt 2) (((w.alloc (.cells #[.int .i64 o.k,.string o.t,.int .i64 x,.int .i64 y] 81)).alloc (.cells #[.int .i64 0,.int .i64 0] 209)).setCells (w.heap.size+1) 0 [.int .i64 t,.int .i64 t']) from fun x y=>by
  have hlt:g<w.heap.size:=block_lt_of_cell h0
  have bel:Below w.heap.size w ((w.alloc (.cells #[.int .i64 o.k,.string o.t,.int .i64 x,.int .i64 y] 81)).alloc (.cells #[.int .i64 0,.int .i64 0] 209)):=(zC _ _).alloc (by simp) _
  exact run_copy_cells _ _ _ _ 3 _ _ _ _ _ _ _ [.int .i64 t,.int .i64 t'] Tryz.underlying79 zOe rfl (fun j v hj=>by
   rw [Addr.add_mid]
   match j,hj with
   | 0,hj=>
    simp only [List.getElem?_cons_zero,Option.some.injEq] at hj
    rw [<- hj]
    exact (bel.cell (p:=⟨g,off,none⟩) hlt).trans h0
   | 1,hj=>
    simp only [List.getElem?_cons_succ,List.getElem?_cons_zero,Option.some.injEq] at hj
    rw [<- hj]
    exact (bel.cell (p:=⟨g,off+1,none⟩) hlt).trans h1) (fun j hj=>by simp at hj; rcases (by omega:j=0\/j=1) with rfl | rfl <;> simp [go_sem]) (fun j hj=>by simp [go_sem]) (fun v hv=>by simp at hv; rcases hv with rfl | rfl <;> rfl))
 clear h0 h1
 by_cases ha:o.a=t
 ·rw [ha]
  by_cases hb:o.b=t'
  ·rw [hb]
   clear ha hb
   go_enter Tryz.func92,Tryz.ntmps92
   go_wp2
   rw [zA HC]
   simp only [Result.andThen,World.setCells]
   rw [Oper.upon_value]
   go_wp2
   go_ret
   exact ⟨⟨_,rfl,Zx (by simp)⟩,(zC _ _).alloc (by simp) _⟩
  ·have hb':(o.b==t')=false:=by simpa using hb
   clear ha
   go_enter Tryz.func92,Tryz.ntmps92
   go_wp2
   rw [zA HC]
   simp only [Result.andThen,World.setCells]
   rw [Oper.upon_value]
   go_wp2
   go_ret
   exact ⟨⟨_,rfl,zQ (fun h=>hb h.2)⟩,(zC _ _).alloc (by simp) _⟩
 ·have ha':(o.a==t)=false:=by simpa using ha
  go_enter Tryz.func92,Tryz.ntmps92
  go_wp2
  rw [zA HC]
  simp only [Result.andThen,World.setCells]
  rw [Oper.upon_value]
  go_wp2
  go_ret
  exact ⟨⟨_,rfl,zQ (fun h=>ha h.1)⟩,(zC _ _).alloc (by simp) _⟩
end Go.Proofs.YtfboipappaonhaaGreat
