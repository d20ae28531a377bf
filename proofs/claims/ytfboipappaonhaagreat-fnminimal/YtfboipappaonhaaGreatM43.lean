import Derived.Laws.CopyOwn
import Derived.Test.YtfboipappaonhaaGreatM02
namespace Go.Proofs.YtfboipappaonhaaGreat
set_option maxHeartbeats 16000000
set_option maxRecDepth 100000
open Go.RowKit
def zFn (first:Nat) (s:ByteArray):Prop:=1 <= s.size /\ cls (bt s 0) = first /\ ∀ j,j < s.size -> zAv first (bt s j) = true
theorem zFo (first:Nat) (s:ByteArray) (w:World) (hs:s.size <= maxLen) :
  Calls Tryz.prog 139 #[.int .i64 (first:Int),.string s] w fun e w'=>zB3 e (zFn first s) /\ w' = w:=by
 unfold maxLen at hs
 by_cases h0:s.size = 0
 ·have HN:=zB (show ¬ zFn first s from fun h=>by have:=h.1; omega)
  obtain rfl:=zD3 h0
  go_enter Tryz.func139,Tryz.ntmps139
  go_wp2_with fail
  go_ret
  exact ⟨⟨_,rfl,zK (zA HN)⟩,rfl⟩
 have hne:=zD2 h0
 have h0I:(0:Int) < (s.size:Int):=by omega
 have h0N:0 < s.size:=by omega
 by_cases hc:cls (bt s 0) = first
 case neg=>
  have HN:=zB (show ¬ zFn first s from fun h=>hc h.2.1)
  have hb:=Zx h0N
  have hc':((cls s[0]:Int) != (first:Int)) = true:=by rw [hb]; simp; omega
  clear hb
  go_enter Tryz.func139,Tryz.ntmps139
  go_wp2_with (go_at_call 125; refine (Zd _ _).mono ?_; rintro e w' ⟨rfl,hx⟩; obtain rfl:=hx.symm)
  go_ret
  exact ⟨⟨_,rfl,zK (zA HN)⟩,rfl⟩
 have HC:=zB hc
 have hb:=Zx h0N
 have HX:=zB (show (cls s[0]:Int) = (first:Int) by rw [hb]; omega)
 clear hb hc
 go_enter Tryz.func139,Tryz.ntmps139
 go_wp2_with (go_at_call 125; refine (Zd _ _).mono ?_; rw [zA HX]; rintro e w' ⟨rfl,hx⟩; obtain rfl:=hx.symm)
 go_loop [17] (fun i=>∃ k:Nat,k <= s.size /\ i = .int .i64 (k:Int) /\ Hid (∀ j,j < k -> zAv first (bt s j) = true)) (fun i=>s.size - (intOf i).toNat)
 case atStart=>exact ⟨0,Nat.zero_le _,rfl,zB (fun j h=>by omega)⟩
 case round=>
  obtain ⟨k,hk,rfl,hn⟩:=hrel
  by_cases hlt:k < s.size
  ·have hltI:(k:Int) < (s.size:Int):=by omega
   cases hb:zAv first s[k]
   ·have Hb:=zB (show zAv first (bt s k) = false by rw [<- Zx hlt]; exact hb)
    go_wp2_with (go_at_call 159; refine (zBv _ _ _).mono ?_; rintro e w' ⟨rfl,hx⟩; obtain rfl:=hx.symm)
    go_ret
    exact ⟨⟨_,rfl,zK (fun h=>by have:=h.2.2 k hlt; rw [zA Hb] at this; cases this)⟩,rfl⟩
   ·have Hb:=zB (show zAv first (bt s k) = true by rw [<- Zx hlt]; exact hb)
    go_wp2_with (go_at_call 159; refine (zBv _ _ _).mono ?_; rintro e w' ⟨rfl,hx⟩; obtain rfl:=hx.symm)
    refine ⟨⟨k + 1,by omega,by go_num,zB (fun j hj=>?_)⟩,by simp [intOf]; omega⟩
    by_cases e:j = k
    ·subst e; exact zA Hb
    ·exact (zA hn) j (by omega)
  ·go_wp2_with fail
   go_ret
   exact ⟨⟨_,rfl,ZQ ⟨by omega,zA HC,fun j hj=>(zA hn) j (by omega)⟩⟩,rfl⟩
theorem zMg (s:ByteArray):zFn 2 s ↔ zJ1 s:=by
 unfold zFn zJ1 zAv
 constructor
 ·rintro ⟨h1,h2,h3⟩
  refine ⟨h1,fun j hj=>?_⟩
  have:=h3 j hj
  simpa using this
 ·rintro ⟨h1,h2⟩
  exact ⟨h1,h2 0 (by omega),fun j hj=>by simp [h2 j hj]⟩
theorem zMh (s:ByteArray):zFn 3 s ↔ zE0 s:=by
 unfold zFn zE0 zAv
 constructor
 ·rintro ⟨h1,h2,h3⟩
  refine ⟨h1,fun j hj=>?_⟩
  have:=h3 j hj
  simp at this
  by_cases e:j = 0
  ·subst e; exact Or.inl h2
  ·omega
 ·rintro ⟨h1,h2⟩
  refine ⟨h1,?_,fun j hj=>?_⟩
  ·have:=h2 0 (by omega); omega
  ·have:=h2 j hj; simp; omega
end Go.Proofs.YtfboipappaonhaaGreat
namespace Go.Proofs.YtfboipappaonhaaGreat
set_option linter.unusedVariables false
set_option maxHeartbeats 16000000
set_option maxRecDepth 100000
open Go.RowKit
theorem zHV (k:Int) (w:World) :
  Calls Tryz.prog 91 #[.int .i64 k] w fun e w'=>e = .returned (.int .i64 (zR k:Int)) /\ w' = w:=by
 by_cases h4:k = 4
 ·subst h4
  go_enter Tryz.func91,Tryz.ntmps91
  go_wp2
  go_ret
  exact ⟨zJ (by simp [zR]),rfl⟩
 by_cases h3:k = 3
 ·subst h3
  go_enter Tryz.func91,Tryz.ntmps91
  go_wp2
  go_ret
  exact ⟨zJ (by simp [zR]),rfl⟩
 by_cases h5:k = 5
 ·subst h5
  go_enter Tryz.func91,Tryz.ntmps91
  go_wp2
  go_ret
  exact ⟨zJ (by simp [zR]),rfl⟩
 by_cases h6:k = 6
 ·subst h6
  go_enter Tryz.func91,Tryz.ntmps91
  go_wp2
  go_ret
  exact ⟨zJ (by simp [zR]),rfl⟩
 have e4:(k == 4) = false:=by simpa using h4
 have e3:(k == 3) = false:=by simpa using h3
 have e5:(k == 5) = false:=by simpa using h5
 have e6:(k == 6) = false:=by simpa using h6
 have HK:=zB (show zR k = 0 by simp [zR,h4,h3,h5,h6])
 clear h4 h3 h5 h6
 go_enter Tryz.func91,Tryz.ntmps91
 go_wp2
 go_ret
 exact ⟨zJ (by rw [zA HK]; rfl),rfl⟩
theorem Zm {k:Int} {n:Nat} (h:zR k = n) (z:Int) (hz:(n:Int) = z) (w:World) :
  Calls Tryz.prog 91 #[.int .i64 k] w fun e w'=>e = .returned (.int .i64 z) /\ w' = w:=by
 subst hz
 subst h
 exact zHV k w
theorem zBI (o:zD) (w:World) (hs:o.t.size <= maxLen) :
  Calls Tryz.prog 93 #[.agg #[.int .i64 o.k,.string o.t,.int .i64 o.a,.int .i64 o.b]] w fun e w'=>zB3 e (Zk o) /\ Below w.heap.size w w':=by
 have HS:=zB hs
 unfold maxLen at hs
 by_cases hbig:20000 < o.t.size
 ·have hbigI:(20000:Int) < (o.t.size:Int):=by omega
  have HN:=zB (zGA hbig)
  clear hbig
  go_enter Tryz.func93,Tryz.ntmps93
  go_wp2_with fail
  go_ret
  exact ⟨⟨_,rfl,zK (zA HN)⟩,zC _ _⟩
 have hbigI:¬ (20000:Int) < (o.t.size:Int):=by omega
 have hsm:o.t.size <= 20000:=by omega
 clear hbig
 by_cases k1:o.k = 1
 ·have HT:=zB ((zJH hsm k1).trans (zMg _).symm)
  rw [k1]
  clear k1
  go_enter Tryz.func93,Tryz.ntmps93
  go_wp2_with (go_at_call 139; refine (zFo 2 _ _ (zA HS)).mono ?_; rintro e w' ⟨⟨v,rfl,hv⟩,hx⟩; obtain rfl:=hx.symm)
  go_ret
  exact ⟨⟨_,rfl,hv.trans (zA HT).symm⟩,zC _ _⟩
 by_cases k2:o.k = 2
 ·have HT:=zB ((zJI hsm k2).trans (zMh _).symm)
  rw [k2]
  clear k1 k2
  go_enter Tryz.func93,Tryz.ntmps93
  go_wp2_with (go_at_call 139; refine (zFo 3 _ _ (zA HS)).mono ?_; rintro e w' ⟨⟨v,rfl,hv⟩,hx⟩; obtain rfl:=hx.symm)
  go_ret
  exact ⟨⟨_,rfl,hv.trans (zA HT).symm⟩,zC _ _⟩
 by_cases k6:o.k = 6
 ·have HT:=zB (zJJ k6)
  rw [k6]
  clear k1 k2 k6
  by_cases h0:o.t.size = 0
  ·rw [zD3 h0]
   go_enter Tryz.func93,Tryz.ntmps93
   go_wp2_with fail
   go_ret
   exact ⟨⟨_,rfl,ZQ ((zA HT).2 h0)⟩,zC _ _⟩
  ·have hne:o.t.toList.isEmpty = false:=zD2 h0
   go_enter Tryz.func93,Tryz.ntmps93
   go_wp2_with fail
   go_ret
   exact ⟨⟨_,rfl,zK (fun h=>h0 ((zA HT).1 h))⟩,zC _ _⟩
 have e1:(o.k == 1) = false:=by simpa using k1
 have e2:(o.k == 2) = false:=by simpa using k2
 have e6:(o.k == 6) = false:=by simpa using k6
 by_cases k3:o.k = 3
 ·have HT:=zB (zEj hsm (Or.inl k3))
  rw [k3]
  clear k1 k2 k6 e1 e2 e6 k3
  go_enter Tryz.func93,Tryz.ntmps93
  go_wp2_with (go_at_call 140; refine (Zy _ _ (zA HS)).mono ?_; rintro e w' ⟨rfl,hx⟩; obtain rfl:=hx.symm)
  go_ret
  exact ⟨⟨_,rfl,(zA HT).symm⟩,zC _ _⟩
 by_cases k4:o.k = 4
 ·have HT:=zB (zEj hsm (Or.inr (Or.inl k4)))
  rw [k4]
  clear k1 k2 k6 e1 e2 e6 k3 k4
  go_enter Tryz.func93,Tryz.ntmps93
  go_wp2_with (go_at_call 140; refine (Zy _ _ (zA HS)).mono ?_; rintro e w' ⟨rfl,hx⟩; obtain rfl:=hx.symm)
  go_ret
  exact ⟨⟨_,rfl,(zA HT).symm⟩,zC _ _⟩
 by_cases k5:o.k = 5
 ·have HT:=zB (zEj hsm (Or.inr (Or.inr k5)))
  rw [k5]
  clear k1 k2 k6 e1 e2 e6 k3 k4 k5
  go_enter Tryz.func93,Tryz.ntmps93
  go_wp2_with (go_at_call 140; refine (Zy _ _ (zA HS)).mono ?_; rintro e w' ⟨rfl,hx⟩; obtain rfl:=hx.symm)
  go_ret
  exact ⟨⟨_,rfl,(zA HT).symm⟩,zC _ _⟩
 have e3:(o.k == 3) = false:=by simpa using k3
 have e4:(o.k == 4) = false:=by simpa using k4
 have e5:(o.k == 5) = false:=by simpa using k5
 have HT:=zB (zGl (o:=o) (by omega))
 clear k1 k2 k6 k3 k4 k5
 go_enter Tryz.func93,Tryz.ntmps93
 go_wp2_with fail
 go_ret
 exact ⟨⟨_,rfl,zK (zA HT)⟩,zC _ _⟩
theorem zLp:(Tryz.prog.info? 3).map (·.size) = some 1:=by kernel_rfl
theorem zDx (o:zD) (a:Option Addr) (cap:Nat) (w:World) :
  Calls Tryz.prog 92 #[.agg #[.int .i64 o.k,.string o.t,.int .i64 o.a,.int .i64 o.b],.slice a 0 cap] w fun e w'=>zB3 e (o.a = 0 /\ o.b = 0) /\ Below w.heap.size w w':=by
 have hcp:∀ W:World,(Builtin.copy_ #[79,79] 3 #[.slice (some ⟨w.heap.size + 1,0,none⟩) 2 2,.slice a 0 cap]).run Tryz.prog W = .ok (goInt 0) W:=fun W=>run_copy_none W _ _ _ 3 _ _ _ _ _ _ Tryz.underlying79 zLp (by simp)
 have HC:=zB hcp
 clear hcp
 by_cases ha:o.a = 0
 ·rw [ha]
  by_cases hb:o.b = 0
  ·rw [hb]
   clear ha hb
   go_enter Tryz.func92,Tryz.ntmps92
   go_wp2
   rw [zA HC]
   simp only [Result.andThen]
   rw [Oper.upon_value]
   go_wp2
   go_ret
   exact ⟨⟨_,rfl,ZQ (by simp)⟩,(zC _ _).alloc (by simp) _⟩
  ·have hb':(o.b == 0) = false:=by simpa using hb
   clear ha
   go_enter Tryz.func92,Tryz.ntmps92
   go_wp2
   rw [zA HC]
   simp only [Result.andThen]
   rw [Oper.upon_value]
   go_wp2
   go_ret
   exact ⟨⟨_,rfl,zK (fun h=>hb h.2)⟩,(zC _ _).alloc (by simp) _⟩
 ·have ha':(o.a == 0) = false:=by simpa using ha
  go_enter Tryz.func92,Tryz.ntmps92
  go_wp2
  rw [zA HC]
  simp only [Result.andThen]
  rw [Oper.upon_value]
  go_wp2
  go_ret
  exact ⟨⟨_,rfl,zK (fun h=>ha h.1)⟩,(zC _ _).alloc (by simp) _⟩
theorem zLq (o:zD) (g off cap:Nat) (t:Int) (w:World) (h0:w.cell? ⟨g,off,none⟩ = some (.int .i64 t)) :
  Calls Tryz.prog 92 #[.agg #[.int .i64 o.k,.string o.t,.int .i64 o.a,.int .i64 o.b],.slice (some ⟨g,off,none⟩) 1 cap] w fun e w'=>zB3 e (o.a = t /\ o.b = 0) /\ Below w.heap.size w w':=by
 have HC:=zB (show ∀ (x y:Int),(Builtin.copy_ #[79,79] 3 #[.slice (some ⟨w.heap.size + 1,0,none⟩) 2 2,.slice (some ⟨g,off,none⟩) 1 cap]).run Tryz.prog ((w.alloc (.cells #[.int .i64 o.k,.string o.t,.int .i64 x,.int .i64 y] 81)).alloc (.cells #[.int .i64 0,.int .i64 0] 209)) = .ok (goInt 1) (((w.alloc (.cells #[.int .i64 o.k,.string o.t,.int .i64 x,.int .i64 y] 81)).alloc (.cells #[.int .i64 0,.int .i64 0] 209)).setCells (w.heap.size + 1) 0 [.int .i64 t]) from fun x y=>by
  have hlt:g < w.heap.size:=block_lt_of_cell h0
  have bel:Below w.heap.size w ((w.alloc (.cells #[.int .i64 o.k,.string o.t,.int .i64 x,.int .i64 y] 81)).alloc (.cells #[.int .i64 0,.int .i64 0] 209)):=(zC _ _).alloc (by simp) _
  exact run_copy_cells _ _ _ _ 3 _ _ _ _ _ _ _ [.int .i64 t] Tryz.underlying79 zLp rfl (fun j v hj=>by
   rw [Addr.add_mid]
   match j,hj with
   | 0,hj=>
    simp only [List.getElem?_cons_zero,Option.some.injEq] at hj
    rw [<- hj]
    exact (bel.cell (p:=⟨g,off,none⟩) hlt).trans h0) (fun j hj=>by simp at hj; subst hj; simp [go_sem]) (fun j hj=>by simp [go_sem]) (fun v hv=>by simp at hv; rw [hv]; rfl))
 clear h0
 by_cases ha:o.a = t
 ·rw [ha]
  by_cases hb:o.b = 0
  ·rw [hb]
   clear ha hb
   go_enter Tryz.func92,Tryz.ntmps92
   go_wp2
   rw [zA HC]
   simp only [Result.andThen,World.setCells]
   rw [Oper.upon_value]
   go_wp2
   go_ret
   exact ⟨⟨_,rfl,ZQ (by simp)⟩,(zC _ _).alloc (by simp) _⟩
  ·have hb':(o.b == 0) = false:=by simpa using hb
   clear ha
   go_enter Tryz.func92,Tryz.ntmps92
   go_wp2
   rw [zA HC]
   simp only [Result.andThen,World.setCells]
   rw [Oper.upon_value]
   go_wp2
   go_ret
   exact ⟨⟨_,rfl,zK (fun h=>hb h.2)⟩,(zC _ _).alloc (by simp) _⟩
 ·have ha':(o.a == t) = false:=by simpa using ha
  go_enter Tryz.func92,Tryz.ntmps92
  go_wp2
  rw [zA HC]
  simp only [Result.andThen,World.setCells]
  rw [Oper.upon_value]
  go_wp2
  go_ret
  exact ⟨⟨_,rfl,zK (fun h=>ha h.1)⟩,(zC _ _).alloc (by simp) _⟩
theorem zLr (o:zD) (g off cap:Nat) (t t':Int) (w:World) (h0:w.cell? ⟨g,off,none⟩ = some (.int .i64 t)) (h1:w.cell? ⟨g,off + 1,none⟩ = some (.int .i64 t')) :
  Calls Tryz.prog 92 #[.agg #[.int .i64 o.k,.string o.t,.int .i64 o.a,.int .i64 o.b],.slice (some ⟨g,off,none⟩) 2 cap] w fun e w'=>zB3 e (o.a = t /\ o.b = t') /\ Below w.heap.size w w':=by
 have HC:=zB (show ∀ (x y:Int),(Builtin.copy_ #[79,79] 3 #[.slice (some ⟨w.heap.size + 1,0,none⟩) 2 2,.slice (some ⟨g,off,none⟩) 2 cap]).run Tryz.prog ((w.alloc (.cells #[.int .i64 o.k,.string o.t,.int .i64 x,.int .i64 y] 81)).alloc (.cells #[.int .i64 0,.int .i64 0] 209)) = .ok (goInt 2) (((w.alloc (.cells #[.int .i64 o.k,.string o.t,.int .i64 x,.int .i64 y] 81)).alloc (.cells #[.int .i64 0,.int .i64 0] 209)).setCells (w.heap.size + 1) 0 [.int .i64 t,.int .i64 t']) from fun x y=>by
  have hlt:g < w.heap.size:=block_lt_of_cell h0
  have bel:Below w.heap.size w ((w.alloc (.cells #[.int .i64 o.k,.string o.t,.int .i64 x,.int .i64 y] 81)).alloc (.cells #[.int .i64 0,.int .i64 0] 209)):=(zC _ _).alloc (by simp) _
  exact run_copy_cells _ _ _ _ 3 _ _ _ _ _ _ _ [.int .i64 t,.int .i64 t'] Tryz.underlying79 zLp rfl (fun j v hj=>by
   rw [Addr.add_mid]
   match j,hj with
   | 0,hj=>
    simp only [List.getElem?_cons_zero,Option.some.injEq] at hj
    rw [<- hj]
    exact (bel.cell (p:=⟨g,off,none⟩) hlt).trans h0
   | 1,hj=>
    simp only [List.getElem?_cons_succ,List.getElem?_cons_zero,Option.some.injEq] at hj
    rw [<- hj]
    exact (bel.cell (p:=⟨g,off + 1,none⟩) hlt).trans h1) (fun j hj=>by simp at hj; rcases (by omega:j = 0 \/ j = 1) with rfl | rfl <;> simp [go_sem]) (fun j hj=>by simp [go_sem]) (fun v hv=>by simp at hv; rcases hv with rfl | rfl <;> rfl))
 clear h0 h1
 by_cases ha:o.a = t
 ·rw [ha]
  by_cases hb:o.b = t'
  ·rw [hb]
   clear ha hb
   go_enter Tryz.func92,Tryz.ntmps92
   go_wp2
   rw [zA HC]
   simp only [Result.andThen,World.setCells]
   rw [Oper.upon_value]
   go_wp2
   go_ret
   exact ⟨⟨_,rfl,ZQ (by simp)⟩,(zC _ _).alloc (by simp) _⟩
  ·have hb':(o.b == t') = false:=by simpa using hb
   clear ha
   go_enter Tryz.func92,Tryz.ntmps92
   go_wp2
   rw [zA HC]
   simp only [Result.andThen,World.setCells]
   rw [Oper.upon_value]
   go_wp2
   go_ret
   exact ⟨⟨_,rfl,zK (fun h=>hb h.2)⟩,(zC _ _).alloc (by simp) _⟩
 ·have ha':(o.a == t) = false:=by simpa using ha
  go_enter Tryz.func92,Tryz.ntmps92
  go_wp2
  rw [zA HC]
  simp only [Result.andThen,World.setCells]
  rw [Oper.upon_value]
  go_wp2
  go_ret
  exact ⟨⟨_,rfl,zK (fun h=>ha h.1)⟩,(zC _ _).alloc (by simp) _⟩
end Go.Proofs.YtfboipappaonhaaGreat
