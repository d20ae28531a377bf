import Derived.Test.YtokabkhnidlcnacGreatDoorM12
import Derived.Test.YtokabkhnidlcnacGreatDoorM36
import Derived.Test.YtokabkhnidlcnacGreatDoorM48
namespace Go.Proofs.YtokabkhnidlcnacGreatDoor
set_option maxHeartbeats 16000000
set_option maxRecDepth 100000
open Go.RowKit
theorem zN5 (o:zD) (w:World) :
  Calls Tryz.prog 105 #[.agg #[.int .i64 o.k,.string o.t,.int .i64 o.a,.int .i64 o.b],.agg #[.int .i64 o.k,.string o.t,.int .i64 o.a,.int .i64 o.b]] w fun e w'=>e = .returned (.bool true) /\ Below w.heap.size w w':=by
 go_enter Tryz.func105,Tryz.ntmps105
 go_wp2
 go_ret
 exact ⟨rfl,(zC _ _).alloc (by simp) _⟩
theorem zMP (b off b' off' cap cap':Nat) (xs:List zD) (w:World) (hm:xs.length <= 1048576) (h:zH8 w b off xs) (h':zH8 w b' off' xs) (hB:b < w.heap.size) (hB':b' < w.heap.size) :
  Calls Tryz.prog 58 #[.slice (some ⟨b,off,none⟩) xs.length cap,.slice (some ⟨b',off',none⟩) xs.length cap'] w fun e w'=>e = .returned (.bool true) /\ Below w.heap.size w w':=by
 go_enter Tryz.func58,Tryz.ntmps58
 go_wp2
 go_loopw [5] (fun i wr=>∃ k:Nat,k <= xs.length /\ i = .int .i64 k /\ Below w.heap.size w wr) (fun i _=>xs.length - (intOf i).toNat)
 case atStart=>exact ⟨0,Nat.zero_le _,rfl,Below.refl _ _⟩
 case round=>
  obtain ⟨k,hk,rfl,hbel⟩:=hrel
  by_cases hlt:k < xs.length
  ·obtain ⟨a0,a1,a2,a3⟩:=(h k hlt).below hbel hB
   obtain ⟨c0,c1,c2,c3⟩:=(h' k hlt).below hbel hB'
   have hltI:(k:Int) < (xs.length:Int):=by omega
   have zb:b < wr.heap.size:=Nat.lt_of_lt_of_le hB hbel.size
   have zb':b' < wr.heap.size:=Nat.lt_of_lt_of_le hB' hbel.size
   go_wp2_with fail
   go_region_held (fun w'=>w'.cell? ⟨b,off + k * 4,none⟩ = some (.int .i64 (atN xs k).k) /\ w'.cell? ⟨b,off + k * 4 + 1,none⟩ = some (.string (atN xs k).t) /\ w'.cell? ⟨b,off + k * 4 + 2,none⟩ = some (.int .i64 (atN xs k).a) /\ w'.cell? ⟨b,off + k * 4 + 3,none⟩ = some (.int .i64 (atN xs k).b) /\ w'.cell? ⟨b',off' + k * 4,none⟩ = some (.int .i64 (atN xs k).k) /\ w'.cell? ⟨b',off' + k * 4 + 1,none⟩ = some (.string (atN xs k).t) /\ w'.cell? ⟨b',off' + k * 4 + 2,none⟩ = some (.int .i64 (atN xs k).a) /\ w'.cell? ⟨b',off' + k * 4 + 3,none⟩ = some (.int .i64 (atN xs k).b)) (go_keep)
    (first | (go_at_call 105; refine (zN5 (atN xs k) _).mono ?_; rintro e w1 ⟨rfl,hb1⟩; have q0:=(hb1.cell (p:=⟨b,off + k * 4,none⟩) zb).trans (show wr.drew.cell? ⟨b,off + k * 4,none⟩ = _ from a0); have q1:=(hb1.cell (p:=⟨b,off + k * 4 + 1,none⟩) zb).trans (show wr.drew.cell? ⟨b,off + k * 4 + 1,none⟩ = _ from a1); have q2:=(hb1.cell (p:=⟨b,off + k * 4 + 2,none⟩) zb).trans (show wr.drew.cell? ⟨b,off + k * 4 + 2,none⟩ = _ from a2); have q3:=(hb1.cell (p:=⟨b,off + k * 4 + 3,none⟩) zb).trans (show wr.drew.cell? ⟨b,off + k * 4 + 3,none⟩ = _ from a3); have p0:=(hb1.cell (p:=⟨b',off' + k * 4,none⟩) zb').trans (show wr.drew.cell? ⟨b',off' + k * 4,none⟩ = _ from c0); have p1:=(hb1.cell (p:=⟨b',off' + k * 4 + 1,none⟩) zb').trans (show wr.drew.cell? ⟨b',off' + k * 4 + 1,none⟩ = _ from c1); have p2:=(hb1.cell (p:=⟨b',off' + k * 4 + 2,none⟩) zb').trans (show wr.drew.cell? ⟨b',off' + k * 4 + 2,none⟩ = _ from c2); have p3:=(hb1.cell (p:=⟨b',off' + k * 4 + 3,none⟩) zb').trans (show wr.drew.cell? ⟨b',off' + k * 4 + 3,none⟩ = _ from c3)))
   go_wp2
   exact ⟨⟨k + 1,by omega,by go_num,hbel.trans (((Below.refl _ _).drew.trans hb1).mono hbel.size)⟩,by simp [intOf]; omega⟩
  ·go_wp2
   go_ret
   exact ⟨rfl,hbel⟩
theorem zN6 (a a':Option Addr) (cap cap':Nat) (xs:List zD) (w:World) (hm:xs.length <= 1048576) (h:zEl w a xs) (h':zEl w a' xs) :
  Calls Tryz.prog 58 #[.slice a xs.length cap,.slice a' xs.length cap'] w fun e w'=>e = .returned (.bool true) /\ Below w.heap.size w w':=by
 by_cases h0:xs.length = 0
 ·obtain rfl:=List.eq_nil_of_length_eq_zero h0
  clear h h' h0 hm
  go_enter Tryz.func58,Tryz.ntmps58
  go_wp2
  refine wp_loop_rounds 1 ?_
  rw [rounds_succ]
  go_wp2
  go_ret
  exact ⟨rfl,Below.refl _ _⟩
 ·rcases h with h | ⟨b,off,rfl,h1,h2⟩
  ·exact absurd h h0
  ·rcases h' with h' | ⟨b',off',rfl,h1',h2'⟩
   ·exact absurd h' h0
   ·exact zMP b off b' off' cap cap' xs w hm h1 h1' h2 h2'
def mkN (c:Nat):zD:=⟨(c:Int),MT (c + 1),(c:Int) + 1 + 1,(c:Int) + 1 + 1 + 1⟩
def zFd (k n:Nat):List zD:=(List.range n).map fun i=>mkN (k + 4 * i)
theorem zJ5 (k n:Nat):(zFd k n).length = n:=by simp [zFd]
theorem zLg {k n i:Nat} (h:i < n):atN (zFd k n) i = mkN (k + 4 * i):=by simp [atN,zFd,h]
def zCZ (w:World) (g:Nat) (xs:List zD) (n m:Nat):Prop:=zh w g xs n /\ ∀ j v,j < m -> [.int .i64 (atN xs n).k,.string (atN xs n).t,.int .i64 (atN xs n).a,.int .i64 (atN xs n).b][j]? = some v -> w.cell? ⟨g,n * 4 + j,none⟩ = some v
theorem zCZ.start {w:World} {g n:Nat} {xs:List zD} (h:zh w g xs n):zCZ w g xs n 0:=⟨h,fun j _ hj=>absurd hj (Nat.not_lt_zero j)⟩
theorem zCZ.below {w w':World} {g n m:Nat} {xs:List zD} {B:Nat} (h:zCZ w g xs n m) (hb:Below B w w') (hB:g < B):zCZ w' g xs n m:=
 ⟨h.1.below hb hB,fun j v hj hv=>(hb.cell (p:=⟨g,_,none⟩) hB).trans (h.2 j v hj hv)⟩
theorem zCZ.set {w:World} {g n m:Nat} {xs:List zD} (h:zCZ w g xs n m) (hn:n < xs.length) (hm:m < 4) {v:Value} (hv:[.int .i64 (atN xs n).k,.string (atN xs n).t,.int .i64 (atN xs n).a,.int .i64 (atN xs n).b][m]? = some v):zCZ (w.setCell ⟨g,n * 4 + m,none⟩ v) g xs n (m + 1):=by
 obtain ⟨⟨h1,h2,h3⟩,h4⟩:=h
 obtain ⟨u,hu⟩:=Option.isSome_iff_exists.1 (h2 (n * 4 + m) (by omega)).1
 rw [Nat.zero_add] at hu
 have oth:∀ o,o ≠ n * 4 + m -> (w.setCell ⟨g,n * 4 + m,none⟩ v).cell? ⟨g,o,none⟩ = w.cell? ⟨g,o,none⟩:=fun o ho=>World.cell?_setCell_other _ _ _ _ (fun e=>ho (by injection e with _ e; exact e.symm))
 refine ⟨⟨by simpa [World.setCell] using h1,fun j hj=>⟨?_,?_⟩,fun i hi=>?_⟩,fun j u' hj hu'=>?_⟩
 ·by_cases e:0 + j = n * 4 + m
  ·rw [e,World.cell?_setCell_same _ _ _ hu]; rfl
  ·rw [oth _ e]; exact (h2 j hj).1
 ·rw [World.frozen?_setCell]; exact (h2 j hj).2
 ·obtain ⟨a0,a1,a2,a3⟩:=h3 i hi
  exact ⟨(oth _ (by omega)).trans a0,(oth _ (by omega)).trans a1,(oth _ (by omega)).trans a2,(oth _ (by omega)).trans a3⟩
 ·by_cases e:j = m
  ·subst e
   rw [hv] at hu'
   injection hu' with hu'
   subst hu'
   exact World.cell?_setCell_same _ _ _ hu
  ·rw [oth _ (by omega)]
   exact h4 j u' (by omega) hu'
theorem zCZ.done {w:World} {g n:Nat} {xs:List zD} (h:zCZ w g xs n 4):zh w g xs (n + 1):=by
 obtain ⟨⟨h1,h2,h3⟩,h4⟩:=h
 refine ⟨h1,h2,fun i hi=>?_⟩
 by_cases e:i = n
 ·subst e
  exact ⟨by simpa using h4 0 _ (by omega) rfl,by simpa using h4 1 _ (by omega) rfl,by simpa using h4 2 _ (by omega) rfl,by simpa using h4 3 _ (by omega) rfl⟩
 ·exact h3 i (by omega)
theorem zCZ.cell {w:World} {g n m:Nat} {xs:List zD} (h:zCZ w g xs n m) (hn:n < xs.length) (j:Nat) (hj:j < 4):(∃ u,w.cell? ⟨g,n * 4 + j,none⟩ = some u) /\ w.frozen? ⟨g,n * 4 + j,none⟩ = false:=by
 have:=h.1.2.1 (n * 4 + j) (by omega)
 rw [Nat.zero_add] at this
 exact ⟨Option.isSome_iff_exists.1 this.1,this.2⟩
structure zBK (w w':World) (g:Nat):Prop where
 os:w'.os = w.os
 tape:w'.tape = w.tape
 output:w'.output = w.output
 size:w.heap.size <= w'.heap.size
 block:∀ i,i < w.heap.size -> i ≠ g -> w'.heap[i]? = w.heap[i]?
theorem zBK.refl (w:World) (g:Nat):zBK w w g:=⟨rfl,rfl,rfl,Nat.le_refl _,fun _ _ _=>rfl⟩
theorem zBK.trans {w w1 w2:World} {g:Nat} (h:zBK w w1 g) (h':zBK w1 w2 g):zBK w w2 g:=
 ⟨h'.os.trans h.os,h'.tape.trans h.tape,h'.output.trans h.output,Nat.le_trans h.size h'.size,fun i hi a=>(h'.block i (Nat.lt_of_lt_of_le hi h.size) a).trans (h.block i hi a)⟩
theorem zBK.below {w w1 w2:World} {g:Nat} (h:zBK w w1 g) (h':Below w1.heap.size w1 w2):zBK w w2 g:=h.trans ⟨h'.os,h'.tape,h'.output,h'.size,fun i hi _=>h'.block i hi⟩
theorem zBK.set {w w1:World} {g:Nat} (h:zBK w w1 g) (o:Nat) (v:Value):zBK w (w1.setCell ⟨g,o,none⟩ v) g:=
 h.trans ⟨rfl,rfl,rfl,by simp [World.setCell],fun _ _ hi=>Below.heap_setCell _ _ _ _ hi⟩
theorem zBK.grown {w w':World} {g:Nat} (h:zBK w w' g):w.grownBy w' (some g):=⟨h.os,h.tape,h.output,h.size,fun i hi e=>h.block i hi (fun x=>e (by rw [x]))⟩
theorem zKw (g cap k:Nat) (xs:List zD) (w:World) (hm:xs.length <= 1048576) (h1:1 <= k) (hk:k <= 10000000) (hw:zh w g xs xs.length) :
  Calls Tryz.prog 28 #[.slice (some ⟨g,0,none⟩) xs.length cap,.int .i64 (k:Int)] w fun e w'=>(∃ k':Nat,e = .returned (.int .i64 (k':Int)) /\ Hid (k' = k + 4 * xs.length)) /\ Hid (zh w' g (zFd k xs.length) xs.length) /\ Hid (zBK w w' g):=by
 have hw0:=zB (hw.anew (zJ5 k xs.length).symm)
 clear hw
 go_enter Tryz.func28,Tryz.ntmps28
 go_wp2
 go_loopw [1,5] (fun kk i wr=>∃ n c:Nat,n <= xs.length /\ i = .int .i64 (n:Int) /\ kk = .int .i64 (c:Int) /\ 1 <= c /\ c <= 100000000 /\ Hid (c = k + 4 * n) /\ Hid (zh wr g (zFd k xs.length) n) /\ Hid (zBK w wr g)) (fun _ i _=>xs.length - (intOf i).toNat)
 case atStart=>exact ⟨0,k,Nat.zero_le _,rfl,rfl,h1,by omega,zB (by omega),hw0,zB (zBK.refl _ _)⟩
 case round=>
  clear hw0
  obtain ⟨n,c,hn,rfl,rfl,hc1,hc2,hc,hf,hkp⟩:=hrel
  by_cases hlt:n < xs.length
  ·have hln:n < (zFd k xs.length).length:=by rw [zJ5]; exact hlt
   have hat:=zB (show atN (zFd k xs.length) n = mkN c by rw [zLg hlt,zA hc])
   have hP0:=zB (zCZ.start (zA hf))
   have hgl:=(zA hf).1
   clear hf
   obtain ⟨⟨u0_0,e0_0⟩,f0_0⟩:=(zA hP0).cell hln 0 (by omega)
   obtain ⟨⟨u0_1,e0_1⟩,f0_1⟩:=(zA hP0).cell hln 1 (by omega)
   obtain ⟨⟨u0_2,e0_2⟩,f0_2⟩:=(zA hP0).cell hln 2 (by omega)
   obtain ⟨⟨u0_3,e0_3⟩,f0_3⟩:=(zA hP0).cell hln 3 (by omega)
   simp only [Nat.add_zero] at e0_0 f0_0
   have hP0x:=zB ((zA hP0).set hln (by omega) (m:=0) (v:=.int .i64 ((c:Int))) (by rw [zA hat]; rfl))
   have hkpx:=zB ((zA hkp).set (n * 4 + 0) (.int .i64 ((c:Int))))
   clear hP0 hkp
   go_wp2_with fail
   refine (zBX _ (c + 1) _ (by omega) (by omega) (by omega)).mono ?_
   rintro e w1 ⟨rfl,hb1⟩
   have hP1:=zB ((zA hP0x).below hb1 (zA hP0x).1.1)
   have hK1:=zB ((zA hkpx).below hb1)
   clear hP0x hkpx hb1 e0_0 f0_0 e0_1 f0_1 e0_2 f0_2 e0_3 f0_3
   obtain ⟨⟨u1_0,e1_0⟩,f1_0⟩:=(zA hP1).cell hln 0 (by omega)
   obtain ⟨⟨u1_1,e1_1⟩,f1_1⟩:=(zA hP1).cell hln 1 (by omega)
   obtain ⟨⟨u1_2,e1_2⟩,f1_2⟩:=(zA hP1).cell hln 2 (by omega)
   obtain ⟨⟨u1_3,e1_3⟩,f1_3⟩:=(zA hP1).cell hln 3 (by omega)
   simp only [Nat.add_zero] at e1_0 f1_0
   have hP1x:=zB ((zA hP1).set hln (by omega) (m:=1) (v:=.string (MT (c + 1))) (by rw [zA hat]; rfl))
   have hK1x:=zB ((zA hK1).set (n * 4 + 1) (.string (MT (c + 1))))
   clear hP1 hK1
   have hP1xx:=zB ((zA hP1x).set hln (by omega) (m:=2) (v:=.int .i64 ((c:Int) + 1 + 1)) (by rw [zA hat]; rfl))
   have hK1xx:=zB ((zA hK1x).set (n * 4 + 2) (.int .i64 ((c:Int) + 1 + 1)))
   clear hP1x hK1x
   have hP1xxx:=zB ((zA hP1xx).set hln (by omega) (m:=3) (v:=.int .i64 ((c:Int) + 1 + 1 + 1)) (by rw [zA hat]; rfl))
   have hK1xxx:=zB ((zA hK1xx).set (n * 4 + 3) (.int .i64 ((c:Int) + 1 + 1 + 1)))
   clear hP1xx hK1xx
   go_wp2_with fail
   refine ⟨⟨n + 1,c + 4,by omega,by go_num,by go_num,by omega,?_,zB ?_,zB (zA hP1xxx).done,hK1xxx⟩,by simp [intOf]; omega⟩
   ·have:=zA hc; omega
   ·have:=zA hc; omega
  ·have hnn:n = xs.length:=by omega
   have HF:zh wr g (zFd k xs.length) xs.length:=by
    have:=zA hf
    rw [hnn] at this
    exact this
   have HF':=zB HF
   have HC:=zB (show c = k + 4 * xs.length by have:=zA hc; omega)
   clear HF hnn hc
   go_wp2
   go_ret
   exact ⟨⟨c,rfl,HC⟩,HF',hkp⟩
theorem zKx (g cap k n:Nat) (w:World) (hm:n <= 1048576) (h1:1 <= k) (hk:k <= 10000000) (hw:zh w g (zFd k n) n) :
  Calls Tryz.prog 29 #[.slice (some ⟨g,0,none⟩) n cap,.int .i64 (k:Int)] w fun e w'=>(∃ k':Nat,e = .returned (.int .i64 (k':Int)) /\ Hid (k' = k + 4 * n)) /\ Below w.heap.size w w':=by
 have hw0:=zB hw
 clear hw
 go_enter Tryz.func29,Tryz.ntmps29
 go_wp2
 go_loopw [1,5] (fun kk i wr=>∃ m c:Nat,m <= n /\ i = .int .i64 (m:Int) /\ kk = .int .i64 (c:Int) /\ 1 <= c /\ c <= 100000000 /\ Hid (c = k + 4 * m) /\ Below w.heap.size w wr) (fun _ i _=>n - (intOf i).toNat)
 case atStart=>exact ⟨0,k,Nat.zero_le _,rfl,rfl,h1,by omega,zB (by omega),Below.refl _ _⟩
 case round=>
  obtain ⟨m,c,hmn,rfl,rfl,hc1,hc2,hc,hbel⟩:=hrel
  by_cases hlt:m < n
  ·have hcell:=(((zA hw0).2.2 m hlt).below hbel (zA hw0).1)
   have hat:atN (zFd k n) m = mkN c:=by rw [zLg hlt,zA hc]
   have z0:g < wr.heap.size:=Nat.lt_of_lt_of_le (zA hw0).1 hbel.size
   unfold zEk at hcell
   rw [hat] at hcell
   simp only [mkN,Nat.zero_add] at hcell
   obtain ⟨q0_0,q0_1,q0_2,q0_3⟩:=hcell
   have hltI:(m:Int) < (n:Int):=by omega
   have B0:=hbel
   clear hat
   go_wp2_with fail
   go_region_held (fun w'=>w'.cell? ⟨g,m * 4,none⟩ = some (.int .i64 ((c:Int))) /\ w'.cell? ⟨g,m * 4 + 1,none⟩ = some (.string (MT (c + 1))) /\ w'.cell? ⟨g,m * 4 + 2,none⟩ = some (.int .i64 ((c:Int) + 1 + 1)) /\ w'.cell? ⟨g,m * 4 + 3,none⟩ = some (.int .i64 ((c:Int) + 1 + 1 + 1))) (go_keep)
    (first | (go_at_call 27; refine (zBX _ (c + 1) _ (by omega) (by omega) (by omega)).mono ?_; rintro e w1 ⟨rfl,hb1⟩; have q1_0:=(hb1.cell (p:=⟨g,m * 4,none⟩) z0).trans (show wr.drew.cell? ⟨g,m * 4,none⟩ = _ from q0_0); have q1_1:=(hb1.cell (p:=⟨g,m * 4 + 1,none⟩) z0).trans (show wr.drew.cell? ⟨g,m * 4 + 1,none⟩ = _ from q0_1); have q1_2:=(hb1.cell (p:=⟨g,m * 4 + 2,none⟩) z0).trans (show wr.drew.cell? ⟨g,m * 4 + 2,none⟩ = _ from q0_2); have q1_3:=(hb1.cell (p:=⟨g,m * 4 + 3,none⟩) z0).trans (show wr.drew.cell? ⟨g,m * 4 + 3,none⟩ = _ from q0_3)))
   have z1:g < w1.heap.size:=Nat.lt_of_lt_of_le z0 hb1.size
   have B1:=B0.trans (((Below.refl wr.heap.size wr).drew.trans hb1).mono B0.size)
   clear q0_0 q0_1 q0_2 q0_3 hb1 z0
   go_wp2
   refine ⟨⟨m + 1,c + 4,by omega,by go_num,by go_num,by omega,?_,zB ?_,B1⟩,by simp [intOf]; omega⟩
   ·have:=zA hc; omega
   ·have:=zA hc; omega
  ·have HC:=zB (show c = k + 4 * n by have:=zA hc; omega)
   clear hc
   go_wp2
   go_ret
   exact ⟨⟨c,rfl,HC⟩,hbel⟩
end Go.Proofs.YtokabkhnidlcnacGreatDoor
namespace Go.Proofs.YtokabkhnidlcnacGreatDoor
set_option linter.unusedSimpArgs false
set_option linter.unusedVariables false
set_option maxHeartbeats 16000000
set_option maxRecDepth 100000
open Go.RowKit
def zHv (w:World) (v:Value) (out:List (List zD)):Prop:=∃ a c,v = .slice a out.length c /\ (out.length = 0 \/ ∃ g,a = some ⟨g,0,none⟩ /\ g < w.heap.size /\ ∀ i,i < out.length -> ∃ x d,w.cell? ⟨g,i,none⟩ = some (.slice x (zAM out i).length d) /\ zEl w x (zAM out i))
theorem zHv.below {w w':World} {v:Value} {out:List (List zD)} (h:zHv w v out) (hb:Below w.heap.size w w'):zHv w' v out:=by
 obtain ⟨a,c,rfl,h⟩:=h
 refine ⟨a,c,rfl,h.imp id ?_⟩
 rintro ⟨g,rfl,h1,h2⟩
 refine ⟨g,rfl,Nat.lt_of_lt_of_le h1 hb.size,fun i hi=>?_⟩
 obtain ⟨x,d,h3,h4⟩:=h2 i hi
 exact ⟨x,d,(hb.cell (p:=⟨g,i,none⟩) h1).trans h3,h4.below hb⟩
theorem zEY.at' {w:World} {B:Nat} {v:Value} {out:List (List zD)} (h:zEY w B v out):zHv w v out:=by
 obtain ⟨⟨a,c,rfl⟩,h0 | ⟨g,c',ta,tc,_,e,h⟩⟩:=h
 ·exact ⟨a,c,rfl,Or.inl h0⟩
 ·injection e with e1 e2 e3
  subst e1
  exact ⟨_,c,rfl,Or.inr ⟨g,rfl,h.hg,fun i hi=>⟨ta i,tc i,h.ce i hi,(h.ro i hi).arg⟩⟩⟩
theorem zMQ (a a':Option Addr) (cap cap':Nat) (xs:List zD) (w:World) (hm:xs.length <= 1048576) (h:zEl w a xs) (h':zEl w a' xs) :
  Calls Tryz.prog 25 #[.agg #[.slice a xs.length cap],.agg #[.slice a' xs.length cap']] w fun e w'=>e = .returned (.bool true) /\ Below w.heap.size w w':=by
 have H:=zB (fun o1 o2=>(h.alloc o1).alloc o2)
 have H':=zB (fun o1 o2=>(h'.alloc o1).alloc o2)
 clear h h'
 go_enter Tryz.func25,Tryz.ntmps25
 go_wp2_with fail
 refine (zN6 a a' cap cap' xs _ hm (zA H _ _) (zA H' _ _)).mono ?_
 rintro e w1 ⟨rfl,hb⟩
 go_wp2_with fail
 go_ret
 exact ⟨rfl,((zC _ _).alloc (by simp) _).trans (hb.mono (by simp; omega))⟩
theorem zDw (v v':Value) (out:List (List zD)) (w:World) (hn:out.length <= 1048576) (hm:∀ o ∈ out,o.length <= 1048576) (h:zHv w v out) (h':zHv w v' out) :
  Calls Tryz.prog 9 #[v,v'] w fun e w'=>e = .returned (.bool true) /\ Below w.heap.size w w':=by
 have HT:=zB h
 have HT':=zB h'
 have HM:=zB hm
 obtain ⟨a,c,rfl,_⟩:=h
 obtain ⟨a',c',rfl,_⟩:=h'
 clear hm
 go_enter Tryz.func9,Tryz.ntmps9
 go_wp2_with fail
 go_loopw [5] (fun i wr=>∃ k:Nat,k <= out.length /\ i = .int .i64 (k:Int) /\ Below w.heap.size w wr) (fun i _=>out.length - (intOf i).toNat)
 case atStart=>exact ⟨0,Nat.zero_le _,rfl,Below.refl _ _⟩
 case round=>
  obtain ⟨k,hk,rfl,hbel⟩:=hrel
  by_cases hlt:k < out.length
  ·have hltI:(k:Int) < (out.length:Int):=by omega
   obtain ⟨a1,c1,e1,t1⟩:=(zA HT).below hbel
   obtain ⟨a2,c2,e2,t2⟩:=(zA HT').below hbel
   obtain ⟨rfl,rfl⟩:a = a1 /\ c = c1:=by injection e1 with x _ y; exact ⟨x,y⟩
   obtain ⟨rfl,rfl⟩:a' = a2 /\ c' = c2:=by injection e2 with x _ y; exact ⟨x,y⟩
   rcases t1 with t1 | ⟨g,rfl,hg,hc⟩
   ·omega
   rcases t2 with t2 | ⟨g',rfl,hg',hc'⟩
   ·omega
   obtain ⟨x,d,x0,hx⟩:=hc k hlt
   obtain ⟨y,d',y0,hy⟩:=hc' k hlt
   have HX2:=zB (zMQ x y d d' (zAM out k) wr.drew ((zA HM) _ (zEX hlt)) (hx.below (Below.refl _ _).drew) (hy.below (Below.refl _ _).drew))
   clear e1 e2 hc hc' hx hy
   go_wp2_with fail
   go_region_with (first | (go_at_call 25; (with_reducible refine (zA HX2).mono ?_); rintro e w1 ⟨rfl,hb1⟩; have HB1:=zB (show Below w.heap.size w w1 from hbel.drew.trans (hb1.mono hbel.size)); clear hb1))
   all_goals go_wp2_with fail
   all_goals exact ⟨⟨k + 1,by omega,by go_num,zA HB1⟩,by simp [intOf]; omega⟩
  ·go_wp2
   go_ret
   exact ⟨rfl,hbel⟩
def mkT (k:Nat) (out:List (List zD)):Nat -> Nat
 | 0=>k
 | i + 1=>mkT k out i + 4 * (zAM out i).length
theorem zE3 (k:Nat) (out:List (List zD)):∀ i j,i <= j -> mkT k out i <= mkT k out j
 | i,0,h=>by
  obtain rfl:i = 0:=by omega
  exact Nat.le_refl _
 | i,j + 1,h=>by
  by_cases e:i = j + 1
  ·rw [e]; exact Nat.le_refl _
  ·have:=zE3 k out i j (by omega)
   show _ <= mkT k out j + _
   omega
theorem zLh (k:Nat) (out:List (List zD)) (h:∀ o ∈ out,o.length <= 20001):∀ i,i <= out.length -> mkT k out i <= k + 80004 * i
 | 0,_=>Nat.le_refl _
 | i + 1,hi=>by
  have h1:=zLh k out h i (by omega)
  have h2:(zAM out i).length <= 20001:=h _ (zEX (by omega))
  show mkT k out i + 4 * (zAM out i).length <= _
  omega
def zFQ (w:World) (a:Option Addr) (k n:Nat):Prop:=(n = 0 /\ a = none) \/ ∃ g,a = some ⟨g,0,none⟩ /\ zh w g (zFd k n) n
theorem zFQ.grown {w w':World} {a:Option Addr} {k n:Nat} {row:Option Nat} (h:zFQ w a k n) (hg:w.grownBy w' row) (hne:∀ q,a.map (·.block) = some q -> some q ≠ row):zFQ w' a k n:=by
 rcases h with h | ⟨g,rfl,hf⟩
 ·exact Or.inl h
 ·exact Or.inr ⟨g,rfl,hf.grown hg (hne g rfl)⟩
theorem zKy (a:Option Addr) (cap B k:Nat) (xs:List zD) (w:World) (hm:xs.length <= 1048576) (h1:1 <= k) (hk:k <= 10000000) (h:zv w B a xs) :
  Calls Tryz.prog 28 #[.slice a xs.length cap,.int .i64 (k:Int)] w fun e w'=>e = .returned (.int .i64 ((k + 4 * xs.length:Nat):Int)) /\ zFQ w' a k xs.length /\ w.grownBy w' (a.map (·.block)):=by
 rcases h with ⟨h0,rfl⟩ | ⟨g,rfl,_,hf⟩
 ·obtain rfl:=List.eq_nil_of_length_eq_zero h0
  go_enter Tryz.func28,Tryz.ntmps28
  go_wp2
  refine wp_loop_rounds 1 ?_
  rw [rounds_succ]
  go_wp2
  go_ret
  exact ⟨rfl,Or.inl ⟨rfl,rfl⟩,zF (Below.refl _ _) _⟩
 ·refine (zKw g cap k xs w hm h1 hk hf).mono ?_
  rintro e w1 ⟨⟨k',rfl,hk'⟩,hf1,hk1⟩
  exact ⟨by rw [zA hk'],Or.inr ⟨g,rfl,zA hf1⟩,(zA hk1).grown⟩
theorem zKz (a:Option Addr) (cap k n:Nat) (w:World) (hm:n <= 1048576) (h1:1 <= k) (hk:k <= 10000000) (h:zFQ w a k n) :
  Calls Tryz.prog 29 #[.slice a n cap,.int .i64 (k:Int)] w fun e w'=>e = .returned (.int .i64 ((k + 4 * n:Nat):Int)) /\ Below w.heap.size w w':=by
 rcases h with ⟨rfl,rfl⟩ | ⟨g,rfl,hf⟩
 ·go_enter Tryz.func29,Tryz.ntmps29
  go_wp2
  refine wp_loop_rounds 1 ?_
  rw [rounds_succ]
  go_wp2
  go_ret
  exact ⟨rfl,Below.refl _ _⟩
 ·refine (zKx g cap k n w hm h1 hk hf).mono ?_
  rintro e w1 ⟨⟨k',rfl,hk'⟩,hb⟩
  exact ⟨by rw [zA hk'],hb⟩
def zE4 (w:World) (v:Value) (k:Nat) (out:List (List zD)):Prop:=∃ a c,v = .slice a out.length c /\ (out.length = 0 \/ ∃ g,a = some ⟨g,0,none⟩ /\ g < w.heap.size /\ ∀ i,i < out.length -> ∃ x d,w.cell? ⟨g,i,none⟩ = some (.slice x (zAM out i).length d) /\ zFQ w x (mkT k out i) (zAM out i).length)
theorem zE4.below {w w':World} {v:Value} {k:Nat} {out:List (List zD)} (h:zE4 w v k out) (hb:Below w.heap.size w w'):zE4 w' v k out:=by
 obtain ⟨a,c,rfl,h⟩:=h
 refine ⟨a,c,rfl,h.imp id ?_⟩
 rintro ⟨g,rfl,hg,hc⟩
 refine ⟨g,rfl,Nat.lt_of_lt_of_le hg hb.size,fun i hi=>?_⟩
 obtain ⟨x,d,t0,ht⟩:=hc i hi
 exact ⟨x,d,(hb.cell (p:=⟨g,i,none⟩) hg).trans t0,ht.grown (zF hb none) (fun q _=>by simp)⟩
theorem zDi (v:Value) (k:Nat) (out:List (List zD)) (w:World) (hn:out.length <= 1048576) (hm:∀ o ∈ out,o.length <= 1048576) (h1:1 <= k) (hk:mkT k out out.length <= 10000000) (h:zE4 w v k out) :
  Calls Tryz.prog 13 #[v,.int .i64 (k:Int)] w fun e w'=>e = .returned (.int .i64 ((mkT k out out.length:Nat):Int)) /\ Below w.heap.size w w':=by
 have HT:=zB h
 have HM:=zB hm
 obtain ⟨a,c,rfl,_⟩:=h
 clear hm
 go_enter Tryz.func13,Tryz.ntmps13
 go_wp2_with fail
 go_loopw [1,5] (fun z x wr=>∃ i:Nat,i <= out.length /\ x = .int .i64 (i:Int) /\ z = .int .i64 ((mkT k out i:Nat):Int) /\ Below w.heap.size w wr) (fun _ x _=>out.length - (intOf x).toNat)
 case atStart=>exact ⟨0,Nat.zero_le _,rfl,rfl,Below.refl _ _⟩
 case round=>
  obtain ⟨i,hi,rfl,rfl,hbel⟩:=hrel
  by_cases hlt:i < out.length
  ·have hltI:(i:Int) < (out.length:Int):=by omega
   obtain ⟨a1,c1,e1,t1⟩:=(zA HT).below hbel
   obtain ⟨rfl,rfl⟩:a = a1 /\ c = c1:=by injection e1 with x _ y; exact ⟨x,y⟩
   rcases t1 with t1 | ⟨g,rfl,hg,hc⟩
   ·omega
   obtain ⟨x,d,x0,hx⟩:=hc i hlt
   have hle:=zE3 k out (i + 1) out.length (by omega)
   have hge':k <= mkT k out i:=zE3 k out 0 i (by omega)
   have hst:mkT k out (i + 1) = mkT k out i + 4 * (zAM out i).length:=rfl
   obtain ⟨z,hz⟩:∃ z,z = mkT k out i:=⟨_,rfl⟩
   have HX:=zB (zKz x d (mkT k out i) (zAM out i).length wr ((zA HM) _ (zEX hlt)) (by omega) (by omega) hx)
   rw [<- hst,<- hz] at HX
   obtain ⟨z',hz'⟩:∃ z',z' = mkT k out (i + 1):=⟨_,rfl⟩
   rw [<- hz'] at HX
   rw [<- hz]
   have HZ:=zB hz'
   have hzn:¬ (z':Int) < 0:=by omega
   clear e1 hc hle hge' hst hz hz' hx
   go_wp2_with (first | (go_at_call 29; (with_reducible refine (zA HX).mono ?_); rintro e w1 ⟨rfl,hb1⟩; have HB1:=zB (show Below w.heap.size w w1 from hbel.trans (hb1.mono hbel.size)); clear hb1))
   exact ⟨⟨i + 1,by omega,by go_num,by rw [zA HZ],zA HB1⟩,by simp [intOf]; omega⟩
  ·obtain rfl:i = out.length:=by omega
   go_wp2
   go_ret
   exact ⟨rfl,hbel⟩
structure zN7 (w wr:World) (B g k:Nat) (ta:Nat -> Option Addr) (tc:Nat -> Nat) (out:List (List zD)) (i:Nat):Prop where
 hz:w.heap.size <= wr.heap.size
 ce:∀ j,j < out.length -> wr.cell? ⟨g,j,none⟩ = some (.slice (ta j) (zAM out j).length (tc j))
 ma:∀ j,j < i -> zFQ wr (ta j) (mkT k out j) (zAM out j).length
 ro:∀ j,j < out.length -> i <= j -> zv wr B (ta j) (zAM out j)
 be:Below B w wr
theorem zN7.step {w wr w':World} {B g k i:Nat} {ta:Nat -> Option Addr} {tc:Nat -> Nat} {out:List (List zD)} (h0:zQg w B g ta tc out) (h:zN7 w wr B g k ta tc out i) (hi:i < out.length) (hB:B <= w.heap.size) (hm:zFQ w' (ta i) (mkT k out i) (zAM out i).length) (hg:wr.grownBy w' ((ta i).map (·.block))):zN7 w w' B g k ta tc out (i + 1):=by
 have hz:=hg.size
 have hz0:=h.hz
 have hgl:=h0.hg
 refine ⟨by omega,fun j hj=>(zE hg (b:=g) (by omega) (h0.ng i hi) j).trans (h.ce j hj),fun j hj=>?_,fun j hj hij=>?_,h.be.grown hg (by omega) (fun q e=>((h.ro i hi (Nat.le_refl _)).lt q e).1)⟩
 ·by_cases e:j = i
  ·rw [e]; exact hm
  ·exact (h.ma j (by omega)).grown hg (fun q eq x=>h0.ap j i (by omega) hi e q eq x.symm)
 ·exact (h.ro j hj (by omega)).same hz (fun q eq=>hg.block q ((h.ro j hj (by omega)).lt q eq).2 (fun x=>h0.ap j i hj hi (by omega) q eq x.symm))
theorem zJ6 (v:Value) (B k:Nat) (out:List (List zD)) (w:World) (hn:out.length <= 1048576) (hm:∀ o ∈ out,o.length <= 1048576) (h1:1 <= k) (hk:mkT k out out.length <= 10000000) (hB:B <= w.heap.size) (h:zEY w B v out) :
  Calls Tryz.prog 12 #[v,.int .i64 (k:Int)] w fun e w'=>e = .returned (.int .i64 ((mkT k out out.length:Nat):Int)) /\ zE4 w' v k out /\ Below B w w':=by
 obtain ⟨⟨a,c,rfl⟩,h0 | ⟨g,c',ta,tc,hgB,e,h⟩⟩:=h
 ·obtain rfl:=List.eq_nil_of_length_eq_zero h0
  clear h0 hn hm hk
  go_enter Tryz.func12,Tryz.ntmps12
  go_wp2
  refine wp_loop_rounds 1 ?_
  rw [rounds_succ]
  go_wp2
  go_ret
  exact ⟨rfl,⟨_,_,rfl,Or.inl rfl⟩,Below.refl _ _⟩
 injection e with e1 e2 e3
 subst e1
 have H0:=zB h
 have HM:=zB hm
 have HT:=zB (show zN7 w w B g k ta tc out 0 from ⟨Nat.le_refl _,h.ce,fun j hj=>by omega,fun j hj _=>h.ro j hj,Below.refl _ _⟩)
 clear hm h e2 e3
 go_enter Tryz.func12,Tryz.ntmps12
 go_wp2_with fail
 go_loopw [1,5] (fun z x wr=>∃ i:Nat,i <= out.length /\ x = .int .i64 (i:Int) /\ z = .int .i64 ((mkT k out i:Nat):Int) /\ Hid (zN7 w wr B g k ta tc out i)) (fun _ x _=>out.length - (intOf x).toNat)
 case atStart=>exact ⟨0,Nat.zero_le _,rfl,rfl,HT⟩
 case round=>
  clear HT
  obtain ⟨i,hi,rfl,rfl,HT⟩:=hrel
  by_cases hlt:i < out.length
  ·have hltI:(i:Int) < (out.length:Int):=by omega
   have x0:=(zA HT).ce i hlt
   have hr:=(zA HT).ro i hlt (Nat.le_refl _)
   have hle:=zE3 k out (i + 1) out.length (by omega)
   have hge':k <= mkT k out i:=zE3 k out 0 i (by omega)
   have hst:mkT k out (i + 1) = mkT k out i + 4 * (zAM out i).length:=rfl
   have HX:=zB (zKy (ta i) (tc i) B (mkT k out i) (zAM out i) wr ((zA HM) _ (zEX hlt)) (by omega) (by omega) hr)
   have HS:=zB (fun w' hm hg=>(zA HT).step (w':=w') (zA H0) hlt hB hm hg)
   obtain ⟨z,hz⟩:∃ z,z = mkT k out i:=⟨_,rfl⟩
   obtain ⟨z',hz'⟩:∃ z',z' = mkT k out (i + 1):=⟨_,rfl⟩
   rw [<- hst,<- hz,<- hz'] at HX
   rw [<- hz] at HS
   rw [<- hz]
   have HZ:=zB hz'
   clear hle hge' hst hz hz' hr
   go_wp2_with (first | (go_at_call 28; (with_reducible refine (zA HX).mono ?_); rintro e w1 ⟨rfl,hm1,hg1⟩; have HN:=zB ((zA HS) w1 hm1 hg1); clear hm1 hg1))
   exact ⟨⟨i + 1,by omega,by go_num,by rw [zA HZ],HN⟩,by simp [intOf]; omega⟩
  ·obtain rfl:i = out.length:=by omega
   have HE:=zB (show zE4 wr (.slice (some ⟨g,0,none⟩) out.length c) k out /\ Below B w wr from ⟨⟨_,c,rfl,Or.inr ⟨g,rfl,Nat.lt_of_lt_of_le (zA H0).hg (zA HT).hz,fun j hj=>⟨ta j,tc j,(zA HT).ce j hj,(zA HT).ma j hj⟩⟩⟩,(zA HT).be⟩)
   go_wp2
   go_ret
   exact ⟨rfl,zA HE⟩
end Go.Proofs.YtokabkhnidlcnacGreatDoor
