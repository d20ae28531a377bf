import Derived.Deep.MidRow
import Derived.Deep.RegionHeld
import Derived.Laws.MakeOwn
import Derived.OwnWalk
import Derived.Laws.OwnMore
import Derived.ProofKit
import Derived.Lib.SmallJoins
import Derived.Deep.Slices
import Derived.Deep.Strs
import Derived.Test.YtokabkhnidlcnacGreatDoorTie
import Derived.Test.YtokabkhnidlcnacGreatDoorCards
import Derived.OpenShut
import Derived.LaidMore
import Derived.Lay
import Derived.SevenTiedAt
import Derived.Stop.Joined
import Derived.ShutString
import Derived.ChangeOld
import Derived.Below
import Derived.Shelf.Vars
import Derived.Test.YtokabkhnidlcnacGreatDoorM00
import Derived.Test.YtokabkhnidlcnacGreatDoorM01
import Derived.Test.YtokabkhnidlcnacGreatDoorM36
import Derived.Test.YtokabkhnidlcnacGreatDoorM48
import Derived.Test.YtokabkhnidlcnacGreatDoorM49
namespace Go.Proofs.YtokabkhnidlcnacGreatDoor
set_option maxHeartbeats 16000000
set_option maxRecDepth 100000
open Go.RowKit
def zPb (o:zJ):Nat:=o.n.size + o.t.size
def zDx (xs:List zJ):Nat -> Nat
 | 0=>0
 | k + 1=>zDx xs k + zPb (atM xs k)
theorem zPc (o:zJ) (left:Int) (w:World) (hs0:o.n.size <= maxLen) (hs1:o.t.size <= maxLen) (h0:0 <= left) (h1:left <= 1048576) :
  Calls Tryz.prog 19 #[.agg #[.string o.n,.string o.t],.int .i64 left] w fun e w'=>(∃ r,e = .returned (.int .i64 r) /\ (r < 0 \/ (0 <= r /\ r + zPb o = left))) /\ Below w.heap.size w w':=by
 unfold maxLen at hs0
 unfold maxLen at hs1
 by_cases c0:left < o.n.size
 ·go_enter Tryz.func19,Tryz.ntmps19
  go_wp2
  go_ret
  exact ⟨⟨-1,rfl,Or.inl (by omega)⟩,zC _ _⟩
 by_cases c1:left - o.n.size < o.t.size
 ·go_enter Tryz.func19,Tryz.ntmps19
  go_wp2
  go_ret
  exact ⟨⟨-1,rfl,Or.inl (by omega)⟩,zC _ _⟩
 go_enter Tryz.func19,Tryz.ntmps19
 go_wp2
 go_ret
 exact ⟨⟨_,rfl,Or.inr (by unfold zPb; omega)⟩,zC _ _⟩
def zPq (left r:Int) (xs:List zJ):Prop:=r < 0 \/ (0 <= r /\ r + xs.length + zDx xs xs.length = left)
theorem zN8 (a:Option Addr) (cap:Nat) (xs:List zJ) (left:Int) (w:World) (hm:xs.length <= maxLen) (hw:zBz w a xs) (hs:zEg xs) (hl0:0 <= left) (hl1:left <= 1048576) :
  Calls Tryz.prog 5 #[.slice a xs.length cap,.int .i64 left] w fun e w'=>(∃ r,e = .returned (.int .i64 r) /\ zPq left r xs) /\ Below w.heap.size w w':=by
 unfold maxLen at hm
 by_cases hneg:left < xs.length
 ·go_enter Tryz.func5,Tryz.ntmps5
  go_wp2
  go_ret
  exact ⟨⟨-1,rfl,Or.inl (by omega)⟩,Below.refl _ _⟩
 rcases hw with h0 | ⟨b,off,rfl,hw,hB⟩
 ·have ht:zDx xs xs.length = 0:=by rw [h0]; rfl
  have HT:=zB ht
  clear ht
  go_enter Tryz.func5,Tryz.ntmps5
  go_wp2
  refine wp_loop_rounds 1 ?_
  rw [rounds_succ]
  go_wp2
  go_ret
  exact ⟨⟨_,rfl,Or.inr (by have:=zA HT; omega)⟩,Below.refl _ _⟩
 ·go_enter Tryz.func5,Tryz.ntmps5
  go_wp2
  go_loopw [1,5] (fun lf i wr=>∃ (k:Nat) (r:Int),k <= xs.length /\ i = .int .i64 k /\ lf = .int .i64 r /\ 0 <= r /\ r <= 1048576 /\ Hid (r + xs.length + zDx xs k = left) /\ Below w.heap.size w wr) (fun _ i _=>xs.length - (intOf i).toNat)
  case atStart=>exact ⟨0,_,Nat.zero_le _,rfl,rfl,by omega,by omega,zB (by simp only [zDx]; omega),Below.refl _ _⟩
  case round=>
   obtain ⟨k,r,hk,rfl,rfl,hr0,hr1,ht,hbel⟩:=hrel
   by_cases hlt:k < xs.length
   ·obtain ⟨h0,h1⟩:=(hw k hlt).below hbel hB
    go_wp2_with fail
    refine (zPc (atM xs k) r _ (hs k hlt).1 (hs k hlt).2 hr0 hr1).mono ?_
    rintro e w1 ⟨⟨r1,rfl,hr⟩,hb1⟩
    by_cases hneg1:r1 < 0
    ·go_wp2_with fail
     go_ret
     exact ⟨⟨-1,rfl,Or.inl (by omega)⟩,hbel.trans (hb1.mono hbel.size)⟩
    ·have h01:0 <= r1:=by omega
     have hR:=zB (show r1 + zPb (atM xs k) = r by omega)
     have h11:r1 <= 1048576:=by have:=zA hR; omega
     clear hr
     go_wp2_with fail
     exact ⟨⟨k + 1,r1,by omega,by go_num,rfl,h01,h11,zB (by have a:=zA ht; have b:=zA hR; simp only [zDx]; omega),hbel.trans (hb1.mono hbel.size)⟩,by simp [intOf]; omega⟩
   ·have hkx:k = xs.length:=by omega
    have HT:=zB (show r + xs.length + zDx xs xs.length = left by have:=zA ht; rw [hkx] at this; exact this)
    clear ht hkx
    go_wp2
    go_ret
    exact ⟨⟨_,rfl,Or.inr ⟨hr0,zA HT⟩⟩,hbel⟩
theorem zPd (o:zJ) (w:World) :
  Calls Tryz.prog 23 #[.agg #[.string o.n,.string o.t]] w fun e w'=>e = .returned (.agg #[.string o.n,.string o.t]) /\ Below w.heap.size w w':=by
 go_enter Tryz.func23,Tryz.ntmps23
 go_wp2
 exact bodyPost_ret (v:=.agg #[.string o.n,.string o.t]) (by simp [results,Tryz.results23,go_sem]) rfl ⟨rfl,(((Below.refl _ _).alloc (Nat.le_refl _) _).alloc (by simp) _).alloc (by simp; omega) _⟩
theorem zEZ (a:Option Addr) (cap:Nat) (xs:List zJ) (w:World) (hm:xs.length <= 1048576) (hw:zBz w a xs) :
  Calls Tryz.prog 7 #[.slice a xs.length cap] w fun e w'=>(∃ g,e = .returned (.slice (some ⟨g,0,none⟩) xs.length xs.length) /\ w.heap.size <= g /\ ZG w' g xs xs.length) /\ Below w.heap.size w w':=by
 obtain ⟨inf,hi,hz⟩:=Option.map_eq_some_iff.1 zQU
 simp only [Prod.mk.injEq] at hz
 obtain ⟨hz,hsz,hby⟩:=hz
 have hmk:∀ W:World,(Instr.makeSlice 27 (.int .i64 (xs.length:Int)) (.int .i64 (xs.length:Int))).run Tryz.prog W = .ok (.slice (some ⟨W.heap.size,0,none⟩) xs.length xs.length) (W.alloc (.cells (madeCells #[.string ⟨#[]⟩,.string ⟨#[]⟩] (xs.length * 2)) 65)):=by
  intro W
  have:=run_make (P:=Tryz.prog) W 27 65 inf _ Tryz.underlying27 hi hz .i64 .i64 xs.length xs.length (by omega) (Int.le_refl _) (by rw [hby]; omega) (by omega)
  simpa [hsz,Value.cells] using this
 clear hz hsz hby hi
 rcases hw with h0 | ⟨b,off,rfl,hw,hB⟩
 ·obtain rfl:=List.eq_nil_of_length_eq_zero h0
  have hmk0:∀ W:World,(Instr.makeSlice 27 (.int .i64 0) (.int .i64 0)).run Tryz.prog W = .ok (.slice (some ⟨W.heap.size,0,none⟩) 0 0) (W.alloc (.cells #[] 65)):=fun W=>by kernel_rfl
  clear hmk h0 hm
  go_enter Tryz.func7,Tryz.ntmps7
  go_wp2
  refine wp_loop_rounds 1 ?_
  rw [rounds_succ]
  go_wp2
  go_ret
  exact ⟨⟨w.heap.size,rfl,Nat.le_refl _,by simp,fun j hj=>(by simp at hj),fun i hi=>(by simp at hi)⟩,zC _ _⟩
 ·go_enter Tryz.func7,Tryz.ntmps7
  go_wp2
  go_loopw [4] (fun i wr=>∃ k:Nat,k <= xs.length /\ i = .int .i64 k /\ ZG wr w.heap.size xs k /\ Below w.heap.size w wr) (fun i _=>xs.length - (intOf i).toNat)
  case atStart=>exact ⟨0,Nat.zero_le _,rfl,⟨by simp,zIv _ _ _ _,fun i hi=>by omega⟩,zC _ _⟩
  case round=>
   obtain ⟨k,hk,rfl,hfil,hbel⟩:=hrel
   by_cases hlt:k < xs.length
   ·obtain ⟨h0,h1⟩:=(hw k hlt).below hbel hB
    go_wp2_with fail
    refine (zPd (atM xs k) _).mono ?_
    rintro e w1 ⟨rfl,hb⟩
    have hfil1:=hfil.below hb hfil.1
    obtain ⟨⟨e0,f0⟩,⟨e1,f1⟩⟩:=zIu hfil1 hlt
    obtain ⟨v0,e0⟩:=e0
    obtain ⟨v1,e1⟩:=e1
    have HF:=zB (hfil1.step hlt)
    have HB:=zB (zH (Nat.le_refl w.heap.size) [.string (atM xs k).n,.string (atM xs k).t] (k * 2) w1 (hbel.trans (hb.mono hbel.size)))
    clear hfil1 hfil
    go_wp2_with fail
    exact ⟨⟨k + 1,by omega,by go_num,zA HF,zA HB⟩,by simp [intOf]; omega⟩
   ·go_wp2
    go_ret
    have:k = xs.length:=by omega
    exact ⟨⟨w.heap.size,rfl,Nat.le_refl _,this ▸ hfil⟩,hbel⟩
theorem zN9 (o:zJ) (w:World) :
  Calls Tryz.prog 26 #[.agg #[.string o.n,.string o.t],.agg #[.string o.n,.string o.t]] w fun e w'=>e = .returned (.bool true) /\ Below w.heap.size w w':=by
 go_enter Tryz.func26,Tryz.ntmps26
 go_wp2
 go_ret
 exact ⟨rfl,(zC _ _).alloc (by simp) _⟩
theorem zMR (b off b' off' cap cap':Nat) (xs:List zJ) (w:World) (hm:xs.length <= 1048576) (h:zIt w b off xs) (h':zIt w b' off' xs) (hB:b < w.heap.size) (hB':b' < w.heap.size) :
  Calls Tryz.prog 10 #[.slice (some ⟨b,off,none⟩) xs.length cap,.slice (some ⟨b',off',none⟩) xs.length cap'] w fun e w'=>e = .returned (.bool true) /\ Below w.heap.size w w':=by
 go_enter Tryz.func10,Tryz.ntmps10
 go_wp2
 go_loopw [5] (fun i wr=>∃ k:Nat,k <= xs.length /\ i = .int .i64 k /\ Below w.heap.size w wr) (fun i _=>xs.length - (intOf i).toNat)
 case atStart=>exact ⟨0,Nat.zero_le _,rfl,Below.refl _ _⟩
 case round=>
  obtain ⟨k,hk,rfl,hbel⟩:=hrel
  by_cases hlt:k < xs.length
  ·obtain ⟨a0,a1⟩:=(h k hlt).below hbel hB
   obtain ⟨c0,c1⟩:=(h' k hlt).below hbel hB'
   have hltI:(k:Int) < (xs.length:Int):=by omega
   have zb:b < wr.heap.size:=Nat.lt_of_lt_of_le hB hbel.size
   have zb':b' < wr.heap.size:=Nat.lt_of_lt_of_le hB' hbel.size
   go_wp2_with fail
   go_region_held (fun w'=>w'.cell? ⟨b,off + k * 2,none⟩ = some (.string (atM xs k).n) /\ w'.cell? ⟨b,off + k * 2 + 1,none⟩ = some (.string (atM xs k).t) /\ w'.cell? ⟨b',off' + k * 2,none⟩ = some (.string (atM xs k).n) /\ w'.cell? ⟨b',off' + k * 2 + 1,none⟩ = some (.string (atM xs k).t)) (go_keep)
    (first | (go_at_call 26; refine (zN9 (atM xs k) _).mono ?_; rintro e w1 ⟨rfl,hb1⟩; have q0:=(hb1.cell (p:=⟨b,off + k * 2,none⟩) zb).trans (show wr.drew.cell? ⟨b,off + k * 2,none⟩ = _ from a0); have q1:=(hb1.cell (p:=⟨b,off + k * 2 + 1,none⟩) zb).trans (show wr.drew.cell? ⟨b,off + k * 2 + 1,none⟩ = _ from a1); have p0:=(hb1.cell (p:=⟨b',off' + k * 2,none⟩) zb').trans (show wr.drew.cell? ⟨b',off' + k * 2,none⟩ = _ from c0); have p1:=(hb1.cell (p:=⟨b',off' + k * 2 + 1,none⟩) zb').trans (show wr.drew.cell? ⟨b',off' + k * 2 + 1,none⟩ = _ from c1)))
   go_wp2
   exact ⟨⟨k + 1,by omega,by go_num,hbel.trans (((Below.refl _ _).drew.trans hb1).mono hbel.size)⟩,by simp [intOf]; omega⟩
  ·go_wp2
   go_ret
   exact ⟨rfl,hbel⟩
theorem zOA (a a':Option Addr) (cap cap':Nat) (xs:List zJ) (w:World) (hm:xs.length <= 1048576) (h:zBz w a xs) (h':zBz w a' xs) :
  Calls Tryz.prog 10 #[.slice a xs.length cap,.slice a' xs.length cap'] w fun e w'=>e = .returned (.bool true) /\ Below w.heap.size w w':=by
 by_cases h0:xs.length = 0
 ·obtain rfl:=List.eq_nil_of_length_eq_zero h0
  clear h h' h0 hm
  go_enter Tryz.func10,Tryz.ntmps10
  go_wp2
  refine wp_loop_rounds 1 ?_
  rw [rounds_succ]
  go_wp2
  go_ret
  exact ⟨rfl,Below.refl _ _⟩
 ·rcases h with h | ⟨b,off,rfl,h1,h2⟩
  ·exact absurd h h0
  ·rcases h' with h' | ⟨b',off',rfl,h1',h2'⟩
   ·exact absurd h' h0
   ·exact zMR b off b' off' cap cap' xs w hm h1 h1' h2 h2'
def mkM (c:Nat):zJ:=⟨MT c,MT (c + 1)⟩
def zIm (k n:Nat):List zJ:=(List.range n).map fun i=>mkM (k + 2 * i)
theorem zJ7 (k n:Nat):(zIm k n).length = n:=by simp [zIm]
theorem zPe {k n i:Nat} (h:i < n):atM (zIm k n) i = mkM (k + 2 * i):=by simp [atM,zIm,h]
def zCa (w:World) (g:Nat) (xs:List zJ) (n m:Nat):Prop:=ZG w g xs n /\ ∀ j v,j < m -> [.string (atM xs n).n,.string (atM xs n).t][j]? = some v -> w.cell? ⟨g,n * 2 + j,none⟩ = some v
theorem zCa.start {w:World} {g n:Nat} {xs:List zJ} (h:ZG w g xs n):zCa w g xs n 0:=⟨h,fun j _ hj=>absurd hj (Nat.not_lt_zero j)⟩
theorem zCa.below {w w':World} {g n m:Nat} {xs:List zJ} {B:Nat} (h:zCa w g xs n m) (hb:Below B w w') (hB:g < B):zCa w' g xs n m:=
 ⟨h.1.below hb hB,fun j v hj hv=>(hb.cell (p:=⟨g,_,none⟩) hB).trans (h.2 j v hj hv)⟩
theorem zCa.set {w:World} {g n m:Nat} {xs:List zJ} (h:zCa w g xs n m) (hn:n < xs.length) (hm:m < 2) {v:Value} (hv:[.string (atM xs n).n,.string (atM xs n).t][m]? = some v):zCa (w.setCell ⟨g,n * 2 + m,none⟩ v) g xs n (m + 1):=by
 obtain ⟨⟨h1,h2,h3⟩,h4⟩:=h
 obtain ⟨u,hu⟩:=Option.isSome_iff_exists.1 (h2 (n * 2 + m) (by omega)).1
 rw [Nat.zero_add] at hu
 have oth:∀ o,o ≠ n * 2 + m -> (w.setCell ⟨g,n * 2 + m,none⟩ v).cell? ⟨g,o,none⟩ = w.cell? ⟨g,o,none⟩:=fun o ho=>World.cell?_setCell_other _ _ _ _ (fun e=>ho (by injection e with _ e; exact e.symm))
 refine ⟨⟨by simpa [World.setCell] using h1,fun j hj=>⟨?_,?_⟩,fun i hi=>?_⟩,fun j u' hj hu'=>?_⟩
 ·by_cases e:0 + j = n * 2 + m
  ·rw [e,World.cell?_setCell_same _ _ _ hu]; rfl
  ·rw [oth _ e]; exact (h2 j hj).1
 ·rw [World.frozen?_setCell]; exact (h2 j hj).2
 ·obtain ⟨a0,a1⟩:=h3 i hi
  exact ⟨(oth _ (by omega)).trans a0,(oth _ (by omega)).trans a1⟩
 ·by_cases e:j = m
  ·subst e
   rw [hv] at hu'
   injection hu' with hu'
   subst hu'
   exact World.cell?_setCell_same _ _ _ hu
  ·rw [oth _ (by omega)]
   exact h4 j u' (by omega) hu'
theorem zCa.done {w:World} {g n:Nat} {xs:List zJ} (h:zCa w g xs n 2):ZG w g xs (n + 1):=by
 obtain ⟨⟨h1,h2,h3⟩,h4⟩:=h
 refine ⟨h1,h2,fun i hi=>?_⟩
 by_cases e:i = n
 ·subst e
  exact ⟨by simpa using h4 0 _ (by omega) rfl,by simpa using h4 1 _ (by omega) rfl⟩
 ·exact h3 i (by omega)
theorem zCa.cell {w:World} {g n m:Nat} {xs:List zJ} (h:zCa w g xs n m) (hn:n < xs.length) (j:Nat) (hj:j < 2):(∃ u,w.cell? ⟨g,n * 2 + j,none⟩ = some u) /\ w.frozen? ⟨g,n * 2 + j,none⟩ = false:=by
 have:=h.1.2.1 (n * 2 + j) (by omega)
 rw [Nat.zero_add] at this
 exact ⟨Option.isSome_iff_exists.1 this.1,this.2⟩
structure zAv (w w':World) (g:Nat):Prop where
 os:w'.os = w.os
 tape:w'.tape = w.tape
 output:w'.output = w.output
 size:w.heap.size <= w'.heap.size
 block:∀ i,i < w.heap.size -> i ≠ g -> w'.heap[i]? = w.heap[i]?
theorem zAv.refl (w:World) (g:Nat):zAv w w g:=⟨rfl,rfl,rfl,Nat.le_refl _,fun _ _ _=>rfl⟩
theorem zAv.trans {w w1 w2:World} {g:Nat} (h:zAv w w1 g) (h':zAv w1 w2 g):zAv w w2 g:=
 ⟨h'.os.trans h.os,h'.tape.trans h.tape,h'.output.trans h.output,Nat.le_trans h.size h'.size,fun i hi a=>(h'.block i (Nat.lt_of_lt_of_le hi h.size) a).trans (h.block i hi a)⟩
theorem zAv.below {w w1 w2:World} {g:Nat} (h:zAv w w1 g) (h':Below w1.heap.size w1 w2):zAv w w2 g:=h.trans ⟨h'.os,h'.tape,h'.output,h'.size,fun i hi _=>h'.block i hi⟩
theorem zAv.set {w w1:World} {g:Nat} (h:zAv w w1 g) (o:Nat) (v:Value):zAv w (w1.setCell ⟨g,o,none⟩ v) g:=
 h.trans ⟨rfl,rfl,rfl,by simp [World.setCell],fun _ _ hi=>Below.heap_setCell _ _ _ _ hi⟩
theorem zAv.grown {w w':World} {g:Nat} (h:zAv w w' g):w.grownBy w' (some g):=⟨h.os,h.tape,h.output,h.size,fun i hi e=>h.block i hi (fun x=>e (by rw [x]))⟩
theorem zK0 (g cap k:Nat) (xs:List zJ) (w:World) (hm:xs.length <= 1048576) (h1:1 <= k) (hk:k <= 10000000) (hw:ZG w g xs xs.length) :
  Calls Tryz.prog 11 #[.slice (some ⟨g,0,none⟩) xs.length cap,.int .i64 (k:Int)] w fun e w'=>(∃ k':Nat,e = .returned (.int .i64 (k':Int)) /\ Hid (k' = k + 2 * xs.length)) /\ Hid (ZG w' g (zIm k xs.length) xs.length) /\ Hid (zAv w w' g):=by
 have hw0:=zB (hw.anew (zJ7 k xs.length).symm)
 clear hw
 go_enter Tryz.func11,Tryz.ntmps11
 go_wp2
 go_loopw [1,5] (fun kk i wr=>∃ n c:Nat,n <= xs.length /\ i = .int .i64 (n:Int) /\ kk = .int .i64 (c:Int) /\ 1 <= c /\ c <= 100000000 /\ Hid (c = k + 2 * n) /\ Hid (ZG wr g (zIm k xs.length) n) /\ Hid (zAv w wr g)) (fun _ i _=>xs.length - (intOf i).toNat)
 case atStart=>exact ⟨0,k,Nat.zero_le _,rfl,rfl,h1,by omega,zB (by omega),hw0,zB (zAv.refl _ _)⟩
 case round=>
  clear hw0
  obtain ⟨n,c,hn,rfl,rfl,hc1,hc2,hc,hf,hkp⟩:=hrel
  by_cases hlt:n < xs.length
  ·have hln:n < (zIm k xs.length).length:=by rw [zJ7]; exact hlt
   have hat:=zB (show atM (zIm k xs.length) n = mkM c by rw [zPe hlt,zA hc])
   have hP0:=zB (zCa.start (zA hf))
   have hgl:=(zA hf).1
   clear hf
   obtain ⟨⟨u0_0,e0_0⟩,f0_0⟩:=(zA hP0).cell hln 0 (by omega)
   obtain ⟨⟨u0_1,e0_1⟩,f0_1⟩:=(zA hP0).cell hln 1 (by omega)
   simp only [Nat.add_zero] at e0_0 f0_0
   go_wp2_with fail
   refine (zBX _ (c + 0) _ (by omega) (by omega) (by omega)).mono ?_
   rintro e w1 ⟨rfl,hb1⟩
   have hP1:=zB ((zA hP0).below hb1 (zA hP0).1.1)
   have hK1:=zB ((zA hkp).below hb1)
   clear hP0 hkp hb1 e0_0 f0_0 e0_1 f0_1
   obtain ⟨⟨u1_0,e1_0⟩,f1_0⟩:=(zA hP1).cell hln 0 (by omega)
   obtain ⟨⟨u1_1,e1_1⟩,f1_1⟩:=(zA hP1).cell hln 1 (by omega)
   simp only [Nat.add_zero] at e1_0 f1_0
   have hP1x:=zB ((zA hP1).set hln (by omega) (m:=0) (v:=.string (MT c)) (by rw [zA hat]; rfl))
   have hK1x:=zB ((zA hK1).set (n * 2 + 0) (.string (MT c)))
   clear hP1 hK1
   go_wp2_with fail
   refine (zBX _ (c + 1) _ (by omega) (by omega) (by omega)).mono ?_
   rintro e w2 ⟨rfl,hb2⟩
   have hP2:=zB ((zA hP1x).below hb2 (zA hP1x).1.1)
   have hK2:=zB ((zA hK1x).below hb2)
   clear hP1x hK1x hb2 e1_0 f1_0 e1_1 f1_1
   obtain ⟨⟨u2_0,e2_0⟩,f2_0⟩:=(zA hP2).cell hln 0 (by omega)
   obtain ⟨⟨u2_1,e2_1⟩,f2_1⟩:=(zA hP2).cell hln 1 (by omega)
   simp only [Nat.add_zero] at e2_0 f2_0
   have hP2x:=zB ((zA hP2).set hln (by omega) (m:=1) (v:=.string (MT (c + 1))) (by rw [zA hat]; rfl))
   have hK2x:=zB ((zA hK2).set (n * 2 + 1) (.string (MT (c + 1))))
   clear hP2 hK2
   go_wp2_with fail
   refine ⟨⟨n + 1,c + 2,by omega,by go_num,by go_num,by omega,?_,zB ?_,zB (zA hP2x).done,hK2x⟩,by simp [intOf]; omega⟩
   ·have:=zA hc; omega
   ·have:=zA hc; omega
  ·have hnn:n = xs.length:=by omega
   have HF:ZG wr g (zIm k xs.length) xs.length:=by
    have:=zA hf
    rw [hnn] at this
    exact this
   have HF':=zB HF
   have HC:=zB (show c = k + 2 * xs.length by have:=zA hc; omega)
   clear HF hnn hc
   go_wp2
   go_ret
   exact ⟨⟨c,rfl,HC⟩,HF',hkp⟩
end Go.Proofs.YtokabkhnidlcnacGreatDoor
namespace Go.Proofs.YtokabkhnidlcnacGreatDoor
set_option linter.unusedSimpArgs false
set_option linter.unusedVariables false
set_option maxHeartbeats 16000000
set_option maxRecDepth 100000
open Go.RowKit
theorem zCD.small {ms:List zJ} {out:List (List zD)} {c who:Int} (h:zCD ms out c who):out.length <= 100 /\ ∀ o ∈ out,o.length <= 20001:=by
 have nil:out = [] -> out.length <= 100 /\ ∀ o ∈ out,o.length <= 20001:=fun h=>by rw [h]; exact ⟨by decide,fun o ho=>by cases ho⟩
 obtain ⟨tabs,c0,w0,hL,⟨_,h,_⟩ | ⟨rfl,U,_,⟨k,us,cd,t,_,_,_,_,h,_⟩ | ⟨h,_⟩⟩⟩:=h
 ·exact nil h
 ·exact nil h
 ·have hn:=hL.good.1
  refine ⟨by rw [h.1]; exact hn,fun o ho=>?_⟩
  obtain ⟨i,hi,rfl⟩:=List.getElem_of_mem ho
  obtain ⟨p,hp⟩:=h.2 i (by rw [<- h.1]; exact hi)
  have e:zAM out i = out[i]:=by simp [zAM,hi]
  rw [e] at hp
  exact hp.len
theorem ZG.arg {w:World} {g:Nat} {xs:List zJ} (h:ZG w g xs xs.length):zBz w (some ⟨g,0,none⟩) xs:=Or.inr ⟨g,0,rfl,h.2.2,h.1⟩
theorem zAv.belowB {w w':World} {g B:Nat} (h:zAv w w' g) (hB:B <= g) (hz:B <= w.heap.size):Below B w w':=⟨h.os,h.tape,h.output,h.size,fun i hi=>h.block i (by omega) (by omega)⟩
theorem zOB (a:Option Addr) (cap:Nat) (ms:List zJ) (w:World) (hl:ms.length <= maxLen) (hA:zBz w a ms) (hs:zEg ms) (hm:zEy w) :
  Calls Tryz.prog 3 #[.slice a ms.length cap] w fun e w'=>e = .returned (.bool true) /\ Below w.heap.size w w':=by
 have HA:=zB hA
 have HM:=zB hm
 have HZ:=zB hs
 have HS1:=zB (zN8 a cap ms 1048576 w hl hA hs (by decide) (by decide))
 clear hA hm hs
 go_enter Tryz.func3,Tryz.ntmps3
 go_wp2_with fail
 (with_reducible refine (zA HS1).mono ?_)
 rintro e w1 ⟨⟨r,rfl,hr⟩,hb1⟩
 have HB1:=zB hb1
 clear hb1 HS1
 by_cases hr0:r < 0
 ·go_wp2_with fail
  go_ret
  exact ⟨rfl,zA HB1⟩
 have hnx:ms.length <= 1048576:=by unfold zPq at hr; omega
 have HT2:=zB (zEZ a cap ms w1 hnx ((zA HA).below (zA HB1)))
 clear hr
 go_wp2_with fail
 (with_reducible refine (zA HT2).mono ?_)
 rintro e w2 ⟨⟨g2,rfl,hg2,hf2⟩,hb2⟩
 have HB2:=zB ((zA HB1).trans (hb2.mono (zA HB1).size))
 have HSP:=zB (zHB _ ms.length ms w2 hnx hf2.arg (zA HZ))
 clear hb2 hg2 hf2 HT2
 go_wp2_with fail
 (with_reducible refine (zA HSP).mono ?_)
 rintro e w3 ⟨v3,out,c,who,rfl,HL,HT3,hb3⟩
 have HB3:=zB ((zA HB2).trans (hb3.mono (zA HB2).size))
 have HT4:=zB (zEZ a cap ms w3 hnx ((zA HA).below (zA HB3)))
 have HM3:=zB (show ∀ o ∈ out,o.length <= 1048576 from fun o ho=>Nat.le_trans ((zA HL).small.2 o ho) (by decide))
 clear hb3 HSP
 go_wp2_with fail
 (with_reducible refine (zA HT4).mono ?_)
 rintro e w4 ⟨⟨gx,rfl,hgx,hf4⟩,hb4⟩
 have HB4:=zB ((zA HB3).trans (hb4.mono (zA HB3).size))
 have HC4:=zB (show Below w3.heap.size w3 w4 from hb4)
 have HF4:=zB hf4
 have hgl:=hf4.1
 have HIM:=zB (zDh (some ⟨gx,0,none⟩) ms.length ms w4 (fun hn=>⟨hn,hf4.arg,zA HZ,(zA HM).below (zA HB4)⟩) (zA HL))
 clear hb4 hf4 HT4
 go_wp2_with fail
 (with_reducible refine (zA HIM).mono ?_)
 rintro e w5 ⟨v5,rfl,HT5,hb5⟩
 obtain ⟨ho1,ho2⟩:=(zA HL).small
 have HO2:=zB ho2
 have z5:=hb5.size
 have HB5:=zB ((zA HB4).trans (hb5.mono (zA HB4).size))
 have HC5:=zB ((zA HC4).trans (hb5.mono (zA HC4).size))
 have HF5:=zB ((zA HF4).below hb5 hgl)
 have HEQ:=zB (zDw v5 v3 out w5 (by omega) (zA HM3) (zA HT5).at' ((zA HT3).at'.below (zA HC5)))
 clear hb5 HIM ho2 HF4
 go_wp2_with fail
 (with_reducible refine (zA HEQ).mono ?_)
 rintro e w6 ⟨rfl,hb6⟩
 have z6:=hb6.size
 have HB6:=zB ((zA HB5).trans (hb6.mono (zA HB5).size))
 have HC6:=zB ((zA HC5).trans (hb6.mono (zA HC5).size))
 have HF6:=zB ((zA HF5).below hb6 (zA HF5).1)
 have HT6:=zB ((zA HT5).grown (zF hb6 none) (fun q e=>by cases e))
 have HT7:=zB (zEZ a cap ms w6 hnx ((zA HA).below (zA HB6)))
 clear hb6 HEQ HF5 HT5
 go_wp2_with fail
 (with_reducible refine (zA HT7).mono ?_)
 rintro e w7 ⟨⟨g7,rfl,hg7,hf7⟩,hb7⟩
 have z7:=hb7.size
 have HB7:=zB ((zA HB6).trans (hb7.mono (zA HB6).size))
 have HC7:=zB ((zA HC6).trans (hb7.mono (zA HC6).size))
 have HF7:=zB ((zA HF6).below hb7 (zA HF6).1)
 have HTT7:=zB ((zA HT6).grown (zF hb7 none) (fun q e=>by cases e))
 have HEQ:=zB (zOA _ _ ms.length ms.length ms w7 hnx (zA HF7).arg hf7.arg)
 clear hb7 HT7 HF6 HT6 hf7 hg7
 go_wp2_with fail
 (with_reducible refine (zA HEQ).mono ?_)
 rintro e w8 ⟨rfl,hb8⟩
 have z8:=hb8.size
 have HB8:=zB ((zA HB7).trans (hb8.mono (zA HB7).size))
 have HC8:=zB ((zA HC7).trans (hb8.mono (zA HC7).size))
 have HF8:=zB ((zA HF7).below hb8 (zA HF7).1)
 have HT8:=zB ((zA HTT7).grown (zF hb8 none) (fun q e=>by cases e))
 have HMK:=zB (show Calls Tryz.prog 11 #[.slice (some ⟨gx,0,none⟩) ms.length ms.length,.int .i64 1] w8 _ from zK0 gx ms.length 1 ms w8 hnx (by omega) (by omega) (zA HF8))
 clear hb8 HEQ HF7 HTT7
 go_wp2_with fail
 (with_reducible refine (zA HMK).mono ?_)
 rintro e w9 ⟨⟨k9,rfl,hk9⟩,_,hkp⟩
 have z9:=(zA hkp).size
 have hk0:¬ (k9:Int) < 0:=by omega
 have hbk:=(zA hkp).belowB (B:=w3.heap.size) hgx (zA HC8).size
 have HB9:=zB ((zA HB8).trans (hbk.mono (zA HB3).size))
 have HC9:=zB ((zA HC8).trans hbk)
 have HT9:=zB ((zA HT8).grown (zA hkp).grown (fun q e=>by injection e with e; omega))
 have HEQ:=zB (zDw v5 v3 out w9 (by omega) (zA HM3) (zA HT9).at' ((zA HT3).at'.below (zA HC9)))
 clear hk9 hkp hbk HT8 HF8 HMK
 go_wp2_with fail
 (with_reducible refine (zA HEQ).mono ?_)
 rintro e w10 ⟨rfl,hb10⟩
 have z10:=hb10.size
 have HB10:=zB ((zA HB9).trans (hb10.mono (zA HB9).size))
 have HC10:=zB ((zA HC9).trans (hb10.mono (zA HC9).size))
 have HT10:=zB ((zA HT9).grown (zF hb10 none) (fun q e=>by cases e))
 have hks:=zLh 1 out (zA HO2) out.length (Nat.le_refl _)
 have hkm:mkT 1 out out.length <= 10000000:=by omega
 have HMK:=zB (show Calls Tryz.prog 12 #[v5,.int .i64 1] w10 _ from zJ6 v5 w4.heap.size 1 out w10 (by omega) (zA HM3) (by omega) hkm (by omega) (zA HT10))
 have hk1:1 <= mkT 1 out out.length:=zE3 1 out 0 _ (by omega)
 have HK:=zB (And.intro hkm hk1)
 obtain ⟨M,hM⟩:∃ M,M = mkT 1 out out.length:=⟨_,rfl⟩
 have HM0:=zB hM
 rw [<- hM] at HMK hks
 have hM1:¬ (M:Int) < 0:=by omega
 clear hb10 HT9 HEQ hkm hk1 hM
 go_wp2_with fail
 (with_reducible refine (zA HMK).mono ?_)
 rintro e w11 ⟨rfl,hmt,hb11⟩
 have z11:=hb11.size
 have HB11:=zB ((zA HB10).trans (hb11.mono (zA HB4).size))
 have HC11:=zB ((zA HC10).trans (hb11.mono (zA HC4).size))
 have HT11:=zB hmt
 have HHD:=zB (show Calls Tryz.prog 13 #[v5,.int .i64 1] w11 _ from zDi v5 1 out w11 (by omega) (zA HM3) (by omega) (zA HK).1 hmt)
 rw [<- zA HM0] at HHD
 clear hb11 HT10 HMK hmt
 go_wp2_with fail
 (with_reducible refine (zA HHD).mono ?_)
 rintro e w12 ⟨rfl,hb12⟩
 have HB12:=zB ((zA HB11).trans (hb12.mono (zA HB11).size))
 have HC12:=zB ((zA HC11).trans (hb12.mono (zA HC11).size))
 have HT12:=zB ((zA HT11).below hb12)
 have HTO:=zB (zEZ a cap ms w12 hnx ((zA HA).below (zA HB12)))
 clear hb12 HHD HT11
 go_wp2_with fail
 (with_reducible refine (zA HTO).mono ?_)
 rintro e w13 ⟨⟨g13,rfl,hg13,hf13⟩,hb13⟩
 have HB13:=zB ((zA HB12).trans (hb13.mono (zA HB12).size))
 have HC13:=zB ((zA HC12).trans (hb13.mono (zA HC12).size))
 have HT13:=zB ((zA HT12).below hb13)
 have HIM:=zB (zDh (some ⟨g13,0,none⟩) ms.length ms w13 (fun hn=>⟨hn,hf13.arg,zA HZ,(zA HM).below (zA HB13)⟩) (zA HL))
 clear hb13 hf13 hg13 HTO HT12
 go_wp2_with fail
 (with_reducible refine (zA HIM).mono ?_)
 rintro e w14 ⟨v14,rfl,HT14,hb14⟩
 have HB14:=zB ((zA HB13).trans (hb14.mono (zA HB13).size))
 have HC14:=zB ((zA HC13).trans (hb14.mono (zA HC13).size))
 have HQ14:=zB ((zA HT13).below hb14)
 have HEQ:=zB (zDw v14 v3 out w14 (by omega) (zA HM3) (zA HT14).at' ((zA HT3).at'.below (zA HC14)))
 clear hb14 HIM HT13
 go_wp2_with fail
 (with_reducible refine (zA HEQ).mono ?_)
 rintro e w15 ⟨rfl,hb15⟩
 have HB15:=zB ((zA HB14).trans (hb15.mono (zA HB14).size))
 have HHD:=zB (show Calls Tryz.prog 13 #[v5,.int .i64 1] w15 _ from zDi v5 1 out w15 (by omega) (zA HM3) (by omega) (zA HK).1 ((zA HQ14).below hb15))
 rw [<- zA HM0] at HHD
 clear hb15 HEQ HQ14
 go_wp2_with fail
 (with_reducible refine (zA HHD).mono ?_)
 rintro e w16 ⟨rfl,hb16⟩
 have HB16:=zB ((zA HB15).trans (hb16.mono (zA HB15).size))
 clear hb16 HHD
 go_wp2
 go_ret
 exact ⟨rfl,zA HB16⟩
end Go.Proofs.YtokabkhnidlcnacGreatDoor
namespace Go.Proofs.YtokabkhnidlcnacGreatDoor
set_option maxHeartbeats 16000000
set_option maxRecDepth 100000
open Go.ChangeShapes Go.WideShapes Go.ChangeAt Go.RowKit Go.Joins
open Go.Deep (trod_struct3)
theorem OpnM.cells9:Tryz.prog.cellsOf 9 = 1:=by kernel_rfl
theorem OpnM.cellsE:Tryz.prog.cellsOf 48 = 2:=by kernel_rfl
def zOC (o:zJ):Prop:=o.n.size <= maxLen /\ o.t.size <= maxLen
def zEa (xs:List zJ):Prop:=∀ i,i < xs.length -> zOC (atM xs i)
theorem zEa.sized {xs:List zJ} (h:zEa xs):zEg xs:=fun i hi=>⟨(h i hi).1,(h i hi).2⟩
section
variable {H : Type} {enc : TypeId × Value → H} {W : World} {base : Nat} {spare : Nat → Bool} {held : Bool}
theorem zOD {n:Nat} {cs:List Value} {x:DataW H × List MemPlace} (h:DataW.trod enc Tryz.prog W base spare held n 48 cs = some x) :
  ∃ o:zJ,cs = [.string o.n,.string o.t] /\ zOC o:=by
 obtain ⟨y0,y1,m,_,hlen,g0,g1⟩:=trod_struct2 Tryz.underlying48 h
 rw [OpnM.cellsE] at hlen
 match cs,hlen with
 | [c0,c1],_=>
  simp only [OpnM.cells9] at g0 g1
  obtain ⟨v0,e0,_,w0⟩:=DataW.trod_string Tryz.underlying9 g0
  obtain ⟨v1,e1,_,w1⟩:=DataW.trod_string Tryz.underlying9 g1
  simp at e0 e1
  subst e0 e1
  exact ⟨⟨v0,v1⟩,rfl,w0,w1⟩
theorem zK1 {x:Addr} {v:Value} (h:W.cell? (x.add 0) = some v):x = ⟨x.block,x.off,none⟩:=by
 obtain ⟨b,off,spot⟩:=x
 have hs:spot = none:=by
  have:=World.cell?_spot h
  simpa [Addr.add] using this
 subst hs
 rfl
theorem zK2 {fuel:Nat} {cs:List Value} {x:DataW H × List MemPlace} (h:DataW.trod enc Tryz.prog W 0 (fun _=>true) held fuel 22 cs = some x) :
  ∃ (a:Option Addr) (cap:Nat) (xs:List zJ),cs = [.slice a xs.length cap] /\ xs.length <= maxLen /\ zBz W a xs /\ zEa xs:=by
 rcases Go.Deep.open_slice Tryz.underlying22 h with ⟨rfl,_⟩ | ⟨a,len,cap,m,n,D,Pl,rfl,_,hl,hm,hmm,_,hx⟩
 ·exact ⟨none,0,[],rfl,Nat.zero_le _,Or.inl rfl,fun i hi=>absurd hi (Nat.not_lt_zero i)⟩
 have hlm:len <= m:=by rw [hmm]; simpa using hl
 rw [OpnM.cellsE] at hx
 have each:∀ i,i < len -> ∃ o:zJ,(W.cell? (a.add (i * 2)) = some (.string o.n) /\ W.cell? (a.add (i * 2 + 1)) = some (.string o.t)) /\ zOC o:=by
  intro i hi
  obtain ⟨cs',h1,h2⟩:=hx i (by omega)
  obtain ⟨_,hlen,hcell⟩:=World.cells?_some h1
  obtain ⟨o,rfl,ho⟩:=zOD h2
  have e0:=hcell 0 (by omega)
  have e1:=hcell 1 (by omega)
  rw [Go.Deep.add_add] at e0 e1
  exact ⟨o,⟨by simpa using e0,by simpa using e1⟩,ho⟩
 obtain ⟨f,hf⟩:=@Go.Deep.choose_lt zJ ⟨zJ.zero⟩ len _ each
 have hlx:((List.range len).map f).length = len:=by simp
 have hat:∀ i,i < len -> atM ((List.range len).map f) i = f i:=fun i hi=>by simp [atM,hi]
 refine ⟨some a,cap,(List.range len).map f,by rw [hlx],by rw [hlx]; omega,?_,fun i hi=>by rw [hlx] at hi; rw [hat i hi]; exact (hf i hi).2⟩
 by_cases h0:len = 0
 ·exact Or.inl (by rw [hlx]; exact h0)
 ·have hs:=zK1 (show W.cell? (a.add 0) = _ from (hf 0 (by omega)).1.1)
  refine Or.inr ⟨a.block,a.off,by rw [<- hs],fun i hi=>?_,?_⟩
  ·rw [hlx] at hi
   obtain ⟨⟨e0,e1⟩,_⟩:=hf i hi
   rw [hs,Addr.add_mid] at e0 e1
   unfold zEf
   rw [hat i hi]
   exact ⟨e0,by simpa [Nat.add_assoc] using e1⟩
  ·have:=block_lt_of_cell (show W.cell? (a.add 0) = _ from (hf 0 (by omega)).1.1)
   simpa [Addr.add] using this
end
end Go.Proofs.YtokabkhnidlcnacGreatDoor
namespace Go.Proofs.YtokabkhnidlcnacGreatDoor
set_option linter.unusedVariables false
set_option maxHeartbeats 16000000
set_option maxRecDepth 100000
open Go Go.ChangeShapes Go.WideShapes Go.ChangeAt Go.RowKit Go.Joins
theorem TrP.own:ownKnob Tryz.prog.godebug = none:=by kernel_rfl
theorem TrP.laidOut:laidOutB Tryz.prog = true:=by kernel_rfl
theorem zPf {W:World} (h:W.ShapedOpen Tryz.prog):zEy W:=
 cell_of_shapedOpen_int (g:=0) (t:=3) (zero:=#[.int .i64 0]) h (of_decide_eq_true (by kernel_rfl)) (by kernel_rfl) rfl (by kernel_rfl) (by kernel_rfl) Tryz.underlying3
theorem TrP.lifted (os:Os) (started:os.Started) (H:Type) (enc:TypeId × Value -> H) :
  ReturnsInHanded {} Tryz.checked os 3 .any (fun w args=>(Rows.fnExactTreesSpec.pre enc Tryz.prog Tryz.f3 Rows.fnExactTreesRow.domain false w args /\ laidMetH Tryz.prog Rows.fnExactTreesRow.laid w) /\ sizedMet enc Tryz.prog Tryz.f3 (OpenSpec.ofChange Rows.fnExactTreesSpec) false w args)
   (Rows.fnExactTreesSpec.post enc Tryz.prog Tryz.f3 false true false false):=by
 refine returnsInHanded_of_calls (C:=Tryz.checked) TrP.own started (by kernel_rfl)
  (ChangeSpec.witness_shaped (enc:=enc) (C:=Tryz.checked) (os:=os) (X:=fun w _=>laidMetH Tryz.prog Rows.fnExactTreesRow.laid w) false (World.laidAll Tryz.prog os Rows.fnExactTreesRow.laid) #[.slice none 0 0] 8 (World.laidAll_os _ _ _)
   (World.shaped_of_ZipB (by kernel_rfl) (by kernel_rfl)) (by kernel_rfl) (by kernel_rfl) (by kernel_rfl)
   (by rw [MakeChecks.laidMetH_plain _ _ _ (by kernel_rfl)]; exact laidMet_laidAll _ (by kernel_rfl) (by kernel_rfl))) ?_
 intro w tape i _ hsh _ hok hpre _
 obtain ⟨_,_,_,fn',hfn',_,_,_,_,hval0⟩:=hok
 obtain rfl:fn' = Tryz.f3:=Option.some.inj (hfn'.symm.trans Tryz.func3)
 obtain ⟨⟨⟨ds,gs,before,hw,_⟩,_⟩,_⟩:=hpre
 have hW:=DataW.Whole.of_heap (w':=w.forCall tape i) (by rfl) hw
 suffices hc:Calls Tryz.prog 3 i.args (w.forCall tape i) fun e W'=>∃ v,e = .returned v /\ Rows.fnExactTreesSpec.post enc Tryz.prog Tryz.f3 false true false false (w.forCall tape i) i.args v W' from
  hc.mono fun e W' ⟨v,he,hp⟩=>by
   subst he
   exact ChangeSpec.post_blind hp
 generalize w.forCall tape i = W at *
 generalize i.args = args at *
 have hval:∀ (j:Nat) t v,Tryz.f3.params[j]? = some t -> args[j]? = some v -> Value.okWide Tryz.prog W .any w.heap.size t v:=hval0
 have hW':=hW
 obtain ⟨p,q,hA0,hV,rfl,hfz,hnd⟩:=hW
 have hA:DataW.TrodAll enc Tryz.prog W 0 (fun _=>true) true Tryz.f3.params.toList args.toList ds p:=hA0
 rw [Tryz.params3] at hA hval
 obtain ⟨v0,vs0,d0,ds0,p0,q0,hargs,rfl,rfl,h0,r0⟩:=trodAll_cons hA
 obtain ⟨rfl,rfl,rfl⟩:=trodAll_nil r0
 obtain rfl:args = #[v0]:=by cases args; simp_all
 obtain ⟨rfl,rfl⟩:=trodVars_none hV
 have k0:=h0
 have lt0:∀ x ∈ p0,x.block < W.heap.size:=by obtain ⟨m,hm⟩:=k0; exact DataW.trod_lt m _ _ _ hm
 obtain ⟨a,len,cap,rfl⟩:=okWide_slice Tryz.underlying22 (hval 0 22 v0 rfl rfl)
 obtain ⟨a',cap',ms,e,h1,h2,h3⟩:∃ (a':Option Addr) (cap':Nat) (ms:List zJ),[Value.slice a len cap] = [.slice a' ms.length cap'] /\ ms.length <= maxLen /\ zBz W a' ms /\ zEa ms:=by
  obtain ⟨fuel,hf⟩:=h0
  exact zK2 hf
 simp at e
 obtain ⟨rfl,rfl,rfl⟩:=e
 clear hA0 hval0
 refine (zOB a cap ms W h1 h2 h3.sized (zPf hsh)).mono fun e W' ⟨he,bel⟩=>?_
 subst he
 exact ⟨_,rfl,_,_,_,[],_,[],hW',trodAll_mk1 (shut_bool Tryz.underlying4 _),(trodAll_cons_mk (Below.trod TrP.laidOut (by kernel_rfl) (of_decide_eq_true (by kernel_rfl)) k0 bel lt0) trodAll_mk0),rfl,bel.frame _,fun h=>by cases h⟩
theorem zMS:Rows.FnExactTreesSaid:=
 OpenClaim.holds_of_wide 3 Tryz.f3 rfl rfl rfl rfl rfl rfl rfl ⟨rfl,rfl,rfl,rfl,rfl⟩ rfl rfl rfl rfl rfl (by kernel_rfl) Tryz.func3 (by kernel_rfl)
  (of_decide_eq_true (by kernel_rfl)) (by unfold Func.isWrapper; first | (rw [if_pos (by decide +kernel)]; kernel_rfl) | (rw [if_neg (by decide +kernel)]; exact ⟨rfl,rfl⟩))
  (fun os started H enc _=>TrP.lifted os started H enc)
theorem trees_holds:Rows.FnExactTreesCardSaid:=
 Claim7.holds_tied_plain_at .later [] [.data,.data,.data,.data,.sentinel,.sentinel,.pinned] true Rows.fnExactTreesCard.stood.harness true
  zMS (fun _ h=>by cases h) (by kernel_rfl) (fun _ h=>by cases h) fnExactTrees_row_tie rfl ⟨rfl,rfl⟩ (by kernel_rfl) rfl
  (fun f fn hf hfn=>by
   obtain rfl:f = 3:=Option.some.inj ((show Tryz.prog.funcNamed "loop.example/s0059/laws.FnExactTrees" = some 3 by kernel_rfl).symm.trans hf) |>.symm
   obtain rfl:fn = Tryz.f3:=(Option.some.inj (Tryz.func3.symm.trans hfn)).symm
   exact ⟨by kernel_rfl,fun j t ht=>by
    rw [Tryz.params3] at ht
    have hm:t ∈ [22]:=by simpa using Array.mem_of_getElem? ht
    have hall:([22].all fun u=>!Tryz.prog.wantsStandIn u) = true:=by kernel_rfl
    exact (show Tryz.prog.wantsStandIn t = false by simpa using List.all_eq_true.1 hall t hm)⟩)
  (by kernel_rfl)
#print axioms trees_holds
end Go.Proofs.YtokabkhnidlcnacGreatDoor
