import Derived.Deep.QuietTactic
import Derived.BigQuiet
import Derived.WalkSmall
import Derived.OwnWalk
import Derived.Laws.OwnMore
import Derived.Lib.SplitLaws
import Derived.Test.YtokabkhnidlcnacGreatDoorM00
import Derived.Test.YtokabkhnidlcnacGreatDoorM01
namespace Go.Proofs.YtokabkhnidlcnacGreatDoor
set_option maxHeartbeats 16000000
set_option maxRecDepth 100000
open Go.RowKit
def srt (k sd:Int):Int:=if k = 1 then 2 else if k = 3 then 1 else sd
theorem zDm (s:ByteArray) (k l sd:Int) (w:World) :
  Calls Tryz.prog 107 #[.agg #[.string s,.int .i64 k,.int .i64 l,.int .i64 sd]] w fun e w'=>e = .returned (.int .i64 (srt k sd)) /\ Below w.heap.size w w':=by
 by_cases h1:k = 1
 ·have h1':(k == 1) = true:=by simpa using h1
  have H:=zB h1
  clear h1
  go_enter Tryz.func107,Tryz.ntmps107
  go_wp2
  go_ret
  exact ⟨zG (by simp [srt,zA H]),zC _ _⟩
 ·by_cases h3:k = 3
  ·have h1':(k == 1) = false:=by simpa using h1
   have h3':(k == 3) = true:=by simpa using h3
   have H:=zB h3
   clear h3 h1
   go_enter Tryz.func107,Tryz.ntmps107
   go_wp2
   go_ret
   exact ⟨zG (by simp [srt,zA H]),zC _ _⟩
  ·have h1':(k == 1) = false:=by simpa using h1
   have h3':(k == 3) = false:=by simpa using h3
   go_enter Tryz.func107,Tryz.ntmps107
   go_wp2
   go_ret
   exact ⟨zG (by simp [srt,h1,h3]),zC _ _⟩
theorem zPu {s:ByteArray} {k l sd:Int} (h:okB s k l sd = true) :
  (k = 3 \/ sd = 1 -> srt k sd = 1) /\ (¬ (k = 3 \/ sd = 1) -> (k = 1 \/ sd = 2) -> srt k sd = 2) /\ (¬ (k = 3 \/ sd = 1) -> ¬ (k = 1 \/ sd = 2) -> srt k sd = 3):=by
 obtain ⟨_,h⟩:=zA7 s k l sd h
 unfold srt
 rcases h with ⟨rfl,rfl⟩ | ⟨rfl,rfl⟩ | ⟨rfl,rfl⟩ | ⟨rfl,rfl⟩ | ⟨rfl,rfl⟩ <;> decide
theorem zFt (s:ByteArray) (k l sd:Int) (w:World) (ho:okB s k l sd = true) :
  Calls Tryz.prog 183 #[.agg #[.string s,.int .i64 k,.int .i64 l,.int .i64 sd]] w fun e w'=>e = .returned (.int .i64 (srt k sd)) /\ Below w.heap.size w w':=by
 have ho':=zB (zPu ho)
 clear ho
 go_enter Tryz.func183,Tryz.ntmps183
 go_wp2
 all_goals (go_ret; refine ⟨zG ?_,zC _ _⟩; obtain ⟨p1,p2,p3⟩:=zA ho'; go_light; (try simp only [beq_iff_eq,beq_eq_false_iff_ne,ne_eq] at *); first | (rw [p1 (by omega)]) | (rw [p2 (by omega) (by omega)]) | (rw [p3 (by omega) (by omega)]))
theorem zHz (s t:ByteArray) (k l sd k' l' sd':Int) (w:World) :
  Calls Tryz.prog 60 #[.agg #[.string s,.int .i64 k,.int .i64 l,.int .i64 sd],.agg #[.string t,.int .i64 k',.int .i64 l',.int .i64 sd'],.int .i64 3] w fun e w'=>(∃ v,e = .returned (.bool v) /\ (v = true ↔ (s = t /\ (k = 1 ↔ k' = 1)))) /\ Below w.heap.size w w':=by
 go_enter Tryz.func60,Tryz.ntmps60
 go_wp2
 ·go_ret
  refine ⟨⟨_,rfl,?_⟩,(zC _ _).alloc (by simp) _⟩
  go_light
  have e:=zFo ‹_›
  rw [beq_iff_eq,Bool.eq_iff_iff]
  simp [e]
 ·go_ret
  refine ⟨⟨_,rfl,?_⟩,(zC _ _).alloc (by simp) _⟩
  go_light
  have e:s ≠ t:=fun e=>(‹¬ s.toList = t.toList›) (by rw [e])
  simp [e]
theorem zLp {w W w1:World} (hb:Below W.heap.size W w1) (h:w.heap.size + 1 < W.heap.size) (hB:Below w.heap.size w W) :
  (∀ o,w1.cell? ⟨w.heap.size,o,none⟩ = W.cell? ⟨w.heap.size,o,none⟩) /\ (∀ o,w1.cell? ⟨w.heap.size + 1,o,none⟩ = W.cell? ⟨w.heap.size + 1,o,none⟩) /\ w.heap.size + 1 < w1.heap.size /\ Below w.heap.size w w1:=
 ⟨fun _=>hb.cell (p:=⟨_,_,none⟩) (show w.heap.size < _ by omega),fun _=>hb.cell (p:=⟨_,_,none⟩) h,Nat.lt_of_lt_of_le h hb.size,hB.trans (hb.mono (by omega))⟩
theorem zH0 (s t:ByteArray) (k l sd k' l' sd':Int) (w:World) :
  Calls Tryz.prog 60 #[.agg #[.string s,.int .i64 k,.int .i64 l,.int .i64 sd],.agg #[.string t,.int .i64 k',.int .i64 l',.int .i64 sd'],.int .i64 4] w fun e w'=>(∃ v,e = .returned (.bool v) /\ (v = true ↔ (l = l' /\ srt k sd ≠ srt k' sd'))) /\ Below w.heap.size w w':=by
 by_cases hl:l = l'
 ·have hl':(l == l') = true:=by simpa using hl
  have H:=zB hl
  clear hl
  go_enter Tryz.func60,Tryz.ntmps60
  go_wp2_with fail
  go_region_held (fun w'=>(w'.cell? ⟨w.heap.size,0,none⟩ = some (.string s) /\ w'.cell? ⟨w.heap.size,1,none⟩ = some (.int .i64 k) /\ w'.cell? ⟨w.heap.size,2,none⟩ = some (.int .i64 l) /\ w'.cell? ⟨w.heap.size,3,none⟩ = some (.int .i64 sd)) /\
   (w'.cell? ⟨w.heap.size + 1,0,none⟩ = some (.string t) /\ w'.cell? ⟨w.heap.size + 1,1,none⟩ = some (.int .i64 k') /\ w'.cell? ⟨w.heap.size + 1,2,none⟩ = some (.int .i64 l') /\ w'.cell? ⟨w.heap.size + 1,3,none⟩ = some (.int .i64 sd'))) (go_keep)
   (first | (go_at_call 107; refine (zDm _ _ _ _ _).mono ?_; rintro e w1 ⟨rfl,hb1⟩; obtain ⟨t0,t1,z1,hB⟩:=zLp (w:=w) hb1 (by first | assumption | (simp [heap_drew]; done)) (by first | assumption | exact ((zC _ _).alloc (by simp) _).drew)))
  go_wp2
  go_ret
  refine ⟨⟨_,rfl,?_⟩,hB⟩
  have e:=zA H
  simp [e]
 ·have hl':(l == l') = false:=by simpa using hl
  go_enter Tryz.func60,Tryz.ntmps60
  go_wp2_with fail
  go_quiet (fail)
  go_wp2
  go_ret
  refine ⟨⟨_,rfl,?_⟩,below_drewN ((zC _ _).alloc (by simp) _) _⟩
  simp [hl]
def cl (c:Int) (a b:OpR):Prop:=if c = 3 then (a.s = b.s /\ (a.k = 1 ↔ b.k = 1)) else (a.l = b.l /\ srt a.k a.sd ≠ srt b.k b.sd)
theorem zIx (a b:OpR) (c:Int) (w:World) (hc:c = 3 \/ c = 4) :
  Calls Tryz.prog 60 #[.agg #[.string a.s,.int .i64 a.k,.int .i64 a.l,.int .i64 a.sd],.agg #[.string b.s,.int .i64 b.k,.int .i64 b.l,.int .i64 b.sd],.int .i64 c] w fun e w'=>(∃ v,e = .returned (.bool v) /\ (v = true ↔ cl c a b)) /\ Below w.heap.size w w':=by
 rcases hc with rfl | rfl
 ·exact zHz _ _ _ _ _ _ _ _ _
 ·exact zH0 _ _ _ _ _ _ _ _ _
def Pr (c:Int) (xs:List OpR):Prop:=∃ i j,j < i /\ i < xs.length /\ cl c (atO xs i) (atO xs j)
def zFu (c:Int) (xs:List OpR) (k:Nat):Prop:=∀ i j,j < i -> i < k -> ¬ cl c (atO xs i) (atO xs j)
theorem zEh {c:Int} {xs:List OpR} {k:Nat} (h:zFu c xs k) (hk:∀ j,j < k -> ¬ cl c (atO xs k) (atO xs j)):zFu c xs (k + 1):=by
 intro i j hj hi
 by_cases e:i = k
 ·subst e; exact hk j hj
 ·exact h i j hj (by omega)
theorem zFv {c:Int} {xs:List OpR} (h:zFu c xs xs.length):¬ Pr c xs:=fun ⟨i,j,hj,hi,hc⟩=>h i j hj hi hc
def zL (xs:List OpR) (c:Int):Prop:=
 (c = 1 /\ 500 < xs.length) \/ (xs.length <= 500 /\ ((c = 2 /\ ¬ zBx xs xs.length) \/ (zBx xs xs.length /\ ((c = 3 /\ Pr 3 xs) \/ (¬ Pr 3 xs /\ ((c = 4 /\ Pr 4 xs) \/ (c = 0 /\ ¬ Pr 4 xs)))))))
theorem zAV {xs:List OpR} {c c':Int} (h:zL xs c) (h':zL xs c'):c = c':=by
 unfold zL at h h'
 by_cases a:500 < xs.length
 ·have a':¬ xs.length <= 500:=by omega
  simp only [a,a',and_true,false_and,or_false] at h h'
  omega
 ·have a':xs.length <= 500:=by omega
  by_cases b:zBx xs xs.length
  ·by_cases p3:Pr 3 xs
   ·simp only [a,a',b,p3,and_true,and_false,true_and,false_and,or_false,false_or,not_true] at h h'
    omega
   ·by_cases p4:Pr 4 xs
    ·simp only [a,a',b,p3,p4,and_true,and_false,true_and,or_false,false_or,not_true,not_false_iff] at h h'
     omega
    ·simp only [a,a',b,p3,p4,and_true,and_false,true_and,false_or,not_true,not_false_iff] at h h'
     omega
  ·simp only [a,a',b,and_true,and_false,true_and,false_and,or_false,false_or,not_false_iff] at h h'
   omega
structure Bx (w:World) (b off cap:Nat) (xs:List OpR) (wr:World):Prop where
 box:wr.cell? ⟨w.heap.size,0,none⟩ = some (.slice (some ⟨b,off,none⟩) xs.length cap)
 ops:Ops wr b off xs
 lt:w.heap.size < wr.heap.size
 blt:b < wr.heap.size
 bel:Below w.heap.size w wr
theorem Bx.step {w:World} {b off cap:Nat} {xs:List OpR} {wr w':World} (h:Bx w b off cap xs wr) (hb:Below wr.heap.size wr w'):Bx w b off cap xs w':=
 ⟨(hb.cell (p:=⟨_,_,none⟩) h.lt).trans h.box,h.ops.below hb h.blt,Nat.lt_of_lt_of_le h.lt hb.size,Nat.lt_of_lt_of_le h.blt hb.size,h.bel.trans (hb.mono (Nat.le_of_lt h.lt))⟩
theorem Bx.drew {w:World} {b off cap:Nat} {xs:List OpR} {wr:World} (h:Bx w b off cap xs wr):Bx w b off cap xs wr.drew:=
 h.step (Below.refl _ _).drew
theorem Bx.start {w:World} {b off cap:Nat} {xs:List OpR} (h:Ops w b off xs) (hB:b < w.heap.size) (t:TypeId):Bx w b off cap xs (w.alloc (.cells #[.slice (some ⟨b,off,none⟩) xs.length cap] t)):=
 ⟨by simp [go_sem],h.below (zC _ _) hB,by simp,by simp; omega,zC _ _⟩
end Go.Proofs.YtokabkhnidlcnacGreatDoor
namespace Go.Proofs.YtokabkhnidlcnacGreatDoor
set_option linter.unusedSimpArgs false
set_option linter.unusedVariables false
set_option maxHeartbeats 16000000
set_option maxRecDepth 100000
structure UnR where
 us:List ByteArray
 os:List OpR
 b:ByteArray
def atU (U:List UnR) (i:Nat):UnR:=U.getD i ⟨[],[],ByteArray.empty⟩
def nmF:List zJ -> ByteArray -> Nat
 | [],_=>0
 | m :: r,u=>if m.n = u then 0 else nmF r u + 1
theorem zEi:∀ (ms:List zJ) (u:ByteArray),nmF ms u <= ms.length
 | [],_=>Nat.le_refl _
 | m :: r,u=>by
  unfold nmF
  split
  ·exact Nat.zero_le _
  ·have:=zEi r u; simp; omega
theorem zIy (m:zJ) (r:List zJ) (i:Nat):atM (m :: r) (i + 1) = atM r i:=by simp [atM]
theorem Zz:∀ (ms:List zJ) (u:ByteArray),(nmF ms u < ms.length -> (atM ms (nmF ms u)).n = u) /\ ∀ j,j < nmF ms u -> (atM ms j).n ≠ u
 | [],_=>⟨fun h=>absurd h (Nat.not_lt_zero _),fun j h=>absurd h (Nat.not_lt_zero _)⟩
 | m :: r,u=>by
  obtain ⟨h1,h2⟩:=Zz r u
  unfold nmF
  by_cases e:m.n = u
  ·rw [if_pos e]
   exact ⟨fun _=>e,fun j h=>absurd h (Nat.not_lt_zero _)⟩
  ·rw [if_neg e]
   refine ⟨fun h=>?_,fun j h=>?_⟩
   ·rw [zIy]
    exact h1 (by simpa using h)
   ·cases j with
    | zero=>exact e
    | succ j=>rw [zIy]; exact h2 j (by omega)
theorem zK9 {ms:List zJ} {u:ByteArray} {k:Nat} (hk:k < ms.length) (h1:(atM ms k).n = u) (h2:∀ j,j < k -> (atM ms j).n ≠ u):nmF ms u = k:=by
 obtain ⟨g1,g2⟩:=Zz ms u
 have hle:=zEi ms u
 rcases Nat.lt_trichotomy (nmF ms u) k with h | h | h
 ·exact absurd (g1 (by omega)) (h2 _ h)
 ·exact h
 ·exact absurd h1 (g2 k h)
theorem zMj {ms:List zJ} {u:ByteArray} (h:∀ j,j < ms.length -> (atM ms j).n ≠ u):nmF ms u = ms.length:=by
 have hle:=zEi ms u
 by_cases e:nmF ms u < ms.length
 ·exact absurd ((Zz ms u).1 e) (h _ e)
 ·omega
def zAL (ms:List zJ) (U:List UnR):Prop:=U.length = ms.length /\ ∀ i,i < ms.length -> zq (atM ms i).t (atU U i).us (atU U i).os (atU U i).b 0 0
def B2 (ms:List zJ) (i:Nat):Prop:=(∃ us os b c l,zq (atM ms i).t us os b c l /\ c ≠ 0) \/ ¬ zAx (atM ms i).n \/ 64 < (atM ms i).n.size
def B3 (ms:List zJ) (i:Nat):Prop:=∃ j,j < i /\ (atM ms j).n = (atM ms i).n
def B4 (ms:List zJ) (U:List UnR) (i:Nat):Prop:=∃ u ∈ (atU U i).us,∀ j,j < ms.length -> (atM ms j).n ≠ u
def Edg (ms:List zJ) (U:List UnR) (i j:Nat):Prop:=i < ms.length /\ j < ms.length /\ (atM ms j).n ∈ (atU U i).us
def ScE (ms:List zJ) (U:List UnR) (S:Nat -> List OpR):Prop:=∀ i,i < ms.length -> S i = Zb (nmF ms) S (zO [] (atU U i).os) (atU U i).us
def B6 (S:Nat -> List OpR) (i:Nat):Prop:=∃ c,zL (S i) c /\ c ≠ 0
def zBe (n:Nat) (B:Nat -> Prop) (P:Nat -> Prop) (R:Prop):Prop:=(∃ i,i < n /\ B i /\ (∀ j,j < i -> ¬ B j) /\ P i) \/ ((∀ i,i < n -> ¬ B i) /\ R)
def zQV (ms:List zJ) (U:List UnR) (out:List (List OpR)) (c who:Int):Prop:=
 ∃ S:Nat -> List OpR,ScE ms U S /\ zBe ms.length (B6 S) (fun i=>out = [] /\ c = 6 /\ who = (i:Int)) (out = (List.range ms.length).map S /\ c = 0 /\ who = 0)
def zMk (ms:List zJ) (U:List UnR) (out:List (List OpR)) (c who:Int):Prop:=
 zBe ms.length (fun i=>TC (Edg ms U) i i) (fun i=>out = [] /\ c = 5 /\ who = (i:Int)) (zQV ms U out c who)
def zPg (ms:List zJ) (out:List (List OpR)) (c who:Int):Prop:=
 ∃ U,zAL ms U /\ zBe ms.length (B4 ms U) (fun i=>out = [] /\ c = 4 /\ who = (i:Int)) (zMk ms U out c who)
def zMl (ms:List zJ) (out:List (List OpR)) (c who:Int):Prop:=
 zBe ms.length (B3 ms) (fun i=>out = [] /\ c = 3 /\ who = (i:Int)) (zPg ms out c who)
def zAj (ms:List zJ) (out:List (List OpR)) (c who:Int):Prop:=
 (100 < ms.length /\ out = [] /\ c = 1 /\ who = 100) \/ (ms.length <= 100 /\ zBe ms.length (B2 ms) (fun i=>out = [] /\ c = 2 /\ who = (i:Int)) (zMl ms out c who))
theorem ScE.nd {ms:List zJ} {U:List UnR} {S:Nat -> List OpR} (h:ScE ms U S) {i:Nat} (hi:i < ms.length):(S i).Nodup:=by
 rw [h i hi]
 exact zC4 _ _ _ _ (Z1 _ _ (by simp))
theorem zFB (l:ByteArray):∀ (n i:Nat),l.size - i < n -> i <= l.size -> 2 * (zBP l i).length <= l.size - i + 1
 | 0,i,hn,hi=>by omega
 | n + 1,i,hn,hi=>by
  obtain ⟨g1,g2,_,_⟩:=zAJ 32 l i hi
  rw [zCc l i hi,List.length_append]
  have hr:2 * (if nx 32 l i < l.size then zBP l (nx 32 l i + 1) else []).length <= l.size - nx 32 l i:=by
   by_cases h:nx 32 l i < l.size
   ·rw [if_pos h]
    have:=zFB l n (nx 32 l i + 1) (by omega) (by omega)
    omega
   ·rw [if_neg h]; simp
  by_cases h:i < nx 32 l i
  ·rw [if_pos h]; simp only [List.length_cons,List.length_nil]; omega
  ·rw [if_neg h]; simp only [List.length_nil]; omega
theorem zOM (l:ByteArray):2 * (wds l).length <= l.size + 1:=by
 have:=zFB l (l.size + 1) 0 (by omega) (Nat.zero_le _)
 rw [zMZ]
 omega
def zHM (ls:List (Nat × Nat)):Nat:=(ls.map fun p=>p.2 - p.1).sum
theorem zLA (c:UInt8) (s:ByteArray):∀ (n a:Nat),s.size - a < n -> a <= s.size -> zHM (pcs c s a) <= s.size - a
 | 0,a,hn,ha=>by omega
 | n + 1,a,hn,ha=>by
  obtain ⟨g1,g2,_,_⟩:=zAJ c s a ha
  rw [zA8 c s a ha]
  simp only [zHM,List.map_cons,List.sum_cons]
  by_cases h:nx c s a < s.size
  ·rw [if_pos h]
   have:=zLA c s n (nx c s a + 1) (by omega) (by omega)
   simp only [zHM] at this
   omega
  ·rw [if_neg h]; simp; omega
theorem zPv (s:ByteArray) (a b:Nat):(s.extract a b).size <= b - a:=by
 simp only [ByteArray.size_extract]; omega
theorem UnF.ops {s:ByteArray}:∀ (ls:List (Nat × Nat)) (n:Nat) (us:List ByteArray) (os:List OpR) {u:List ByteArray} {o:List OpR} {b:ByteArray} {c l:Int},UnF s ls n us os u o b c l -> 5 * o.length <= 5 * os.length + zHM ls /\ (c = 0 -> l = 0)
 | [],n,us,os,_,_,_,_,_,h=>by
  obtain ⟨rfl,rfl,rfl,rfl,rfl⟩:=h
  exact ⟨by simp,fun _=>rfl⟩
 | p :: r,n,us,os,u,o,b,c,l,h=>by
  simp only [zHM,List.map_cons,List.sum_cons]
  rcases h with ⟨_,rfl,rfl,rfl,rfl,rfl⟩ | ⟨_,⟨us',os',hl,h⟩ | ⟨_,rfl,rfl,rfl,rfl,rfl⟩⟩
  ·exact ⟨by omega,fun _=>rfl⟩
  ·have ih:=UnF.ops r (n + 1) us' os' h
   refine ⟨?_,ih.2⟩
   have h1:=ih.1
   simp only [zHM] at h1
   rcases hl with ⟨_,rfl,rfl⟩ | ⟨x,_,rfl,rfl⟩ | ⟨o',ho,rfl,rfl⟩
   ·omega
   ·omega
   ·have h3:=ho.len
    have h4:=zOM (s.extract p.1 p.2)
    have h5:=zPv s p.1 p.2
    simp only [List.length_append,List.length_cons,List.length_nil] at h1
    omega
  ·exact ⟨by simp,fun e=>by cases e⟩
theorem zD3 {s:ByteArray} {u:List ByteArray} {o:List OpR} {b:ByteArray} {c l:Int} (h:zq s u o b c l):o.length <= 4000 /\ (c = 0 -> l = 0):=by
 rcases h with ⟨_,rfl,rfl,rfl,rfl,rfl⟩ | ⟨h0,h⟩
 ·exact ⟨by simp,fun e=>by cases e⟩
 ·have h1:=UnF.ops _ _ _ _ h
  have h2:=zLA 10 s (s.size + 1) 0 (by omega) (Nat.zero_le _)
  exact ⟨by simp only [List.length_nil] at h1; omega,h1.2⟩
theorem zLB (c:UInt8) (s:ByteArray):∀ (n a:Nat),s.size - a < n -> a <= s.size -> (pcs c s a).length <= s.size - a + 1
 | 0,a,hn,ha=>by omega
 | n + 1,a,hn,ha=>by
  obtain ⟨g1,g2,_,_⟩:=zAJ c s a ha
  rw [zA8 c s a ha,List.length_cons]
  by_cases h:nx c s a < s.size
  ·rw [if_pos h]
   have:=zLB c s n (nx c s a + 1) (by omega) (by omega)
   omega
  ·rw [if_neg h]; simp
theorem UnF.uses {s:ByteArray}:∀ (ls:List (Nat × Nat)) (n:Nat) (us:List ByteArray) (os:List OpR) {u:List ByteArray} {o:List OpR} {b:ByteArray} {c l:Int},UnF s ls n us os u o b c l -> u.length <= us.length + ls.length /\ ((∀ x ∈ us,x.size <= s.size) -> ∀ x ∈ u,x.size <= s.size)
 | [],n,us,os,_,_,_,_,_,h=>by
  obtain ⟨rfl,rfl,rfl,rfl,rfl⟩:=h
  exact ⟨by simp,fun _ x hx=>by cases hx⟩
 | p :: r,n,us,os,u,o,b,c,l,h=>by
  rcases h with ⟨_,rfl,rfl,rfl,rfl,rfl⟩ | ⟨_,⟨us',os',hl,h⟩ | ⟨_,rfl,rfl,rfl,rfl,rfl⟩⟩
  ·exact ⟨by simp,fun h=>h⟩
  ·have ih:=UnF.uses r (n + 1) us' os' h
   rcases hl with ⟨_,rfl,rfl⟩ | ⟨x,hx,rfl,rfl⟩ | ⟨o',ho,rfl,rfl⟩
   ·exact ⟨by have:=ih.1; simp; omega,ih.2⟩
   ·refine ⟨by have:=ih.1; simp at this ⊢; omega,fun h0=>ih.2 (fun z hz=>?_)⟩
    rcases List.mem_append.1 hz with hz | hz
    ·exact h0 z hz
    ·have hm:z ∈ wds (s.extract p.1 p.2):=by rw [hx]; simp at hz; subst hz; simp
     unfold wds at hm
     obtain ⟨q,_,rfl⟩:=List.mem_map.1 hm
     simp only [ByteArray.size_extract]
     omega
   ·exact ⟨by have:=ih.1; simp; omega,ih.2⟩
  ·exact ⟨by simp,fun _ x hx=>by cases hx⟩
theorem zCN {s:ByteArray} {u:List ByteArray} {o:List OpR} {b:ByteArray} {c l:Int} (h:zq s u o b c l):u.length <= 20001 /\ ∀ x ∈ u,x.size <= 20000:=by
 rcases h with ⟨_,rfl,rfl,rfl,rfl,rfl⟩ | ⟨h0,h⟩
 ·exact ⟨by simp,fun x hx=>by cases hx⟩
 ·have h1:=UnF.uses _ _ _ _ h
  have h2:=zLB 10 s (s.size + 1) 0 (by omega) (Nat.zero_le _)
  exact ⟨by simp only [List.length_nil] at h1; omega,fun x hx=>Nat.le_trans (h1.2 (fun y hy=>by cases hy) x hx) h0⟩
def ZE (U:List UnR):List OpR:=U.flatMap fun u=>u.os
theorem zDn:∀ (U:List UnR),(∀ u ∈ U,u.os.length <= 4000) -> (ZE U).length <= U.length * 4000
 | [],_=>by simp [ZE]
 | u :: r,h=>by
  have:=zDn r (fun x hx=>h x (by simp [hx]))
  have h1:=h u (by simp)
  simp only [ZE,List.flatMap_cons,List.length_append,List.length_cons] at *
  omega
theorem zD4 {U:List UnR} {i:Nat} (h:i < U.length):atU U i ∈ U:=by
 unfold atU
 rw [List.getD_eq_getElem?_getD,List.getElem?_eq_getElem h]
 exact List.getElem_mem h
theorem zFe {U:List UnR} {u:UnR} (h:u ∈ U):∃ i,i < U.length /\ atU U i = u:=by
 obtain ⟨i,hi,e⟩:=List.getElem_of_mem h
 refine ⟨i,hi,?_⟩
 unfold atU
 rw [List.getD_eq_getElem?_getD,List.getElem?_eq_getElem hi]
 exact e
theorem zAL.all {ms:List zJ} {U:List UnR} (h:zAL ms U) (hn:ms.length <= 100):(ZE U).length <= 400000:=by
 have:=zDn U (fun u hu=>by
  obtain ⟨i,hi,rfl⟩:=zFe hu
  exact (zD3 (h.2 i (by rw [<- h.1]; exact hi))).1)
 have h1:=h.1
 omega
theorem zMm {ms:List zJ} {i:Nat} (h:¬ B2 ms i) {us:List ByteArray} {os:List OpR} {b:ByteArray} {c l:Int} (hu:zq (atM ms i).t us os b c l):c = 0 /\ l = 0 /\ zAx (atM ms i).n /\ (atM ms i).n.size <= 64:=by
 unfold B2 at h
 have hc:c = 0:=by
  by_cases e:c = 0
  ·exact e
  ·exact absurd (Or.inl ⟨us,os,b,c,l,hu,e⟩) h
 refine ⟨hc,(zD3 hu).2 hc,?_,?_⟩
 ·by_cases e:zAx (atM ms i).n
  ·exact e
  ·exact absurd (Or.inr (Or.inl e)) h
 ·by_cases e:64 < (atM ms i).n.size
  ·exact absurd (Or.inr (Or.inr e)) h
  ·omega
end Go.Proofs.YtokabkhnidlcnacGreatDoor
namespace Go.Proofs.YtokabkhnidlcnacGreatDoor
set_option maxHeartbeats 16000000
set_option maxRecDepth 100000
open Go.RowKit
theorem zF {w w':World} (h:Below w.heap.size w w') (row:Option Nat):w.grownBy w' row:=⟨h.os,h.tape,h.output,h.size,fun i hi _=>h.block i hi⟩
theorem zT {w w1 w2:World} {row:Option Nat} (h:Below w.heap.size w w1) (h2:w1.grownBy w2 row):w.grownBy w2 row:=
 ⟨h2.os.trans h.os,h2.tape.trans h.tape,h2.output.trans h.output,Nat.le_trans h.size h2.size,fun i hi hr=>(h2.block i (Nat.lt_of_lt_of_le hi h.size) hr).trans (h.block i hi)⟩
theorem zl {w w1 w2:World} {row row':Option Nat} (h:w.grownBy w1 row) (h2:w1.grownBy w2 row') (hr:row' = row \/ ∃ k,row' = some k /\ w.heap.size <= k):w.grownBy w2 row:=
 ⟨h2.os.trans h.os,h2.tape.trans h.tape,h2.output.trans h.output,Nat.le_trans h.size h2.size,fun i hi hne=>(h2.block i (Nat.lt_of_lt_of_le hi h.size) (fun e=>by
  rcases hr with rfl | ⟨k,rfl,hk⟩
  ·exact hne e
  ·injection e with e; omega)).trans (h.block i hi hne)⟩
theorem zE {w w':World} {row:Option Nat} (h:w.grownBy w' row) {b:Nat} (hb:b < w.heap.size) (hne:row ≠ some b) (o:Nat):w'.cell? ⟨b,o,none⟩ = w.cell? ⟨b,o,none⟩:=
 World.cell?_of_block (w:=w) (h.block b hb (fun e=>hne e.symm))
theorem zBA {w w':World} {row row':Option Nat} (h:w.grownBy w' row) (hr:row' = row \/ ∃ k,row' = some k /\ w.heap.size <= k) (r:Option Nat) (hr2:r = row' \/ ∃ k,r = some k /\ w'.heap.size <= k):r = row \/ ∃ k,r = some k /\ w.heap.size <= k:=by
 have:=h.size
 rcases hr2 with rfl | ⟨k,rfl,hk⟩
 ·exact hr
 ·exact Or.inr ⟨k,rfl,by omega⟩
theorem zQ {t:TypeId} {z:Value} {s b:Nat} (h:(Tryz.prog.info? t).map (fun i=>(i.zero,i.size,i.bytes)) = some (some z,s,b)):∃ i,Tryz.prog.info? t = some i /\ i.zero = some z /\ i.size = s /\ i.bytes = b:=by
 obtain ⟨i,hi,hz⟩:=Option.map_eq_some_iff.1 h
 simp only [Prod.mk.injEq] at hz
 exact ⟨i,hi,hz.1,hz.2.1,hz.2.2⟩
end Go.Proofs.YtokabkhnidlcnacGreatDoor
namespace Go.Proofs.YtokabkhnidlcnacGreatDoor
set_option linter.unusedSimpArgs false
set_option linter.unusedVariables false
set_option maxHeartbeats 16000000
set_option maxRecDepth 100000
theorem zH1 {s:ByteArray} {j:Nat} (h:j < s.size):s.data.toList[j]? = some (bt s j):=by
 have h':j < s.data.size:=h
 unfold bt
 rw [Array.getElem?_toList,Array.getElem?_eq_getElem h']
 rfl
theorem zH2 (s:ByteArray) (c:UInt8) (j:Nat):Lib.occAt s.data.toList [c] j = decide (j < s.size /\ bt s j = c):=by
 unfold Lib.occAt
 by_cases h:j < s.size
 ·have hl:j < s.data.toList.length:=h
  have hb:=zH1 h
  rw [List.getElem?_eq_getElem hl] at hb
  injection hb with hb
  rw [List.drop_eq_getElem_cons hl,hb]
  rw [Bool.eq_iff_iff]
  simp [List.isPrefixOf,h]
  exact ⟨fun e=>e.symm,fun e=>e.symm⟩
 ·have hl:s.data.toList.length <= j:=Nat.le_of_not_lt h
  rw [List.drop_eq_nil_of_le hl]
  simp [List.isPrefixOf,h]
theorem zIz (s:ByteArray) (c:UInt8):(nx c s 0 < s.size -> Lib.indexB s ⟨#[c]⟩ = (nx c s 0:Int)) /\ (¬ nx c s 0 < s.size -> Lib.indexB s ⟨#[c]⟩ = -1):=by
 obtain ⟨h1,h2,h3,h4⟩:=zAJ c s 0 (Nat.zero_le _)
 constructor
 ·intro h
  refine Lib.index_first (s:=s.data.toList) (sub:=[c]) h2 ?_ (fun j hj=>?_)
  ·rw [zH2]; simpa using ⟨h,h4 h⟩
  ·rw [zH2]; simp only [decide_eq_false_iff_not]
   exact fun e=>h3 j (Nat.zero_le _) hj e.2
 ·intro h
  refine Lib.index_none (s:=s.data.toList) (sub:=[c]) (fun j hj=>?_)
  rw [zH2]; simp only [decide_eq_false_iff_not]
  exact fun e=>h3 j (Nat.zero_le _) (by omega) e.2
theorem Zp (s:ByteArray) (a b:Nat):(s.extract a b).size = min b s.size - a:=by
 simp [ByteArray.size_extract]
theorem zMn (s:ByteArray) (a b j:Nat) (h:j < min b s.size - a):bt (s.extract a b) j = bt s (a + j):=by
 have h1:j < (s.extract a b).size:=by rw [Zp]; exact h
 rw [<- zk h1,<- zk (s:=s) (i:=a + j) (by omega)]
 simp [ByteArray.getElem_extract]
theorem zI0 (c:UInt8) (s:ByteArray) (a:Nat) (ha:a <= s.size):nx c s a = a + nx c (s.extract a s.size) 0:=by
 obtain ⟨h1,h2,h3,h4⟩:=zAJ c (s.extract a s.size) 0 (Nat.zero_le _)
 rw [Zp,Nat.min_self] at h2 h4
 refine zJ8 ha (by omega) (by omega) (fun k k1 k2=>?_) (fun h=>?_)
 ·have:=h3 (k - a) (Nat.zero_le _) (by omega)
  rw [zMn s a s.size (k - a) (by rw [Nat.min_self]; omega)] at this
  rwa [show a + (k - a) = k by omega] at this
 ·have:=h4 (by omega)
  rwa [zMn s a s.size _ (by rw [Nat.min_self]; omega)] at this
theorem zFf (s:ByteArray) (a k l:Nat) (h:a + l <= s.size):(s.extract a s.size).extract k l = s.extract (a + k) (a + l):=by
 rw [ByteArray.extract_extract]
 congr 1
 omega
theorem zI1 (s:ByteArray):s.extract 0 s.size = s:=by simp
theorem zHN (c:UInt8) (s:ByteArray):∀ (n a:Nat),s.size - a < n -> a <= s.size -> Lib.splitB ⟨#[c]⟩ 0 (Lib.countB (s.extract a s.size) ⟨#[c]⟩) (s.extract a s.size) = (pcs c s a).map (fun p=>s.extract p.1 p.2)
 | 0,a,hn,ha=>by omega
 | n + 1,a,hn,ha=>by
  have hsz:(s.extract a s.size).size = s.size - a:=by rw [Zp,Nat.min_self]
  obtain ⟨i1,i2⟩:=zIz (s.extract a s.size) c
  have hx:=zI0 c s a ha
  obtain ⟨g1,g2,g3,g4⟩:=zAJ c s a ha
  rw [zA8 c s a ha]
  by_cases h:nx c s a < s.size
  ·have e:=i1 (by omega)
   have hone:(⟨#[c]⟩:ByteArray).size = 1:=rfl
   have e1:(s.extract a s.size).extract 0 (nx c (s.extract a s.size) 0) = s.extract a (nx c s a):=by
    rw [zFf s a 0 _ (by omega),hx,Nat.add_zero]
   have e2:(s.extract a s.size).extract (nx c (s.extract a s.size) 0 + 1) (s.size - a) = s.extract (nx c s a + 1) s.size:=by
    rw [zFf s a _ _ (by omega),show a + (nx c (s.extract a s.size) 0 + 1) = nx c s a + 1 by omega,show a + (s.size - a) = s.size by omega]
   have e3:=zHN c s n (nx c s a + 1) (by omega) (by omega)
   rw [if_pos h,Lib.countB_hit _ _ _ (by rw [hone]; exact Nat.le_refl _) e,Nat.add_comm,Lib.splitB_hit _ _ _ _ _ e,List.map_cons,hone,hsz,e2,e3,Nat.add_zero,e1]
  ·have e:=i2 (by omega)
   rw [if_neg h,Lib.countB_miss _ _ e,Lib.splitB_zero]
   simp only [List.map_cons,List.map_nil]
   rw [show nx c s a = s.size by omega]
theorem zKB (c:UInt8) (s:ByteArray):Lib.splitB ⟨#[c]⟩ 0 (Lib.countB s ⟨#[c]⟩) s = (pcs c s 0).map (fun p=>s.extract p.1 p.2):=by
 have:=zHN c s (s.size + 1) 0 (by omega) (Nat.zero_le _)
 rwa [zI1] at this
def zFw (ps:List ByteArray):List ByteArray:=ps.filter (fun b=>decide (0 < b.size))
theorem zI2 (s:ByteArray):∀ (n a:Nat),s.size - a < n -> a <= s.size -> zFw ((pcs 32 s a).map (fun p=>s.extract p.1 p.2)) = zBP s a
 | 0,a,hn,ha=>by omega
 | n + 1,a,hn,ha=>by
  obtain ⟨g1,g2,g3,g4⟩:=zAJ 32 s a ha
  rw [zCc s a ha,zA8 32 s a ha,List.map_cons]
  have hsz:(s.extract a (nx 32 s a)).size = nx 32 s a - a:=by rw [Zp]; omega
  have hrest:zFw ((if nx 32 s a < s.size then pcs 32 s (nx 32 s a + 1) else []).map (fun p=>s.extract p.1 p.2)) = (if nx 32 s a < s.size then zBP s (nx 32 s a + 1) else []):=by
   by_cases h:nx 32 s a < s.size
   ·rw [if_pos h,if_pos h]
    exact zI2 s n _ (by omega) (by omega)
   ·rw [if_neg h,if_neg h]; rfl
  rw [<- hrest]
  unfold zFw
  by_cases h:a < nx 32 s a
  ·rw [if_pos h,List.filter_cons_of_pos (by simp [hsz]; omega)]; rfl
  ·rw [if_neg h,List.filter_cons_of_neg (by simp [hsz]; omega)]; rfl
theorem zKC (s:ByteArray):zFw (Lib.splitB ⟨#[32]⟩ 0 (Lib.countB s ⟨#[32]⟩) s) = wds s:=by
 rw [zKB,zI2 s (s.size + 1) 0 (by omega) (Nat.zero_le _)]
 rfl
theorem zLq (ps:List ByteArray) (k:Nat) (p:ByteArray) (h:ps[k]? = some p):zFw (ps.take (k + 1)) = zFw (ps.take k) ++ (if 0 < p.size then [p] else []):=by
 rw [List.take_add_one,h]
 unfold zFw
 rw [List.filter_append]
 congr 1
 by_cases hp:0 < p.size
 ·simp [hp]
 ·simp [hp]
theorem zPw (s:ByteArray) (a:Nat) (ha:a <= s.size):(⟨(Lib.cut (s.extract a s.size).data.toList [10]).1.toArray⟩:ByteArray) = s.extract a (nx 10 s a) /\ (⟨(Lib.cut (s.extract a s.size).data.toList [10]).2.1.toArray⟩:ByteArray) = zAb s (nx 10 s a) /\ (Lib.cut (s.extract a s.size).data.toList [10]).2.2 = decide (nx 10 s a < s.size):=by
 have hsz:(s.extract a s.size).size = s.size - a:=by rw [Zp,Nat.min_self]
 obtain ⟨i1,i2⟩:=zIz (s.extract a s.size) 10
 have hx:=zI0 10 s a ha
 obtain ⟨g1,g2,g3,g4⟩:=zAJ 10 s a ha
 by_cases h:nx 10 s a < s.size
 ·obtain ⟨e1,e2,e3⟩:=Lib.cutB_hit (s.extract a s.size) ⟨#[10]⟩ _ (i1 (by omega))
  refine ⟨e1.trans ?_,e2.trans ?_,e3.trans (by simp [h])⟩
  ·rw [zFf s a 0 _ (by omega),hx,Nat.add_zero]
  ·unfold zAb
   have hone:(⟨#[10]⟩:ByteArray).size = 1:=rfl
   rw [if_pos h,hsz,hone,zFf s a _ _ (by omega),show a + (nx 10 (s.extract a s.size) 0 + 1) = nx 10 s a + 1 by omega,show a + (s.size - a) = s.size by omega]
 ·obtain ⟨e1,e2,e3⟩:=Lib.cutB_miss (s.extract a s.size) ⟨#[10]⟩ (i2 (by omega))
  refine ⟨e1.trans ?_,e2.trans ?_,e3.trans (by simp [h])⟩
  ·rw [show nx 10 s a = s.size by omega]
  ·unfold zAb; rw [if_neg h]
end Go.Proofs.YtokabkhnidlcnacGreatDoor
namespace Go.Proofs.YtokabkhnidlcnacGreatDoor
set_option maxHeartbeats 16000000
set_option maxRecDepth 100000
open Go.RowKit
theorem zBB (c:UInt8) (w:World) :
  Calls Tryz.prog 79 #[.int .u8 (c.toNat:Int)] w fun e w'=>e = .returned (.bool (decide (cls c = 2))) /\ w' = w:=by
 go_enter Tryz.func79,Tryz.ntmps79
 go_wp2
 all_goals (go_ret; refine ⟨zS ?_,rfl⟩; go_light; rw [Bool.eq_iff_iff]; simp [zCb] <;> omega)
def zC1 (v:Bool) (p:Prop):Prop:=v = true ↔ p
def zB0 (e:Ending) (p:Prop):Prop:=∃ v:Bool,e = .returned (.bool v) /\ zC1 v p
theorem zAk (s:ByteArray) (w:World) (hs:s.size <= maxLen) :
  Calls Tryz.prog 130 #[.string s] w fun e w'=>zB0 e (zEb s) /\ w' = w:=by
 unfold maxLen at hs
 go_enter Tryz.func130,Tryz.ntmps130
 go_wp2
 go_loop [3] (fun i=>∃ k:Nat,k <= s.size /\ i = .int .i64 k /\ Hid (∀ j,j < k -> cls (bt s j) = 2)) (fun i=>s.size - (intOf i).toNat)
 case atStart=>exact ⟨0,Nat.zero_le _,rfl,zB (fun j h=>by omega)⟩
 case round=>
  obtain ⟨k,hk,rfl,hn⟩:=hrel
  by_cases hlt:k < s.size
  ·cases hb:decide (cls s[k] = 2)
   ·have Hb:=zB hb
    go_wp2_with (go_at_call 79; refine (zBB _ _).mono ?_; rintro e w' ⟨rfl,rfl⟩)
    go_ret
    refine ⟨⟨_,rfl,⟨fun h=>(by cases h),fun h=>?_⟩⟩,rfl⟩
    have h2:=h.2 k hlt
    have:=zA Hb
    rw [zk hlt] at this
    simp at this
    exact absurd h2 this
   ·have Hb:=zB hb
    go_wp2_with (go_at_call 79; refine (zBB _ _).mono ?_; rintro e w' ⟨rfl,rfl⟩)
    refine ⟨⟨k + 1,by omega,by go_num,zB (fun j hj=>?_)⟩,by simp [intOf]; omega⟩
    by_cases e:j = k
    ·subst e
     have:=zA Hb
     rw [zk hlt] at this
     simpa using this
    ·exact (zA hn) j (by omega)
  ·by_cases h1:1 <= s.size
   ·have h1':(1:Int) <= (s.size:Int):=by omega
    go_wp2
    go_ret
    exact ⟨⟨_,rfl,⟨fun _=>⟨h1,fun j hj=>(zA hn) j (by omega)⟩,fun _=>by simp; omega⟩⟩,rfl⟩
   ·go_wp2
    go_ret
    exact ⟨⟨decide (0 < s.size),rfl,⟨fun h=>absurd (of_decide_eq_true h) (by omega),fun h=>absurd h.1 h1⟩⟩,rfl⟩
theorem zCO {a b:ByteArray} (h:a.toList = b.toList):a = b:=by
 rw [ByteArray.toList_eq,ByteArray.toList_eq] at h
 obtain ⟨⟨l⟩⟩:=a
 obtain ⟨⟨l'⟩⟩:=b
 simpa using h
theorem Zc (c:UInt8) (w:World) :
  Calls Tryz.prog 180 #[.int .u8 (c.toNat:Int)] w fun e w'=>e = .returned (.int .i64 (cls c:Int)) /\ w' = w:=by
 have hsg:=zHw c
 go_enter Tryz.func180,Tryz.ntmps180
 go_wp2_with (go_at_call 160; refine (zDl _ _).mono ?_; rintro e w' ⟨rfl,hx⟩; obtain rfl:=hx.symm)
 all_goals (go_ret; refine ⟨zG ?_,rfl⟩; go_light; (try simp only [beq_iff_eq,beq_eq_false_iff_ne,ne_eq] at *); unfold cls; (repeat' split) <;> (try simp_all) <;> (try omega))
def zBC (first:Nat) (c:UInt8):Bool:=decide (cls c = 2 \/ (cls c = 3 /\ first = 3))
theorem zCG (first:Nat) (c:UInt8) (w:World) :
  Calls Tryz.prog 181 #[.int .i64 (first:Int),.int .u8 (c.toNat:Int)] w fun e w'=>e = .returned (.bool (zBC first c)) /\ w' = w:=by
 by_cases h2:cls c = 2
 ·have HR:=zB (show zBC first c = true by simp [zBC,h2])
  have HC:=zB (show (cls c:Int) = 2 by omega)
  clear h2
  go_enter Tryz.func181,Tryz.ntmps181
  go_wp2_with (go_at_call 180; refine (Zc _ _).mono ?_; rw [zA HC]; rintro e w' ⟨rfl,hx⟩; obtain rfl:=hx.symm)
  go_ret
  exact ⟨zS (zA HR).symm,rfl⟩
 by_cases h3:cls c = 3
 ·have HC:=zB (show (cls c:Int) = 3 by omega)
  by_cases hf:first = 3
  ·have HR:=zB (show zBC first c = true by simp [zBC,h3,hf])
   subst hf
   clear h2 h3
   go_enter Tryz.func181,Tryz.ntmps181
   go_wp2_with (go_at_call 180; refine (Zc _ _).mono ?_; rw [zA HC]; rintro e w' ⟨rfl,hx⟩; obtain rfl:=hx.symm)
   go_ret
   exact ⟨zS (zA HR).symm,rfl⟩
  ·have HR:=zB (show zBC first c = false by simp [zBC,h3,hf])
   have hf':((first:Int) == 3) = false:=by simp; omega
   clear h2 h3 hf
   go_enter Tryz.func181,Tryz.ntmps181
   go_wp2_with (go_at_call 180; refine (Zc _ _).mono ?_; rw [zA HC]; rintro e w' ⟨rfl,hx⟩; obtain rfl:=hx.symm)
   go_ret
   exact ⟨zS (zA HR).symm,rfl⟩
 ·have HR:=zB (show zBC first c = false by simp [zBC,h2,h3])
  have h2':((cls c:Int) == 2) = false:=by simp; omega
  have h3':((cls c:Int) == 3) = false:=by simp; omega
  clear h2 h3
  go_enter Tryz.func181,Tryz.ntmps181
  go_wp2_with (go_at_call 180; refine (Zc _ _).mono ?_; rintro e w' ⟨rfl,hx⟩; obtain rfl:=hx.symm)
  go_ret
  exact ⟨zS (zA HR).symm,rfl⟩
theorem zLC (t:ByteArray):∀ (n i:Nat) (r:List UInt8),n = t.size - i -> r ≠ [] -> ByteArray.toList.loop t i r ≠ []
 | 0,i,r,h,hr=>by
  unfold ByteArray.toList.loop
  rw [if_neg (by omega)]
  simpa using hr
 | n + 1,i,r,h,hr=>by
  unfold ByteArray.toList.loop
  rw [if_pos (by omega)]
  exact zLC t n (i + 1) _ (by omega) (by simp)
theorem zHO {t:ByteArray} (h:t.size ≠ 0):t.toList.isEmpty = false:=by
 rw [List.isEmpty_eq_false_iff]
 unfold ByteArray.toList ByteArray.toList.loop
 rw [if_pos (by omega)]
 exact zLC t (t.size - 1) 1 _ rfl (by simp)
theorem zHP {t:ByteArray} (h:t.size = 0):t = ⟨#[]⟩:=by
 obtain ⟨d⟩:=t
 congr 1
 exact Array.eq_empty_of_size_eq_zero h
theorem ZA {p:Prop} (h:¬ p):zC1 false p:=⟨fun e=>(by cases e),fun e=>absurd e h⟩
theorem zA0 {p:Prop} (h:p):zC1 true p:=⟨fun _=>h,fun _=>rfl⟩
end Go.Proofs.YtokabkhnidlcnacGreatDoor
