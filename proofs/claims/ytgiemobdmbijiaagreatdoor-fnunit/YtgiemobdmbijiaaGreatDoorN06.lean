import Derived.Deep.QuietTactic
import Derived.BigQuiet
import Derived.WalkSmall
import Derived.Test.YtgiemobdmbijiaaGreatDoorN00
import Derived.Test.YtgiemobdmbijiaaGreatDoorN01
import Derived.Test.YtgiemobdmbijiaaGreatDoorN03
namespace Go.Proofs.YtgiemobdmbijiaaGreatDoor
set_option maxHeartbeats 16000000
set_option maxRecDepth 100000
open Go.RowKit
theorem zCF (s:ByteArray) (k l sd:Int) (w:World) (hs:s.size <= maxLen) :
  Calls Tryz.prog 73 #[.agg #[.string s,.int .i64 k,.int .i64 l,.int .i64 sd]] w fun e w'=>e = .returned (.bool (okB s k l sd)) /\ Below w.heap.size w w':=by
 cases ht:zFW s
 ·have hf:=zB (show okB s k l sd = false by simp [okB,ht])
  go_enter Tryz.func73,Tryz.ntmps73
  go_wp2_with (go_at_call 101; refine (zCi _ _ hs).mono ?_; rintro e w' ⟨rfl,rfl⟩)
  go_ret
  exact ⟨ZA (zA hf).symm,zC _ _⟩
 ·have hf:=zB (show okB s k l sd = (decide (1 <= l) && decide (l <= 1000) && zGl k sd) by simp [okB,ht])
  go_enter Tryz.func73,Tryz.ntmps73
  go_wp2_with (go_at_call 101; refine (zCi _ _ hs).mono ?_; rintro e w' ⟨rfl,rfl⟩)
  all_goals (go_ret; refine ⟨ZA ?_,zC _ _⟩; rw [zA hf]; go_light; clear hf; (try simp only [beq_iff_eq,beq_eq_false_iff_ne,ne_eq] at *); rw [Bool.eq_iff_iff]; simp [zGl] <;> omega)
def srt (k sd:Int):Int:=if k = 1 then 2 else if k = 3 then 1 else sd
theorem Zw (s:ByteArray) (k l sd:Int) (w:World) :
  Calls Tryz.prog 48 #[.agg #[.string s,.int .i64 k,.int .i64 l,.int .i64 sd]] w fun e w'=>e = .returned (.int .i64 (srt k sd)) /\ Below w.heap.size w w':=by
 by_cases h1:k = 1
 ·have h1':(k == 1) = true:=by simpa using h1
  have H:=zB h1
  clear h1
  go_enter Tryz.func48,Tryz.ntmps48
  go_wp2
  go_ret
  exact ⟨zG (by simp [srt,zA H]),zC _ _⟩
 ·by_cases h3:k = 3
  ·have h1':(k == 1) = false:=by simpa using h1
   have h3':(k == 3) = true:=by simpa using h3
   have H:=zB h3
   clear h3 h1
   go_enter Tryz.func48,Tryz.ntmps48
   go_wp2
   go_ret
   exact ⟨zG (by simp [srt,zA H]),zC _ _⟩
  ·have h1':(k == 1) = false:=by simpa using h1
   have h3':(k == 3) = false:=by simpa using h3
   go_enter Tryz.func48,Tryz.ntmps48
   go_wp2
   go_ret
   exact ⟨zG (by simp [srt,h1,h3]),zC _ _⟩
theorem zHe (s t:ByteArray) (k l sd k' l' sd':Int) (w:World) :
  Calls Tryz.prog 74 #[.agg #[.string s,.int .i64 k,.int .i64 l,.int .i64 sd],.agg #[.string t,.int .i64 k',.int .i64 l',.int .i64 sd'],.int .i64 3] w fun e w'=>(∃ v,e = .returned (.bool v) /\ (v = true ↔ (s = t /\ (k = 1 ↔ k' = 1)))) /\ Below w.heap.size w w':=by
 go_enter Tryz.func74,Tryz.ntmps74
 go_wp2
 ·go_ret
  refine ⟨⟨_,rfl,?_⟩,(zC _ _).alloc (by simp) _⟩
  go_light
  have e:=Z8 ‹_›
  rw [beq_iff_eq,Bool.eq_iff_iff]
  simp [e]
 ·go_ret
  refine ⟨⟨_,rfl,?_⟩,(zC _ _).alloc (by simp) _⟩
  go_light
  have e:s ≠ t:=fun e=>(‹¬ s.toList = t.toList›) (by rw [e])
  simp [e]
theorem zLE {w W w1:World} (hb:Below W.heap.size W w1) (h:w.heap.size + 1 < W.heap.size) (hB:Below w.heap.size w W) :
  (∀ o,w1.cell? ⟨w.heap.size,o,none⟩ = W.cell? ⟨w.heap.size,o,none⟩) /\ (∀ o,w1.cell? ⟨w.heap.size + 1,o,none⟩ = W.cell? ⟨w.heap.size + 1,o,none⟩) /\ w.heap.size + 1 < w1.heap.size /\ Below w.heap.size w w1:=
 ⟨fun _=>hb.cell (p:=⟨_,_,none⟩) (show w.heap.size < _ by omega),fun _=>hb.cell (p:=⟨_,_,none⟩) h,Nat.lt_of_lt_of_le h hb.size,hB.trans (hb.mono (by omega))⟩
theorem zHf (s t:ByteArray) (k l sd k' l' sd':Int) (w:World) :
  Calls Tryz.prog 74 #[.agg #[.string s,.int .i64 k,.int .i64 l,.int .i64 sd],.agg #[.string t,.int .i64 k',.int .i64 l',.int .i64 sd'],.int .i64 4] w fun e w'=>(∃ v,e = .returned (.bool v) /\ (v = true ↔ (l = l' /\ srt k sd ≠ srt k' sd'))) /\ Below w.heap.size w w':=by
 by_cases hl:l = l'
 ·have hl':(l == l') = true:=by simpa using hl
  have H:=zB hl
  clear hl
  go_enter Tryz.func74,Tryz.ntmps74
  go_wp2_with fail
  go_region_held (fun w'=>(w'.cell? ⟨w.heap.size,0,none⟩ = some (.string s) /\ w'.cell? ⟨w.heap.size,1,none⟩ = some (.int .i64 k) /\ w'.cell? ⟨w.heap.size,2,none⟩ = some (.int .i64 l) /\ w'.cell? ⟨w.heap.size,3,none⟩ = some (.int .i64 sd)) /\
   (w'.cell? ⟨w.heap.size + 1,0,none⟩ = some (.string t) /\ w'.cell? ⟨w.heap.size + 1,1,none⟩ = some (.int .i64 k') /\ w'.cell? ⟨w.heap.size + 1,2,none⟩ = some (.int .i64 l') /\ w'.cell? ⟨w.heap.size + 1,3,none⟩ = some (.int .i64 sd'))) (go_keep)
   (first | (go_at_call 48; refine (Zw _ _ _ _ _).mono ?_; rintro e w1 ⟨rfl,hb1⟩; obtain ⟨t0,t1,z1,hB⟩:=zLE (w:=w) hb1 (by first | assumption | (simp [heap_drew]; done)) (by first | assumption | exact ((zC _ _).alloc (by simp) _).drew)))
  go_wp2
  go_ret
  refine ⟨⟨_,rfl,?_⟩,hB⟩
  have e:=zA H
  simp [e]
 ·have hl':(l == l') = false:=by simpa using hl
  go_enter Tryz.func74,Tryz.ntmps74
  go_wp2_with fail
  go_quiet (fail)
  go_wp2
  go_ret
  refine ⟨⟨_,rfl,?_⟩,below_drewN ((zC _ _).alloc (by simp) _) _⟩
  simp [hl]
def cl (c:Int) (a b:OpR):Prop:=if c = 3 then (a.s = b.s /\ (a.k = 1 ↔ b.k = 1)) else (a.l = b.l /\ srt a.k a.sd ≠ srt b.k b.sd)
theorem zIa (a b:OpR) (c:Int) (w:World) (hc:c = 3 \/ c = 4) :
  Calls Tryz.prog 74 #[.agg #[.string a.s,.int .i64 a.k,.int .i64 a.l,.int .i64 a.sd],.agg #[.string b.s,.int .i64 b.k,.int .i64 b.l,.int .i64 b.sd],.int .i64 c] w fun e w'=>(∃ v,e = .returned (.bool v) /\ (v = true ↔ cl c a b)) /\ Below w.heap.size w w':=by
 rcases hc with rfl | rfl
 ·exact zHe _ _ _ _ _ _ _ _ _
 ·exact zHf _ _ _ _ _ _ _ _ _
def Pr (c:Int) (xs:List OpR):Prop:=∃ i j,j < i /\ i < xs.length /\ cl c (atO xs i) (atO xs j)
def zNZ (c:Int) (xs:List OpR) (k:Nat):Prop:=∀ i j,j < i -> i < k -> ¬ cl c (atO xs i) (atO xs j)
theorem zLF {c:Int} {xs:List OpR} {k:Nat} (h:zNZ c xs k) (hk:∀ j,j < k -> ¬ cl c (atO xs k) (atO xs j)):zNZ c xs (k + 1):=by
 intro i j hj hi
 by_cases e:i = k
 ·subst e; exact hk j hj
 ·exact h i j hj (by omega)
theorem zLt {c:Int} {xs:List OpR} (h:zNZ c xs xs.length):¬ Pr c xs:=fun ⟨i,j,hj,hi,hc⟩=>h i j hj hi hc
def zZ (xs:List OpR) (c:Int):Prop:=
 (c = 1 /\ 500 < xs.length) \/ (xs.length <= 500 /\ ((c = 2 /\ ¬ zDR xs xs.length) \/ (zDR xs xs.length /\ ((c = 3 /\ Pr 3 xs) \/ (¬ Pr 3 xs /\ ((c = 4 /\ Pr 4 xs) \/ (c = 0 /\ ¬ Pr 4 xs)))))))
theorem zA6 {xs:List OpR} {c c':Int} (h:zZ xs c) (h':zZ xs c'):c = c':=by
 unfold zZ at h h'
 by_cases a:500 < xs.length
 ·have a':¬ xs.length <= 500:=by omega
  simp only [a,a',and_true,false_and,or_false] at h h'
  omega
 ·have a':xs.length <= 500:=by omega
  by_cases b:zDR xs xs.length
  ·by_cases p3:Pr 3 xs
   ·simp only [a,a',b,p3,and_true,and_false,true_and,false_and,or_false,false_or,not_true] at h h'
    omega
   ·by_cases p4:Pr 4 xs
    ·simp only [a,a',b,p3,p4,and_true,and_false,true_and,or_false,false_or,not_true,not_false_iff] at h h'
     omega
    ·simp only [a,a',b,p3,p4,and_true,and_false,true_and,false_or,not_true,not_false_iff] at h h'
     omega
  ·simp only [a,a',b,and_true,and_false,true_and,false_and,or_false,false_or,not_false_iff] at h h'
   omega
structure Bx (w:World) (b off cap:Nat) (xs:List OpR) (wr:World):Prop where
 box:wr.cell? ⟨w.heap.size,0,none⟩ = some (.slice (some ⟨b,off,none⟩) xs.length cap)
 ops:Ops wr b off xs
 lt:w.heap.size < wr.heap.size
 blt:b < wr.heap.size
 bel:Below w.heap.size w wr
theorem Bx.step {w:World} {b off cap:Nat} {xs:List OpR} {wr w':World} (h:Bx w b off cap xs wr) (hb:Below wr.heap.size wr w'):Bx w b off cap xs w':=
 ⟨(hb.cell (p:=⟨_,_,none⟩) h.lt).trans h.box,h.ops.below hb h.blt,Nat.lt_of_lt_of_le h.lt hb.size,Nat.lt_of_lt_of_le h.blt hb.size,h.bel.trans (hb.mono (Nat.le_of_lt h.lt))⟩
theorem Bx.drew {w:World} {b off cap:Nat} {xs:List OpR} {wr:World} (h:Bx w b off cap xs wr):Bx w b off cap xs wr.drew:=
 h.step (Below.refl _ _).drew
theorem Bx.start {w:World} {b off cap:Nat} {xs:List OpR} (h:Ops w b off xs) (hB:b < w.heap.size) (t:TypeId):Bx w b off cap xs (w.alloc (.cells #[.slice (some ⟨b,off,none⟩) xs.length cap] t)):=
 ⟨by simp [go_sem],h.below (zC _ _) hB,by simp,by simp; omega,zC _ _⟩
theorem ZU (b off cap:Nat) (xs:List OpR) (w:World) (hm:xs.length <= 1048576) (hw:Ops w b off xs) (hs:Zs xs) (hB:b < w.heap.size) :
  Calls Tryz.prog 46 #[.agg #[.slice (some ⟨b,off,none⟩) xs.length cap]] w fun e w'=>(∃ c,e = .returned (.int .i64 c) /\ zZ xs c) /\ Below w.heap.size w w':=by
 have hx0:=zB (Bx.start (cap:=cap) hw hB 55)
 by_cases h500:500 < xs.length
 ·go_enter Tryz.func46,Tryz.ntmps46
  go_wp2
  go_ret
  exact ⟨⟨1,rfl,Or.inl ⟨rfl,h500⟩⟩,zC _ _⟩
 have h500':xs.length <= 500:=by omega
 go_enter Tryz.func46,Tryz.ntmps46
 go_wp2
 go_loopw [4] (fun i wr=>∃ k:Nat,k <= xs.length /\ i = .int .i64 k /\ zDR xs k /\ Bx w b off cap xs wr) (fun i _=>xs.length - (intOf i).toNat)
 case atStart=>exact ⟨0,Nat.zero_le _,rfl,fun j h=>(by omega),zA hx0⟩
 case round=>
  obtain ⟨k,hk,rfl,hok,hx⟩:=hrel
  by_cases hlt:k < xs.length
  ·obtain ⟨a0,a1,a2,a3⟩:=hx.ops k hlt
   have hbx:=hx.box
   cases ht:(atO xs k).ok
   ·have Ht:=zB ht
    unfold OpR.ok at ht
    go_wp2_with (go_at_call 73; refine (zCF _ _ _ _ _ (hs k hlt)).mono ?_; rintro e w1 ⟨rfl,hb1⟩)
    go_ret
    refine ⟨⟨2,rfl,Or.inr ⟨h500',Or.inl ⟨rfl,fun h=>?_⟩⟩⟩,(hx.step hb1).bel⟩
    have:=h k hlt
    rw [zA Ht] at this
    cases this
   ·have Ht:=zB ht
    unfold OpR.ok at ht
    go_wp2_with (go_at_call 73; refine (zCF _ _ _ _ _ (hs k hlt)).mono ?_; rintro e w1 ⟨rfl,hb1⟩)
    exact ⟨⟨k + 1,by omega,by go_num,zK6 hok (zA Ht),hx.step hb1⟩,by simp [intOf]; omega⟩
  ·have hall:zDR xs xs.length:=by
    have:k = xs.length:=by omega
    exact this ▸ hok
   clear hok hx0
   go_wp2
   go_loopw [5] (fun c wr=>∃ cc:Int,c = .int .i64 cc /\ 3 <= cc /\ cc <= 5 /\ Hid ((3 < cc -> ¬ Pr 3 xs) /\ (4 < cc -> ¬ Pr 4 xs)) /\ Bx w b off cap xs wr) (fun c _=>(5 - intOf c).toNat)
   case atStart=>exact ⟨3,rfl,by omega,by omega,zB ⟨fun h=>(by omega),fun h=>(by omega)⟩,hx⟩
   case round=>
    clear hx
    obtain ⟨cc,rfl,hc3,hc5,hno,hx⟩:=hrel
    by_cases hc4:cc <= 4
    ·have hcc:=zB (show cc = 3 \/ cc = 4 by omega)
     go_wp2
     go_loopw [6] (fun i wr=>∃ k:Nat,k <= xs.length /\ i = .int .i64 k /\ Hid (zNZ cc xs k) /\ Bx w b off cap xs wr) (fun i _=>xs.length - (intOf i).toNat)
     case atStart=>exact ⟨0,Nat.zero_le _,rfl,zB (fun i j _ h=>(by omega)),hx⟩
     case round=>
      clear hx
      obtain ⟨p,hp,rfl,hnp,hx⟩:=hrel
      by_cases hlp:p < xs.length
      ·go_wp2
       go_loopw [7] (fun j wr=>∃ m:Nat,m <= p /\ j = .int .i64 m /\ Hid (∀ j,j < m -> ¬ cl cc (atO xs p) (atO xs j)) /\ Bx w b off cap xs wr) (fun j _=>p - (intOf j).toNat)
       case atStart=>exact ⟨0,Nat.zero_le _,rfl,zB (fun j h=>(by omega)),hx⟩
       case round=>
        clear hx
        obtain ⟨m,hmp,rfl,hnm,hx⟩:=hrel
        by_cases hlm:m < p
        ·have hlmx:m < xs.length:=by omega
         obtain ⟨a0,a1,a2,a3⟩:=hx.ops p hlp
         obtain ⟨d0,d1,d2,d3⟩:=hx.ops m hlmx
         have hbx:=hx.box
         have hlt:=hx.lt
         have i1:(p:Int) < (xs.length:Int):=by omega
         have i2:(m:Int) < (xs.length:Int):=by omega
         go_wp2_with fail
         go_region_held (fun w'=>w'.cell? ⟨w.heap.size,0,none⟩ = some (.slice (some ⟨b,off,none⟩) xs.length cap) /\
          (w'.cell? ⟨b,off + p * 4,none⟩ = some (.string (atO xs p).s) /\ w'.cell? ⟨b,off + p * 4 + 1,none⟩ = some (.int .i64 (atO xs p).k) /\ w'.cell? ⟨b,off + p * 4 + 2,none⟩ = some (.int .i64 (atO xs p).l) /\ w'.cell? ⟨b,off + p * 4 + 3,none⟩ = some (.int .i64 (atO xs p).sd)) /\
          (w'.cell? ⟨b,off + m * 4,none⟩ = some (.string (atO xs m).s) /\ w'.cell? ⟨b,off + m * 4 + 1,none⟩ = some (.int .i64 (atO xs m).k) /\ w'.cell? ⟨b,off + m * 4 + 2,none⟩ = some (.int .i64 (atO xs m).l) /\ w'.cell? ⟨b,off + m * 4 + 3,none⟩ = some (.int .i64 (atO xs m).sd))) (go_keep)
          (first | (go_at_call 74; refine (zIa (atO xs p) (atO xs m) cc _ (zA hcc)).mono ?_; rintro e w1 ⟨⟨v,rfl,hv⟩,hb1⟩; have HV:=zB hv; clear hv; have hx1:=hx.drew.step hb1; obtain ⟨q0,q1,q2,q3⟩:=hx1.ops p hlp; obtain ⟨r0,r1,r2,r3⟩:=hx1.ops m hlmx; have qb:=hx1.box))
         cases v
         ·go_wp2
          refine ⟨⟨m + 1,by omega,by go_num,zB ?_,hx1⟩,by simp [intOf]; omega⟩
          intro j hj
          by_cases e:j = m
          ·subst e
           exact fun h=>Bool.false_ne_true ((zA HV).2 h)
          ·exact (zA hnm) j (by omega)
         ·go_wp2
          go_ret
          refine ⟨⟨cc,rfl,Or.inr ⟨h500',Or.inr ⟨hall,?_⟩⟩⟩,hx1.bel⟩
          have hpr:Pr cc xs:=⟨p,m,hlm,hlp,(zA HV).1 (by trivial)⟩
          rcases zA hcc with e | e
          ·subst e; exact Or.inl ⟨rfl,hpr⟩
          ·subst e; exact Or.inr ⟨(zA hno).1 (by omega),Or.inl ⟨rfl,hpr⟩⟩
        ·go_wp2
         refine ⟨⟨p + 1,by omega,by go_num,zB (zLF (zA hnp) (fun j hj=>(zA hnm) j (by omega))),hx⟩,by simp [intOf]; omega⟩
      ·go_wp2
       refine ⟨⟨cc + 1,by go_num,by omega,by omega,zB ?_,hx⟩,by simp [intOf]; omega⟩
       have hn:¬ Pr cc xs:=zLt (by
        have e:p = xs.length:=by omega
        exact e ▸ (zA hnp))
       rcases zA hcc with e | e
       ·subst e; exact ⟨fun _=>hn,fun h=>(by omega)⟩
       ·subst e; exact ⟨fun _=>(zA hno).1 (by omega),fun _=>hn⟩
    ·go_wp2
     go_ret
     exact ⟨⟨0,rfl,Or.inr ⟨h500',Or.inr ⟨hall,Or.inr ⟨(zA hno).1 (by omega),Or.inr ⟨rfl,(zA hno).2 (by omega)⟩⟩⟩⟩⟩,hx.bel⟩
end Go.Proofs.YtgiemobdmbijiaaGreatDoor
