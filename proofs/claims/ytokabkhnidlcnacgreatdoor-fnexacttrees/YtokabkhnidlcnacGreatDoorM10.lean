import Derived.Test.YtokabkhnidlcnacGreatDoorM02
import Derived.Test.YtokabkhnidlcnacGreatDoorM04
import Derived.Test.YtokabkhnidlcnacGreatDoorM07
namespace Go.Proofs.YtokabkhnidlcnacGreatDoor
set_option maxHeartbeats 16000000
set_option maxRecDepth 100000
open Go.RowKit
theorem zAT (b off cap:Nat) (xs:List OpR) (w:World) (hm:xs.length <= 1048576) (hw:Ops w b off xs) (hs:Zm xs) (hB:b < w.heap.size) :
  Calls Tryz.prog 36 #[.agg #[.slice (some ⟨b,off,none⟩) xs.length cap]] w fun e w'=>(∃ c,e = .returned (.int .i64 c) /\ zL xs c) /\ Below w.heap.size w w':=by
 have hx0:=zB (Bx.start (cap:=cap) hw hB 61)
 by_cases h500:500 < xs.length
 ·go_enter Tryz.func36,Tryz.ntmps36
  go_wp2
  go_ret
  exact ⟨⟨1,rfl,Or.inl ⟨rfl,h500⟩⟩,zC _ _⟩
 have h500':xs.length <= 500:=by omega
 go_enter Tryz.func36,Tryz.ntmps36
 go_wp2
 go_loopw [4] (fun i wr=>∃ k:Nat,k <= xs.length /\ i = .int .i64 k /\ zBx xs k /\ Bx w b off cap xs wr) (fun i _=>xs.length - (intOf i).toNat)
 case atStart=>exact ⟨0,Nat.zero_le _,rfl,fun j h=>(by omega),zA hx0⟩
 case round=>
  obtain ⟨k,hk,rfl,hok,hx⟩:=hrel
  by_cases hlt:k < xs.length
  ·obtain ⟨a0,a1,a2,a3⟩:=hx.ops k hlt
   have hbx:=hx.box
   cases ht:(atO xs k).ok
   ·have Ht:=zB ht
    unfold OpR.ok at ht
    go_wp2_with (go_at_call 34; refine (zCh _ _ _ _ _ (hs k hlt)).mono ?_; rintro e w1 ⟨rfl,hb1⟩)
    go_ret
    refine ⟨⟨2,rfl,Or.inr ⟨h500',Or.inl ⟨rfl,fun h=>?_⟩⟩⟩,(hx.step hb1).bel⟩
    have:=h k hlt
    rw [zA Ht] at this
    cases this
   ·have Ht:=zB ht
    unfold OpR.ok at ht
    go_wp2_with (go_at_call 34; refine (zCh _ _ _ _ _ (hs k hlt)).mono ?_; rintro e w1 ⟨rfl,hb1⟩)
    exact ⟨⟨k + 1,by omega,by go_num,zHG hok (zA Ht),hx.step hb1⟩,by simp [intOf]; omega⟩
  ·have hall:zBx xs xs.length:=by
    have:k = xs.length:=by omega
    exact this ▸ hok
   clear hok hx0
   go_wp2
   go_loopw [5] (fun c wr=>∃ cc:Int,c = .int .i64 cc /\ 3 <= cc /\ cc <= 5 /\ Hid ((3 < cc -> ¬ Pr 3 xs) /\ (4 < cc -> ¬ Pr 4 xs)) /\ Bx w b off cap xs wr) (fun c _=>(5 - intOf c).toNat)
   case atStart=>exact ⟨3,rfl,by omega,by omega,zB ⟨fun h=>(by omega),fun h=>(by omega)⟩,hx⟩
   case round=>
    clear hx
    obtain ⟨cc,rfl,hc3,hc5,hno,hx⟩:=hrel
    by_cases hc4:cc <= 4
    ·have hcc:=zB (show cc = 3 \/ cc = 4 by omega)
     go_wp2
     go_loopw [6] (fun i wr=>∃ k:Nat,k <= xs.length /\ i = .int .i64 k /\ Hid (zFu cc xs k) /\ Bx w b off cap xs wr) (fun i _=>xs.length - (intOf i).toNat)
     case atStart=>exact ⟨0,Nat.zero_le _,rfl,zB (fun i j _ h=>(by omega)),hx⟩
     case round=>
      clear hx
      obtain ⟨p,hp,rfl,hnp,hx⟩:=hrel
      by_cases hlp:p < xs.length
      ·go_wp2
       go_loopw [7] (fun j wr=>∃ m:Nat,m <= p /\ j = .int .i64 m /\ Hid (∀ j,j < m -> ¬ cl cc (atO xs p) (atO xs j)) /\ Bx w b off cap xs wr) (fun j _=>p - (intOf j).toNat)
       case atStart=>exact ⟨0,Nat.zero_le _,rfl,zB (fun j h=>(by omega)),hx⟩
       case round=>
        clear hx
        obtain ⟨m,hmp,rfl,hnm,hx⟩:=hrel
        by_cases hlm:m < p
        ·have hlmx:m < xs.length:=by omega
         obtain ⟨a0,a1,a2,a3⟩:=hx.ops p hlp
         obtain ⟨d0,d1,d2,d3⟩:=hx.ops m hlmx
         have hbx:=hx.box
         have hlt:=hx.lt
         have i1:(p:Int) < (xs.length:Int):=by omega
         have i2:(m:Int) < (xs.length:Int):=by omega
         go_wp2_with fail
         go_region_held (fun w'=>w'.cell? ⟨w.heap.size,0,none⟩ = some (.slice (some ⟨b,off,none⟩) xs.length cap) /\
          (w'.cell? ⟨b,off + p * 4,none⟩ = some (.string (atO xs p).s) /\ w'.cell? ⟨b,off + p * 4 + 1,none⟩ = some (.int .i64 (atO xs p).k) /\ w'.cell? ⟨b,off + p * 4 + 2,none⟩ = some (.int .i64 (atO xs p).l) /\ w'.cell? ⟨b,off + p * 4 + 3,none⟩ = some (.int .i64 (atO xs p).sd)) /\
          (w'.cell? ⟨b,off + m * 4,none⟩ = some (.string (atO xs m).s) /\ w'.cell? ⟨b,off + m * 4 + 1,none⟩ = some (.int .i64 (atO xs m).k) /\ w'.cell? ⟨b,off + m * 4 + 2,none⟩ = some (.int .i64 (atO xs m).l) /\ w'.cell? ⟨b,off + m * 4 + 3,none⟩ = some (.int .i64 (atO xs m).sd))) (go_keep)
          (first | (go_at_call 60; refine (zIx (atO xs p) (atO xs m) cc _ (zA hcc)).mono ?_; rintro e w1 ⟨⟨v,rfl,hv⟩,hb1⟩; have HV:=zB hv; clear hv; have hx1:=hx.drew.step hb1; obtain ⟨q0,q1,q2,q3⟩:=hx1.ops p hlp; obtain ⟨r0,r1,r2,r3⟩:=hx1.ops m hlmx; have qb:=hx1.box))
         cases v
         ·go_wp2
          refine ⟨⟨m + 1,by omega,by go_num,zB ?_,hx1⟩,by simp [intOf]; omega⟩
          intro j hj
          by_cases e:j = m
          ·subst e
           exact fun h=>Bool.false_ne_true ((zA HV).2 h)
          ·exact (zA hnm) j (by omega)
         ·go_wp2
          go_ret
          refine ⟨⟨cc,rfl,Or.inr ⟨h500',Or.inr ⟨hall,?_⟩⟩⟩,hx1.bel⟩
          have hpr:Pr cc xs:=⟨p,m,hlm,hlp,(zA HV).1 (by trivial)⟩
          rcases zA hcc with e | e
          ·subst e; exact Or.inl ⟨rfl,hpr⟩
          ·subst e; exact Or.inr ⟨(zA hno).1 (by omega),Or.inl ⟨rfl,hpr⟩⟩
        ·go_wp2
         refine ⟨⟨p + 1,by omega,by go_num,zB (zEh (zA hnp) (fun j hj=>(zA hnm) j (by omega))),hx⟩,by simp [intOf]; omega⟩
      ·go_wp2
       refine ⟨⟨cc + 1,by go_num,by omega,by omega,zB ?_,hx⟩,by simp [intOf]; omega⟩
       have hn:¬ Pr cc xs:=zFv (by
        have e:p = xs.length:=by omega
        exact e ▸ (zA hnp))
       rcases zA hcc with e | e
       ·subst e; exact ⟨fun _=>hn,fun h=>(by omega)⟩
       ·subst e; exact ⟨fun _=>(zA hno).1 (by omega),fun _=>hn⟩
    ·go_wp2
     go_ret
     exact ⟨⟨0,rfl,Or.inr ⟨h500',Or.inr ⟨hall,Or.inr ⟨(zA hno).1 (by omega),Or.inr ⟨rfl,(zA hno).2 (by omega)⟩⟩⟩⟩⟩,hx.bel⟩
end Go.Proofs.YtokabkhnidlcnacGreatDoor
namespace Go.Proofs.YtokabkhnidlcnacGreatDoor
set_option linter.unusedSimpArgs false
set_option linter.unusedVariables false
set_option maxHeartbeats 16000000
set_option maxRecDepth 100000
open Go.RowKit
theorem zGA:zL [] 0:=Or.inr ⟨by simp,Or.inr ⟨fun j h=>by simp at h,Or.inr ⟨fun ⟨i,j,_,h,_⟩=>by simp at h,Or.inr ⟨rfl,fun ⟨i,j,_,h,_⟩=>by simp at h⟩⟩⟩⟩
theorem zFV (a:Option Addr) (c:Nat) (w:World) :
  Calls Tryz.prog 36 #[.agg #[.slice a 0 c]] w fun e w'=>e = .returned (.int .i64 0) /\ Below w.heap.size w w':=by
 go_enter Tryz.func36,Tryz.ntmps36
 go_wp2
 refine wp_loop_rounds 1 ?_
 rw [rounds_succ]
 go_wp2
 refine wp_loop_rounds 3 ?_
 rw [rounds_succ]
 go_wp2
 refine wp_loop_rounds 1 ?_
 rw [rounds_succ]
 go_wp2
 rw [rounds_succ]
 go_wp2
 refine wp_loop_rounds 1 ?_
 rw [rounds_succ]
 go_wp2
 rw [rounds_succ]
 go_wp2
 go_ret
 exact ⟨rfl,zC _ _⟩
theorem zGB (v:Value) (xs:List OpR) (w:World) (hm:xs.length <= 1048576) (hw:ZC w v xs) (hs:Zm xs) :
  Calls Tryz.prog 36 #[.agg #[v]] w fun e w'=>(∃ c,e = .returned (.int .i64 c) /\ zL xs c) /\ Below w.heap.size w w':=by
 obtain ⟨a,c,rfl,⟨h0,_⟩ | ⟨g,rfl,hg,hops⟩⟩:=hw
 ·have e:xs = []:=List.length_eq_zero_iff.1 h0
  subst e
  refine (zFV a c w).mono ?_
  rintro e w' ⟨rfl,hb⟩
  exact ⟨⟨0,rfl,zGA⟩,hb⟩
 ·exact zAT g 0 c xs w hm hops hs hg
end Go.Proofs.YtokabkhnidlcnacGreatDoor
namespace Go.Proofs.YtokabkhnidlcnacGreatDoor
set_option maxHeartbeats 16000000
set_option maxRecDepth 100000
open Go.RowKit
theorem zAn (c:UInt8) (w:World) :
  Calls Tryz.prog 78 #[.int .u8 (c.toNat:Int)] w fun e w'=>e = .returned (.bool (decide (cls c = 3))) /\ w' = w:=by
 go_enter Tryz.func78,Tryz.ntmps78
 go_wp2
 all_goals (go_ret; refine ⟨zS ?_,rfl⟩; go_light; rw [Bool.eq_iff_iff]; simp [zOE] <;> omega)
theorem zEB (s:ByteArray) (w:World) (hs:s.size <= maxLen) :
  Calls Tryz.prog 46 #[.string s] w fun e w'=>zB0 e (zAx s) /\ w' = w:=by
 unfold maxLen at hs
 go_enter Tryz.func46,Tryz.ntmps46
 go_wp2
 go_loop [3] (fun i=>∃ k:Nat,k <= s.size /\ i = .int .i64 k /\ Hid (∀ j,j < k -> (cls (bt s j) = 3 \/ (j ≠ 0 /\ cls (bt s j) = 2)))) (fun i=>s.size - (intOf i).toNat)
 case atStart=>exact ⟨0,Nat.zero_le _,rfl,zB (fun j h=>by omega)⟩
 case round=>
  obtain ⟨k,hk,rfl,hn⟩:=hrel
  by_cases hlt:k < s.size
  ·have hbk:=zB (zk hlt)
   have no:(¬ cls (bt s k) = 3) -> (k = 0 \/ ¬ cls (bt s k) = 2) -> ∀ v,v = false -> zC1 v (zAx s):=fun h1 h2 v hv=>by
    subst hv
    refine ⟨fun h=>(by cases h),fun h=>?_⟩
    have:=h.2 k hlt
    omega
   have NO:=zB no
   clear no
   cases hb:decide (cls s[k] = 3)
   ·have hb3:=zB (show ¬ cls (bt s k) = 3 by rw [zk hlt] at hb; simpa using hb)
    by_cases hk0:k = 0
    ·subst hk0
     go_wp2_with (go_at_call 78; refine (zAn _ _).mono ?_; rintro e w' ⟨rfl,rfl⟩)
     go_ret
     exact ⟨⟨_,rfl,(zA NO) (zA hb3) (Or.inl trivial) _ rfl⟩,rfl⟩
    ·have hk0':((k:Int) == 0) = false:=by simp; omega
     cases hd:decide (cls s[k] = 2)
     ·have hd2:=zB (show ¬ cls (bt s k) = 2 by rw [zk hlt] at hd; simpa using hd)
      go_wp2_with (first | (go_at_call 78; refine (zAn _ _).mono ?_; rintro e w' ⟨rfl,rfl⟩) | (go_at_call 79; refine (zBB _ _).mono ?_; rintro e w' ⟨rfl,rfl⟩))
      go_ret
      exact ⟨⟨_,rfl,(zA NO) (zA hb3) (Or.inr (zA hd2)) _ rfl⟩,rfl⟩
     ·have hd2:=zB (show cls (bt s k) = 2 by rw [zk hlt] at hd; simpa using hd)
      go_wp2_with (first | (go_at_call 78; refine (zAn _ _).mono ?_; rintro e w' ⟨rfl,rfl⟩) | (go_at_call 79; refine (zBB _ _).mono ?_; rintro e w' ⟨rfl,rfl⟩))
      refine ⟨⟨k + 1,by omega,by go_num,zB (fun j hj=>?_)⟩,by simp [intOf]; omega⟩
      by_cases e:j = k
      ·subst e
       exact Or.inr ⟨hk0,zA hd2⟩
      ·exact (zA hn) j (by omega)
   ·have hb3:=zB (show cls (bt s k) = 3 by rw [zk hlt] at hb; simpa using hb)
    go_wp2_with (go_at_call 78; refine (zAn _ _).mono ?_; rintro e w' ⟨rfl,rfl⟩)
    refine ⟨⟨k + 1,by omega,by go_num,zB (fun j hj=>?_)⟩,by simp [intOf]; omega⟩
    by_cases e:j = k
    ·subst e
     exact Or.inl (zA hb3)
    ·exact (zA hn) j (by omega)
  ·by_cases h1:1 <= s.size
   ·have h1':(1:Int) <= (s.size:Int):=by omega
    go_wp2
    go_ret
    exact ⟨⟨_,rfl,⟨fun _=>⟨h1,fun j hj=>(zA hn) j (by omega)⟩,fun _=>by simp; omega⟩⟩,rfl⟩
   ·go_wp2
    go_ret
    exact ⟨⟨decide (0 < s.size),rfl,⟨fun h=>absurd (of_decide_eq_true h) (by omega),fun h=>absurd h.1 h1⟩⟩,rfl⟩
end Go.Proofs.YtokabkhnidlcnacGreatDoor
namespace Go.Proofs.YtokabkhnidlcnacGreatDoor
set_option linter.unusedSimpArgs false
set_option linter.unusedVariables false
set_option maxHeartbeats 16000000
set_option maxRecDepth 100000
def zLu (o:OpR):Prop:=o.s.size <= 20000 /\ (1 <= o.k /\ o.k <= 3) /\ (0 <= o.l /\ o.l < 1000000) /\ (0 <= o.sd /\ o.sd <= 3)
theorem OpW.small {ws:List ByteArray} {o:OpR} (h:OpW ws o) (hs:∀ x ∈ ws,x.size <= 20000):zLu o:=by
 obtain ⟨k,t,l,hl,h⟩:=h
 have hv:Zn l l.size < 1000000:=by
  have h1:=zFn l hl.2.2 l.size (Nat.le_refl _)
  have h2:10 ^ l.size <= 10 ^ 6:=Nat.pow_le_pow_right (by decide) hl.2.1
  omega
 rcases h with ⟨rfl,h⟩ | ⟨sd,rfl,_,hne,rfl⟩
 ·rcases h with ⟨_,rfl⟩ | ⟨_,rfl⟩
  ·exact ⟨hs t (by simp),⟨by simp,by simp⟩,⟨by simp,by simp; omega⟩,⟨by simp,by simp⟩⟩
  ·exact ⟨hs t (by simp),⟨by simp,by simp⟩,⟨by simp,by simp; omega⟩,⟨by simp,by simp⟩⟩
 ·refine ⟨hs t (by simp),⟨by simp,by simp⟩,⟨by simp,by simp; omega⟩,?_⟩
  rcases zF2 sd with e | e | e | e <;> simp [e]
theorem UnF.small {s:ByteArray} (hs:s.size <= 20000):∀ (ls:List (Nat × Nat)) (n:Nat) (us:List ByteArray) (os:List OpR) {u:List ByteArray} {o:List OpR} {b:ByteArray} {c l:Int},UnF s ls n us os u o b c l -> (∀ x ∈ os,zLu x) -> ∀ x ∈ o,zLu x
 | [],n,us,os,_,_,_,_,_,h=>by
  obtain ⟨rfl,rfl,rfl,rfl,rfl⟩:=h
  exact fun _ x hx=>by cases hx
 | p :: r,n,us,os,u,o,b,c,l,h=>by
  rcases h with ⟨_,rfl,rfl,rfl,rfl,rfl⟩ | ⟨_,⟨us',os',hl,h⟩ | ⟨_,rfl,rfl,rfl,rfl,rfl⟩⟩
  ·exact fun h=>h
  ·intro h0
   refine UnF.small hs r (n + 1) us' os' h ?_
   rcases hl with ⟨_,rfl,rfl⟩ | ⟨x,hx,rfl,rfl⟩ | ⟨o',ho,rfl,rfl⟩
   ·exact h0
   ·exact h0
   ·intro x hx
    rcases List.mem_append.1 hx with hx | hx
    ·exact h0 x hx
    ·simp at hx
     subst hx
     refine ho.small (fun z hz=>?_)
     unfold wds at hz
     obtain ⟨q,_,rfl⟩:=List.mem_map.1 hz
     simp only [ByteArray.size_extract]
     omega
  ·exact fun _ x hx=>by cases hx
theorem zGC {s:ByteArray} {u:List ByteArray} {o:List OpR} {b:ByteArray} {c l:Int} (h:zq s u o b c l):∀ x ∈ o,zLu x:=by
 rcases h with ⟨_,rfl,rfl,rfl,rfl,rfl⟩ | ⟨h0,h⟩
 ·exact fun x hx=>by cases hx
 ·exact UnF.small h0 _ _ _ _ h (fun x hx=>by cases hx)
theorem zAL.small {ms:List zJ} {U:List UnR} (h:zAL ms U):∀ o ∈ ZE U,zLu o:=by
 intro o ho
 obtain ⟨u,hu,ho⟩:=List.mem_flatMap.1 ho
 obtain ⟨i,hi,rfl⟩:=zFe hu
 exact zGC (h.2 i (by rw [<- h.1]; exact hi)) o ho
theorem zJG {xs:List OpR} (h:∀ o ∈ xs,zLu o):Zm xs:=fun i hi=>by
 have:=(h _ (zHx hi)).1
 unfold maxLen
 omega
theorem zM0 {ms:List zJ} {U:List UnR} (h3:∀ i,i < ms.length -> ¬ B3 ms i) (i j:Nat):zDA ms U i j = true ↔ Edg ms U i j:=by
 unfold zDA Edg
 simp only [Bool.and_eq_true,decide_eq_true_eq,List.any_eq_true,beq_iff_eq]
 constructor
 ·rintro ⟨h1,h2,u,hu,rfl⟩
  exact ⟨h1,h2,by rw [(Zz ms u).1 h2]; exact hu⟩
 ·rintro ⟨h1,h2,h⟩
  refine ⟨h1,h2,_,h,?_⟩
  exact zK9 h2 rfl (fun q hq e=>h3 j h2 ⟨q,hq,e⟩)
theorem zGD {ms:List zJ} {U:List UnR} (h3:∀ i,i < ms.length -> ¬ B3 ms i) (i j:Nat):wrN (zDA ms U) ms.length i j = true ↔ TC (Edg ms U) i j:=
 zPt (zM0 h3) (fun i j h=>⟨h.1,h.2.1⟩) i j
theorem zLH {ms:List zJ} {U:List UnR} {i:Nat} (hi:i < ms.length) (h4:¬ B4 ms U i) {u:ByteArray} (hu:u ∈ (atU U i).us):nmF ms u < ms.length /\ Edg ms U i (nmF ms u):=by
 have hle:=zEi ms u
 have hlt:nmF ms u < ms.length:=by
  by_cases e:nmF ms u < ms.length
  ·exact e
  ·exact absurd ⟨u,hu,fun j hj=>(Zz ms u).2 j (by omega)⟩ h4
 exact ⟨hlt,hi,hlt,by rw [(Zz ms u).1 hlt]; exact hu⟩
theorem zPi {ms:List zJ} {U:List UnR} (h3:∀ i,i < ms.length -> ¬ B3 ms i) (h4:∀ i,i < ms.length -> ¬ B4 ms U i) (h5:∀ i,i < ms.length -> ¬ TC (Edg ms U) i i) :
  ∃ rk:Nat -> Nat,(∀ i,i < ms.length -> ∀ u ∈ (atU U i).us,rk (nmF ms u) < rk i) /\ ∀ i,i < ms.length -> rk i < ms.length:=by
 refine ⟨rkW (wrN (zDA ms U) ms.length) ms.length,fun i hi u hu=>?_,fun i hi=>zQT (zGD h3) hi (h5 i hi)⟩
 obtain ⟨h1,h2⟩:=zLH hi (h4 i hi) hu
 exact zOK (zGD h3) h2 h1 (h5 _ h1)
end Go.Proofs.YtokabkhnidlcnacGreatDoor
namespace Go.Proofs.YtokabkhnidlcnacGreatDoor
set_option linter.unusedSimpArgs false
set_option linter.unusedVariables false
set_option maxHeartbeats 16000000
set_option maxRecDepth 100000
open Go.RowKit
def zGz (out:List (List OpR)) (i:Nat):List OpR:=out.getD i []
theorem zJH {n i:Nat} {S:Nat -> List OpR} (h:i < n):zGz ((List.range n).map S) i = S i:=by
 simp [zGz,List.getD_eq_getElem?_getD,h]
end Go.Proofs.YtokabkhnidlcnacGreatDoor
