import Derived.OwnWalk
import Derived.Laws.OwnMore
import Derived.Test.YtfboipappaonhaaGreatM00
import Derived.Test.YtfboipappaonhaaGreatM05
namespace Go.Proofs.YtfboipappaonhaaGreat
set_option maxHeartbeats 16000000
set_option maxRecDepth 100000
open Go.RowKit
theorem zAJ (b off cap:Nat) (xs:List OpR) (w:World) (hm:xs.length <= 1048576) (hw:Ops w b off xs) (hs:Zr xs) (hB:b < w.heap.size) :
  Calls Tryz.prog 53 #[.agg #[.slice (some ⟨b,off,none⟩) xs.length cap]] w fun e w'=>(∃ c,e = .returned (.int .i64 c) /\ zO xs c) /\ Below w.heap.size w w':=by
 have hx0:=zB (Bx.start (cap:=cap) hw hB 25)
 by_cases h500:500 < xs.length
 ·go_enter Tryz.func53,Tryz.ntmps53
  go_wp2
  go_ret
  exact ⟨⟨1,rfl,Or.inl ⟨rfl,h500⟩⟩,zC _ _⟩
 have h500':xs.length <= 500:=by omega
 go_enter Tryz.func53,Tryz.ntmps53
 go_wp2
 go_loopw [4] (fun i wr=>∃ k:Nat,k <= xs.length /\ i = .int .i64 k /\ zAD xs k /\ Bx w b off cap xs wr) (fun i _=>xs.length - (intOf i).toNat)
 case atStart=>exact ⟨0,Nat.zero_le _,rfl,fun j h=>(by omega),zA hx0⟩
 case round=>
  obtain ⟨k,hk,rfl,hok,hx⟩:=hrel
  by_cases hlt:k < xs.length
  ·obtain ⟨a0,a1,a2,a3⟩:=hx.ops k hlt
   have hbx:=hx.box
   cases ht:(atO xs k).ok
   ·have Ht:=zB ht
    unfold OpR.ok at ht
    go_wp2_with (go_at_call 101; refine (zCI _ _ _ _ _ (hs k hlt)).mono ?_; rintro e w1 ⟨rfl,hb1⟩)
    go_ret
    refine ⟨⟨2,rfl,Or.inr ⟨h500',Or.inl ⟨rfl,fun h=>?_⟩⟩⟩,(hx.step hb1).bel⟩
    have:=h k hlt
    rw [zA Ht] at this
    cases this
   ·have Ht:=zB ht
    unfold OpR.ok at ht
    go_wp2_with (go_at_call 101; refine (zCI _ _ _ _ _ (hs k hlt)).mono ?_; rintro e w1 ⟨rfl,hb1⟩)
    exact ⟨⟨k + 1,by omega,by go_num,zF9 hok (zA Ht),hx.step hb1⟩,by simp [intOf]; omega⟩
  ·have hall:zAD xs xs.length:=by
    have:k = xs.length:=by omega
    exact this ▸ hok
   clear hok hx0
   go_wp2
   go_loopw [5] (fun c wr=>∃ cc:Int,c = .int .i64 cc /\ 3 <= cc /\ cc <= 5 /\ Hid ((3 < cc -> ¬ Pr 3 xs) /\ (4 < cc -> ¬ Pr 4 xs)) /\ Bx w b off cap xs wr) (fun c _=>(5 - intOf c).toNat)
   case atStart=>exact ⟨3,rfl,by omega,by omega,zB ⟨fun h=>(by omega),fun h=>(by omega)⟩,hx⟩
   case round=>
    clear hx
    obtain ⟨cc,rfl,hc3,hc5,hno,hx⟩:=hrel
    by_cases hc4:cc <= 4
    ·have hcc:=zB (show cc = 3 \/ cc = 4 by omega)
     go_wp2
     go_loopw [6] (fun i wr=>∃ k:Nat,k <= xs.length /\ i = .int .i64 k /\ Hid (zFA cc xs k) /\ Bx w b off cap xs wr) (fun i _=>xs.length - (intOf i).toNat)
     case atStart=>exact ⟨0,Nat.zero_le _,rfl,zB (fun i j _ h=>(by omega)),hx⟩
     case round=>
      clear hx
      obtain ⟨p,hp,rfl,hnp,hx⟩:=hrel
      by_cases hlp:p < xs.length
      ·go_wp2
       go_loopw [7] (fun j wr=>∃ m:Nat,m <= p /\ j = .int .i64 m /\ Hid (∀ j,j < m -> ¬ cl cc (atO xs p) (atO xs j)) /\ Bx w b off cap xs wr) (fun j _=>p - (intOf j).toNat)
       case atStart=>exact ⟨0,Nat.zero_le _,rfl,zB (fun j h=>(by omega)),hx⟩
       case round=>
        clear hx
        obtain ⟨m,hmp,rfl,hnm,hx⟩:=hrel
        by_cases hlm:m < p
        ·have hlmx:m < xs.length:=by omega
         obtain ⟨a0,a1,a2,a3⟩:=hx.ops p hlp
         obtain ⟨d0,d1,d2,d3⟩:=hx.ops m hlmx
         have hbx:=hx.box
         have hlt:=hx.lt
         have i1:(p:Int) < (xs.length:Int):=by omega
         have i2:(m:Int) < (xs.length:Int):=by omega
         go_wp2_with fail
         go_region_held (fun w'=>w'.cell? ⟨w.heap.size,0,none⟩ = some (.slice (some ⟨b,off,none⟩) xs.length cap) /\
          (w'.cell? ⟨b,off + p * 4,none⟩ = some (.string (atO xs p).s) /\ w'.cell? ⟨b,off + p * 4 + 1,none⟩ = some (.int .i64 (atO xs p).k) /\ w'.cell? ⟨b,off + p * 4 + 2,none⟩ = some (.int .i64 (atO xs p).l) /\ w'.cell? ⟨b,off + p * 4 + 3,none⟩ = some (.int .i64 (atO xs p).sd)) /\
          (w'.cell? ⟨b,off + m * 4,none⟩ = some (.string (atO xs m).s) /\ w'.cell? ⟨b,off + m * 4 + 1,none⟩ = some (.int .i64 (atO xs m).k) /\ w'.cell? ⟨b,off + m * 4 + 2,none⟩ = some (.int .i64 (atO xs m).l) /\ w'.cell? ⟨b,off + m * 4 + 3,none⟩ = some (.int .i64 (atO xs m).sd))) (go_keep)
          (first | (go_at_call 102; refine (zHj (atO xs p) (atO xs m) cc _ (zA hcc)).mono ?_; rintro e w1 ⟨⟨v,rfl,hv⟩,hb1⟩; have HV:=zB hv; clear hv; have hx1:=hx.drew.step hb1; obtain ⟨q0,q1,q2,q3⟩:=hx1.ops p hlp; obtain ⟨r0,r1,r2,r3⟩:=hx1.ops m hlmx; have qb:=hx1.box))
         cases v
         ·go_wp2
          refine ⟨⟨m + 1,by omega,by go_num,zB ?_,hx1⟩,by simp [intOf]; omega⟩
          intro j hj
          by_cases e:j = m
          ·subst e
           exact fun h=>Bool.false_ne_true ((zA HV).2 h)
          ·exact (zA hnm) j (by omega)
         ·go_wp2
          go_ret
          refine ⟨⟨cc,rfl,Or.inr ⟨h500',Or.inr ⟨hall,?_⟩⟩⟩,hx1.bel⟩
          have hpr:Pr cc xs:=⟨p,m,hlm,hlp,(zA HV).1 (by trivial)⟩
          rcases zA hcc with e | e
          ·subst e; exact Or.inl ⟨rfl,hpr⟩
          ·subst e; exact Or.inr ⟨(zA hno).1 (by omega),Or.inl ⟨rfl,hpr⟩⟩
        ·go_wp2
         refine ⟨⟨p + 1,by omega,by go_num,zB (zD4 (zA hnp) (fun j hj=>(zA hnm) j (by omega))),hx⟩,by simp [intOf]; omega⟩
      ·go_wp2
       refine ⟨⟨cc + 1,by go_num,by omega,by omega,zB ?_,hx⟩,by simp [intOf]; omega⟩
       have hn:¬ Pr cc xs:=zFB (by
        have e:p = xs.length:=by omega
        exact e ▸ (zA hnp))
       rcases zA hcc with e | e
       ·subst e; exact ⟨fun _=>hn,fun h=>(by omega)⟩
       ·subst e; exact ⟨fun _=>(zA hno).1 (by omega),fun _=>hn⟩
    ·go_wp2
     go_ret
     exact ⟨⟨0,rfl,Or.inr ⟨h500',Or.inr ⟨hall,Or.inr ⟨(zA hno).1 (by omega),Or.inr ⟨rfl,(zA hno).2 (by omega)⟩⟩⟩⟩⟩,hx.bel⟩
end Go.Proofs.YtfboipappaonhaaGreat
namespace Go.Proofs.YtfboipappaonhaaGreat
set_option linter.unusedSimpArgs false
set_option linter.unusedVariables false
set_option maxHeartbeats 16000000
set_option maxRecDepth 100000
open Go.RowKit
def txL:List ByteArray:=[⟨#[43]⟩,⟨#[45]⟩,⟨#[43,43]⟩,⟨#[42]⟩,⟨#[33]⟩,⟨#[61,61]⟩,⟨#[43,43,43]⟩,⟨#[33,61]⟩,⟨#[45,45]⟩,⟨#[94]⟩,⟨#[61,62]⟩,⟨#[63,58]⟩]
def txN (k:Nat):ByteArray:=txL.getD (k % 12) ⟨#[]⟩
theorem zA1 {k j:Nat} (h:k % 12 = j):txN k = txL.getD j ⟨#[]⟩:=by rw [txN,h]
theorem zFC (k:Nat):(txN k).size <= 3:=by
 have h:k % 12 < 12:=Nat.mod_lt _ (by decide)
 have:∀ j:Fin 12,(txL.getD j.val ⟨#[]⟩).size <= 3:=by decide
 exact this ⟨k % 12,h⟩
theorem zAj (k:Nat) (w:World) (hk:k < 1000000) :
  Calls Tryz.prog 150 #[.int .i64 (k:Int)] w fun e w'=>e = .returned (.string (txN k)) /\ w' = w:=by
 go_enter Tryz.func150,Tryz.ntmps150
 go_wp2
 all_goals
  go_ret
  refine ⟨zJE ?_,rfl⟩
  go_light
  simp only [beq_iff_eq,beq_eq_false_iff_ne,ne_eq] at *
  first
   | (
    refine Eq.trans ?_ (zA1 (j:=0) ?_).symm
    ·rfl
    ·omega)
   | (
    refine Eq.trans ?_ (zA1 (j:=1) ?_).symm
    ·rfl
    ·omega)
   | (
    refine Eq.trans ?_ (zA1 (j:=2) ?_).symm
    ·rfl
    ·omega)
   | (
    refine Eq.trans ?_ (zA1 (j:=3) ?_).symm
    ·rfl
    ·omega)
   | (
    refine Eq.trans ?_ (zA1 (j:=4) ?_).symm
    ·rfl
    ·omega)
   | (
    refine Eq.trans ?_ (zA1 (j:=5) ?_).symm
    ·rfl
    ·omega)
   | (
    refine Eq.trans ?_ (zA1 (j:=6) ?_).symm
    ·rfl
    ·omega)
   | (
    refine Eq.trans ?_ (zA1 (j:=7) ?_).symm
    ·rfl
    ·omega)
   | (
    refine Eq.trans ?_ (zA1 (j:=8) ?_).symm
    ·rfl
    ·omega)
   | (
    refine Eq.trans ?_ (zA1 (j:=9) ?_).symm
    ·rfl
    ·omega)
   | (
    refine Eq.trans ?_ (zA1 (j:=10) ?_).symm
    ·rfl
    ·omega)
   | (
    refine Eq.trans ?_ (zA1 (j:=11) ?_).symm
    ·rfl
    ·omega)
def ZE (k:Nat):Int:=if k % 8 < 2 then 1 else if k % 8 = 2 then 3 else 2
def ZT (k:Nat):Int:=if k % 8 < 2 then 0 else if k % 8 = 2 then 0 else 1 + ((k / 8 % 3:Nat):Int)
def zAK (k v:Nat) (tidy:Bool):Int:=
 if 250 <= k then 997 + srt (ZE k) (ZT k) else if tidy = true then 3 * ((v / 12 % 4:Nat):Int) + srt (ZE k) (ZT k) else 1 + ((v / 12 % 6:Nat):Int)
def Zt (k v:Nat) (tidy:Bool):OpR:=⟨txN v,ZE k,zAK k v tidy,ZT k⟩
theorem RdS.set {w:World} {rp cap p:Nat} {a:Option Addr} {bs:List UInt8} (h:RdS w rp a cap bs p) (b o:Nat) (v:Value) (hb:rp < b):RdS (w.setCell ⟨b,o,none⟩ v) rp a cap bs p:=
 h.kept (fun i hi=>Below.heap_setCell _ _ _ _ (by simp; omega))
theorem zE.setNew {w w1:World} {g b:Nat} (h:zE w w1 g) (o:Nat) (v:Value) (hb:w.heap.size <= b):zE w (w1.setCell ⟨b,o,none⟩ v) g:=
 ⟨h.os,h.tape,h.output,by simpa [World.setCell] using h.size,fun i hi hg=>(Below.heap_setCell _ _ _ _ (by simp; omega)).trans (h.block i hi hg)⟩
theorem zE.belowN {w w1 w2:World} {g:Nat} (h:zE w w1 g) (hb:Below w1.heap.size w1 w2):zE w w2 g:=h.trans (zE.of_below hb)
theorem zNe {k v:Nat} (hc:k % 8 < 2) (hb:250 <= k) (hk:k < 256) (hv:v < 256):(⟨txN v,1,wrap64 (997 + srt 1 (0)),0⟩:OpR) = Zt k v false:=by
 have e1:ZE k = 1:=by simp [ZE]; omega
 have e2:ZT k = 0:=by simp [ZT]; omega
 unfold Zt zAK
 rw [e1,e2]
 simp [hb,srt,wrap64]
 try omega
theorem zKm {k v:Nat} (hc:k % 8 < 2) (hb:¬ 250 <= k) (hk:k < 256) (hv:v < 256):(⟨txN v,1,1 + (v:Int) / 12 % 6,0⟩:OpR) = Zt k v false:=by
 have e1:ZE k = 1:=by simp [ZE]; omega
 have e2:ZT k = 0:=by simp [ZT]; omega
 unfold Zt zAK
 rw [e1,e2]
 simp [hb,srt,wrap64]
 try omega
theorem zKn {k v:Nat} (hc:k % 8 < 2) (hb:¬ 250 <= k) (hk:k < 256) (hv:v < 256):(⟨txN v,1,wrap64 (3 * ((v:Int) / 12 % 4) + srt 1 (0)),0⟩:OpR) = Zt k v true:=by
 have e1:ZE k = 1:=by simp [ZE]; omega
 have e2:ZT k = 0:=by simp [ZT]; omega
 unfold Zt zAK
 rw [e1,e2]
 simp [hb,srt,wrap64]
 try omega
theorem zKo {k v:Nat} (hc:k % 8 = 2) (hb:250 <= k) (hk:k < 256) (hv:v < 256):(⟨txN v,3,wrap64 (997 + srt 3 (0)),0⟩:OpR) = Zt k v false:=by
 have e1:ZE k = 3:=by simp [ZE]; omega
 have e2:ZT k = 0:=by simp [ZT]; omega
 unfold Zt zAK
 rw [e1,e2]
 simp [hb,srt,wrap64]
 try omega
theorem zKp {k v:Nat} (hc:k % 8 = 2) (hb:¬ 250 <= k) (hk:k < 256) (hv:v < 256):(⟨txN v,3,1 + (v:Int) / 12 % 6,0⟩:OpR) = Zt k v false:=by
 have e1:ZE k = 3:=by simp [ZE]; omega
 have e2:ZT k = 0:=by simp [ZT]; omega
 unfold Zt zAK
 rw [e1,e2]
 simp [hb,srt,wrap64]
 try omega
theorem zKq {k v:Nat} (hc:k % 8 = 2) (hb:250 <= k) (hk:k < 256) (hv:v < 256):(⟨txN v,3,wrap64 (997 + srt 3 (0)),0⟩:OpR) = Zt k v true:=by
 have e1:ZE k = 3:=by simp [ZE]; omega
 have e2:ZT k = 0:=by simp [ZT]; omega
 unfold Zt zAK
 rw [e1,e2]
 simp [hb,srt,wrap64]
 try omega
theorem zKr {k v:Nat} (hc:k % 8 = 2) (hb:¬ 250 <= k) (hk:k < 256) (hv:v < 256):(⟨txN v,3,wrap64 (3 * ((v:Int) / 12 % 4) + srt 3 (0)),0⟩:OpR) = Zt k v true:=by
 have e1:ZE k = 3:=by simp [ZE]; omega
 have e2:ZT k = 0:=by simp [ZT]; omega
 unfold Zt zAK
 rw [e1,e2]
 simp [hb,srt,wrap64]
 try omega
theorem zKs {k v:Nat} (hc:2 < k % 8) (hb:250 <= k) (hk:k < 256) (hv:v < 256):(⟨txN v,2,wrap64 (997 + srt 2 (1 + (k:Int) / 8 % 3)),1 + (k:Int) / 8 % 3⟩:OpR) = Zt k v false:=by
 have e1:ZE k = 2:=by simp [ZE]; omega
 have e2:ZT k = 1 + (k:Int) / 8 % 3:=by simp [ZT]; omega
 unfold Zt zAK
 rw [e1,e2]
 simp [hb,srt,wrap64]
 try omega
theorem zKt {k v:Nat} (hc:2 < k % 8) (hb:¬ 250 <= k) (hk:k < 256) (hv:v < 256):(⟨txN v,2,1 + (v:Int) / 12 % 6,1 + (k:Int) / 8 % 3⟩:OpR) = Zt k v false:=by
 have e1:ZE k = 2:=by simp [ZE]; omega
 have e2:ZT k = 1 + (k:Int) / 8 % 3:=by simp [ZT]; omega
 unfold Zt zAK
 rw [e1,e2]
 simp [hb,srt,wrap64]
 try omega
theorem zKu {k v:Nat} (hc:2 < k % 8) (hb:250 <= k) (hk:k < 256) (hv:v < 256):(⟨txN v,2,wrap64 (997 + srt 2 (1 + (k:Int) / 8 % 3)),1 + (k:Int) / 8 % 3⟩:OpR) = Zt k v true:=by
 have e1:ZE k = 2:=by simp [ZE]; omega
 have e2:ZT k = 1 + (k:Int) / 8 % 3:=by simp [ZT]; omega
 unfold Zt zAK
 rw [e1,e2]
 simp [hb,srt,wrap64]
 try omega
theorem zKv {k v:Nat} (hc:2 < k % 8) (hb:¬ 250 <= k) (hk:k < 256) (hv:v < 256):(⟨txN v,2,wrap64 (3 * ((v:Int) / 12 % 4) + srt 2 (1 + (k:Int) / 8 % 3)),1 + (k:Int) / 8 % 3⟩:OpR) = Zt k v true:=by
 have e1:ZE k = 2:=by simp [ZE]; omega
 have e2:ZT k = 1 + (k:Int) / 8 % 3:=by simp [ZT]; omega
 unfold Zt zAK
 rw [e1,e2]
 simp [hb,srt,wrap64]
 try omega
theorem zDX (rp cap p:Nat) (tidy:Bool) (a:Option Addr) (bs:List UInt8) (w:World) (h:RdS w rp a cap bs p) (hl:bs.length <= 1200) :
  Calls Tryz.prog 110 #[.pointer (some ⟨rp,0,none⟩),.bool tidy] w fun e w'=>(∃ o:OpR,e = .returned (.agg #[.string o.s,.int .i64 o.k,.int .i64 o.l,.int .i64 o.sd]) /\ Hid (o = Zt (nxt bs p) (nxt bs (adv bs p)) tidy)) /\ Hid (RdS w' rp a cap bs (adv bs (adv bs p))) /\ Hid (zE w w' rp):=by
 have hrpw:=h.lt
 have H:=zB h
 clear h
 go_enter Tryz.func110,Tryz.ntmps110
 go_wp2_with fail
 refine (Z9 rp cap p a bs _ ((zA H).below (zC _ _)) hl).mono ?_
 rintro e w1 ⟨⟨k,rfl,hk,HK⟩,H1,HP1⟩
 go_wp2_with fail
 refine (Z9 rp cap _ a bs _ (zA H1) hl).mono ?_
 rintro e w2 ⟨⟨v,rfl,hv,HV⟩,H2,HP2⟩
 have HP:=zB ((zA HP1).trans (zA HP2))
 clear H H1 HP1 HP2
 have zw:w.heap.size < w2.heap.size:=by have:=(zA HP).size; simp at this; omega
 have hrp:=(zA H2).lt
 have r0:w2.cell? ⟨w.heap.size,0,none⟩ = some (.string ⟨#[]⟩) /\ w2.cell? ⟨w.heap.size,1,none⟩ = some (.int .i64 0) /\ w2.cell? ⟨w.heap.size,2,none⟩ = some (.int .i64 0) /\ w2.cell? ⟨w.heap.size,3,none⟩ = some (.int .i64 0):=by
  have e:=fun o=>(zA HP).cell (b:=w.heap.size) (by simp) (by have:=hrpw; omega) o
  refine ⟨(e _).trans ?_,(e _).trans ?_,(e _).trans ?_,(e _).trans ?_⟩ <;> simp [go_sem]
 obtain ⟨r0,r1,r2,r3⟩:=r0
 have f0:∀ o,w2.frozen? ⟨w.heap.size,o,none⟩ = false:=fun o=>((zA HP).frozen (b:=w.heap.size) (by simp) (by have:=hrpw; omega) o).trans (by simp [go_sem])
 have HPW:=zB (show zE w w2 rp from (zE.of_below (zC _ _)).trans (zA HP))
 clear HP
 have hcs:k % 8 < 2 \/ k % 8 = 2 \/ 2 < k % 8:=by omega
 rcases hcs with hc | hc | hc
 ·have HCK:=zB hc
  have hk8I:(k:Int) % 8 < 2:=by omega
  clear hc
  cases tidy
  ·skip
   go_wp2_with (first | (go_at_call 150; refine (zAj _ _ (by omega)).mono ?_; rintro e w3 ⟨rfl,hx⟩; obtain rfl:=hx.symm) | (go_at_call 143; refine (zAM _ _ _ _ _).mono ?_; rintro e w3 ⟨rfl,hb3⟩; have hA3:=fun o=>hb3.cell (p:=⟨w.heap.size,o,none⟩) (by simp; omega); have hB3:=fun o=>hb3.cell (p:=⟨w2.heap.size,o,none⟩) (by first | (simp; done) | (simp; omega)); have hE3:=fun o=>hb3.frozen (p:=⟨w.heap.size,o,none⟩) (by simp; omega); have hF3:=fun o=>hb3.frozen (p:=⟨w2.heap.size,o,none⟩) (by first | (simp; done) | (simp; omega)); have hz3:w2.heap.size + 1 <= w3.heap.size:=(by have:=hb3.size; simp at this; omega)))
   ·refine bodyPost_ret (v:=.agg #[.string (txN v),.int .i64 1,.int .i64 (1 + (v:Int) / 12 % 6),.int .i64 (0)]) ?res rfl ⟨⟨⟨txN v,1,1 + (v:Int) / 12 % 6,0⟩,rfl,zB ?_⟩,zB ?_,zB ?_⟩
    case res=>simp [results,Tryz.results110,go_sem, *]
    ·rw [<- zA HV,<- zA HK]
     exact zKm (zA HCK) (by omega) hk hv
    ·repeat (first | exact zA H2 | refine RdS.set ?_ _ _ _ (by omega) | refine RdS.below ?_ (zC _ _) | refine RdS.below ?_ (by assumption))
    ·repeat (first | exact zA HPW | refine zE.setNew ?_ _ _ (by omega) | refine zE.belowN ?_ (zC _ _) | refine zE.belowN ?_ (by assumption))
  ·skip
   go_wp2_with (first | (go_at_call 150; refine (zAj _ _ (by omega)).mono ?_; rintro e w3 ⟨rfl,hx⟩; obtain rfl:=hx.symm) | (go_at_call 143; refine (zAM _ _ _ _ _).mono ?_; rintro e w3 ⟨rfl,hb3⟩; have hA3:=fun o=>hb3.cell (p:=⟨w.heap.size,o,none⟩) (by simp; omega); have hB3:=fun o=>hb3.cell (p:=⟨w2.heap.size,o,none⟩) (by first | (simp; done) | (simp; omega)); have hE3:=fun o=>hb3.frozen (p:=⟨w.heap.size,o,none⟩) (by simp; omega); have hF3:=fun o=>hb3.frozen (p:=⟨w2.heap.size,o,none⟩) (by first | (simp; done) | (simp; omega)); have hz3:w2.heap.size + 1 <= w3.heap.size:=(by have:=hb3.size; simp at this; omega)))
   ·refine bodyPost_ret (v:=.agg #[.string (txN v),.int .i64 1,.int .i64 (wrap64 (3 * ((v:Int) / 12 % 4) + srt 1 (0))),.int .i64 (0)]) ?res rfl ⟨⟨⟨txN v,1,wrap64 (3 * ((v:Int) / 12 % 4) + srt 1 (0)),0⟩,rfl,zB ?_⟩,zB ?_,zB ?_⟩
    case res=>simp [results,Tryz.results110,go_sem, *]
    ·rw [<- zA HV,<- zA HK]
     exact zKn (zA HCK) (by omega) hk hv
    ·repeat (first | exact zA H2 | refine RdS.set ?_ _ _ _ (by omega) | refine RdS.below ?_ (zC _ _) | refine RdS.below ?_ (by assumption))
    ·repeat (first | exact zA HPW | refine zE.setNew ?_ _ _ (by omega) | refine zE.belowN ?_ (zC _ _) | refine zE.belowN ?_ (by assumption))
 ·have HCK:=zB hc
  have hk8I:¬ (k:Int) % 8 < 2:=by omega
  have hk8J:((k:Int) % 8 == 2) = true:=by simp; omega
  clear hc
  cases tidy
  ·skip
   go_wp2_with (first | (go_at_call 150; refine (zAj _ _ (by omega)).mono ?_; rintro e w3 ⟨rfl,hx⟩; obtain rfl:=hx.symm) | (go_at_call 143; refine (zAM _ _ _ _ _).mono ?_; rintro e w3 ⟨rfl,hb3⟩; have hA3:=fun o=>hb3.cell (p:=⟨w.heap.size,o,none⟩) (by simp; omega); have hB3:=fun o=>hb3.cell (p:=⟨w2.heap.size,o,none⟩) (by first | (simp; done) | (simp; omega)); have hE3:=fun o=>hb3.frozen (p:=⟨w.heap.size,o,none⟩) (by simp; omega); have hF3:=fun o=>hb3.frozen (p:=⟨w2.heap.size,o,none⟩) (by first | (simp; done) | (simp; omega)); have hz3:w2.heap.size + 1 <= w3.heap.size:=(by have:=hb3.size; simp at this; omega)))
   ·refine bodyPost_ret (v:=.agg #[.string (txN v),.int .i64 3,.int .i64 (wrap64 (997 + srt 3 (0))),.int .i64 (0)]) ?res rfl ⟨⟨⟨txN v,3,wrap64 (997 + srt 3 (0)),0⟩,rfl,zB ?_⟩,zB ?_,zB ?_⟩
    case res=>simp [results,Tryz.results110,go_sem, *]
    ·rw [<- zA HV,<- zA HK]
     exact zKo (zA HCK) (by omega) hk hv
    ·repeat (first | exact zA H2 | refine RdS.set ?_ _ _ _ (by omega) | refine RdS.below ?_ (zC _ _) | refine RdS.below ?_ (by assumption))
    ·repeat (first | exact zA HPW | refine zE.setNew ?_ _ _ (by omega) | refine zE.belowN ?_ (zC _ _) | refine zE.belowN ?_ (by assumption))
   ·refine bodyPost_ret (v:=.agg #[.string (txN v),.int .i64 3,.int .i64 (1 + (v:Int) / 12 % 6),.int .i64 (0)]) ?res rfl ⟨⟨⟨txN v,3,1 + (v:Int) / 12 % 6,0⟩,rfl,zB ?_⟩,zB ?_,zB ?_⟩
    case res=>simp [results,Tryz.results110,go_sem, *]
    ·rw [<- zA HV,<- zA HK]
     exact zKp (zA HCK) (by omega) hk hv
    ·repeat (first | exact zA H2 | refine RdS.set ?_ _ _ _ (by omega) | refine RdS.below ?_ (zC _ _) | refine RdS.below ?_ (by assumption))
    ·repeat (first | exact zA HPW | refine zE.setNew ?_ _ _ (by omega) | refine zE.belowN ?_ (zC _ _) | refine zE.belowN ?_ (by assumption))
  ·skip
   go_wp2_with (first | (go_at_call 150; refine (zAj _ _ (by omega)).mono ?_; rintro e w3 ⟨rfl,hx⟩; obtain rfl:=hx.symm) | (go_at_call 143; refine (zAM _ _ _ _ _).mono ?_; rintro e w3 ⟨rfl,hb3⟩; have hA3:=fun o=>hb3.cell (p:=⟨w.heap.size,o,none⟩) (by simp; omega); have hB3:=fun o=>hb3.cell (p:=⟨w2.heap.size,o,none⟩) (by first | (simp; done) | (simp; omega)); have hE3:=fun o=>hb3.frozen (p:=⟨w.heap.size,o,none⟩) (by simp; omega); have hF3:=fun o=>hb3.frozen (p:=⟨w2.heap.size,o,none⟩) (by first | (simp; done) | (simp; omega)); have hz3:w2.heap.size + 1 <= w3.heap.size:=(by have:=hb3.size; simp at this; omega)))
   ·refine bodyPost_ret (v:=.agg #[.string (txN v),.int .i64 3,.int .i64 (wrap64 (997 + srt 3 (0))),.int .i64 (0)]) ?res rfl ⟨⟨⟨txN v,3,wrap64 (997 + srt 3 (0)),0⟩,rfl,zB ?_⟩,zB ?_,zB ?_⟩
    case res=>simp [results,Tryz.results110,go_sem, *]
    ·rw [<- zA HV,<- zA HK]
     exact zKq (zA HCK) (by omega) hk hv
    ·repeat (first | exact zA H2 | refine RdS.set ?_ _ _ _ (by omega) | refine RdS.below ?_ (zC _ _) | refine RdS.below ?_ (by assumption))
    ·repeat (first | exact zA HPW | refine zE.setNew ?_ _ _ (by omega) | refine zE.belowN ?_ (zC _ _) | refine zE.belowN ?_ (by assumption))
   ·refine bodyPost_ret (v:=.agg #[.string (txN v),.int .i64 3,.int .i64 (wrap64 (3 * ((v:Int) / 12 % 4) + srt 3 (0))),.int .i64 (0)]) ?res rfl ⟨⟨⟨txN v,3,wrap64 (3 * ((v:Int) / 12 % 4) + srt 3 (0)),0⟩,rfl,zB ?_⟩,zB ?_,zB ?_⟩
    case res=>simp [results,Tryz.results110,go_sem, *]
    ·rw [<- zA HV,<- zA HK]
     exact zKr (zA HCK) (by omega) hk hv
    ·repeat (first | exact zA H2 | refine RdS.set ?_ _ _ _ (by omega) | refine RdS.below ?_ (zC _ _) | refine RdS.below ?_ (by assumption))
    ·repeat (first | exact zA HPW | refine zE.setNew ?_ _ _ (by omega) | refine zE.belowN ?_ (zC _ _) | refine zE.belowN ?_ (by assumption))
 ·have HCK:=zB hc
  have hk8I:¬ (k:Int) % 8 < 2:=by omega
  have hk8J:((k:Int) % 8 == 2) = false:=by simp; omega
  clear hc
  cases tidy
  ·skip
   go_wp2_with (first | (go_at_call 150; refine (zAj _ _ (by omega)).mono ?_; rintro e w3 ⟨rfl,hx⟩; obtain rfl:=hx.symm) | (go_at_call 143; refine (zAM _ _ _ _ _).mono ?_; rintro e w3 ⟨rfl,hb3⟩; have hA3:=fun o=>hb3.cell (p:=⟨w.heap.size,o,none⟩) (by simp; omega); have hB3:=fun o=>hb3.cell (p:=⟨w2.heap.size,o,none⟩) (by first | (simp; done) | (simp; omega)); have hE3:=fun o=>hb3.frozen (p:=⟨w.heap.size,o,none⟩) (by simp; omega); have hF3:=fun o=>hb3.frozen (p:=⟨w2.heap.size,o,none⟩) (by first | (simp; done) | (simp; omega)); have hz3:w2.heap.size + 1 <= w3.heap.size:=(by have:=hb3.size; simp at this; omega)))
   ·refine bodyPost_ret (v:=.agg #[.string (txN v),.int .i64 2,.int .i64 (wrap64 (997 + srt 2 (1 + (k:Int) / 8 % 3))),.int .i64 (1 + (k:Int) / 8 % 3)]) ?res rfl ⟨⟨⟨txN v,2,wrap64 (997 + srt 2 (1 + (k:Int) / 8 % 3)),1 + (k:Int) / 8 % 3⟩,rfl,zB ?_⟩,zB ?_,zB ?_⟩
    case res=>simp [results,Tryz.results110,go_sem, *]
    ·rw [<- zA HV,<- zA HK]
     exact zKs (zA HCK) (by omega) hk hv
    ·repeat (first | exact zA H2 | refine RdS.set ?_ _ _ _ (by omega) | refine RdS.below ?_ (zC _ _) | refine RdS.below ?_ (by assumption))
    ·repeat (first | exact zA HPW | refine zE.setNew ?_ _ _ (by omega) | refine zE.belowN ?_ (zC _ _) | refine zE.belowN ?_ (by assumption))
   ·refine bodyPost_ret (v:=.agg #[.string (txN v),.int .i64 2,.int .i64 (1 + (v:Int) / 12 % 6),.int .i64 (1 + (k:Int) / 8 % 3)]) ?res rfl ⟨⟨⟨txN v,2,1 + (v:Int) / 12 % 6,1 + (k:Int) / 8 % 3⟩,rfl,zB ?_⟩,zB ?_,zB ?_⟩
    case res=>simp [results,Tryz.results110,go_sem, *]
    ·rw [<- zA HV,<- zA HK]
     exact zKt (zA HCK) (by omega) hk hv
    ·repeat (first | exact zA H2 | refine RdS.set ?_ _ _ _ (by omega) | refine RdS.below ?_ (zC _ _) | refine RdS.below ?_ (by assumption))
    ·repeat (first | exact zA HPW | refine zE.setNew ?_ _ _ (by omega) | refine zE.belowN ?_ (zC _ _) | refine zE.belowN ?_ (by assumption))
  ·skip
   go_wp2_with (first | (go_at_call 150; refine (zAj _ _ (by omega)).mono ?_; rintro e w3 ⟨rfl,hx⟩; obtain rfl:=hx.symm) | (go_at_call 143; refine (zAM _ _ _ _ _).mono ?_; rintro e w3 ⟨rfl,hb3⟩; have hA3:=fun o=>hb3.cell (p:=⟨w.heap.size,o,none⟩) (by simp; omega); have hB3:=fun o=>hb3.cell (p:=⟨w2.heap.size,o,none⟩) (by first | (simp; done) | (simp; omega)); have hE3:=fun o=>hb3.frozen (p:=⟨w.heap.size,o,none⟩) (by simp; omega); have hF3:=fun o=>hb3.frozen (p:=⟨w2.heap.size,o,none⟩) (by first | (simp; done) | (simp; omega)); have hz3:w2.heap.size + 1 <= w3.heap.size:=(by have:=hb3.size; simp at this; omega)))
   ·refine bodyPost_ret (v:=.agg #[.string (txN v),.int .i64 2,.int .i64 (wrap64 (997 + srt 2 (1 + (k:Int) / 8 % 3))),.int .i64 (1 + (k:Int) / 8 % 3)]) ?res rfl ⟨⟨⟨txN v,2,wrap64 (997 + srt 2 (1 + (k:Int) / 8 % 3)),1 + (k:Int) / 8 % 3⟩,rfl,zB ?_⟩,zB ?_,zB ?_⟩
    case res=>simp [results,Tryz.results110,go_sem, *]
    ·rw [<- zA HV,<- zA HK]
     exact zKu (zA HCK) (by omega) hk hv
    ·repeat (first | exact zA H2 | refine RdS.set ?_ _ _ _ (by omega) | refine RdS.below ?_ (zC _ _) | refine RdS.below ?_ (by assumption))
    ·repeat (first | exact zA HPW | refine zE.setNew ?_ _ _ (by omega) | refine zE.belowN ?_ (zC _ _) | refine zE.belowN ?_ (by assumption))
   ·refine bodyPost_ret (v:=.agg #[.string (txN v),.int .i64 2,.int .i64 (wrap64 (3 * ((v:Int) / 12 % 4) + srt 2 (1 + (k:Int) / 8 % 3))),.int .i64 (1 + (k:Int) / 8 % 3)]) ?res rfl ⟨⟨⟨txN v,2,wrap64 (3 * ((v:Int) / 12 % 4) + srt 2 (1 + (k:Int) / 8 % 3)),1 + (k:Int) / 8 % 3⟩,rfl,zB ?_⟩,zB ?_,zB ?_⟩
    case res=>simp [results,Tryz.results110,go_sem, *]
    ·rw [<- zA HV,<- zA HK]
     exact zKv (zA HCK) (by omega) hk hv
    ·repeat (first | exact zA H2 | refine RdS.set ?_ _ _ _ (by omega) | refine RdS.below ?_ (zC _ _) | refine RdS.below ?_ (by assumption))
    ·repeat (first | exact zA HPW | refine zE.setNew ?_ _ _ (by omega) | refine zE.belowN ?_ (zC _ _) | refine zE.belowN ?_ (by assumption))
end Go.Proofs.YtfboipappaonhaaGreat
namespace Go.Proofs.YtfboipappaonhaaGreat
set_option maxHeartbeats 16000000
set_option maxRecDepth 100000
open Go.RowKit
def ZL (zs:List OpR):List Value:=zs.flatMap fun o=>[.string o.s,.int .i64 o.k,.int .i64 o.l,.int .i64 o.sd]
theorem zBw (xs ys:List OpR):ZL (xs ++ ys) = ZL xs ++ ZL ys:=by simp [ZL]
theorem zCK:∀ zs:List OpR,(ZL zs).length = zs.length * 4
 | []=>rfl
 | o :: r=>by
  have:=zCK r
  simp only [ZL,List.flatMap_cons,List.length_append,List.length_cons,List.length_nil] at *
  omega
theorem zD5:∀ (zs:List OpR) (i:Nat),i < zs.length -> (ZL zs)[i * 4]? = some (.string (atO zs i).s) /\ (ZL zs)[i * 4 + 1]? = some (.int .i64 (atO zs i).k) /\ (ZL zs)[i * 4 + 2]? = some (.int .i64 (atO zs i).l) /\ (ZL zs)[i * 4 + 3]? = some (.int .i64 (atO zs i).sd)
 | [],i,h=>absurd h (Nat.not_lt_zero i)
 | o :: r,0,_=>⟨rfl,rfl,rfl,rfl⟩
 | o :: r,i + 1,h=>by
  have ih:=zD5 r i (by simpa using h)
  have e:∀ j,(ZL (o :: r))[(i + 1) * 4 + j]? = (ZL r)[i * 4 + j]?:=fun j=>by
   have:(i + 1) * 4 + j = (i * 4 + j) + 4:=by omega
   rw [this]
   rfl
  exact ⟨(e 0).trans ih.1,(e 1).trans ih.2.1,(e 2).trans ih.2.2.1,(e 3).trans ih.2.2.2⟩
theorem zBj (zs:List OpR):∀ u ∈ ZL zs,u.oneCell' = true:=by
 intro u hu
 simp only [ZL,List.mem_flatMap] at hu
 obtain ⟨o,_,ho⟩:=hu
 simp at ho
 rcases ho with rfl | rfl | rfl | rfl <;> rfl
theorem zKw {w:World} {b off:Nat} {xs:List OpR} (h:Ops w b off xs):∀ j u,(ZL xs)[j]? = some u -> w.cell? ((⟨b,off,none⟩:Addr).add j) = some u:=by
 intro j u hj
 have hlt:j < xs.length * 4:=by
  rw [<- zCK]
  exact (List.getElem?_eq_some_iff.1 hj).1
 rw [Addr.add_mid]
 have hi:j / 4 < xs.length:=by omega
 obtain ⟨a0,a1,a2,a3⟩:=h (j / 4) hi
 obtain ⟨c0,c1,c2,c3⟩:=zD5 xs (j / 4) hi
 have hr:j % 4 = 0 \/ j % 4 = 1 \/ j % 4 = 2 \/ j % 4 = 3:=by omega
 rcases hr with e | e | e | e
 ·have ej:j = j / 4 * 4:=by omega
  rw [ej] at hj ⊢
  rw [c0] at hj
  rw [<- hj]
  exact a0
 ·have ej:j = j / 4 * 4 + 1:=by omega
  rw [ej] at hj ⊢
  rw [c1] at hj
  rw [<- hj]
  exact a1
 ·have ej:j = j / 4 * 4 + 2:=by omega
  rw [ej] at hj ⊢
  rw [c2] at hj
  rw [<- hj]
  exact a2
 ·have ej:j = j / 4 * 4 + 3:=by omega
  rw [ej] at hj ⊢
  rw [c3] at hj
  rw [<- hj]
  exact a3
theorem zAw {w:World} {base g cap:Nat} {e:TypeId} {zs:List OpR} (h:w.ownsRow base e 4 (.slice (some ⟨g,0,none⟩) zs.length cap) zs.length (ZL zs)):base <= g /\ zf w g zs zs.length:=by
 have hlt:=h.lt g rfl
 refine ⟨hlt.1,hlt.2,fun j hj=>⟨?_,h.frozenAt _⟩,fun i hi=>?_⟩
 ·rw [h.cellAt (0 + j) (by omega)]
  have:0 + j < (ZL zs).length:=by rw [zCK]; omega
  rw [List.getElem?_eq_getElem this]
  rfl
 ·obtain ⟨c0,c1,c2,c3⟩:=zD5 zs i hi
  have e:=fun j (hj:j < 4)=>h.cellAt (i * 4 + j) (by omega)
  exact ⟨by simpa using (e 0 (by omega)).trans c0,by simpa using (e 1 (by omega)).trans c1,by simpa using (e 2 (by omega)).trans c2,by simpa using (e 3 (by omega)).trans c3⟩
theorem zCL {w:World} {base n size:Nat} {e:TypeId} {v:Value} {xs:List Value} (h:w.ownsRow base e size v n xs) (hv:v ≠ .slice none 0 0):∃ g cap,v = .slice (some ⟨g,0,none⟩) n cap:=by
 obtain ⟨_,h | ⟨g,cap,cur,hv',_⟩⟩:=h
 ·exact absurd h.1 hv
 ·exact ⟨g,cap,hv'⟩
theorem zJL:(Tryz.prog.info? 123).map (fun i=>(i.zero,i.size,i.bytes)) = some (some (.agg #[.string ⟨#[]⟩,.int .i64 0,.int .i64 0,.int .i64 0]),4,40):=by kernel_rfl
theorem zJ7 (w:World) (o:OpR):(w.alloc (.cells #[.string o.s,.int .i64 o.k,.int .i64 o.l,.int .i64 o.sd] 123)).rangeAt w.heap.size 0 [.string o.s,.int .i64 o.k,.int .i64 o.l,.int .i64 o.sd]:=by
 have:=World.rangeAt_of_block (w:=w.alloc (.cells #[.string o.s,.int .i64 o.k,.int .i64 o.l,.int .i64 o.sd] 123)) (b:=w.heap.size) (heap_alloc_new w _) 0 4
 simpa using this
theorem zHk (w:World) (o:OpR):∀ j u,(ZL [o])[j]? = some u -> (w.alloc (.cells #[.string o.s,.int .i64 o.k,.int .i64 o.l,.int .i64 o.sd] 123)).cell? ((⟨w.heap.size,0,none⟩:Addr).add j) = some u:=by
 intro j u hj
 rw [Addr.add_mid]
 exact zJ7 w o j u hj
end Go.Proofs.YtfboipappaonhaaGreat
