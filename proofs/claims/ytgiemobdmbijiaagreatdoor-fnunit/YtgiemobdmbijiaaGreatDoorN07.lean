import Derived.OwnWalk
import Derived.Laws.OwnMore
import Derived.Test.YtgiemobdmbijiaaGreatDoorN01
import Derived.Test.YtgiemobdmbijiaaGreatDoorN05
import Derived.Test.YtgiemobdmbijiaaGreatDoorN06
namespace Go.Proofs.YtgiemobdmbijiaaGreatDoor
set_option linter.unusedSimpArgs false
set_option linter.unusedVariables false
set_option maxHeartbeats 16000000
set_option maxRecDepth 100000
open Go.RowKit
def txL:List ByteArray:=[⟨#[43]⟩,⟨#[45]⟩,⟨#[43,43]⟩,⟨#[42]⟩,⟨#[33]⟩,⟨#[61,61]⟩,⟨#[43,43,43]⟩,⟨#[33,61]⟩,⟨#[45,45]⟩,⟨#[94]⟩,⟨#[61,62]⟩,⟨#[63,58]⟩]
def txN (k:Nat):ByteArray:=txL.getD (k % 12) ⟨#[]⟩
theorem zBP {k j:Nat} (h:k % 12 = j):txN k = txL.getD j ⟨#[]⟩:=by rw [txN,h]
theorem zFh (k:Nat):(txN k).size <= 3:=by
 have h:k % 12 < 12:=Nat.mod_lt _ (by decide)
 have:∀ j:Fin 12,(txL.getD j.val ⟨#[]⟩).size <= 3:=by decide
 exact this ⟨k % 12,h⟩
theorem zAD (k:Nat) (w:World) (hk:k < 1000000) :
  Calls Tryz.prog 47 #[.int .i64 (k:Int)] w fun e w'=>e = .returned (.string (txN k)) /\ w' = w:=by
 go_enter Tryz.func47,Tryz.ntmps47
 go_wp2
 all_goals
  go_ret
  refine ⟨zKP ?_,rfl⟩
  go_light
  simp only [beq_iff_eq,beq_eq_false_iff_ne,ne_eq] at *
  first
   | (
    refine Eq.trans ?_ (zBP (j:=0) ?_).symm
    ·rfl
    ·omega)
   | (
    refine Eq.trans ?_ (zBP (j:=1) ?_).symm
    ·rfl
    ·omega)
   | (
    refine Eq.trans ?_ (zBP (j:=2) ?_).symm
    ·rfl
    ·omega)
   | (
    refine Eq.trans ?_ (zBP (j:=3) ?_).symm
    ·rfl
    ·omega)
   | (
    refine Eq.trans ?_ (zBP (j:=4) ?_).symm
    ·rfl
    ·omega)
   | (
    refine Eq.trans ?_ (zBP (j:=5) ?_).symm
    ·rfl
    ·omega)
   | (
    refine Eq.trans ?_ (zBP (j:=6) ?_).symm
    ·rfl
    ·omega)
   | (
    refine Eq.trans ?_ (zBP (j:=7) ?_).symm
    ·rfl
    ·omega)
   | (
    refine Eq.trans ?_ (zBP (j:=8) ?_).symm
    ·rfl
    ·omega)
   | (
    refine Eq.trans ?_ (zBP (j:=9) ?_).symm
    ·rfl
    ·omega)
   | (
    refine Eq.trans ?_ (zBP (j:=10) ?_).symm
    ·rfl
    ·omega)
   | (
    refine Eq.trans ?_ (zBP (j:=11) ?_).symm
    ·rfl
    ·omega)
def zq (k:Nat):Int:=if k % 8 < 2 then 1 else if k % 8 = 2 then 3 else 2
def zl (k:Nat):Int:=if k % 8 < 2 then 0 else if k % 8 = 2 then 0 else 1 + ((k / 8 % 3:Nat):Int)
def Zj (k v:Nat) (tidy:Bool):Int:=
 if 250 <= k then 997 + srt (zq k) (zl k) else if tidy = true then 3 * ((v / 12 % 4:Nat):Int) + srt (zq k) (zl k) else 1 + ((v / 12 % 6:Nat):Int)
def zAa (k v:Nat) (tidy:Bool):OpR:=⟨txN v,zq k,Zj k v tidy,zl k⟩
theorem RdS.set {w:World} {rp cap p:Nat} {a:Option Addr} {bs:List UInt8} (h:RdS w rp a cap bs p) (b o:Nat) (v:Value) (hb:rp < b):RdS (w.setCell ⟨b,o,none⟩ v) rp a cap bs p:=
 h.kept (fun i hi=>Below.heap_setCell _ _ _ _ (by simp; omega))
theorem zF.setNew {w w1:World} {g b:Nat} (h:zF w w1 g) (o:Nat) (v:Value) (hb:w.heap.size <= b):zF w (w1.setCell ⟨b,o,none⟩ v) g:=
 ⟨h.os,h.tape,h.output,by simpa [World.setCell] using h.size,fun i hi hg=>(Below.heap_setCell _ _ _ _ (by simp; omega)).trans (h.block i hi hg)⟩
theorem zF.belowN {w w1 w2:World} {g:Nat} (h:zF w w1 g) (hb:Below w1.heap.size w1 w2):zF w w2 g:=h.trans (zF.of_below hb)
theorem zPW {k v:Nat} (hc:k % 8 < 2) (hb:250 <= k) (hk:k < 256) (hv:v < 256):(⟨txN v,1,wrap64 (997 + srt 1 (0)),0⟩:OpR) = zAa k v false:=by
 have e1:zq k = 1:=by simp [zq]; omega
 have e2:zl k = 0:=by simp [zl]; omega
 unfold zAa Zj
 rw [e1,e2]
 simp [hb,srt,wrap64]
 try omega
theorem zLu {k v:Nat} (hc:k % 8 < 2) (hb:¬ 250 <= k) (hk:k < 256) (hv:v < 256):(⟨txN v,1,1 + (v:Int) / 12 % 6,0⟩:OpR) = zAa k v false:=by
 have e1:zq k = 1:=by simp [zq]; omega
 have e2:zl k = 0:=by simp [zl]; omega
 unfold zAa Zj
 rw [e1,e2]
 simp [hb,srt,wrap64]
 try omega
theorem zLv {k v:Nat} (hc:k % 8 < 2) (hb:¬ 250 <= k) (hk:k < 256) (hv:v < 256):(⟨txN v,1,wrap64 (3 * ((v:Int) / 12 % 4) + srt 1 (0)),0⟩:OpR) = zAa k v true:=by
 have e1:zq k = 1:=by simp [zq]; omega
 have e2:zl k = 0:=by simp [zl]; omega
 unfold zAa Zj
 rw [e1,e2]
 simp [hb,srt,wrap64]
 try omega
theorem zLw {k v:Nat} (hc:k % 8 = 2) (hb:250 <= k) (hk:k < 256) (hv:v < 256):(⟨txN v,3,wrap64 (997 + srt 3 (0)),0⟩:OpR) = zAa k v false:=by
 have e1:zq k = 3:=by simp [zq]; omega
 have e2:zl k = 0:=by simp [zl]; omega
 unfold zAa Zj
 rw [e1,e2]
 simp [hb,srt,wrap64]
 try omega
theorem zLx {k v:Nat} (hc:k % 8 = 2) (hb:¬ 250 <= k) (hk:k < 256) (hv:v < 256):(⟨txN v,3,1 + (v:Int) / 12 % 6,0⟩:OpR) = zAa k v false:=by
 have e1:zq k = 3:=by simp [zq]; omega
 have e2:zl k = 0:=by simp [zl]; omega
 unfold zAa Zj
 rw [e1,e2]
 simp [hb,srt,wrap64]
 try omega
theorem zLy {k v:Nat} (hc:k % 8 = 2) (hb:250 <= k) (hk:k < 256) (hv:v < 256):(⟨txN v,3,wrap64 (997 + srt 3 (0)),0⟩:OpR) = zAa k v true:=by
 have e1:zq k = 3:=by simp [zq]; omega
 have e2:zl k = 0:=by simp [zl]; omega
 unfold zAa Zj
 rw [e1,e2]
 simp [hb,srt,wrap64]
 try omega
theorem zLz {k v:Nat} (hc:k % 8 = 2) (hb:¬ 250 <= k) (hk:k < 256) (hv:v < 256):(⟨txN v,3,wrap64 (3 * ((v:Int) / 12 % 4) + srt 3 (0)),0⟩:OpR) = zAa k v true:=by
 have e1:zq k = 3:=by simp [zq]; omega
 have e2:zl k = 0:=by simp [zl]; omega
 unfold zAa Zj
 rw [e1,e2]
 simp [hb,srt,wrap64]
 try omega
theorem zL0 {k v:Nat} (hc:2 < k % 8) (hb:250 <= k) (hk:k < 256) (hv:v < 256):(⟨txN v,2,wrap64 (997 + srt 2 (1 + (k:Int) / 8 % 3)),1 + (k:Int) / 8 % 3⟩:OpR) = zAa k v false:=by
 have e1:zq k = 2:=by simp [zq]; omega
 have e2:zl k = 1 + (k:Int) / 8 % 3:=by simp [zl]; omega
 unfold zAa Zj
 rw [e1,e2]
 simp [hb,srt,wrap64]
 try omega
theorem zL1 {k v:Nat} (hc:2 < k % 8) (hb:¬ 250 <= k) (hk:k < 256) (hv:v < 256):(⟨txN v,2,1 + (v:Int) / 12 % 6,1 + (k:Int) / 8 % 3⟩:OpR) = zAa k v false:=by
 have e1:zq k = 2:=by simp [zq]; omega
 have e2:zl k = 1 + (k:Int) / 8 % 3:=by simp [zl]; omega
 unfold zAa Zj
 rw [e1,e2]
 simp [hb,srt,wrap64]
 try omega
theorem zL2 {k v:Nat} (hc:2 < k % 8) (hb:250 <= k) (hk:k < 256) (hv:v < 256):(⟨txN v,2,wrap64 (997 + srt 2 (1 + (k:Int) / 8 % 3)),1 + (k:Int) / 8 % 3⟩:OpR) = zAa k v true:=by
 have e1:zq k = 2:=by simp [zq]; omega
 have e2:zl k = 1 + (k:Int) / 8 % 3:=by simp [zl]; omega
 unfold zAa Zj
 rw [e1,e2]
 simp [hb,srt,wrap64]
 try omega
theorem zL3 {k v:Nat} (hc:2 < k % 8) (hb:¬ 250 <= k) (hk:k < 256) (hv:v < 256):(⟨txN v,2,wrap64 (3 * ((v:Int) / 12 % 4) + srt 2 (1 + (k:Int) / 8 % 3)),1 + (k:Int) / 8 % 3⟩:OpR) = zAa k v true:=by
 have e1:zq k = 2:=by simp [zq]; omega
 have e2:zl k = 1 + (k:Int) / 8 % 3:=by simp [zl]; omega
 unfold zAa Zj
 rw [e1,e2]
 simp [hb,srt,wrap64]
 try omega
theorem zDM (rp cap p:Nat) (tidy:Bool) (a:Option Addr) (bs:List UInt8) (w:World) (h:RdF w rp a cap bs p) (hl:bs.length <= 1200) :
  Calls Tryz.prog 30 #[.pointer (some ⟨rp,0,none⟩),.bool tidy] w fun e w'=>(∃ o:OpR,e = .returned (.agg #[.string o.s,.int .i64 o.k,.int .i64 o.l,.int .i64 o.sd]) /\ Hid (o = zAa (nxt bs p) (nxt bs (adv bs p)) tidy)) /\ Hid (RdF w' rp a cap bs (adv bs (adv bs p))) /\ Hid (zF w w' rp):=by
 have hrpw:=h.lt
 have H:=zB h
 clear h
 go_enter Tryz.func30,Tryz.ntmps30
 go_wp2_with fail
 refine (zL rp cap p a bs _ ((zA H).below (zC _ _)) hl).mono ?_
 rintro e w1 ⟨⟨k,rfl,hk,HK⟩,H1,HP1⟩
 go_wp2_with fail
 refine (zL rp cap _ a bs _ (zA H1) hl).mono ?_
 rintro e w2 ⟨⟨v,rfl,hv,HV⟩,H2,HP2⟩
 have HP:=zB ((zA HP1).trans (zA HP2))
 clear H H1 HP1 HP2
 have zw:w.heap.size < w2.heap.size:=by have:=(zA HP).size; simp at this; omega
 have hrp:=(zA H2).lt
 have r0:w2.cell? ⟨w.heap.size,0,none⟩ = some (.string ⟨#[]⟩) /\ w2.cell? ⟨w.heap.size,1,none⟩ = some (.int .i64 0) /\ w2.cell? ⟨w.heap.size,2,none⟩ = some (.int .i64 0) /\ w2.cell? ⟨w.heap.size,3,none⟩ = some (.int .i64 0):=by
  have e:=fun o=>(zA HP).cell (b:=w.heap.size) (by simp) (by have:=hrpw; omega) o
  refine ⟨(e _).trans ?_,(e _).trans ?_,(e _).trans ?_,(e _).trans ?_⟩ <;> simp [go_sem]
 obtain ⟨r0,r1,r2,r3⟩:=r0
 have f0:∀ o,w2.frozen? ⟨w.heap.size,o,none⟩ = false:=fun o=>((zA HP).frozen (b:=w.heap.size) (by simp) (by have:=hrpw; omega) o).trans (by simp [go_sem])
 have HPW:=zB (show zF w w2 rp from (zF.of_below (zC _ _)).trans (zA HP))
 clear HP
 have hcs:k % 8 < 2 \/ k % 8 = 2 \/ 2 < k % 8:=by omega
 rcases hcs with hc | hc | hc
 ·have HCK:=zB hc
  have hk8I:(k:Int) % 8 < 2:=by omega
  clear hc
  cases tidy
  ·skip
   go_wp2_with (first | (go_at_call 47; refine (zAD _ _ (by omega)).mono ?_; rintro e w3 ⟨rfl,hx⟩; obtain rfl:=hx.symm) | (go_at_call 48; refine (Zw _ _ _ _ _).mono ?_; rintro e w3 ⟨rfl,hb3⟩; have hA3:=fun o=>hb3.cell (p:=⟨w.heap.size,o,none⟩) (by simp; omega); have hB3:=fun o=>hb3.cell (p:=⟨w2.heap.size,o,none⟩) (by first | (simp; done) | (simp; omega)); have hE3:=fun o=>hb3.frozen (p:=⟨w.heap.size,o,none⟩) (by simp; omega); have hF3:=fun o=>hb3.frozen (p:=⟨w2.heap.size,o,none⟩) (by first | (simp; done) | (simp; omega)); have hz3:w2.heap.size + 1 <= w3.heap.size:=(by have:=hb3.size; simp at this; omega)))
   ·refine bodyPost_ret (v:=.agg #[.string (txN v),.int .i64 1,.int .i64 (1 + (v:Int) / 12 % 6),.int .i64 (0)]) ?res rfl ⟨⟨⟨txN v,1,1 + (v:Int) / 12 % 6,0⟩,rfl,zB ?_⟩,zB ?_,zB ?_⟩
    case res=>simp [results,Tryz.results30,go_sem, *]
    ·rw [<- zA HV,<- zA HK]
     exact zLu (zA HCK) (by omega) hk hv
    ·repeat (first | exact zA H2 | refine RdF.set ?_ _ _ _ (by omega) | refine RdF.below ?_ (zC _ _) | refine RdF.below ?_ (by assumption))
    ·repeat (first | exact zA HPW | refine zF.setNew ?_ _ _ (by omega) | refine zF.belowN ?_ (zC _ _) | refine zF.belowN ?_ (by assumption))
  ·skip
   go_wp2_with (first | (go_at_call 47; refine (zAD _ _ (by omega)).mono ?_; rintro e w3 ⟨rfl,hx⟩; obtain rfl:=hx.symm) | (go_at_call 48; refine (Zw _ _ _ _ _).mono ?_; rintro e w3 ⟨rfl,hb3⟩; have hA3:=fun o=>hb3.cell (p:=⟨w.heap.size,o,none⟩) (by simp; omega); have hB3:=fun o=>hb3.cell (p:=⟨w2.heap.size,o,none⟩) (by first | (simp; done) | (simp; omega)); have hE3:=fun o=>hb3.frozen (p:=⟨w.heap.size,o,none⟩) (by simp; omega); have hF3:=fun o=>hb3.frozen (p:=⟨w2.heap.size,o,none⟩) (by first | (simp; done) | (simp; omega)); have hz3:w2.heap.size + 1 <= w3.heap.size:=(by have:=hb3.size; simp at this; omega)))
   ·refine bodyPost_ret (v:=.agg #[.string (txN v),.int .i64 1,.int .i64 (wrap64 (3 * ((v:Int) / 12 % 4) + srt 1 (0))),.int .i64 (0)]) ?res rfl ⟨⟨⟨txN v,1,wrap64 (3 * ((v:Int) / 12 % 4) + srt 1 (0)),0⟩,rfl,zB ?_⟩,zB ?_,zB ?_⟩
    case res=>simp [results,Tryz.results30,go_sem, *]
    ·rw [<- zA HV,<- zA HK]
     exact zLv (zA HCK) (by omega) hk hv
    ·repeat (first | exact zA H2 | refine RdF.set ?_ _ _ _ (by omega) | refine RdF.below ?_ (zC _ _) | refine RdF.below ?_ (by assumption))
    ·repeat (first | exact zA HPW | refine zF.setNew ?_ _ _ (by omega) | refine zF.belowN ?_ (zC _ _) | refine zF.belowN ?_ (by assumption))
 ·have HCK:=zB hc
  have hk8I:¬ (k:Int) % 8 < 2:=by omega
  have hk8J:((k:Int) % 8 == 2) = true:=by simp; omega
  clear hc
  cases tidy
  ·skip
   go_wp2_with (first | (go_at_call 47; refine (zAD _ _ (by omega)).mono ?_; rintro e w3 ⟨rfl,hx⟩; obtain rfl:=hx.symm) | (go_at_call 48; refine (Zw _ _ _ _ _).mono ?_; rintro e w3 ⟨rfl,hb3⟩; have hA3:=fun o=>hb3.cell (p:=⟨w.heap.size,o,none⟩) (by simp; omega); have hB3:=fun o=>hb3.cell (p:=⟨w2.heap.size,o,none⟩) (by first | (simp; done) | (simp; omega)); have hE3:=fun o=>hb3.frozen (p:=⟨w.heap.size,o,none⟩) (by simp; omega); have hF3:=fun o=>hb3.frozen (p:=⟨w2.heap.size,o,none⟩) (by first | (simp; done) | (simp; omega)); have hz3:w2.heap.size + 1 <= w3.heap.size:=(by have:=hb3.size; simp at this; omega)))
   ·refine bodyPost_ret (v:=.agg #[.string (txN v),.int .i64 3,.int .i64 (wrap64 (997 + srt 3 (0))),.int .i64 (0)]) ?res rfl ⟨⟨⟨txN v,3,wrap64 (997 + srt 3 (0)),0⟩,rfl,zB ?_⟩,zB ?_,zB ?_⟩
    case res=>simp [results,Tryz.results30,go_sem, *]
    ·rw [<- zA HV,<- zA HK]
     exact zLw (zA HCK) (by omega) hk hv
    ·repeat (first | exact zA H2 | refine RdF.set ?_ _ _ _ (by omega) | refine RdF.below ?_ (zC _ _) | refine RdF.below ?_ (by assumption))
    ·repeat (first | exact zA HPW | refine zF.setNew ?_ _ _ (by omega) | refine zF.belowN ?_ (zC _ _) | refine zF.belowN ?_ (by assumption))
   ·refine bodyPost_ret (v:=.agg #[.string (txN v),.int .i64 3,.int .i64 (1 + (v:Int) / 12 % 6),.int .i64 (0)]) ?res rfl ⟨⟨⟨txN v,3,1 + (v:Int) / 12 % 6,0⟩,rfl,zB ?_⟩,zB ?_,zB ?_⟩
    case res=>simp [results,Tryz.results30,go_sem, *]
    ·rw [<- zA HV,<- zA HK]
     exact zLx (zA HCK) (by omega) hk hv
    ·repeat (first | exact zA H2 | refine RdF.set ?_ _ _ _ (by omega) | refine RdF.below ?_ (zC _ _) | refine RdF.below ?_ (by assumption))
    ·repeat (first | exact zA HPW | refine zF.setNew ?_ _ _ (by omega) | refine zF.belowN ?_ (zC _ _) | refine zF.belowN ?_ (by assumption))
  ·skip
   go_wp2_with (first | (go_at_call 47; refine (zAD _ _ (by omega)).mono ?_; rintro e w3 ⟨rfl,hx⟩; obtain rfl:=hx.symm) | (go_at_call 48; refine (Zw _ _ _ _ _).mono ?_; rintro e w3 ⟨rfl,hb3⟩; have hA3:=fun o=>hb3.cell (p:=⟨w.heap.size,o,none⟩) (by simp; omega); have hB3:=fun o=>hb3.cell (p:=⟨w2.heap.size,o,none⟩) (by first | (simp; done) | (simp; omega)); have hE3:=fun o=>hb3.frozen (p:=⟨w.heap.size,o,none⟩) (by simp; omega); have hF3:=fun o=>hb3.frozen (p:=⟨w2.heap.size,o,none⟩) (by first | (simp; done) | (simp; omega)); have hz3:w2.heap.size + 1 <= w3.heap.size:=(by have:=hb3.size; simp at this; omega)))
   ·refine bodyPost_ret (v:=.agg #[.string (txN v),.int .i64 3,.int .i64 (wrap64 (997 + srt 3 (0))),.int .i64 (0)]) ?res rfl ⟨⟨⟨txN v,3,wrap64 (997 + srt 3 (0)),0⟩,rfl,zB ?_⟩,zB ?_,zB ?_⟩
    case res=>simp [results,Tryz.results30,go_sem, *]
    ·rw [<- zA HV,<- zA HK]
     exact zLy (zA HCK) (by omega) hk hv
    ·repeat (first | exact zA H2 | refine RdF.set ?_ _ _ _ (by omega) | refine RdF.below ?_ (zC _ _) | refine RdF.below ?_ (by assumption))
    ·repeat (first | exact zA HPW | refine zF.setNew ?_ _ _ (by omega) | refine zF.belowN ?_ (zC _ _) | refine zF.belowN ?_ (by assumption))
   ·refine bodyPost_ret (v:=.agg #[.string (txN v),.int .i64 3,.int .i64 (wrap64 (3 * ((v:Int) / 12 % 4) + srt 3 (0))),.int .i64 (0)]) ?res rfl ⟨⟨⟨txN v,3,wrap64 (3 * ((v:Int) / 12 % 4) + srt 3 (0)),0⟩,rfl,zB ?_⟩,zB ?_,zB ?_⟩
    case res=>simp [results,Tryz.results30,go_sem, *]
    ·rw [<- zA HV,<- zA HK]
     exact zLz (zA HCK) (by omega) hk hv
    ·repeat (first | exact zA H2 | refine RdF.set ?_ _ _ _ (by omega) | refine RdF.below ?_ (zC _ _) | refine RdF.below ?_ (by assumption))
    ·repeat (first | exact zA HPW | refine zF.setNew ?_ _ _ (by omega) | refine zF.belowN ?_ (zC _ _) | refine zF.belowN ?_ (by assumption))
 ·have HCK:=zB hc
  have hk8I:¬ (k:Int) % 8 < 2:=by omega
  have hk8J:((k:Int) % 8 == 2) = false:=by simp; omega
  clear hc
  cases tidy
  ·skip
   go_wp2_with (first | (go_at_call 47; refine (zAD _ _ (by omega)).mono ?_; rintro e w3 ⟨rfl,hx⟩; obtain rfl:=hx.symm) | (go_at_call 48; refine (Zw _ _ _ _ _).mono ?_; rintro e w3 ⟨rfl,hb3⟩; have hA3:=fun o=>hb3.cell (p:=⟨w.heap.size,o,none⟩) (by simp; omega); have hB3:=fun o=>hb3.cell (p:=⟨w2.heap.size,o,none⟩) (by first | (simp; done) | (simp; omega)); have hE3:=fun o=>hb3.frozen (p:=⟨w.heap.size,o,none⟩) (by simp; omega); have hF3:=fun o=>hb3.frozen (p:=⟨w2.heap.size,o,none⟩) (by first | (simp; done) | (simp; omega)); have hz3:w2.heap.size + 1 <= w3.heap.size:=(by have:=hb3.size; simp at this; omega)))
   ·refine bodyPost_ret (v:=.agg #[.string (txN v),.int .i64 2,.int .i64 (wrap64 (997 + srt 2 (1 + (k:Int) / 8 % 3))),.int .i64 (1 + (k:Int) / 8 % 3)]) ?res rfl ⟨⟨⟨txN v,2,wrap64 (997 + srt 2 (1 + (k:Int) / 8 % 3)),1 + (k:Int) / 8 % 3⟩,rfl,zB ?_⟩,zB ?_,zB ?_⟩
    case res=>simp [results,Tryz.results30,go_sem, *]
    ·rw [<- zA HV,<- zA HK]
     exact zL0 (zA HCK) (by omega) hk hv
    ·repeat (first | exact zA H2 | refine RdF.set ?_ _ _ _ (by omega) | refine RdF.below ?_ (zC _ _) | refine RdF.below ?_ (by assumption))
    ·repeat (first | exact zA HPW | refine zF.setNew ?_ _ _ (by omega) | refine zF.belowN ?_ (zC _ _) | refine zF.belowN ?_ (by assumption))
   ·refine bodyPost_ret (v:=.agg #[.string (txN v),.int .i64 2,.int .i64 (1 + (v:Int) / 12 % 6),.int .i64 (1 + (k:Int) / 8 % 3)]) ?res rfl ⟨⟨⟨txN v,2,1 + (v:Int) / 12 % 6,1 + (k:Int) / 8 % 3⟩,rfl,zB ?_⟩,zB ?_,zB ?_⟩
    case res=>simp [results,Tryz.results30,go_sem, *]
    ·rw [<- zA HV,<- zA HK]
     exact zL1 (zA HCK) (by omega) hk hv
    ·repeat (first | exact zA H2 | refine RdF.set ?_ _ _ _ (by omega) | refine RdF.below ?_ (zC _ _) | refine RdF.below ?_ (by assumption))
    ·repeat (first | exact zA HPW | refine zF.setNew ?_ _ _ (by omega) | refine zF.belowN ?_ (zC _ _) | refine zF.belowN ?_ (by assumption))
  ·skip
   go_wp2_with (first | (go_at_call 47; refine (zAD _ _ (by omega)).mono ?_; rintro e w3 ⟨rfl,hx⟩; obtain rfl:=hx.symm) | (go_at_call 48; refine (Zw _ _ _ _ _).mono ?_; rintro e w3 ⟨rfl,hb3⟩; have hA3:=fun o=>hb3.cell (p:=⟨w.heap.size,o,none⟩) (by simp; omega); have hB3:=fun o=>hb3.cell (p:=⟨w2.heap.size,o,none⟩) (by first | (simp; done) | (simp; omega)); have hE3:=fun o=>hb3.frozen (p:=⟨w.heap.size,o,none⟩) (by simp; omega); have hF3:=fun o=>hb3.frozen (p:=⟨w2.heap.size,o,none⟩) (by first | (simp; done) | (simp; omega)); have hz3:w2.heap.size + 1 <= w3.heap.size:=(by have:=hb3.size; simp at this; omega)))
   ·refine bodyPost_ret (v:=.agg #[.string (txN v),.int .i64 2,.int .i64 (wrap64 (997 + srt 2 (1 + (k:Int) / 8 % 3))),.int .i64 (1 + (k:Int) / 8 % 3)]) ?res rfl ⟨⟨⟨txN v,2,wrap64 (997 + srt 2 (1 + (k:Int) / 8 % 3)),1 + (k:Int) / 8 % 3⟩,rfl,zB ?_⟩,zB ?_,zB ?_⟩
    case res=>simp [results,Tryz.results30,go_sem, *]
    ·rw [<- zA HV,<- zA HK]
     exact zL2 (zA HCK) (by omega) hk hv
    ·repeat (first | exact zA H2 | refine RdF.set ?_ _ _ _ (by omega) | refine RdF.below ?_ (zC _ _) | refine RdF.below ?_ (by assumption))
    ·repeat (first | exact zA HPW | refine zF.setNew ?_ _ _ (by omega) | refine zF.belowN ?_ (zC _ _) | refine zF.belowN ?_ (by assumption))
   ·refine bodyPost_ret (v:=.agg #[.string (txN v),.int .i64 2,.int .i64 (wrap64 (3 * ((v:Int) / 12 % 4) + srt 2 (1 + (k:Int) / 8 % 3))),.int .i64 (1 + (k:Int) / 8 % 3)]) ?res rfl ⟨⟨⟨txN v,2,wrap64 (3 * ((v:Int) / 12 % 4) + srt 2 (1 + (k:Int) / 8 % 3)),1 + (k:Int) / 8 % 3⟩,rfl,zB ?_⟩,zB ?_,zB ?_⟩
    case res=>simp [results,Tryz.results30,go_sem, *]
    ·rw [<- zA HV,<- zA HK]
     exact zL3 (zA HCK) (by omega) hk hv
    ·repeat (first | exact zA H2 | refine RdF.set ?_ _ _ _ (by omega) | refine RdF.below ?_ (zC _ _) | refine RdF.below ?_ (by assumption))
    ·repeat (first | exact zA HPW | refine zF.setNew ?_ _ _ (by omega) | refine zF.belowN ?_ (zC _ _) | refine zF.belowN ?_ (by assumption))
theorem zDu (rp cap p:Nat) (tidy:Bool) (a:Option Addr) (bs:List UInt8) (w:World) (h:RdS w rp a cap bs p) (hl:bs.length <= 1200) :
  Calls Tryz.prog 30 #[.pointer (some ⟨rp,0,none⟩),.bool tidy] w fun e w'=>(∃ o:OpR,e = .returned (.agg #[.string o.s,.int .i64 o.k,.int .i64 o.l,.int .i64 o.sd]) /\ Hid (o = zAa (nxt bs p) (nxt bs (adv bs p)) tidy)) /\ Hid (RdS w' rp a cap bs (adv bs (adv bs p))) /\ Hid (zF w w' rp):=by
 refine (zDM rp cap p tidy a bs w h.free hl).mono ?_
 rintro e w' ⟨h1,h2,h3⟩
 exact ⟨h1,zB ((zA h2).strict (zEN (zEN h.le))),h3⟩
end Go.Proofs.YtgiemobdmbijiaaGreatDoor
namespace Go.Proofs.YtgiemobdmbijiaaGreatDoor
set_option maxHeartbeats 16000000
set_option maxRecDepth 100000
open Go.RowKit
def zX (zs:List OpR):List Value:=zs.flatMap fun o=>[.string o.s,.int .i64 o.k,.int .i64 o.l,.int .i64 o.sd]
theorem zJh:zX [] = []:=rfl
theorem ZY (xs ys:List OpR):zX (xs ++ ys) = zX xs ++ zX ys:=by simp [zX]
theorem zBc:∀ zs:List OpR,(zX zs).length = zs.length * 4
 | []=>rfl
 | o :: r=>by
  have:=zBc r
  simp only [zX,List.flatMap_cons,List.length_append,List.length_cons,List.length_nil] at *
  omega
theorem zET:∀ (zs:List OpR) (i:Nat),i < zs.length -> (zX zs)[i * 4]? = some (.string (atO zs i).s) /\ (zX zs)[i * 4 + 1]? = some (.int .i64 (atO zs i).k) /\ (zX zs)[i * 4 + 2]? = some (.int .i64 (atO zs i).l) /\ (zX zs)[i * 4 + 3]? = some (.int .i64 (atO zs i).sd)
 | [],i,h=>absurd h (Nat.not_lt_zero i)
 | o :: r,0,_=>⟨rfl,rfl,rfl,rfl⟩
 | o :: r,i + 1,h=>by
  have ih:=zET r i (by simpa using h)
  have e:∀ j,(zX (o :: r))[(i + 1) * 4 + j]? = (zX r)[i * 4 + j]?:=fun j=>by
   have:(i + 1) * 4 + j = (i * 4 + j) + 4:=by omega
   rw [this]
   rfl
  exact ⟨(e 0).trans ih.1,(e 1).trans ih.2.1,(e 2).trans ih.2.2.1,(e 3).trans ih.2.2.2⟩
theorem ZZ (zs:List OpR):∀ u ∈ zX zs,u.oneCell' = true:=by
 intro u hu
 simp only [zX,List.mem_flatMap] at hu
 obtain ⟨o,_,ho⟩:=hu
 simp at ho
 rcases ho with rfl | rfl | rfl | rfl <;> rfl
theorem zIb {w:World} {b off:Nat} {xs:List OpR} (h:Ops w b off xs):∀ j u,(zX xs)[j]? = some u -> w.cell? ((⟨b,off,none⟩:Addr).add j) = some u:=by
 intro j u hj
 have hlt:j < xs.length * 4:=by
  rw [<- zBc]
  exact (List.getElem?_eq_some_iff.1 hj).1
 rw [Addr.add_mid]
 have hi:j / 4 < xs.length:=by omega
 obtain ⟨a0,a1,a2,a3⟩:=h (j / 4) hi
 obtain ⟨c0,c1,c2,c3⟩:=zET xs (j / 4) hi
 have hr:j % 4 = 0 \/ j % 4 = 1 \/ j % 4 = 2 \/ j % 4 = 3:=by omega
 rcases hr with e | e | e | e
 ·have ej:j = j / 4 * 4:=by omega
  rw [ej] at hj ⊢
  rw [c0] at hj
  rw [<- hj]
  exact a0
 ·have ej:j = j / 4 * 4 + 1:=by omega
  rw [ej] at hj ⊢
  rw [c1] at hj
  rw [<- hj]
  exact a1
 ·have ej:j = j / 4 * 4 + 2:=by omega
  rw [ej] at hj ⊢
  rw [c2] at hj
  rw [<- hj]
  exact a2
 ·have ej:j = j / 4 * 4 + 3:=by omega
  rw [ej] at hj ⊢
  rw [c3] at hj
  rw [<- hj]
  exact a3
theorem zBJ {w:World} {base g cap:Nat} {e:TypeId} {zs:List OpR} (h:w.ownsRow base e 4 (.slice (some ⟨g,0,none⟩) zs.length cap) zs.length (zX zs)):base <= g /\ Z1 w g zs zs.length:=by
 have hlt:=h.lt g rfl
 refine ⟨hlt.1,hlt.2,fun j hj=>⟨?_,h.frozenAt _⟩,fun i hi=>?_⟩
 ·rw [h.cellAt (0 + j) (by omega)]
  have:0 + j < (zX zs).length:=by rw [zBc]; omega
  rw [List.getElem?_eq_getElem this]
  rfl
 ·obtain ⟨c0,c1,c2,c3⟩:=zET zs i hi
  have e:=fun j (hj:j < 4)=>h.cellAt (i * 4 + j) (by omega)
  exact ⟨by simpa using (e 0 (by omega)).trans c0,by simpa using (e 1 (by omega)).trans c1,by simpa using (e 2 (by omega)).trans c2,by simpa using (e 3 (by omega)).trans c3⟩
theorem zA7 {w:World} {base n size:Nat} {e:TypeId} {v:Value} {xs:List Value} (h:w.ownsRow base e size v n xs) (hv:v ≠ .slice none 0 0):∃ g cap,v = .slice (some ⟨g,0,none⟩) n cap:=by
 obtain ⟨_,h | ⟨g,cap,cur,hv',_⟩⟩:=h
 ·exact absurd h.1 hv
 ·exact ⟨g,cap,hv'⟩
theorem zC5:(Tryz.prog.info? 46).map (fun i=>(i.zero,i.size,i.bytes)) = some (some (.agg #[.string ⟨#[]⟩,.int .i64 0,.int .i64 0,.int .i64 0]),4,40):=by kernel_rfl
theorem zEs {B:Nat} {w w':World} {row:Option Nat} (hg:w.grownBy w' row) (hB:B <= w.heap.size) (hr:∀ k,row = some k -> B <= k):Below B w w':=
 (Below.refl B w).grown hg hB hr
theorem zL4 {w:World} {base n size g cap:Nat} {e:TypeId} {xs:List Value} (h:w.ownsRow base e size (.slice (some ⟨g,0,none⟩) n cap) n xs):n <= cap /\ cap <= maxLen:=by
 obtain ⟨_,h | ⟨g',cap',cur,hv',_,_,h1,h2,_⟩⟩:=h
 ·simp at h
 ·simp only [Value.slice.injEq,Option.some.injEq] at hv'
  obtain ⟨_,_,rfl⟩:=hv'
  exact ⟨h1,h2⟩
theorem zLG (w:World) (o:OpR):(w.alloc (.cells #[.string o.s,.int .i64 o.k,.int .i64 o.l,.int .i64 o.sd] 46)).rangeAt w.heap.size 0 [.string o.s,.int .i64 o.k,.int .i64 o.l,.int .i64 o.sd]:=by
 have:=World.rangeAt_of_block (w:=w.alloc (.cells #[.string o.s,.int .i64 o.k,.int .i64 o.l,.int .i64 o.sd] 46)) (b:=w.heap.size) (heap_alloc_new w _) 0 4
 simpa using this
theorem zBK (w:World) (o:OpR):∀ j u,(zX [o])[j]? = some u -> (w.alloc (.cells #[.string o.s,.int .i64 o.k,.int .i64 o.l,.int .i64 o.sd] 46)).cell? ((⟨w.heap.size,0,none⟩:Addr).add j) = some u:=by
 intro j u hj
 rw [Addr.add_mid]
 exact zLG w o j u hj
end Go.Proofs.YtgiemobdmbijiaaGreatDoor
