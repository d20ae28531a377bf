import Derived.Deep.AppendLies
import Derived.Deep.RegionHeldLaw
import Derived.Test.YtgbkgkdpdfdokaaGreatDoorQ03
namespace Go.Proofs.YtgbkgkdpdfdokaaGreatDoor
set_option linter.all false
set_option maxHeartbeats 16000000
set_option maxRecDepth 100000
open Go.RowKit
variable {cap g i k v:Nat} {e:TypeId} {kd:Int} {ns xs:List OpR} {t:ByteArray} {w w1:World}
def txL:List ByteArray:=[⟨#[43]⟩,⟨#[45]⟩,⟨#[43,43]⟩,⟨#[42]⟩,⟨#[33]⟩,⟨#[61,61]⟩,⟨#[43,43,43]⟩,⟨#[33,61]⟩,⟨#[45,45]⟩,⟨#[94]⟩,⟨#[61,62]⟩,⟨#[63,58]⟩]
def txN (k:Nat):ByteArray:=txL.getD (k%12) ⟨#[]⟩
theorem zBk {j:Nat} (h:k%12=j):txN k=txL.getD j ⟨#[]⟩:=by rw [txN,h]
theorem zGf (k:Nat):(txN k).size<=3:=by
 have h:k%12<12:=Nat.mod_lt _ (by decide)
 have:∀ j:Fin 12,(txL.getD j.val ⟨#[]⟩).size<=3:=by decide
 exact this ⟨k%12,h⟩
theorem zAY (k:Nat) (w:JY) (hk:k<1000000) :
  Calls Tryz.prog 70 #[.int .i64 (k:Int)] w fun e w'=>e = .returned (.string (txN k))/\w'=w:=by
 go_enter Tryz.func70,Tryz.ntmps70
 go_wp2
 all_goals
  go_ret
  refine ⟨zLy ?_,rfl⟩
  go_light
  simp only [beq_iff_eq,yU,ne_eq] at *
  first
   | (
    refine Eq.trans ?_ (zBk (j:=0) ?_).symm
    ·rfl
    ·omega)
   | (
    refine Eq.trans ?_ (zBk (j:=1) ?_).symm
    ·rfl
    ·omega)
   | (
    refine Eq.trans ?_ (zBk (j:=2) ?_).symm
    ·rfl
    ·omega)
   | (
    refine Eq.trans ?_ (zBk (j:=3) ?_).symm
    ·rfl
    ·omega)
   | (
    refine Eq.trans ?_ (zBk (j:=4) ?_).symm
    ·rfl
    ·omega)
   | (
    refine Eq.trans ?_ (zBk (j:=5) ?_).symm
    ·rfl
    ·omega)
   | (
    refine Eq.trans ?_ (zBk (j:=6) ?_).symm
    ·rfl
    ·omega)
   | (
    refine Eq.trans ?_ (zBk (j:=7) ?_).symm
    ·rfl
    ·omega)
   | (
    refine Eq.trans ?_ (zBk (j:=8) ?_).symm
    ·rfl
    ·omega)
   | (
    refine Eq.trans ?_ (zBk (j:=9) ?_).symm
    ·rfl
    ·omega)
   | (
    refine Eq.trans ?_ (zBk (j:=10) ?_).symm
    ·rfl
    ·omega)
   | (
    refine Eq.trans ?_ (zBk (j:=11) ?_).symm
    ·rfl
    ·omega)
def ZK (k:Nat):Int:=if k%8<2 then 1 else if k%8=2 then 3 else 2
def ZC (k:Nat):Int:=if k%8<2 then 0 else if k%8=2 then 0 else 1+((k/8%3:Nat):Int)
def Zz (k v:Nat) (tidy:Bool):Int:=
 if 250<=k then 997+srt (ZK k) (ZC k) else if tidy=true then 3*((v/12%4:Nat):Int)+srt (ZK k) (ZC k) else 1+((v/12%6:Nat):Int)
def zBD (k v:Nat) (tidy:Bool):OpR:=⟨txN v,ZK k,Zz k v tidy,ZC k⟩
theorem RdS.set {rp p:Nat} {a:Option Addr} {bs:List UInt8} (h:RdS w rp a cap bs p) (b o:Nat) (v:Value) (hb:rp<b):RdS (w.setCell ⟨b,o,none⟩ v) rp a cap bs p:=
 h.kept (fun i hi=>yZ _ _ _ _ (by simp; omega))
theorem zG.setNew {b:Nat} (h:zG w w1 g) (o:Nat) (v:Value) (hb:w.heap.size<=b):zG w (w1.setCell ⟨b,o,none⟩ v) g:=
 ⟨h.os,h.tape,h.output,by simpa [World.setCell] using h.size,fun i hi hg=>(yZ _ _ _ _ (by simp; omega)).trans (h.block i hi hg)⟩
theorem zG.belowN {w2:JY} (h:zG w w1 g) (hb:Below w1.heap.size w1 w2):zG w w2 g:=h.trans (zG.of_below hb)
theorem zNZ (hc:k%8<2) (hb:¬ 250<=k) (hk:k<256) (hv:v<256):(⟨txN v,1,1+(v:Int)/12%6,0⟩:OpR)=zBD k v false:=by
 have e1:ZK k=1:=by simp [ZK]; omega
 have e2:ZC k=0:=by simp [ZC]; omega
 unfold zBD Zz
 rw [e1,e2]
 simp [hb,srt,wrap64]
 try omega
theorem zNa (hc:k%8<2) (hb:¬ 250<=k) (hk:k<256) (hv:v<256):(⟨txN v,1,wrap64 (3*((v:Int)/12%4)+srt 1 (0)),0⟩:OpR)=zBD k v true:=by
 have e1:ZK k=1:=by simp [ZK]; omega
 have e2:ZC k=0:=by simp [ZC]; omega
 unfold zBD Zz
 rw [e1,e2]
 simp [hb,srt,wrap64]
 try omega
theorem zNb (hc:k%8=2) (hb:250<=k) (hk:k<256) (hv:v<256):(⟨txN v,3,wrap64 (997+srt 3 (0)),0⟩:OpR)=zBD k v false:=by
 have e1:ZK k=3:=by simp [ZK]; omega
 have e2:ZC k=0:=by simp [ZC]; omega
 unfold zBD Zz
 rw [e1,e2]
 simp [hb,srt,wrap64]
 try omega
theorem zNc (hc:k%8=2) (hb:¬ 250<=k) (hk:k<256) (hv:v<256):(⟨txN v,3,1+(v:Int)/12%6,0⟩:OpR)=zBD k v false:=by
 have e1:ZK k=3:=by simp [ZK]; omega
 have e2:ZC k=0:=by simp [ZC]; omega
 unfold zBD Zz
 rw [e1,e2]
 simp [hb,srt,wrap64]
 try omega
theorem zNd (hc:k%8=2) (hb:250<=k) (hk:k<256) (hv:v<256):(⟨txN v,3,wrap64 (997+srt 3 (0)),0⟩:OpR)=zBD k v true:=by
 have e1:ZK k=3:=by simp [ZK]; omega
 have e2:ZC k=0:=by simp [ZC]; omega
 unfold zBD Zz
 rw [e1,e2]
 simp [hb,srt,wrap64]
 try omega
theorem zNe (hc:k%8=2) (hb:¬ 250<=k) (hk:k<256) (hv:v<256):(⟨txN v,3,wrap64 (3*((v:Int)/12%4)+srt 3 (0)),0⟩:OpR)=zBD k v true:=by
 have e1:ZK k=3:=by simp [ZK]; omega
 have e2:ZC k=0:=by simp [ZC]; omega
 unfold zBD Zz
 rw [e1,e2]
 simp [hb,srt,wrap64]
 try omega
theorem zNf (hc:2<k%8) (hb:250<=k) (hk:k<256) (hv:v<256):(⟨txN v,2,wrap64 (997+srt 2 (1+(k:Int)/8%3)),1+(k:Int)/8%3⟩:OpR)=zBD k v false:=by
 have e1:ZK k=2:=by simp [ZK]; omega
 have e2:ZC k=1+(k:Int)/8%3:=by simp [ZC]; omega
 unfold zBD Zz
 rw [e1,e2]
 simp [hb,srt,wrap64]
 try omega
theorem zNg (hc:2<k%8) (hb:¬ 250<=k) (hk:k<256) (hv:v<256):(⟨txN v,2,1+(v:Int)/12%6,1+(k:Int)/8%3⟩:OpR)=zBD k v false:=by
 have e1:ZK k=2:=by simp [ZK]; omega
 have e2:ZC k=1+(k:Int)/8%3:=by simp [ZC]; omega
 unfold zBD Zz
 rw [e1,e2]
 simp [hb,srt,wrap64]
 try omega
theorem zNh (hc:2<k%8) (hb:250<=k) (hk:k<256) (hv:v<256):(⟨txN v,2,wrap64 (997+srt 2 (1+(k:Int)/8%3)),1+(k:Int)/8%3⟩:OpR)=zBD k v true:=by
 have e1:ZK k=2:=by simp [ZK]; omega
 have e2:ZC k=1+(k:Int)/8%3:=by simp [ZC]; omega
 unfold zBD Zz
 rw [e1,e2]
 simp [hb,srt,wrap64]
 try omega
theorem zNi (hc:2<k%8) (hb:¬ 250<=k) (hk:k<256) (hv:v<256):(⟨txN v,2,wrap64 (3*((v:Int)/12%4)+srt 2 (1+(k:Int)/8%3)),1+(k:Int)/8%3⟩:OpR)=zBD k v true:=by
 have e1:ZK k=2:=by simp [ZK]; omega
 have e2:ZC k=1+(k:Int)/8%3:=by simp [ZC]; omega
 unfold zBD Zz
 rw [e1,e2]
 simp [hb,srt,wrap64]
 try omega
theorem zD0 (rp cap p:Nat) (tidy:Bool) (a:Option Addr) (bs:List UInt8) (w:JY) (h:RdF w rp a cap bs p) (hl:bs.length<=1200) :
  Calls Tryz.prog 44 #[.pointer (some ⟨rp,0,none⟩),.bool tidy] w fun e w'=>(∃ o:OpR,e = .returned (.agg #[.string o.s,.int .i64 o.k,.int .i64 o.l,.int .i64 o.sd])/\Hid (o=zBD (nxt bs p) (nxt bs (adv bs p)) tidy))/\Hid (RdF w' rp a cap bs (adv bs (adv bs p)))/\Hid (zG w w' rp):=by
 have j:=h.lt
 have H:=zB h
 clear h
 go_enter Tryz.func44,Tryz.ntmps44
 go_wp2_with fail
 refine (zM rp cap p a bs _ ((zA H).below (zC _ _)) hl).mono ?_
 rintro e w1 ⟨⟨k,rfl,hk,HK⟩,H1,HP1⟩
 go_wp2_with fail
 refine (zM rp cap _ a bs _ (zA H1) hl).mono ?_
 rintro e w2 ⟨⟨v,rfl,hv,HV⟩,H2,HP2⟩
 have HP:=zB ((zA HP1).trans (zA HP2))
 clear H H1 HP1 HP2
 have zw:w.heap.size<w2.heap.size:=by have:=(zA HP).size; simp at this; omega
 have u:=(zA H2).lt
 have r0:w2.cell? ⟨w.heap.size,0,none⟩=some (.string ⟨#[]⟩)/\w2.cell? ⟨w.heap.size,1,none⟩=some (.int .i64 0)/\w2.cell? ⟨w.heap.size,2,none⟩=some (.int .i64 0)/\w2.cell? ⟨w.heap.size,3,none⟩=some (.int .i64 0):=by
  have e:=fun o=>(zA HP).cell (b:=w.heap.size) (by simp) (by have:=j; omega) o
  refine ⟨(e _).trans ?_,(e _).trans ?_,(e _).trans ?_,(e _).trans ?_⟩ <;> simp [go_sem]
 obtain ⟨r0,r1,r2,r3⟩:=r0
 have f0:∀ o,w2.frozen? ⟨w.heap.size,o,none⟩=false:=fun o=>((zA HP).frozen (b:=w.heap.size) (by simp) (by have:=j; omega) o).trans (by simp [go_sem])
 have q:=zB (show zG w w2 rp from (zG.of_below (zC _ _)).trans (zA HP))
 clear HP
 have V:k%8<2\/k%8=2\/2<k%8:=by omega
 rcases V with hc | hc | hc
 ·have K:=zB hc
  have J:(k:Int)%8<2:=by omega
  clear hc
  cases tidy
  ·skip
   go_wp2_with (first | (go_at_call 70; refine (zAY _ _ (by omega)).mono ?_; rintro e w3 ⟨rfl,hx⟩; obtain rfl:=hx.symm) | (go_at_call 59; refine (zAC _ _ _ _ _).mono ?_; rintro e w3 ⟨rfl,hb3⟩; have x:=fun o=>hb3.cell (p:=⟨w.heap.size,o,none⟩) (by simp; omega); have X:=fun o=>hb3.cell (p:=⟨w2.heap.size,o,none⟩) (by first | (simp; done) | (simp; omega)); have y:=fun o=>hb3.frozen (p:=⟨w.heap.size,o,none⟩) (by simp; omega); have Q:=fun o=>hb3.frozen (p:=⟨w2.heap.size,o,none⟩) (by first | (simp; done) | (simp; omega)); have Y:w2.heap.size+1<=w3.heap.size:=(by have:=hb3.size; simp at this; omega)))
   ·refine yK (v:=.agg #[.string (txN v),.int .i64 1,.int .i64 (1+(v:Int)/12%6),.int .i64 (0)]) ?res rfl ⟨⟨⟨txN v,1,1+(v:Int)/12%6,0⟩,rfl,zB ?_⟩,zB ?_,zB ?_⟩
    case res=>simp [results,Tryz.results44,go_sem, *]
    ·rw [<- zA HV,<- zA HK]
     exact zNZ (zA K) (by omega) hk hv
    ·repeat (first | exact zA H2 | refine RdF.set ?_ _ _ _ (by omega) | refine RdF.below ?_ (zC _ _) | refine RdF.below ?_ (by assumption))
    ·repeat (first | exact zA q | refine zG.setNew ?_ _ _ (by omega) | refine zG.belowN ?_ (zC _ _) | refine zG.belowN ?_ (by assumption))
  ·skip
   go_wp2_with (first | (go_at_call 70; refine (zAY _ _ (by omega)).mono ?_; rintro e w3 ⟨rfl,hx⟩; obtain rfl:=hx.symm) | (go_at_call 59; refine (zAC _ _ _ _ _).mono ?_; rintro e w3 ⟨rfl,hb3⟩; have x:=fun o=>hb3.cell (p:=⟨w.heap.size,o,none⟩) (by simp; omega); have X:=fun o=>hb3.cell (p:=⟨w2.heap.size,o,none⟩) (by first | (simp; done) | (simp; omega)); have y:=fun o=>hb3.frozen (p:=⟨w.heap.size,o,none⟩) (by simp; omega); have Q:=fun o=>hb3.frozen (p:=⟨w2.heap.size,o,none⟩) (by first | (simp; done) | (simp; omega)); have Y:w2.heap.size+1<=w3.heap.size:=(by have:=hb3.size; simp at this; omega)))
   ·refine yK (v:=.agg #[.string (txN v),.int .i64 1,.int .i64 (wrap64 (3*((v:Int)/12%4)+srt 1 (0))),.int .i64 (0)]) ?res rfl ⟨⟨⟨txN v,1,wrap64 (3*((v:Int)/12%4)+srt 1 (0)),0⟩,rfl,zB ?_⟩,zB ?_,zB ?_⟩
    case res=>simp [results,Tryz.results44,go_sem, *]
    ·rw [<- zA HV,<- zA HK]
     exact zNa (zA K) (by omega) hk hv
    ·repeat (first | exact zA H2 | refine RdF.set ?_ _ _ _ (by omega) | refine RdF.below ?_ (zC _ _) | refine RdF.below ?_ (by assumption))
    ·repeat (first | exact zA q | refine zG.setNew ?_ _ _ (by omega) | refine zG.belowN ?_ (zC _ _) | refine zG.belowN ?_ (by assumption))
 ·have K:=zB hc
  have J:¬ (k:Int)%8<2:=by omega
  have P:((k:Int)%8==2)=true:=by simp; omega
  clear hc
  cases tidy
  ·skip
   go_wp2_with (first | (go_at_call 70; refine (zAY _ _ (by omega)).mono ?_; rintro e w3 ⟨rfl,hx⟩; obtain rfl:=hx.symm) | (go_at_call 59; refine (zAC _ _ _ _ _).mono ?_; rintro e w3 ⟨rfl,hb3⟩; have x:=fun o=>hb3.cell (p:=⟨w.heap.size,o,none⟩) (by simp; omega); have X:=fun o=>hb3.cell (p:=⟨w2.heap.size,o,none⟩) (by first | (simp; done) | (simp; omega)); have y:=fun o=>hb3.frozen (p:=⟨w.heap.size,o,none⟩) (by simp; omega); have Q:=fun o=>hb3.frozen (p:=⟨w2.heap.size,o,none⟩) (by first | (simp; done) | (simp; omega)); have Y:w2.heap.size+1<=w3.heap.size:=(by have:=hb3.size; simp at this; omega)))
   ·refine yK (v:=.agg #[.string (txN v),.int .i64 3,.int .i64 (wrap64 (997+srt 3 (0))),.int .i64 (0)]) ?res rfl ⟨⟨⟨txN v,3,wrap64 (997+srt 3 (0)),0⟩,rfl,zB ?_⟩,zB ?_,zB ?_⟩
    case res=>simp [results,Tryz.results44,go_sem, *]
    ·rw [<- zA HV,<- zA HK]
     exact zNb (zA K) (by omega) hk hv
    ·repeat (first | exact zA H2 | refine RdF.set ?_ _ _ _ (by omega) | refine RdF.below ?_ (zC _ _) | refine RdF.below ?_ (by assumption))
    ·repeat (first | exact zA q | refine zG.setNew ?_ _ _ (by omega) | refine zG.belowN ?_ (zC _ _) | refine zG.belowN ?_ (by assumption))
   ·refine yK (v:=.agg #[.string (txN v),.int .i64 3,.int .i64 (1+(v:Int)/12%6),.int .i64 (0)]) ?res rfl ⟨⟨⟨txN v,3,1+(v:Int)/12%6,0⟩,rfl,zB ?_⟩,zB ?_,zB ?_⟩
    case res=>simp [results,Tryz.results44,go_sem, *]
    ·rw [<- zA HV,<- zA HK]
     exact zNc (zA K) (by omega) hk hv
    ·repeat (first | exact zA H2 | refine RdF.set ?_ _ _ _ (by omega) | refine RdF.below ?_ (zC _ _) | refine RdF.below ?_ (by assumption))
    ·repeat (first | exact zA q | refine zG.setNew ?_ _ _ (by omega) | refine zG.belowN ?_ (zC _ _) | refine zG.belowN ?_ (by assumption))
  ·skip
   go_wp2_with (first | (go_at_call 70; refine (zAY _ _ (by omega)).mono ?_; rintro e w3 ⟨rfl,hx⟩; obtain rfl:=hx.symm) | (go_at_call 59; refine (zAC _ _ _ _ _).mono ?_; rintro e w3 ⟨rfl,hb3⟩; have x:=fun o=>hb3.cell (p:=⟨w.heap.size,o,none⟩) (by simp; omega); have X:=fun o=>hb3.cell (p:=⟨w2.heap.size,o,none⟩) (by first | (simp; done) | (simp; omega)); have y:=fun o=>hb3.frozen (p:=⟨w.heap.size,o,none⟩) (by simp; omega); have Q:=fun o=>hb3.frozen (p:=⟨w2.heap.size,o,none⟩) (by first | (simp; done) | (simp; omega)); have Y:w2.heap.size+1<=w3.heap.size:=(by have:=hb3.size; simp at this; omega)))
   ·refine yK (v:=.agg #[.string (txN v),.int .i64 3,.int .i64 (wrap64 (997+srt 3 (0))),.int .i64 (0)]) ?res rfl ⟨⟨⟨txN v,3,wrap64 (997+srt 3 (0)),0⟩,rfl,zB ?_⟩,zB ?_,zB ?_⟩
    case res=>simp [results,Tryz.results44,go_sem, *]
    ·rw [<- zA HV,<- zA HK]
     exact zNd (zA K) (by omega) hk hv
    ·repeat (first | exact zA H2 | refine RdF.set ?_ _ _ _ (by omega) | refine RdF.below ?_ (zC _ _) | refine RdF.below ?_ (by assumption))
    ·repeat (first | exact zA q | refine zG.setNew ?_ _ _ (by omega) | refine zG.belowN ?_ (zC _ _) | refine zG.belowN ?_ (by assumption))
   ·refine yK (v:=.agg #[.string (txN v),.int .i64 3,.int .i64 (wrap64 (3*((v:Int)/12%4)+srt 3 (0))),.int .i64 (0)]) ?res rfl ⟨⟨⟨txN v,3,wrap64 (3*((v:Int)/12%4)+srt 3 (0)),0⟩,rfl,zB ?_⟩,zB ?_,zB ?_⟩
    case res=>simp [results,Tryz.results44,go_sem, *]
    ·rw [<- zA HV,<- zA HK]
     exact zNe (zA K) (by omega) hk hv
    ·repeat (first | exact zA H2 | refine RdF.set ?_ _ _ _ (by omega) | refine RdF.below ?_ (zC _ _) | refine RdF.below ?_ (by assumption))
    ·repeat (first | exact zA q | refine zG.setNew ?_ _ _ (by omega) | refine zG.belowN ?_ (zC _ _) | refine zG.belowN ?_ (by assumption))
 ·have K:=zB hc
  have J:¬ (k:Int)%8<2:=by omega
  have P:((k:Int)%8==2)=false:=by simp; omega
  clear hc
  cases tidy
  ·skip
   go_wp2_with (first | (go_at_call 70; refine (zAY _ _ (by omega)).mono ?_; rintro e w3 ⟨rfl,hx⟩; obtain rfl:=hx.symm) | (go_at_call 59; refine (zAC _ _ _ _ _).mono ?_; rintro e w3 ⟨rfl,hb3⟩; have x:=fun o=>hb3.cell (p:=⟨w.heap.size,o,none⟩) (by simp; omega); have X:=fun o=>hb3.cell (p:=⟨w2.heap.size,o,none⟩) (by first | (simp; done) | (simp; omega)); have y:=fun o=>hb3.frozen (p:=⟨w.heap.size,o,none⟩) (by simp; omega); have Q:=fun o=>hb3.frozen (p:=⟨w2.heap.size,o,none⟩) (by first | (simp; done) | (simp; omega)); have Y:w2.heap.size+1<=w3.heap.size:=(by have:=hb3.size; simp at this; omega)))
   ·refine yK (v:=.agg #[.string (txN v),.int .i64 2,.int .i64 (wrap64 (997+srt 2 (1+(k:Int)/8%3))),.int .i64 (1+(k:Int)/8%3)]) ?res rfl ⟨⟨⟨txN v,2,wrap64 (997+srt 2 (1+(k:Int)/8%3)),1+(k:Int)/8%3⟩,rfl,zB ?_⟩,zB ?_,zB ?_⟩
    case res=>simp [results,Tryz.results44,go_sem, *]
    ·rw [<- zA HV,<- zA HK]
     exact zNf (zA K) (by omega) hk hv
    ·repeat (first | exact zA H2 | refine RdF.set ?_ _ _ _ (by omega) | refine RdF.below ?_ (zC _ _) | refine RdF.below ?_ (by assumption))
    ·repeat (first | exact zA q | refine zG.setNew ?_ _ _ (by omega) | refine zG.belowN ?_ (zC _ _) | refine zG.belowN ?_ (by assumption))
   ·refine yK (v:=.agg #[.string (txN v),.int .i64 2,.int .i64 (1+(v:Int)/12%6),.int .i64 (1+(k:Int)/8%3)]) ?res rfl ⟨⟨⟨txN v,2,1+(v:Int)/12%6,1+(k:Int)/8%3⟩,rfl,zB ?_⟩,zB ?_,zB ?_⟩
    case res=>simp [results,Tryz.results44,go_sem, *]
    ·rw [<- zA HV,<- zA HK]
     exact zNg (zA K) (by omega) hk hv
    ·repeat (first | exact zA H2 | refine RdF.set ?_ _ _ _ (by omega) | refine RdF.below ?_ (zC _ _) | refine RdF.below ?_ (by assumption))
    ·repeat (first | exact zA q | refine zG.setNew ?_ _ _ (by omega) | refine zG.belowN ?_ (zC _ _) | refine zG.belowN ?_ (by assumption))
  ·skip
   go_wp2_with (first | (go_at_call 70; refine (zAY _ _ (by omega)).mono ?_; rintro e w3 ⟨rfl,hx⟩; obtain rfl:=hx.symm) | (go_at_call 59; refine (zAC _ _ _ _ _).mono ?_; rintro e w3 ⟨rfl,hb3⟩; have x:=fun o=>hb3.cell (p:=⟨w.heap.size,o,none⟩) (by simp; omega); have X:=fun o=>hb3.cell (p:=⟨w2.heap.size,o,none⟩) (by first | (simp; done) | (simp; omega)); have y:=fun o=>hb3.frozen (p:=⟨w.heap.size,o,none⟩) (by simp; omega); have Q:=fun o=>hb3.frozen (p:=⟨w2.heap.size,o,none⟩) (by first | (simp; done) | (simp; omega)); have Y:w2.heap.size+1<=w3.heap.size:=(by have:=hb3.size; simp at this; omega)))
   ·refine yK (v:=.agg #[.string (txN v),.int .i64 2,.int .i64 (wrap64 (997+srt 2 (1+(k:Int)/8%3))),.int .i64 (1+(k:Int)/8%3)]) ?res rfl ⟨⟨⟨txN v,2,wrap64 (997+srt 2 (1+(k:Int)/8%3)),1+(k:Int)/8%3⟩,rfl,zB ?_⟩,zB ?_,zB ?_⟩
    case res=>simp [results,Tryz.results44,go_sem, *]
    ·rw [<- zA HV,<- zA HK]
     exact zNh (zA K) (by omega) hk hv
    ·repeat (first | exact zA H2 | refine RdF.set ?_ _ _ _ (by omega) | refine RdF.below ?_ (zC _ _) | refine RdF.below ?_ (by assumption))
    ·repeat (first | exact zA q | refine zG.setNew ?_ _ _ (by omega) | refine zG.belowN ?_ (zC _ _) | refine zG.belowN ?_ (by assumption))
   ·refine yK (v:=.agg #[.string (txN v),.int .i64 2,.int .i64 (wrap64 (3*((v:Int)/12%4)+srt 2 (1+(k:Int)/8%3))),.int .i64 (1+(k:Int)/8%3)]) ?res rfl ⟨⟨⟨txN v,2,wrap64 (3*((v:Int)/12%4)+srt 2 (1+(k:Int)/8%3)),1+(k:Int)/8%3⟩,rfl,zB ?_⟩,zB ?_,zB ?_⟩
    case res=>simp [results,Tryz.results44,go_sem, *]
    ·rw [<- zA HV,<- zA HK]
     exact zNi (zA K) (by omega) hk hv
    ·repeat (first | exact zA H2 | refine RdF.set ?_ _ _ _ (by omega) | refine RdF.below ?_ (zC _ _) | refine RdF.below ?_ (by assumption))
    ·repeat (first | exact zA q | refine zG.setNew ?_ _ _ (by omega) | refine zG.belowN ?_ (zC _ _) | refine zG.belowN ?_ (by assumption))
theorem zEg (rp cap p:Nat) (tidy:Bool) (a:Option Addr) (bs:List UInt8) (w:JY) (h:RdS w rp a cap bs p) (hl:bs.length<=1200) :
  Calls Tryz.prog 44 #[.pointer (some ⟨rp,0,none⟩),.bool tidy] w fun e w'=>(∃ o:OpR,e = .returned (.agg #[.string o.s,.int .i64 o.k,.int .i64 o.l,.int .i64 o.sd])/\Hid (o=zBD (nxt bs p) (nxt bs (adv bs p)) tidy))/\Hid (RdS w' rp a cap bs (adv bs (adv bs p)))/\Hid (zG w w' rp):=by
 refine (zD0 rp cap p tidy a bs w h.free hl).mono ?_
 rintro e w' ⟨h1,h2,h3⟩
 exact ⟨h1,zB ((zA h2).strict (zE8 (zE8 h.le))),h3⟩
def zU (zs:List OpR):List Value:=zs.flatMap fun o=>[.string o.s,.int .i64 o.k,.int .i64 o.l,.int .i64 o.sd]
theorem zK7:zU []=[]:=rfl
theorem ZT (xs ys:List OpR):zU (xs++ys)=zU xs++zU ys:=by simp [zU]
theorem zB5:∀ zs:List OpR,(zU zs).length=zs.length*4
 | []=>rfl
 | o::r=>by
  have:=zB5 r
  simp only [zU,List.flatMap_cons,ym,yv,yW] at *
  omega
theorem zFF:∀ (zs:List OpR) (i:Nat),i<zs.length->(zU zs)[i*4]?=some (.string (atO zs i).s)/\(zU zs)[i*4+1]?=some (.int .i64 (atO zs i).k)/\(zU zs)[i*4+2]?=some (.int .i64 (atO zs i).l)/\(zU zs)[i*4+3]?=some (.int .i64 (atO zs i).sd)
 | [],i,h=>yP h (yt i)
 | o::r,0,_=>⟨rfl,rfl,rfl,rfl⟩
 | o::r,i+1,h=>by
  have ih:=zFF r i (by simpa using h)
  have e:∀ j,(zU (o::r))[(i+1)*4+j]?=(zU r)[i*4+j]?:=fun j=>by
   have:(i+1)*4+j=(i*4+j)+4:=by omega
   rw [this]
   rfl
  exact ⟨(e 0).trans ih.1,(e 1).trans ih.2.1,(e 2).trans ih.2.2.1,(e 3).trans ih.2.2.2⟩
theorem ZA (zs:List OpR):∀ u∈zU zs,u.oneCell'=true:=by
 intro u hu
 simp only [zU,List.mem_flatMap] at hu
 obtain ⟨o,_,ho⟩:=hu
 simp at ho
 rcases ho with rfl | rfl | rfl | rfl <;> rfl
theorem zJp {b H:Nat} (h:Ops w b H xs):∀ j u,(zU xs)[j]?=some u->w.cell? ((⟨b,H,none⟩:Addr).add j)=some u:=by
 intro j u hj
 have k:j<xs.length*4:=by
  rw [<- zB5]
  exact (yX.1 hj).1
 rw [Addr.add_mid]
 have hi:j/4<xs.length:=by omega
 obtain ⟨a0,a1,a2,a3⟩:=h (j/4) hi
 obtain ⟨c0,c1,c2,c3⟩:=zFF xs (j/4) hi
 have hr:j%4=0\/j%4=1\/j%4=2\/j%4=3:=by omega
 rcases hr with e | e | e | e
 ·have ej:j=j/4*4:=by omega
  rw [ej] at hj ⊢
  rw [c0] at hj
  rw [<- hj]
  exact a0
 ·have ej:j=j/4*4+1:=by omega
  rw [ej] at hj ⊢
  rw [c1] at hj
  rw [<- hj]
  exact a1
 ·have ej:j=j/4*4+2:=by omega
  rw [ej] at hj ⊢
  rw [c2] at hj
  rw [<- hj]
  exact a2
 ·have ej:j=j/4*4+3:=by omega
  rw [ej] at hj ⊢
  rw [c3] at hj
  rw [<- hj]
  exact a3
theorem zBe {base:Nat} {zs:List OpR} (h:w.ownsRow base e 4 (.slice (some ⟨g,0,none⟩) zs.length cap) zs.length (zU zs)):base<=g/\zAM w g zs zs.length:=by
 have H:=h.lt g rfl
 refine ⟨H.1,H.2,fun j hj=>⟨?_,h.frozenAt _⟩,fun i hi=>?_⟩
 ·rw [h.cellAt (0+j) (by omega)]
  have:0+j<(zU zs).length:=by rw [zB5]; omega
  rw [yn this]
  rfl
 ·obtain ⟨c0,c1,c2,c3⟩:=zFF zs i hi
  have e:=fun j (hj:j<4)=>h.cellAt (i*4+j) (by omega)
  exact ⟨by simpa using (e 0 (by omega)).trans c0,by simpa using (e 1 (by omega)).trans c1,by simpa using (e 2 (by omega)).trans c2,by simpa using (e 3 (by omega)).trans c3⟩
theorem zBS {base n size:Nat} {v:Value} {xs:List Value} (h:w.ownsRow base e size v n xs) (hv:v ≠ .slice none 0 0):∃ g cap,v = .slice (some ⟨g,0,none⟩) n cap:=by
 obtain ⟨_,h | ⟨g,cap,k,H,_⟩⟩:=h
 ·exact yP h.1 hv
 ·exact ⟨g,cap,H⟩
theorem zCr:(Tryz.prog.info? 57).map (fun i=>(i.zero,i.size,i.bytes))=some (some (.agg #[.string ⟨#[]⟩,.int .i64 0,.int .i64 0,.int .i64 0]),4,40):=by kernel_rfl
theorem zFh {B:Nat} {w':JY} {row:Option Nat} (hg:w.grownBy w' row) (hB:B<=w.heap.size) (hr:∀ k,row=some k->B<=k):Below B w w':=
 (yG B w).grown hg hB hr
theorem zNj {base n size:Nat} {xs:List Value} (h:w.ownsRow base e size (.slice (some ⟨g,0,none⟩) n cap) n xs):n<=cap/\cap<=maxLen:=by
 obtain ⟨_,h | ⟨g',k,K,H,_,_,h1,h2,_⟩⟩:=h
 ·simp at h
 ·simp only [Value.slice.injEq,Option.some.injEq] at H
  obtain ⟨_,_,rfl⟩:=H
  exact ⟨h1,h2⟩
theorem zMq (w:JY) (o:OpR):(w.alloc (.cells #[.string o.s,.int .i64 o.k,.int .i64 o.l,.int .i64 o.sd] 57)).rangeAt w.heap.size 0 [.string o.s,.int .i64 o.k,.int .i64 o.l,.int .i64 o.sd]:=by
 have:=yz (w:=w.alloc (.cells #[.string o.s,.int .i64 o.k,.int .i64 o.l,.int .i64 o.sd] 57)) (b:=w.heap.size) (heap_alloc_new w _) 0 4
 simpa using this
theorem zAH (w:JY) (o:OpR):∀ j u,(zU [o])[j]?=some u->(w.alloc (.cells #[.string o.s,.int .i64 o.k,.int .i64 o.l,.int .i64 o.sd] 57)).cell? ((⟨w.heap.size,0,none⟩:Addr).add j)=some u:=by
 intro j u hj
 rw [Addr.add_mid]
 exact zMq w o j u hj
def zCa (bs:List UInt8) (p0:Nat):Nat->List OpR->Nat->Prop
 | 0,xs,p=>xs=[]/\p=p0
 | k+1,xs,p=>∃ ys q,zCa bs p0 k ys q/\p=adv bs (adv bs q) /\
   ((zR (ys++[zBD (nxt bs q) (nxt bs (adv bs q)) true]) 0/\xs=ys++[zBD (nxt bs q) (nxt bs (adv bs q)) true]) \/
    (¬ zR (ys++[zBD (nxt bs q) (nxt bs (adv bs q)) true]) 0/\xs=ys))
theorem zCa.one {bs:List UInt8} {p0:Nat}:∀ {k:Nat} {xs ys:List OpR} {p q:Nat},zCa bs p0 k xs p->zCa bs p0 k ys q->xs=ys/\p=q
 | 0,_,_,_,_,h,h'=>⟨h.1.trans h'.1.symm,h.2.trans h'.2.symm⟩
 | k+1,xs,ys,p,q,h,h'=>by
  obtain ⟨us,u,hu,rfl,h⟩:=h
  obtain ⟨vs,v,hv,rfl,h'⟩:=h'
  obtain ⟨rfl,rfl⟩:=zCa.one hu hv
  rcases h with ⟨h,rfl⟩ | ⟨h,rfl⟩ <;> rcases h' with ⟨h',rfl⟩ | ⟨h',rfl⟩
  ·exact ⟨rfl,rfl⟩
  ·exact yP h h'
  ·exact yP h' h
  ·exact ⟨rfl,rfl⟩
theorem zG.grownAt {w2:JY} {row:Option Nat} (h:zG w w1 g) (hg:w1.grownBy w2 row) (hr:∀ k,row=some k->w.heap.size<=k):zG w w2 g:=
 ⟨hg.os.trans h.os,hg.tape.trans h.tape,hg.output.trans h.output,yr h.size hg.size,fun i hi a=>(hg.block i (yi hi h.size) (fun e=>by have:=hr i e.symm; omega)).trans (h.block i hi a)⟩
theorem RdS.grownAt {rp p:Nat} {a:Option Addr} {bs:List UInt8} {row:Option Nat} (h:RdS w rp a cap bs p) (hg:w.grownBy w1 row) (hr:∀ k,row=some k->rp<k):RdS w1 rp a cap bs p:=
 h.kept (fun i hi=>hg.block i (by have:=h.lt; omega) (fun e=>by have:=hr i e.symm; omega))
theorem zH6 (k v:Nat) (t:Bool):(zBD k v t).s.size<=3:=zGf v
theorem zCa.small {bs:List UInt8} {p0:Nat}:∀ {k:Nat} {xs:List OpR} {p:Nat},zCa bs p0 k xs p->xs.length<=k/\∀ o∈xs,o.s.size<=3
 | 0,_,_,h=>by rw [h.1]; exact ⟨yh _,fun o h=>by cases h⟩
 | k+1,xs,p,h=>by
  obtain ⟨us,u,hu,rfl,h⟩:=h
  have ih:=zCa.small hu
  rcases h with ⟨h,rfl⟩ | ⟨h,rfl⟩
  ·refine ⟨by simp; omega,fun o ho=>?_⟩
   rcases List.mem_append.1 ho with ho | ho
   ·exact ih.2 o ho
   ·rw [List.mem_singleton.1 ho]; exact zH6 _ _ _
  ·exact ⟨by omega,ih.2⟩
theorem zF2 (rp cap p:Nat) (a:Option Addr) (bs:List UInt8) (w:JY) (h:RdS w rp a cap bs p) (hl:bs.length<=1200) :
  Calls Tryz.prog 43 #[.pointer (some ⟨rp,0,none⟩)] w fun e w'=>(∃ (g c q:Nat) (xs:List OpR),e = .returned (.agg #[.slice (some ⟨g,0,none⟩) xs.length c])/\w.heap.size<=g/\zAM w' g xs xs.length/\Hid (zCa bs (adv bs p) (3+nxt bs p%8) xs q)/\Hid (RdS w' rp a cap bs q))/\Hid (zG w w' rp):=by
 have hb:=h.lt
 have H:=zB h
 clear h
 go_enter Tryz.func43,Tryz.ntmps43
 go_wp2_with fail
 refine (zAj rp cap p a bs _ ((zA H).below (zC _ _)) hl).mono ?_
 rintro e w1 ⟨⟨k,rfl,hk,HK⟩,H1,HP1⟩
 go_wp2_with fail
 have G:=zB (show RdS ((w1.alloc (Obj.cells #[] 57)).alloc (Obj.cells #[.slice (some ⟨w1.heap.size,0,none⟩) 0 0] 33)) rp a cap bs (adv bs p) from ((zA H1).below (zC _ _)).below (zC _ _))
 have D:=zB (show zG w ((w1.alloc (Obj.cells #[] 57)).alloc (Obj.cells #[.slice (some ⟨w1.heap.size,0,none⟩) 0 0] 33)) rp from (((zG.of_below (zC _ _)).trans (zA HP1)).belowN (zC _ _)).belowN (zC _ _))
 have z1:w.heap.size+1<=w1.heap.size:=by have:=(zA HP1).size; simpa using this
 have q0:w1.cell? ⟨w.heap.size,0,none⟩=some (.slice none 0 0):=((zA HP1).cell (b:=w.heap.size) (by simp) (by omega) 0).trans (by simp [go_sem])
 have q1:w1.frozen? ⟨w.heap.size,0,none⟩=false:=((zA HP1).frozen (b:=w.heap.size) (by simp) (by omega) 0).trans (by simp [go_sem])
 clear H1 HP1 H
 obtain ⟨i0,hi,F,l,m⟩:=info_parts zCr
 have HI:=zB hi
 have HZ:=zB (yH F (yH l m))
 clear hi F l m
 have hn:(3:Int)+(k:Int)%8<=10:=by omega
 go_loopw [5] (fun i wr=>∃ (j g c q:Nat) (xs:List OpR),j<=3+k%8/\i = .int .i64 (j:Int)/\w.heap.size<g/\g≠w1.heap.size+1/\g<wr.heap.size/\w1.heap.size+1<wr.heap.size/\wr.cell? ⟨w1.heap.size+1,0,none⟩=some (.slice (some ⟨g,0,none⟩) xs.length c)/\wr.frozen? ⟨w1.heap.size+1,0,none⟩=false/\Hid (zCa bs (adv bs p) j xs q)/\Hid (zAM wr g xs xs.length)/\Hid (RdS wr rp a cap bs q)/\Hid (zG w wr rp)/\Hid (wr.cell? ⟨w.heap.size,0,none⟩=some (.slice none 0 0)/\wr.frozen? ⟨w.heap.size,0,none⟩=false)) (fun i _=>3+k%8-(intOf i).toNat)
 case atStart=>
  refine ⟨0,w1.heap.size,0,adv bs p,[],yj _,rfl,by omega,by omega,by simp; omega,by simp,by simp [go_sem],by simp [go_sem],zB ⟨rfl,rfl⟩,zB ?_,G,D,zB ⟨?_,?_⟩⟩
  ·refine ⟨by simp; omega,fun j hj=>?_,fun i hi=>?_⟩
   ·simp at hj
   ·exact yP hi (yt _)
  ·exact ((zC _ _).cell (p:=⟨w.heap.size,0,none⟩) (by simp; omega)).trans (((zC _ _).cell (p:=⟨w.heap.size,0,none⟩) z1).trans q0)
  ·exact ((zC _ _).frozen (p:=⟨w.heap.size,0,none⟩) (by simp; omega)).trans (((zC _ _).frozen (p:=⟨w.heap.size,0,none⟩) z1).trans q1)
 case round=>
  clear G D q0 q1
  obtain ⟨j,g,c,q,xs,hj,rfl,hg,t,T,he,t0,t1,HT,HF,HR,HW,V⟩:=hrel
  have O:=zB ((zA HT).small)
  have hd:xs.length<=10:=by have:=(zA O).1; omega
  by_cases ho:j<3+k%8
  ·have HO:=zB (show (wr.alloc (.cells #[] 57)).ownsRow wr.heap.size 57 4 (.slice (some ⟨wr.heap.size,0,none⟩) 0 0) 0 [] by
    simpa using yD (base:=wr.heap.size) (e:=57) (size:=4) wr #[] 0 (yh _) (yj _) rfl)
   have u:=zB (show Ops (wr.alloc (.cells #[] 57)) g 0 xs from (zA HF).ops.below (zC _ _) T)
   go_wp2_with (at_builtin; refine wpList_append_own _ rfl (.tmp 18) (.tmp 20) 31 rfl wr.heap.size 57 i0 _ 4 40 Tryz.underlying31 (zA HI) (zA HZ).1 (zA HZ).2.1 (zA HZ).2.2 rfl (by decide) _ 0 [] rfl (zA HO) ⟨g,0,none⟩ xs.length c (zU xs) rfl (zB5 xs) (zJp (zA u)) (ZA xs) ?b1 ?b2 ?b3 ?next)
   case b1=>unfold maxLen; omega
   case b2=>omega
   case b3=>simp
   case next=>
    intro v2 w2 x y J
    obtain ⟨g2,c2,rfl⟩:=zBS x (by simpa using J)
    have Z:=(zA HR).lt
    have hf:=(x.lt g2 rfl).1
    have C:Below wr.heap.size wr w2:=(zC _ _).grown y (by simp) (fun k hk=>by simp [Value.ownBlock] at hk; omega)
    have n:=zB ((zA HR).below C)
    have E:=zB (zG.of_below (g:=rp) C)
    have N:=zB x
    clear HO u x y J C HR
    go_wp2_with fail
    refine (zEg rp cap q true a bs _ (zA n) hl).mono ?_
    rintro e w3 ⟨⟨o,rfl,HOo⟩,HR3,HP3⟩
    have B:=zB ((zA E).trans (zA HP3))
    have z3:wr.heap.size<=w3.heap.size:=(zA B).size
    have L:=zB ((zA N).kept (zr (zA HP3)) (yR (by simp [Value.ownBlock]; omega)))
    clear n E N HP3
    go_wp2_with (at_builtin; refine wpList_append_own _ rfl (.tmp 22) (.tmp 25) 31 rfl wr.heap.size 57 i0 _ 4 40 Tryz.underlying31 (zA HI) (zA HZ).1 (zA HZ).2.1 (zA HZ).2.2 rfl (by decide) _ xs.length (zU xs) rfl ((zA L).alloc _) ⟨w3.heap.size,0,none⟩ 1 1 (zU [o]) rfl rfl (zAH w3 o) (ZA _) ?b1 ?b2 ?b3 ?next)
    case b1=>unfold maxLen; omega
    case b2=>omega
    case b3=>simp; omega
    case next=>
     intro v4 w4 K Q Y
     obtain ⟨g4,c4,rfl⟩:=zBS K (by simp [Y])
     obtain ⟨ys,HY⟩:∃ ys:List OpR,Hid (ys=xs++[o]):=⟨_,zB rfl⟩
     have d:xs.length+1=ys.length:=by rw [zA HY]; simp
     rw [<- ZT,d,<- zA HY] at K
     rw [d]
     have r:=(K.lt g4 rfl)
     have U:=zB (zBe K).2
     have X:=zB (((zA B).belowN (zC _ _)).grownAt Q (fun k hk=>by simp [Value.ownBlock] at hk; omega))
     have f:=zB (((zA HR3).below (zC _ _)).grownAt Q (fun k hk=>by simp [Value.ownBlock] at hk; omega))
     have R:=zB (show Zg ys from fun i hi=>by
      rw [zA HY] at hi ⊢
      have hm:atO (xs++[o]) i∈xs++[o]:=by
       unfold atO
       rw [yk,yn hi,Option.getD_some]
       exact List.getElem_mem hi
      have h3:(atO (xs++[o]) i).s.size<=3:=by
       rcases List.mem_append.1 hm with hm | hm
       ·exact (zA O).2 _ hm
       ·rw [List.mem_singleton.1 hm,zA HOo]; exact zH6 _ _ _
      unfold maxLen; omega)
     have hh:ys.length<=11:=by omega
     clear K Q Y B HR3 L d
     go_wp2_with fail
     refine (ZY g4 0 c4 ys _ (by omega) (zA U).ops (zA R) r.2).mono ?_
     rintro e w5 ⟨⟨cc,rfl,hc⟩,hb5⟩
     have HC:=zB hc
     have z5:=hb5.size
     have z4:=(zA X).size
     have s0:w5.cell? ⟨w1.heap.size+1,0,none⟩=some (.slice (some ⟨g,0,none⟩) xs.length c):=(hb5.cell (p:=⟨w1.heap.size+1,0,none⟩) (by simp; omega)).trans (((zA X).cell (b:=w1.heap.size+1) (by omega) (by omega) 0).trans t0)
     have s1:w5.frozen? ⟨w1.heap.size+1,0,none⟩=false:=(hb5.frozen (p:=⟨w1.heap.size+1,0,none⟩) (by simp; omega)).trans (((zA X).frozen (b:=w1.heap.size+1) (by omega) (by omega) 0).trans t1)
     have P:=zB (show w5.cell? ⟨w.heap.size,0,none⟩=some (.slice none 0 0)/\w5.frozen? ⟨w.heap.size,0,none⟩=false from
      ⟨(hb5.cell (p:=⟨w.heap.size,0,none⟩) (by simp; omega)).trans (((zA X).cell (b:=w.heap.size) (by omega) (by omega) 0).trans (zA V).1),(hb5.frozen (p:=⟨w.heap.size,0,none⟩) (by simp; omega)).trans (((zA X).frozen (b:=w.heap.size) (by omega) (by omega) 0).trans (zA V).2)⟩)
     have I:=zB ((zA f).below hb5)
     have M:=zB (((zA HW).trans (zA X)).belowN hb5)
     have W:=zB ((zA X).filled (zA HF) (by omega) |>.below hb5 (by omega))
     have S:=zB ((zA U).below hb5 r.2)
     clear f X U hb5 hc t0 t1 V HW HF
     by_cases A:cc=0
     ·subst A
      go_wp2_with fail
      refine ⟨⟨j+1,g4,c4,adv bs (adv bs q),ys,by omega,by go_num,by omega,by omega,?_,?_,?_,?_,zB ?_,zB ?_,zB ?_,zB ?_,zB ?_⟩,by simp [intOf]; omega⟩
      ·simp; omega
      ·simp; omega
      ·exact yo _ _ _ s0
      ·exact (yq _ _ _ _).trans s1
      ·exact ⟨xs,q,zA HT,rfl,yQ ⟨by rw [<- zA HOo,<- zA HY]; exact zA HC,by rw [<- zA HOo]; exact zA HY⟩⟩
      ·exact (zA S).setCell _ _ (by simp; omega)
      ·exact (zA I).set _ _ _ (by omega)
      ·exact (zA M).setNew _ _ (by omega)
      ·exact ⟨(yg _ _ _ _ (by first | (simp; done) | (simp; omega))).trans (zA P).1,(yq _ _ _ _).trans (zA P).2⟩
     ·have ha:(cc==0)=false:=by simpa using A
      go_wp2_with fail
      refine ⟨⟨j+1,g,c,adv bs (adv bs q),xs,by omega,by go_num,hg,t,by omega,by omega,s0,s1,zB ?_,W,I,M,P⟩,by simp [intOf]; omega⟩
      refine ⟨xs,q,zA HT,rfl,yR ⟨?_,rfl⟩⟩
      rw [<- zA HOo,<- zA HY]
      exact fun h=>A (zAD (zA HC) h)
  ·have z:j=3+k%8:=by omega
   obtain ⟨b0,b1⟩:=zA V
   go_wp2_with fail
   refine yK (v:=.agg #[.slice (some ⟨g,0,none⟩) xs.length c]) ?res rfl ⟨⟨g,c,q,xs,rfl,by omega,?_,zB ?_,zB ?_⟩,zB ?_⟩
   case res=>simp [results,Tryz.results43,go_sem,b0]
   ·exact (zA HF).setCell _ _ (by simp; omega)
   ·rw [<- zA HK,<- z]; exact zA HT
   ·exact (zA HR).set _ _ _ (by omega)
   ·exact (zA HW).setNew _ _ (yh _)
theorem zAk (s:JZ) (k l sd:Int) (b:Bool) (w:JY) (hs:s.size<=maxLen) :
  Calls Tryz.prog 109 #[.agg #[.string s,.int .i64 k,.int .i64 l,.int .i64 sd],.bool b] w fun e w'=>e = .returned (.int .i64 (zBF s k l sd b))/\Below w.heap.size w w':=by
 cases ht:okB s k l sd
 ·have hf:=zB (zNJ s k l sd b ht)
  go_enter Tryz.func109,Tryz.ntmps109
  go_wp2_with (go_at_call 30; refine (zCp _ _ _ _ _ hs).mono ?_; rintro e w' ⟨rfl,hb⟩)
  go_ret
  exact ⟨zJ (zA hf).symm,(zC _ _).trans (hb.mono (by simp))⟩
 ·obtain ⟨⟨H,K⟩,h⟩:=zB0 s k l sd ht
  rcases h with ⟨rfl,rfl⟩ | ⟨rfl,rfl⟩ | ⟨rfl,rfl⟩ | ⟨rfl,rfl⟩ | ⟨rfl,rfl⟩ <;> cases b
  all_goals
   have hf:=zB (ht)
   go_enter Tryz.func109,Tryz.ntmps109
   go_wp2_with (go_at_call 30; refine (zCp _ _ _ _ _ hs).mono ?_; rintro e w' ⟨rfl,hb⟩; obtain ⟨hc,hz⟩:=zJX hb)
   go_ret
   exact ⟨zJ (by simp [zBF,zQy,zA hf]),(zC _ _).trans (hb.mono (by simp))⟩
def zBu (xs:List OpR) (t:JZ) (kd:Int):Nat->Nat->Option Nat
 | 0,_=>none
 | m+1,i=>if (atO xs i).s=t/\(atO xs i).k=kd then some i else zBu xs t kd m (i+1)
def fnd (xs:List OpR) (t:JZ) (kd:Int):Option Nat:=zBu xs t kd xs.length 0
theorem zEh {xs:List OpR} {t:JZ} {kd:Int}:∀ {m i j:Nat},zBu xs t kd m i=some j->i<=j/\j<i+m/\(atO xs j).s=t/\(atO xs j).k=kd
 | 0,_,_,h=>by cases h
 | m+1,i,j,h=>by
  unfold zBu at h
  split at h
  ·rename_i hc
   injection h with h
   subst h
   exact ⟨yh _,by omega,hc.1,hc.2⟩
  ·have:=zEh h
   exact ⟨by omega,by omega,this.2.2⟩
theorem zEi {xs:List OpR} {t:JZ} {kd:Int}:∀ {m i:Nat},zBu xs t kd m i=none->∀ j,i<=j->j<i+m->¬ ((atO xs j).s=t/\(atO xs j).k=kd)
 | 0,_,_,_,h1,h2=>by omega
 | m+1,i,h,j,h1,h2=>by
  unfold zBu at h
  split at h
  ·cases h
  ·rename_i hc
   by_cases e:j=i
   ·subst e; exact hc
   ·exact zEi h j (by omega) (by omega)
theorem zBK {j:Nat} (h:fnd xs t kd=some j):j<xs.length/\(atO xs j).s=t/\(atO xs j).k=kd:=by
 have:=zEh h
 exact ⟨by omega,this.2.2⟩
theorem zNk (h:fnd xs t kd=none) {j:Nat} (hj:j<xs.length):¬ ((atO xs j).s=t/\(atO xs j).k=kd):=
 zEi h j (yj _) (by omega)
theorem zEj {xs:List OpR} {t:JZ} {kd:Int}:∀ (k m i:Nat),(∀ j,i<=j->j<i+k->¬ ((atO xs j).s=t/\(atO xs j).k=kd))->zBu xs t kd (k+m) i=zBu xs t kd m (i+k)
 | 0,m,i,_=>by rw [yV,Nat.add_zero]
 | k+1,m,i,h=>by
  have e:k+1+m=(k+m)+1:=by omega
  rw [e]
  show (if (atO xs i).s=t/\(atO xs i).k=kd then some i else zBu xs t kd (k+m) (i+1))=_
  rw [yN (h i (yh _) (by omega)),zEj k m (i+1) (fun j h1 h2=>h j (by omega) (by omega))]
  congr 1
  omega
theorem zMr (hk:k<xs.length) (h:∀ j,j<k->¬ ((atO xs j).s=t/\(atO xs j).k=kd)) (H:(atO xs k).s=t/\(atO xs k).k=kd):fnd xs t kd=some k:=by
 have e:xs.length=k+((xs.length-k-1)+1):=by omega
 unfold fnd
 rw [e,zEj k _ 0 (fun j _ h2=>h j (by omega))]
 show (if (atO xs (0+k)).s=t/\(atO xs (0+k)).k=kd then some (0+k) else _)=_
 rw [yV,yO H]
theorem zPa (h:∀ j,j<xs.length->¬ ((atO xs j).s=t/\(atO xs j).k=kd)):fnd xs t kd=none:=by
 cases e:fnd xs t kd with
 | none=>rfl
 | some j=>exact yP (zBK e).2 (h j (zBK e).1)
def zA7 (o:zD):Prop:=3<=o.k/\o.k<=5
def zAN (xs:List OpR) (o:zD):Int:=if 3<=o.k/\o.k<=5 then (match fnd xs o.t (o.k-2) with
 | some j=>(atO xs j).l
 | none=>1001) else 1001
def zD1 (xs:List OpR) (j:Nat) (b:Bool):Int:=zBF (atO xs j).s (atO xs j).k (atO xs j).l (atO xs j).sd b
def zJq (xs:List OpR) (ns:List zD):Prop:=∀ i,i<ns.length->zA7 (atN ns i)->fnd xs (atN ns i).t ((atN ns i).k-2)≠none
def zGg (xs:List OpR) (ns:List zD) (i:Nat):Prop:=∀ j,zA7 (atN ns i)->fnd xs (atN ns i).t ((atN ns i).k-2)=some j ->
 zD1 xs j false<=zAN xs (atN ns (atN ns i).a.toNat)/\(ze (atN ns i).k=1\/zD1 xs j true<=zAN xs (atN ns (atN ns i).b.toNat))
def ZM (ns:List OpR) (o:zD) (b:Bool):Int:=match fnd ns o.t (o.k-2) with
 | some j=>zD1 ns j b
 | none=>0
def zDK (ns:List OpR) (o:zD) (h:Int) (s:Nat) (u:List zD):List zD:=
 if zAN ns o<h then u++[⟨6,ByteArray.empty,((s+u.length:Nat):Int)-1,0⟩] else u
def gr (ns:List OpR) (xs:List zD):Nat->Nat->Int->Nat->List zD
 | 0,_,_,_=>[]
 | n+1,i,least,s=>
  if (atN xs i).k=6 then gr ns xs n (i-1) least s
  else if ze (atN xs i).k=0 then zDK ns (atN xs i) least s [⟨(atN xs i).k,(atN xs i).t,0,0⟩]
  else if ze (atN xs i).k=1 then
   zDK ns (atN xs i) least s (gr ns xs n (i-1) (ZM ns (atN xs i) false) s++[⟨(atN xs i).k,(atN xs i).t,((s+(gr ns xs n (i-1) (ZM ns (atN xs i) false) s).length:Nat):Int)-1,0⟩])
  else
   zDK ns (atN xs i) least s ((gr ns xs n (atN xs i).a.toNat (ZM ns (atN xs i) false) s++gr ns xs n (i-1) (ZM ns (atN xs i) true) (s+(gr ns xs n (atN xs i).a.toNat (ZM ns (atN xs i) false) s).length)) ++
    [⟨(atN xs i).k,(atN xs i).t,((s+(gr ns xs n (atN xs i).a.toNat (ZM ns (atN xs i) false) s).length:Nat):Int)-1,((s+(gr ns xs n (atN xs i).a.toNat (ZM ns (atN xs i) false) s).length+(gr ns xs n (i-1) (ZM ns (atN xs i) true) (s+(gr ns xs n (atN xs i).a.toNat (ZM ns (atN xs i) false) s).length)).length:Nat):Int)-1⟩])
theorem zCs (ns:List OpR) (xs:List zD):∀ n m i f,i<n->i<m->frS xs i=some f->∀ l s,gr ns xs n i l s=gr ns xs m i l s
 | 0,_,_,_,h,_,_=>yP h (yt _)
 | _+1,0,_,_,_,h,_=>yP h (yt _)
 | n+1,m+1,i,f,h,h',hf=>by
  intro l s
  rcases zB4 hf with ⟨hk,ha,hb,y⟩ | ⟨hk,Q,ha,q,H⟩ | ⟨hk,Q,q,f2,K,X,ha,H⟩
  ·have h6:(atN xs i).k≠6:=fun e=>by rw [e] at hk; simp [ze] at hk
   simp only [gr,yN h6,hk,if_true]
  ·have e:=zCs ns xs n m (i-1) f (by omega) (by omega) H
   simp only [gr,e]
   by_cases h6:(atN xs i).k=6
   ·rw [yO h6,yO h6]
   ·simp only [yN h6,hk,if_true,Nat.one_ne_zero,if_false]
  ·have h6:(atN xs i).k≠6:=fun e=>by rw [e] at hk; simp [ze] at hk
   have x:=zAV K
   have e1:=zCs ns xs n m (i-1) f2 (by omega) (by omega) K
   have e2:=zCs ns xs n m (f2-1) f (by omega) (by omega) H
   have ea:(atN xs i).a.toNat=f2-1:=by omega
   simp only [gr,yN h6,ea,e1,e2]
def gS (ns:List OpR) (xs:List zD) (i:Nat) (l:Int) (s:Nat):List zD:=gr ns xs (i+1) i l s
theorem zIt {xs:List zD} (hk:ze (atN xs i).k=0) (l:Int) (s:Nat):gS ns xs i l s=zDK ns (atN xs i) l s [⟨(atN xs i).k,(atN xs i).t,0,0⟩]:=by
 have h6:(atN xs i).k≠6:=fun e=>by rw [e] at hk; simp [ze] at hk
 simp only [gS,gr,yN h6,hk,if_true]
theorem zGh {xs:List zD} {f:Nat} (hk:(atN xs i).k=6) (h1:1<=i) (hf:frS xs (i-1)=some f) (l:Int) (s:Nat):gS ns xs i l s=gS ns xs (i-1) l s:=by
 have e:gS ns xs i l s=gr ns xs i (i-1) l s:=by simp only [gS,gr,yO hk]
 rw [e]
 exact zCs ns xs _ _ _ f (by omega) (by omega) hf l s
theorem zK8 {xs:List zD} {f:Nat} (hk:ze (atN xs i).k=1) (h6:(atN xs i).k≠6) (h1:1<=i) (hf:frS xs (i-1)=some f) (l:Int) (s:Nat) {u:List zD} (hu:u=gS ns xs (i-1) (ZM ns (atN xs i) false) s) :
  gS ns xs i l s=zDK ns (atN xs i) l s (u++[⟨(atN xs i).k,(atN xs i).t,((s+u.length:Nat):Int)-1,0⟩]):=by
 have e:=zCs ns xs i (i-1+1) (i-1) f (by omega) (by omega) hf
 subst hu
 unfold gS
 conv=>lhs; unfold gr
 simp only [yN h6,hk,if_true,Nat.one_ne_zero,if_false,e]
theorem zK9 {xs:List zD} {f f2:Nat} (hk:ze (atN xs i).k=2) (h1:1<=i) (h:frS xs (i-1)=some f2) (h2:1<=f2) (ha:(atN xs i).a=(f2:Int)-1) (hf:frS xs (f2-1)=some f) (l:Int) (s:Nat) {u1 u2:List zD}
  (K:u1=gS ns xs (f2-1) (ZM ns (atN xs i) false) s) (H:u2=gS ns xs (i-1) (ZM ns (atN xs i) true) (s+u1.length)) :
  gS ns xs i l s=zDK ns (atN xs i) l s ((u1++u2)++[⟨(atN xs i).k,(atN xs i).t,((s+u1.length:Nat):Int)-1,((s+u1.length+u2.length:Nat):Int)-1⟩]):=by
 have h6:(atN xs i).k≠6:=fun e=>by rw [e] at hk; simp [ze] at hk
 have q:=zAV h
 have e1:=zCs ns xs i (i-1+1) (i-1) f2 (by omega) (by omega) h
 have e2:=zCs ns xs i (f2-1+1) (f2-1) f (by omega) (by omega) hf
 have ea:(atN xs i).a.toNat=f2-1:=by omega
 subst H
 subst K
 unfold gS
 conv=>lhs; unfold gr
 simp only [yN h6,ea,e1,e2,hk]
 rfl
theorem zGi (ns:List OpR) (o:zD) (l:Int) (s:Nat) (u:List zD):u.length<=(zDK ns o l s u).length/\(zDK ns o l s u).length<=u.length+1:=by
 unfold zDK
 split <;> simp
theorem zCt (ns:List OpR) (xs:List zD):∀ n i f,i<n->frS xs i=some f->∀ l s,1<=(gS ns xs i l s).length/\(gS ns xs i l s).length<=2*(i+1-f)
 | 0,_,_,h,_=>yP h (yt _)
 | n+1,i,f,h,hf=>by
  intro l s
  rcases zB4 hf with ⟨hk,ha,hb,J⟩ | ⟨hk,K,ha,Y,H⟩ | ⟨hk,K,Y,f2,q,y,ha,H⟩
  ·rw [zIt hk]
   have:=zGi ns (atN xs i) l s [⟨(atN xs i).k,(atN xs i).t,0,0⟩]
   simp only [yv,yW] at this
   omega
  ·have X:=zAV H
   by_cases h6:(atN xs i).k=6
   ·rw [zGh h6 K H]
    have:=zCt ns xs n (i-1) f (by omega) H l s
    omega
   ·rw [zK8 hk h6 K H l s rfl]
    have h1:=zCt ns xs n (i-1) f (by omega) H (ZM ns (atN xs i) false) s
    have h2:=zGi ns (atN xs i) l s (gS ns xs (i-1) (ZM ns (atN xs i) false) s++[⟨(atN xs i).k,(atN xs i).t,((s+(gS ns xs (i-1) (ZM ns (atN xs i) false) s).length:Nat):Int)-1,0⟩])
    simp only [ym,yv,yW] at h2
    omega
  ·have X:=zAV q
   have j:=zAV H
   obtain ⟨u1,Q⟩:∃ u1,u1=gS ns xs (f2-1) (ZM ns (atN xs i) false) s:=⟨_,rfl⟩
   obtain ⟨u2,x⟩:∃ u2,u2=gS ns xs (i-1) (ZM ns (atN xs i) true) (s+u1.length):=⟨_,rfl⟩
   rw [zK9 hk K q y ha H l s Q x]
   have h1:=zCt ns xs n (f2-1) f (by omega) H (ZM ns (atN xs i) false) s
   have h2:=zCt ns xs n (i-1) f2 (by omega) q (ZM ns (atN xs i) true) (s+u1.length)
   rw [<- Q] at h1
   rw [<- x] at h2
   have h3:=zGi ns (atN xs i) l s ((u1++u2)++[⟨(atN xs i).k,(atN xs i).t,((s+u1.length:Nat):Int)-1,((s+u1.length+u2.length:Nat):Int)-1⟩])
   simp only [ym,yv,yW] at h3
   omega
def zDj (ns:List OpR) (xs us:List zD) (v:Bool):Prop:=
 (((zR ns 0/\zA6 xs/\zJq ns xs)/\(gS ns xs (xs.length-1) 0 0).length<=20000)/\v=true/\us=gS ns xs (xs.length-1) 0 0) \/
 (¬ ((zR ns 0/\zA6 xs/\zJq ns xs)/\(gS ns xs (xs.length-1) 0 0).length<=20000)/\v=false/\us=[])
theorem zDj.one {xs us us':List zD} {v v':Bool} (h:zDj ns xs us v) (h':zDj ns xs us' v'):us=us'/\v=v':=by
 rcases h with ⟨a,rfl,rfl⟩ | ⟨a,rfl,rfl⟩
 ·rcases h' with ⟨_,rfl,rfl⟩ | ⟨a',_⟩
  ·exact ⟨rfl,rfl⟩
  ·exact yP a a'
 ·rcases h' with ⟨a',_⟩ | ⟨_,rfl,rfl⟩
  ·exact yP a' a
  ·exact ⟨rfl,rfl⟩
theorem zGj (k:Nat):(zEd k).t.size<=6:=by
 have e1:(⟨#[97,98,99,100,95,57]⟩:JZ).size=6:=rfl
 have e2:(⟨#[48,49,55,50]⟩:JZ).size=4:=rfl
 unfold zEd
 split
 ·show (ByteArray.extract _ _ _).size<=6
  rw [yw]; omega
 ·show (ByteArray.extract _ _ _).size<=6
  rw [yw]; omega
theorem zIu {ns:List OpR} (hn:∀ i,(atO ns i).s.size<=16) (bs:List UInt8) (grp:Bool):∀ (d p:Nat) (us:List zD),(∀ o∈us,o.t.size<=16)->∀ o∈(gen bs ns grp d p us).2,o.t.size<=16
 | 0,p,us,h=>by
  have:=zGj (nxt bs (adv bs p))
  simp only [gen]
  intro o ho
  rcases List.mem_append.1 ho with ho | ho
  ·exact h o ho
  ·simp at ho; subst ho; omega
 | d+1,p,us,h=>by
  have hl:=zGj (nxt bs (adv bs p))
  have h1:=zIu hn bs grp d (adv bs p) us h
  have h2:=zIu hn bs grp d (gen bs ns grp d (adv bs p) us).1 _ h1
  have h3:=hn (nxt bs p/8%ns.length)
  have sn:∀ (vs:List zD) (x:zD),(∀ o∈vs,o.t.size<=16)->x.t.size<=16->∀ o∈vs++[x],o.t.size<=16:=fun vs x hv hx o ho=>by
   rcases List.mem_append.1 ho with ho | ho
   ·exact hv o ho
   ·simp at ho; subst ho; exact hx
  simp only [gen]
  split
  ·exact sn _ _ h (by omega)
  ·split
   ·exact sn _ _ h1 (by show 0<=16; omega)
   ·split
    ·exact sn _ _ h2 h3
    ·exact sn _ _ h1 h3
def opA (ns:List OpR) (o:zD):OpR:=match fnd ns o.t (o.k-2) with
 | some j=>atO ns j
 | none=>⟨ByteArray.empty,0,0,0⟩
end Go.Proofs.YtgbkgkdpdfdokaaGreatDoor
