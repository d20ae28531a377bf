import Derived.Deep.AppendLies
import Derived.Test.YtgiemobdmbijiaaGreatDoorN33
namespace Go.Proofs.YtgiemobdmbijiaaGreatDoor
set_option linter.unusedSimpArgs false
set_option maxHeartbeats 16000000
set_option maxRecDepth 100000
open Go.RowKit
theorem zKH (b off cap b' off' cap' i:Nat) (bh:Bool) (xs:List OpR) (ts:List zT) (w:World) (hmx:xs.length <= 1048576) (hm:ts.length <= 1048576) (hi:i < ts.length) (hw:Ops w b off xs) (hB:b < w.heap.size) (hw':zEP w b' off' ts) (hB':b' < w.heap.size) :
  Calls Tryz.prog 116 #[.agg #[.slice (some ⟨b,off,none⟩) xs.length cap],.slice (some ⟨b',off',none⟩) ts.length cap',.int .i64 (i:Int),.bool bh] w fun e w'=>e = .returned (.int .i64 (zAI xs ts i bh)) /\ Below w.heap.size w w':=by
 have HW:=zB (hw.below (zC w (.cells #[.slice (some ⟨b,off,none⟩) xs.length cap] 55)) hB)
 have HT:=zB (hw'.below (zC w (.cells #[.slice (some ⟨b,off,none⟩) xs.length cap] 55)) hB')
 have c0:(w.alloc (.cells #[.slice (some ⟨b,off,none⟩) xs.length cap] 55)).cell? ⟨w.heap.size,0,none⟩ = some (.slice (some ⟨b,off,none⟩) xs.length cap):=by simp [go_sem]
 obtain ⟨a0,a1,a2⟩:=(hw' i hi).below (zC w (.cells #[.slice (some ⟨b,off,none⟩) xs.length cap] 55)) hB'
 clear hw hw'
 have hltI:(i:Int) < (ts.length:Int):=by omega
 have bel0:=zC w (.cells #[.slice (some ⟨b,off,none⟩) xs.length cap] 55)
 have z0:w.heap.size + 1 = (w.alloc (.cells #[.slice (some ⟨b,off,none⟩) xs.length cap] 55)).heap.size:=by simp
 have hk:(atT ts i).k = 1 \/ (atT ts i).k = 2 \/ (atT ts i).k = 4 \/ (atT ts i).k = 3 \/ (atT ts i).k = 5 \/ (atT ts i).k = 7 \/ ((atT ts i).k ≠ 1 /\ (atT ts i).k ≠ 2 /\ (atT ts i).k ≠ 4 /\ (atT ts i).k ≠ 3 /\ (atT ts i).k ≠ 5 /\ (atT ts i).k ≠ 7):=by omega
 have LB0:b < (w.alloc (.cells #[.slice (some ⟨b,off,none⟩) xs.length cap] 55)).heap.size:=by simp; omega
 have LW0:w.heap.size < (w.alloc (.cells #[.slice (some ⟨b,off,none⟩) xs.length cap] 55)).heap.size:=by simp
 have LT0:b' < (w.alloc (.cells #[.slice (some ⟨b,off,none⟩) xs.length cap] 55)).heap.size:=by simp; omega
 have HT1:=zB (fun n=>(zA HT).below (below_drewN _ n) LT0)
 have HT2:=zB (fun n m=>((zA HT).below (below_drewN _ n) LT0).below (below_drewN _ m) LT0)
 cases bh
 case false=>
  rcases hk with hk | hk | hk | hk | hk | hk | hk
  ·have hk':=zB hk
   have g1:((atT ts i).k == 1) = true:=by simp; omega
   have g2:((atT ts i).k == 2) = false:=by simp; omega
   have g4:((atT ts i).k == 4) = false:=by simp; omega
   have g3:((atT ts i).k == 3) = false:=by simp; omega
   have g5:((atT ts i).k == 5) = false:=by simp; omega
   have g7:((atT ts i).k == 7) = false:=by simp; omega
   clear hk
   go_enter Tryz.func116,Tryz.ntmps116
   go_wp2_with fail
   go_ret
   exact ⟨zG (by simp [zAI,zA hk']),bel0⟩
  ·have hk':=zB hk
   have g1:((atT ts i).k == 1) = false:=by simp; omega
   have g2:((atT ts i).k == 2) = true:=by simp; omega
   have g4:((atT ts i).k == 4) = false:=by simp; omega
   have g3:((atT ts i).k == 3) = false:=by simp; omega
   have g5:((atT ts i).k == 5) = false:=by simp; omega
   have g7:((atT ts i).k == 7) = false:=by simp; omega
   clear hk
   go_enter Tryz.func116,Tryz.ntmps116
   go_wp2_with fail
   go_ret
   exact ⟨zG (by simp [zAI,zA hk']),bel0⟩
  ·have hk':=zB hk
   have g1:((atT ts i).k == 1) = false:=by simp; omega
   have g2:((atT ts i).k == 2) = false:=by simp; omega
   have g4:((atT ts i).k == 4) = true:=by simp; omega
   have g3:((atT ts i).k == 3) = false:=by simp; omega
   have g5:((atT ts i).k == 5) = false:=by simp; omega
   have g7:((atT ts i).k == 7) = false:=by simp; omega
   clear hk
   go_enter Tryz.func116,Tryz.ntmps116
   go_wp2_with fail
   go_ret
   exact ⟨zG (by simp [zAI,zA hk']),bel0⟩
  ·have hk':=zB hk
   have g1:((atT ts i).k == 1) = false:=by simp; omega
   have g2:((atT ts i).k == 2) = false:=by simp; omega
   have g4:((atT ts i).k == 4) = false:=by simp; omega
   have g3:((atT ts i).k == 3) = true:=by simp; omega
   have g5:((atT ts i).k == 5) = false:=by simp; omega
   have g7:((atT ts i).k == 7) = false:=by simp; omega
   clear hk
   go_enter Tryz.func116,Tryz.ntmps116
   go_wp2_with fail
   go_region_held (fun w'=>w'.cell? ⟨w.heap.size,0,none⟩ = some (.slice (some ⟨b,off,none⟩) xs.length cap) /\ w'.cell? ⟨b',off' + i * 3 + 2,none⟩ = some (.string (atT ts i).t)) (go_keep) (first | (go_at_call 105; refine (zAi b off cap xs (atT ts i).t 1 _ hmx ((zA HW).below (Below.refl _ _).drew LB0) LB0).mono ?_; rintro e w1 ⟨⟨r1,rfl,hr1⟩,hb1⟩; have HR1:=zB hr1; have HB1:=zB hb1; have c1:=(hb1.cell (p:=⟨w.heap.size,0,none⟩) LW0).trans (show (w.alloc (.cells #[.slice (some ⟨b,off,none⟩) xs.length cap] 55)).drew.cell? ⟨w.heap.size,0,none⟩ = _ from c0); have d1:=(hb1.cell (p:=⟨b',off' + i * 3 + 2,none⟩) LT0).trans (show (w.alloc (.cells #[.slice (some ⟨b,off,none⟩) xs.length cap] 55)).drew.cell? ⟨b',off' + i * 3 + 2,none⟩ = _ from a2); clear hr1 hb1))
   by_cases p1:0 <= r1
   ·have hp:Zl xs (atT ts i).t 1 = true:=(zAG _ _ _).2 ((zA HR1).1 p1)
    have HP:=zB hp
    clear hp
    go_wp2_with fail
    go_ret
    exact ⟨zG (by simp [zAI,zA hk',zA HP]),bel0.trans (((Below.refl _ _).drew.trans (zA HB1)).mono (Nat.le_of_lt LW0))⟩
   ·have hp:Zl xs (atT ts i).t 1 = false:=by
     cases h:Zl xs (atT ts i).t 1
     ·rfl
     ·exact absurd ((zA HR1).2 ((zAG _ _ _).1 h)) p1
    have HP:=zB hp
    clear hp
    have p1':decide (0 <= r1) = false:=decide_eq_false p1
    go_wp2_with fail
    go_ret
    exact ⟨zG (by simp [zAI,zA hk',zA HP]),bel0.trans (((Below.refl _ _).drew.trans (zA HB1)).mono (Nat.le_of_lt LW0))⟩
  ·have hk':=zB hk
   have g1:((atT ts i).k == 1) = false:=by simp; omega
   have g2:((atT ts i).k == 2) = false:=by simp; omega
   have g4:((atT ts i).k == 4) = false:=by simp; omega
   have g3:((atT ts i).k == 3) = false:=by simp; omega
   have g5:((atT ts i).k == 5) = true:=by simp; omega
   have g7:((atT ts i).k == 7) = false:=by simp; omega
   clear hk
   go_enter Tryz.func116,Tryz.ntmps116
   go_wp2_with fail
   go_quiet (fail)
   go_wp2_with fail
   go_ret
   exact ⟨zG (by have:=zA hk'; simp [zAI,this]),⟨bel0.os,bel0.tape,bel0.output,bel0.size,bel0.block⟩⟩
  ·have hk':=zB hk
   have g1:((atT ts i).k == 1) = false:=by simp; omega
   have g2:((atT ts i).k == 2) = false:=by simp; omega
   have g4:((atT ts i).k == 4) = false:=by simp; omega
   have g3:((atT ts i).k == 3) = false:=by simp; omega
   have g5:((atT ts i).k == 5) = false:=by simp; omega
   have g7:((atT ts i).k == 7) = true:=by simp; omega
   clear hk
   go_enter Tryz.func116,Tryz.ntmps116
   go_wp2_with fail
   go_quiet (fail)
   go_wp2_with fail
   go_ret
   exact ⟨zG (by have:=zA hk'; simp [zAI,this]),⟨bel0.os,bel0.tape,bel0.output,bel0.size,bel0.block⟩⟩
  ·have hk':=zB hk
   have g1:((atT ts i).k == 1) = false:=by simp; omega
   have g2:((atT ts i).k == 2) = false:=by simp; omega
   have g4:((atT ts i).k == 4) = false:=by simp; omega
   have g3:((atT ts i).k == 3) = false:=by simp; omega
   have g5:((atT ts i).k == 5) = false:=by simp; omega
   have g7:((atT ts i).k == 7) = false:=by simp; omega
   clear hk
   go_enter Tryz.func116,Tryz.ntmps116
   go_wp2_with fail
   go_quiet (fail)
   go_wp2_with fail
   go_ret
   exact ⟨zG (by have:=zA hk'; simp [zAI,this]),⟨bel0.os,bel0.tape,bel0.output,bel0.size,bel0.block⟩⟩
 case true=>
  rcases hk with hk | hk | hk | hk | hk | hk | hk
  ·have hk':=zB hk
   have g1:((atT ts i).k == 1) = true:=by simp; omega
   have g2:((atT ts i).k == 2) = false:=by simp; omega
   have g4:((atT ts i).k == 4) = false:=by simp; omega
   have g3:((atT ts i).k == 3) = false:=by simp; omega
   have g5:((atT ts i).k == 5) = false:=by simp; omega
   have g7:((atT ts i).k == 7) = false:=by simp; omega
   clear hk
   go_enter Tryz.func116,Tryz.ntmps116
   go_wp2_with fail
   go_quiet (fail)
   go_wp2_with fail
   go_quiet (fail)
   go_wp2_with fail
   go_ret
   exact ⟨zG (by have:=zA hk'; simp [zAI,this]),⟨bel0.os,bel0.tape,bel0.output,bel0.size,bel0.block⟩⟩
  ·have hk':=zB hk
   have g1:((atT ts i).k == 1) = false:=by simp; omega
   have g2:((atT ts i).k == 2) = true:=by simp; omega
   have g4:((atT ts i).k == 4) = false:=by simp; omega
   have g3:((atT ts i).k == 3) = false:=by simp; omega
   have g5:((atT ts i).k == 5) = false:=by simp; omega
   have g7:((atT ts i).k == 7) = false:=by simp; omega
   clear hk
   go_enter Tryz.func116,Tryz.ntmps116
   go_wp2_with fail
   go_quiet (fail)
   go_wp2_with fail
   go_quiet (fail)
   go_wp2_with fail
   go_ret
   exact ⟨zG (by have:=zA hk'; simp [zAI,this]),⟨bel0.os,bel0.tape,bel0.output,bel0.size,bel0.block⟩⟩
  ·have hk':=zB hk
   have g1:((atT ts i).k == 1) = false:=by simp; omega
   have g2:((atT ts i).k == 2) = false:=by simp; omega
   have g4:((atT ts i).k == 4) = true:=by simp; omega
   have g3:((atT ts i).k == 3) = false:=by simp; omega
   have g5:((atT ts i).k == 5) = false:=by simp; omega
   have g7:((atT ts i).k == 7) = false:=by simp; omega
   clear hk
   go_enter Tryz.func116,Tryz.ntmps116
   go_wp2_with fail
   go_quiet (fail)
   go_wp2_with fail
   go_quiet (fail)
   go_wp2_with fail
   go_ret
   exact ⟨zG (by have:=zA hk'; simp [zAI,this]),⟨bel0.os,bel0.tape,bel0.output,bel0.size,bel0.block⟩⟩
  ·have hk':=zB hk
   have g1:((atT ts i).k == 1) = false:=by simp; omega
   have g2:((atT ts i).k == 2) = false:=by simp; omega
   have g4:((atT ts i).k == 4) = false:=by simp; omega
   have g3:((atT ts i).k == 3) = true:=by simp; omega
   have g5:((atT ts i).k == 5) = false:=by simp; omega
   have g7:((atT ts i).k == 7) = false:=by simp; omega
   clear hk
   go_enter Tryz.func116,Tryz.ntmps116
   go_wp2_with fail
   go_region_held (fun w'=>w'.cell? ⟨w.heap.size,0,none⟩ = some (.slice (some ⟨b,off,none⟩) xs.length cap) /\ w'.cell? ⟨b',off' + i * 3 + 2,none⟩ = some (.string (atT ts i).t)) (go_keep) (first | (go_at_call 105; refine (zAi b off cap xs (atT ts i).t 2 _ hmx ((zA HW).below (Below.refl _ _).drew LB0) LB0).mono ?_; rintro e w1 ⟨⟨r1,rfl,hr1⟩,hb1⟩; have HR1:=zB hr1; have HB1:=zB hb1; have c1:=(hb1.cell (p:=⟨w.heap.size,0,none⟩) LW0).trans (show (w.alloc (.cells #[.slice (some ⟨b,off,none⟩) xs.length cap] 55)).drew.cell? ⟨w.heap.size,0,none⟩ = _ from c0); have d1:=(hb1.cell (p:=⟨b',off' + i * 3 + 2,none⟩) LT0).trans (show (w.alloc (.cells #[.slice (some ⟨b,off,none⟩) xs.length cap] 55)).drew.cell? ⟨b',off' + i * 3 + 2,none⟩ = _ from a2); clear hr1 hb1))
   have LB1:b < w1.heap.size:=Nat.lt_of_lt_of_le LB0 (zA HB1).size
   have LW1:w.heap.size < w1.heap.size:=Nat.lt_of_lt_of_le LW0 (zA HB1).size
   have LT1:b' < w1.heap.size:=Nat.lt_of_lt_of_le LT0 (zA HB1).size
   have bel1:=bel0.trans (((Below.refl _ _).drew.trans (zA HB1)).mono (Nat.le_of_lt LW0))
   by_cases p1:0 <= r1
   ·have HP:=zB (show Zl xs (atT ts i).t 2 = true from (zAG _ _ _).2 ((zA HR1).1 p1))
    go_wp2_with fail
    go_ret
    exact ⟨zG (by simp [zAI,zA hk',zA HP]),bel1⟩
   ·have HP:=zB (show Zl xs (atT ts i).t 2 = false by
     cases h:Zl xs (atT ts i).t 2
     ·rfl
     ·exact absurd ((zA HR1).2 ((zAG _ _ _).1 h)) p1)
    have p1':decide (0 <= r1) = false:=decide_eq_false p1
    go_wp2_with fail
    go_region_held (fun w'=>w'.cell? ⟨w.heap.size,0,none⟩ = some (.slice (some ⟨b,off,none⟩) xs.length cap) /\ w'.cell? ⟨b',off' + i * 3 + 2,none⟩ = some (.string (atT ts i).t)) (go_keep) (first | (go_at_call 105; refine (zAi b off cap xs (atT ts i).t 3 _ hmx (((zA HW).below ((Below.refl _ _).drew.trans (zA HB1)) LB0).below (Below.refl _ _).drew LB1) LB1).mono ?_; rintro e w2 ⟨⟨r2,rfl,hr2⟩,hb2⟩; have HR2:=zB hr2; have HB2:=zB hb2; have c2:=(hb2.cell (p:=⟨w.heap.size,0,none⟩) LW1).trans (show w1.drew.cell? ⟨w.heap.size,0,none⟩ = _ from c1); have d2:=(hb2.cell (p:=⟨b',off' + i * 3 + 2,none⟩) LT1).trans (show w1.drew.cell? ⟨b',off' + i * 3 + 2,none⟩ = _ from d1); clear hr2 hb2))
    have bel2:=bel1.trans (((Below.refl _ _).drew.trans (zA HB2)).mono (Nat.le_of_lt LW1))
    by_cases p2:0 <= r2
    ·have HP2:=zB (show Zl xs (atT ts i).t 3 = true from (zAG _ _ _).2 ((zA HR2).1 p2))
     go_wp2_with fail
     go_ret
     exact ⟨zG (by simp [zAI,zA hk',zA HP,zA HP2]),bel2⟩
    ·have HP2:=zB (show Zl xs (atT ts i).t 3 = false by
      cases h:Zl xs (atT ts i).t 3
      ·rfl
      ·exact absurd ((zA HR2).2 ((zAG _ _ _).1 h)) p2)
     have p2':decide (0 <= r2) = false:=decide_eq_false p2
     go_wp2_with fail
     go_ret
     exact ⟨zG (by simp [zAI,zA hk',zA HP,zA HP2]),bel2⟩
  ·have hk':=zB hk
   have g1:((atT ts i).k == 1) = false:=by simp; omega
   have g2:((atT ts i).k == 2) = false:=by simp; omega
   have g4:((atT ts i).k == 4) = false:=by simp; omega
   have g3:((atT ts i).k == 3) = false:=by simp; omega
   have g5:((atT ts i).k == 5) = true:=by simp; omega
   have g7:((atT ts i).k == 7) = false:=by simp; omega
   clear hk
   by_cases ho:0 < opI ts i
   ·have HO:=zB ho
    go_enter Tryz.func116,Tryz.ntmps116
    go_wp2_with fail
    go_quiet (fail)
    go_wp2_with fail
    go_quiet (fail)
    go_wp2_with (go_at_call 129; refine (zBj b' off' cap' i ts _ hm (Nat.le_of_lt hi) (by first | exact (zA HT2) _ _ | exact (zA HT1) _)).mono ?_; rintro e w3 ⟨rfl,hx⟩; obtain rfl:=hx.symm)
    go_ret
    exact ⟨zG (by simp [zAI,zA hk',zA HO]),⟨bel0.os,bel0.tape,bel0.output,bel0.size,bel0.block⟩⟩
   ·have HO:=zB ho
    have ho':decide (0 < opI ts i) = false:=decide_eq_false ho
    go_enter Tryz.func116,Tryz.ntmps116
    go_wp2_with fail
    go_quiet (fail)
    go_wp2_with fail
    go_quiet (fail)
    go_wp2_with (go_at_call 129; refine (zBj b' off' cap' i ts _ hm (Nat.le_of_lt hi) (by first | exact (zA HT2) _ _ | exact (zA HT1) _)).mono ?_; rintro e w3 ⟨rfl,hx⟩; obtain rfl:=hx.symm)
    go_ret
    exact ⟨zG (by simp [zAI,zA hk',zA HO]),⟨bel0.os,bel0.tape,bel0.output,bel0.size,bel0.block⟩⟩
  ·have hk':=zB hk
   have g1:((atT ts i).k == 1) = false:=by simp; omega
   have g2:((atT ts i).k == 2) = false:=by simp; omega
   have g4:((atT ts i).k == 4) = false:=by simp; omega
   have g3:((atT ts i).k == 3) = false:=by simp; omega
   have g5:((atT ts i).k == 5) = false:=by simp; omega
   have g7:((atT ts i).k == 7) = true:=by simp; omega
   clear hk
   by_cases ho:opI ts i = 0
   ·have HO:=zB ho
    have ho':(opI ts i == 0) = true:=by simpa using ho
    by_cases hl:i + 1 = ts.length
    ·have HL:=zB hl
     have hl':((i:Int) == (ts.length:Int) - 1) = true:=by simp; omega
     go_enter Tryz.func116,Tryz.ntmps116
     go_wp2_with fail
     go_quiet (fail)
     go_wp2_with fail
     go_quiet (fail)
     go_wp2_with (go_at_call 129; refine (zBj b' off' cap' i ts _ hm (Nat.le_of_lt hi) (by first | exact (zA HT2) _ _ | exact (zA HT1) _)).mono ?_; rintro e w3 ⟨rfl,hx⟩; obtain rfl:=hx.symm)
     go_ret
     exact ⟨zG (by simp [zAI,zA hk',zA HO,zA HL]),⟨bel0.os,bel0.tape,bel0.output,bel0.size,bel0.block⟩⟩
    ·have HL:=zB hl
     have hl':((i:Int) == (ts.length:Int) - 1) = false:=by simp; omega
     go_enter Tryz.func116,Tryz.ntmps116
     go_wp2_with fail
     go_quiet (fail)
     go_wp2_with fail
     go_quiet (fail)
     go_wp2_with (go_at_call 129; refine (zBj b' off' cap' i ts _ hm (Nat.le_of_lt hi) (by first | exact (zA HT2) _ _ | exact (zA HT1) _)).mono ?_; rintro e w3 ⟨rfl,hx⟩; obtain rfl:=hx.symm)
     go_ret
     exact ⟨zG (by simp [zAI,zA hk',zA HO,zA HL]),⟨bel0.os,bel0.tape,bel0.output,bel0.size,bel0.block⟩⟩
   ·have HO:=zB ho
    have ho':(opI ts i == 0) = false:=by simpa using ho
    go_enter Tryz.func116,Tryz.ntmps116
    go_wp2_with fail
    go_quiet (fail)
    go_wp2_with fail
    go_quiet (fail)
    go_wp2_with (go_at_call 129; refine (zBj b' off' cap' i ts _ hm (Nat.le_of_lt hi) (by first | exact (zA HT2) _ _ | exact (zA HT1) _)).mono ?_; rintro e w3 ⟨rfl,hx⟩; obtain rfl:=hx.symm)
    go_ret
    exact ⟨zG (by simp [zAI,zA hk',zA HO]),⟨bel0.os,bel0.tape,bel0.output,bel0.size,bel0.block⟩⟩
  ·have hk':=zB hk
   have g1:((atT ts i).k == 1) = false:=by simp; omega
   have g2:((atT ts i).k == 2) = false:=by simp; omega
   have g4:((atT ts i).k == 4) = false:=by simp; omega
   have g3:((atT ts i).k == 3) = false:=by simp; omega
   have g5:((atT ts i).k == 5) = false:=by simp; omega
   have g7:((atT ts i).k == 7) = false:=by simp; omega
   clear hk
   go_enter Tryz.func116,Tryz.ntmps116
   go_wp2_with fail
   go_quiet (fail)
   go_wp2_with fail
   go_quiet (fail)
   go_wp2_with fail
   go_ret
   exact ⟨zG (by have:=zA hk'; simp [zAI,this]),⟨bel0.os,bel0.tape,bel0.output,bel0.size,bel0.block⟩⟩
theorem zM0:(Tryz.prog.info? 3).map (fun i=>(i.zero,i.size,i.bytes)) = some (some (.int .i64 0),1,8):=by kernel_rfl
theorem zKI (w:World) (v:Int):∀ j u,(zt [v])[j]? = some u -> (w.alloc (.cells #[.int .i64 v] 3)).cell? ((⟨w.heap.size,0,none⟩:Addr).add j) = some u:=by
 intro j u hj
 rw [Addr.add_mid]
 have:=World.rangeAt_of_block (w:=w.alloc (.cells #[.int .i64 v] 3)) (b:=w.heap.size) (heap_alloc_new w _) 0 1
 exact this j u (by simpa [zt] using hj)
theorem zBv {w:World} {g:Nat} (h:g < w.heap.size):zFU w g [] 0:=⟨h,fun j hj=>absurd hj (Nat.not_lt_zero j),fun i hi=>absurd hi (Nat.not_lt_zero i)⟩
theorem zKJ {xs:List OpR} (h:zZ xs 0):zFN xs:=by
 apply zMA
 rcases h with ⟨h,_⟩ | ⟨_,⟨h,_⟩ | ⟨_,⟨h,_⟩ | ⟨h,_⟩⟩⟩
 ·exact absurd h (by decide)
 ·exact absurd h (by decide)
 ·exact absurd h (by decide)
 ·exact h
theorem zGh (b off cap b' off' cap':Nat) (xs:List OpR) (ts:List zT) (w:World) (hmx:xs.length <= 1048576) (hm:ts.length <= 1048576) (hw:Ops w b off xs) (hsz:Zs xs) (hB:b < w.heap.size) (hw':zEP w b' off' ts) (hB':b' < w.heap.size) :
  Calls Tryz.prog 86 #[.agg #[.slice (some ⟨b,off,none⟩) xs.length cap],.slice (some ⟨b',off',none⟩) ts.length cap'] w fun e w'=>(∃ (g c:Nat) (us:List Int) (v:Int),e = .returned (.tuple #[.slice (some ⟨g,0,none⟩) us.length c,.int .i64 v]) /\ w.heap.size <= g /\ zFU w' g us us.length /\ zNi xs (zZ xs 0) ts us v) /\ Below w.heap.size w w':=by
 have HW:=zB hw
 have HS:=zB hsz
 have HT:=zB hw'
 clear hw hsz hw'
 go_enter Tryz.func86,Tryz.ntmps86
 go_wp2_with fail
 refine (ZU b off cap xs _ hmx ((zA HW).below ((zC _ _).alloc (by simp) _) hB) (zA HS) (by simp; omega)).mono ?_
 rintro e w1 ⟨⟨c,rfl,hc⟩,hb1⟩
 have HC:=zB hc
 have z1:w.heap.size + 2 <= w1.heap.size:=by have:=hb1.size; simp at this; omega
 have bel1:Below w.heap.size w w1:=((zC _ _).alloc (by simp) _).trans (hb1.mono (by simp; omega))
 have HO:=zB (show w1.ownsRow (w.heap.size + 1) 3 1 (.slice (some ⟨w.heap.size + 1,0,none⟩) 0 0) 0 (zt []) by
  have h0:=World.ownsRow_lit (base:=w.heap.size + 1) (e:=3) (size:=1) (w.alloc (.cells #[.slice (some ⟨b,off,none⟩) xs.length cap] 55)) #[] 0 (by simp) (Nat.zero_le _) rfl
  have h1:=h0.kept (zAS hb1 none) (Or.inr (by simp [Value.ownBlock]))
  simpa [zt] using h1)
 have c1:w1.cell? ⟨w.heap.size,0,none⟩ = some (.slice (some ⟨b,off,none⟩) xs.length cap):=by rw [hb1.cell (p:=⟨w.heap.size,0,none⟩) (by simp; omega)]; simp [go_sem]
 clear hb1 hc
 by_cases hc0:c = 0
 case neg=>
  have hc0':(c != 0) = true:=by simpa using hc0
  have HN:=zB (show ¬ zZ xs 0 from fun h=>hc0 (zA6 (zA HC) h))
  clear hc0
  go_wp2_with fail
  go_ret2
  exact ⟨⟨w.heap.size + 1,0,[],0,rfl,by omega,zBv (by omega),Or.inl ⟨zA HN,rfl,rfl⟩⟩,bel1⟩
 subst hc0
 have HAP:=zB (zKJ (zA HC))
 go_wp2_with fail
 refine (zH6 b off cap b' off' cap' xs ts _ hmx hm ((zA HW).below bel1 hB) (by omega) ((zA HT).below bel1 hB') (by omega)).mono ?_
 rintro e w2 ⟨⟨gs,cst,rfl,hgsl,hgs,hst⟩,hb2⟩
 have HSS:=zB hst
 have bel2:=bel1.trans (hb2.mono bel1.size)
 have HO2:=zB ((zA HO).kept (zAS hb2 none) (Or.inr (by simp [Value.ownBlock])))
 have c2:=(hb2.cell (p:=⟨w.heap.size,0,none⟩) (show w.heap.size < w1.heap.size by omega)).trans c1
 have z2:w.heap.size + 2 <= w2.heap.size:=Nat.le_trans z1 hb2.size
 have HGS:=zB (show w1.heap.size <= gs from hgsl)
 clear hst hb2 HO c1
 obtain ⟨i0,hi0,hz0,hz1,hz2⟩:=info_parts zM0
 have HI0:=zB hi0
 have HZ0:=zB (And.intro hz0 (And.intro hz1 hz2))
 clear hi0 hz0 hz1 hz2
 go_wp2_with fail
 go_loopw [6,8] (fun ov iv wr=>∃ (k g c:Nat),k <= ts.length /\ iv = .int .i64 (k:Int) /\ ov = .slice (some ⟨g,0,none⟩) k c /\ Hid (zCX xs ts k) /\ Hid (wr.ownsRow (w.heap.size + 1) 3 1 (.slice (some ⟨g,0,none⟩) k c) k (zt (Zn xs ts k))) /\ Hid (wr.cell? ⟨w.heap.size,0,none⟩ = some (.slice (some ⟨b,off,none⟩) xs.length cap)) /\ Hid (∀ i,i <= ts.length -> wr.cell? ⟨gs,i,none⟩ = some (.bool (zAH xs ts i))) /\ gs < wr.heap.size /\ w.heap.size + 2 <= wr.heap.size /\ Hid (Below w.heap.size w wr) /\ Hid (g ≠ gs)) (fun _ iv _=>ts.length - (intOf iv).toNat)
 case atStart=>exact ⟨0,w.heap.size + 1,0,Nat.zero_le _,rfl,rfl,zB (fun i hi=>by omega),HO2,zB c2,HSS,hgs,z2,zB bel2,zB (by have:=zA HGS; omega)⟩
 case round=>
  clear HO2 HSS c2 z2 bel2 hgs
  obtain ⟨k,g,c,hk,rfl,rfl,hfit,hown,hc0,hss,hgs,hz,hbl,hgg⟩:=hrel
  have e0:=zA hc0
  by_cases hlt:k < ts.length
  ·have hltI:(k:Int) < (ts.length:Int):=by omega
   have hltI':(k:Int) < ((ts.length + 1:Nat):Int):=by omega
   have hltI2:(k:Int) < (ts.length:Int) + 1:=by omega
   have s0:=(zA hss) k (by omega)
   have hB2:b < wr.heap.size:=by omega
   have hB2':b' < wr.heap.size:=by omega
   have zw:w.heap.size < wr.heap.size:=by omega
   go_wp2_with fail
   go_region_held (fun w'=>w'.cell? ⟨w.heap.size,0,none⟩ = some (.slice (some ⟨b,off,none⟩) xs.length cap) /\ w'.cell? ⟨gs,k,none⟩ = some (.bool (zAH xs ts k))) (go_keep) (first | (go_at_call 116; refine (zKH b off cap b' off' cap' k (zAH xs ts k) xs ts _ hmx hm hlt ((zA HW).below (zA hbl).drew hB) hB2 ((zA HT).below (zA hbl).drew hB') hB2').mono ?_; rintro e w3 ⟨rfl,hb3⟩; have q0:=(hb3.cell (p:=⟨w.heap.size,0,none⟩) zw).trans (show wr.drew.cell? ⟨w.heap.size,0,none⟩ = _ from e0); have q1:=(hb3.cell (p:=⟨gs,k,none⟩) hgs).trans (show wr.drew.cell? ⟨gs,k,none⟩ = _ from s0); have HB3:=zB hb3; clear hb3))
   have hre:=zNj (zA HAP) k hlt (zA hfit)
   rw [hre]
   have hbd:Below wr.heap.size wr w3:=(Below.refl _ _).drew.trans (zA HB3)
   have HO3:=zB ((zA hown).kept (zAS hbd none) (Or.inr (by simp [Value.ownBlock])))
   have HB4:=zB ((zA hbl).trans (hbd.mono (zA hbl).size))
   have HS4:=zB (fun i (hi:i <= ts.length)=>(hbd.cell (p:=⟨gs,i,none⟩) hgs).trans ((zA hss) i hi))
   have z3:wr.heap.size <= w3.heap.size:=hbd.size
   clear hbd hown hbl hss hre HB3 e0 s0 hc0
   by_cases hr:zd xs ts k < 0
   ·have HR:=zB hr
    go_wp2_with fail
    go_ret2
    exact ⟨⟨w3.heap.size,0,[],(k:Int),rfl,by omega,zBv (by simp),Or.inr ⟨zA HC,Or.inl ⟨k,hlt,zA hfit,zA HR,rfl,rfl⟩⟩⟩,(zA HB4).alloc (by omega) _⟩
   have hr0:0 <= zd xs ts k:=by omega
   have HFI:=zB (show zCX xs ts (k + 1) from fun i hi=>by
    by_cases e:i = k
    ·subst e; exact hr0
    ·exact (zA hfit) i (by omega))
   have hgl:=(zA HO3).lt g rfl
   go_wp2_with (at_builtin; refine wpList_append_lies _ rfl (.tmp 36) (.tmp 38) 127 rfl (w.heap.size + 1) 3 i0 _ 1 8 Tryz.underlying127 (zA HI0) (zA HZ0).1 (zA HZ0).2.1 (zA HZ0).2.2 rfl (by decide) _ k (zt (Zn xs ts k)) rfl ((zA HO3).alloc _) ⟨w3.heap.size,0,none⟩ 1 1 (zt [zd xs ts k]) rfl rfl (zKI w3 (zd xs ts k)) (zBi _) (by decide) ?b1 ?b2 ?b3 _ rfl ?next)
   case b1=>unfold maxLen; omega
   case b2=>omega
   case b3=>first | omega | (simp; omega)
   case next=>
    intro g4 c4 w4 hown4 hgrow4 hor4 hlt4
    have hbel4:Below w.heap.size w w4:=((zA HB4).alloc (by omega) _).grown hgrow4 (by simp; omega) (fun q hq=>by simp [Value.ownBlock] at hq; omega)
    have hfar:∀ bb,bb < w3.heap.size -> bb ≠ g -> w4.heap[bb]? = w3.heap[bb]?:=fun bb h1 h2=>(hgrow4.block bb (by simp; omega) (by simp [Value.ownBlock]; omega)).trans ((zC w3 _).block bb h1)
    have q4:w4.cell? ⟨w.heap.size,0,none⟩ = some (.slice (some ⟨b,off,none⟩) xs.length cap):=(World.cell?_of_block (hfar w.heap.size (by omega) (by omega))).trans q0
    have hgne:=zA hgg
    have HS5:=zB (fun i (hi:i <= ts.length)=>(World.cell?_of_block (w:=w3) (a:=⟨gs,i,none⟩) (hfar gs (by omega) (fun e=>hgne e.symm))).trans ((zA HS4) i hi))
    have hg4:g4 ≠ gs:=by
     rcases hor4 with h | h
     ·simp [Value.ownBlock] at h; omega
     ·first | omega | (simp at h; omega)
    rw [<- zAf,<- zHn] at hown4
    have HO4:=zB hown4
    have hz4:w3.heap.size <= w4.heap.size:=by have:=hgrow4.size; simp at this; omega
    have HBB:=zB hbel4
    have HQ4:=zB q4
    clear hown4 hgrow4 hor4 hfar hbel4 HO3 HB4 HS4 q4 q0 q1 hgg
    go_wp2
    exact ⟨⟨k + 1,g4,c4,by omega,by go_num,rfl,HFI,HO4,HQ4,HS5,by omega,by omega,HBB,zB hg4⟩,by simp [intOf]; omega⟩
  ·obtain rfl:k = ts.length:=by omega
   by_cases hn:ts.length = 0
   ·have hn':((ts.length:Int) == 0) = true:=beq_iff_eq.2 (by omega)
    have HN:=zB hn
    clear hn
    go_wp2_with fail
    go_ret2
    refine ⟨⟨wr.heap.size,0,[],(ts.length:Int),rfl,by omega,zBv (by simp),Or.inr ⟨zA HC,Or.inr ⟨zA hfit,Or.inr ⟨fun h=>by have:=zA HN; omega,rfl,rfl⟩⟩⟩⟩,?_⟩
    first
     | exact (zA hbl).alloc (by omega) _
     | (have hb:=(zA hbl).alloc (by omega:w.heap.size <= wr.heap.size) (.cells #[] 3); exact ⟨hb.os,hb.tape,hb.output,hb.size,hb.block⟩)
   ·have hn':((ts.length:Int) == 0) = false:=beq_eq_false_iff_ne.2 (by omega)
    obtain ⟨a0,a1,a2⟩:=((zA HT) (ts.length - 1) (by omega)).below (zA hbl) hB'
    have hi1:(ts.length:Int) - 1 = ((ts.length - 1:Nat):Int):=by omega
    have hi2:((ts.length - 1:Nat):Int) < (ts.length:Int):=by omega
    have hi3:((ts.length:Int) - 1).toNat = ts.length - 1:=by omega
    have hi4:(ts.length:Int) - 1 < (ts.length:Int):=by omega
    have hi5:(0:Int) <= (ts.length:Int) - 1:=by omega
    by_cases h7:(atT ts (ts.length - 1)).k = 7
    ·have h7':((atT ts (ts.length - 1)).k != 7) = false:=by simpa using h7
     have H7:=zB h7
     clear h7
     go_wp2_with fail
     go_ret2
     have ho:=zA hown
     have hlen:(Zn xs ts ts.length).length = ts.length:=Zu _ _ _
     obtain ⟨hg,hf⟩:=zEG (zs:=Zn xs ts ts.length) (by rw [hlen]; exact ho)
     exact ⟨⟨g,c,Zn xs ts ts.length,-1,by rw [hlen]; rfl,by omega,hf,Or.inr ⟨zA HC,Or.inr ⟨zA hfit,Or.inl ⟨⟨by omega,zA H7⟩,rfl,rfl⟩⟩⟩⟩,zA hbl⟩
    ·have h7':((atT ts (ts.length - 1)).k != 7) = true:=by simpa using h7
     have H7:=zB h7
     clear h7
     go_wp2_with fail
     go_ret2
     exact ⟨⟨wr.heap.size,0,[],(ts.length:Int),rfl,by omega,zBv (by simp),Or.inr ⟨zA HC,Or.inr ⟨zA hfit,Or.inr ⟨fun h=>(zA H7) h.2,rfl,rfl⟩⟩⟩⟩,(zA hbl).alloc (by omega) _⟩
end Go.Proofs.YtgiemobdmbijiaaGreatDoor
