import Derived.Shelf.Strings.OnBuilder
import Derived.Test.YtfboipappaonhaaGreatV00
import Derived.Test.YtfboipappaonhaaGreatV13
import Derived.Test.YtfboipappaonhaaGreatV14
import Derived.Test.YtfboipappaonhaaGreatV27
import Derived.Test.YtfboipappaonhaaGreatV32
import Derived.Test.YtfboipappaonhaaGreatV38
import Derived.Test.YtfboipappaonhaaGreatV39
import Derived.Test.YtfboipappaonhaaGreatV41
import Derived.Test.YtfboipappaonhaaGreatV43
namespace Go.Proofs.YtfboipappaonhaaGreat
set_option linter.unusedSimpArgs false
set_option linter.unusedVariables false
set_option maxHeartbeats 16000000
set_option maxRecDepth 100000
open Go.RowKit Go.Maps
theorem zGl {k:Int}:(zBF k != 0) = decide (3 <= k /\ k <= 5):=by
 unfold zBF
 split
 ·rename_i h
  simp [h]
  omega
 ·rename_i h
  simp
  omega
theorem zHg (bo bs bn offn cn:Nat) (xs:List OpR) (ns:List zD) (w:World) (hmn:ns.length <= 1048576) (hi:Idx w bo bs xs xs.length) (hc:zK xs 0) (hok:Z1 xs xs.length) (hwn:Zc w bn offn ns) (hsn:ZX ns) (hBn:bn < w.heap.size) :
  Calls Tryz.prog 87 #[.agg #[.map (some bo),.map (some bs)],.agg #[.slice (some ⟨bn,offn,none⟩) ns.length cn]] w fun e w'=>zB3 e (zAL xs ns) /\ Below w.heap.size w w':=by
 have HI:=zB hi
 have HC:=zB hc
 have HOK:=zB hok
 have HWN:=zB hwn
 have HZN:=zB hsn
 have HCS:=zB (show Cs [(w.heap.size,0,.map (some bo)),(w.heap.size,1,.map (some bs))] ((w.alloc (.cells #[.map (some bo),.map (some bs)] 69)).alloc (.cells #[.slice (some ⟨bn,offn,none⟩) ns.length cn] 28)) from fun p hp=>by
  simp only [List.mem_cons,List.not_mem_nil,or_false] at hp
  rcases hp with rfl | rfl
  ·simp [go_sem]
  ·simp [go_sem])
 have bel0:Below w.heap.size w ((w.alloc (.cells #[.map (some bo),.map (some bs)] 69)).alloc (.cells #[.slice (some ⟨bn,offn,none⟩) ns.length cn] 28)):=(zC _ _).alloc (by simp) _
 clear hi hc hok hwn hsn
 go_enter Tryz.func87,Tryz.ntmps87
 go_wp2_with fail
 go_loopw [12] (fun iv wr=>∃ k:Nat,k <= ns.length /\ iv = .int .i64 (k:Int) /\ Hid (∀ i,i < k -> zn (atN ns i) -> fnd xs (atN ns i).t ((atN ns i).k - 2) ≠ none) /\ Hid (Cs [(w.heap.size,0,.map (some bo)),(w.heap.size,1,.map (some bs))] wr) /\ Below w.heap.size w wr) (fun iv _=>ns.length - (intOf iv).toNat)
 case atStart=>exact ⟨0,Nat.zero_le _,rfl,zB (fun i hi=>absurd hi (Nat.not_lt_zero i)),HCS,bel0⟩
 case round=>
  clear HCS bel0
  obtain ⟨k,hk,rfl,hkn,hcs,hbel⟩:=hrel
  have c0:=(zA hcs) (w.heap.size,0,.map (some bo)) (by simp)
  have c1:=(zA hcs) (w.heap.size,1,.map (some bs)) (by simp)
  simp only at c0 c1
  by_cases hlt:k < ns.length
  ·have hltI:(k:Int) < (ns.length:Int):=by omega
   obtain ⟨a0,a1,a2,a3⟩:=((zA HWN) k hlt).below hbel hBn
   have HC1:=zB ((zA hcs).below (zC wr (.cells #[.int .i64 (atN ns k).k,.string (atN ns k).t,.int .i64 (atN ns k).a,.int .i64 (atN ns k).b] 81)))
   have d0:=(zA HC1) (w.heap.size,0,.map (some bo)) (by simp)
   have d1:=(zA HC1) (w.heap.size,1,.map (some bs)) (by simp)
   simp only at d0 d1
   have bel1:Below w.heap.size w (wr.alloc (.cells #[.int .i64 (atN ns k).k,.string (atN ns k).t,.int .i64 (atN ns k).a,.int .i64 (atN ns k).b] 81)):=hbel.alloc hbel.size _
   go_wp2_with fail
   refine (zBG bo bs xs (atN ns k) _ ((zA HI).kept bel1) (zA HC) (zA HOK) ((zA HZN) k hlt)).mono ?_
   rintro e w3 ⟨⟨p,v,rfl,hp⟩,hb3⟩
   have HP:=zB hp
   have HC3:=zB (((zA HC1).below hb3).below (zC w3 (.cells #[.string p.s,.int .i64 p.k,.int .i64 p.l,.int .i64 p.sd] 123)))
   have n0:w3.cell? ⟨wr.heap.size,0,none⟩ = some (.int .i64 (atN ns k).k):=(hb3.cell (p:=⟨wr.heap.size,0,none⟩) (by simp)).trans (by simp [go_sem])
   have z3:wr.heap.size < w3.heap.size:=by have:=hb3.size; simp at this; omega
   have n0':(w3.alloc (.cells #[.string p.s,.int .i64 p.k,.int .i64 p.l,.int .i64 p.sd] 123)).cell? ⟨wr.heap.size,0,none⟩ = some (.int .i64 (atN ns k).k):=((zC _ _).cell (p:=⟨wr.heap.size,0,none⟩) z3).trans n0
   have bel3:Below w.heap.size w (w3.alloc (.cells #[.string p.s,.int .i64 p.k,.int .i64 p.l,.int .i64 p.sd] 123)):=(bel1.trans (hb3.mono bel1.size)).alloc (bel1.trans (hb3.mono bel1.size)).size _
   clear hp hb3 c0 c1 d0 d1
   cases v
   ·by_cases ho:zn (atN ns k)
    ·have HF:=zB (show fnd xs (atN ns k).t ((atN ns k).k - 2) = none by
      rcases zA HP with ⟨j,_,_,h,_⟩ | ⟨h,_⟩
      ·cases h
      ·exact h ho)
     have HOP:=zB ho
     have hz:(zBF (atN ns k).k != 0) = true:=by rw [zGl]; exact decide_eq_true ho
     clear ho
     go_wp2_with (go_at_call 137; refine (zDG _ _).mono ?_; rintro e w' ⟨rfl,hx⟩; obtain rfl:=hx.symm)
     go_ret
     exact ⟨⟨_,rfl,zJ (fun h=>h k hlt (zA HOP) (zA HF))⟩,bel3⟩
    ·have HOP:=zB ho
     have hz:(zBF (atN ns k).k != 0) = false:=by rw [zGl]; exact decide_eq_false ho
     clear ho
     go_wp2_with (go_at_call 137; refine (zDG _ _).mono ?_; rintro e w' ⟨rfl,hx⟩; obtain rfl:=hx.symm)
     refine ⟨⟨k + 1,by omega,by go_num,zB (fun i hi hop=>?_),HC3,bel3⟩,by simp [intOf]; omega⟩
     by_cases e:i = k
     ·subst e; exact absurd hop (zA HOP)
     ·exact (zA hkn) i (by omega) hop
   ·have HF:=zB (show fnd xs (atN ns k).t ((atN ns k).k - 2) ≠ none by
     rcases zA HP with ⟨j,_,h,_,_⟩ | ⟨_,h⟩
     ·rw [h]; simp
     ·cases h)
    go_wp2_with fail
    refine ⟨⟨k + 1,by omega,by go_num,zB (fun i hi hop=>?_),HC3,bel3⟩,by simp [intOf]; omega⟩
    by_cases e:i = k
    ·subst e; exact zA HF
    ·exact (zA hkn) i (by omega) hop
  ·have hkx:k = ns.length:=by omega
   go_wp2_with fail
   go_ret
   exact ⟨⟨_,rfl,ZR (fun i hi hop=>(zA hkn) i (by omega) hop)⟩,hbel⟩
theorem zBz (bo bs bn offn cn:Nat) (xs:List OpR) (ns:List zD) (w:World) (hmn:ns.length <= 1048576) (hi:Idx w bo bs xs xs.length) (hc:zK xs 0) (hok:Z1 xs xs.length) (hwn:Zc w bn offn ns) (hsn:ZX ns) (hBn:bn < w.heap.size) :
  Calls Tryz.prog 44 #[.agg #[.map (some bo),.map (some bs)],.agg #[.slice (some ⟨bn,offn,none⟩) ns.length cn]] w fun e w'=>zB3 e (zl ns /\ zAL xs ns) /\ Below w.heap.size w w':=by
 have HI:=zB hi
 have HC:=zB hc
 have HOK:=zB hok
 have HWN:=zB hwn
 have HZN:=zB hsn
 have bel0:Below w.heap.size w ((w.alloc (.cells #[.map (some bo),.map (some bs)] 69)).alloc (.cells #[.slice (some ⟨bn,offn,none⟩) ns.length cn] 28)):=(zC _ _).alloc (by simp) _
 clear hi hc hok hwn hsn
 go_enter Tryz.func44,Tryz.ntmps44
 go_wp2_with fail
 refine (zEc bn offn cn ns _ hmn ((zA HWN).below bel0 hBn) (zA HZN) (Nat.lt_of_lt_of_le hBn bel0.size)).mono ?_
 rintro e w2 ⟨⟨v,rfl,hv⟩,hb2⟩
 have HV:=zB hv
 have bel2:=bel0.trans (hb2.mono bel0.size)
 have k1:w2.cell? ⟨w.heap.size + 1,0,none⟩ = some (.slice (some ⟨bn,offn,none⟩) ns.length cn):=(hb2.cell (p:=⟨w.heap.size + 1,0,none⟩) (by simp)).trans (by simp [go_sem])
 have k2:w2.cell? ⟨w.heap.size,0,none⟩ = some (.map (some bo)):=(hb2.cell (p:=⟨w.heap.size,0,none⟩) (by simp; omega)).trans (by simp [go_sem])
 have k3:w2.cell? ⟨w.heap.size,1,none⟩ = some (.map (some bs)):=(hb2.cell (p:=⟨w.heap.size,1,none⟩) (by simp; omega)).trans (by simp [go_sem])
 clear hv hb2 bel0
 cases v
 ·go_wp2_with fail
  go_ret
  exact ⟨⟨_,rfl,zJ (fun h=>Bool.false_ne_true ((zA HV).2 h.1))⟩,bel2⟩
 have HO:=zB ((zA HV).1 rfl)
 clear HV
 go_wp2_with fail
 refine (zHg bo bs bn offn cn xs ns _ hmn ((zA HI).kept bel2) (zA HC) (zA HOK) ((zA HWN).below bel2 hBn) (zA HZN) (Nat.lt_of_lt_of_le hBn bel2.size)).mono ?_
 rintro e w3 ⟨⟨v,rfl,hv⟩,hb3⟩
 have HV:=zB hv
 have bel3:=bel2.trans (hb3.mono bel2.size)
 clear hv hb3 bel2 k1 k2 k3
 cases v
 ·go_wp2_with fail
  go_ret
  exact ⟨⟨_,rfl,zJ (fun h=>Bool.false_ne_true ((zA HV).2 h.2))⟩,bel3⟩
 ·go_wp2_with fail
  go_ret
  exact ⟨⟨_,rfl,ZR ⟨zA HO,(zA HV).1 rfl⟩⟩,bel3⟩
def zNA (ns:List OpR) (xs:List zD) (x:Ending):Prop:=
 (∃ v:Value,x = .returned (.tuple #[v,.bool false]) /\ Hid (¬ ((zK ns 0 /\ zl xs /\ zAL ns xs) /\ (gS ns xs (xs.length - 1) 0 0).length <= 20000)) /\ (v = .nilIface \/ ∃ T u,v = .iface T u)) \/
 (x = .returned (.tuple #[fS ns xs (xs.length - 1) 0,.bool true]) /\ Hid ((zK ns 0 /\ zl xs /\ zAL ns xs) /\ (gS ns xs (xs.length - 1) 0 0).length <= 20000))
theorem zIU (b off cap bn offn cn:Nat) (ns:List OpR) (xs:List zD) (w:World) (hm:ns.length <= 1048576) (hmn:xs.length <= 1048576) (hw:Ops w b off ns) (hsz:Ze ns) (hB:b < w.heap.size) (hwn:Zc w bn offn xs) (hsn:ZX xs) (hBn:bn < w.heap.size) :
  Calls Tryz.prog 31 #[.agg #[.slice (some ⟨b,off,none⟩) ns.length cap],.agg #[.slice (some ⟨bn,offn,none⟩) xs.length cn]] w fun x w'=>zNA ns xs x /\ Below w.heap.size w w':=by
 have HW:=zB hw
 have HWN:=zB hwn
 have HZ:=zB hsz
 have HZN:=zB hsn
 clear hw hwn hsz hsn
 go_enter Tryz.func31,Tryz.ntmps31
 go_wp2_with fail
 refine (zBD b off cap ns _ hm ((zA HW).below ((zC _ _).alloc (by simp) _) hB) (zA HZ) (by simp; omega)).mono ?_
 rintro e w1 ⟨⟨x,y,c,rfl,hc,hix⟩,hb1⟩
 have HC:=zB hc
 have HIX:=zB hix
 have bel1:Below w.heap.size w w1:=((zC _ _).alloc (by simp) _).trans (hb1.mono (by simp; omega))
 have c1:w1.cell? ⟨w.heap.size + 1,0,none⟩ = some (.slice (some ⟨bn,offn,none⟩) xs.length cn):=(hb1.cell (p:=⟨w.heap.size + 1,0,none⟩) (by simp)).trans (by simp [go_sem])
 have z1:w.heap.size + 2 <= w1.heap.size:=by have:=hb1.size; simp at this; omega
 clear hc hix hb1
 by_cases hc0:c = 0
 case neg=>
  have hc0':(c != 0) = true:=by simpa using hc0
  have HN:=zB (show ¬ zK ns 0 from fun h=>hc0 (zAz (zA HC) h))
  clear hc0
  go_wp2_with fail
  refine bodyPost_ret (v:=.tuple #[.nilIface,.bool false]) ?res rfl ⟨Or.inl ⟨.nilIface,rfl,zB (fun h=>(zA HN) h.1.1),Or.inl rfl⟩,bel1.alloc bel1.size _⟩
  case res=>simp [results,Tryz.results31,go_sem]
 subst hc0
 obtain ⟨bo,bs,rfl,rfl,hidx⟩:=(zA HIX) rfl
 have HID:=zB (hidx.kept (zC w1 (.cells #[.map (some bo),.map (some bs)] 69)))
 have HOK:=zB (zBW (zA HC))
 have belA:Below w.heap.size w (w1.alloc (.cells #[.map (some bo),.map (some bs)] 69)):=bel1.alloc bel1.size _
 have HCS:=zB (show Cs [(w.heap.size + 1,0,.slice (some ⟨bn,offn,none⟩) xs.length cn),(w1.heap.size,0,.map (some bo)),(w1.heap.size,1,.map (some bs))] (w1.alloc (.cells #[.map (some bo),.map (some bs)] 69)) from fun p hp=>by
  simp only [List.mem_cons,List.not_mem_nil,or_false] at hp
  rcases hp with rfl | rfl | rfl
  ·exact ((zC _ _).cell (p:=⟨w.heap.size + 1,0,none⟩) (show w.heap.size + 1 < w1.heap.size by omega)).trans c1
  ·simp [go_sem]
  ·simp [go_sem])
 clear HIX hidx c1
 have k1:=(zA HCS) (w.heap.size + 1,0,.slice (some ⟨bn,offn,none⟩) xs.length cn) (by simp)
 have k2:=(zA HCS) (w1.heap.size,0,.map (some bo)) (by simp)
 have k3:=(zA HCS) (w1.heap.size,1,.map (some bs)) (by simp)
 simp only at k1 k2 k3
 go_wp2_with fail
 refine (zBz bo bs bn offn cn ns xs _ hmn (zA HID) (zA HC) (zA HOK) ((zA HWN).below belA hBn) (zA HZN) (Nat.lt_of_lt_of_le hBn belA.size)).mono ?_
 rintro e w3 ⟨⟨v,rfl,hv⟩,hb3⟩
 have HV:=zB hv
 have bel3:=belA.trans (hb3.mono belA.size)
 have z3:w1.heap.size + 1 <= w3.heap.size:=by have:=hb3.size; simp at this; omega
 have HC3:=zB ((zA HCS).below hb3)
 have HI3:=zB ((zA HID).kept hb3)
 clear hv hb3 HCS HID k1 k2 k3 belA
 cases v
 ·go_wp2_with fail
  refine bodyPost_ret (v:=.tuple #[.nilIface,.bool false]) ?res rfl ⟨Or.inl ⟨.nilIface,rfl,zB (fun h=>Bool.false_ne_true ((zA HV).2 ⟨h.1.2.1,h.1.2.2⟩)),Or.inl rfl⟩,bel3⟩
  case res=>simp [results,Tryz.results31,go_sem]
 have HO:=zB ((zA HV).1 rfl).1
 have HK:=zB ((zA HV).1 rfl).2
 clear HV
 have hlx:=(zA HO).2.1
 have hlx1:=(zA HO).1
 have HG0:=zB (show zAk (w3.alloc (.cells #[.int .i64 0] 110)) w3.heap.size 0 from ⟨by simp [go_sem],by simp [go_sem]⟩)
 have HC4:=zB ((zA HC3).below (zC w3 (.cells #[.int .i64 0] 110)))
 have HI4:=zB ((zA HI3).kept (zC w3 (.cells #[.int .i64 0] 110)))
 have bel4:Below w.heap.size w (w3.alloc (.cells #[.int .i64 0] 110)):=bel3.alloc bel3.size _
 have k1:=(zA HC4) (w.heap.size + 1,0,.slice (some ⟨bn,offn,none⟩) xs.length cn) (by simp)
 have k2:=(zA HC4) (w1.heap.size,0,.map (some bo)) (by simp)
 have k3:=(zA HC4) (w1.heap.size,1,.map (some bs)) (by simp)
 simp only at k1 k2 k3
 clear HC3 HI3 HC4
 go_wp2_with fail
 refine (zJA bo bs bn offn cn ns xs _ (zA HI4) (zA HC) (zA HOK) ((zA HWN).below bel4 hBn) (zA HZN) (Nat.lt_of_lt_of_le hBn bel4.size) (zA HO) (zA HK)).mono ?_
 rintro e w5 ⟨rfl,hb5⟩
 have HG5:=zB ((zA HG0).below hb5)
 have bel5:=bel4.trans (hb5.mono bel4.size)
 have HFIT:=zB (zE5 ns xs (zA HO).2.2.2 (zA HK) (zA HZ) xs.length (xs.length - 1) 0 (by omega) (by omega) (zA HO).2.2.1 w3.heap.size 0 0 w5 (zA HG5) (by omega))
 obtain ⟨T,u,hTu⟩:=zAU ns xs (xs.length - 1)
 obtain ⟨T2,u2,hTu2⟩:=zBH ns xs xs.length (xs.length - 1) 0 (by omega) (zA HO).2.2.1 0
 rw [hTu,hTu2] at HFIT
 have HT2:=zB hTu2
 have hln:=(zAM ns xs xs.length (xs.length - 1) 0 (by omega) (zA HO).2.2.1 0 0).2
 rw [hTu]
 clear hb5 HG0 HI4 k1 k2 k3 hTu hTu2 bel4
 go_wp2_with fail
 refine (zA HFIT).mono ?_
 rintro e w6 ⟨rfl,hg6,hk6⟩
 have bel6:Below w.heap.size w w6:=bel5.trans ((zA hk6).below (by exact bel5.size) (by omega))
 have cg:=(zA hg6).1
 obtain ⟨q,hq⟩:∃ q,q = (gS ns xs (xs.length - 1) 0 0).length:=⟨_,rfl⟩
 rw [<- hq] at cg hln
 rw [Nat.zero_add] at cg
 have HQ:=zB hq
 clear hg6 hk6 HFIT HG5 hq
 by_cases hq2:q <= 20000
 ·have hqI:(q:Int) <= 20000:=by omega
  go_wp2_with fail
  go_quiet (fail)
  go_wp2
  refine bodyPost_ret (v:=.tuple #[.iface T2 u2,.bool true]) ?res rfl ⟨Or.inr ⟨by rw [zA HT2],zB ⟨⟨zA HC,zA HO,zA HK⟩,by rw [<- zA HQ]; exact hq2⟩⟩,zFR bel6 rfl rfl rfl rfl⟩
  case res=>simp [results,Tryz.results31,go_sem,hqI]
 ·have hqI:¬ (q:Int) <= 20000:=by omega
  go_wp2_with fail
  go_quiet (fail)
  go_wp2
  refine bodyPost_ret (v:=.tuple #[.iface T2 u2,.bool false]) ?res rfl ⟨Or.inl ⟨_,rfl,zB (fun h=>hq2 (by rw [zA HQ]; exact h.2)),Or.inr ⟨_,_,rfl⟩⟩,zFR bel6 rfl rfl rfl rfl⟩
  case res=>simp [results,Tryz.results31,go_sem,hqI]
end Go.Proofs.YtfboipappaonhaaGreat
namespace Go.Proofs.YtfboipappaonhaaGreat
set_option maxHeartbeats 16000000
set_option maxRecDepth 100000
open Go.RowKit Go.Shelf
def zEd:Go.Shelf.Ren:=⟨fun | 156=>33 | 165=>69 | 166=>70 | 169=>71 | 240=>118 | 241=>119 | 276=>155 | 277=>156 | n=>n,fun | 31=>59 | 9=>9 | 3=>3 | 4=>4 | 0=>0 | 20=>20 | 72=>137 | 76=>141 | 70=>135 | 37=>22 | 75=>140 | 127=>195 | 164=>218 | 5=>5 | 80=>143 | n=>n,fun | n=>n⟩
theorem zNB:Go.Proofs.Lays.n156 Tryz.prog zEd:={
 mixed:=by kernel_rfl
 f156:=Tryz.func33.trans (congrArg some (by kernel_rfl))
 f165:=Tryz.func69.trans (congrArg some (by kernel_rfl))
 f166:=Tryz.func70.trans (congrArg some (by kernel_rfl))
 f169:=Tryz.func71.trans (congrArg some (by kernel_rfl))
 f240:=Tryz.func118.trans (congrArg some (by kernel_rfl))
 f241:=Tryz.func119.trans (congrArg some (by kernel_rfl))
 f276:=Tryz.func155.trans (congrArg some (by kernel_rfl))
 f277:=Tryz.func156.trans (congrArg some (by kernel_rfl))
 t0:=Tryz.underlying0
 a0:=Tryz.isAgg0
 z0:=Tryz.sizeOf0
 v0:=Tryz.zeroValue0
 t3:=Tryz.underlying3
 a3:=Tryz.isAgg3
 z3:=Tryz.sizeOf3
 v3:=Tryz.zeroValue3
 t4:=Tryz.underlying4
 a4:=Tryz.isAgg4
 z4:=Tryz.sizeOf4
 v4:=Tryz.zeroValue4
 t9:=Tryz.underlying9
 a9:=Tryz.isAgg9
 z9:=Tryz.sizeOf9
 v9:=Tryz.zeroValue9
 t20:=Tryz.underlying20
 a20:=Tryz.isAgg20
 z20:=Tryz.sizeOf20
 v20:=Tryz.zeroValue20
 t31:=Tryz.underlying59
 a31:=Tryz.isAgg59
 z31:=Tryz.sizeOf59
 v31:=Tryz.zeroValue59
 t37:=Tryz.underlying22
 a37:=Tryz.isAgg22
 z37:=Tryz.sizeOf22
 v37:=Tryz.zeroValue22
 t70:=Tryz.underlying135
 a70:=Tryz.isAgg135
 z70:=Tryz.sizeOf135
 v70:=Tryz.zeroValue135
 t72:=Tryz.underlying137
 a72:=Tryz.isAgg137
 z72:=Tryz.sizeOf137
 v72:=Tryz.zeroValue137
 t75:=Tryz.underlying140
 a75:=Tryz.isAgg140
 z75:=Tryz.sizeOf140
 v75:=Tryz.zeroValue140
 t76:=Tryz.underlying141
 a76:=Tryz.isAgg141
 z76:=Tryz.sizeOf141
 v76:=Tryz.zeroValue141
 t127:=Tryz.underlying195
 a127:=Tryz.isAgg195
 z127:=Tryz.sizeOf195
 v127:=Tryz.zeroValue195
 t164:=Tryz.underlying218
 a164:=Tryz.isAgg218
 z164:=Tryz.sizeOf218
 v164:=Tryz.zeroValue218 }
theorem zDz:Builder.Extra Tryz.prog zEd:={
 sizeBuilder:=by kernel_rfl
 liesBuilder:=by kernel_rfl
 t5:=Tryz.underlying5
 a5:=Tryz.isAgg5
 z5:=Tryz.sizeOf5
 v5:=Tryz.zeroValue5
 infoByte:=by kernel_rfl
 cellsByte:=by kernel_rfl
 sizeByte:=by kernel_rfl
 neB5:=by decide }
theorem zMC (bk o c:Nat) (xs:List ByteArray) (sep:ByteArray) (w:World) (hcells:∀ (j:Nat) x,xs[j]? = some x -> w.cell? ⟨bk,o + j,none⟩ = some (.string x)) (hbk:bk < w.heap.size) (hN:xs.length <= 140737488355328) (hcap:xs.length <= c) (hlen:(Lib.join (xs.map (·.data.toList)) sep.data.toList).length <= 140737488355328) :
  Calls Tryz.prog 33 #[.slice (some ⟨bk,o,none⟩) xs.length c,.string sep] w fun e w'=>e = .returned (.string ⟨(Lib.join (xs.map (·.data.toList)) sep.data.toList).toArray⟩) /\ Below w.heap.size w w':=Any.strings_Join zNB zDz bk o c xs sep w hcells hbk hN hcap hlen
end Go.Proofs.YtfboipappaonhaaGreat
namespace Go.Proofs.YtfboipappaonhaaGreat
set_option linter.unusedSimpArgs false
set_option linter.unusedVariables false
set_option maxHeartbeats 16000000
set_option maxRecDepth 100000
open Go.RowKit Go.Maps
theorem zGm (ps:List ByteArray):Lib.join (ps.map (·.data.toList)) (⟨#[]⟩:ByteArray).data.toList = zEh ps:=by
 unfold Lib.join zEh
 induction ps with
 | nil=>rfl
 | cons a r ih=>
  cases r with
  | nil=>simp [List.intercalate]
  | cons b r=>simp [List.intercalate,List.intersperse] at ih ⊢; rw [ih]
theorem zKV {w:World} {base n size g cap:Nat} {e:TypeId} {xs:List Value} (h:w.ownsRow base e size (.slice (some ⟨g,0,none⟩) n cap) n xs):n <= cap /\ cap <= maxLen:=by
 obtain ⟨_,h | ⟨g',cap',cur,hv',_,_,h1,h2,_⟩⟩:=h
 ·simp at h
 ·simp only [Value.slice.injEq,Option.some.injEq] at hv'
  obtain ⟨_,_,rfl⟩:=hv'
  exact ⟨h1,h2⟩
theorem zGB (b off cap bn offn cn:Nat) (ns:List OpR) (xs:List zD) (w:World) (hm:ns.length <= 1048576) (hmn:xs.length <= 1048576) (hw:Ops w b off ns) (hsz:Ze ns) (hB:b < w.heap.size) (hwn:Zc w bn offn xs) (hsn:ZX xs) (hBn:bn < w.heap.size) :
  Calls Tryz.prog 10 #[.agg #[.slice (some ⟨b,off,none⟩) ns.length cap],.agg #[.slice (some ⟨bn,offn,none⟩) xs.length cn]] w fun e w'=>(∃ (s:ByteArray) (v:Bool),e = .returned (.tuple #[.string s,.bool v]) /\ Hid (zCo ns xs s v)) /\ Below w.heap.size w w':=by
 have HW:=zB hw
 have HWN:=zB hwn
 have HZ:=zB hsz
 have HZN:=zB hsn
 have HB0:=zB (show ∀ o1 o2:Obj,Below w.heap.size w ((w.alloc o1).alloc o2) from fun o1 o2=>(zC w o1).alloc (by simp) o2)
 clear hw hwn hsz hsn
 go_enter Tryz.func10,Tryz.ntmps10
 go_wp2_with fail
 refine (zIU b off cap bn offn cn ns xs _ hm hmn ((zA HW).below ((zA HB0) _ _) hB) (zA HZ) (by simp; omega) ((zA HWN).below ((zA HB0) _ _) hBn) (zA HZN) (by simp; omega)).mono ?_
 rintro e w1 ⟨hp,hb1⟩
 have bel1:Below w.heap.size w w1:=((zA HB0) _ _).trans (hb1.mono (by simp; omega))
 clear hb1 HB0
 rcases hp with ⟨v,rfl,hn,hv⟩ | ⟨rfl,hy⟩
 ·have HN:=zB (zA hn)
  clear hn
  rcases hv with rfl | ⟨T,u,rfl⟩
  ·go_wp2_with fail
   go_ret2
   exact ⟨⟨_,_,rfl,zB (Or.inr ⟨zA HN,rfl,rfl⟩)⟩,bel1⟩
  ·go_wp2_with fail
   go_ret2
   exact ⟨⟨_,_,rfl,zB (Or.inr ⟨zA HN,rfl,rfl⟩)⟩,bel1⟩
 ·obtain ⟨G,hG,hgood,htx,hz20,hgs,hfs⟩:=zDC (zA hy)
  rw [hfs]
  obtain ⟨⟨T,u,hTu⟩,hcall⟩:=zM4 ns G hgood.well
  have hwl:(yT G).length <= 40000:=by
   have:=zFd G
   simp [yT]
   omega
  have h0:=zLA hgood.sh
  have hpt:=zEU (yT G) h0 (yT G).length (Nat.le_refl _)
  rw [List.take_length] at hpt
  obtain ⟨st,HST⟩:∃ st,Hid (st = (yT G).foldl put1 ([],0)):=⟨_,zB rfl⟩
  have hfl:=zBx (yT G) ([],0)
  rw [<- zA HST] at hpt hfl
  have HTX:=zB (show zEh st.1 = txT G from hpt.1)
  have hlen:=zMn htx 20000 hz20
  have HFL:=zB (show (Lib.join (st.1.map (·.data.toList)) (⟨#[]⟩:ByteArray).data.toList).length <= 140737488355328 by rw [zGm,zA HTX]; omega)
  have hp0:zCM (w1.alloc (.cells #[.slice none 0 0,.int .i64 0] 61)) w1.heap.size (.slice none 0 0) [] 0:=
   ⟨by simp [go_sem],by simp [go_sem],fun o=>by simp [go_sem],World.ownsRow_nil _ _ _ _⟩
  have HCALL:=zB (hcall w1.heap.size (.slice none 0 0) [] 0 _ st hp0 (by simp; omega) (zA HST))
  simp only [List.length_nil,Nat.zero_add] at hfl
  have hfl2:st.1.length <= 80000:=by omega
  have HG:=zB hG
  have hne:st.1 ≠ []:=fun e=>by
   have:=zK9 hgood.sh
   have h1:(yT G).length ≠ 0:=by omega
   have e2:1 <= st.1.length:=by
    rw [zA HST]
    cases hh:yT G with
    | nil=>rw [hh] at h1; exact absurd rfl h1
    | cons x r=>
     have mono:∀ (W:List ze) (q:List ByteArray × Int),q.1.length <= (W.foldl put1 q).1.length:=fun W=>by
      induction W with
      | nil=>intro q; exact Nat.le_refl _
      | cons y W ih=>
       intro q
       have:=ih (put1 q y)
       simp only [List.foldl_cons]
       refine Nat.le_trans ?_ this
       simp [put1]
     have:=mono r (put1 ([],0) x)
     simp only [List.foldl_cons]
     refine Nat.le_trans ?_ this
     simp [put1]
   rw [e] at e2
   simp at e2
  have HNE:=zB hne
  rw [hTu] at HCALL ⊢
  clear hG hgood htx hgs hfs hTu hcall hwl h0 hpt hfl hlen hp0 hz20 hne
  go_wp2_with fail
  refine (zA HCALL).mono ?_
  rintro x w2 ⟨rfl,v2,p1,p2,p3⟩
  have bel2:Below w.heap.size w w2:=⟨(zA p2).os.trans bel1.os,(zA p2).tape.trans bel1.tape,(zA p2).output.trans bel1.output,by have:=(zA p2).size; have:=bel1.size; simp at *; omega,fun i hi=>((zA p2).block i (by have:=bel1.size; simp; omega) (by have:=bel1.size; omega) (by simp [Value.ownBlock])).trans (((zC w1 _).block i (by have:=bel1.size; omega)).trans (bel1.block i hi))⟩
  have c0:=(zA p1).c0
  have hrow:=(zA p1).row
  obtain ⟨g2,k2,rfl⟩:∃ g k,v2 = .slice (some ⟨g,0,none⟩) st.1.length k:=by
   obtain ⟨_,⟨rfl,h0⟩ | ⟨g,cap,cur,h,_⟩⟩:=hrow
   ·exact absurd (List.eq_nil_of_length_eq_zero h0) (zA HNE)
   ·exact ⟨_,_,h⟩
  have HCE:=zB hrow.cells
  have hgl:=(hrow.lt g2 rfl).2
  have hcp:=(zKV hrow).1
  clear p2 p3 hrow HCALL
  go_wp2_with fail
  refine (zMC g2 0 k2 st.1 ⟨#[]⟩ _ (zA HCE) hgl (by omega) hcp (zA HFL)).mono ?_
  rintro x w3 ⟨rfl,hb3⟩
  rw [zGm,zA HTX]
  have bel3:=bel2.trans (hb3.mono bel2.size)
  clear c0 hb3
  go_wp2_with fail
  go_ret2
  exact ⟨⟨_,_,rfl,zB (Or.inl ⟨zA hy,rfl,by rw [<- zA HG]⟩)⟩,bel3⟩
end Go.Proofs.YtfboipappaonhaaGreat
