import Derived.Shelf.Strings.OnBuilder
import Derived.Deep.RegionHeld3
import Derived.Test.YtfboipappaonhaaGreatF00
import Derived.Test.YtfboipappaonhaaGreatF11
import Derived.Test.YtfboipappaonhaaGreatF13
import Derived.Test.YtfboipappaonhaaGreatF16
import Derived.Test.YtfboipappaonhaaGreatF24
import Derived.Test.YtfboipappaonhaaGreatF27
import Derived.Test.YtfboipappaonhaaGreatF28
import Derived.Test.YtfboipappaonhaaGreatF29
import Derived.Test.YtfboipappaonhaaGreatF32
import Derived.Test.YtfboipappaonhaaGreatF43
import Derived.Test.YtfboipappaonhaaGreatF46
import Derived.Test.YtfboipappaonhaaGreatF47
import Derived.Test.YtfboipappaonhaaGreatF48
import Derived.Test.YtfboipappaonhaaGreatF50
import Derived.Test.YtfboipappaonhaaGreatF52
namespace Go.Proofs.YtfboipappaonhaaGreat
set_option linter.unusedSimpArgs false
set_option linter.unusedVariables false
set_option maxHeartbeats 16000000
set_option maxRecDepth 100000
open Go.RowKit Go.Maps
theorem zIh {k:Int}:(zCQ k != 0)=decide (3<=k/\k<=5):=by
 unfold zCQ
 split
 ·rename_i h
  simp [h]
  omega
 ·rename_i h
  simp
  omega
theorem zJr (bo bs bn offn cn:Nat) (xs:List OpR) (ns:List zD) (w:World) (hmn:ns.length<=1048576) (hi:Idx w bo bs xs xs.length) (hc:zM xs 0) (hok:zBF xs xs.length) (hwn:Zu w bn offn ns) (hsn:zAX ns) (hBn:bn<w.heap.size) :
  Calls Tryz.prog 87 #[.agg #[.map (some bo),.map (some bs)],.agg #[.slice (some ⟨bn,offn,none⟩) ns.length cn]] w fun e w'=>zCw e (zAt xs ns)/\Below w.heap.size w w':=by
 have HI:=zB hi
 have HC:=zB hc
 have HOK:=zB hok
 have HWN:=zB hwn
 have HZN:=zB hsn
 have HCS:=zB (show Cs [(w.heap.size,0,.map (some bo)),(w.heap.size,1,.map (some bs))] ((w.alloc (.cells #[.map (some bo),.map (some bs)] 69)).alloc (.cells #[.slice (some ⟨bn,offn,none⟩) ns.length cn] 28)) from fun p hp=>by
  simp only [List.mem_cons,List.not_mem_nil,or_false] at hp
  rcases hp with rfl | rfl
  ·simp [go_sem]
  ·simp [go_sem])
 have bel0:Below w.heap.size w ((w.alloc (.cells #[.map (some bo),.map (some bs)] 69)).alloc (.cells #[.slice (some ⟨bn,offn,none⟩) ns.length cn] 28)):=(zC _ _).alloc (by simp) _
 clear hi hc hok hwn hsn
 go_enter Tryz.func87,Tryz.ntmps87
 go_wp2_with fail
 go_loopw [12] (fun iv wr=>∃ k:Nat,k<=ns.length/\iv = .int .i64 (k:Int)/\Hid (∀ i,i<k->ZF (atN ns i)->fnd xs (atN ns i).t ((atN ns i).k-2)≠none)/\Hid (Cs [(w.heap.size,0,.map (some bo)),(w.heap.size,1,.map (some bs))] wr)/\Below w.heap.size w wr) (fun iv _=>ns.length-(intOf iv).toNat)
 case atStart=>exact ⟨0,Nat.zero_le _,rfl,zB (fun i hi=>absurd hi (Nat.not_lt_zero i)),HCS,bel0⟩
 case round=>
  clear HCS bel0
  obtain ⟨k,hk,rfl,hkn,hcs,hbel⟩:=hrel
  have c0:=(zA hcs) (w.heap.size,0,.map (some bo)) (by simp)
  have c1:=(zA hcs) (w.heap.size,1,.map (some bs)) (by simp)
  simp only at c0 c1
  by_cases hlt:k<ns.length
  ·have hltI:(k:Int)<(ns.length:Int):=by omega
   obtain ⟨a0,a1,a2,a3⟩:=((zA HWN) k hlt).below hbel hBn
   have HC1:=zB ((zA hcs).below (zC wr (.cells #[.int .i64 (atN ns k).k,.string (atN ns k).t,.int .i64 (atN ns k).a,.int .i64 (atN ns k).b] 81)))
   have d0:=(zA HC1) (w.heap.size,0,.map (some bo)) (by simp)
   have d1:=(zA HC1) (w.heap.size,1,.map (some bs)) (by simp)
   simp only at d0 d1
   have bel1:Below w.heap.size w (wr.alloc (.cells #[.int .i64 (atN ns k).k,.string (atN ns k).t,.int .i64 (atN ns k).a,.int .i64 (atN ns k).b] 81)):=hbel.alloc hbel.size _
   go_wp2_with fail
   refine (zFS bo bs xs (atN ns k) _ ((zA HI).kept bel1) (zA HC) (zA HOK) ((zA HZN) k hlt)).mono ?_
   rintro e w3 ⟨⟨p,v,rfl,hp⟩,hb3⟩
   have HP:=zB hp
   have HC3:=zB (((zA HC1).below hb3).below (zC w3 (.cells #[.string p.s,.int .i64 p.k,.int .i64 p.l,.int .i64 p.sd] 123)))
   have n0:w3.cell? ⟨wr.heap.size,0,none⟩=some (.int .i64 (atN ns k).k):=(hb3.cell (p:=⟨wr.heap.size,0,none⟩) (by simp)).trans (by simp [go_sem])
   have z3:wr.heap.size<w3.heap.size:=by have:=hb3.size; simp at this; omega
   have n0':(w3.alloc (.cells #[.string p.s,.int .i64 p.k,.int .i64 p.l,.int .i64 p.sd] 123)).cell? ⟨wr.heap.size,0,none⟩=some (.int .i64 (atN ns k).k):=((zC _ _).cell (p:=⟨wr.heap.size,0,none⟩) z3).trans n0
   have bel3:Below w.heap.size w (w3.alloc (.cells #[.string p.s,.int .i64 p.k,.int .i64 p.l,.int .i64 p.sd] 123)):=(bel1.trans (hb3.mono bel1.size)).alloc (bel1.trans (hb3.mono bel1.size)).size _
   clear hp hb3 c0 c1 d0 d1
   cases v
   ·by_cases ho:ZF (atN ns k)
    ·have HF:=zB (show fnd xs (atN ns k).t ((atN ns k).k-2)=none by
      rcases zA HP with ⟨j,_,_,h,_⟩ | ⟨h,_⟩
      ·cases h
      ·exact h ho)
     have HOP:=zB ho
     have hz:(zCQ (atN ns k).k != 0)=true:=by rw [zIh]; exact decide_eq_true ho
     clear ho
     go_wp2_with (go_at_call 137; refine (zEp _ _).mono ?_; rintro e w' ⟨rfl,hx⟩; obtain rfl:=hx.symm)
     go_ret
     exact ⟨⟨_,rfl,zQ (fun h=>h k hlt (zA HOP) (zA HF))⟩,bel3⟩
    ·have HOP:=zB ho
     have hz:(zCQ (atN ns k).k != 0)=false:=by rw [zIh]; exact decide_eq_false ho
     clear ho
     go_wp2_with (go_at_call 137; refine (zEp _ _).mono ?_; rintro e w' ⟨rfl,hx⟩; obtain rfl:=hx.symm)
     refine ⟨⟨k+1,by omega,by go_num,zB (fun i hi hop=>?_),HC3,bel3⟩,by simp [intOf]; omega⟩
     by_cases e:i=k
     ·subst e; exact absurd hop (zA HOP)
     ·exact (zA hkn) i (by omega) hop
   ·have HF:=zB (show fnd xs (atN ns k).t ((atN ns k).k-2)≠none by
     rcases zA HP with ⟨j,_,h,_,_⟩ | ⟨_,h⟩
     ·rw [h]; simp
     ·cases h)
    go_wp2_with fail
    refine ⟨⟨k+1,by omega,by go_num,zB (fun i hi hop=>?_),HC3,bel3⟩,by simp [intOf]; omega⟩
    by_cases e:i=k
    ·subst e; exact zA HF
    ·exact (zA hkn) i (by omega) hop
  ·have hkx:k=ns.length:=by omega
   go_wp2_with fail
   go_ret
   exact ⟨⟨_,rfl,Zx (fun i hi hop=>(zA hkn) i (by omega) hop)⟩,hbel⟩
theorem zFy (bo bs bn offn cn:Nat) (xs:List OpR) (ns:List zD) (w:World) (hmn:ns.length<=1048576) (hi:Idx w bo bs xs xs.length) (hc:zM xs 0) (hok:zBF xs xs.length) (hwn:Zu w bn offn ns) (hsn:zAX ns) (hBn:bn<w.heap.size) :
  Calls Tryz.prog 44 #[.agg #[.map (some bo),.map (some bs)],.agg #[.slice (some ⟨bn,offn,none⟩) ns.length cn]] w fun e w'=>zCw e (ZE ns/\zAt xs ns)/\Below w.heap.size w w':=by
 have HI:=zB hi
 have HC:=zB hc
 have HOK:=zB hok
 have HWN:=zB hwn
 have HZN:=zB hsn
 have bel0:Below w.heap.size w ((w.alloc (.cells #[.map (some bo),.map (some bs)] 69)).alloc (.cells #[.slice (some ⟨bn,offn,none⟩) ns.length cn] 28)):=(zC _ _).alloc (by simp) _
 clear hi hc hok hwn hsn
 go_enter Tryz.func44,Tryz.ntmps44
 go_wp2_with fail
 refine (zKn bn offn cn ns _ hmn ((zA HWN).below bel0 hBn) (zA HZN) (Nat.lt_of_lt_of_le hBn bel0.size)).mono ?_
 rintro e w2 ⟨⟨v,rfl,hv⟩,hb2⟩
 have HV:=zB hv
 have bel2:=bel0.trans (hb2.mono bel0.size)
 have k1:w2.cell? ⟨w.heap.size+1,0,none⟩=some (.slice (some ⟨bn,offn,none⟩) ns.length cn):=(hb2.cell (p:=⟨w.heap.size+1,0,none⟩) (by simp)).trans (by simp [go_sem])
 have k2:w2.cell? ⟨w.heap.size,0,none⟩=some (.map (some bo)):=(hb2.cell (p:=⟨w.heap.size,0,none⟩) (by simp; omega)).trans (by simp [go_sem])
 have k3:w2.cell? ⟨w.heap.size,1,none⟩=some (.map (some bs)):=(hb2.cell (p:=⟨w.heap.size,1,none⟩) (by simp; omega)).trans (by simp [go_sem])
 clear hv hb2 bel0
 cases v
 ·go_wp2_with fail
  go_ret
  exact ⟨⟨_,rfl,zQ (fun h=>Bool.false_ne_true ((zA HV).2 h.1))⟩,bel2⟩
 have HO:=zB ((zA HV).1 rfl)
 clear HV
 go_wp2_with fail
 refine (zJr bo bs bn offn cn xs ns _ hmn ((zA HI).kept bel2) (zA HC) (zA HOK) ((zA HWN).below bel2 hBn) (zA HZN) (Nat.lt_of_lt_of_le hBn bel2.size)).mono ?_
 rintro e w3 ⟨⟨v,rfl,hv⟩,hb3⟩
 have HV:=zB hv
 have bel3:=bel2.trans (hb3.mono bel2.size)
 clear hv hb3 bel2 k1 k2 k3
 cases v
 ·go_wp2_with fail
  go_ret
  exact ⟨⟨_,rfl,zQ (fun h=>Bool.false_ne_true ((zA HV).2 h.2))⟩,bel3⟩
 ·go_wp2_with fail
  go_ret
  exact ⟨⟨_,rfl,Zx ⟨zA HO,(zA HV).1 rfl⟩⟩,bel3⟩
def zPq (ns:List OpR) (xs:List zD) (x:Ending):Prop:=
 (∃ v:Value,x = .returned (.tuple #[v,.bool false])/\Hid (¬ ((zM ns 0/\ZE xs/\zAt ns xs)/\(gS ns xs (xs.length-1) 0 0).length<=20000))/\(v = .nilIface\/∃ T u,v = .iface T u)) \/
 (x = .returned (.tuple #[fS ns xs (xs.length-1) 0,.bool true])/\Hid ((zM ns 0/\ZE xs/\zAt ns xs)/\(gS ns xs (xs.length-1) 0 0).length<=20000))
theorem zKo (b off cap bn offn cn:Nat) (ns:List OpR) (xs:List zD) (w:World) (hm:ns.length<=1048576) (hmn:xs.length<=1048576) (hw:Ops w b off ns) (hsz:ZV ns) (hB:b<w.heap.size) (hwn:Zu w bn offn xs) (hsn:zAX xs) (hBn:bn<w.heap.size) :
  Calls Tryz.prog 31 #[.agg #[.slice (some ⟨b,off,none⟩) ns.length cap],.agg #[.slice (some ⟨bn,offn,none⟩) xs.length cn]] w fun x w'=>zPq ns xs x/\Below w.heap.size w w':=by
 have HW:=zB hw
 have HWN:=zB hwn
 have HZ:=zB hsz
 have HZN:=zB hsn
 clear hw hwn hsz hsn
 go_enter Tryz.func31,Tryz.ntmps31
 go_wp2_with fail
 refine (zD3 b off cap ns _ hm ((zA HW).below ((zC _ _).alloc (by simp) _) hB) (zA HZ) (by simp; omega)).mono ?_
 rintro e w1 ⟨⟨x,y,c,rfl,hc,hix⟩,hb1⟩
 have HC:=zB hc
 have HIX:=zB hix
 have bel1:Below w.heap.size w w1:=((zC _ _).alloc (by simp) _).trans (hb1.mono (by simp; omega))
 have c1:w1.cell? ⟨w.heap.size+1,0,none⟩=some (.slice (some ⟨bn,offn,none⟩) xs.length cn):=(hb1.cell (p:=⟨w.heap.size+1,0,none⟩) (by simp)).trans (by simp [go_sem])
 have z1:w.heap.size+2<=w1.heap.size:=by have:=hb1.size; simp at this; omega
 clear hc hix hb1
 by_cases hc0:c=0
 case neg=>
  have hc0':(c != 0)=true:=by simpa using hc0
  have HN:=zB (show ¬ zM ns 0 from fun h=>hc0 (zA0 (zA HC) h))
  clear hc0
  go_wp2_with fail
  refine bodyPost_ret (v:=.tuple #[.nilIface,.bool false]) ?res rfl ⟨Or.inl ⟨.nilIface,rfl,zB (fun h=>(zA HN) h.1.1),Or.inl rfl⟩,bel1.alloc bel1.size _⟩
  case res=>simp [results,Tryz.results31,go_sem]
 subst hc0
 obtain ⟨bo,bs,rfl,rfl,hidx⟩:=(zA HIX) rfl
 have HID:=zB (hidx.kept (zC w1 (.cells #[.map (some bo),.map (some bs)] 69)))
 have HOK:=zB (zBd (zA HC))
 have belA:Below w.heap.size w (w1.alloc (.cells #[.map (some bo),.map (some bs)] 69)):=bel1.alloc bel1.size _
 have HCS:=zB (show Cs [(w.heap.size+1,0,.slice (some ⟨bn,offn,none⟩) xs.length cn),(w1.heap.size,0,.map (some bo)),(w1.heap.size,1,.map (some bs))] (w1.alloc (.cells #[.map (some bo),.map (some bs)] 69)) from fun p hp=>by
  simp only [List.mem_cons,List.not_mem_nil,or_false] at hp
  rcases hp with rfl | rfl | rfl
  ·exact ((zC _ _).cell (p:=⟨w.heap.size+1,0,none⟩) (show w.heap.size+1<w1.heap.size by omega)).trans c1
  ·simp [go_sem]
  ·simp [go_sem])
 clear HIX hidx c1
 have k1:=(zA HCS) (w.heap.size+1,0,.slice (some ⟨bn,offn,none⟩) xs.length cn) (by simp)
 have k2:=(zA HCS) (w1.heap.size,0,.map (some bo)) (by simp)
 have k3:=(zA HCS) (w1.heap.size,1,.map (some bs)) (by simp)
 simp only at k1 k2 k3
 go_wp2_with fail
 refine (zFy bo bs bn offn cn ns xs _ hmn (zA HID) (zA HC) (zA HOK) ((zA HWN).below belA hBn) (zA HZN) (Nat.lt_of_lt_of_le hBn belA.size)).mono ?_
 rintro e w3 ⟨⟨v,rfl,hv⟩,hb3⟩
 have HV:=zB hv
 have bel3:=belA.trans (hb3.mono belA.size)
 have z3:w1.heap.size+1<=w3.heap.size:=by have:=hb3.size; simp at this; omega
 have HC3:=zB ((zA HCS).below hb3)
 have HI3:=zB ((zA HID).kept hb3)
 clear hv hb3 HCS HID k1 k2 k3 belA
 cases v
 ·go_wp2_with fail
  refine bodyPost_ret (v:=.tuple #[.nilIface,.bool false]) ?res rfl ⟨Or.inl ⟨.nilIface,rfl,zB (fun h=>Bool.false_ne_true ((zA HV).2 ⟨h.1.2.1,h.1.2.2⟩)),Or.inl rfl⟩,bel3⟩
  case res=>simp [results,Tryz.results31,go_sem]
 have HO:=zB ((zA HV).1 rfl).1
 have HK:=zB ((zA HV).1 rfl).2
 clear HV
 have hlx:=(zA HO).2.1
 have hlx1:=(zA HO).1
 have HG0:=zB (show zBt (w3.alloc (.cells #[.int .i64 0] 110)) w3.heap.size 0 from ⟨by simp [go_sem],by simp [go_sem]⟩)
 have HC4:=zB ((zA HC3).below (zC w3 (.cells #[.int .i64 0] 110)))
 have HI4:=zB ((zA HI3).kept (zC w3 (.cells #[.int .i64 0] 110)))
 have bel4:Below w.heap.size w (w3.alloc (.cells #[.int .i64 0] 110)):=bel3.alloc bel3.size _
 have k1:=(zA HC4) (w.heap.size+1,0,.slice (some ⟨bn,offn,none⟩) xs.length cn) (by simp)
 have k2:=(zA HC4) (w1.heap.size,0,.map (some bo)) (by simp)
 have k3:=(zA HC4) (w1.heap.size,1,.map (some bs)) (by simp)
 simp only at k1 k2 k3
 clear HC3 HI3 HC4
 go_wp2_with fail
 refine (zLc bo bs bn offn cn ns xs _ (zA HI4) (zA HC) (zA HOK) ((zA HWN).below bel4 hBn) (zA HZN) (Nat.lt_of_lt_of_le hBn bel4.size) (zA HO) (zA HK)).mono ?_
 rintro e w5 ⟨rfl,hb5⟩
 have HG5:=zB ((zA HG0).below hb5)
 have bel5:=bel4.trans (hb5.mono bel4.size)
 have HFIT:=zB (zGl ns xs (zA HO).2.2.2 (zA HK) (zA HZ) xs.length (xs.length-1) 0 (by omega) (by omega) (zA HO).2.2.1 w3.heap.size 0 0 w5 (zA HG5) (by omega))
 obtain ⟨T,u,hTu⟩:=zBW ns xs (xs.length-1)
 obtain ⟨T2,u2,hTu2⟩:=zCR ns xs xs.length (xs.length-1) 0 (by omega) (zA HO).2.2.1 0
 rw [hTu,hTu2] at HFIT
 have HT2:=zB hTu2
 have hln:=(zBV ns xs xs.length (xs.length-1) 0 (by omega) (zA HO).2.2.1 0 0).2
 rw [hTu]
 clear hb5 HG0 HI4 k1 k2 k3 hTu hTu2 bel4
 go_wp2_with fail
 refine (zA HFIT).mono ?_
 rintro e w6 ⟨rfl,hg6,hk6⟩
 have bel6:Below w.heap.size w w6:=bel5.trans ((zA hk6).below (by exact bel5.size) (by omega))
 have cg:=(zA hg6).1
 obtain ⟨q,hq⟩:∃ q,q=(gS ns xs (xs.length-1) 0 0).length:=⟨_,rfl⟩
 rw [<- hq] at cg hln
 rw [Nat.zero_add] at cg
 have HQ:=zB hq
 clear hg6 hk6 HFIT HG5 hq
 by_cases hq2:q<=20000
 ·have hqI:(q:Int)<=20000:=by omega
  go_wp2_with fail
  go_quiet (fail)
  go_wp2
  refine bodyPost_ret (v:=.tuple #[.iface T2 u2,.bool true]) ?res rfl ⟨Or.inr ⟨by rw [zA HT2],zB ⟨⟨zA HC,zA HO,zA HK⟩,by rw [<- zA HQ]; exact hq2⟩⟩,zDZ bel6 rfl rfl rfl rfl⟩
  case res=>simp [results,Tryz.results31,go_sem,hqI]
 ·have hqI:¬ (q:Int)<=20000:=by omega
  go_wp2_with fail
  go_quiet (fail)
  go_wp2
  refine bodyPost_ret (v:=.tuple #[.iface T2 u2,.bool false]) ?res rfl ⟨Or.inl ⟨_,rfl,zB (fun h=>hq2 (by rw [zA HQ]; exact h.2)),Or.inr ⟨_,_,rfl⟩⟩,zDZ bel6 rfl rfl rfl rfl⟩
  case res=>simp [results,Tryz.results31,go_sem,hqI]
end Go.Proofs.YtfboipappaonhaaGreat
namespace Go.Proofs.YtfboipappaonhaaGreat
set_option maxHeartbeats 16000000
set_option maxRecDepth 100000
open Go.RowKit Go.Shelf
def zGF:Go.Shelf.Ren:=⟨fun | 156=>33 | 165=>69 | 166=>70 | 169=>71 | 240=>118 | 241=>119 | 276=>155 | 277=>156 | n=>n,fun | 31=>59 | 9=>9 | 3=>3 | 4=>4 | 0=>0 | 20=>20 | 72=>137 | 76=>141 | 70=>135 | 37=>22 | 75=>140 | 127=>195 | 164=>218 | 5=>5 | 80=>143 | n=>n,fun | n=>n⟩
theorem zPr:Go.Proofs.Lays.n156 Tryz.prog zGF:={
 mixed:=by kernel_rfl
 f156:=Tryz.func33.trans (congrArg some (by kernel_rfl))
 f165:=Tryz.func69.trans (congrArg some (by kernel_rfl))
 f166:=Tryz.func70.trans (congrArg some (by kernel_rfl))
 f169:=Tryz.func71.trans (congrArg some (by kernel_rfl))
 f240:=Tryz.func118.trans (congrArg some (by kernel_rfl))
 f241:=Tryz.func119.trans (congrArg some (by kernel_rfl))
 f276:=Tryz.func155.trans (congrArg some (by kernel_rfl))
 f277:=Tryz.func156.trans (congrArg some (by kernel_rfl))
 t0:=Tryz.underlying0
 a0:=Tryz.isAgg0
 z0:=Tryz.sizeOf0
 v0:=Tryz.zeroValue0
 t3:=Tryz.underlying3
 a3:=Tryz.isAgg3
 z3:=Tryz.sizeOf3
 v3:=Tryz.zeroValue3
 t4:=Tryz.underlying4
 a4:=Tryz.isAgg4
 z4:=Tryz.sizeOf4
 v4:=Tryz.zeroValue4
 t9:=Tryz.underlying9
 a9:=Tryz.isAgg9
 z9:=Tryz.sizeOf9
 v9:=Tryz.zeroValue9
 t20:=Tryz.underlying20
 a20:=Tryz.isAgg20
 z20:=Tryz.sizeOf20
 v20:=Tryz.zeroValue20
 t31:=Tryz.underlying59
 a31:=Tryz.isAgg59
 z31:=Tryz.sizeOf59
 v31:=Tryz.zeroValue59
 t37:=Tryz.underlying22
 a37:=Tryz.isAgg22
 z37:=Tryz.sizeOf22
 v37:=Tryz.zeroValue22
 t70:=Tryz.underlying135
 a70:=Tryz.isAgg135
 z70:=Tryz.sizeOf135
 v70:=Tryz.zeroValue135
 t72:=Tryz.underlying137
 a72:=Tryz.isAgg137
 z72:=Tryz.sizeOf137
 v72:=Tryz.zeroValue137
 t75:=Tryz.underlying140
 a75:=Tryz.isAgg140
 z75:=Tryz.sizeOf140
 v75:=Tryz.zeroValue140
 t76:=Tryz.underlying141
 a76:=Tryz.isAgg141
 z76:=Tryz.sizeOf141
 v76:=Tryz.zeroValue141
 t127:=Tryz.underlying195
 a127:=Tryz.isAgg195
 z127:=Tryz.sizeOf195
 v127:=Tryz.zeroValue195
 t164:=Tryz.underlying218
 a164:=Tryz.isAgg218
 z164:=Tryz.sizeOf218
 v164:=Tryz.zeroValue218 }
theorem zFY:Builder.Extra Tryz.prog zGF:={
 sizeBuilder:=by kernel_rfl
 liesBuilder:=by kernel_rfl
 t5:=Tryz.underlying5
 a5:=Tryz.isAgg5
 z5:=Tryz.sizeOf5
 v5:=Tryz.zeroValue5
 infoByte:=by kernel_rfl
 cellsByte:=by kernel_rfl
 sizeByte:=by kernel_rfl
 neB5:=by decide }
theorem zOj (bk o c:Nat) (xs:List ByteArray) (sep:ByteArray) (w:World) (hcells:∀ (j:Nat) x,xs[j]?=some x->w.cell? ⟨bk,o+j,none⟩=some (.string x)) (hbk:bk<w.heap.size) (hN:xs.length<=140737488355328) (hcap:xs.length<=c) (hlen:(Lib.join (xs.map (·.data.toList)) sep.data.toList).length<=140737488355328) :
  Calls Tryz.prog 33 #[.slice (some ⟨bk,o,none⟩) xs.length c,.string sep] w fun e w'=>e = .returned (.string ⟨(Lib.join (xs.map (·.data.toList)) sep.data.toList).toArray⟩)/\Below w.heap.size w w':=Any.strings_Join zPr zFY bk o c xs sep w hcells hbk hN hcap hlen
end Go.Proofs.YtfboipappaonhaaGreat
namespace Go.Proofs.YtfboipappaonhaaGreat
set_option linter.unusedSimpArgs false
set_option linter.unusedVariables false
set_option maxHeartbeats 16000000
set_option maxRecDepth 100000
open Go.RowKit Go.Maps
theorem zIi (ps:List ByteArray):Lib.join (ps.map (·.data.toList)) (⟨#[]⟩:ByteArray).data.toList=zGI ps:=by
 unfold Lib.join zGI
 induction ps with
 | nil=>rfl
 | cons a r ih=>
  cases r with
  | nil=>simp [List.intercalate]
  | cons b r=>simp [List.intercalate,List.intersperse] at ih ⊢; rw [ih]
theorem zMu {w:World} {base n size g cap:Nat} {e:TypeId} {xs:List Value} (h:w.ownsRow base e size (.slice (some ⟨g,0,none⟩) n cap) n xs):n<=cap/\cap<=maxLen:=by
 obtain ⟨_,h | ⟨g',cap',cur,hv',_,_,h1,h2,_⟩⟩:=h
 ·simp at h
 ·simp only [Value.slice.injEq,Option.some.injEq] at hv'
  obtain ⟨_,_,rfl⟩:=hv'
  exact ⟨h1,h2⟩
theorem zH6 (b off cap bn offn cn:Nat) (ns:List OpR) (xs:List zD) (w:World) (hm:ns.length<=1048576) (hmn:xs.length<=1048576) (hw:Ops w b off ns) (hsz:ZV ns) (hB:b<w.heap.size) (hwn:Zu w bn offn xs) (hsn:zAX xs) (hBn:bn<w.heap.size) :
  Calls Tryz.prog 10 #[.agg #[.slice (some ⟨b,off,none⟩) ns.length cap],.agg #[.slice (some ⟨bn,offn,none⟩) xs.length cn]] w fun e w'=>(∃ (s:ByteArray) (v:Bool),e = .returned (.tuple #[.string s,.bool v])/\Hid (zCb ns xs s v))/\Below w.heap.size w w':=by
 have HW:=zB hw
 have HWN:=zB hwn
 have HZ:=zB hsz
 have HZN:=zB hsn
 have HB0:=zB (show ∀ o1 o2:Obj,Below w.heap.size w ((w.alloc o1).alloc o2) from fun o1 o2=>(zC w o1).alloc (by simp) o2)
 clear hw hwn hsz hsn
 go_enter Tryz.func10,Tryz.ntmps10
 go_wp2_with fail
 refine (zKo b off cap bn offn cn ns xs _ hm hmn ((zA HW).below ((zA HB0) _ _) hB) (zA HZ) (by simp; omega) ((zA HWN).below ((zA HB0) _ _) hBn) (zA HZN) (by simp; omega)).mono ?_
 rintro e w1 ⟨hp,hb1⟩
 have bel1:Below w.heap.size w w1:=((zA HB0) _ _).trans (hb1.mono (by simp; omega))
 clear hb1 HB0
 rcases hp with ⟨v,rfl,hn,hv⟩ | ⟨rfl,hy⟩
 ·have HN:=zB (zA hn)
  clear hn
  rcases hv with rfl | ⟨T,u,rfl⟩
  ·go_wp2_with fail
   go_ret2
   exact ⟨⟨_,_,rfl,zB (Or.inr ⟨zA HN,rfl,rfl⟩)⟩,bel1⟩
  ·go_wp2_with fail
   go_ret2
   exact ⟨⟨_,_,rfl,zB (Or.inr ⟨zA HN,rfl,rfl⟩)⟩,bel1⟩
 ·obtain ⟨G,hG,hgood,htx,hz20,hgs,hfs⟩:=zDc (zA hy)
  rw [hfs]
  obtain ⟨⟨T,u,hTu⟩,hcall⟩:=zPk ns G hgood.well
  have hwl:(yT G).length<=40000:=by
   have:=zHG G
   simp [yT]
   omega
  have h0:=zNQ hgood.sh
  have hpt:=zF4 (yT G) h0 (yT G).length (Nat.le_refl _)
  rw [List.take_length] at hpt
  obtain ⟨st,HST⟩:∃ st,Hid (st=(yT G).foldl put1 ([],0)):=⟨_,zB rfl⟩
  have hfl:=zDG (yT G) ([],0)
  rw [<- zA HST] at hpt hfl
  have HTX:=zB (show zGI st.1=txT G from hpt.1)
  have hlen:=zPD htx 20000 hz20
  have HFL:=zB (show (Lib.join (st.1.map (·.data.toList)) (⟨#[]⟩:ByteArray).data.toList).length<=140737488355328 by rw [zIi,zA HTX]; omega)
  have hp0:zDj (w1.alloc (.cells #[.slice none 0 0,.int .i64 0] 61)) w1.heap.size (.slice none 0 0) [] 0:=
   ⟨by simp [go_sem],by simp [go_sem],fun o=>by simp [go_sem],World.ownsRow_nil _ _ _ _⟩
  have HCALL:=zB (hcall w1.heap.size (.slice none 0 0) [] 0 _ st hp0 (by simp; omega) (zA HST))
  simp only [List.length_nil,Nat.zero_add] at hfl
  have hfl2:st.1.length<=80000:=by omega
  have HG:=zB hG
  have hne:st.1≠[]:=fun e=>by
   have:=zNP hgood.sh
   have h1:(yT G).length≠0:=by omega
   have e2:1<=st.1.length:=by
    rw [zA HST]
    cases hh:yT G with
    | nil=>rw [hh] at h1; exact absurd rfl h1
    | cons x r=>
     have mono:∀ (W:List zu) (q:List ByteArray×Int),q.1.length<=(W.foldl put1 q).1.length:=fun W=>by
      induction W with
      | nil=>intro q; exact Nat.le_refl _
      | cons y W ih=>
       intro q
       have:=ih (put1 q y)
       simp only [List.foldl_cons]
       refine Nat.le_trans ?_ this
       simp [put1]
     have:=mono r (put1 ([],0) x)
     simp only [List.foldl_cons]
     refine Nat.le_trans ?_ this
     simp [put1]
   rw [e] at e2
   simp at e2
  have HNE:=zB hne
  rw [hTu] at HCALL ⊢
  clear hG hgood htx hgs hfs hTu hcall hwl h0 hpt hfl hlen hp0 hz20 hne
  go_wp2_with fail
  refine (zA HCALL).mono ?_
  rintro x w2 ⟨rfl,v2,p1,p2,p3⟩
  have bel2:Below w.heap.size w w2:=⟨(zA p2).os.trans bel1.os,(zA p2).tape.trans bel1.tape,(zA p2).output.trans bel1.output,by have:=(zA p2).size; have:=bel1.size; simp at *; omega,fun i hi=>((zA p2).block i (by have:=bel1.size; simp; omega) (by have:=bel1.size; omega) (by simp [Value.ownBlock])).trans (((zC w1 _).block i (by have:=bel1.size; omega)).trans (bel1.block i hi))⟩
  have c0:=(zA p1).c0
  have hrow:=(zA p1).row
  obtain ⟨g2,k2,rfl⟩:∃ g k,v2 = .slice (some ⟨g,0,none⟩) st.1.length k:=by
   obtain ⟨_,⟨rfl,h0⟩ | ⟨g,cap,cur,h,_⟩⟩:=hrow
   ·exact absurd (List.eq_nil_of_length_eq_zero h0) (zA HNE)
   ·exact ⟨_,_,h⟩
  have HCE:=zB hrow.cells
  have hgl:=(hrow.lt g2 rfl).2
  have hcp:=(zMu hrow).1
  clear p2 p3 hrow HCALL
  go_wp2_with fail
  refine (zOj g2 0 k2 st.1 ⟨#[]⟩ _ (zA HCE) hgl (by omega) hcp (zA HFL)).mono ?_
  rintro x w3 ⟨rfl,hb3⟩
  rw [zIi,zA HTX]
  have bel3:=bel2.trans (hb3.mono bel2.size)
  clear c0 hb3
  go_wp2_with fail
  go_ret2
  exact ⟨⟨_,_,rfl,zB (Or.inl ⟨zA hy,rfl,by rw [<- zA HG]⟩)⟩,bel3⟩
end Go.Proofs.YtfboipappaonhaaGreat
namespace Go.Proofs.YtfboipappaonhaaGreat
set_option linter.unusedSimpArgs false
set_option linter.unusedVariables false
set_option maxHeartbeats 16000000
set_option maxRecDepth 100000
open Go.RowKit
theorem zD8 (b off cap:Nat) (xs:List OpR) (s:ByteArray) (w:World) (hmx:xs.length<=1048576) (hw:Ops w b off xs) (hsz:ZV xs) (hB:b<w.heap.size) (hs:s.size<=1048576) :
  Calls Tryz.prog 26 #[.agg #[.slice (some ⟨b,off,none⟩) xs.length cap],.string s] w fun e w'=>(∃ (t:ByteArray) (c p:Int),e = .returned (.tuple #[.string t,.int .i64 c,.int .i64 p])/\Hid (zCL xs s t c p))/\Below w.heap.size w w':=by
 have HW:=zB hw
 have HS:=zB hsz
 have hb0:=zC w (.cells #[.slice (some ⟨b,off,none⟩) xs.length cap] 25)
 have HX:=zEV b off cap xs s _ hmx (hw.below hb0 hB) hsz (by have:=hb0.size; omega) hs
 clear hw hsz
 go_enter Tryz.func26,Tryz.ntmps26
 go_wp2_with fail
 refine HX.mono ?_
 clear HX
 rintro e w1 ⟨⟨a,cc,us,c,p,rfl,ho,hp⟩,hb1⟩
 have bel1:Below w.heap.size w w1:=hb0.trans (hb1.mono hb0.size)
 have t1:w1.cell? ⟨w.heap.size,0,none⟩=some (.slice (some ⟨b,off,none⟩) xs.length cap):=(hb1.cell (p:=⟨w.heap.size,0,none⟩) (by simp)).trans (by simp [go_sem])
 have z1:w.heap.size+1<=w1.heap.size:=by have:=hb1.size; simp at this; omega
 clear hb1 hb0
 have hb2:=zC w1 (.cells #[.slice a us.length cc] 28)
 have bel2:=bel1.trans (hb2.mono bel1.size)
 by_cases hc:c=0
 case neg=>
  have hc':(c != 0)=true:=by simpa using hc
  have HN:=zB (show zCL xs s ⟨#[]⟩ c p from ⟨us,c,p,zA hp,Or.inl ⟨hc,rfl,rfl,rfl⟩⟩)
  clear hc ho
  go_wp2_with fail
  refine bodyPost_ret (v:=.tuple #[.string ⟨#[]⟩,.int .i64 c,.int .i64 p]) (by simp [results,Tryz.results26,go_sem]) rfl ⟨⟨_,_,_,rfl,HN⟩,bel2⟩
 subst hc
 obtain ⟨hl1,hl2,hsn⟩:=zHU (zA hp)
 obtain ⟨g,rfl,hfl⟩:∃ g,a=some ⟨g,0,none⟩/\zv w1 g us us.length:=by
  rcases zA ho with ⟨h0,_⟩ | ⟨g,e,_,hf⟩
  ·omega
  ·exact ⟨g,e,hf⟩
 have hg:=hfl.1
 have t2:=(hb2.cell (p:=⟨w.heap.size,0,none⟩) (by simp only; omega)).trans t1
 have HX:=zH6 b off cap g 0 cc xs us _ hmx (by omega) ((zA HW).below bel2 hB) (zA HS) (Nat.lt_of_lt_of_le hB bel2.size) (hfl.below hb2 hg).ops hsn (by have:=hb2.size; omega)
 clear ho hfl hsn t1 hl1 hl2 hg
 go_wp2_with fail
 refine HX.mono ?_
 clear HX
 rintro e w3 ⟨⟨t,v,rfl,ht⟩,hb3⟩
 have bel3:=bel2.trans (hb3.mono bel2.size)
 have HN:=zB (show zCL xs s t 0 0 from ⟨us,0,p,zA hp,Or.inr ⟨rfl,⟨v,zA ht⟩,rfl,rfl⟩⟩)
 clear hb3 ht hb2
 go_wp2_with fail
 refine bodyPost_ret (v:=.tuple #[.string t,.int .i64 0,.int .i64 0]) (by simp [results,Tryz.results26,go_sem]) rfl ⟨⟨_,_,_,rfl,HN⟩,bel3⟩
theorem Zv.some' {w:World} {n:Nat} {a:Option Addr} {us:List zD} (h:Zv w n a us) (h1:1<=us.length):∃ g,a=some ⟨g,0,none⟩/\n<=g/\zv w g us us.length:=by
 rcases h with ⟨h,_⟩ | h
 ·omega
 ·exact h
theorem zMv (a:Option Addr) (cap:Nat) (l:List UInt8) (w:World) (hm:l.length<=maxLen) (hcap:l.length<=cap) (h:zIk w a l) :
  Calls Tryz.prog 6 #[.slice a l.length cap] w fun e w'=>e = .returned (.bool true)/\Below w.heap.size w w':=by
 have HA:=zB h
 clear h
 by_cases hl:l.length<=1048576
 case neg=>
  have hlI:(1048576:Int)<(l.length:Int):=by omega
  unfold maxLen at hm
  go_enter Tryz.func6,Tryz.ntmps6
  go_wp2_with fail
  go_ret
  exact ⟨rfl,Below.refl _ _⟩
 have hlI:¬ (1048576:Int)<(l.length:Int):=by omega
 go_enter Tryz.func6,Tryz.ntmps6
 go_wp2_with fail
 (with_reducible refine (zD2 a cap l _ hl hcap (zA HA)).mono ?_)
 rintro e w1 ⟨⟨gt,ct,ns,s,rfl,hgt,hF1,hD1,hs⟩,hb1⟩
 obtain ⟨hnl,hns⟩:=(zA hD1).sized
 have HNS:=zB hns
 have HB1:=zB (zC w1 (.cells #[.slice (some ⟨gt,0,none⟩) ns.length ct] 25))
 have HF1:=zB ((zA hF1).below (zA HB1) (zA hF1).1)
 have bel1:=zB (hb1.trans ((zA HB1).mono hb1.size))
 clear hb1 hns hF1 HB1
 go_wp2_with fail
 (with_reducible refine (zHm gt 0 ct ns s _ hnl (zA HF1).ops (zA HNS) (zA HF1).lt1 hs).mono ?_)
 rintro e w2 ⟨⟨t,c,p,rfl,hP2⟩,hb2⟩
 have HF2:=zB ((zA HF1).below hb2 (zA HF1).1)
 have u2:w2.cell? ⟨w1.heap.size,0,none⟩=some (.slice (some ⟨gt,0,none⟩) ns.length ct):=(hb2.cell (p:=⟨w1.heap.size,0,none⟩) (by simp)).trans (by simp [go_sem])
 have bel2:=zB ((zA bel1).trans (hb2.mono (zA bel1).size))
 clear hb2 HF1 bel1
 go_wp2_with fail
 (with_reducible refine (zD2 a cap l _ hl hcap ((zA HA).step ((zA bel2)))).mono ?_)
 rintro e w3 ⟨⟨gt',ct',ns',s',rfl,hgt',hF3,hD3,hs'⟩,hb3⟩
 obtain rfl:=(zA hD3).one (zA hD1)
 have HB3:=zB (zC w3 (.cells #[.slice (some ⟨gt',0,none⟩) ns'.length ct'] 25))
 have HG3:=zB ((zA hF3).below (zA HB3) (zA hF3).1)
 have HF3:=zB (((zA HF2).below hb3 (zA HF2).1).below (zA HB3) (by have:=(zA HF2).1; have:=hb3.size; omega))
 have l2:w1.heap.size<w2.heap.size:=block_lt_of_cell u2
 have u3:=((zA HB3).cell (p:=⟨w1.heap.size,0,none⟩) (by show w1.heap.size<w3.heap.size; have:=hb3.size; omega)).trans ((hb3.cell (p:=⟨w1.heap.size,0,none⟩) l2).trans u2)
 have bel3:=zB (((zA bel2).trans (hb3.mono (zA bel2).size)).trans ((zA HB3).mono (by have:=hb3.size; have:=(zA bel2).size; omega)))
 clear hb3 hF3 hD3 hD1 HB3 u2 HF2 bel2 l2
 go_wp2_with fail
 (with_reducible refine (zD8 gt' 0 ct' ns' s _ hnl (zA HG3).ops (zA HNS) (zA HG3).lt1 hs).mono ?_)
 rintro e w4 ⟨⟨f,c',p',rfl,hP4⟩,hb4⟩
 obtain ⟨rfl,rfl,rfl⟩:=(zA hP4).one (zA hP2)
 have HF4:=zB ((zA HF3).below hb4 (zA HF3).1)
 have HG4:=zB ((zA HG3).below hb4 (zA HG3).1)
 have u4:=(hb4.cell (p:=⟨w1.heap.size,0,none⟩) (block_lt_of_cell u3)).trans u3
 have t4:w4.cell? ⟨w3.heap.size,0,none⟩=some (.slice (some ⟨gt',0,none⟩) ns'.length ct'):=(hb4.cell (p:=⟨w3.heap.size,0,none⟩) (by simp)).trans (by simp [go_sem])
 have bel4:=zB ((zA bel3).trans (hb4.mono (zA bel3).size))
 clear hb4 hP4 HF3 HG3 u3 bel3
 by_cases hc:c'=0
 case neg=>
  have hf0:f=⟨#[]⟩:=by
   obtain ⟨_,_,_,_,h⟩:=zA hP2
   rcases h with ⟨_,h,_⟩ | ⟨_,_,h,_⟩
   ·exact h
   ·exact absurd h hc
  subst hf0
  have hcb:(c'==0)=false:=beq_eq_false_iff_ne.2 hc
  clear hP2
  go_wp2_with fail
  go_ret
  exact ⟨by simp,zA bel4⟩
 subst hc
 obtain ⟨us,p0,hPS⟩:∃ us p0,Hid (zAQ ns' s us 0 p0):=by
  obtain ⟨us,c0,p0,hp,h⟩:=zA hP2
  rcases h with ⟨h,_,e,_⟩ | ⟨rfl,_⟩
  ·exact absurd e.symm h
  ·exact ⟨us,p0,zB hp⟩
 obtain ⟨T,hT0⟩:=zQw (zA hPS) (zA hP2)
 have HT:=zB hT0
 have hpos:=hT0.pos
 have hne:¬ f=⟨#[]⟩:=fun e=>by rw [e] at hpos; exact absurd hpos (by decide)
 have hnl':¬ f.toList=[]:=fun e=>hne (zAK (by rw [e,ByteArray.toList_eq]))
 clear hT0 hP2
 by_cases hf:f.size<=20000
 case neg=>
  have hfI:(20000:Int)<(f.size:Int):=by omega
  go_wp2_with fail
  go_ret
  exact ⟨by simp [hne,hnl'],zA bel4⟩
 have hfI:¬ (20000:Int)<(f.size:Int):=by omega
 go_wp2_with fail
 (with_reducible refine (zEW gt 0 ct ns' s _ hnl (zA HF4).ops (zA HNS) (zA HF4).lt1 hs).mono ?_)
 rintro e w5 ⟨⟨a5,c5,us5,cc5,p5,rfl,hO5,hP5⟩,hb5⟩
 obtain ⟨rfl,rfl,rfl⟩:=(zA hP5).one (zA hPS)
 have hord:=(zA HT).ord
 have hul1:=hord.1
 have hul:=hord.2.1
 have HUS:=zB hord.sizedN
 obtain ⟨g5,rfl,hg5,hF5⟩:=Zv.some' (zA hO5) hul1
 have HB5:=zB (zC w5 (.cells #[.slice (some ⟨g5,0,none⟩) us5.length c5] 28))
 have HO5:=zB (hF5.below (zA HB5) hF5.1)
 have HG5:=zB (((zA HG4).below hb5 (zA HG4).1).below (zA HB5) (by have:=(zA HG4).1; have:=hb5.size; omega))
 have t5:=(hb5.cell (p:=⟨w3.heap.size,0,none⟩) (block_lt_of_cell t4)).trans t4
 have l5:w3.heap.size<w5.heap.size:=block_lt_of_cell t5
 have n5:¬ w3.heap.size=w5.heap.size:=by omega
 have bel5:=zB (((zA bel4).trans (hb5.mono (zA bel4).size)).trans ((zA HB5).mono (by have:=hb5.size; have:=(zA bel4).size; omega)))
 clear hord hO5 hP5 hPS hb5 hF5 HF4 HG4 u4 t4 bel4
 go_wp2_with fail
 (with_reducible refine (zEV gt' 0 ct' ns' f _ hnl (zA HG5).ops (zA HNS) (zA HG5).lt1 (by omega)).mono ?_)
 rintro e w6 ⟨⟨a6,c6,vs,cc6,p6,rfl,hO6,hP6⟩,hb6⟩
 obtain ⟨rfl,hvl1,hvl,hvz,hve⟩:=(zA HT).par vs cc6 p6 hf (zA hP6)
 have HVZ:=zB hvz
 have HVE:=zB hve
 obtain ⟨g6,rfl,hg6,hF6⟩:=Zv.some' (zA hO6) hvl1
 have HB6:=zB (zC w6 (.cells #[.slice (some ⟨g6,0,none⟩) vs.length c6] 28))
 have HV6:=zB (hF6.below (zA HB6) hF6.1)
 have HG6:=zB (((zA HG5).below hb6 (zA HG5).1).below (zA HB6) (by have:=(zA HG5).1; have:=hb6.size; omega))
 have HO6:=zB (((zA HO5).below hb6 (zA HO5).1).below (zA HB6) (by have:=(zA HO5).1; have:=hb6.size; omega))
 have t6:=(hb6.cell (p:=⟨w3.heap.size,0,none⟩) (by simp; omega)).trans (((zA HB5).cell (p:=⟨w3.heap.size,0,none⟩) l5).trans t5)
 have x6:w6.cell? ⟨w5.heap.size,0,none⟩=some (.slice (some ⟨g5,0,none⟩) us5.length c5):=(hb6.cell (p:=⟨w5.heap.size,0,none⟩) (by simp)).trans (by simp [go_sem])
 have l6:w3.heap.size<w6.heap.size:=block_lt_of_cell t6
 have l6':w5.heap.size<w6.heap.size:=block_lt_of_cell x6
 have n6:¬ w3.heap.size=w6.heap.size:=by omega
 have n6':¬ w5.heap.size=w6.heap.size:=by omega
 have bel6:=zB (((zA bel5).trans (hb6.mono (zA bel5).size)).trans ((zA HB6).mono (by have:=hb6.size; have:=(zA bel5).size; omega)))
 clear hb6 hO6 hP6 hF6 HG5 HO5 t5 bel5 HB5 hvz hve
 go_wp2_with fail
 (with_reducible refine (zD8 gt' 0 ct' ns' f _ hnl (zA HG6).ops (zA HNS) (zA HG6).lt1 (by omega)).mono ?_)
 rintro e w7 ⟨⟨f7,c7,p7,rfl,hP7⟩,hb7⟩
 obtain ⟨rfl,rfl⟩:=(zA HT).again f7 c7 p7 hf (zA hP7)
 have HV7:=zB ((zA HV6).below hb7 (zA HV6).1)
 have HO7:=zB ((zA HO6).below hb7 (zA HO6).1)
 have x7:=(hb7.cell (p:=⟨w5.heap.size,0,none⟩) (by simp; omega)).trans (((zA HB6).cell (p:=⟨w5.heap.size,0,none⟩) l6').trans x6)
 have y7:w7.cell? ⟨w6.heap.size,0,none⟩=some (.slice (some ⟨g6,0,none⟩) vs.length c6):=(hb7.cell (p:=⟨w6.heap.size,0,none⟩) (by simp)).trans (by simp [go_sem])
 have bel7:=zB ((zA bel6).trans (hb7.mono (zA bel6).size))
 clear hb7 hP7 HV6 HO6 HG6 t6 x6 bel6 HB6
 have HVd:=zB ((zA HV7).below (Below.refl w7.heap.size w7).drew (zA HV7).lt1)
 have HXa:=zB (zHW g6 0 c6 vs w7.drew (by omega) (zA HVd).ops (zA HVZ) (zA HVd).lt1)
 have lx7:w5.heap.size<w7.heap.size:=block_lt_of_cell x7
 have ly7:w6.heap.size<w7.heap.size:=block_lt_of_cell y7
 have zT:=(zA HT).z
 go_wp2_with fail
 go_region_held3 (fun W=>W.cell? ⟨w5.heap.size,0,none⟩=some (.slice (some ⟨g5,0,none⟩) us5.length c5)/\W.cell? ⟨w6.heap.size,0,none⟩=some (.slice (some ⟨g6,0,none⟩) vs.length c6)) (first | (go_keep; done) | exact ⟨x8,y8⟩ | exact ⟨x9,y9⟩ | exact ⟨xa,ya⟩)
  (first
   | (go_at_call 11; (with_reducible refine (zA HXa).mono ?_); rintro e w8 ⟨⟨a8,c8,bs8,v8,rfl,hO8,hE8⟩,hb8⟩; have hbe8:=(zA HVE) bs8 v8 (zA hE8); have hl8:bs8.length<=20000:=(by rw [hbe8,zi]; exact zT); have HBE:=zB hbe8; have HO8:=zB ((zA HO7).below (B:=w7.heap.size) ((Below.refl w7.heap.size w7).drew.trans hb8) (zA HO7).lt1); have x8:=(hb8.cell (p:=⟨w5.heap.size,0,none⟩) lx7).trans x7; have y8:=(hb8.cell (p:=⟨w6.heap.size,0,none⟩) ly7).trans y7; have z8:w7.heap.size<=w8.heap.size:=hb8.size; have bel8:=zB ((zA bel7).trans (((Below.refl w7.heap.size w7).drew.trans hb8).mono (zA bel7).size)); clear hb8 hbe8 hE8)
   | (go_at_call 11; have HXC:=zHW g5 0 c5 us5 w8 (by omega) (zA HO8).ops (zA HUS) (zA HO8).lt1; (with_reducible refine HXC.mono ?_); clear HXC; rintro e w9 ⟨⟨a9,c9,bs9,v9,rfl,hO9,hE9⟩,hb9⟩; have hbe9:=(zA HT).bare bs9 v9 (zA hE9); have hsame:bs9=bs8:=hbe9.trans (zA HBE).symm; subst hsame; have HA8:=zB (Zv.arg ((zA hO8).step hb9)); have HA9:=zB (Zv.arg (zA hO9)); have x9:=(hb9.cell (p:=⟨w5.heap.size,0,none⟩) (by show w5.heap.size<w8.heap.size; omega)).trans x8; have y9:=(hb9.cell (p:=⟨w6.heap.size,0,none⟩) (by show w6.heap.size<w8.heap.size; omega)).trans y8; have z9:=hb9.size; have bel9:=zB ((zA bel8).trans (hb9.mono (zA bel8).size)); clear hb9 hbe9 hE9 hO9 hO8)
   | (go_at_call 16; have HXC:=zHV a8 a9 c8 c9 bs9 bs9 w9 (by omega) (by omega) (zA HA8) (zA HA9); (with_reducible refine HXC.mono ?_); clear HXC; rintro e wa ⟨⟨v,rfl,hv⟩,hba⟩; have hvt:v=true:=hv.2 rfl; subst hvt; have xa:=(hba.cell (p:=⟨w5.heap.size,0,none⟩) (by show w5.heap.size<w9.heap.size; omega)).trans x9; have ya:=(hba.cell (p:=⟨w6.heap.size,0,none⟩) (by show w6.heap.size<w9.heap.size; omega)).trans y9; have bela:=zB ((zA bel9).trans (hba.mono (zA bel9).size)); clear hba hv))
 all_goals
  go_wp2_with fail
  go_ret
  exact ⟨rfl,zA bela⟩
end Go.Proofs.YtfboipappaonhaaGreat
