import Derived.Test.YtfboipappaonhaaGreatM13
import Derived.Test.YtfboipappaonhaaGreatM15
import Derived.Test.YtfboipappaonhaaGreatM33
import Derived.Test.YtfboipappaonhaaGreatM40
import Derived.Test.YtfboipappaonhaaGreatM42
import Derived.Test.YtfboipappaonhaaGreatM44
namespace Go.Proofs.YtfboipappaonhaaGreat
set_option linter.unusedSimpArgs false
set_option linter.unusedVariables false
set_option maxHeartbeats 16000000
set_option maxRecDepth 100000
open Go.RowKit Go.Maps
theorem zGf {k:Int}:(zBd k != 0) = decide (3 <= k /\ k <= 5):=by
 unfold zBd
 split
 ·rename_i h
  simp [h]
  omega
 ·rename_i h
  simp
  omega
theorem zHY (bo bs bn offn cn:Nat) (xs:List OpR) (ns:List zD) (w:World) (hmn:ns.length <= 1048576) (hi:Idx w bo bs xs xs.length) (hc:zO xs 0) (hok:zAD xs xs.length) (hwn:Zs w bn offn ns) (hsn:Zj ns) (hBn:bn < w.heap.size) :
  Calls Tryz.prog 87 #[.agg #[.map (some bo),.map (some bs)],.agg #[.slice (some ⟨bn,offn,none⟩) ns.length cn]] w fun e w'=>zB3 e (zAY xs ns) /\ Below w.heap.size w w':=by
 have HI:=zB hi
 have HC:=zB hc
 have HOK:=zB hok
 have HWN:=zB hwn
 have HZN:=zB hsn
 have HCS:=zB (show Cs [(w.heap.size,0,.map (some bo)),(w.heap.size,1,.map (some bs))] ((w.alloc (.cells #[.map (some bo),.map (some bs)] 69)).alloc (.cells #[.slice (some ⟨bn,offn,none⟩) ns.length cn] 28)) from fun p hp=>by
  simp only [List.mem_cons,List.not_mem_nil,or_false] at hp
  rcases hp with rfl | rfl
  ·simp [go_sem]
  ·simp [go_sem])
 have bel0:Below w.heap.size w ((w.alloc (.cells #[.map (some bo),.map (some bs)] 69)).alloc (.cells #[.slice (some ⟨bn,offn,none⟩) ns.length cn] 28)):=(zC _ _).alloc (by simp) _
 clear hi hc hok hwn hsn
 go_enter Tryz.func87,Tryz.ntmps87
 go_wp2_with fail
 go_loopw [12] (fun iv wr=>∃ k:Nat,k <= ns.length /\ iv = .int .i64 (k:Int) /\ Hid (∀ i,i < k -> zq (atN ns i) -> fnd xs (atN ns i).t ((atN ns i).k - 2) ≠ none) /\ Hid (Cs [(w.heap.size,0,.map (some bo)),(w.heap.size,1,.map (some bs))] wr) /\ Below w.heap.size w wr) (fun iv _=>ns.length - (intOf iv).toNat)
 case atStart=>exact ⟨0,Nat.zero_le _,rfl,zB (fun i hi=>absurd hi (Nat.not_lt_zero i)),HCS,bel0⟩
 case round=>
  clear HCS bel0
  obtain ⟨k,hk,rfl,hkn,hcs,hbel⟩:=hrel
  have c0:=(zA hcs) (w.heap.size,0,.map (some bo)) (by simp)
  have c1:=(zA hcs) (w.heap.size,1,.map (some bs)) (by simp)
  simp only at c0 c1
  by_cases hlt:k < ns.length
  ·have hltI:(k:Int) < (ns.length:Int):=by omega
   obtain ⟨a0,a1,a2,a3⟩:=((zA HWN) k hlt).below hbel hBn
   have HC1:=zB ((zA hcs).below (zC wr (.cells #[.int .i64 (atN ns k).k,.string (atN ns k).t,.int .i64 (atN ns k).a,.int .i64 (atN ns k).b] 81)))
   have d0:=(zA HC1) (w.heap.size,0,.map (some bo)) (by simp)
   have d1:=(zA HC1) (w.heap.size,1,.map (some bs)) (by simp)
   simp only at d0 d1
   have bel1:Below w.heap.size w (wr.alloc (.cells #[.int .i64 (atN ns k).k,.string (atN ns k).t,.int .i64 (atN ns k).a,.int .i64 (atN ns k).b] 81)):=hbel.alloc hbel.size _
   go_wp2_with fail
   refine (zBe bo bs xs (atN ns k) _ ((zA HI).kept bel1) (zA HC) (zA HOK) ((zA HZN) k hlt)).mono ?_
   rintro e w3 ⟨⟨p,v,rfl,hp⟩,hb3⟩
   have HP:=zB hp
   have HC3:=zB (((zA HC1).below hb3).below (zC w3 (.cells #[.string p.s,.int .i64 p.k,.int .i64 p.l,.int .i64 p.sd] 123)))
   have n0:w3.cell? ⟨wr.heap.size,0,none⟩ = some (.int .i64 (atN ns k).k):=(hb3.cell (p:=⟨wr.heap.size,0,none⟩) (by simp)).trans (by simp [go_sem])
   have z3:wr.heap.size < w3.heap.size:=by have:=hb3.size; simp at this; omega
   have n0':(w3.alloc (.cells #[.string p.s,.int .i64 p.k,.int .i64 p.l,.int .i64 p.sd] 123)).cell? ⟨wr.heap.size,0,none⟩ = some (.int .i64 (atN ns k).k):=((zC _ _).cell (p:=⟨wr.heap.size,0,none⟩) z3).trans n0
   have bel3:Below w.heap.size w (w3.alloc (.cells #[.string p.s,.int .i64 p.k,.int .i64 p.l,.int .i64 p.sd] 123)):=(bel1.trans (hb3.mono bel1.size)).alloc (bel1.trans (hb3.mono bel1.size)).size _
   clear hp hb3 c0 c1 d0 d1
   cases v
   ·by_cases ho:zq (atN ns k)
    ·have HF:=zB (show fnd xs (atN ns k).t ((atN ns k).k - 2) = none by
      rcases zA HP with ⟨j,_,_,h,_⟩ | ⟨h,_⟩
      ·cases h
      ·exact h ho)
     have HOP:=zB ho
     have hz:(zBd (atN ns k).k != 0) = true:=by rw [zGf]; exact decide_eq_true ho
     clear ho
     go_wp2_with (go_at_call 137; refine (zDM _ _).mono ?_; rintro e w' ⟨rfl,hx⟩; obtain rfl:=hx.symm)
     go_ret
     exact ⟨⟨_,rfl,zK (fun h=>h k hlt (zA HOP) (zA HF))⟩,bel3⟩
    ·have HOP:=zB ho
     have hz:(zBd (atN ns k).k != 0) = false:=by rw [zGf]; exact decide_eq_false ho
     clear ho
     go_wp2_with (go_at_call 137; refine (zDM _ _).mono ?_; rintro e w' ⟨rfl,hx⟩; obtain rfl:=hx.symm)
     refine ⟨⟨k + 1,by omega,by go_num,zB (fun i hi hop=>?_),HC3,bel3⟩,by simp [intOf]; omega⟩
     by_cases e:i = k
     ·subst e; exact absurd hop (zA HOP)
     ·exact (zA hkn) i (by omega) hop
   ·have HF:=zB (show fnd xs (atN ns k).t ((atN ns k).k - 2) ≠ none by
     rcases zA HP with ⟨j,_,h,_,_⟩ | ⟨_,h⟩
     ·rw [h]; simp
     ·cases h)
    go_wp2_with fail
    refine ⟨⟨k + 1,by omega,by go_num,zB (fun i hi hop=>?_),HC3,bel3⟩,by simp [intOf]; omega⟩
    by_cases e:i = k
    ·subst e; exact zA HF
    ·exact (zA hkn) i (by omega) hop
  ·have hkx:k = ns.length:=by omega
   go_wp2_with fail
   go_ret
   exact ⟨⟨_,rfl,ZQ (fun i hi hop=>(zA hkn) i (by omega) hop)⟩,hbel⟩
theorem zCD (bo bs bn offn cn:Nat) (xs:List OpR) (ns:List zD) (w:World) (hmn:ns.length <= 1048576) (hi:Idx w bo bs xs xs.length) (hc:zO xs 0) (hok:zAD xs xs.length) (hwn:Zs w bn offn ns) (hsn:Zj ns) (hBn:bn < w.heap.size) :
  Calls Tryz.prog 44 #[.agg #[.map (some bo),.map (some bs)],.agg #[.slice (some ⟨bn,offn,none⟩) ns.length cn]] w fun e w'=>zB3 e (zu ns /\ zAY xs ns) /\ Below w.heap.size w w':=by
 have HI:=zB hi
 have HC:=zB hc
 have HOK:=zB hok
 have HWN:=zB hwn
 have HZN:=zB hsn
 have bel0:Below w.heap.size w ((w.alloc (.cells #[.map (some bo),.map (some bs)] 69)).alloc (.cells #[.slice (some ⟨bn,offn,none⟩) ns.length cn] 28)):=(zC _ _).alloc (by simp) _
 clear hi hc hok hwn hsn
 go_enter Tryz.func44,Tryz.ntmps44
 go_wp2_with fail
 refine (zIN bn offn cn ns _ hmn ((zA HWN).below bel0 hBn) (zA HZN) (Nat.lt_of_lt_of_le hBn bel0.size)).mono ?_
 rintro e w2 ⟨⟨v,rfl,hv⟩,hb2⟩
 have HV:=zB hv
 have bel2:=bel0.trans (hb2.mono bel0.size)
 have k1:w2.cell? ⟨w.heap.size + 1,0,none⟩ = some (.slice (some ⟨bn,offn,none⟩) ns.length cn):=(hb2.cell (p:=⟨w.heap.size + 1,0,none⟩) (by simp)).trans (by simp [go_sem])
 have k2:w2.cell? ⟨w.heap.size,0,none⟩ = some (.map (some bo)):=(hb2.cell (p:=⟨w.heap.size,0,none⟩) (by simp; omega)).trans (by simp [go_sem])
 have k3:w2.cell? ⟨w.heap.size,1,none⟩ = some (.map (some bs)):=(hb2.cell (p:=⟨w.heap.size,1,none⟩) (by simp; omega)).trans (by simp [go_sem])
 clear hv hb2 bel0
 cases v
 ·go_wp2_with fail
  go_ret
  exact ⟨⟨_,rfl,zK (fun h=>Bool.false_ne_true ((zA HV).2 h.1))⟩,bel2⟩
 have HO:=zB ((zA HV).1 rfl)
 clear HV
 go_wp2_with fail
 refine (zHY bo bs bn offn cn xs ns _ hmn ((zA HI).kept bel2) (zA HC) (zA HOK) ((zA HWN).below bel2 hBn) (zA HZN) (Nat.lt_of_lt_of_le hBn bel2.size)).mono ?_
 rintro e w3 ⟨⟨v,rfl,hv⟩,hb3⟩
 have HV:=zB hv
 have bel3:=bel2.trans (hb3.mono bel2.size)
 clear hv hb3 bel2 k1 k2 k3
 cases v
 ·go_wp2_with fail
  go_ret
  exact ⟨⟨_,rfl,zK (fun h=>Bool.false_ne_true ((zA HV).2 h.2))⟩,bel3⟩
 ·go_wp2_with fail
  go_ret
  exact ⟨⟨_,rfl,ZQ ⟨zA HO,(zA HV).1 rfl⟩⟩,bel3⟩
def zMi (ns:List OpR) (xs:List zD) (x:Ending):Prop:=
 (∃ v:Value,x = .returned (.tuple #[v,.bool false]) /\ Hid (¬ ((zO ns 0 /\ zu xs /\ zAY ns xs) /\ (gS ns xs (xs.length - 1) 0 0).length <= 20000)) /\ (v = .nilIface \/ ∃ T u,v = .iface T u)) \/
 (x = .returned (.tuple #[fS ns xs (xs.length - 1) 0,.bool true]) /\ Hid ((zO ns 0 /\ zu xs /\ zAY ns xs) /\ (gS ns xs (xs.length - 1) 0 0).length <= 20000))
theorem zIO (b off cap bn offn cn:Nat) (ns:List OpR) (xs:List zD) (w:World) (hm:ns.length <= 1048576) (hmn:xs.length <= 1048576) (hw:Ops w b off ns) (hsz:Zr ns) (hB:b < w.heap.size) (hwn:Zs w bn offn xs) (hsn:Zj xs) (hBn:bn < w.heap.size) :
  Calls Tryz.prog 31 #[.agg #[.slice (some ⟨b,off,none⟩) ns.length cap],.agg #[.slice (some ⟨bn,offn,none⟩) xs.length cn]] w fun x w'=>zMi ns xs x /\ Below w.heap.size w w':=by
 have HW:=zB hw
 have HWN:=zB hwn
 have HZ:=zB hsz
 have HZN:=zB hsn
 clear hw hwn hsz hsn
 go_enter Tryz.func31,Tryz.ntmps31
 go_wp2_with fail
 refine (zBa b off cap ns _ hm ((zA HW).below ((zC _ _).alloc (by simp) _) hB) (zA HZ) (by simp; omega)).mono ?_
 rintro e w1 ⟨⟨x,y,c,rfl,hc,hix⟩,hb1⟩
 have HC:=zB hc
 have HIX:=zB hix
 have bel1:Below w.heap.size w w1:=((zC _ _).alloc (by simp) _).trans (hb1.mono (by simp; omega))
 have c1:w1.cell? ⟨w.heap.size + 1,0,none⟩ = some (.slice (some ⟨bn,offn,none⟩) xs.length cn):=(hb1.cell (p:=⟨w.heap.size + 1,0,none⟩) (by simp)).trans (by simp [go_sem])
 have z1:w.heap.size + 2 <= w1.heap.size:=by have:=hb1.size; simp at this; omega
 clear hc hix hb1
 by_cases hc0:c = 0
 case neg=>
  have hc0':(c != 0) = true:=by simpa using hc0
  have HN:=zB (show ¬ zO ns 0 from fun h=>hc0 (zAi (zA HC) h))
  clear hc0
  go_wp2_with fail
  refine bodyPost_ret (v:=.tuple #[.nilIface,.bool false]) ?res rfl ⟨Or.inl ⟨.nilIface,rfl,zB (fun h=>(zA HN) h.1.1),Or.inl rfl⟩,bel1.alloc bel1.size _⟩
  case res=>simp [results,Tryz.results31,go_sem]
 subst hc0
 obtain ⟨bo,bs,rfl,rfl,hidx⟩:=(zA HIX) rfl
 have HID:=zB (hidx.kept (zC w1 (.cells #[.map (some bo),.map (some bs)] 69)))
 have HOK:=zB (zBs (zA HC))
 have belA:Below w.heap.size w (w1.alloc (.cells #[.map (some bo),.map (some bs)] 69)):=bel1.alloc bel1.size _
 have HCS:=zB (show Cs [(w.heap.size + 1,0,.slice (some ⟨bn,offn,none⟩) xs.length cn),(w1.heap.size,0,.map (some bo)),(w1.heap.size,1,.map (some bs))] (w1.alloc (.cells #[.map (some bo),.map (some bs)] 69)) from fun p hp=>by
  simp only [List.mem_cons,List.not_mem_nil,or_false] at hp
  rcases hp with rfl | rfl | rfl
  ·exact ((zC _ _).cell (p:=⟨w.heap.size + 1,0,none⟩) (show w.heap.size + 1 < w1.heap.size by omega)).trans c1
  ·simp [go_sem]
  ·simp [go_sem])
 clear HIX hidx c1
 have k1:=(zA HCS) (w.heap.size + 1,0,.slice (some ⟨bn,offn,none⟩) xs.length cn) (by simp)
 have k2:=(zA HCS) (w1.heap.size,0,.map (some bo)) (by simp)
 have k3:=(zA HCS) (w1.heap.size,1,.map (some bs)) (by simp)
 simp only at k1 k2 k3
 go_wp2_with fail
 refine (zCD bo bs bn offn cn ns xs _ hmn (zA HID) (zA HC) (zA HOK) ((zA HWN).below belA hBn) (zA HZN) (Nat.lt_of_lt_of_le hBn belA.size)).mono ?_
 rintro e w3 ⟨⟨v,rfl,hv⟩,hb3⟩
 have HV:=zB hv
 have bel3:=belA.trans (hb3.mono belA.size)
 have z3:w1.heap.size + 1 <= w3.heap.size:=by have:=hb3.size; simp at this; omega
 have HC3:=zB ((zA HCS).below hb3)
 have HI3:=zB ((zA HID).kept hb3)
 clear hv hb3 HCS HID k1 k2 k3 belA
 cases v
 ·go_wp2_with fail
  refine bodyPost_ret (v:=.tuple #[.nilIface,.bool false]) ?res rfl ⟨Or.inl ⟨.nilIface,rfl,zB (fun h=>Bool.false_ne_true ((zA HV).2 ⟨h.1.2.1,h.1.2.2⟩)),Or.inl rfl⟩,bel3⟩
  case res=>simp [results,Tryz.results31,go_sem]
 have HO:=zB ((zA HV).1 rfl).1
 have HK:=zB ((zA HV).1 rfl).2
 clear HV
 have hlx:=(zA HO).2.1
 have hlx1:=(zA HO).1
 have HG0:=zB (show zA4 (w3.alloc (.cells #[.int .i64 0] 110)) w3.heap.size 0 from ⟨by simp [go_sem],by simp [go_sem]⟩)
 have HC4:=zB ((zA HC3).below (zC w3 (.cells #[.int .i64 0] 110)))
 have HI4:=zB ((zA HI3).kept (zC w3 (.cells #[.int .i64 0] 110)))
 have bel4:Below w.heap.size w (w3.alloc (.cells #[.int .i64 0] 110)):=bel3.alloc bel3.size _
 have k1:=(zA HC4) (w.heap.size + 1,0,.slice (some ⟨bn,offn,none⟩) xs.length cn) (by simp)
 have k2:=(zA HC4) (w1.heap.size,0,.map (some bo)) (by simp)
 have k3:=(zA HC4) (w1.heap.size,1,.map (some bs)) (by simp)
 simp only at k1 k2 k3
 clear HC3 HI3 HC4
 go_wp2_with fail
 refine (zI6 bo bs bn offn cn ns xs _ (zA HI4) (zA HC) (zA HOK) ((zA HWN).below bel4 hBn) (zA HZN) (Nat.lt_of_lt_of_le hBn bel4.size) (zA HO) (zA HK)).mono ?_
 rintro e w5 ⟨rfl,hb5⟩
 have HG5:=zB ((zA HG0).below hb5)
 have bel5:=bel4.trans (hb5.mono bel4.size)
 have HFIT:=zB (zEw ns xs (zA HO).2.2.2 (zA HK) (zA HZ) xs.length (xs.length - 1) 0 (by omega) (by omega) (zA HO).2.2.1 w3.heap.size 0 0 w5 (zA HG5) (by omega))
 obtain ⟨T,u,hTu⟩:=zAm ns xs (xs.length - 1)
 obtain ⟨T2,u2,hTu2⟩:=zBf ns xs xs.length (xs.length - 1) 0 (by omega) (zA HO).2.2.1 0
 rw [hTu,hTu2] at HFIT
 have HT2:=zB hTu2
 have hln:=(zAN ns xs xs.length (xs.length - 1) 0 (by omega) (zA HO).2.2.1 0 0).2
 rw [hTu]
 clear hb5 HG0 HI4 k1 k2 k3 hTu hTu2 bel4
 go_wp2_with fail
 refine (zA HFIT).mono ?_
 rintro e w6 ⟨rfl,hg6,hk6⟩
 have bel6:Below w.heap.size w w6:=bel5.trans ((zA hk6).below (by exact bel5.size) (by omega))
 have cg:=(zA hg6).1
 obtain ⟨q,hq⟩:∃ q,q = (gS ns xs (xs.length - 1) 0 0).length:=⟨_,rfl⟩
 rw [<- hq] at cg hln
 rw [Nat.zero_add] at cg
 have HQ:=zB hq
 clear hg6 hk6 HFIT HG5 hq
 by_cases hq2:q <= 20000
 ·have hqI:(q:Int) <= 20000:=by omega
  go_wp2_with fail
  go_quiet (fail)
  go_wp2
  refine bodyPost_ret (v:=.tuple #[.iface T2 u2,.bool true]) ?res rfl ⟨Or.inr ⟨by rw [zA HT2],zB ⟨⟨zA HC,zA HO,zA HK⟩,by rw [<- zA HQ]; exact hq2⟩⟩,zDE bel6 rfl rfl rfl rfl⟩
  case res=>simp [results,Tryz.results31,go_sem,hqI]
 ·have hqI:¬ (q:Int) <= 20000:=by omega
  go_wp2_with fail
  go_quiet (fail)
  go_wp2
  refine bodyPost_ret (v:=.tuple #[.iface T2 u2,.bool false]) ?res rfl ⟨Or.inl ⟨_,rfl,zB (fun h=>hq2 (by rw [zA HQ]; exact h.2)),Or.inr ⟨_,_,rfl⟩⟩,zDE bel6 rfl rfl rfl rfl⟩
  case res=>simp [results,Tryz.results31,go_sem,hqI]
theorem ZV.owned {w:World} {B:Nat} {u:Value} {us:List zD} (h:ZV w B u us) (h1:1 <= us.length):∃ g c,u = .slice (some ⟨g,0,none⟩) us.length c /\ B <= g /\ zM w g us us.length:=by
 have hh:=h
 unfold ZV at hh
 obtain ⟨_,⟨rfl,h0⟩ | ⟨g,cap,cur,rfl,_⟩⟩:=h
 ·omega
 ·have:=ZF hh
  exact ⟨g,cap,rfl,this.1,this.2⟩
theorem zF3 (b off cap bn offn cn:Nat) (ns:List OpR) (xs:List zD) (w:World) (hm:ns.length <= 1048576) (hmn:xs.length <= 1048576) (hw:Ops w b off ns) (hsz:Zr ns) (hB:b < w.heap.size) (hwn:Zs w bn offn xs) (hsn:Zj xs) (hBn:bn < w.heap.size) :
  Calls Tryz.prog 19 #[.agg #[.slice (some ⟨b,off,none⟩) ns.length cap],.agg #[.slice (some ⟨bn,offn,none⟩) xs.length cn]] w fun e w'=>(∃ (a:Option Addr) (c:Nat) (us:List zD) (v:Bool),e = .returned (.tuple #[.agg #[.slice a us.length c],.bool v]) /\ Hid (ZK w' w.heap.size a us) /\ Hid (zBE ns xs us v)) /\ Below w.heap.size w w':=by
 have HW:=zB hw
 have HWN:=zB hwn
 have HZ:=zB hsz
 have HZN:=zB hsn
 have bel0:∀ o1 o2 o3:Obj,Below w.heap.size w (((w.alloc o1).alloc o2).alloc o3):=fun o1 o2 o3=>((zC w o1).alloc (by simp) o2).alloc (by simp; omega) o3
 have HB0:=zB bel0
 clear hw hwn hsz hsn bel0
 go_enter Tryz.func19,Tryz.ntmps19
 go_wp2_with fail
 refine (zIO b off cap bn offn cn ns xs _ hm hmn ((zA HW).below ((zA HB0) _ _ _) hB) (zA HZ) (by simp; omega) ((zA HWN).below ((zA HB0) _ _ _) hBn) (zA HZN) (by simp; omega)).mono ?_
 rintro e w1 ⟨hp,hb1⟩
 have bel1:Below w.heap.size w w1:=((zA HB0) _ _ _).trans (hb1.mono (by simp; omega))
 have z1:w.heap.size + 3 <= w1.heap.size:=by have:=hb1.size; simp at this; omega
 have c1:w1.cell? ⟨w.heap.size + 1 + 1,0,none⟩ = some (.slice none 0 0):=(hb1.cell (p:=⟨w.heap.size + 1 + 1,0,none⟩) (by simp)).trans (by simp [go_sem])
 have d1:w1.frozen? ⟨w.heap.size + 1 + 1,0,none⟩ = false:=(hb1.frozen (p:=⟨w.heap.size + 1 + 1,0,none⟩) (by simp)).trans (by simp [go_sem])
 clear hb1 HB0
 rcases hp with ⟨v,rfl,hn,hv⟩ | ⟨rfl,hy⟩
 ·have HN:=zB (zA hn)
  have fin:∀ W:World,W = w1.setCell ⟨w.heap.size + 1 + 1,0,none⟩ (.slice none 0 0) -> Below w.heap.size w W:=fun W hW=>by rw [hW]; exact bel1.setCell (by simp; omega) _
  have HF:=zB fin
  clear hn fin
  rcases hv with rfl | ⟨T,u,rfl⟩
  ·go_wp2_with fail
   refine bodyPost_ret (v:=.tuple #[.agg #[.slice none 0 0],.bool false]) ?res rfl ⟨⟨none,0,[],false,rfl,zB (Or.inl ⟨rfl,rfl⟩),zB (Or.inr ⟨zA HN,rfl,rfl⟩)⟩,(zA HF) _ rfl⟩
   case res=>simp [results,Tryz.results19,go_sem,c1]
  ·go_wp2_with fail
   refine bodyPost_ret (v:=.tuple #[.agg #[.slice none 0 0],.bool false]) ?res rfl ⟨⟨none,0,[],false,rfl,zB (Or.inl ⟨rfl,rfl⟩),zB (Or.inr ⟨zA HN,rfl,rfl⟩)⟩,(zA HF) _ rfl⟩
   case res=>simp [results,Tryz.results19,go_sem,c1]
 ·have hO:=(zA hy).1.2.1
  have hK:=(zA hy).1.2.2
  obtain ⟨T,v,f,hfs,hme,hcf,hcall⟩:=zGv ns xs hO.2.2.2 hK xs.length (xs.length - 1) 0 (by have:=hO.1; omega) (by have:=hO.1; omega) hO.2.2.1 0
  obtain ⟨vs,hvs⟩:∃ vs,vs = gS ns xs (xs.length - 1) 0 0:=⟨_,rfl⟩
  have hl:=zAN ns xs xs.length (xs.length - 1) 0 (by have:=hO.1; omega) hO.2.2.1 0 0
  rw [<- hvs] at hl
  have h20:=hO.2.1
  have h1:=hO.1
  have HCALL:=zB (hcall w1.heap.size (.slice none 0 0) [] vs w1 (World.ownsRow_nil _ _ _ _) (Nat.le_refl _) (by rw [List.length_nil,<- hvs]; omega) (by rw [List.nil_append,List.length_nil]; exact hvs))
  have HVS:=zB hvs
  have hl1:=hl.1
  rw [hfs]
  clear hcall hfs hvs hl hO hK h20 h1
  go_wp2_with fail
  refine (zA HCALL).mono ?_
  rintro x w2 ⟨u',rfl,hr,hg,ho⟩
  obtain ⟨g2,c2,rfl,hg2,hfil⟩:=(zA hr).owned hl1
  have e1:w2.cell? ⟨w.heap.size + 1 + 1,0,none⟩ = some (.slice none 0 0):=(zh (zA hg) (b:=w.heap.size + 1 + 1) (by omega) (by simp [Value.ownBlock]) 0).trans c1
  have f1:w2.frozen? ⟨w.heap.size + 1 + 1,0,none⟩ = false:=(World.frozen?_of_block (w:=w1) ((zA hg).block (w.heap.size + 1 + 1) (by omega) (by simp [Value.ownBlock]))).trans d1
  have bel2:Below w.heap.size w w2:=bel1.trans ⟨(zA hg).os,(zA hg).tape,(zA hg).output,(zA hg).size,fun i hi=>(zA hg).block i (by have:=bel1.size; omega) (by simp [Value.ownBlock])⟩
  have HFIL:=zB hfil
  clear hr hg ho c1 d1 hme hcf hfil HCALL
  go_wp2_with fail
  refine bodyPost_ret (v:=.tuple #[.agg #[.slice (some ⟨g2,0,none⟩) vs.length c2],.bool true]) ?res rfl ⟨⟨some ⟨g2,0,none⟩,c2,vs,true,rfl,zB (Or.inr ⟨g2,rfl,by omega,?_⟩),zB (Or.inl ⟨zA hy,rfl,zA HVS⟩)⟩,?_⟩
  case res=>simp [results,Tryz.results19,go_sem,e1]
  ·exact (zA HFIL).setCell _ _ _ (by omega)
  ·exact bel2.setCell (by simp; omega) _
end Go.Proofs.YtfboipappaonhaaGreat
namespace Go.Proofs.YtfboipappaonhaaGreat
set_option linter.unusedSimpArgs false
set_option linter.unusedVariables false
set_option maxHeartbeats 16000000
set_option maxRecDepth 100000
open Go.RowKit
theorem zFq (b off cap bn offn cn:Nat) (xs:List OpR) (ns:List zD) (w:World) (hm:xs.length <= 1048576) (hmn:ns.length <= 1048576) (hw:Ops w b off xs) (hsz:Zr xs) (hB:b < w.heap.size) (hwn:Zs w bn offn ns) (hsn:Zj ns) (hBn:bn < w.heap.size) :
  Calls Tryz.prog 20 #[.agg #[.slice (some ⟨b,off,none⟩) xs.length cap],.agg #[.slice (some ⟨bn,offn,none⟩) ns.length cn]] w fun e w'=>(∃ c,e = .returned (.int .i64 c) /\ zAy xs ns c) /\ Below w.heap.size w w':=by
 have HW:=zB hw
 have HWN:=zB hwn
 have HZ:=zB hsz
 have HZN:=zB hsn
 clear hw hwn hsz hsn
 go_enter Tryz.func20,Tryz.ntmps20
 go_wp2_with fail
 refine (zAJ b off cap xs _ hm ((zA HW).below ((zC _ _).alloc (by simp) _) hB) (zA HZ) (by simp; omega)).mono ?_
 rintro e w1 ⟨⟨c,rfl,hc⟩,hb1⟩
 have HC:=zB hc
 have bel1:Below w.heap.size w w1:=((zC _ _).alloc (by simp) _).trans (hb1.mono (by simp; omega))
 have HCS:=zB (show Cs [(w.heap.size,0,.slice (some ⟨b,off,none⟩) xs.length cap),(w.heap.size + 1,0,.slice (some ⟨bn,offn,none⟩) ns.length cn)] w1 from fun p hp=>by
  simp only [List.mem_cons,List.not_mem_nil,or_false] at hp
  rcases hp with rfl | rfl
  ·exact (hb1.cell (p:=⟨w.heap.size,0,none⟩) (by simp; omega)).trans (by simp [go_sem])
  ·exact (hb1.cell (p:=⟨w.heap.size + 1,0,none⟩) (by simp)).trans (by simp [go_sem]))
 clear hc hb1
 by_cases hc0:c = 0
 case neg=>
  have hc0':(c != 0) = true:=by simpa using hc0
  have HN:=zB (show ¬ zO xs 0 from fun h=>hc0 (zAi (zA HC) h))
  clear hc0
  go_wp2_with fail
  go_ret
  exact ⟨⟨1,rfl,Or.inl ⟨zA HN,rfl⟩⟩,bel1⟩
 subst hc0
 have c0:=(zA HCS) (w.heap.size,0,.slice (some ⟨b,off,none⟩) xs.length cap) (by simp)
 have c1:=(zA HCS) (w.heap.size + 1,0,.slice (some ⟨bn,offn,none⟩) ns.length cn) (by simp)
 simp only at c0 c1
 go_wp2_with fail
 refine (zB4 b off cap bn offn cn xs ns _ hm hmn ((zA HW).below bel1 hB) (zA HZ) (Nat.lt_of_lt_of_le hB bel1.size) ((zA HWN).below bel1 hBn) (zA HZN) (Nat.lt_of_lt_of_le hBn bel1.size) (zA HC)).mono ?_
 rintro e w2 ⟨⟨v,rfl,hv⟩,hb2⟩
 have HV:=zB hv
 have bel2:=bel1.trans (hb2.mono bel1.size)
 have HC2:=zB ((zA HCS).below hb2)
 clear hv hb2 HCS c0 c1 bel1
 cases v
 ·go_wp2_with fail
  go_ret
  exact ⟨⟨2,rfl,Or.inr ⟨zA HC,Or.inl ⟨fun h=>Bool.false_ne_true ((zA HV).2 h),rfl⟩⟩⟩,bel2⟩
 have HO:=zB ((zA HV).1 rfl)
 clear HV
 go_wp2_with fail
 go_loopw [5] (fun iv wr=>∃ k:Nat,k <= ns.length /\ iv = .int .i64 (k:Int) /\ Hid (∀ i,i < k -> zAx xs ns i) /\ Hid (Cs [(w.heap.size,0,.slice (some ⟨b,off,none⟩) xs.length cap),(w.heap.size + 1,0,.slice (some ⟨bn,offn,none⟩) ns.length cn)] wr) /\ Below w.heap.size w wr) (fun iv _=>ns.length - (intOf iv).toNat)
 case atStart=>exact ⟨0,Nat.zero_le _,rfl,zB (fun i hi=>absurd hi (Nat.not_lt_zero i)),HC2,bel2⟩
 case round=>
  clear HC2 bel2
  obtain ⟨k,hk,rfl,hfit,hcs,hbel⟩:=hrel
  have c0:=(zA hcs) (w.heap.size,0,.slice (some ⟨b,off,none⟩) xs.length cap) (by simp)
  have c1:=(zA hcs) (w.heap.size + 1,0,.slice (some ⟨bn,offn,none⟩) ns.length cn) (by simp)
  simp only at c0 c1
  by_cases hlt:k < ns.length
  ·have hltI:(k:Int) < (ns.length:Int):=by omega
   go_wp2_with fail
   refine (zIb b off cap bn offn cn k xs ns _ hm hmn ((zA HW).below hbel hB) (zA HZ) (Nat.lt_of_lt_of_le hB hbel.size) ((zA HWN).below hbel hBn) (Nat.lt_of_lt_of_le hBn hbel.size) hlt (zA HO).1 (zA HO).2).mono ?_
   rintro e w3 ⟨⟨v,rfl,hv⟩,hb3⟩
   have HV:=zB hv
   have HC3:=zB ((zA hcs).below hb3)
   have bel3:=hbel.trans (hb3.mono hbel.size)
   clear hv hb3
   cases v
   ·go_wp2_with fail
    go_ret
    exact ⟨⟨3,rfl,Or.inr ⟨zA HC,Or.inr ⟨zA HO,Or.inl ⟨fun h=>Bool.false_ne_true ((zA HV).2 (h k hlt)),rfl⟩⟩⟩⟩,bel3⟩
   ·go_wp2_with fail
    refine ⟨⟨k + 1,by omega,by go_num,zB (fun i hi=>?_),HC3,bel3⟩,by simp [intOf]; omega⟩
    by_cases e:i = k
    ·subst e; exact (zA HV).1 rfl
    ·exact (zA hfit) i (by omega)
  ·have hkx:k = ns.length:=by omega
   go_wp2_with fail
   go_ret
   exact ⟨⟨0,rfl,Or.inr ⟨zA HC,Or.inr ⟨zA HO,Or.inr ⟨fun i hi=>(zA hfit) i (by omega),rfl⟩⟩⟩⟩,hbel⟩
end Go.Proofs.YtfboipappaonhaaGreat
namespace Go.Proofs.YtfboipappaonhaaGreat
set_option linter.unusedSimpArgs false
set_option linter.unusedVariables false
set_option maxHeartbeats 16000000
set_option maxRecDepth 100000
open Go.RowKit Go.Maps
theorem zAV (bo bs:Nat) (xs:List OpR) (o:zD) (w:World) (hi:Idx w bo bs xs xs.length) (hc:zO xs 0) (hok:zAD xs xs.length) (ht:o.t.size <= maxLen) :
  Calls Tryz.prog 89 #[.agg #[.map (some bo),.map (some bs)],.agg #[.int .i64 o.k,.string o.t,.int .i64 o.a,.int .i64 o.b]] w fun e w'=>e = .returned (.int .i64 (ZI xs o)) /\ Below w.heap.size w w':=by
 have HI:=zB (fun o1 o2=>(hi.kept (zC w o1)).kept (zC _ o2))
 have HC:=zB hc
 have HOK:=zB hok
 clear hi hc hok
 go_enter Tryz.func89,Tryz.ntmps89
 go_wp2_with fail
 refine (zBe bo bs xs o _ ((zA HI) _ _) (zA HC) (zA HOK) ht).mono ?_
 rintro e w1 ⟨⟨p,v,rfl,hp⟩,hb1⟩
 have HL:=zB (zKT hp)
 have bel1:Below w.heap.size w w1:=((zC _ _).alloc (by simp) _).trans (hb1.mono (by simp; omega))
 clear hp hb1
 cases v
 ·go_wp2_with fail
  go_ret
  exact ⟨zJ (by rw [zA HL]; simp),bel1.alloc bel1.size _⟩
 ·go_wp2_with fail
  go_ret
  exact ⟨zJ (by rw [zA HL]; simp),bel1.alloc bel1.size _⟩
end Go.Proofs.YtfboipappaonhaaGreat
