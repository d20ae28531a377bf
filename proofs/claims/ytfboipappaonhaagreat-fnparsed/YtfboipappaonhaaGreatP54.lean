import Derived.OpenShut
import Derived.ProofKit
import Derived.Lib.SmallJoins
import Derived.ChangeSlices
import Derived.Deep.Slices
import Derived.ShutString
import Derived.ChangeOld
import Derived.Below
import Derived.Test.YtfboipappaonhaaGreatP00
import Derived.Test.YtfboipappaonhaaGreatP30
import Derived.Test.YtfboipappaonhaaGreatP31
import Derived.Test.YtfboipappaonhaaGreatP32
import Derived.Test.YtfboipappaonhaaGreatP36
import Derived.Test.YtfboipappaonhaaGreatP50
import Derived.Test.YtfboipappaonhaaGreatP51
import Derived.Test.YtfboipappaonhaaGreatP53
namespace Go.Proofs.YtfboipappaonhaaGreat
set_option linter.unusedSimpArgs false
set_option linter.unusedVariables false
set_option maxHeartbeats 16000000
set_option maxRecDepth 100000
open Go.RowKit Go.Maps
theorem zGe (b off cap bn offn cn:Nat) (xs:List OpR) (ns:List zD) (w:World) (hm:xs.length <= 1048576) (hmn:ns.length <= 1048576) (hw:Ops w b off xs) (hsz:ZV xs) (hB:b < w.heap.size) (hwn:Zw w bn offn ns) (hsn:zBc ns) (hBn:bn < w.heap.size) :
  Calls Tryz.prog 14 #[.agg #[.slice (some ⟨b,off,none⟩) xs.length cap],.agg #[.slice (some ⟨bn,offn,none⟩) ns.length cn]] w fun e w'=>(∃ c,e = .returned (.int .i64 c) /\ zCa xs ns c) /\ Below w.heap.size w w':=by
 have HW:=zB hw
 have HWN:=zB hwn
 have HZ:=zB hsz
 have HZN:=zB hsn
 clear hw hwn hsz hsn
 go_enter Tryz.func14,Tryz.ntmps14
 go_wp2_with fail
 refine (zDO b off cap xs _ hm ((zA HW).below ((zC _ _).alloc (by simp) _) hB) (zA HZ) (by simp; omega)).mono ?_
 rintro e w1 ⟨⟨x,y,c,rfl,hc,hix⟩,hb1⟩
 have HC:=zB hc
 have HIX:=zB hix
 have bel1:Below w.heap.size w w1:=((zC _ _).alloc (by simp) _).trans (hb1.mono (by simp; omega))
 have c1:w1.cell? ⟨w.heap.size + 1,0,none⟩ = some (.slice (some ⟨bn,offn,none⟩) ns.length cn):=(hb1.cell (p:=⟨w.heap.size + 1,0,none⟩) (by simp)).trans (by simp [go_sem])
 have z1:w.heap.size + 2 <= w1.heap.size:=by have:=hb1.size; simp at this; omega
 clear hc hix hb1
 by_cases hc0:c = 0
 case neg=>
  have hc0':(c != 0) = true:=by simpa using hc0
  have HN:=zB (show ¬ zM xs 0 from fun h=>hc0 (zAk (zA HC) h))
  clear hc0
  go_wp2_with fail
  go_ret
  exact ⟨⟨1,rfl,Or.inl ⟨zA HN,rfl⟩⟩,bel1.alloc bel1.size _⟩
 subst hc0
 obtain ⟨bo,bs,rfl,rfl,hidx⟩:=(zA HIX) rfl
 have HID:=zB (hidx.kept (zC w1 (.cells #[.map (some bo),.map (some bs)] 69)))
 have HOK:=zB (zBQ (zA HC))
 have belA:Below w.heap.size w (w1.alloc (.cells #[.map (some bo),.map (some bs)] 69)):=bel1.alloc bel1.size _
 have HCS:=zB (show Cs [(w.heap.size + 1,0,.slice (some ⟨bn,offn,none⟩) ns.length cn),(w1.heap.size,0,.map (some bo)),(w1.heap.size,1,.map (some bs))] (w1.alloc (.cells #[.map (some bo),.map (some bs)] 69)) from fun p hp=>by
  simp only [List.mem_cons,List.not_mem_nil,or_false] at hp
  rcases hp with rfl | rfl | rfl
  ·exact ((zC _ _).cell (p:=⟨w.heap.size + 1,0,none⟩) (show w.heap.size + 1 < w1.heap.size by omega)).trans c1
  ·simp [go_sem]
  ·simp [go_sem])
 clear HIX hidx c1
 have k1:=(zA HCS) (w.heap.size + 1,0,.slice (some ⟨bn,offn,none⟩) ns.length cn) (by simp)
 have k2:=(zA HCS) (w1.heap.size,0,.map (some bo)) (by simp)
 have k3:=(zA HCS) (w1.heap.size,1,.map (some bs)) (by simp)
 simp only at k1 k2 k3
 go_wp2_with fail
 refine (zE3 bo bs bn offn cn xs ns _ hmn (zA HID) (zA HC) (zA HOK) ((zA HWN).below belA hBn) (zA HZN) (Nat.lt_of_lt_of_le hBn belA.size)).mono ?_
 rintro e w3 ⟨⟨v,rfl,hv⟩,hb3⟩
 have HV:=zB hv
 have bel3:=belA.trans (hb3.mono belA.size)
 have HC3:=zB ((zA HCS).below hb3)
 have HI3:=zB ((zA HID).kept hb3)
 clear hv hb3 HCS HID k1 k2 k3 belA
 cases v
 ·go_wp2_with fail
  go_ret
  exact ⟨⟨2,rfl,Or.inr ⟨zA HC,Or.inl ⟨fun h=>Bool.false_ne_true ((zA HV).2 h),rfl⟩⟩⟩,bel3⟩
 have HO:=zB ((zA HV).1 rfl).1
 have HK:=zB ((zA HV).1 rfl).2
 clear HV
 have k1:=(zA HC3) (w.heap.size + 1,0,.slice (some ⟨bn,offn,none⟩) ns.length cn) (by simp)
 have k2:=(zA HC3) (w1.heap.size,0,.map (some bo)) (by simp)
 have k3:=(zA HC3) (w1.heap.size,1,.map (some bs)) (by simp)
 simp only at k1 k2 k3
 go_wp2_with fail
 refine (zKH bo bs bn offn cn xs ns _ hmn (zA HI3) (zA HC) (zA HOK) (zA HZ) ((zA HWN).below bel3 hBn) (zA HZN) (Nat.lt_of_lt_of_le hBn bel3.size) (zA HO)).mono ?_
 rintro e w4 ⟨⟨v,rfl,hv⟩,hb4⟩
 have HV:=zB hv
 have bel4:=bel3.trans (hb4.mono bel3.size)
 clear hv hb4 HC3 HI3 k1 k2 k3 bel3
 cases v
 ·go_wp2_with fail
  go_ret
  exact ⟨⟨3,rfl,Or.inr ⟨zA HC,Or.inr ⟨⟨zA HO,zA HK⟩,Or.inl ⟨fun h=>Bool.false_ne_true ((zA HV).2 h),rfl⟩⟩⟩⟩,bel4⟩
 ·go_wp2_with fail
  go_ret
  exact ⟨⟨0,rfl,Or.inr ⟨zA HC,Or.inr ⟨⟨zA HO,zA HK⟩,Or.inr ⟨(zA HV).1 rfl,rfl⟩⟩⟩⟩,bel4⟩
end Go.Proofs.YtfboipappaonhaaGreat
namespace Go.Proofs.YtfboipappaonhaaGreat
set_option linter.unusedSimpArgs false
set_option linter.unusedVariables false
set_option maxHeartbeats 16000000
set_option maxRecDepth 100000
open Go.RowKit
theorem Z8.some2 {w:World} {n:Nat} {a:Option Addr} {us:List zD} (h:Z8 w n a us) (h1:1 <= us.length):∃ g,a = some ⟨g,0,none⟩ /\ n <= g /\ zv w g us us.length:=by
 rcases h with ⟨h,_⟩ | h
 ·omega
 ·exact h
theorem zAi.none {ns:List OpR} {s:ByteArray} {us:List zD} {c p:Int} (h:zAi ns s us c p) (hc:c ≠ 0):us = []:=by
 rcases h with ⟨_,h,_⟩ | ⟨_,⟨_,h,_⟩ | ⟨_,ts,_,h⟩⟩
 ·exact h
 ·exact h
 ·rcases h with ⟨i,_,_,_,h,_⟩ | ⟨_,⟨i,_,_,_,h,_⟩ | ⟨_,h⟩⟩
  ·exact h
  ·exact h
  ·rcases h with ⟨_,h,_⟩ | ⟨T,r,_,⟨_,h,_⟩ | ⟨_,_,h,_⟩⟩
   ·exact h
   ·exact h
   ·exact absurd h hc
theorem zOA:∀ (T:ET),TxT T -> TxB T:=by
 intro T
 induction T with
 | nil=>intro _; trivial
 | node b o t l r ihl ihr=>
  rintro ⟨h1,h2,h3⟩
  exact ⟨h1.1,ihl h2,ihr h3⟩
theorem zLY (a a':Option Addr) (cap cap':Nat) (l l':List UInt8) (w:World) (hm:l.length <= maxLen) (hm':l'.length <= maxLen) (hcap:l.length <= cap) (hcap':l'.length <= cap') (h:zFi w a l) (h':zFi w a' l') :
  Calls Tryz.prog 7 #[.slice a l.length cap,.slice a' l'.length cap'] w fun e w'=>e = .returned (.bool true) /\ Below w.heap.size w w':=by
 have HA:=zB h
 have HA':=zB h'
 clear h h'
 by_cases hl:l.length <= 1048576
 case neg=>
  have hlI:(1048576:Int) < (l.length:Int):=by omega
  unfold maxLen at hm
  go_enter Tryz.func7,Tryz.ntmps7
  go_wp2_with fail
  go_ret
  exact ⟨rfl,Below.refl _ _⟩
 have hlI:¬ (1048576:Int) < (l.length:Int):=by omega
 by_cases hl':l'.length <= 1048576
 case neg=>
  have hlI':(1048576:Int) < (l'.length:Int):=by omega
  unfold maxLen at hm'
  go_enter Tryz.func7,Tryz.ntmps7
  go_wp2_with fail
  go_ret
  exact ⟨rfl,Below.refl _ _⟩
 have hlI':¬ (1048576:Int) < (l'.length:Int):=by omega
 go_enter Tryz.func7,Tryz.ntmps7
 go_wp2_with fail
 (with_reducible refine (zDk a cap l _ hl hcap (zA HA)).mono ?_)
 rintro e w1 ⟨⟨gt,ct,ns,s,rfl,hgt,hF1,hD1,hs⟩,hb1⟩
 obtain ⟨hnl,hns⟩:=(zA hD1).sized
 have HNS:=zB hns
 have HB1:=zB (zC w1 (.cells #[.slice (some ⟨gt,0,none⟩) ns.length ct] 25))
 have HF1:=zB ((zA hF1).below (zA HB1) (zA hF1).1)
 have bel1:=zB (hb1.trans ((zA HB1).mono hb1.size))
 clear hb1 hns hF1 HB1
 go_wp2_with fail
 (with_reducible refine (zGu gt 0 ct ns s _ hnl (zA HF1).ops (zA HNS) (zA HF1).lt1 hs).mono ?_)
 rintro e w2 ⟨⟨a2,c2,us,c,p,rfl,hO2,hP2⟩,hb2⟩
 have HB2:=zB (zC w2 (.cells #[.slice a2 us.length c2] 28))
 have HO2:=zB ((zA hO2).step (zA HB2))
 have u2:(w2.alloc (.cells #[.slice a2 us.length c2] 28)).cell? ⟨w2.heap.size,0,none⟩ = some (.slice a2 us.length c2):=by simp [go_sem]
 have bel2:=zB (((zA bel1).trans (hb2.mono (zA bel1).size)).trans ((zA HB2).mono (by have:=hb2.size; have:=(zA bel1).size; omega)))
 clear hb2 HF1 bel1 hO2 HB2
 go_wp2_with fail
 (with_reducible refine (zDk a cap l _ hl hcap ((zA HA).step ((zA bel2)))).mono ?_)
 rintro e w3 ⟨⟨gt',ct',ns',s',rfl,hgt',hF3,hD3,hs'⟩,hb3⟩
 obtain rfl:=(zA hD3).one (zA hD1)
 have HB3:=zB (zC w3 (.cells #[.slice (some ⟨gt',0,none⟩) ns'.length ct'] 25))
 have HG3:=zB ((zA hF3).below (zA HB3) (zA hF3).1)
 have HO3:=zB (((zA HO2).step hb3).step (zA HB3))
 have z3:w2.heap.size + 1 <= w3.heap.size:=by have:=hb3.size; simpa using this
 have u3:=((zA HB3).cell (p:=⟨w2.heap.size,0,none⟩) (by show w2.heap.size < w3.heap.size; omega)).trans ((hb3.cell (p:=⟨w2.heap.size,0,none⟩) (by simp)).trans u2)
 have bel3:=zB (((zA bel2).trans (hb3.mono (zA bel2).size)).trans ((zA HB3).mono (by have:=hb3.size; have:=(zA bel2).size; omega)))
 clear hb3 hF3 hD3 hD1 HB3 u2 HO2 bel2
 go_wp2_with fail
 (with_reducible refine (zDm gt' 0 ct' ns' s _ hnl (zA HG3).ops (zA HNS) (zA HG3).lt1 hs).mono ?_)
 rintro e w4 ⟨⟨a4,c4,us4,cc4,p4,rfl,hO4,hP4⟩,hb4⟩
 obtain ⟨rfl,rfl,rfl⟩:=(zA hP4).one (zA hP2)
 have z4:w3.heap.size + 1 <= w4.heap.size:=by have:=hb4.size; simpa using this
 have HB4:=zB (zC w4 (.cells #[.slice a4 us4.length c4] 28))
 have HO4:=zB (((zA HO3).step hb4).step (zA HB4))
 have HR4:=zB ((zA hO4).step (zA HB4))
 have HG4:=zB (((zA HG3).below hb4 (zA HG3).1).below (zA HB4) (by have:=(zA HG3).1; have:=hb4.size; omega))
 have u4:=((zA HB4).cell (p:=⟨w2.heap.size,0,none⟩) (by show w2.heap.size < w4.heap.size; omega)).trans ((hb4.cell (p:=⟨w2.heap.size,0,none⟩) (by simp; omega)).trans u3)
 have t4:=((zA HB4).cell (p:=⟨w3.heap.size,0,none⟩) (by show w3.heap.size < w4.heap.size; omega)).trans (show w4.cell? ⟨w3.heap.size,0,none⟩ = some (.slice (some ⟨gt',0,none⟩) ns'.length ct') from (hb4.cell (p:=⟨w3.heap.size,0,none⟩) (by simp)).trans (by simp [go_sem]))
 have bel4:=zB (((zA bel3).trans (hb4.mono (zA bel3).size)).trans ((zA HB4).mono (by have:=hb4.size; have:=(zA bel3).size; omega)))
 clear hb4 hP4 HG3 HO3 u3 bel3 hO4 HB4
 obtain ⟨W4,hW4⟩:∃ W4,W4 = w4.alloc (.cells #[.slice a4 us4.length c4] 28):=⟨_,rfl⟩
 have r4:W4.cell? ⟨w4.heap.size,0,none⟩ = some (.slice a4 us4.length c4):=by rw [hW4]; simp [go_sem]
 have z5:w4.heap.size + 1 = W4.heap.size:=by rw [hW4]; simp
 rw [<- hW4] at HO4 HR4 HG4 u4 t4 bel4
 by_cases hc:cc4 = 0
 case neg=>
  obtain rfl:=(zA hP2).none hc
  have hcb:(cc4 == 0) = false:=beq_eq_false_iff_ne.2 hc
  rw [hW4] at bel4
  clear hP2 hW4 r4 z5 HO4 HR4 HG4 u4 t4
  go_wp2_with fail
  go_ret
  exact ⟨by simp,zA bel4⟩
 subst hc
 obtain ⟨T,hv,hg,hus,htx,hz,hh⟩:=zLJ (zA hP2)
 have hord:ZL us4:=by rw [hus]; exact zIE hg.well.sh hz htx
 have hul1:=hord.1
 have hul:=hord.2.1
 have HUS:=zB hord.sizedN
 have HTK:=zB (show zCa ns' us4 0 by rw [hus]; exact zLH hv hg hz htx)
 have HQS:=zB (show ∀ q ∈ ySy T,q.2.size <= 20000 from zLC T (zOA T htx))
 have HV:=zB hv
 have HG:=zB hg
 have HE:=zB hus
 have HX:=zB htx
 obtain ⟨g2,rfl,hg2,hF2⟩:=Z8.some2 (zA HO4) hul1
 obtain ⟨g4,rfl,hg4,hF4⟩:=Z8.some2 (zA HR4) hul1
 have HF2:=zB hF2
 have HF4:=zB hF4
 have n4:¬ w3.heap.size = w4.heap.size:=by omega
 have n4':¬ w2.heap.size = w4.heap.size:=by omega
 subst hW4
 clear hP2 hord hv hg hus htx hF2 hF4 HO4 HR4
 go_wp2_with fail
 (with_reducible refine (zGe gt' 0 ct' g4 0 c4 ns' us4 _ hnl (by omega) (zA HG4).ops (zA HNS) (zA HG4).lt1 (zA HF4).ops (zA HUS) (zA HF4).lt1).mono ?_)
 rintro e w5 ⟨⟨c5,rfl,hok⟩,hb5⟩
 obtain rfl:=hok.one (zA HTK)
 have z6:=hb5.size
 have HG5:=zB ((zA HG4).below hb5 (zA HG4).1)
 have HF5:=zB ((zA HF2).below hb5 (zA HF2).1)
 have u5:=(hb5.cell (p:=⟨w2.heap.size,0,none⟩) (by show w2.heap.size < (World.alloc _ _).heap.size; omega)).trans u4
 have t5:=(hb5.cell (p:=⟨w3.heap.size,0,none⟩) (by show w3.heap.size < (World.alloc _ _).heap.size; omega)).trans t4
 have bel5:=zB ((zA bel4).trans (hb5.mono (zA bel4).size))
 clear hok hb5 HG4 HF2 HF4 u4 t4 bel4 r4 HTK
 go_wp2_with fail
 (with_reducible refine (zGl g2 c2 ns' us4 T a' cap' l' _ (zA HG).well (zA HE) hul (zA HF5).ops (zA HF5).lt1 (zA HQS) hl' hcap' ((zA HA').step (zA bel5))).mono ?_)
 rintro e w6 ⟨⟨s6,rfl,HS6⟩,hb6⟩
 have HG6:=zB ((zA HG5).below hb6 (zA HG5).1)
 have HF6:=zB ((zA HF5).below hb6 (zA HF5).1)
 have u6:=(hb6.cell (p:=⟨w2.heap.size,0,none⟩) (block_lt_of_cell u5)).trans u5
 have t6:=(hb6.cell (p:=⟨w3.heap.size,0,none⟩) (block_lt_of_cell t5)).trans t5
 have bel6:=zB ((zA bel5).trans (hb6.mono (zA bel5).size))
 clear hb6 HG5 HF5 u5 t5 bel5
 by_cases h6:s6.size <= 20000
 case neg=>
  have h6I:(20000:Int) < (s6.size:Int):=by omega
  go_wp2_with fail
  go_ret
  exact ⟨rfl,zA bel6⟩
 have h6I:¬ (20000:Int) < (s6.size:Int):=by omega
 go_wp2_with fail
 (with_reducible refine (zDm gt' 0 ct' ns' s6 _ hnl (zA HG6).ops (zA HNS) (zA HG6).lt1 (by omega)).mono ?_)
 rintro e w7 ⟨⟨a7,c7,vs,cc7,p7,rfl,hO7,hP7⟩,hb7⟩
 obtain ⟨rfl,hvs⟩:=zJF (zA HV) (zA HG) (zA HX) hz hh (zDf l') 0 (zA HS6) h6 (zA hP7)
 have hsame:vs = us4:=hvs.trans (zA HE).symm
 subst hsame
 have HB7:=zB (zC w7 (.cells #[.slice a7 vs.length c7] 28))
 have HA7:=zB (Z8.arg ((zA hO7).step (zA HB7)))
 have HR7:=zB (zv.arg (((zA HF6).below hb7 (zA HF6).1).below (zA HB7) (by have:=(zA HF6).1; have:=hb7.size; omega)))
 have u7:=(hb7.cell (p:=⟨w2.heap.size,0,none⟩) (block_lt_of_cell u6)).trans u6
 have l7:w2.heap.size < w7.heap.size:=block_lt_of_cell u7
 have n7:¬ w2.heap.size = w7.heap.size:=by omega
 have bel7:=zB (((zA bel6).trans (hb7.mono (zA bel6).size)).trans ((zA HB7).mono (by have:=hb7.size; have:=(zA bel6).size; omega)))
 clear hb7 hO7 hP7 hvs HG6 HF6 u6 t6 bel6
 go_wp2_with fail
 (with_reducible refine (zGM a7 (some ⟨g2,0,none⟩) c7 c2 vs vs _ (by omega) (by omega) (zA HA7) (zA HR7)).mono ?_)
 rintro e wa ⟨⟨v,rfl,hv⟩,hba⟩
 have hvt:v = true:=hv.2 rfl
 subst hvt
 have bela:=zB ((zA bel7).trans (hba.mono (zA bel7).size))
 clear hba
 go_wp2_with fail
 go_ret
 exact ⟨rfl,zA bela⟩
end Go.Proofs.YtfboipappaonhaaGreat
namespace Go.Proofs.YtfboipappaonhaaGreat
set_option linter.unusedVariables false
set_option maxHeartbeats 16000000
set_option maxRecDepth 100000
open Go.ChangeShapes Go.WideShapes Go.ChangeAt Go.RowKit Go.Joins
theorem ByP.own:ownKnob Tryz.prog.godebug = none:=by kernel_rfl
theorem ByP.laidOut:laidOutB Tryz.prog = true:=by kernel_rfl
theorem ByP.cellsB:Tryz.prog.cellsOf 5 = 1:=by kernel_rfl
theorem zKI {W:World} {x:Addr} {v:Value} (h:W.cell? (x.add 0) = some v):x = ⟨x.block,x.off,none⟩:=by
 obtain ⟨b,off,spot⟩:=x
 have hs:spot = none:=by
  have:=World.cell?_spot h
  simpa [Addr.add] using this
 subst hs
 rfl
theorem zGv (zs:List Int) (len i:Nat) (hi:i < len) (hz:len <= zs.length):((zs.take len).map fun n=>UInt8.ofNat n.toNat).getD i 0 = UInt8.ofNat (zs.getD i 0).toNat:=by
 have h1:i < zs.length:=by omega
 simp [List.getD,hi,h1]
theorem zFH {H:Type} {enc:TypeId × Value -> H} {W:World} {held:Bool} {fuel:Nat} {cs:List Value} {x:DataW H × List MemPlace} (h:DataW.trod enc Tryz.prog W 0 (fun _=>true) held fuel 22 cs = some x) :
  ∃ (a:Option Addr) (cap:Nat) (l:List UInt8),cs = [.slice a l.length cap] /\ l.length <= maxLen /\ l.length <= cap /\ zFi W a l:=by
 rcases open_ints Tryz.underlying22 Tryz.underlying5 ByP.cellsB h with ⟨rfl,_⟩ | ⟨a,len,cap,zs,rfl,_,hl,hm,hz,_,hcell,hwz⟩
 ·exact ⟨none,0,[],rfl,Nat.zero_le _,Nat.zero_le _,Or.inl rfl⟩
 simp only [if_true] at hz
 have hll:((zs.take len).map fun n=>UInt8.ofNat n.toNat).length = len:=by simp; omega
 refine ⟨some a,cap,(zs.take len).map fun n=>UInt8.ofNat n.toNat,by rw [hll],by rw [hll]; omega,by rw [hll]; exact hl,?_⟩
 by_cases h0:len = 0
 ·exact Or.inl (by rw [hll]; exact h0)
 ·have c0:=hcell 0 (by omega)
  have hs:=zKI c0
  refine Or.inr ⟨a.block,a.off,by rw [<- hs],?_,fun i hi=>?_⟩
  ·have:=block_lt_of_cell c0
   simpa [Addr.add] using this
  ·rw [hll] at hi
   have hc:=hcell i (by omega)
   rw [hs,Addr.add_mid] at hc
   have hb:=range_u8 hwz i
   have e:zs.getD i 0 = zs[i]?.getD 0:=rfl
   rw [hc,zGv zs len i hi (by omega),e]
   obtain ⟨z,hz⟩:∃ z:Int,z = zs[i]?.getD 0:=⟨_,rfl⟩
   rw [<- hz] at hb ⊢
   congr 2
   have:(UInt8.ofNat z.toNat).toNat = z.toNat:=by
    rw [UInt8.toNat_ofNat']
    omega
   rw [this]
   omega
theorem PaP.lifted (os:Os) (started:os.Started) (H:Type) (enc:TypeId × Value -> H) :
  ReturnsInHanded {} Tryz.checked os 7 .any (Rows.fnParsedSpec.pre6 enc Tryz.prog Tryz.f7 Rows.fnParsedRow.domain false) (Rows.fnParsedSpec.post enc Tryz.prog Tryz.f7 false true false false):=by
 refine returnsInHanded_of_change (C:=Tryz.checked) ByP.own started (by kernel_rfl) Tryz.func7
  (ChangeSpec.witness6 (enc:=enc) (C:=Tryz.checked) false ⟨#[],#[.slice none 0 0,.slice none 0 0],[]⟩ 8 (by kernel_rfl) (by kernel_rfl) (by kernel_rfl) (by kernel_rfl)) ?_
 intro W base args ds gs before hval0 hW hcnd _
 have hval:∀ (j:Nat) t v,Tryz.f7.params[j]? = some t -> args[j]? = some v -> Value.okWide Tryz.prog W .any base t v:=hval0
 have hW':=hW
 obtain ⟨p,q,hA0,hV,rfl,hfz,hnd⟩:=hW
 have hA:DataW.TrodAll enc Tryz.prog W 0 (fun _=>true) true Tryz.f7.params.toList args.toList ds p:=hA0
 rw [Tryz.params7] at hA hval
 obtain ⟨v0,vs0,d0,ds0,p0,q0,hargs,rfl,rfl,h0,r0⟩:=trodAll_cons hA
 obtain ⟨v1,vs1,d1,ds1,p1,q1,rfl,rfl,rfl,h1,r1⟩:=trodAll_cons r0
 obtain ⟨rfl,rfl,rfl⟩:=trodAll_nil r1
 obtain rfl:args = #[v0,v1]:=by cases args; simp_all
 obtain ⟨rfl,rfl⟩:=trodVars_none hV
 have k0:=h0
 have k1:=h1
 have lt0:∀ x ∈ p0,x.block < W.heap.size:=by obtain ⟨m,hm⟩:=k0; exact DataW.trod_lt m _ _ _ hm
 have lt1:∀ x ∈ p1,x.block < W.heap.size:=by obtain ⟨m,hm⟩:=k1; exact DataW.trod_lt m _ _ _ hm
 obtain ⟨a,len,cap,rfl⟩:=okWide_slice Tryz.underlying22 (hval 0 22 v0 rfl rfl)
 obtain ⟨b,lenb,capb,rfl⟩:=okWide_slice Tryz.underlying22 (hval 1 22 v1 rfl rfl)
 obtain ⟨a',cap',l,e,e1,e2,e3⟩:∃ (a':Option Addr) (cap':Nat) (l:List UInt8),[Value.slice a len cap] = [.slice a' l.length cap'] /\ l.length <= maxLen /\ l.length <= cap' /\ zFi W a' l:=by
  obtain ⟨fuel,hf⟩:=h0
  exact zFH hf
 obtain ⟨b',capb',l',f,f1,f2,f3⟩:∃ (a':Option Addr) (cap':Nat) (l:List UInt8),[Value.slice b lenb capb] = [.slice a' l.length cap'] /\ l.length <= maxLen /\ l.length <= cap' /\ zFi W a' l:=by
  obtain ⟨fuel,hf⟩:=h1
  exact zFH hf
 simp at e f
 obtain ⟨rfl,rfl,rfl⟩:=e
 obtain ⟨rfl,rfl,rfl⟩:=f
 clear hA0 hval0
 refine (zLY a b cap capb l l' W e1 f1 e2 f2 e3 f3).mono fun e W' ⟨he,bel⟩=>?_
 subst he
 exact ⟨_,rfl,_,_,_,[],_,[],hW',trodAll_mk1 (shut_bool Tryz.underlying4 _),(trodAll_cons_mk (Below.trod ByP.laidOut (by kernel_rfl) (of_decide_eq_true (by kernel_rfl)) k0 bel lt0) (trodAll_cons_mk (Below.trod ByP.laidOut (by kernel_rfl) (of_decide_eq_true (by kernel_rfl)) k1 bel lt1) trodAll_mk0)),rfl,bel.frame _,fun h=>by cases h⟩
theorem parsed_holds:Rows.FnParsedSaid:=
 OpenClaim.holds_of_wide 7 Tryz.f7 rfl rfl rfl rfl rfl rfl rfl ⟨rfl,rfl,rfl,rfl,rfl⟩ rfl rfl rfl rfl rfl (by kernel_rfl) Tryz.func7 (by kernel_rfl)
  (of_decide_eq_true (by kernel_rfl)) (by unfold Func.isWrapper; first | (rw [if_pos (by decide +kernel)]; kernel_rfl) | (rw [if_neg (by decide +kernel)]; exact ⟨rfl,rfl⟩))
  (fun os started H enc _=>PaP.lifted os started H enc)
#print axioms parsed_holds
end Go.Proofs.YtfboipappaonhaaGreat
