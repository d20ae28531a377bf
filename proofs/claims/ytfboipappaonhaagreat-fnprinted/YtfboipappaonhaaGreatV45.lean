import Derived.RegionTactic
import Derived.Test.YtfboipappaonhaaGreatV03
import Derived.Test.YtfboipappaonhaaGreatV43
import Derived.Test.YtfboipappaonhaaGreatV44
namespace Go.Proofs.YtfboipappaonhaaGreat
set_option linter.unusedSimpArgs false
set_option linter.unusedVariables false
set_option maxHeartbeats 16000000
set_option maxRecDepth 100000
open Go.RowKit
def mv (xs:List zD) (k j:Nat):Int:=if j < k then (cnt xs (j + 1):Int) - 1 else 0
def MvS (w:World) (g:Nat) (xs:List zD) (k:Nat):Prop:=g < w.heap.size /\ ∀ j,j < xs.length -> w.cell? ⟨g,j,none⟩ = some (.int .i64 (mv xs k j)) /\ w.frozen? ⟨g,j,none⟩ = false
theorem MvS.below {w w':World} {g k:Nat} {xs:List zD} (h:MvS w g xs k) (hb:Below w.heap.size w w'):MvS w' g xs k:=
 ⟨Nat.lt_of_lt_of_le h.1 hb.size,fun j hj=>⟨(hb.cell (p:=⟨g,j,none⟩) h.1).trans (h.2 j hj).1,(hb.frozen (p:=⟨g,j,none⟩) h.1).trans (h.2 j hj).2⟩⟩
theorem MvS.kept {w w':World} {g g' k:Nat} {xs:List zD} (h:MvS w g xs k) (hk:zE w w' g') (hne:g ≠ g'):MvS w' g xs k:=
 ⟨Nat.lt_of_lt_of_le h.1 hk.size,fun j hj=>⟨(hk.cell h.1 hne j).trans (h.2 j hj).1,(hk.frozen h.1 hne j).trans (h.2 j hj).2⟩⟩
theorem MvS.set {w:World} {g k:Nat} {xs:List zD} (h:MvS w g xs k) (hk:k < xs.length) {v:Int} (hv:v = (cnt xs (k + 1):Int) - 1):MvS (w.setCell ⟨g,k,none⟩ (.int .i64 v)) g xs (k + 1):=by
 refine ⟨by simpa [World.setCell] using h.1,fun j hj=>⟨?_,(World.frozen?_setCell _ _ _ _).trans (h.2 j hj).2⟩⟩
 by_cases e:j = k
 ·subst e
  rw [World.cell?_setCell_same _ _ _ (h.2 j hj).1,hv]
  simp [mv]
 ·rw [World.cell?_setCell_other _ _ _ _ (fun x=>e (by injection x with _ x; exact x.symm)),(h.2 j hj).1]
  unfold mv
  by_cases h1:j < k
  ·rw [if_pos h1,if_pos (by omega)]
  ·rw [if_neg h1,if_neg (by omega)]
theorem zJB {xs:List zD} (h:zl xs) {k:Nat} (hk:k < xs.length) (h6:(atN xs k).k ≠ 6) :
  ∃ ja jb:Nat,(atN xs k).a = (ja:Int) /\ (atN xs k).b = (jb:Int) /\ ja < xs.length /\ jb < xs.length /\ erN xs (atN xs k) = ⟨(atN xs k).k,(atN xs k).t,mv xs k ja,mv xs k jb⟩:=by
 have hc1:=zGJ h
 have mv0:mv xs k 0 = 0:=by
  unfold mv
  split
  ·rw [Nat.zero_add,hc1]; rfl
  ·rfl
 rcases h.kidsAt hk with ⟨h0,ha,hb⟩ | ⟨h1,h2,ha,hb⟩ | ⟨h1,h2,hb,ha0,ha1⟩
 ·refine ⟨0,0,ha,hb,by omega,by omega,?_⟩
  simp [erN,h0,mv0]
 ·refine ⟨k - 1,0,by omega,hb,by omega,by omega,?_⟩
  have e:((k:Int) - 1).toNat + 1 = k:=by omega
  have e2:k - 1 + 1 = k:=by omega
  have e3:k - 1 < k:=by omega
  simp [erN,h1,mv0,ha,mvd,e,mv,e2,e3]
  intro h; omega
 ·refine ⟨(atN xs k).a.toNat,k - 1,by omega,by omega,by omega,by omega,?_⟩
  have e:((k:Int) - 1).toNat + 1 = k:=by omega
  have e2:k - 1 + 1 = k:=by omega
  have e3:k - 1 < k:=by omega
  have e4:(atN xs k).a.toNat < k:=by omega
  simp [erN,h1,hb,mvd,e,mv,e2,e3]
  intro h; omega
theorem zN3:(Tryz.prog.info? 3).map (fun i=>(i.zero,i.size,i.bytes)) = some (some (.int .i64 0),1,8):=by kernel_rfl
theorem zJC (W:World) (n j:Nat) (hj:j < n):(W.alloc (.cells (madeCells #[.int .i64 0] n) 3)).cell? ⟨W.heap.size,j,none⟩ = some (.int .i64 0) /\ (W.alloc (.cells (madeCells #[.int .i64 0] n) 3)).frozen? ⟨W.heap.size,j,none⟩ = false:=by
 have hb:(W.alloc (.cells (madeCells #[.int .i64 0] n) 3)).heap[W.heap.size]? = some (.cells (madeCells #[.int .i64 0] n) 3 (0,0)):=heap_alloc_new W _
 refine ⟨?_,frozen_of_row _ _ _ _ _ hb⟩
 rw [cell_of_row _ W.heap.size j _ 3 (0,0) hb]
 simp [madeCells,hj,Nat.mod_one]
theorem zGC (b off cap:Nat) (xs:List zD) (w:World) (hm:xs.length <= 1048576) (hw:Zc w b off xs) (hs:ZX xs) (hB:b < w.heap.size) :
  Calls Tryz.prog 15 #[.agg #[.slice (some ⟨b,off,none⟩) xs.length cap]] w fun e w'=>(∃ (a:Option Addr) (c:Nat) (us:List zD) (v:Bool),e = .returned (.tuple #[.agg #[.slice a us.length c],.bool v]) /\ Hid (Zf w' w.heap.size a us) /\ Hid (zDN xs us v)) /\ Below w.heap.size w w':=by
 have HW:=zB hw
 have HS:=zB hs
 clear hw hs
 obtain ⟨iN,hiN,hzN0,hzN1,hzN2⟩:=zu zBJ
 have HIN:=zB hiN
 have HZN:=zB (And.intro hzN0 (And.intro hzN1 hzN2))
 obtain ⟨iI,hiI,hzI0,hzI1,hzI2⟩:=zu zN3
 have hmkN:∀ W:World,(Instr.makeSlice 26 (.int .i64 0) (.int .i64 (xs.length:Int))).run Tryz.prog W = .ok (.slice (some ⟨W.heap.size,0,none⟩) 0 xs.length) (W.alloc (.cells (madeCells #[.int .i64 0,.string ⟨#[]⟩,.int .i64 0,.int .i64 0] (xs.length * 4)) 81)):=by
  intro W
  have:=run_make (P:=Tryz.prog) W 26 81 iN _ Tryz.underlying26 hiN hzN0 .i64 .i64 0 xs.length (by omega) (by omega) (by rw [hzN2]; omega) (by omega)
  simpa [hzN1,Value.cells] using this
 have hmkI:∀ W:World,(Instr.makeSlice 79 (.int .i64 (xs.length:Int)) (.int .i64 (xs.length:Int))).run Tryz.prog W = .ok (.slice (some ⟨W.heap.size,0,none⟩) xs.length xs.length) (W.alloc (.cells (madeCells #[.int .i64 0] xs.length) 3)):=by
  intro W
  have:=run_make (P:=Tryz.prog) W 79 3 iI _ Tryz.underlying79 hiI hzI0 .i64 .i64 xs.length xs.length (by omega) (Int.le_refl _) (by rw [hzI2]; omega) (by omega)
  simpa [hzI1,Value.cells] using this
 clear hiN hzN0 hzN1 hzN2 hiI hzI0 hzI1 hzI2
 go_enter Tryz.func15,Tryz.ntmps15
 go_wp2_with fail
 refine (zEc b off cap xs _ hm ((zA HW).below ((zC _ _).alloc (by simp) _) hB) (zA HS) (by simp; omega)).mono ?_
 rintro e w1 ⟨⟨v,rfl,hv⟩,hb1⟩
 have HV:=zB hv
 have bel1:Below w.heap.size w w1:=((zC _ _).alloc (by simp) _).trans (hb1.mono (by simp; omega))
 have z1:w.heap.size + 2 <= w1.heap.size:=by have:=hb1.size; simp at this; omega
 have c0:w1.cell? ⟨w.heap.size,0,none⟩ = some (.slice (some ⟨b,off,none⟩) xs.length cap):=(hb1.cell (p:=⟨w.heap.size,0,none⟩) (by simp; omega)).trans (by simp [go_sem])
 have c1:w1.cell? ⟨w.heap.size + 1,0,none⟩ = some (.slice none 0 0):=(hb1.cell (p:=⟨w.heap.size + 1,0,none⟩) (by simp)).trans (by simp [go_sem])
 have d1:w1.frozen? ⟨w.heap.size + 1,0,none⟩ = false:=(hb1.frozen (p:=⟨w.heap.size + 1,0,none⟩) (by simp)).trans (by simp [go_sem])
 clear hv hb1
 cases v
 ·go_wp2_with fail
  refine bodyPost_ret (v:=.tuple #[.agg #[.slice none 0 0],.bool false]) ?res rfl ⟨⟨none,0,[],false,rfl,zB (Or.inl ⟨rfl,rfl⟩),zB (Or.inr ⟨fun h=>Bool.false_ne_true ((zA HV).2 h),rfl,rfl⟩)⟩,?_⟩
  case res=>simp [results,Tryz.results15,go_sem,c1]
  exact bel1.setCell (by simp) _
 have HO:=zB ((zA HV).1 rfl)
 have h20:=(zA HO).2.1
 have h1:=(zA HO).1
 clear HV
 have HMV:=zB (show ∀ o:Obj,MvS ((w1.alloc o).alloc (.cells (madeCells #[.int .i64 0] xs.length) 3)) (w1.heap.size + 1) xs 0 from fun o=>by
  refine ⟨by simp,fun j hj=>?_⟩
  have:=zJC (w1.alloc o) xs.length j hj
  simpa [mv] using this)
 have HRN:=zB (show ∀ o:Obj,ZG ((w1.alloc (.cells (madeCells #[.int .i64 0,.string ⟨#[]⟩,.int .i64 0,.int .i64 0] (xs.length * 4)) 81)).alloc o) w1.heap.size w1.heap.size xs.length [] from fun o=>by
  have hb:ZG (w1.alloc (.cells (madeCells #[.int .i64 0,.string ⟨#[]⟩,.int .i64 0,.int .i64 0] (xs.length * 4)) 81)) w1.heap.size w1.heap.size xs.length []:=
   ⟨by simp [zH],Or.inr ⟨w1.heap.size,xs.length,_,rfl,Nat.le_refl _,heap_alloc_new w1 _,Nat.zero_le _,by unfold maxLen; omega,by rw [size_madeCells],by simp [zH]⟩⟩
  exact hb.below (zC _ _))
 have c0a:(w1.alloc (.cells (madeCells #[.int .i64 0,.string ⟨#[]⟩,.int .i64 0,.int .i64 0] (xs.length * 4)) 81)).cell? ⟨w.heap.size,0,none⟩ = some (.slice (some ⟨b,off,none⟩) xs.length cap):=((zC _ _).cell (p:=⟨w.heap.size,0,none⟩) (show w.heap.size < w1.heap.size by omega)).trans c0
 have c0b:((w1.alloc (.cells (madeCells #[.int .i64 0,.string ⟨#[]⟩,.int .i64 0,.int .i64 0] (xs.length * 4)) 81)).alloc (.cells (madeCells #[.int .i64 0] xs.length) 3)).cell? ⟨w.heap.size,0,none⟩ = some (.slice (some ⟨b,off,none⟩) xs.length cap):=((zC _ _).cell (p:=⟨w.heap.size,0,none⟩) (show w.heap.size < (w1.alloc (.cells (madeCells #[.int .i64 0,.string ⟨#[]⟩,.int .i64 0,.int .i64 0] (xs.length * 4)) 81)).heap.size by simp; omega)).trans c0a
 go_wp2
 go_loopw [4,23] (fun nv iv wr=>∃ (k g c:Nat) (us:List zD),k <= xs.length /\ iv = .int .i64 (k:Int) /\ nv = .slice (some ⟨g,0,none⟩) us.length c /\ Hid (us = er xs k) /\ Hid (ZG wr w1.heap.size g c us) /\ Hid (MvS wr (w1.heap.size + 1) xs k) /\ g ≠ w1.heap.size + 1 /\ us.length <= 20000 /\ w1.heap.size + 2 <= wr.heap.size /\ Below w1.heap.size w1 wr) (fun _ iv _=>xs.length - (intOf iv).toNat)
 case atStart=>exact ⟨0,w1.heap.size,xs.length,[],Nat.zero_le _,rfl,rfl,zB rfl,(zA HRN) _,(zA HMV) _,by omega,by simp,by simp,(zC _ _).alloc (by simp) _⟩
 case round=>
  clear HMV HRN
  obtain ⟨k,g,c,us,hk,rfl,rfl,hus,hrow,hmv,hgm,hul,hsz,hbel⟩:=hrel
  have belw:Below w.heap.size w wr:=bel1.trans (hbel.mono bel1.size)
  have hgr:=(zA hrow).lt
  by_cases hlt:k < xs.length
  ·obtain ⟨a0,a1,a2,a3⟩:=((zA HW) k hlt).below belw hB
   have hltI:(k:Int) < (xs.length:Int):=by omega
   obtain ⟨mk0,mk1⟩:=(zA hmv).2 k hlt
   by_cases h6:(atN xs k).k = 6
   ·have hkid:=(zA HO).kidsAt hlt
    have h1k:1 <= k /\ (atN xs k).a = (k:Int) - 1:=by
     have hk1:zM (atN xs k).k = 1:=by rw [h6]; rfl
     rcases hkid with h | h | h
     ·omega
     ·exact ⟨h.2.1,h.2.2.1⟩
     ·omega
    obtain ⟨h1k,hak⟩:=h1k
    have hak':(atN xs k).a = ((k - 1:Nat):Int):=by omega
    rw [h6] at a0
    rw [hak'] at a2
    have hk1I:((k - 1:Nat):Int) < (xs.length:Int):=by omega
    have HUS:=zB (show us = er xs (k + 1) by rw [zA hus,zDM h6])
    have HMV1:=zB ((zA hmv).below (zC wr (.cells #[.int .i64 6,.string (atN xs k).t,.int .i64 ((k - 1:Nat):Int),.int .i64 (atN xs k).b] 81)))
    have m0:=((zA HMV1).2 (k - 1) (by omega)).1
    obtain ⟨m1,m2⟩:=(zA HMV1).2 k hlt
    obtain ⟨mvv,hmvv⟩:∃ z,z = mv xs k (k - 1):=⟨_,rfl⟩
    obtain ⟨mvk,hmvk⟩:∃ z,z = mv xs k k:=⟨_,rfl⟩
    rw [<- hmvv] at m0
    rw [<- hmvk] at m1
    have HMV2:=zB ((zA HMV1).set hlt (v:=mvv) (by
     rw [hmvv]
     unfold mv
     rw [if_pos (by omega),Nat.sub_add_cancel h1k]
     show _ = ((if (atN xs k).k = 6 then cnt xs k else cnt xs k + 1:Nat):Int) - 1
     rw [if_pos h6]))
    clear hmvv hmvk mk0 mk1 hkid hak h6 hak' hmv
    go_wp2_with fail
    refine ⟨⟨k + 1,g,c,us,by omega,by go_num,rfl,HUS,zB (((zA hrow).below (zC _ _)).set _ _ _ (by omega)),HMV2,hgm,hul,by simp [World.setCell]; omega,(hbel.alloc hbel.size _).setCell (by simp) _⟩,by simp [intOf]; omega⟩
   ·obtain ⟨ja,jb,hja,hjb,hjal,hjbl,hern⟩:=zJB (zA HO) hlt h6
    have h6':((atN xs k).k == 6) = false:=by simpa using h6
    rw [hja] at a2
    rw [hjb] at a3
    obtain ⟨va,hva⟩:∃ z,z = mv xs k ja:=⟨_,rfl⟩
    obtain ⟨vb,hvb⟩:∃ z,z = mv xs k jb:=⟨_,rfl⟩
    rw [<- hva,<- hvb] at hern
    obtain ⟨vs,HVS⟩:∃ vs,Hid (vs = er xs (k + 1)):=⟨_,zB rfl⟩
    have HVU:=zB (show vs = us ++ [⟨(atN xs k).k,(atN xs k).t,va,vb⟩] by rw [zA HVS,zAy h6,zA hus,hern])
    have hvl:vs.length <= 20000:=by
     have:=zCT xs (k + 1)
     rw [zA HVS,zAK]; omega
    have hjaI:(ja:Int) < (xs.length:Int):=by omega
    have hjbI:(jb:Int) < (xs.length:Int):=by omega
    have ma0:(wr.alloc (.cells #[.int .i64 (atN xs k).k,.string (atN xs k).t,.int .i64 (ja:Int),.int .i64 (jb:Int)] 81)).cell? ⟨w1.heap.size + 1,ja,none⟩ = some (.int .i64 va):=by rw [hva]; exact (((zA hmv).below (zC wr _)).2 ja hjal).1
    have mb0:(wr.alloc (.cells #[.int .i64 (atN xs k).k,.string (atN xs k).t,.int .i64 (ja:Int),.int .i64 (jb:Int)] 81)).cell? ⟨w1.heap.size + 1,jb,none⟩ = some (.int .i64 vb):=by rw [hvb]; exact (((zA hmv).below (zC wr _)).2 jb hjbl).1
    have ma1:(wr.alloc (.cells #[.int .i64 (atN xs k).k,.string (atN xs k).t,.int .i64 (ja:Int),.int .i64 vb] 81)).cell? ⟨w1.heap.size + 1,ja,none⟩ = some (.int .i64 va):=by rw [hva]; exact (((zA hmv).below (zC wr _)).2 ja hjal).1
    have mb1:(wr.alloc (.cells #[.int .i64 (atN xs k).k,.string (atN xs k).t,.int .i64 (ja:Int),.int .i64 vb] 81)).cell? ⟨w1.heap.size + 1,jb,none⟩ = some (.int .i64 vb):=by rw [hvb]; exact (((zA hmv).below (zC wr _)).2 jb hjbl).1
    have ma2:(wr.alloc (.cells #[.int .i64 (atN xs k).k,.string (atN xs k).t,.int .i64 va,.int .i64 (jb:Int)] 81)).cell? ⟨w1.heap.size + 1,ja,none⟩ = some (.int .i64 va):=by rw [hva]; exact (((zA hmv).below (zC wr _)).2 ja hjal).1
    have mb2:(wr.alloc (.cells #[.int .i64 (atN xs k).k,.string (atN xs k).t,.int .i64 va,.int .i64 (jb:Int)] 81)).cell? ⟨w1.heap.size + 1,jb,none⟩ = some (.int .i64 vb):=by rw [hvb]; exact (((zA hmv).below (zC wr _)).2 jb hjbl).1
    have ma3:(wr.alloc (.cells #[.int .i64 (atN xs k).k,.string (atN xs k).t,.int .i64 va,.int .i64 vb] 81)).cell? ⟨w1.heap.size + 1,ja,none⟩ = some (.int .i64 va):=by rw [hva]; exact (((zA hmv).below (zC wr _)).2 ja hjal).1
    have mb3:(wr.alloc (.cells #[.int .i64 (atN xs k).k,.string (atN xs k).t,.int .i64 va,.int .i64 vb] 81)).cell? ⟨w1.heap.size + 1,jb,none⟩ = some (.int .i64 vb):=by rw [hvb]; exact (((zA hmv).below (zC wr _)).2 jb hjbl).1
    clear mk0 mk1 h6 hja hjb hern hva hvb
    go_wp2_with fail
    go_region
    clear ma0 mb0 ma1 mb1 ma2 mb2 ma3 mb3
    have BD:Below wr.heap.size wr (wr.alloc (.cells #[.int .i64 (atN xs k).k,.string (atN xs k).t,.int .i64 va,.int .i64 vb] 81)).drew:=(zC _ _).drew
    have z5:(wr.alloc (.cells #[.int .i64 (atN xs k).k,.string (atN xs k).t,.int .i64 va,.int .i64 vb] 81)).drew.heap.size = wr.heap.size + 1:=(show (wr.alloc (.cells #[.int .i64 (atN xs k).k,.string (atN xs k).t,.int .i64 va,.int .i64 vb] 81)).heap.size = wr.heap.size + 1 by simp)
    have n0:(wr.alloc (.cells #[.int .i64 (atN xs k).k,.string (atN xs k).t,.int .i64 va,.int .i64 vb] 81)).drew.cell? ⟨wr.heap.size,0,none⟩ = some (.int .i64 (atN xs k).k):=(show (wr.alloc (.cells #[.int .i64 (atN xs k).k,.string (atN xs k).t,.int .i64 va,.int .i64 vb] 81)).cell? ⟨wr.heap.size,0,none⟩ = some (.int .i64 (atN xs k).k) by simp [go_sem])
    have n1:(wr.alloc (.cells #[.int .i64 (atN xs k).k,.string (atN xs k).t,.int .i64 va,.int .i64 vb] 81)).drew.cell? ⟨wr.heap.size,1,none⟩ = some (.string (atN xs k).t):=(show (wr.alloc (.cells #[.int .i64 (atN xs k).k,.string (atN xs k).t,.int .i64 va,.int .i64 vb] 81)).cell? ⟨wr.heap.size,1,none⟩ = some (.string (atN xs k).t) by simp [go_sem])
    have n2:(wr.alloc (.cells #[.int .i64 (atN xs k).k,.string (atN xs k).t,.int .i64 va,.int .i64 vb] 81)).drew.cell? ⟨wr.heap.size,2,none⟩ = some (.int .i64 va):=(show (wr.alloc (.cells #[.int .i64 (atN xs k).k,.string (atN xs k).t,.int .i64 va,.int .i64 vb] 81)).cell? ⟨wr.heap.size,2,none⟩ = some (.int .i64 va) by simp [go_sem])
    have n3:(wr.alloc (.cells #[.int .i64 (atN xs k).k,.string (atN xs k).t,.int .i64 va,.int .i64 vb] 81)).drew.cell? ⟨wr.heap.size,3,none⟩ = some (.int .i64 vb):=(show (wr.alloc (.cells #[.int .i64 (atN xs k).k,.string (atN xs k).t,.int .i64 va,.int .i64 vb] 81)).cell? ⟨wr.heap.size,3,none⟩ = some (.int .i64 vb) by simp [go_sem])
    generalize (wr.alloc (.cells #[.int .i64 (atN xs k).k,.string (atN xs k).t,.int .i64 va,.int .i64 vb] 81)).drew = w5 at BD z5 n0 n1 n2 n3 ⊢
    have HMV5:=zB ((zA hmv).below BD)
    have HR5:=zB ((zA hrow).below BD)
    have B5:Below w1.heap.size w1 w5:=hbel.trans (BD.mono hbel.size)
    obtain ⟨m1,m2⟩:=(zA HMV5).2 k hlt
    obtain ⟨mvk,hmvk⟩:∃ z,z = mv xs k k:=⟨_,rfl⟩
    rw [<- hmvk] at m1
    have HMV6:=zB ((zA HMV5).set hlt (v:=(us.length:Int)) (by
     rw [zA hus,zAK]
     have e:(atN xs k).k ≠ 6:=by simpa using h6'
     show _ = ((if (atN xs k).k = 6 then cnt xs k else cnt xs k + 1:Nat):Int) - 1
     rw [if_neg e]
     omega))
    have HR6:=zB ((zA HR5).set (w1.heap.size + 1) k (.int .i64 (us.length:Int)) (by omega))
    have B6:Below w1.heap.size w1 (w5.setCell ⟨w1.heap.size + 1,k,none⟩ (.int .i64 (us.length:Int))):=B5.setCell (by simp) _
    have z6:(w5.setCell ⟨w1.heap.size + 1,k,none⟩ (.int .i64 (us.length:Int))).heap.size = wr.heap.size + 1:=by simpa [World.setCell] using z5
    have p0:(w5.setCell ⟨w1.heap.size + 1,k,none⟩ (.int .i64 (us.length:Int))).cell? ⟨wr.heap.size,0,none⟩ = some (.int .i64 (atN xs k).k):=(World.cell?_setCell_other _ _ _ _ (fun e=>by injection e with e; omega)).trans n0
    have p1:(w5.setCell ⟨w1.heap.size + 1,k,none⟩ (.int .i64 (us.length:Int))).cell? ⟨wr.heap.size,1,none⟩ = some (.string (atN xs k).t):=(World.cell?_setCell_other _ _ _ _ (fun e=>by injection e with e; omega)).trans n1
    have p2:(w5.setCell ⟨w1.heap.size + 1,k,none⟩ (.int .i64 (us.length:Int))).cell? ⟨wr.heap.size,2,none⟩ = some (.int .i64 va):=(World.cell?_setCell_other _ _ _ _ (fun e=>by injection e with e; omega)).trans n2
    have p3:(w5.setCell ⟨w1.heap.size + 1,k,none⟩ (.int .i64 (us.length:Int))).cell? ⟨wr.heap.size,3,none⟩ = some (.int .i64 vb):=(World.cell?_setCell_other _ _ _ _ (fun e=>by injection e with e; omega)).trans n3
    clear hmvk n0 n1 n2 n3 hmv hrow HMV5 HR5
    have NW:=zB (Z7 (w5.setCell ⟨w1.heap.size + 1,k,none⟩ (.int .i64 (us.length:Int))) (wr.heap.size + 1) ⟨(atN xs k).k,(atN xs k).t,va,vb⟩ z6)
    go_wp2_with (at_builtin; refine wpList_append_own_at _ rfl (.tmp 56) (.tmp 58) 26 rfl w1.heap.size 81 iN _ 4 40 Tryz.underlying26 (zA HIN) (zA HZN).1 (zA HZN).2.1 (zA HZN).2.2 rfl (by decide) _ us.length (zH us) rfl ((zA HR6).below (zC _ _)) ⟨wr.heap.size + 1,0,none⟩ 1 1 (zH [⟨(atN xs k).k,(atN xs k).t,va,vb⟩]) rfl rfl (zA NW) (zT _) ?b1 ?b2 ?b3 ?next)
    case b1=>unfold maxLen; omega
    case b2=>omega
    case b3=>omega
    case next=>
     intro v4 w4 hown4 hgrow4 hnil4 hat4
     obtain ⟨g4,c4,rfl,hr4⟩:=ZG.snoc hown4 (by simp [hnil4]) (zA HVU)
     have HR4:=zB hr4
     have B4:=zB ((B6.alloc B6.size _).grown hgrow4 (by simp; omega) (fun q hq=>by simp [Value.ownBlock] at hq; omega))
     have hg4:g4 ≠ w1.heap.size + 1:=by simp [Value.ownBlock,World.setCell] at hat4; omega
     have HMV4:=zB ((((zA HMV6).below (zC _ _)).kept (g':=g) ((zE.refl _ _).grownRow hgrow4 (fun q hq=>by simp [Value.ownBlock] at hq; omega)) (by omega)))
     have z4:w1.heap.size + 2 <= w4.heap.size:=by have:=hgrow4.size; simp at this; omega
     clear hown4 hgrow4 hnil4 hr4 hat4 HR6 HMV6 NW p0 p1 p2 p3
     go_wp2_with fail
     exact ⟨⟨k + 1,g4,c4,vs,by omega,by go_num,rfl,HVS,HR4,HMV4,hg4,hvl,z4,zA B4⟩,by simp [intOf]; omega⟩
  ·have hkx:k = xs.length:=by omega
   have e1:wr.cell? ⟨w.heap.size + 1,0,none⟩ = some (.slice none 0 0):=(hbel.cell (p:=⟨w.heap.size + 1,0,none⟩) (show w.heap.size + 1 < w1.heap.size by omega)).trans c1
   have f1:wr.frozen? ⟨w.heap.size + 1,0,none⟩ = false:=(hbel.frozen (p:=⟨w.heap.size + 1,0,none⟩) (show w.heap.size + 1 < w1.heap.size by omega)).trans d1
   have HUS:=zB (show us = er xs xs.length by rw [zA hus,hkx])
   clear c0 c1 d1 c0a c0b hkx
   go_wp2_with fail
   refine bodyPost_ret (v:=.tuple #[.agg #[.slice (some ⟨g,0,none⟩) us.length c],.bool true]) ?res rfl ⟨⟨some ⟨g,0,none⟩,c,us,true,rfl,zB (Or.inr ⟨g,rfl,by omega,?_⟩),zB (Or.inl ⟨zA HO,rfl,zA HUS⟩)⟩,?_⟩
   case res=>simp [results,Tryz.results15,go_sem,e1]
   ·exact (ZS (zA hrow)).2.setCell _ _ _ (by omega)
   ·exact belw.setCell (by simp) _
end Go.Proofs.YtfboipappaonhaaGreat
namespace Go.Proofs.YtfboipappaonhaaGreat
set_option linter.unusedSimpArgs false
set_option linter.unusedVariables false
set_option maxHeartbeats 16000000
set_option maxRecDepth 100000
open Go.RowKit Go.Maps
theorem zAH (bo bs:Nat) (xs:List OpR) (o:zD) (w:World) (hi:Idx w bo bs xs xs.length) (hc:zK xs 0) (hok:Z1 xs xs.length) (ht:o.t.size <= maxLen) :
  Calls Tryz.prog 89 #[.agg #[.map (some bo),.map (some bs)],.agg #[.int .i64 o.k,.string o.t,.int .i64 o.a,.int .i64 o.b]] w fun e w'=>e = .returned (.int .i64 (ZF xs o)) /\ Below w.heap.size w w':=by
 have HI:=zB (fun o1 o2=>(hi.kept (zC w o1)).kept (zC _ o2))
 have HC:=zB hc
 have HOK:=zB hok
 clear hi hc hok
 go_enter Tryz.func89,Tryz.ntmps89
 go_wp2_with fail
 refine (zBG bo bs xs o _ ((zA HI) _ _) (zA HC) (zA HOK) ht).mono ?_
 rintro e w1 ⟨⟨p,v,rfl,hp⟩,hb1⟩
 have HL:=zB (zKT hp)
 have bel1:Below w.heap.size w w1:=((zC _ _).alloc (by simp) _).trans (hb1.mono (by simp; omega))
 clear hp hb1
 cases v
 ·go_wp2_with fail
  go_ret
  exact ⟨zF (by rw [zA HL]; simp),bel1.alloc bel1.size _⟩
 ·go_wp2_with fail
  go_ret
  exact ⟨zF (by rw [zA HL]; simp),bel1.alloc bel1.size _⟩
end Go.Proofs.YtfboipappaonhaaGreat
