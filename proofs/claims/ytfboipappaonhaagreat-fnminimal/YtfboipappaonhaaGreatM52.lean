import Derived.Test.YtfboipappaonhaaGreatM18
import Derived.Test.YtfboipappaonhaaGreatM21
import Derived.Test.YtfboipappaonhaaGreatM29
import Derived.Test.YtfboipappaonhaaGreatM36
import Derived.Test.YtfboipappaonhaaGreatM39
import Derived.Test.YtfboipappaonhaaGreatM45
import Derived.Test.YtfboipappaonhaaGreatM46
import Derived.Test.YtfboipappaonhaaGreatM51
namespace Go.Proofs.YtfboipappaonhaaGreat
set_option linter.unusedSimpArgs false
set_option linter.unusedVariables false
set_option maxHeartbeats 16000000
set_option maxRecDepth 100000
open Go.RowKit
theorem ZK.some {w:World} {n:Nat} {a:Option Addr} {us:List zD} (h:ZK w n a us) (h1:1 <= us.length):∃ g,a = some ⟨g,0,none⟩ /\ n <= g /\ zM w g us us.length:=by
 rcases h with ⟨h,_⟩ | h
 ·omega
 ·exact h
theorem ZK.lower {w:World} {n n':Nat} {a:Option Addr} {us:List zD} (h:ZK w n a us) (hn:n' <= n):ZK w n' a us:=by
 rcases h with h | ⟨g,rfl,h1,h2⟩
 ·exact Or.inl h
 ·exact Or.inr ⟨g,rfl,by omega,h2⟩
theorem zJC (a a':Option Addr) (cap cap':Nat) (l l':List UInt8) (w:World) (hm:l.length <= maxLen) (hm':l'.length <= maxLen) (hcap:l.length <= cap) (hcap':l'.length <= cap') (h:zEz w a l) (h':zEz w a' l') :
  Calls Tryz.prog 4 #[.slice a l.length cap,.slice a' l'.length cap'] w fun e w'=>e = .returned (.bool true) /\ Below w.heap.size w w':=by
 have HA:=zB h
 have HA':=zB h'
 clear h h'
 by_cases hl:l.length <= 1048576
 case neg=>
  have hlI:(1048576:Int) < (l.length:Int):=by omega
  unfold maxLen at hm
  go_enter Tryz.func4,Tryz.ntmps4
  go_wp2_with fail
  go_ret
  exact ⟨rfl,Below.refl _ _⟩
 have hlI:¬ (1048576:Int) < (l.length:Int):=by omega
 by_cases hl':l'.length <= 1048576
 case neg=>
  have hlI':(1048576:Int) < (l'.length:Int):=by omega
  unfold maxLen at hm'
  go_enter Tryz.func4,Tryz.ntmps4
  go_wp2_with fail
  go_ret
  exact ⟨rfl,Below.refl _ _⟩
 have hlI':¬ (1048576:Int) < (l'.length:Int):=by omega
 go_enter Tryz.func4,Tryz.ntmps4
 go_wp2_with fail
 (with_reducible refine (zC3 a cap l _ hl hcap (zA HA)).mono ?_)
 rintro e w1 ⟨⟨gt,ct,gn,cn,ns,us,rfl,hgt,hgn,hF1,hN1,hD1⟩,hb1⟩
 obtain ⟨hnl,hns,hul,hus⟩:=(zA hD1).sized
 have HNS:=zB hns
 have HUS:=zB hus
 have HW1:=zB (show Below w1.heap.size w1 ((w1.alloc (.cells #[.slice (some ⟨gt,0,none⟩) ns.length ct] 25)).alloc (.cells #[.slice (some ⟨gn,0,none⟩) us.length cn] 28)) from (zC _ _).alloc (by simp) _)
 have HF1:=zB ((zA hF1).below (zA HW1) (zA hF1).1)
 have HN1:=zB ((zA hN1).below (zA HW1) (zA hN1).1)
 have bel1:=zB (hb1.trans ((zA HW1).mono hb1.size))
 clear hb1 hns hus hF1 hN1 HW1
 go_wp2_with fail
 (with_reducible refine (zBx gt 0 ct gn 0 cn ns us _ hnl (by omega) (zA HF1).ops (zA HNS) (zA HF1).lt1 (zA HN1).ops (zA HUS) (zA HN1).lt1).mono ?_)
 rintro e w2 ⟨⟨ag,cg,gs0,v,rfl,hO2,hG2⟩,hb2⟩
 have HB2:=zB (zC w2 (.cells #[.slice ag gs0.length cg] 28))
 have HN2:=zB (((zA HN1).below hb2 (zA HN1).1).below (zA HB2) (by have:=(zA HN1).1; have:=hb2.size; omega))
 have HF2:=zB (((zA HF1).below hb2 (zA HF1).1).below (zA HB2) (by have:=(zA HF1).1; have:=hb2.size; omega))
 have z2:w1.heap.size + 2 <= w2.heap.size:=by have:=hb2.size; simpa using this
 have u2:=((zA HB2).cell (p:=⟨w1.heap.size + 1,0,none⟩) (by show w1.heap.size + 1 < w2.heap.size; omega)).trans (show w2.cell? ⟨w1.heap.size + 1,0,none⟩ = some (.slice (some ⟨gn,0,none⟩) us.length cn) from (hb2.cell (p:=⟨w1.heap.size + 1,0,none⟩) (by simp)).trans (by simp [go_sem]))
 have q2:=((zA HB2).cell (p:=⟨w1.heap.size,0,none⟩) (by show w1.heap.size < w2.heap.size; omega)).trans (show w2.cell? ⟨w1.heap.size,0,none⟩ = some (.slice (some ⟨gt,0,none⟩) ns.length ct) from (hb2.cell (p:=⟨w1.heap.size,0,none⟩) (by simp; omega)).trans (by simp [go_sem]))
 have bel2:=zB (((zA bel1).trans (hb2.mono (zA bel1).size)).trans ((zA HB2).mono (by have:=hb2.size; have:=(zA bel1).size; omega)))
 clear hb2 HF1 HN1 bel1 hO2
 go_wp2_with fail
 (with_reducible refine (zC3 a cap l _ hl hcap ((zA HA).step ((zA bel2)))).mono ?_)
 rintro e w3 ⟨⟨gt',ct',gn',cn',ns',us',rfl,hgt',hgn',hF3,hN3,hD3⟩,hb3⟩
 obtain ⟨rfl,rfl⟩:=(zA hD3).one (zA hD1)
 have HW3:=zB (show Below w3.heap.size w3 ((w3.alloc (.cells #[.slice (some ⟨gt',0,none⟩) ns'.length ct'] 25)).alloc (.cells #[.slice (some ⟨gn',0,none⟩) us'.length cn'] 28)) from (zC _ _).alloc (by simp) _)
 have HF3:=zB ((zA hF3).below (zA HW3) (zA hF3).1)
 have HT3:=zB ((zA hN3).below (zA HW3) (zA hN3).1)
 have HN3:=zB (((zA HN2).below hb3 (zA HN2).1).below (zA HW3) (by have:=(zA HN2).1; have:=hb3.size; omega))
 have HQ3:=zB (((zA HF2).below hb3 (zA HF2).1).below (zA HW3) (by have:=(zA HF2).1; have:=hb3.size; omega))
 have l2:w1.heap.size + 1 < (w2.alloc (.cells #[.slice ag gs0.length cg] 28)).heap.size:=block_lt_of_cell u2
 have u3:=((zA HW3).cell (p:=⟨w1.heap.size + 1,0,none⟩) (by show w1.heap.size + 1 < w3.heap.size; have:=hb3.size; omega)).trans ((hb3.cell (p:=⟨w1.heap.size + 1,0,none⟩) l2).trans u2)
 have q3:=((zA HW3).cell (p:=⟨w1.heap.size,0,none⟩) (by show w1.heap.size < w3.heap.size; have:=hb3.size; omega)).trans ((hb3.cell (p:=⟨w1.heap.size,0,none⟩) (by show w1.heap.size < (w2.alloc (.cells #[.slice ag gs0.length cg] 28)).heap.size; omega)).trans q2)
 have bel3:=zB (((zA bel2).trans (hb3.mono (zA bel2).size)).trans ((zA HW3).mono (by have:=hb3.size; have:=(zA bel2).size; omega)))
 clear hb3 hF3 hN3 hD3 hD1 HW3 u2 q2 HN2 HF2 bel2 l2
 go_wp2_with fail
 (with_reducible refine (zF3 gt' 0 ct' gn' 0 cn' ns' us' _ hnl (by omega) (zA HF3).ops (zA HNS) (zA HF3).lt1 (zA HT3).ops (zA HUS) (zA HT3).lt1).mono ?_)
 rintro e w4 ⟨⟨a4,c4,gs,v',rfl,hO4,hG4⟩,hb4⟩
 obtain ⟨rfl,rfl⟩:=(zA hG4).one (zA hG2)
 have HB4:=zB (zC w4 (.cells #[.slice a4 gs.length c4] 28))
 have HF4:=zB (((zA HF3).below hb4 (zA HF3).1).below (zA HB4) (by have:=(zA HF3).1; have:=hb4.size; omega))
 have HN4:=zB (((zA HN3).below hb4 (zA HN3).1).below (zA HB4) (by have:=(zA HN3).1; have:=hb4.size; omega))
 have HQ4:=zB (((zA HQ3).below hb4 (zA HQ3).1).below (zA HB4) (by have:=(zA HQ3).1; have:=hb4.size; omega))
 have u4:=(hb4.cell (p:=⟨w1.heap.size + 1,0,none⟩) (block_lt_of_cell u3)).trans u3
 have q4:=(hb4.cell (p:=⟨w1.heap.size,0,none⟩) (block_lt_of_cell q3)).trans q3
 have t4:w4.cell? ⟨w3.heap.size,0,none⟩ = some (.slice (some ⟨gt',0,none⟩) ns'.length ct'):=(hb4.cell (p:=⟨w3.heap.size,0,none⟩) (by simp; omega)).trans (by simp [go_sem])
 have lu4:w1.heap.size + 1 < w4.heap.size:=block_lt_of_cell u4
 have lt4:w3.heap.size < w4.heap.size:=block_lt_of_cell t4
 have nu4:¬ w1.heap.size + 1 = w4.heap.size:=by omega
 have nq4:¬ w1.heap.size = w4.heap.size:=by omega
 have nt4:¬ w3.heap.size = w4.heap.size:=by omega
 have bel4:=zB (((zA bel3).trans (hb4.mono (zA bel3).size)).trans ((zA HB4).mono (by have:=hb4.size; have:=(zA bel3).size; omega)))
 clear hb4 hG4 HF3 HT3 HN3 HQ3 u3 q3 bel3
 cases v' with
 | false=>
  have hs0:gs = []:=by
   rcases zA hG2 with ⟨_,h,_⟩ | ⟨_,_,h⟩
   ·cases h
   ·exact h
  subst hs0
  go_wp2_with fail
  go_ret
  exact ⟨rfl,zA bel4⟩
 | true=>
 obtain ⟨T,G,hT0⟩:=zNl (zA hG2)
 have HT:=zB hT0
 have hgp:1 <= gs.length:=hT0.ord.1
 have hg20:gs.length <= 20000:=hT0.ord.2.1
 have HGZ:=zB hT0.ord.sizedN
 obtain ⟨g4,rfl,hg4,hF4'⟩:=ZK.some (zA hO4) hgp
 have HG4:=zB (hF4'.below (zA HB4) hF4'.1)
 clear hT0 hG2 hO4 hF4'
 go_wp2_with fail
 (with_reducible refine (zDL gn 0 cn us' _ (by omega) (zA HN4).ops (zA HUS) (zA HN4).lt1).mono ?_)
 rintro e w5 ⟨⟨a5,c5,bs5,v5,rfl,hO5,hE5⟩,hb5⟩
 have hbe:=(zA HT).bare bs5 v5 (zA hE5)
 have HBE:=zB hbe
 have hbl:bs5.length <= 20000:=by rw [hbe,zj]; exact (zA HT).z
 have hbp:1 <= bs5.length:=by rw [hbe,zj]; exact Sh.pos (zA HT).sh
 obtain ⟨g5,rfl,hg5,hF5⟩:=ZK.some (zA hO5) hbp
 have HB5:=zB (zC w5 (.cells #[.slice (some ⟨g5,0,none⟩) bs5.length c5] 28))
 have HR5:=zB (hF5.below (zA HB5) hF5.1)
 have HF5:=zB (((zA HF4).below hb5 (zA HF4).1).below (zA HB5) (by have:=(zA HF4).1; have:=hb5.size; omega))
 have HQ5:=zB (((zA HQ4).below hb5 (zA HQ4).1).below (zA HB5) (by have:=(zA HQ4).1; have:=hb5.size; omega))
 have HG5:=zB (((zA HG4).below hb5 (zA HG4).1).below (zA HB5) (by have:=(zA HG4).1; have:=hb5.size; omega))
 have q5:=(hb5.cell (p:=⟨w1.heap.size,0,none⟩) (by simp; omega)).trans (((zA HB4).cell (p:=⟨w1.heap.size,0,none⟩) (by show w1.heap.size < w4.heap.size; omega)).trans q4)
 have t5:=(hb5.cell (p:=⟨w3.heap.size,0,none⟩) (by simp; omega)).trans (((zA HB4).cell (p:=⟨w3.heap.size,0,none⟩) lt4).trans t4)
 have y5:w5.cell? ⟨w4.heap.size,0,none⟩ = some (.slice (some ⟨g4,0,none⟩) gs.length c4):=(hb5.cell (p:=⟨w4.heap.size,0,none⟩) (by simp)).trans (by simp [go_sem])
 have ly5:w4.heap.size < w5.heap.size:=block_lt_of_cell y5
 have n50:¬ w1.heap.size = w5.heap.size:=by omega
 have n51:¬ w3.heap.size = w5.heap.size:=by omega
 have n52:¬ w4.heap.size = w5.heap.size:=by omega
 have bel5:=zB (((zA bel4).trans (hb5.mono (zA bel4).size)).trans ((zA HB5).mono (by have:=hb5.size; have:=(zA bel4).size; omega)))
 clear hbe hO5 hE5 hb5 hF5 HF4 HN4 HQ4 HG4 u4 q4 t4 bel4 HB4
 obtain ⟨W5,hW5⟩:∃ W5,W5 = (w5.alloc (.cells #[.slice (some ⟨g5,0,none⟩) bs5.length c5] 28)).drew:=⟨_,rfl⟩
 have HGd:=zB (show zM W5 g4 gs gs.length by rw [hW5]; exact zA HG5)
 have HQd:=zB (show zf W5 gt ns' ns'.length by rw [hW5]; exact zA HQ5)
 have HRd:=zB (show zM W5 g5 bs5 bs5.length by rw [hW5]; exact zA HR5)
 have HFd:=zB (show zf W5 gt' ns' ns'.length by rw [hW5]; exact zA HF5)
 have zW:w5.heap.size + 1 <= W5.heap.size:=by rw [hW5]; exact Nat.le_of_eq (by simp [World.drew])
 have Q5:W5.cell? ⟨w1.heap.size,0,none⟩ = some (.slice (some ⟨gt,0,none⟩) ns'.length ct):=by rw [hW5]; exact ((zA HB5).cell (p:=⟨w1.heap.size,0,none⟩) (by show w1.heap.size < w5.heap.size; omega)).trans q5
 have T5:W5.cell? ⟨w3.heap.size,0,none⟩ = some (.slice (some ⟨gt',0,none⟩) ns'.length ct'):=by rw [hW5]; exact ((zA HB5).cell (p:=⟨w3.heap.size,0,none⟩) (by show w3.heap.size < w5.heap.size; omega)).trans t5
 have Y5:W5.cell? ⟨w4.heap.size,0,none⟩ = some (.slice (some ⟨g4,0,none⟩) gs.length c4):=by rw [hW5]; exact ((zA HB5).cell (p:=⟨w4.heap.size,0,none⟩) ly5).trans y5
 have X5:W5.cell? ⟨w5.heap.size,0,none⟩ = some (.slice (some ⟨g5,0,none⟩) bs5.length c5):=by rw [hW5]; simp [go_sem]
 have belW:=zB (show Below w.heap.size w W5 by rw [hW5]; exact (zA bel5).drew)
 have HX1:=zB (zFq gt 0 ct g4 0 c4 ns' gs W5 hnl (by omega) (zA HQd).ops (zA HNS) (zA HQd).lt1 (zA HGd).ops (zA HGZ) (zA HGd).lt1)
 rw [hW5] at HX1
 clear HF5 HQ5 HG5 HR5 bel5
 go_wp2_with fail
 go_region_held3 (fun W=>W.cell? ⟨w1.heap.size,0,none⟩ = some (.slice (some ⟨gt,0,none⟩) ns'.length ct) /\ W.cell? ⟨w4.heap.size,0,none⟩ = some (.slice (some ⟨g4,0,none⟩) gs.length c4) /\ W.cell? ⟨w5.heap.size,0,none⟩ = some (.slice (some ⟨g5,0,none⟩) bs5.length c5)) (go_keep) (first
  | (go_at_call 20; (with_reducible refine (zA HX1).mono ?_); rintro e w6 ⟨⟨c6,rfl,hok⟩,hb6⟩; rw [<- hW5] at hb6; obtain rfl:=(zA HT).ok c6 hok; have HB6:=zB hb6; have z6:=hb6.size; have q6:=(hb6.cell (p:=⟨w1.heap.size,0,none⟩) (block_lt_of_cell Q5)).trans Q5; have y6:=(hb6.cell (p:=⟨w4.heap.size,0,none⟩) (block_lt_of_cell Y5)).trans Y5; have x6:=(hb6.cell (p:=⟨w5.heap.size,0,none⟩) (block_lt_of_cell X5)).trans X5; have HG6:=zB ((zA HGd).below hb6 (zA HGd).1); have HX2:=zB (zDL g4 0 c4 gs w6 (by omega) (zA HG6).ops (zA HGZ) (zA HG6).1); clear hok hb6)
  | (go_at_call 11; (with_reducible refine (zA HX2).mono ?_); rintro e w7 ⟨⟨a7,c7,bs7,v7,rfl,hO7,hE7⟩,hb7⟩; obtain rfl:bs5 = bs7:=(zA HBE).trans ((zA HT).er bs7 v7 (zA hE7)).symm; have HB7:=zB hb7; have z7:=hb7.size; have q7:=(hb7.cell (p:=⟨w1.heap.size,0,none⟩) (block_lt_of_cell q6)).trans q6; have y7:=(hb7.cell (p:=⟨w4.heap.size,0,none⟩) (block_lt_of_cell y6)).trans y6; have x7:=(hb7.cell (p:=⟨w5.heap.size,0,none⟩) (block_lt_of_cell x6)).trans x6; have HR6:=zB ((zA HRd).below (zA HB6) (zA HRd).1); have HR7:=zB ((zA HR6).below hb7 (zA HR6).1); have HX3:=zB (zCm a7 (some ⟨g5,0,none⟩) c7 c5 bs5 bs5 w7 (by omega) (by omega) (ZK.arg (zA hO7)) (zM.arg (zA HR7))); clear hE7 hb7)
  | (go_at_call 16; (with_reducible refine (zA HX3).mono ?_); rintro e w8 ⟨⟨v8,rfl,hv8⟩,hb8⟩; obtain rfl:v8 = true:=(by simpa using hv8); have HB8:=zB hb8; have z8:=hb8.size; have q8:=(hb8.cell (p:=⟨w1.heap.size,0,none⟩) (block_lt_of_cell q7)).trans q7; have y8:=(hb8.cell (p:=⟨w4.heap.size,0,none⟩) (block_lt_of_cell y7)).trans y7; have x8:=(hb8.cell (p:=⟨w5.heap.size,0,none⟩) (block_lt_of_cell x7)).trans x7; clear hv8 hb8))
 have HG8:=zB (((zA HG6).below (zA HB7) (zA HG6).1).below (zA HB8) (by have:=(zA HG6).1; omega))
 have HR8:=zB ((zA HR7).below (zA HB8) (zA HR7).1)
 have HF8:=zB ((((zA HFd).below (zA HB6) (zA HFd).1).below (zA HB7) (by have:=(zA HFd).1; omega)).below (zA HB8) (by have:=(zA HFd).1; omega))
 have t8:=((zA HB8).cell (p:=⟨w3.heap.size,0,none⟩) (by show w3.heap.size < w7.heap.size; omega)).trans (((zA HB7).cell (p:=⟨w3.heap.size,0,none⟩) (by show w3.heap.size < w6.heap.size; omega)).trans (((zA HB6).cell (p:=⟨w3.heap.size,0,none⟩) (block_lt_of_cell T5)).trans T5))
 have bel8:=zB ((((zA belW).trans ((zA HB6).mono (zA belW).size)).trans ((zA HB7).mono (by have:=(zA belW).size; omega))).trans ((zA HB8).mono (by have:=(zA belW).size; omega)))
 clear HX1 HX2 HX3 HB6 HB7 HB8 HG6 HR6 HR7 HGd HQd HRd HFd Q5 T5 Y5 X5 q6 y6 x6 q7 y7 x7 q8 belW hO7 zW hW5 HB5 q5 t5 y5
 by_cases heq:gs.length = bs5.length
 ·have heqB:((gs.length:Int) == (bs5.length:Int)) = true:=by simp [heq]
  clear heq
  go_wp2_with fail
  go_ret
  exact ⟨rfl,zA bel8⟩
 have heqB:((gs.length:Int) == (bs5.length:Int)) = false:=beq_eq_false_iff_ne.2 (by omega)
 have hgc:1 <= gc G:=by
  have h1:=(zA HT).cnt
  have h2:bs5.length = tsz (erT T):=by rw [zA HBE,zj]
  omega
 have hgcn:gcn gs gs.length = gc G:=by rw [(zA HT).x]; exact (zMv (zA HT).gsh (fun _=>true)).2
 have HX:=zB (zIF g4 c4 cap' a' l' gs w8 (by omega) hl' hcap' (zA HG8).ops (zA HG8).1 ((zA HA').step (zA bel8)) (zA HT).ord)
 clear heq
 go_wp2_with fail
 (with_reducible refine (zA HX).mono ?_)
 rintro e w9 ⟨⟨g9,c9,st,rfl,hg9,hF9,hst⟩,hb9⟩
 obtain ⟨ls,hls⟩:∃ ls,ls = wo gs st gs.length:=⟨_,rfl⟩
 have hle:ls = nd (rmT st G 0) 0:=by rw [hls,(zA HT).x]; exact (zMv (zA HT).gsh st).1
 rw [<- hls] at hF9 ⊢
 have HL:=zB ((zA HT).less st (by
  obtain ⟨i,hi,hs⟩:=hst (by omega)
  exact ⟨i,by omega,hs⟩))
 obtain ⟨L,HLE⟩:∃ L,Hid (L = rmT st G 0):=⟨_,zB rfl⟩
 rw [<- zA HLE] at HL hle
 have HLX:=zB hle
 have hlp:1 <= ls.length:=by rw [hle,zj]; exact Sh.pos (zA HL).w.sh
 have hl20:ls.length <= 20000:=by rw [hle,zj]; exact (zA HL).z
 have HLZ:=zB (show Zj ls by rw [hle]; exact (zA HL).sz)
 have HB9:=zB (zC w9 (.cells #[.slice (some ⟨g9,0,none⟩) ls.length c9] 28))
 have HL9:=zB (hF9.below (zA HB9) hF9.1)
 have HF9:=zB (((zA HF8).below hb9 (zA HF8).1).below (zA HB9) (by have:=(zA HF8).1; have:=hb9.size; omega))
 have HR9:=zB (((zA HR8).below hb9 (zA HR8).1).below (zA HB9) (by have:=(zA HR8).1; have:=hb9.size; omega))
 have t9:=(hb9.cell (p:=⟨w3.heap.size,0,none⟩) (block_lt_of_cell t8)).trans t8
 have x9:=(hb9.cell (p:=⟨w5.heap.size,0,none⟩) (block_lt_of_cell x8)).trans x8
 have lt9:w3.heap.size < w9.heap.size:=block_lt_of_cell t9
 have lx9:w5.heap.size < w9.heap.size:=block_lt_of_cell x9
 have nt9:¬ w3.heap.size = w9.heap.size:=by omega
 have nx9:¬ w5.heap.size = w9.heap.size:=by omega
 have bel9:=zB (((zA bel8).trans (hb9.mono (zA bel8).size)).trans ((zA HB9).mono (by have:=hb9.size; have:=(zA bel8).size; omega)))
 clear hb9 hF9 HF8 HR8 HG8 t8 x8 y8 bel8 HX hst hls hle hgcn
 go_wp2_with fail
 (with_reducible refine (zFr gt' 0 ct' g9 0 c9 ns' ls _ hnl (by omega) (zA HF9).ops (zA HNS) (zA HF9).lt1 (zA HL9).ops (zA HLZ) (zA HL9).lt1).mono ?_)
 rintro e wa ⟨⟨ca,rfl,hoka⟩,hba⟩
 obtain rfl:=(zA HL).ok ca (by rw [<- zA HLX]; exact hoka)
 have HFa:=zB ((zA HF9).below hba (zA HF9).1)
 have HLa:=zB ((zA HL9).below hba (zA HL9).1)
 have HRa:=zB ((zA HR9).below hba (zA HR9).1)
 have ta:=(hba.cell (p:=⟨w3.heap.size,0,none⟩) (by simp; omega)).trans (((zA HB9).cell (p:=⟨w3.heap.size,0,none⟩) lt9).trans t9)
 have xa:=(hba.cell (p:=⟨w5.heap.size,0,none⟩) (by simp; omega)).trans (((zA HB9).cell (p:=⟨w5.heap.size,0,none⟩) lx9).trans x9)
 have ya:wa.cell? ⟨w9.heap.size,0,none⟩ = some (.slice (some ⟨g9,0,none⟩) ls.length c9):=(hba.cell (p:=⟨w9.heap.size,0,none⟩) (by simp)).trans (by simp [go_sem])
 have bela:=zB ((zA bel9).trans (hba.mono (zA bel9).size))
 clear hba hoka HF9 HL9 HR9 t9 x9 bel9 HB9
 obtain ⟨s,HS⟩:∃ s,Hid (s = yTx (ySy L)):=⟨_,zB rfl⟩
 have hsm:s.size <= maxLen:=by
  have hy:=zHG L
  have hz:=(zA HL).z
  have hb:=zHS ((ySy L).map wS) (fun k hk=>by
   rw [List.length_map] at hk
   have:atW ((ySy L).map wS) k = wS (ySy L)[k]:=by simp [atW,List.getD_eq_getElem?_getD,hk]
   rw [this]
   exact zGU L (zA HL).tx _ (List.getElem_mem hk)) (ySy L).length (by simp)
  rw [<- zGb,<- zA HS] at hb
  have e:s.data.toList.length = s.size:=by simp
  unfold maxLen
  omega
 have HPR:=zB (show ∀ W,Below wa.heap.size wa W -> zM W g9 ls ls.length /\ zf W gt' ns' ns'.length /\ zM W g5 bs5 bs5.length /\ W.cell? ⟨w3.heap.size,0,none⟩ = some (.slice (some ⟨gt',0,none⟩) ns'.length ct') /\ W.cell? ⟨w9.heap.size,0,none⟩ = some (.slice (some ⟨g9,0,none⟩) ls.length c9) /\ W.cell? ⟨w5.heap.size,0,none⟩ = some (.slice (some ⟨g5,0,none⟩) bs5.length c5) from fun W hb=>⟨(zA HLa).below hb (zA HLa).1,(zA HFa).below hb (zA HFa).1,(zA HRa).below hb (zA HRa).1,(hb.cell (p:=⟨w3.heap.size,0,none⟩) (block_lt_of_cell ta)).trans ta,(hb.cell (p:=⟨w9.heap.size,0,none⟩) (block_lt_of_cell ya)).trans ya,(hb.cell (p:=⟨w5.heap.size,0,none⟩) (block_lt_of_cell xa)).trans xa⟩)
 have HD1:=zB (show Below wa.heap.size wa wa.drew from (Below.refl _ _).drew)
 have HD2:=zB (show Below wa.heap.size wa (wa.alloc (.cells #[.slice none 0 0] 28)).drew from (zC _ _).drew)
 have HYY:=zB (show ∀ W,Below wa.heap.size wa W -> Calls Tryz.prog 22 #[.agg #[.slice (some ⟨g9,0,none⟩) ls.length c9]] W fun e w'=>e = .returned (.string s) /\ Below W.heap.size W w' from fun W hb=>by
  have hf:=(zA HPR) W hb
  rw [zA HS]
  exact zF2 g9 0 c9 ns' ls L W (zA HL).w (by rw [zA HLX]; exact Zu L) (by rw [zA HLX,zj]) hl20 (zA HL).tx hf.1.ops hf.1.1)
 have HPP:=zB (show ∀ W,Below wa.heap.size wa W -> Calls Tryz.prog 13 #[.agg #[.slice (some ⟨gt',0,none⟩) ns'.length ct'],.string s] W (zAd ns' s W) from fun W hb=>by
  have hf:=((zA HPR) W hb).2.1
  exact zFv gt' 0 ct' ns' s W hnl hf.ops (zA HNS) hf.1 hsm)
 have HY1:=zB ((zA HYY) _ (zA HD1))
 have HY2:=zB ((zA HYY) _ (zA HD2))
 have za:wa.heap.size <= wa.drew.heap.size:=Nat.le_refl _
 have lta:w3.heap.size < wa.heap.size:=block_lt_of_cell ta
 have lya:w9.heap.size < wa.heap.size:=block_lt_of_cell ya
 have nta:¬ w3.heap.size = wa.heap.size:=by omega
 have nya:¬ w9.heap.size = wa.heap.size:=by omega
 have nta':¬ wa.heap.size = w3.heap.size:=by omega
 have nya':¬ wa.heap.size = w9.heap.size:=by omega
 have za2:wa.heap.size + 1 <= (wa.alloc (.cells #[.slice none 0 0] 28)).drew.heap.size:=by show wa.heap.size + 1 <= (wa.alloc (.cells #[.slice none 0 0] 28)).heap.size; simp
 clear HLa HFa HRa
 go_wp2_with fail
 go_region_held3 (fun W=>W.cell? ⟨w3.heap.size,0,none⟩ = some (.slice (some ⟨gt',0,none⟩) ns'.length ct') /\ W.cell? ⟨w9.heap.size,0,none⟩ = some (.slice (some ⟨g9,0,none⟩) ls.length c9)) (go_keep) (first
  | (go_at_call 22; (with_reducible refine (zA HY1).mono ?_); rintro e wb ⟨rfl,hbb⟩; have hbw:Below wa.heap.size wa wb:=(zA HD1).trans (hbb.mono za); have zb:=hbw.size; have nb1:¬ w3.heap.size = wb.heap.size:=(by omega); have nb2:¬ w9.heap.size = wb.heap.size:=(by omega); have nb3:¬ wb.heap.size = w3.heap.size:=(by omega); have nb4:¬ wb.heap.size = w9.heap.size:=(by omega); have HBb:=zB hbw; obtain ⟨_,_,_,tb,yb,_⟩:=(zA HPR) wb hbw; have HPa:=zB ((zA HPP) wb hbw); have HPb:=zB ((zA HPP) (wb.alloc (.cells #[.slice none 0 0] 28)) (hbw.alloc zb _)); have nn1:=World.new_ne wb _ tb; have nn2:=World.new_ne wb _ yb; clear hbb hbw)
  | (go_at_call 22; (with_reducible refine (zA HY2).mono ?_); rintro e wb ⟨rfl,hbb⟩; have hbw:Below wa.heap.size wa wb:=(zA HD2).trans (hbb.mono (Nat.le_of_succ_le za2)); have zb:=hbw.size; have nb1:¬ w3.heap.size = wb.heap.size:=(by omega); have nb2:¬ w9.heap.size = wb.heap.size:=(by omega); have zb2:wa.heap.size + 1 <= wb.heap.size:=(Nat.le_trans za2 hbb.size); have HBb:=zB hbw; obtain ⟨_,_,_,tb,yb,_⟩:=(zA HPR) wb hbw; have HPa:=zB ((zA HPP) wb hbw); have x0:wb.cell? ⟨wa.heap.size,0,none⟩ = some (.slice none 0 0):=(hbb.cell (p:=⟨wa.heap.size,0,none⟩) za2).trans (by simp [go_sem]); have x1:wb.frozen? ⟨wa.heap.size,0,none⟩ = false:=(hbb.frozen (p:=⟨wa.heap.size,0,none⟩) za2).trans (by simp [go_sem]); have nn1:=World.new_ne wb _ tb; have nn2:=World.new_ne wb _ yb; clear hbb hbw)
  | (go_at_call 13; (with_reducible refine (zA HPa).mono ?_); rintro e wc ⟨⟨ac,cc,vs,c,p,rfl,hOc,hPc⟩,hbc⟩; have y0:=(hbc.cell (p:=⟨wa.heap.size,0,none⟩) zb2).trans x0; have y1:=(hbc.frozen (p:=⟨wa.heap.size,0,none⟩) zb2).trans x1; have hbw:Below wa.heap.size wa wc:=(zA HBb).trans (hbc.mono zb); have zc:=hbw.size; have HBc:=zB hbw; obtain ⟨_,_,_,tc,yc,_⟩:=(zA HPR) wc hbw; have zc2:=hbc.size; clear hbc hbw)
  | (go_at_call 13; (with_reducible refine (zA HPa).mono ?_); rintro e wc ⟨⟨ac,cc,vs,c,p,rfl,hOc,hPc⟩,hbc⟩; have hbw:Below wa.heap.size wa wc:=(zA HBb).trans (hbc.mono zb); have zc:=hbw.size; have HBc:=zB hbw; obtain ⟨_,_,_,tc,yc,_⟩:=(zA HPR) wc hbw; have nn3:=World.new_ne wc _ tc; have nn4:=World.new_ne wc _ yc; have zc2:=hbc.size; clear hbc hbw)
  | (go_at_call 13; (with_reducible refine (zA HPb).mono ?_); rintro e wc ⟨⟨ac,cc,vs,c,p,rfl,hOc,hPc⟩,hbc⟩; have zc2:=hbc.size; have y0:wc.cell? ⟨wb.heap.size,0,none⟩ = some (.slice none 0 0):=(hbc.cell (p:=⟨wb.heap.size,0,none⟩) (by simp)).trans (by simp [go_sem]); have y1:wc.frozen? ⟨wb.heap.size,0,none⟩ = false:=(hbc.frozen (p:=⟨wb.heap.size,0,none⟩) (by simp)).trans (by simp [go_sem]); have hbw:Below wa.heap.size wa wc:=((zA HBb).alloc zb _).trans (hbc.mono (by simp; omega)); have zc:=hbw.size; have HBc:=zB hbw; obtain ⟨_,_,_,tc,yc,_⟩:=(zA HPR) wc hbw; clear hbc hbw))
 all_goals
  first
  | (
   obtain ⟨W8,hW8⟩:∃ W8,W8 = wc.alloc (.cells #[.slice ac vs.length cc] 28):=⟨_,rfl⟩
   rw [<- hW8]
   have HW8:=zB (show Below wa.heap.size wa W8 by rw [hW8]; exact (zA HBc).alloc zc _)
   have HO8:=zB (show ZK W8 wa.heap.size ac vs by rw [hW8]; exact ((zA hOc).step (zC _ _)).lower zb)
   obtain ⟨X8,hX8⟩:∃ X8,X8 = wc.heap.size:=⟨_,rfl⟩
   have y8:W8.cell? ⟨X8,0,none⟩ = some (.slice ac vs.length cc):=by rw [hW8,hX8]; simp [go_sem]
   rw [<- hX8]
   clear hW8 hX8)
  | (
   obtain ⟨W8,hW8⟩:∃ W8,W8 = wc.setCell ⟨wb.heap.size,0,none⟩ (.slice ac vs.length cc):=⟨_,rfl⟩
   rw [<- hW8]
   have HW8:=zB (show Below wa.heap.size wa W8 by rw [hW8]; exact (zA HBc).setCell (by show wa.heap.size <= wb.heap.size; omega) _)
   have HO8:=zB (show ZK W8 wa.heap.size ac vs by rw [hW8]; exact ((zA hOc).grown (zX (Zb (g:=wb.heap.size) [.slice ac vs.length cc] 0 wc)) (fun q e=>by injection e with e; subst e; simp)).lower (by simp; omega))
   obtain ⟨X8,hX8⟩:∃ X8,X8 = wb.heap.size:=⟨_,rfl⟩
   have y8:W8.cell? ⟨X8,0,none⟩ = some (.slice ac vs.length cc):=by rw [hW8,hX8]; exact World.cell?_setCell_same _ _ _ y0
   rw [<- hX8]
   clear hW8 hX8 y0 y1)
  | (
   obtain ⟨W8,hW8⟩:∃ W8,W8 = wc.setCell ⟨wa.heap.size,0,none⟩ (.slice ac vs.length cc):=⟨_,rfl⟩
   rw [<- hW8]
   have HW8:=zB (show Below wa.heap.size wa W8 by rw [hW8]; exact (zA HBc).setCell (Nat.le_refl _) _)
   have HO8:=zB (show ZK W8 wa.heap.size ac vs by rw [hW8]; exact ((zA hOc).grown (zX (Zb (g:=wa.heap.size) [.slice ac vs.length cc] 0 wc)) (fun q e=>by injection e with e; subst e; omega)).lower zb)
   obtain ⟨X8,hX8⟩:∃ X8,X8 = wa.heap.size:=⟨_,rfl⟩
   have y8:W8.cell? ⟨X8,0,none⟩ = some (.slice ac vs.length cc):=by rw [hW8,hX8]; exact World.cell?_setCell_same _ _ _ y0
   rw [<- hX8]
   clear hW8 hX8 y0 y1 x0 x1)
  rename_i hHeld
  clear hHeld
  obtain ⟨_,_,hR8,_,_,xx8⟩:=(zA HPR) W8 (zA HW8)
  have HR8:=zB hR8
  have beln:=zB ((zA bela).trans ((zA HW8).mono (zA bela).size))
  clear hR8 HBb HBc hOc HY1 HY2 HYY HPP HPa HD1 HD2 tc yc tb yb
  by_cases hc:c = 0
  ·subst hc
   obtain ⟨hv1,hv2,hvz⟩:=zI4 (zA hPc)
   have HVZ:=zB hvz
   have HND:=zB (show ∀ ws v,zBA vs ws v -> ws ≠ nd (erT T) 0 from (zA HL).par vs p (by rw [<- zA HS]; exact zA hPc))
   obtain ⟨gv,rfl,hgv,hFv⟩:=ZK.some (zA HO8) hv1
   have HFv:=zB (show zM W8.drew gv vs vs.length from hFv)
   have HXa:=zB (zDL gv 0 cc vs W8.drew (by omega) (zA HFv).ops (zA HVZ) (zA HFv).1)
   have lx8:w5.heap.size < W8.drew.heap.size:=block_lt_of_cell xx8
   have HRd:=zB (show zM W8.drew g5 bs5 bs5.length from zA HR8)
   have beld:=zB (show Below w.heap.size w W8.drew from (zA beln).drew)
   clear hvz hFv HO8
   go_wp2_with fail
   go_region_held3 (fun W=>W.cell? ⟨X8,0,none⟩ = some (.slice (some ⟨gv,0,none⟩) vs.length cc) /\ W.cell? ⟨w5.heap.size,0,none⟩ = some (.slice (some ⟨g5,0,none⟩) bs5.length c5)) (go_keep) (first
    | (go_at_call 11; (with_reducible refine (zA HXa).mono ?_); rintro e wd ⟨⟨ad,cd,bsd,vd,rfl,hOd,hEd⟩,hbd⟩; have hnd:bsd ≠ bs5:=(fun e=>(zA HND) bsd vd (zA hEd) (e.trans (zA HBE))); have hdl:bsd.length <= 20000:=zBA.len (zA hEd); have HBd:=zB hbd; have zd:=hbd.size; have yd:=(hbd.cell (p:=⟨X8,0,none⟩) (block_lt_of_cell y8)).trans y8; have xd:=(hbd.cell (p:=⟨w5.heap.size,0,none⟩) lx8).trans xx8; have HRe:=zB ((zA HRd).below hbd (zA HRd).1); have HXb:=zB (zCm ad (some ⟨g5,0,none⟩) cd c5 bsd bs5 wd (by omega) (by omega) (ZK.arg (zA hOd)) (zM.arg (zA HRe))); clear hEd hbd)
    | (go_at_call 16; (with_reducible refine (zA HXb).mono ?_); rintro e we ⟨⟨ve,rfl,hve⟩,hbe⟩; obtain rfl:ve = false:=(by cases ve; rfl; exact absurd (hve.1 rfl) hnd); have HBe:=zB hbe; have ye:=(hbe.cell (p:=⟨X8,0,none⟩) (block_lt_of_cell yd)).trans yd; have xe:=(hbe.cell (p:=⟨w5.heap.size,0,none⟩) (block_lt_of_cell xd)).trans xd; clear hve hbe))
   all_goals
    have belz:=zB (((zA beld).trans ((zA HBd).mono (zA beld).size)).trans ((zA HBe).mono (by have:=(zA beld).size; omega)))
    go_wp2_with fail
    go_ret
    exact ⟨rfl,zA belz⟩
  ·have hcb:(c != 0) = true:=by simp [hc]
   have hcc:(c == 0) = false:=beq_eq_false_iff_ne.2 hc
   have belq:=zB (show Below w.heap.size w W8.drew from (zA beln).drew)
   clear hc
   go_wp2_with fail
   first
   | (
    go_ret
    exact ⟨rfl,zA beln⟩)
   | (
    go_quiet (fail)
    all_goals
     go_wp2_with fail
     go_ret
     first
     | exact ⟨rfl,zA belq⟩
     | exact ⟨rfl,(zA beln).drewN _⟩)
   | (
    go_region
    all_goals
     go_wp2_with fail
     go_ret
     first
     | exact ⟨rfl,zA belq⟩
     | exact ⟨rfl,zA beln⟩)
end Go.Proofs.YtfboipappaonhaaGreat
