import Derived.BigRegion
import Derived.Deep.RegionWith
import Derived.Deep.RegionHeld3
import Derived.Deep.LoopGhost
import Derived.Test.YtgiemobdmbijiaaGreatDoorN30
import Derived.Test.YtgiemobdmbijiaaGreatDoorN43
namespace Go.Proofs.YtgiemobdmbijiaaGreatDoor
set_option linter.unusedSimpArgs false
set_option linter.unusedVariables false
set_option maxHeartbeats 16000000
set_option maxRecDepth 100000
open Go.RowKit
theorem zM8 (rp cap p g c:Nat) (a:Option Addr) (bs:List UInt8) (ms:List zI) (w0 w:World) (h:SpS w0 w rp cap a bs g c ms p) (hl:bs.length <= 1200) (hm1:1 <= ms.length) (hm4:ms.length <= 4) (hz:MsZ 3 2000000000000 ms) (hcd:nxt bs p % 16 ≠ 8 /\ nxt bs p % 16 ≠ 15 /\ nxt bs p % 8 ≠ 0 /\ nxt bs p % 8 ≠ 1 /\ nxt bs p % 8 = 2) :
  Calls Tryz.prog 21 #[.pointer (some ⟨rp,0,none⟩),.slice (some ⟨g,0,none⟩) ms.length c] w (zAO w0 rp cap a bs (fun ms'=>ms' = zAt bs p ms)):=by
 have H:=zB h
 have HMZ:=zB hz
 clear h hz
 go_enter Tryz.func21,Tryz.ntmps21
 go_wp2_with fail
 (with_reducible refine (zL rp cap p a bs _ (zA H).rd hl).mono ?_)
 rintro e w1 ⟨⟨k,rfl,hk,HK⟩,H1,HP1⟩
 have HS1:=zB ((zA H).read (zA HP1) (zA H1))
 clear H H1 HP1
 go_wp2_with fail
 (with_reducible refine (zL rp cap (adv bs p) a bs _ (zA HS1).rd hl).mono ?_)
 rintro e w2 ⟨⟨ik,rfl,hik,HIK⟩,H2,HP2⟩
 have HS2:=zB ((zA HS1).read (zA HP2) (zA H2))
 clear HS1 H2 HP2
 obtain ⟨i,HI⟩:∃ i,Hid (i = ik % ms.length):=⟨_,zB rfl⟩
 have hi:i < ms.length:=by rw [zA HI]; exact Nat.mod_lt _ (by omega)
 have hiI:(i:Int) < (ms.length:Int):=by omega
 have hm0:((ms.length:Int) == 0) = false:=beq_eq_false_iff_ne.2 (by omega)
 have tmi:(ik:Int).tmod (ms.length:Int) = (i:Int):=by rw [Int.tmod_eq_emod_of_nonneg (by omega),zA HI]; simp
 have tmj:(ik:Int) % (ms.length:Int) = (i:Int):=by rw [zA HI]; simp
 go_wp2_with fail
 (with_reducible refine (zL rp cap (adv bs (adv bs p)) a bs _ (zA HS2).rd hl).mono ?_)
 rintro e w3 ⟨⟨v,rfl,hv,HV⟩,H3,HP3⟩
 have HS3:=zB ((zA HS2).read (zA HP3) (zA H3))
 clear HS2 H3 HP3 tmi tmj hm0
 have HCD:=zB hcd
 rw [<- zA HK] at hcd
 have t0:((k:Int) % 16 == 8) = false:=by simp; omega
 have t1:((k:Int) % 16 == 15) = false:=by simp; omega
 have t2:((k:Int) % 8 == 0) = false:=by simp; omega
 have t3:((k:Int) % 8 == 1) = false:=by simp; omega
 have t4:((k:Int) % 8 == 2) = true:=by simp; omega
 obtain ⟨c0,c1,f0,f1⟩:=(zA HS3).cells hi
 obtain ⟨nm,hnm⟩:∃ nm,nm = (atM ms i).n:=⟨_,rfl⟩
 obtain ⟨tx,htx⟩:∃ tx,tx = (atM ms i).t:=⟨_,rfl⟩
 have hzi:=(zA HMZ) i
 rw [<- hnm,<- htx] at hzi
 obtain ⟨hzn,hzt⟩:=hzi
 rw [<- hnm] at c0
 rw [<- htx] at c1
 have HNM:=zB (And.intro hnm htx)
 clear hnm htx
 clear hcd
 obtain ⟨l0,l1,_,_⟩:=(zA HS3).cells (i:=ms.length - 1) (by omega)
 obtain ⟨j,hj⟩:∃ j,j = ms.length - 1:=⟨_,rfl⟩
 have hjI:(ms.length:Int) - 1 = (j:Int):=by omega
 have hjl:(j:Int) < (ms.length:Int):=by omega
 rw [<- hj] at l0
 obtain ⟨nl,hnl⟩:∃ nl,nl = (atM ms j).n:=⟨_,rfl⟩
 have hzl:=((zA HMZ) j).1
 rw [<- hnl] at l0 hzl
 have HNL:=zB (And.intro hnl hj)
 clear hnl hj l1
 have hz1:(zCb ++ nl).size <= 7:=by rw [zK]; show 4 + nl.size <= 7; omega
 have hz2:(zCb ++ nl ++ nlB).size <= 8:=by rw [zK]; show _ + 1 <= 8; omega
 have hw1:IntKind.i64.wrap ((ms.length:Int) - 1) = (j:Int):=by rw [hjI]; exact Go.IntWalk.i64_in _ (by omega)
 go_upto_region 20 with fail
 go_region
 all_goals
  go_wp2_with fail
  go_ret
  refine zDH ((zA HS3).below (Below.refl _ _).drew) hi (zA HMZ) hm4 ?_ ?_
  ·rw [zK]; show (zCb ++ nl ++ nlB).size + tx.size <= _; omega
  ·have hc:=zA HCD
   unfold zAt
   rw [if_neg (by omega),if_neg (by omega),if_neg (by omega),if_neg (by omega),if_pos (by omega),<- zA HIK,<- zA HI,<- (zA HNL).2,<- (zA HNL).1,<- (zA HNM).2]
   rfl
theorem zM9 (rp cap p g c:Nat) (a:Option Addr) (bs:List UInt8) (ms:List zI) (w0 w:World) (h:SpS w0 w rp cap a bs g c ms p) (hl:bs.length <= 1200) (hm1:1 <= ms.length) (hm4:ms.length <= 4) (hz:MsZ 3 2000000000000 ms) (hcd:nxt bs p % 16 ≠ 8 /\ nxt bs p % 16 ≠ 15 /\ nxt bs p % 8 ≠ 0 /\ nxt bs p % 8 ≠ 1 /\ nxt bs p % 8 ≠ 2 /\ nxt bs p % 8 = 3) :
  Calls Tryz.prog 21 #[.pointer (some ⟨rp,0,none⟩),.slice (some ⟨g,0,none⟩) ms.length c] w (zAO w0 rp cap a bs (fun ms'=>ms' = zAt bs p ms)):=by
 have H:=zB h
 have HMZ:=zB hz
 clear h hz
 go_enter Tryz.func21,Tryz.ntmps21
 go_wp2_with fail
 (with_reducible refine (zL rp cap p a bs _ (zA H).rd hl).mono ?_)
 rintro e w1 ⟨⟨k,rfl,hk,HK⟩,H1,HP1⟩
 have HS1:=zB ((zA H).read (zA HP1) (zA H1))
 clear H H1 HP1
 go_wp2_with fail
 (with_reducible refine (zL rp cap (adv bs p) a bs _ (zA HS1).rd hl).mono ?_)
 rintro e w2 ⟨⟨ik,rfl,hik,HIK⟩,H2,HP2⟩
 have HS2:=zB ((zA HS1).read (zA HP2) (zA H2))
 clear HS1 H2 HP2
 obtain ⟨i,HI⟩:∃ i,Hid (i = ik % ms.length):=⟨_,zB rfl⟩
 have hi:i < ms.length:=by rw [zA HI]; exact Nat.mod_lt _ (by omega)
 have hiI:(i:Int) < (ms.length:Int):=by omega
 have hm0:((ms.length:Int) == 0) = false:=beq_eq_false_iff_ne.2 (by omega)
 have tmi:(ik:Int).tmod (ms.length:Int) = (i:Int):=by rw [Int.tmod_eq_emod_of_nonneg (by omega),zA HI]; simp
 have tmj:(ik:Int) % (ms.length:Int) = (i:Int):=by rw [zA HI]; simp
 go_wp2_with fail
 (with_reducible refine (zL rp cap (adv bs (adv bs p)) a bs _ (zA HS2).rd hl).mono ?_)
 rintro e w3 ⟨⟨v,rfl,hv,HV⟩,H3,HP3⟩
 have HS3:=zB ((zA HS2).read (zA HP3) (zA H3))
 clear HS2 H3 HP3 tmi tmj hm0
 have HCD:=zB hcd
 rw [<- zA HK] at hcd
 have t0:((k:Int) % 16 == 8) = false:=by simp; omega
 have t1:((k:Int) % 16 == 15) = false:=by simp; omega
 have t2:((k:Int) % 8 == 0) = false:=by simp; omega
 have t3:((k:Int) % 8 == 1) = false:=by simp; omega
 have t4:((k:Int) % 8 == 2) = false:=by simp; omega
 have t5:((k:Int) % 8 == 3) = true:=by simp; omega
 obtain ⟨c0,c1,f0,f1⟩:=(zA HS3).cells hi
 obtain ⟨nm,hnm⟩:∃ nm,nm = (atM ms i).n:=⟨_,rfl⟩
 obtain ⟨tx,htx⟩:∃ tx,tx = (atM ms i).t:=⟨_,rfl⟩
 have hzi:=(zA HMZ) i
 rw [<- hnm,<- htx] at hzi
 obtain ⟨hzn,hzt⟩:=hzi
 rw [<- hnm] at c0
 rw [<- htx] at c1
 have HNM:=zB (And.intro hnm htx)
 clear hnm htx
 clear hcd
 obtain ⟨bv,hbv⟩:∃ bv,bv = decide (v % 2 = 0):=⟨_,rfl⟩
 have ebv:((v:Int).tmod 2 == 0) = bv:=by rw [hbv,Bool.eq_iff_iff,Int.tmod_eq_emod_of_nonneg (by omega)]; simp; omega
 have HXO:=zB (zDM rp cap _ bv a bs w3.drew ((zA HS3).rd.below (Below.refl _ _).drew) hl)
 have HBV:=zB hbv
 clear hbv
 go_upto_region 22 with fail
 go_region_with (first
  | (go_at_call 30; (with_reducible refine (zA HXO).mono ?_); rintro e w5 ⟨⟨o,rfl,HO5⟩,H5,HP5⟩; have HS5:=zB (((zA HS3).below (Below.refl _ _).drew).read (zA HP5) (zA H5)); obtain ⟨_,c1a,_,f1a⟩:=(zA HS5).cells hi; rw [<- (zA HNM).2] at c1a; have hot:=(show OpT o by rw [zA HO5]; exact zKC _ _ _); have hoz:=(show o.s.size <= 16 by rw [zA HO5]; exact zKD _ _ _); have HXD:=zB (zCU o w5 hot (by omega)); have hdz:=zC3 hoz; clear H5 HP5)
  | (go_at_call 19; (with_reducible refine (zA HXD).mono ?_); rintro e w6 ⟨rfl,hb6⟩; have HS6:=zB ((zA HS5).below hb6); obtain ⟨_,c1b,_,f1b⟩:=(zA HS6).cells hi; rw [<- (zA HNM).2] at c1b; have hz2:(ze (dW o) ++ (⟨#[10]⟩:ByteArray)).size <= 51:=(by rw [zK]; show _ + 1 <= 51; omega); clear hb6))
 all_goals
  go_wp2_with fail
  go_ret
  refine zDH (zA HS6) hi (zA HMZ) hm4 ?_ ?_
  ·rw [zK]; show (ze (dW o) ++ (⟨#[10]⟩:ByteArray)).size + tx.size <= _; omega
  ·have hc:=zA HCD
   unfold zAt
   rw [if_neg (by omega),if_neg (by omega),if_neg (by omega),if_neg (by omega),if_neg (by omega),if_pos (by omega),<- zA HIK,<- zA HI,<- zA HV,<- zA HBV,<- zA HO5,<- (zA HNM).2]
   rfl
theorem zNA (rp cap p g c:Nat) (a:Option Addr) (bs:List UInt8) (ms:List zI) (w0 w:World) (h:SpS w0 w rp cap a bs g c ms p) (hl:bs.length <= 1200) (hm1:1 <= ms.length) (hm4:ms.length <= 4) (hz:MsZ 3 2000000000000 ms) (hcd:nxt bs p % 16 ≠ 8 /\ nxt bs p % 16 ≠ 15 /\ nxt bs p % 8 ≠ 0 /\ nxt bs p % 8 ≠ 1 /\ nxt bs p % 8 ≠ 2 /\ nxt bs p % 8 ≠ 3 /\ nxt bs p % 8 ≠ 4 /\ nxt bs p % 8 = 5) :
  Calls Tryz.prog 21 #[.pointer (some ⟨rp,0,none⟩),.slice (some ⟨g,0,none⟩) ms.length c] w (zAO w0 rp cap a bs (fun ms'=>ms' = zAt bs p ms)):=by
 have H:=zB h
 have HMZ:=zB hz
 clear h hz
 go_enter Tryz.func21,Tryz.ntmps21
 go_wp2_with fail
 (with_reducible refine (zL rp cap p a bs _ (zA H).rd hl).mono ?_)
 rintro e w1 ⟨⟨k,rfl,hk,HK⟩,H1,HP1⟩
 have HS1:=zB ((zA H).read (zA HP1) (zA H1))
 clear H H1 HP1
 go_wp2_with fail
 (with_reducible refine (zL rp cap (adv bs p) a bs _ (zA HS1).rd hl).mono ?_)
 rintro e w2 ⟨⟨ik,rfl,hik,HIK⟩,H2,HP2⟩
 have HS2:=zB ((zA HS1).read (zA HP2) (zA H2))
 clear HS1 H2 HP2
 obtain ⟨i,HI⟩:∃ i,Hid (i = ik % ms.length):=⟨_,zB rfl⟩
 have hi:i < ms.length:=by rw [zA HI]; exact Nat.mod_lt _ (by omega)
 have hiI:(i:Int) < (ms.length:Int):=by omega
 have hm0:((ms.length:Int) == 0) = false:=beq_eq_false_iff_ne.2 (by omega)
 have tmi:(ik:Int).tmod (ms.length:Int) = (i:Int):=by rw [Int.tmod_eq_emod_of_nonneg (by omega),zA HI]; simp
 have tmj:(ik:Int) % (ms.length:Int) = (i:Int):=by rw [zA HI]; simp
 go_wp2_with fail
 (with_reducible refine (zL rp cap (adv bs (adv bs p)) a bs _ (zA HS2).rd hl).mono ?_)
 rintro e w3 ⟨⟨v,rfl,hv,HV⟩,H3,HP3⟩
 have HS3:=zB ((zA HS2).read (zA HP3) (zA H3))
 clear HS2 H3 HP3 tmi tmj hm0
 have HCD:=zB hcd
 rw [<- zA HK] at hcd
 have t0:((k:Int) % 16 == 8) = false:=by simp; omega
 have t1:((k:Int) % 16 == 15) = false:=by simp; omega
 have t2:((k:Int) % 8 == 0) = false:=by simp; omega
 have t3:((k:Int) % 8 == 1) = false:=by simp; omega
 have t4:((k:Int) % 8 == 2) = false:=by simp; omega
 have t5:((k:Int) % 8 == 3) = false:=by simp; omega
 have t6:((k:Int) % 8 == 4) = false:=by simp; omega
 have t7:((k:Int) % 8 == 5) = true:=by simp; omega
 obtain ⟨c0,c1,f0,f1⟩:=(zA HS3).cells hi
 obtain ⟨nm,hnm⟩:∃ nm,nm = (atM ms i).n:=⟨_,rfl⟩
 obtain ⟨tx,htx⟩:∃ tx,tx = (atM ms i).t:=⟨_,rfl⟩
 have hzi:=(zA HMZ) i
 rw [<- hnm,<- htx] at hzi
 obtain ⟨hzn,hzt⟩:=hzi
 rw [<- hnm] at c0
 rw [<- htx] at c1
 have HNM:=zB (And.intro hnm htx)
 clear hnm htx
 clear hcd
 have HXW:=zB (zGU rp cap _ a bs w3.drew ((zA HS3).rd.below (Below.refl _ _).drew) hl)
 have hwz:=zKM bs (adv bs (adv bs (adv bs p)))
 go_upto_region 27 with fail
 go_region_with (first
  | (go_at_call 38; (with_reducible refine (zA HXW).mono ?_); rintro e w5 ⟨⟨wd,rfl,HO5⟩,H5,HP5⟩; have HS5:=zB (((zA HS3).below (Below.refl _ _).drew).read (zA HP5) (zA H5)); obtain ⟨_,c1a,_,f1a⟩:=(zA HS5).cells hi; rw [<- (zA HNM).2] at c1a; have hwz2:wd.size <= 4:=(by rw [zA HO5]; exact hwz); clear H5 HP5))
 all_goals
  go_wp2_with fail
  go_ret
  refine zDH (zA HS5) hi (zA HMZ) hm4 ?_ ?_
  ·rw [zK]; omega
  ·have hc:=zA HCD
   unfold zAt
   rw [if_neg (by omega),if_neg (by omega),if_neg (by omega),if_neg (by omega),if_neg (by omega),if_neg (by omega),if_neg (fun x=>absurd x.1 (by omega)),if_pos (by omega),<- zA HIK,<- zA HI,<- zA HO5,<- (zA HNM).2]
theorem zNB (rp cap p g c:Nat) (a:Option Addr) (bs:List UInt8) (ms:List zI) (w0 w:World) (h:SpS w0 w rp cap a bs g c ms p) (hl:bs.length <= 1200) (hm1:1 <= ms.length) (hm4:ms.length <= 4) (hz:MsZ 3 2000000000000 ms) (hcd:nxt bs p % 16 ≠ 8 /\ nxt bs p % 16 ≠ 15 /\ nxt bs p % 8 ≠ 0 /\ nxt bs p % 8 ≠ 1 /\ nxt bs p % 8 ≠ 2 /\ nxt bs p % 8 ≠ 3 /\ nxt bs p % 8 ≠ 4 /\ nxt bs p % 8 ≠ 5 /\ nxt bs p % 16 ≠ 6 /\ nxt bs p % 16 ≠ 14) :
  Calls Tryz.prog 21 #[.pointer (some ⟨rp,0,none⟩),.slice (some ⟨g,0,none⟩) ms.length c] w (zAO w0 rp cap a bs (fun ms'=>ms' = zAt bs p ms)):=by
 have H:=zB h
 have HMZ:=zB hz
 clear h hz
 go_enter Tryz.func21,Tryz.ntmps21
 go_wp2_with fail
 (with_reducible refine (zL rp cap p a bs _ (zA H).rd hl).mono ?_)
 rintro e w1 ⟨⟨k,rfl,hk,HK⟩,H1,HP1⟩
 have HS1:=zB ((zA H).read (zA HP1) (zA H1))
 clear H H1 HP1
 go_wp2_with fail
 (with_reducible refine (zL rp cap (adv bs p) a bs _ (zA HS1).rd hl).mono ?_)
 rintro e w2 ⟨⟨ik,rfl,hik,HIK⟩,H2,HP2⟩
 have HS2:=zB ((zA HS1).read (zA HP2) (zA H2))
 clear HS1 H2 HP2
 obtain ⟨i,HI⟩:∃ i,Hid (i = ik % ms.length):=⟨_,zB rfl⟩
 have hi:i < ms.length:=by rw [zA HI]; exact Nat.mod_lt _ (by omega)
 have hiI:(i:Int) < (ms.length:Int):=by omega
 have hm0:((ms.length:Int) == 0) = false:=beq_eq_false_iff_ne.2 (by omega)
 have tmi:(ik:Int).tmod (ms.length:Int) = (i:Int):=by rw [Int.tmod_eq_emod_of_nonneg (by omega),zA HI]; simp
 have tmj:(ik:Int) % (ms.length:Int) = (i:Int):=by rw [zA HI]; simp
 go_wp2_with fail
 (with_reducible refine (zL rp cap (adv bs (adv bs p)) a bs _ (zA HS2).rd hl).mono ?_)
 rintro e w3 ⟨⟨v,rfl,hv,HV⟩,H3,HP3⟩
 have HS3:=zB ((zA HS2).read (zA HP3) (zA H3))
 clear HS2 H3 HP3 tmi tmj hm0
 have HCD:=zB hcd
 rw [<- zA HK] at hcd
 have t0:((k:Int) % 16 == 8) = false:=by simp; omega
 have t1:((k:Int) % 16 == 15) = false:=by simp; omega
 have t2:((k:Int) % 8 == 0) = false:=by simp; omega
 have t3:((k:Int) % 8 == 1) = false:=by simp; omega
 have t4:((k:Int) % 8 == 2) = false:=by simp; omega
 have t5:((k:Int) % 8 == 3) = false:=by simp; omega
 have t6:((k:Int) % 8 == 4) = false:=by simp; omega
 have t7:((k:Int) % 8 == 5) = false:=by simp; omega
 have t8:((k:Int) % 16 == 6) = false:=by simp; omega
 have t9:((k:Int) % 16 == 14) = false:=by simp; omega
 obtain ⟨c0,c1,f0,f1⟩:=(zA HS3).cells hi
 obtain ⟨nm,hnm⟩:∃ nm,nm = (atM ms i).n:=⟨_,rfl⟩
 obtain ⟨tx,htx⟩:∃ tx,tx = (atM ms i).t:=⟨_,rfl⟩
 have hzi:=(zA HMZ) i
 rw [<- hnm,<- htx] at hzi
 obtain ⟨hzn,hzt⟩:=hzi
 rw [<- hnm] at c0
 rw [<- htx] at c1
 have HNM:=zB (And.intro hnm htx)
 clear hnm htx
 clear hcd
 have hbm:=zC w3 (.cells #[.string nm,.string tx] 39)
 obtain ⟨i2,hi2,hx0,hx1,hx2⟩:=info_parts zEg
 have HROW:=zB ((zA HS3).row.below hbm)
 have hwz:w0.heap.size <= w3.heap.size:=(zA HS3).kp.size
 have HQ:=zB (And.intro hi2 (And.intro hx0 (And.intro hx1 hx2)))
 clear hi2 hx0 hx1 hx2
 go_wp2_with (at_builtin; refine wpList_append_own_at _ rfl (.tmp 231) (.tmp 236) 36 rfl w0.heap.size 39 i2 _ 2 32 Tryz.underlying36 (zA HQ).1 (zA HQ).2.1 (zA HQ).2.2.1 (zA HQ).2.2.2 rfl (by decide) _ ms.length (zU ms) rfl (zA HROW) ⟨w3.heap.size,0,none⟩ 1 1 (zU [⟨nm,tx⟩]) rfl rfl (Z0 w3 ⟨nm,tx⟩) (zAM _) ?b1 ?b2 ?b3 ?next)
 case b1=>unfold maxLen; omega
 case b2=>omega
 case b3=>simp; omega
 case next=>
  intro v6 w6 hown6 hgrow6 hnil6 hat6
  obtain ⟨g6,c6,ms6,hms6,rfl,hp6⟩:=((zA HS3).below hbm).app (vs:=[⟨nm,tx⟩]) (by simp) hown6 hgrow6
  have HP6:=zB hp6
  have HM6:=zB hms6
  clear hown6 hgrow6 hnil6 hat6 hms6 hp6 HROW
  go_wp2_with fail
  go_ret
  have hl6:ms6.length = ms.length + 1:=by rw [zA HM6]; simp
  refine zIC (zA HP6) (by omega) (by omega) ?_ ?_
  ·rw [zA HM6]
   exact ((zA HMZ).mono (by decide) (by decide)).snoc (by show nm.size <= _; omega) (by show tx.size <= _; omega)
  ·rw [zA HM6]
   have hc:=zA HCD
   unfold zAt
   rw [if_neg (by omega),if_neg (by omega),if_neg (by omega),if_neg (by omega),if_neg (by omega),if_neg (by omega),if_neg (fun x=>absurd x.1 (by omega)),if_neg (by omega),if_neg (by omega),if_neg (by omega),<- zA HIK,<- zA HI]
   rw [(zA HNM).1,(zA HNM).2]
theorem zNC (rp cap p g c:Nat) (a:Option Addr) (bs:List UInt8) (ms:List zI) (w0 w:World) (h:SpS w0 w rp cap a bs g c ms p) (hl:bs.length <= 1200) (hm1:1 <= ms.length) (hm4:ms.length <= 4) (hz:MsZ 3 2000000000000 ms) (hcd:nxt bs p % 16 ≠ 8 /\ nxt bs p % 16 ≠ 15 /\ nxt bs p % 8 ≠ 0 /\ nxt bs p % 8 ≠ 1 /\ nxt bs p % 8 ≠ 2 /\ nxt bs p % 8 ≠ 3 /\ nxt bs p % 8 = 4 /\ (atM ms (nxt bs (adv bs p) % ms.length)).t.size = 0) :
  Calls Tryz.prog 21 #[.pointer (some ⟨rp,0,none⟩),.slice (some ⟨g,0,none⟩) ms.length c] w (zAO w0 rp cap a bs (fun ms'=>ms' = zAt bs p ms)):=by
 have H:=zB h
 have HMZ:=zB hz
 clear h hz
 go_enter Tryz.func21,Tryz.ntmps21
 go_wp2_with fail
 (with_reducible refine (zL rp cap p a bs _ (zA H).rd hl).mono ?_)
 rintro e w1 ⟨⟨k,rfl,hk,HK⟩,H1,HP1⟩
 have HS1:=zB ((zA H).read (zA HP1) (zA H1))
 clear H H1 HP1
 go_wp2_with fail
 (with_reducible refine (zL rp cap (adv bs p) a bs _ (zA HS1).rd hl).mono ?_)
 rintro e w2 ⟨⟨ik,rfl,hik,HIK⟩,H2,HP2⟩
 have HS2:=zB ((zA HS1).read (zA HP2) (zA H2))
 clear HS1 H2 HP2
 obtain ⟨i,HI⟩:∃ i,Hid (i = ik % ms.length):=⟨_,zB rfl⟩
 have hi:i < ms.length:=by rw [zA HI]; exact Nat.mod_lt _ (by omega)
 have hiI:(i:Int) < (ms.length:Int):=by omega
 have hm0:((ms.length:Int) == 0) = false:=beq_eq_false_iff_ne.2 (by omega)
 have tmi:(ik:Int).tmod (ms.length:Int) = (i:Int):=by rw [Int.tmod_eq_emod_of_nonneg (by omega),zA HI]; simp
 have tmj:(ik:Int) % (ms.length:Int) = (i:Int):=by rw [zA HI]; simp
 go_wp2_with fail
 (with_reducible refine (zL rp cap (adv bs (adv bs p)) a bs _ (zA HS2).rd hl).mono ?_)
 rintro e w3 ⟨⟨v,rfl,hv,HV⟩,H3,HP3⟩
 have HS3:=zB ((zA HS2).read (zA HP3) (zA H3))
 clear HS2 H3 HP3 tmi tmj hm0
 have HCD:=zB hcd
 rw [<- zA HK] at hcd
 have t0:((k:Int) % 16 == 8) = false:=by simp; omega
 have t1:((k:Int) % 16 == 15) = false:=by simp; omega
 have t2:((k:Int) % 8 == 0) = false:=by simp; omega
 have t3:((k:Int) % 8 == 1) = false:=by simp; omega
 have t4:((k:Int) % 8 == 2) = false:=by simp; omega
 have t5:((k:Int) % 8 == 3) = false:=by simp; omega
 have t6:((k:Int) % 8 == 4) = true:=by simp; omega
 have t7:((k:Int) % 8 == 5) = false:=by simp; omega
 have t8:((k:Int) % 16 == 6) = false:=by simp; omega
 have t9:((k:Int) % 16 == 14) = false:=by simp; omega
 have hsz0:(atM ms i).t.size = 0:=by rw [zA HI,zA HIK]; exact hcd.2.2.2.2.2.2.2
 obtain ⟨c0,c1,f0,f1⟩:=(zA HS3).cells hi
 obtain ⟨nm,hnm⟩:∃ nm,nm = (atM ms i).n:=⟨_,rfl⟩
 obtain ⟨tx,htx⟩:∃ tx,tx = (atM ms i).t:=⟨_,rfl⟩
 have hzi:=(zA HMZ) i
 rw [<- hnm,<- htx] at hzi
 obtain ⟨hzn,hzt⟩:=hzi
 rw [<- hnm] at c0
 rw [<- htx] at c1
 have HNM:=zB (And.intro hnm htx)
 clear hnm htx
 clear hcd
 rw [<- (zA HNM).2] at hsz0
 have hsI:¬ (0:Int) < (tx.size:Int):=by omega
 have hbm:=zC w3 (.cells #[.string nm,.string tx] 39)
 obtain ⟨i2,hi2,hx0,hx1,hx2⟩:=info_parts zEg
 have HROW:=zB ((zA HS3).row.below hbm)
 have hwz:w0.heap.size <= w3.heap.size:=(zA HS3).kp.size
 have HQ:=zB (And.intro hi2 (And.intro hx0 (And.intro hx1 hx2)))
 clear hi2 hx0 hx1 hx2
 go_wp2_with (at_builtin; refine wpList_append_own_at _ rfl (.tmp 231) (.tmp 236) 36 rfl w0.heap.size 39 i2 _ 2 32 Tryz.underlying36 (zA HQ).1 (zA HQ).2.1 (zA HQ).2.2.1 (zA HQ).2.2.2 rfl (by decide) _ ms.length (zU ms) rfl (zA HROW) ⟨w3.heap.size,0,none⟩ 1 1 (zU [⟨nm,tx⟩]) rfl rfl (Z0 w3 ⟨nm,tx⟩) (zAM _) ?b1 ?b2 ?b3 ?next)
 case b1=>unfold maxLen; omega
 case b2=>omega
 case b3=>simp; omega
 case next=>
  intro v6 w6 hown6 hgrow6 hnil6 hat6
  obtain ⟨g6,c6,ms6,hms6,rfl,hp6⟩:=((zA HS3).below hbm).app (vs:=[⟨nm,tx⟩]) (by simp) hown6 hgrow6
  have HP6:=zB hp6
  have HM6:=zB hms6
  clear hown6 hgrow6 hnil6 hat6 hms6 hp6 HROW
  go_wp2_with fail
  go_ret
  have hl6:ms6.length = ms.length + 1:=by rw [zA HM6]; simp
  refine zIC (zA HP6) (by omega) (by omega) ?_ ?_
  ·rw [zA HM6]
   exact ((zA HMZ).mono (by decide) (by decide)).snoc (by show nm.size <= _; omega) (by show tx.size <= _; omega)
  ·rw [zA HM6]
   have hc:=zA HCD
   have h0:=hc.2.2.2.2.2.2.2
   unfold zAt
   rw [if_neg (by omega),if_neg (by omega),if_neg (by omega),if_neg (by omega),if_neg (by omega),if_neg (by omega),if_neg (fun x=>absurd x.2 (by omega)),if_neg (by omega),if_neg (by omega),if_neg (by omega),<- zA HIK,<- zA HI]
   rw [(zA HNM).1,(zA HNM).2]
theorem zND (rp cap p g c:Nat) (a:Option Addr) (bs:List UInt8) (ms:List zI) (w0 w:World) (h:SpS w0 w rp cap a bs g c ms p) (hl:bs.length <= 1200) (hm1:1 <= ms.length) (hm4:ms.length <= 4) (hz:MsZ 3 2000000000000 ms) (hcd:nxt bs p % 16 ≠ 8 /\ nxt bs p % 16 ≠ 15 /\ nxt bs p % 8 ≠ 0 /\ nxt bs p % 8 ≠ 1 /\ nxt bs p % 8 ≠ 2 /\ nxt bs p % 8 ≠ 3 /\ nxt bs p % 8 = 4 /\ 0 < (atM ms (nxt bs (adv bs p) % ms.length)).t.size) :
  Calls Tryz.prog 21 #[.pointer (some ⟨rp,0,none⟩),.slice (some ⟨g,0,none⟩) ms.length c] w (zAO w0 rp cap a bs (fun ms'=>ms' = zAt bs p ms)):=by
 have H:=zB h
 have HMZ:=zB hz
 clear h hz
 go_enter Tryz.func21,Tryz.ntmps21
 go_wp2_with fail
 (with_reducible refine (zL rp cap p a bs _ (zA H).rd hl).mono ?_)
 rintro e w1 ⟨⟨k,rfl,hk,HK⟩,H1,HP1⟩
 have HS1:=zB ((zA H).read (zA HP1) (zA H1))
 clear H H1 HP1
 go_wp2_with fail
 (with_reducible refine (zL rp cap (adv bs p) a bs _ (zA HS1).rd hl).mono ?_)
 rintro e w2 ⟨⟨ik,rfl,hik,HIK⟩,H2,HP2⟩
 have HS2:=zB ((zA HS1).read (zA HP2) (zA H2))
 clear HS1 H2 HP2
 obtain ⟨i,HI⟩:∃ i,Hid (i = ik % ms.length):=⟨_,zB rfl⟩
 have hi:i < ms.length:=by rw [zA HI]; exact Nat.mod_lt _ (by omega)
 have hiI:(i:Int) < (ms.length:Int):=by omega
 have hm0:((ms.length:Int) == 0) = false:=beq_eq_false_iff_ne.2 (by omega)
 have tmi:(ik:Int).tmod (ms.length:Int) = (i:Int):=by rw [Int.tmod_eq_emod_of_nonneg (by omega),zA HI]; simp
 have tmj:(ik:Int) % (ms.length:Int) = (i:Int):=by rw [zA HI]; simp
 go_wp2_with fail
 (with_reducible refine (zL rp cap (adv bs (adv bs p)) a bs _ (zA HS2).rd hl).mono ?_)
 rintro e w3 ⟨⟨v,rfl,hv,HV⟩,H3,HP3⟩
 have HS3:=zB ((zA HS2).read (zA HP3) (zA H3))
 clear HS2 H3 HP3 tmi tmj hm0
 have HCD:=zB hcd
 rw [<- zA HK] at hcd
 have t0:((k:Int) % 16 == 8) = false:=by simp; omega
 have t1:((k:Int) % 16 == 15) = false:=by simp; omega
 have t2:((k:Int) % 8 == 0) = false:=by simp; omega
 have t3:((k:Int) % 8 == 1) = false:=by simp; omega
 have t4:((k:Int) % 8 == 2) = false:=by simp; omega
 have t5:((k:Int) % 8 == 3) = false:=by simp; omega
 have t6:((k:Int) % 8 == 4) = true:=by simp; omega
 have hsz0:0 < (atM ms i).t.size:=by rw [zA HI,zA HIK]; exact hcd.2.2.2.2.2.2.2
 obtain ⟨c0,c1,f0,f1⟩:=(zA HS3).cells hi
 obtain ⟨nm,hnm⟩:∃ nm,nm = (atM ms i).n:=⟨_,rfl⟩
 obtain ⟨tx,htx⟩:∃ tx,tx = (atM ms i).t:=⟨_,rfl⟩
 have hzi:=(zA HMZ) i
 rw [<- hnm,<- htx] at hzi
 obtain ⟨hzn,hzt⟩:=hzi
 rw [<- hnm] at c0
 rw [<- htx] at c1
 have HNM:=zB (And.intro hnm htx)
 clear hnm htx
 clear hcd
 rw [<- (zA HNM).2] at hsz0
 have hsI:(0:Int) < (tx.size:Int):=by omega
 have hs0:((tx.size:Int) == 0) = false:=beq_eq_false_iff_ne.2 (by omega)
 have hs1:¬ tx = ByteArray.empty:=fun e=>by rw [e] at hsz0; exact absurd hsz0 (by decide)
 have hs2:¬ (tx.size:Int) = 0:=by omega
 have HXN:=zB (zL rp cap _ a bs w3.drew ((zA HS3).rd.below (Below.refl _ _).drew) hl)
 go_upto_region 24 with fail
 go_region_held3 (fun W=>W.cell? ⟨g,i * 2 + 1,none⟩ = some (.string tx)) (first | (go_keep; done) | exact c1a) (first
  | (go_at_call 10; (with_reducible refine (zA HXN).mono ?_); rintro e w5 ⟨⟨x,rfl,hx,HX5⟩,H5,HP5⟩; have HS5:=zB (((zA HS3).below (Below.refl _ _).drew).read (zA HP5) (zA H5)); obtain ⟨_,c1a,_,f1a⟩:=(zA HS5).cells hi; rw [<- (zA HNM).2] at c1a; obtain ⟨m,HM⟩:∃ m,Hid (m = (v * 256 + x) % tx.size):=⟨_,zB rfl⟩; have hml:m < tx.size:=(by rw [zA HM]; exact Nat.mod_lt _ hsz0); have tm1:IntKind.i64.wrap ((v:Int) * 256) = ((v * 256:Nat):Int):=(by rw [Go.IntWalk.i64_in _ (by omega)]; omega); have tm2:IntKind.i64.wrap (((v * 256:Nat):Int) + (x:Int)) = ((v * 256 + x:Nat):Int):=(by rw [Go.IntWalk.i64_in _ (by omega)]; omega); have tm3:((v * 256 + x:Nat):Int).tmod (tx.size:Int) = (m:Int):=(by rw [Int.tmod_eq_emod_of_nonneg (by omega),zA HM]; simp); have tm4:((v:Int) * 256 + (x:Int)).tmod (tx.size:Int) = (m:Int):=(by rw [<- tm3]; congr 1); have tm5:(IntKind.i64.wrap ((v:Int) * 256 + (x:Int))).tmod (tx.size:Int) = (m:Int):=(by rw [Go.IntWalk.i64_in _ (by omega)]; exact tm4); have tm6:((v:Int) * 256 + (x:Int)) % (tx.size:Int) = (m:Int):=(by rw [<- Int.tmod_eq_emod_of_nonneg (by omega)]; exact tm4); clear H5 HP5))
 all_goals
  have m1:(0:Int) <= (m:Int):=by omega
  have m2:(m:Int) <= (tx.size:Int):=by omega
  have m3:(m:Int) + 1 <= (tx.size:Int):=by omega
  have m4:IntKind.i64.wrap ((m:Int) + 1) = (m:Int) + 1:=Go.IntWalk.i64_in _ (by omega)
  have m5:((m:Int) + 1).toNat = m + 1:=by omega
  have m6:(0:Int) <= (m:Int) + 1:=by omega
  have hz1:(tx.extract 0 m).size <= 2000000000000:=by rw [ByteArray.size_extract]; omega
  have hz2:(tx.extract (m + 1) tx.size).size <= 2000000000000:=by rw [ByteArray.size_extract]; omega
  have hz12:(tx.extract 0 m).size + (tx.extract (m + 1) tx.size).size <= 2000000000000:=by rw [ByteArray.size_extract,ByteArray.size_extract]; omega
  go_upto_region 25 with fail
  try rw [tm5]
  try rw [tm6]
  clear tm1 tm2 tm3 tm4 tm5 tm6
  go_region
  all_goals
   go_wp2_with fail
   go_ret
   refine zDH ((zA HS5).below (Below.refl _ _).drew) hi (zA HMZ) hm4 ?_ ?_
   ·rw [zK]; show (tx.extract 0 m).size + (tx.extract (m + 1) tx.size).size <= _; omega
   ·have hc:=zA HCD
    have h0:=hc.2.2.2.2.2.2.2
    unfold zAt
    rw [if_neg (by omega),if_neg (by omega),if_neg (by omega),if_neg (by omega),if_neg (by omega),if_neg (by omega),if_pos ⟨by omega,h0⟩,<- zA HIK,<- zA HI,<- zA HV,<- zA HX5,<- (zA HNM).2,<- zA HM]
theorem zKN {n:Nat}:∀ {f:Nat} {ms:List zI},n <= ms.length -> zE7 n f ms = ms
 | 0,ms,_=>rfl
 | f + 1,ms,h=>by simp only [zE7]; rw [if_neg (by omega)]
theorem zNE (rp cap p g c:Nat) (a:Option Addr) (bs:List UInt8) (ms:List zI) (w0 w:World) (h:SpS w0 w rp cap a bs g c ms p) (hl:bs.length <= 1200) (hm1:1 <= ms.length) (hm4:ms.length <= 4) (hz:MsZ 3 2000000000000 ms) (hcd:nxt bs p % 16 ≠ 8 /\ nxt bs p % 16 ≠ 15 /\ nxt bs p % 8 ≠ 0 /\ nxt bs p % 8 ≠ 1 /\ nxt bs p % 8 ≠ 2 /\ nxt bs p % 8 ≠ 3 /\ nxt bs p % 8 ≠ 4 /\ nxt bs p % 8 ≠ 5 /\ nxt bs p % 16 = 6) :
  Calls Tryz.prog 21 #[.pointer (some ⟨rp,0,none⟩),.slice (some ⟨g,0,none⟩) ms.length c] w (zAO w0 rp cap a bs (fun ms'=>ms' = zAt bs p ms)):=by
 have H:=zB h
 have HMZ:=zB hz
 clear h hz
 go_enter Tryz.func21,Tryz.ntmps21
 go_wp2_with fail
 (with_reducible refine (zL rp cap p a bs _ (zA H).rd hl).mono ?_)
 rintro e w1 ⟨⟨k,rfl,hk,HK⟩,H1,HP1⟩
 have HS1:=zB ((zA H).read (zA HP1) (zA H1))
 clear H H1 HP1
 go_wp2_with fail
 (with_reducible refine (zL rp cap (adv bs p) a bs _ (zA HS1).rd hl).mono ?_)
 rintro e w2 ⟨⟨ik,rfl,hik,HIK⟩,H2,HP2⟩
 have HS2:=zB ((zA HS1).read (zA HP2) (zA H2))
 clear HS1 H2 HP2
 obtain ⟨i,HI⟩:∃ i,Hid (i = ik % ms.length):=⟨_,zB rfl⟩
 have hi:i < ms.length:=by rw [zA HI]; exact Nat.mod_lt _ (by omega)
 have hiI:(i:Int) < (ms.length:Int):=by omega
 have hm0:((ms.length:Int) == 0) = false:=beq_eq_false_iff_ne.2 (by omega)
 have tmi:(ik:Int).tmod (ms.length:Int) = (i:Int):=by rw [Int.tmod_eq_emod_of_nonneg (by omega),zA HI]; simp
 have tmj:(ik:Int) % (ms.length:Int) = (i:Int):=by rw [zA HI]; simp
 go_wp2_with fail
 (with_reducible refine (zL rp cap (adv bs (adv bs p)) a bs _ (zA HS2).rd hl).mono ?_)
 rintro e w3 ⟨⟨v,rfl,hv,HV⟩,H3,HP3⟩
 have HS3:=zB ((zA HS2).read (zA HP3) (zA H3))
 clear HS2 H3 HP3 tmi tmj hm0
 have HCD:=zB hcd
 rw [<- zA HK] at hcd
 have t0:((k:Int) % 16 == 8) = false:=by simp; omega
 have t1:((k:Int) % 16 == 15) = false:=by simp; omega
 have t2:((k:Int) % 8 == 0) = false:=by simp; omega
 have t3:((k:Int) % 8 == 1) = false:=by simp; omega
 have t4:((k:Int) % 8 == 2) = false:=by simp; omega
 have t5:((k:Int) % 8 == 3) = false:=by simp; omega
 have t6:((k:Int) % 8 == 4) = false:=by simp; omega
 have t7:((k:Int) % 8 == 5) = false:=by simp; omega
 have t8:((k:Int) % 16 == 6) = true:=by simp; omega
 obtain ⟨c0,c1,f0,f1⟩:=(zA HS3).cells hi
 obtain ⟨nm,hnm⟩:∃ nm,nm = (atM ms i).n:=⟨_,rfl⟩
 obtain ⟨tx,htx⟩:∃ tx,tx = (atM ms i).t:=⟨_,rfl⟩
 have hzi:=(zA HMZ) i
 rw [<- hnm,<- htx] at hzi
 obtain ⟨hzn,hzt⟩:=hzi
 rw [<- hnm] at c0
 rw [<- htx] at c1
 have HNM:=zB (And.intro hnm htx)
 clear hnm htx
 clear hcd
 obtain ⟨N,hN⟩:∃ N,N = 100 + v % 2:=⟨_,rfl⟩
 have hNI:(100:Int) + (v:Int) % 2 = (N:Int):=by omega
 have hNl:N <= 101:=by omega
 have hN1:100 <= N:=by omega
 have HN:=zB hN
 have HF0:=zB (show zE7 N 101 ms = zAt bs p ms by
  have hc:=zA HCD
  unfold zAt
  rw [if_neg (by omega),if_neg (by omega),if_neg (by omega),if_neg (by omega),if_neg (by omega),if_neg (by omega),if_neg (fun x=>absurd x.1 (by omega)),if_neg (by omega),if_pos (by omega),<- zA HV,<- hN])
 obtain ⟨i2,hi2,hx0,hx1,hx2⟩:=info_parts zEg
 have HQ:=zB (And.intro hi2 (And.intro hx0 (And.intro hx1 hx2)))
 have HZ0:=zB (show MsZ 100 3000000000000 ms from (zA HMZ).mono (by decide) (by decide))
 clear hi2 hx0 hx1 hx2 hN c0 c1 f0 f1
 go_wp2_with fail
 go_loopg [1] (101) (fun f mv wr=>∃ (F g c:Nat) (us:List zI),F = f /\ mv = .slice (some ⟨g,0,none⟩) us.length c /\ 1 <= us.length /\ us.length <= N /\ N - us.length <= F /\ Hid (zE7 N F us = zAt bs p ms) /\ Hid (MsZ 100 3000000000000 us) /\ Hid (SpS w0 wr rp cap a bs g c us (adv bs (adv bs (adv bs p)))))
 case atStart=>exact ⟨101,g,c,ms,rfl,rfl,hm1,by omega,by omega,HF0,HZ0,HS3⟩
 case round=>
  clear HF0 HZ0 HS3
  obtain ⟨F,g,c,us,hFf,rfl,hu1,huN,huf,HF,HUZ,HS⟩:=hrel
  obtain ⟨wo,hwo⟩:∃ wo,wo = wr:=⟨_,rfl⟩
  subst hwo
  by_cases hlt:us.length < N
  ·have hltI:(us.length:Int) < (N:Int):=by omega
   have HXD:=zB (zEm 7 us.length wo (by omega) (by decide) (by decide) (by omega))
   have hdz:=zFT 7 us.length
   obtain ⟨D,hD⟩:∃ D,D = Ze 7 us.length:=⟨_,rfl⟩
   rw [<- hD] at HXD hdz
   have HD:=zB hD
   clear hD
   go_wp2_with fail
   (with_reducible refine (zA HXD).mono ?_)
   rintro e w5 ⟨rfl,hb5⟩
   obtain ⟨nz,hnz⟩:∃ nz,nz = (⟨#[122]⟩:ByteArray) ++ D:=⟨_,rfl⟩
   have hnzz:nz.size <= 8:=by rw [hnz,zK]; show 1 + D.size <= 8; omega
   have HS5:=zB ((zA HS).below hb5)
   have hbm:=zC w5 (.cells #[.string nz,.string bg1] 39)
   have HROW:=zB ((zA HS5).row.below hbm)
   have hwz:w0.heap.size <= w5.heap.size:=(zA HS5).kp.size
   have HNZ:=zB hnz
   clear hb5 HXD hnz
   go_wp2_with (at_builtin; rw [<- zA HNZ]; refine wpList_append_own_at _ rfl (.tmp 199) (.tmp 205) 36 rfl w0.heap.size 39 i2 _ 2 32 Tryz.underlying36 (zA HQ).1 (zA HQ).2.1 (zA HQ).2.2.1 (zA HQ).2.2.2 rfl (by decide) _ us.length (zU us) rfl (zA HROW) ⟨w5.heap.size,0,none⟩ 1 1 (zU [⟨nz,bg1⟩]) rfl rfl (Z0 w5 ⟨nz,bg1⟩) (zAM _) ?b1 ?b2 ?b3 ?next)
   case b1=>unfold maxLen; omega
   case b2=>omega
   case b3=>simp; omega
   case next=>
    intro v6 w6 hown6 hgrow6 hnil6 hat6
    obtain ⟨g6,c6,us6,hus6,rfl,hp6⟩:=((zA HS5).below hbm).app (vs:=[⟨nz,bg1⟩]) (by simp) hown6 hgrow6
    have HP6:=zB hp6
    have hl6:us6.length = us.length + 1:=by rw [hus6]; simp
    obtain ⟨f',hf'⟩:∃ f',F = f' + 1:=⟨F - 1,by omega⟩
    have HF6:=zB (show zE7 N f' us6 = zAt bs p ms by
     rw [<- zA HF,hus6,zA HNZ,zA HD,hf']
     conv=>rhs; simp only [zE7]
     rw [if_pos hlt])
    have HUZ6:=zB (show MsZ 100 3000000000000 us6 by rw [hus6]; exact (zA HUZ).snoc (by show nz.size <= _; omega) (by show bg1.size <= _; decide))
    have hl7:1 <= us6.length:=by omega
    have hl8:us6.length <= N:=by omega
    have hl9:N - us6.length <= f':=by omega
    clear hown6 hgrow6 hnil6 hat6 hus6 hp6 HROW hl6
    go_wp2_with fail
    go_roundg f'
    case measure=>omega
    case rel=>exact ⟨f',g6,c6,us6,rfl,rfl,hl7,hl8,hl9,HF6,HUZ6,HP6⟩
  ·have hltI:¬ (us.length:Int) < (N:Int):=by omega
   have HFD:=zB (show us = zAt bs p ms by rw [<- zA HF,zKN (by omega)])
   go_wp2_with fail
   go_ret
   exact zIC (zA HS) hu1 (by omega) (zA HUZ) (zA HFD)
end Go.Proofs.YtgiemobdmbijiaaGreatDoor
