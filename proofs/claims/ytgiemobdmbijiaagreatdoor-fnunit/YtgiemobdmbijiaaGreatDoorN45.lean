import Derived.BigQuiet
import Derived.Test.YtgiemobdmbijiaaGreatDoorN30
import Derived.Test.YtgiemobdmbijiaaGreatDoorN42
import Derived.Test.YtgiemobdmbijiaaGreatDoorN43
import Derived.Test.YtgiemobdmbijiaaGreatDoorN44
namespace Go.Proofs.YtgiemobdmbijiaaGreatDoor
set_option linter.unusedSimpArgs false
set_option linter.unusedVariables false
set_option maxHeartbeats 16000000
set_option maxRecDepth 100000
open Go.RowKit
theorem zNF (w:World):zEo (w.alloc (.cells #[] 5)) w.heap.size (.slice (some ⟨w.heap.size,0,none⟩) 0 0) []:=
 ⟨w.heap.size,0,rfl,Nat.le_refl _,by simp,Nat.le_refl _,Nat.zero_le _,fun j hj=>absurd hj (Nat.not_lt_zero _),fun j u hj=>by simp [cellsB] at hj⟩
theorem zJN (c:UInt8) (j:Nat):List.replicate j c ++ [c] = List.replicate (j + 1) c:=by rw [List.replicate_succ']
theorem zEo.str {w:World} {B:Nat} {v:Value} {l:List UInt8} (h:zEo w B v l):(convert 22 9 v).run Tryz.prog w = .ok (.string ⟨l.toArray⟩) w:=by
 obtain ⟨g,cap,rfl,_,_,_,_,_,h6⟩:=h
 exact zEw w g l.length cap l rfl (fun j u hj=>by rw [Addr.add_mid,Nat.zero_add]; exact h6 j u hj)
theorem zNG (rp cap p g c:Nat) (a:Option Addr) (bs:List UInt8) (ms:List zI) (w0 w:World) (h:SpS w0 w rp cap a bs g c ms p) (hl:bs.length <= 1200) (hm1:1 <= ms.length) (hm4:ms.length <= 4) (hz:MsZ 3 2000000000000 ms) (hcd:nxt bs p % 16 = 8) :
  Calls Tryz.prog 21 #[.pointer (some ⟨rp,0,none⟩),.slice (some ⟨g,0,none⟩) ms.length c] w (zAO w0 rp cap a bs (fun ms'=>ms' = zAt bs p ms)):=by
 have H:=zB h
 have HMZ:=zB hz
 clear h hz
 go_enter Tryz.func21,Tryz.ntmps21
 go_wp2_with fail
 (with_reducible refine (zL rp cap p a bs _ (zA H).rd hl).mono ?_)
 rintro e w1 ⟨⟨k,rfl,hk,HK⟩,H1,HP1⟩
 have HS1:=zB ((zA H).read (zA HP1) (zA H1))
 clear H H1 HP1
 go_wp2_with fail
 (with_reducible refine (zL rp cap (adv bs p) a bs _ (zA HS1).rd hl).mono ?_)
 rintro e w2 ⟨⟨ik,rfl,hik,HIK⟩,H2,HP2⟩
 have HS2:=zB ((zA HS1).read (zA HP2) (zA H2))
 clear HS1 H2 HP2
 obtain ⟨i,HI⟩:∃ i,Hid (i = ik % ms.length):=⟨_,zB rfl⟩
 have hi:i < ms.length:=by rw [zA HI]; exact Nat.mod_lt _ (by omega)
 have hiI:(i:Int) < (ms.length:Int):=by omega
 have hm0:((ms.length:Int) == 0) = false:=beq_eq_false_iff_ne.2 (by omega)
 have tmi:(ik:Int).tmod (ms.length:Int) = (i:Int):=by rw [Int.tmod_eq_emod_of_nonneg (by omega),zA HI]; simp
 have tmj:(ik:Int) % (ms.length:Int) = (i:Int):=by rw [zA HI]; simp
 go_wp2_with fail
 (with_reducible refine (zL rp cap (adv bs (adv bs p)) a bs _ (zA HS2).rd hl).mono ?_)
 rintro e w3 ⟨⟨v,rfl,hv,HV⟩,H3,HP3⟩
 have HS3:=zB ((zA HS2).read (zA HP3) (zA H3))
 clear HS2 H3 HP3 tmi tmj hm0
 have HCD:=zB hcd
 rw [<- zA HK] at hcd
 have t0:((k:Int) % 16 == 8) = true:=by simp; omega
 obtain ⟨c0,c1,f0,f1⟩:=(zA HS3).cells hi
 obtain ⟨nm,hnm⟩:∃ nm,nm = (atM ms i).n:=⟨_,rfl⟩
 obtain ⟨tx,htx⟩:∃ tx,tx = (atM ms i).t:=⟨_,rfl⟩
 have hzi:=(zA HMZ) i
 rw [<- hnm,<- htx] at hzi
 obtain ⟨hzn,hzt⟩:=hzi
 rw [<- hnm] at c0
 rw [<- htx] at c1
 have HNM:=zB (And.intro hnm htx)
 clear hnm htx
 clear hcd
 obtain ⟨l0,l1,lf0,lf1⟩:=(zA HS3).cells (i:=ms.length - 1) (by omega)
 obtain ⟨z,hz⟩:∃ z,z = ms.length - 1:=⟨_,rfl⟩
 have hzI:(ms.length:Int) - 1 = (z:Int):=by omega
 have hzl:(z:Int) < (ms.length:Int):=by omega
 have hzn2:z < ms.length:=by omega
 rw [<- hz] at l0 l1 lf0 lf1
 have HZ:=zB hz
 obtain ⟨N,hN⟩:∃ N,N = 63 + v % 3:=⟨_,rfl⟩
 have hNI:(64:Int) + (v:Int) % 3 - 1 = (N:Int):=by omega
 have hNl:N <= 65:=by omega
 have HN:=zB hN
 have HR0:=zB (zNF w3)
 clear hN hz c0 c1 f0 f1
 go_wp2_with fail
 go_loopw [8] (fun nv wr=>∃ (j gy cy:Nat) (l:List UInt8),j <= N /\ nv = .slice (some ⟨gy,0,none⟩) l.length cy /\ l.length <= N /\ Hid (l = List.replicate j 109) /\ Hid (zEo wr w3.heap.size (.slice (some ⟨gy,0,none⟩) l.length cy) l) /\ Hid (Below w3.heap.size w3 wr)) (fun nv _=>N - zNS nv)
 case atStart=>exact ⟨0,_,0,[],Nat.zero_le _,rfl,Nat.zero_le _,zB rfl,HR0,zB (zC _ _)⟩
 case round=>
  clear HR0
  obtain ⟨j,gy,cy,l,hj,rfl,hlN,HE,HR,HB⟩:=hrel
  have hlj:l.length = j:=by rw [zA HE]; simp
  have hbz:=(zA HB).size
  by_cases hlt:l.length < N
  ·have hltI:(l.length:Int) < (N:Int):=by omega
   have HNX:=zB (show l ++ [109] = List.replicate (j + 1) 109 by rw [zA HE]; exact zJN _ _)
   have hj1:j + 1 <= N:=by omega
   clear hlj
   go_wp2_with (at_builtin; refine zE8 rfl (.tmp 32) (.tmp 33) rfl w3.heap.size _ l 109 rfl ((zA HR).below (zC _ _)) (by simp; omega) ⟨wr.heap.size,0,none⟩ rfl (by simp [Addr.add,go_sem]) (by omega) ?next)
   case next=>
    intro v6 w6 hr6 hb6
    obtain ⟨g6,c6,rfl,_⟩:=id hr6
    obtain ⟨l6,hl6⟩:∃ l6,l6 = l ++ [(109:UInt8)]:=⟨_,rfl⟩
    rw [<- hl6] at hr6 HNX
    have hll:l6.length <= N:=by rw [hl6]; simp; omega
    have HL6:=zB (show l6.length = l.length + 1 by rw [hl6]; simp)
    have HR6:=zB hr6
    have HB6:=zB (((zA HB).alloc hbz (.cells #[.int .u8 109] 5)).trans hb6)
    rw [<- hl6]
    clear hr6 hb6 hl6 HR HB
    go_wp2_with fail
    exact ⟨⟨j + 1,g6,c6,l6,hj1,rfl,hll,HNX,HR6,HB6⟩,by have:=zA HL6; simp [zNS]; omega⟩
  ·have hltI:¬ (l.length:Int) < (N:Int):=by omega
   have hjN:j = N:=by omega
   have hcs:=(zA HR).str
   have l0':=((zA HB).cell (p:=⟨g,z * 2,none⟩) (zA HS3).gB.2).trans l0
   have lf0':=((zA HB).frozen (p:=⟨g,z * 2,none⟩) (zA HS3).gB.2).trans lf0
   have HJN:=zB hjN
   clear hjN hlj
   go_wp2_with fail
   go_ret
   have hLs:(⟨l.toArray⟩:ByteArray).size <= 100:=by show l.toArray.size <= 100; rw [List.size_toArray]; omega
   refine zK3 ((zA HS3).below (zA HB)) hzn2 (zA HMZ) hm4 hLs ?_
   have hc:=zA HCD
   unfold zAt
   rw [if_pos (by omega),<- zA HV,<- zA HN,<- zA HZ,zA HE,zA HJN]
   rfl
theorem zOQ (rp cap p g c:Nat) (a:Option Addr) (bs:List UInt8) (ms:List zI) (w0 w:World) (h:SpS w0 w rp cap a bs g c ms p) (hl:bs.length <= 1200) (hm1:1 <= ms.length) (hm4:ms.length <= 4) (hz:MsZ 3 2000000000000 ms) (hcd:nxt bs p % 16 ≠ 8 /\ nxt bs p % 16 ≠ 15 /\ nxt bs p % 8 ≠ 0 /\ nxt bs p % 8 ≠ 1 /\ nxt bs p % 8 ≠ 2 /\ nxt bs p % 8 ≠ 3 /\ nxt bs p % 8 ≠ 4 /\ nxt bs p % 8 ≠ 5 /\ nxt bs p % 16 ≠ 6 /\ nxt bs p % 16 = 14) :
  Calls Tryz.prog 21 #[.pointer (some ⟨rp,0,none⟩),.slice (some ⟨g,0,none⟩) ms.length c] w (zAO w0 rp cap a bs (fun ms'=>ms' = zAt bs p ms)):=by
 have H:=zB h
 have HMZ:=zB hz
 clear h hz
 go_enter Tryz.func21,Tryz.ntmps21
 go_wp2_with fail
 (with_reducible refine (zL rp cap p a bs _ (zA H).rd hl).mono ?_)
 rintro e w1 ⟨⟨k,rfl,hk,HK⟩,H1,HP1⟩
 have HS1:=zB ((zA H).read (zA HP1) (zA H1))
 clear H H1 HP1
 go_wp2_with fail
 (with_reducible refine (zL rp cap (adv bs p) a bs _ (zA HS1).rd hl).mono ?_)
 rintro e w2 ⟨⟨ik,rfl,hik,HIK⟩,H2,HP2⟩
 have HS2:=zB ((zA HS1).read (zA HP2) (zA H2))
 clear HS1 H2 HP2
 obtain ⟨i,HI⟩:∃ i,Hid (i = ik % ms.length):=⟨_,zB rfl⟩
 have hi:i < ms.length:=by rw [zA HI]; exact Nat.mod_lt _ (by omega)
 have hiI:(i:Int) < (ms.length:Int):=by omega
 have hm0:((ms.length:Int) == 0) = false:=beq_eq_false_iff_ne.2 (by omega)
 have tmi:(ik:Int).tmod (ms.length:Int) = (i:Int):=by rw [Int.tmod_eq_emod_of_nonneg (by omega),zA HI]; simp
 have tmj:(ik:Int) % (ms.length:Int) = (i:Int):=by rw [zA HI]; simp
 go_wp2_with fail
 (with_reducible refine (zL rp cap (adv bs (adv bs p)) a bs _ (zA HS2).rd hl).mono ?_)
 rintro e w3 ⟨⟨v,rfl,hv,HV⟩,H3,HP3⟩
 have HS3:=zB ((zA HS2).read (zA HP3) (zA H3))
 clear HS2 H3 HP3 tmi tmj hm0
 have HCD:=zB hcd
 rw [<- zA HK] at hcd
 have t0:((k:Int) % 16 == 8) = false:=by simp; omega
 have t1:((k:Int) % 16 == 15) = false:=by simp; omega
 have t2:((k:Int) % 8 == 0) = false:=by simp; omega
 have t3:((k:Int) % 8 == 1) = false:=by simp; omega
 have t4:((k:Int) % 8 == 2) = false:=by simp; omega
 have t5:((k:Int) % 8 == 3) = false:=by simp; omega
 have t6:((k:Int) % 8 == 4) = false:=by simp; omega
 have t7:((k:Int) % 8 == 5) = false:=by simp; omega
 have t8:((k:Int) % 16 == 6) = false:=by simp; omega
 have t9:((k:Int) % 16 == 14) = true:=by simp; omega
 obtain ⟨c0,c1,f0,f1⟩:=(zA HS3).cells hi
 obtain ⟨nm,hnm⟩:∃ nm,nm = (atM ms i).n:=⟨_,rfl⟩
 obtain ⟨tx,htx⟩:∃ tx,tx = (atM ms i).t:=⟨_,rfl⟩
 have hzi:=(zA HMZ) i
 rw [<- hnm,<- htx] at hzi
 obtain ⟨hzn,hzt⟩:=hzi
 rw [<- hnm] at c0
 rw [<- htx] at c1
 have HNM:=zB (And.intro hnm htx)
 clear hnm htx
 clear hcd
 obtain ⟨N,hN⟩:∃ N,N = 20000 + v % 2:=⟨_,rfl⟩
 have hNI:(20000:Int) + (v:Int) % 2 = (N:Int):=by omega
 have hNl:N <= 20001:=by omega
 have HN:=zB hN
 obtain ⟨vy,Wy,hcv,hry,hby⟩:=zM5 w3 tx (by omega)
 obtain ⟨g0,k0,rfl,_⟩:=id hry
 have HR0:=zB hry
 have HB0:=zB hby
 have htl:tx.data.toList.length = tx.size:=by simp
 have HTL:=zB htl
 clear hN hry hby
 rw [htl] at hcv
 obtain ⟨L0,hL0⟩:∃ L0,L0 = tx.data.toList:=⟨_,rfl⟩
 rw [<- hL0] at HR0 HTL
 have HL0:=zB hL0
 clear hL0 htl
 have hsz0:L0.length = tx.size:=zA HTL
 rw [<- hsz0] at hcv
 clear hsz0
 go_wp2_with fail
 go_loopw [11] (fun nv wr=>∃ (j gy cy:Nat) (l:List UInt8),j <= N - tx.size /\ nv = .slice (some ⟨gy,0,none⟩) l.length cy /\ Hid (l = L0 ++ List.replicate j 32) /\ Hid (zEo wr w3.heap.size (.slice (some ⟨gy,0,none⟩) l.length cy) l) /\ Hid (Below w3.heap.size w3 wr)) (fun nv _=>N - zNS nv)
 case atStart=>exact ⟨0,g0,k0,L0,Nat.zero_le _,rfl,zB (by simp),HR0,HB0⟩
 case round=>
  clear HR0 HB0
  obtain ⟨j,gy,cy,l,hj,rfl,HE,HR,HB⟩:=hrel
  have hlj:l.length = tx.size + j:=by rw [zA HE,<- zA HTL]; simp
  have hbz:=(zA HB).size
  by_cases hlt:l.length < N
  ·have hltI:(l.length:Int) < (N:Int):=by omega
   have HNX:=zB (show l ++ [32] = L0 ++ List.replicate (j + 1) 32 by rw [zA HE,List.append_assoc,zJN])
   have hj1:j + 1 <= N - tx.size:=by omega
   clear hlj
   go_wp2_with (at_builtin; refine zE8 rfl (.tmp 222) (.tmp 223) rfl w3.heap.size _ l 32 rfl ((zA HR).below (zC _ _)) (by simp; omega) ⟨wr.heap.size,0,none⟩ rfl (by simp [Addr.add,go_sem]) (by omega) ?next)
   case next=>
    intro v6 w6 hr6 hb6
    obtain ⟨g6,c6,rfl,_⟩:=id hr6
    obtain ⟨l6,hl6⟩:∃ l6,l6 = l ++ [(32:UInt8)]:=⟨_,rfl⟩
    rw [<- hl6] at hr6 HNX
    have HL6:=zB (show l6.length = l.length + 1 by rw [hl6]; simp)
    have HR6:=zB hr6
    have HB6:=zB (((zA HB).alloc hbz (.cells #[.int .u8 32] 5)).trans hb6)
    rw [<- hl6]
    clear hr6 hb6 hl6 HR HB
    go_wp2_with fail
    exact ⟨⟨j + 1,g6,c6,l6,hj1,rfl,HNX,HR6,HB6⟩,by have:=zA HL6; simp [zNS]; omega⟩
  ·have hltI:¬ (l.length:Int) < (N:Int):=by omega
   have hjN:j = N - tx.size:=by omega
   have hcs:=(zA HR).str
   have l1':=((zA HB).cell (p:=⟨g,i * 2 + 1,none⟩) (zA HS3).gB.2).trans c1
   have lf1':=((zA HB).frozen (p:=⟨g,i * 2 + 1,none⟩) (zA HS3).gB.2).trans f1
   have HJN:=zB hjN
   have HLJ:=zB hlj
   clear hjN hlj
   go_wp2_with fail
   go_ret
   have hLs:(⟨l.toArray⟩:ByteArray).size <= 3000000000000:=by show l.toArray.size <= _; rw [List.size_toArray]; have:=zA HLJ; omega
   refine zDH ((zA HS3).below (zA HB)) hi (zA HMZ) hm4 hLs ?_
   have et:(⟨l.toArray⟩:ByteArray) = tx ++ zOO 32 (N - tx.size):=by
    rw [zA HE,zA HL0,<- zA HJN]
    apply ByteArray.ext
    simp [zOO,ByteArray.data_append]
   have hc:=zA HCD
   unfold zAt
   rw [if_neg (by omega),if_neg (by omega),if_neg (by omega),if_neg (by omega),if_neg (by omega),if_neg (by omega),if_neg (fun x=>absurd x.1 (by omega)),if_neg (by omega),if_neg (by omega),if_pos (by omega),<- zA HIK,<- zA HI,<- zA HV,<- zA HN,<- (zA HNM).2,et]
theorem zLW (rp cap p g c:Nat) (a:Option Addr) (bs:List UInt8) (ms:List zI) (w0 w:World) (h:SpS w0 w rp cap a bs g c ms p) (hl:bs.length <= 1200) (hm1:1 <= ms.length) (hm4:ms.length <= 4) (hz:MsZ 3 2000000000000 ms) (hcd:nxt bs p % 16 ≠ 8 /\ nxt bs p % 16 = 15) :
  Calls Tryz.prog 21 #[.pointer (some ⟨rp,0,none⟩),.slice (some ⟨g,0,none⟩) ms.length c] w (zAO w0 rp cap a bs (fun ms'=>ms' = zAt bs p ms)):=by
 have H:=zB h
 have HMZ:=zB hz
 clear h hz
 go_enter Tryz.func21,Tryz.ntmps21
 go_wp2_with fail
 (with_reducible refine (zL rp cap p a bs _ (zA H).rd hl).mono ?_)
 rintro e w1 ⟨⟨k,rfl,hk,HK⟩,H1,HP1⟩
 have HS1:=zB ((zA H).read (zA HP1) (zA H1))
 clear H H1 HP1
 go_wp2_with fail
 (with_reducible refine (zL rp cap (adv bs p) a bs _ (zA HS1).rd hl).mono ?_)
 rintro e w2 ⟨⟨ik,rfl,hik,HIK⟩,H2,HP2⟩
 have HS2:=zB ((zA HS1).read (zA HP2) (zA H2))
 clear HS1 H2 HP2
 obtain ⟨i,HI⟩:∃ i,Hid (i = ik % ms.length):=⟨_,zB rfl⟩
 have hi:i < ms.length:=by rw [zA HI]; exact Nat.mod_lt _ (by omega)
 have hiI:(i:Int) < (ms.length:Int):=by omega
 have hm0:((ms.length:Int) == 0) = false:=beq_eq_false_iff_ne.2 (by omega)
 have tmi:(ik:Int).tmod (ms.length:Int) = (i:Int):=by rw [Int.tmod_eq_emod_of_nonneg (by omega),zA HI]; simp
 have tmj:(ik:Int) % (ms.length:Int) = (i:Int):=by rw [zA HI]; simp
 go_wp2_with fail
 (with_reducible refine (zL rp cap (adv bs (adv bs p)) a bs _ (zA HS2).rd hl).mono ?_)
 rintro e w3 ⟨⟨v,rfl,hv,HV⟩,H3,HP3⟩
 have HS3:=zB ((zA HS2).read (zA HP3) (zA H3))
 clear HS2 H3 HP3 tmi tmj hm0
 have HCD:=zB hcd
 rw [<- zA HK] at hcd
 have t0:((k:Int) % 16 == 8) = false:=by simp; omega
 have t1:((k:Int) % 16 == 15) = true:=by simp; omega
 obtain ⟨c0,c1,f0,f1⟩:=(zA HS3).cells hi
 obtain ⟨nm,hnm⟩:∃ nm,nm = (atM ms i).n:=⟨_,rfl⟩
 obtain ⟨tx,htx⟩:∃ tx,tx = (atM ms i).t:=⟨_,rfl⟩
 have hzi:=(zA HMZ) i
 rw [<- hnm,<- htx] at hzi
 obtain ⟨hzn,hzt⟩:=hzi
 rw [<- hnm] at c0
 rw [<- htx] at c1
 have HNM:=zB (And.intro hnm htx)
 clear hnm htx
 clear hcd
 clear c0 c1 f0 f1
 obtain ⟨i2,hi2,hx0,hx1,hx2⟩:=info_parts zEg
 have HQ:=zB (And.intro hi2 (And.intro hx0 (And.intro hx1 hx2)))
 have hwz:w0.heap.size <= w3.heap.size:=(zA HS3).kp.size
 have hbm:=zC w3 (.cells #[.string mdX.n,.string mdX.t] 39)
 have HR1:=zB (show ZG (w3.alloc (.cells #[.string mdX.n,.string mdX.t] 39)) w0.heap.size (.slice (some ⟨w3.heap.size,0,none⟩) 1 1) [mdX] from by
  have:=World.ownsRow_lit (base:=w0.heap.size) (e:=39) (size:=2) w3 #[.string mdX.n,.string mdX.t] 1 hwz (by decide) rfl
  simpa [ZG,zU] using this)
 have HO1:=zB ((zA HS3).row.ops.below hbm (zA HS3).gB.2)
 obtain ⟨yl,hyl⟩:∃ yl,yl = mdL v:=⟨_,rfl⟩
 have hylz:yl.size = 2:=by rw [hyl]; unfold mdL; split <;> rfl
 have eyl:(((v:Int) % 2 == 1) = true /\ yl = ⟨#[121,50]⟩) \/ (((v:Int) % 2 == 1) = false /\ yl = ⟨#[121,49]⟩):=by
  by_cases e:v % 2 = 1
  ·exact Or.inl ⟨by simp; omega,by rw [hyl]; unfold mdL; rw [if_pos e]⟩
  ·exact Or.inr ⟨by simp; omega,by rw [hyl]; unfold mdL; rw [if_neg e]⟩
 have HYL:=zB hyl
 have HYZ:=zB hylz
 clear hi2 hx0 hx1 hx2 hyl hylz
 rcases eyl with ⟨e2,ey⟩ | ⟨e2,ey⟩
 all_goals
  have HEY:=zB ey
  clear ey
  go_wp2_with (at_builtin; refine wpList_append_own_at _ rfl (.tmp 50) (.tmp 51) 36 rfl w0.heap.size 39 i2 _ 2 32 Tryz.underlying36 (zA HQ).1 (zA HQ).2.1 (zA HQ).2.2.1 (zA HQ).2.2.2 rfl (by decide) _ 1 (zU [mdX]) rfl (zA HR1) ⟨g,0,none⟩ ms.length c (zU ms) rfl (zCT ms) (zBA (zA HO1)) (zAM _) ?b1 ?b2 ?b3 ?next)
  case b1=>unfold maxLen; omega
  case b2=>omega
  case b3=>simp; omega
  case next=>
   intro v6 w6 hown6 hgrow6 hnil6 hat6
   have hb6:Below w3.heap.size w3 w6:=hbm.grown hgrow6 (by simp) (fun x hx=>by have hx':some w3.heap.size = some x:=hx; injection hx' with hx'; omega)
   have hr6:ZG w6 w0.heap.size v6 ([mdX] ++ ms):=by
    unfold ZG
    rw [zBE,List.length_append]
    exact hown6
   obtain ⟨g6,c6,rfl⟩:=hr6.has (by simp)
   obtain ⟨us,hus⟩:∃ us,us = [mdX] ++ ms:=⟨_,rfl⟩
   rw [<- hus] at hr6
   rw [<- hus]
   have hs6:=(zA HS3).below hb6
   have HS6:=zB (show SpS w0 w6 rp cap a bs g6 c6 us (adv bs (adv bs (adv bs p))) from ⟨hr6,hs6.rd,hs6.kp,hs6.rpl⟩)
   have hl6:us.length <= 10:=by rw [hus]; simp; omega
   have HUS:=zB hus
   have hwz6:w0.heap.size <= w6.heap.size:=hs6.kp.size
   clear hown6 hgrow6 hnil6 hat6 hb6 hr6 hus hs6 HR1 HO1 HS3 hbm
   obtain ⟨ty,hty⟩:∃ ty,ty = (⟨#[117,115,101,32]⟩:ByteArray) ++ yl ++ ⟨#[10,98,101,103,105,110,10,49]⟩:=⟨_,rfl⟩
   have htyz:ty.size = 14:=by rw [hty,zK,zK]; have:=zA HYZ; show 4 + yl.size + 8 = 14; omega
   have HTYZ:=zB htyz
   have hbn:=zC w6 (.cells #[.string ⟨#[121,49]⟩,.string ty,.string mdZ.n,.string mdZ.t] 39)
   have HROW:=zB ((zA HS6).row.below hbn)
   have HNW:=zB (show ∀ j u,(zU [(⟨⟨#[121,49]⟩,ty⟩:zI),mdZ])[j]? = some u -> (w6.alloc (.cells #[.string ⟨#[121,49]⟩,.string ty,.string mdZ.n,.string mdZ.t] 39)).cell? ((⟨w6.heap.size,0,none⟩:Addr).add j) = some u from fun j u hj=>by
    rw [Addr.add_mid]
    have:=World.rangeAt_of_block (w:=w6.alloc (.cells #[.string ⟨#[121,49]⟩,.string ty,.string mdZ.n,.string mdZ.t] 39)) (b:=w6.heap.size) (heap_alloc_new w6 _) 0 4
    exact this j u (by simpa [zU] using hj))
   have hty2:=hty
   rw [zA HEY] at hty2
   have HTY:=zB hty2
   have HTY1:=zB hty
   clear hty hty2 htyz
   go_wp2_with (at_builtin; rw [<- zA HTY]; refine wpList_append_own_at _ rfl (.tmp 53) (.tmp 59) 36 rfl w0.heap.size 39 i2 _ 2 32 Tryz.underlying36 (zA HQ).1 (zA HQ).2.1 (zA HQ).2.2.1 (zA HQ).2.2.2 rfl (by decide) _ us.length (zU us) rfl (zA HROW) ⟨w6.heap.size,0,none⟩ 2 2 (zU [⟨⟨#[121,49]⟩,ty⟩,mdZ]) rfl rfl (zA HNW) (zAM _) ?c1 ?c2 ?c3 ?next2)
   case c1=>unfold maxLen; omega
   case c2=>omega
   case c3=>simp; omega
   case next2=>
    intro v7 w7 hown7 hgrow7 hnil7 hat7
    obtain ⟨g7,c7,us7,hus7,rfl,hp7⟩:=((zA HS6).below hbn).app (vs:=[⟨⟨#[121,49]⟩,ty⟩,mdZ]) (by simp) hown7 hgrow7
    have HP7:=zB hp7
    have HU7:=zB hus7
    have HL7:=zB (show us7.length = us.length + 2 by rw [hus7]; simp)
    clear hown7 hgrow7 hnil7 hat7 hus7 hp7 HROW HNW
    go_wp2_with fail
    go_ret
    have hl7:=zA HL7
    have hlu:us.length = ms.length + 1:=by rw [zA HUS,List.length_append]; show 1 + ms.length = _; omega
    refine zIC (zA HP7) (by omega) (by omega) ?_ ?_
    ·rw [zA HU7,zA HUS]
     have h0:MsZ 100 3000000000000 ([mdX] ++ ms):=fun j=>by
      cases j with
      | zero=>exact ⟨by show mdX.n.size <= _; decide,by show mdX.t.size <= _; decide⟩
      | succ j=>exact ((zA HMZ).mono (by decide) (by decide)) j
     have e:[mdX] ++ ms ++ [(⟨⟨#[121,49]⟩,ty⟩:zI),mdZ] = ([mdX] ++ ms ++ [(⟨⟨#[121,49]⟩,ty⟩:zI)]) ++ [mdZ]:=by simp
     rw [e]
     exact (h0.snoc (by show (⟨#[121,49]⟩:ByteArray).size <= _; decide) (by show ty.size <= _; have:=zA HTYZ; omega)).snoc (by decide) (by decide)
    ·rw [zA HU7,zA HUS]
     have hc:=zA HCD
     unfold zAt
     rw [if_neg (by omega),if_pos (by omega),<- zA HV]
     have e:mdY v = ⟨⟨#[121,49]⟩,ty⟩:=by unfold mdY; rw [zA HTY1,<- zA HYL]; rfl
     rw [e]
theorem zJO (rp cap p g c:Nat) (a:Option Addr) (bs:List UInt8) (ms:List zI) (w0 w:World) (h:SpS w0 w rp cap a bs g c ms p) (hl:bs.length <= 1200) (hm1:1 <= ms.length) (hm4:ms.length <= 4) (hz:MsZ 3 2000000000000 ms) :
  Calls Tryz.prog 21 #[.pointer (some ⟨rp,0,none⟩),.slice (some ⟨g,0,none⟩) ms.length c] w (zAO w0 rp cap a bs (fun ms'=>ms' = zAt bs p ms)):=by
 by_cases h0:nxt bs p % 16 = 8
 ·exact zNG rp cap p g c a bs ms w0 w h hl hm1 hm4 hz (by omega)
 by_cases h1:nxt bs p % 16 = 15
 ·exact zLW rp cap p g c a bs ms w0 w h hl hm1 hm4 hz (by omega)
 by_cases h2:nxt bs p % 8 = 0
 ·exact zM7 rp cap p g c a bs ms w0 w h hl hm1 hm4 hz (by omega)
 by_cases h3:nxt bs p % 8 = 1
 ·exact zOP rp cap p g c a bs ms w0 w h hl hm1 hm4 hz (by omega)
 by_cases h4:nxt bs p % 8 = 2
 ·exact zM8 rp cap p g c a bs ms w0 w h hl hm1 hm4 hz (by omega)
 by_cases h5:nxt bs p % 8 = 3
 ·exact zM9 rp cap p g c a bs ms w0 w h hl hm1 hm4 hz (by omega)
 by_cases h6:nxt bs p % 8 = 4
 ·by_cases hs:0 < (atM ms (nxt bs (adv bs p) % ms.length)).t.size
  ·exact zND rp cap p g c a bs ms w0 w h hl hm1 hm4 hz ⟨h0,h1,h2,h3,h4,h5,h6,hs⟩
  ·exact zNC rp cap p g c a bs ms w0 w h hl hm1 hm4 hz ⟨h0,h1,h2,h3,h4,h5,h6,by omega⟩
 by_cases h7:nxt bs p % 8 = 5
 ·exact zNA rp cap p g c a bs ms w0 w h hl hm1 hm4 hz (by omega)
 by_cases h8:nxt bs p % 16 = 6
 ·exact zNE rp cap p g c a bs ms w0 w h hl hm1 hm4 hz (by omega)
 by_cases h9:nxt bs p % 16 = 14
 ·exact zOQ rp cap p g c a bs ms w0 w h hl hm1 hm4 hz (by omega)
 ·exact zNB rp cap p g c a bs ms w0 w h hl hm1 hm4 hz (by omega)
def swp2 (ms:List zI) (i:Nat):List zI:=(ms.set i (atM ms (i + 1))).set (i + 1) (atM ms i)
theorem zNH (ms:List zI) (i:Nat):(swp2 ms i).length = ms.length:=by simp [swp2]
theorem SpS.setM {w0 wr:World} {rp cap:Nat} {a:Option Addr} {bs:List UInt8} {g c:Nat} {ms:List zI} {q i:Nat} (h:SpS w0 wr rp cap a bs g c ms q) (hi:i < ms.length) (m:zI):SpS w0 ((wr.setCell ⟨g,i * 2,none⟩ (.string m.n)).setCell ⟨g,i * 2 + 1,none⟩ (.string m.t)) rp cap a bs g c (ms.set i m) q:=by
 have h2:=(h.setN hi m.n).setT (i:=i) (by rw [List.length_set]; exact hi) m.t
 rw [List.set_set,zKv hi,if_pos rfl] at h2
 exact h2
def zGV (ms:List zI):Nat -> List zI
 | 0=>ms
 | k + 1=>swp2 (zGV ms k) (2 * k)
theorem zJP (ms:List zI):∀ k,(zGV ms k).length = ms.length
 | 0=>rfl
 | k + 1=>by simp only [zGV]; rw [zNH,zJP ms k]
theorem zPP {ms:List zI} (h:ms.length <= 4):zGV ms (ms.length / 2) = swp ms:=by
 match ms,h with
 | [],_=>simp [zGV,swp]
 | [_],_=>simp [zGV,swp]
 | [_,_],_=>simp [zGV,swp,swp2,atM]
 | [_,_,_],_=>simp [zGV,swp,swp2,atM]
 | [_,_,_,_],_=>simp [zGV,swp,swp2,atM]
 | _ :: _ :: _ :: _ :: _ :: _,h=>simp at h
theorem MsZ.swp2 {n t:Nat} {ms:List zI} (h:MsZ n t ms) {i:Nat} (hi:i + 1 < ms.length):MsZ n t (swp2 ms i):=by
 unfold Go.Proofs.YtgiemobdmbijiaaGreatDoor.swp2
 exact (h.set (by omega) (h _).1 (h _).2).set (by rw [List.length_set]; exact hi) (h _).1 (h _).2
theorem zEL (rp cap p:Nat) (a:Option Addr) (bs:List UInt8) (w:World) (h:RdS w rp a cap bs p) (hl:bs.length <= 1200) :
  Calls Tryz.prog 11 #[.pointer (some ⟨rp,0,none⟩)] w (zAO w rp cap a bs (fun ms=>zPm bs p ms)):=by
 have hrp:=h.lt
 have H:=zB h
 clear h
 go_enter Tryz.func11,Tryz.ntmps11
 go_wp2_with fail
 (with_reducible refine (Z4 rp cap p a bs _ (zA H) hl).mono ?_)
 rintro e w1 ⟨⟨k,rfl,hk,HK⟩,H1,HP1⟩
 have HXP:=zB (zEK rp cap (adv bs p) a bs w1 (zA H1) hl)
 clear H
 go_wp2_with fail
 (with_reducible refine (zA HXP).mono ?_)
 rintro e w2 ⟨g,c,q,ms,rfl,HR,hm1,hm4,HMZ,HD,H2,HP2⟩
 have HS2:=zB (show SpS w w2 rp cap a bs g c ms q from ⟨by
  have:=zA HR
  have h1:=(zA HP1).size
  obtain ⟨h0,h2 | ⟨g',cap',cur,hv,hg,h3⟩⟩:=this
  ·exact ⟨h0,Or.inl h2⟩
  ·exact ⟨h0,Or.inr ⟨g',cap',cur,hv,by omega,h3⟩⟩,(zA H2).free,(zA HP1).trans (zA HP2),hrp⟩)
 clear HXP H1 HP1 HR H2 HP2
 by_cases h3:k % 4 = 3
 ·have e3:((k:Int) % 4 == 3) = true:=by simp; omega
  have e4:((k:Int) % 8 == 4) = false:=by simp; omega
  obtain ⟨rc0,rc1,rfz,_⟩:=(zA HS2).rd
  obtain ⟨s,hs⟩:∃ s,s = 1 + k % 7:=⟨_,rfl⟩
  have hsI:(1:Int) + (k:Int) % 7 = (s:Int):=by omega
  have HS3:=zB ((zA HS2).read (zAl w2 rp 1 (.int .i64 (s:Int))) ((zA HS2).rd.move s _ rfl))
  have HXS:=zB (zJO rp cap s g c a bs ms w _ (zA HS3) hl hm1 hm4 (zA HMZ))
  have HC:=zB (show nxt bs p % 4 = 3 /\ s = 1 + nxt bs p % 7 by rw [<- zA HK]; exact ⟨h3,hs⟩)
  clear h3 hs
  go_wp2_with fail
  (with_reducible refine (zA HXS).mono ?_)
  rintro e w4 ⟨g4,c4,q4,ms4,rfl,hn1,hn2,HZ4,HD4,HS4⟩
  clear HXS
  go_wp2_with fail
  go_ret
  exact ⟨g4,c4,q4,ms4,rfl,hn1,hn2,HZ4,zB ⟨ms,q,zA HD,Or.inl ⟨(zA HC).1,by rw [<- (zA HC).2]; exact zA HD4⟩⟩,HS4⟩
 ·have e3:((k:Int) % 4 == 3) = false:=by simp; omega
  have HC3:=zB (show ¬ nxt bs p % 4 = 3 by rw [<- zA HK]; exact h3)
  by_cases h4:k % 8 = 4
  ·have e4:((k:Int) % 8 == 4) = true:=by simp; omega
   have HC4:=zB (show nxt bs p % 8 = 4 by rw [<- zA HK]; exact h4)
   clear h3 h4
   go_wp2_with fail
   go_loopw [5] (fun iv wr=>∃ (i:Nat) (us:List zI),iv = .int .i64 (i:Int) /\ i <= ms.length /\ Hid (i % 2 = 0 /\ us = zGV ms (i / 2)) /\ Hid (MsZ 3 2000000000000 us) /\ Hid (SpS w wr rp cap a bs g c us q)) (fun iv _=>ms.length - (intOf iv).toNat)
   case atStart=>exact ⟨0,ms,rfl,by omega,zB ⟨rfl,rfl⟩,HMZ,HS2⟩
   case round=>
    clear HS2
    obtain ⟨i,us,rfl,hj,HU,HUZ,HS⟩:=hrel
    have HUL:=zB (show us.length = ms.length by rw [(zA HU).2]; exact zJP ms _)
    by_cases hlt:i + 1 < ms.length
    ·have hltI:(i:Int) + 1 < (ms.length:Int):=by omega
     have hl1:(i:Int) < (ms.length:Int):=by omega
     have hi1:i < us.length:=by rw [zA HUL]; omega
     have hi2:i + 1 < us.length:=by rw [zA HUL]; exact hlt
     obtain ⟨c0,c1,f0,f1⟩:=(zA HS).cells hi1
     obtain ⟨d0,d1,g0,g1⟩:=(zA HS).cells hi2
     obtain ⟨x,hx⟩:∃ x,x = atM us i:=⟨_,rfl⟩
     obtain ⟨y,hy⟩:∃ y,y = atM us (i + 1):=⟨_,rfl⟩
     rw [<- hx] at c0 c1
     rw [<- hy] at d0 d1
     have ei:((i:Int) + 1).toNat = i + 1:=by omega
     have hi0:(0:Int) <= (i:Int) + 1:=by omega
     have hgl:=(zA HS).gB.2
     have hgn:¬ g = wr.heap.size:=by omega
     have hgm:¬ wr.heap.size = g:=by omega
     have HS1:=zB ((zA HS).below (zC wr (.cells #[.string x.n,.string x.t] 39)))
     have HXY:=zB (And.intro hx hy)
     clear hx hy
     go_wp2_with fail
     refine ⟨⟨i + 2,swp2 us i,by go_num,by omega,zB ?_,zB ((zA HUZ).swp2 hi2),zB ?_⟩,by simp [intOf]; omega⟩
     ·have h:=zA HU
      refine ⟨by omega,?_⟩
      have e:(i + 2) / 2 = i / 2 + 1:=by omega
      have e2:2 * (i / 2) = i:=by omega
      rw [e]
      simp only [zGV]
      rw [<- h.2,e2]
     ·have h:=((zA HS).setM hi1 y).setM (i:=i + 1) (by rw [List.length_set]; exact hi2) x
      have h2:=h.below (zC _ (.cells #[.string x.n,.string x.t] 39))
      have e:swp2 us i = (us.set i y).set (i + 1) x:=by unfold swp2; rw [(zA HXY).1,(zA HXY).2]
      rw [e]
      exact h2
    ·have hltI:¬ (i:Int) + 1 < (ms.length:Int):=by omega
     have HE:=zB (show us = swp ms by
      have h:=zA HU
      rw [h.2,<- zPP hm4]
      congr 1
      omega)
     have hul:=zA HUL
     clear hul
     go_wp2_with fail
     go_ret
     have hul:=zA HUL
     refine ⟨g,c,q,us,by rw [hul]; rfl,by omega,by omega,zB ((zA HUZ).mono (by decide) (by decide)),zB ⟨ms,q,zA HD,Or.inr (Or.inl ⟨zA HC4,zA HE⟩)⟩,HS⟩
  ·have e4:((k:Int) % 8 == 4) = false:=by simp; omega
   have HC4:=zB (show ¬ nxt bs p % 8 = 4 by rw [<- zA HK]; exact h4)
   clear h3 h4
   go_wp2_with fail
   go_ret
   exact ⟨g,c,q,ms,rfl,hm1,by omega,zB ((zA HMZ).mono (by decide) (by decide)),zB ⟨ms,q,zA HD,Or.inr (Or.inr ⟨zA HC3,zA HC4,rfl⟩)⟩,HS2⟩
theorem zEp (a:Option Addr) (cap:Nat) (l:List UInt8) (w:World) (hl:l.length <= 1048576) (hcap:l.length <= cap) (h:zLo w a l) :
  Calls Tryz.prog 4 #[.slice a l.length cap] w fun e w'=>(∃ s:ByteArray,e = .returned (.string s) /\ s.size <= 4000000000000) /\ Below w.heap.size w w':=by
 have HXO:=zB (zJe a cap l w hl hcap h)
 have hbl:=zLp l
 clear h
 go_enter Tryz.func4,Tryz.ntmps4
 go_wp2_with fail
 (with_reducible refine (zA HXO).mono ?_)
 rintro e w1 ⟨⟨rp,cap',rfl,hrp,H1⟩,hb1⟩
 have HB1:=zB hb1
 have hrl:=(zA H1).lt
 obtain ⟨bs,hbs⟩:∃ bs,bs = zGc l:=⟨_,rfl⟩
 rw [<- hbs] at H1 hbl
 clear hb1 HXO hbs
 go_wp2_with fail
 (with_reducible refine (Z4 rp cap' 0 a bs _ (zA H1) hbl).mono ?_)
 rintro e w2 ⟨⟨k,rfl,hk,HK⟩,H2,HP2⟩
 have HXM:=zB (zEL rp cap' (adv bs 0) a bs w2 (zA H2) hbl)
 have hrl2:=(zA H2).lt
 clear H1
 go_wp2_with fail
 (with_reducible refine (zA HXM).mono ?_)
 rintro e w3 ⟨g,c,q,ms,rfl,hm1,hm2,HMZ,HD,HS⟩
 have hk13:=(zA HP2).trans ((zA HS).kp)
 have HB3:=zB (show Below w.heap.size w w3 from (zA HB1).trans (hk13.below (zA HB1).size hrp))
 obtain ⟨j,HJ⟩:∃ j,Hid (j = k % ms.length):=⟨_,zB rfl⟩
 have hj:j < ms.length:=by rw [zA HJ]; exact Nat.mod_lt _ (by omega)
 have hjI:(j:Int) < (ms.length:Int):=by omega
 have hm0:((ms.length:Int) == 0) = false:=beq_eq_false_iff_ne.2 (by omega)
 have tmi:(k:Int).tmod (ms.length:Int) = (j:Int):=by rw [Int.tmod_eq_emod_of_nonneg (by omega),zA HJ]; simp
 have tmj:(k:Int) % (ms.length:Int) = (j:Int):=by rw [zA HJ]; simp
 obtain ⟨_,c1,_,_⟩:=(zA HS).cells hj
 have hzt:=((zA HMZ) j).2
 obtain ⟨s,hs⟩:∃ s,s = (atM ms j).t:=⟨_,rfl⟩
 rw [<- hs] at c1 hzt
 have HR3:=zB (zA HS).rd
 have hrp3:w.heap.size <= rp:=hrp
 clear hs HXM H2 HP2 hk13 HD HMZ
 have hn1:¬ (s.size:Int) + 1 = 0:=by omega
 have hn2:(((s.size:Int) + 1) == 0) = false:=beq_eq_false_iff_ne.2 (by omega)
 have hn3:IntKind.i64.wrap ((s.size:Int) + 1) = (s.size:Int) + 1:=Go.IntWalk.i64_in _ (by omega)
 by_cases h5:k % 6 = 5
 ·have e5:((k:Int) % 6 == 5) = true:=by simp; omega
  clear h5
  go_wp2_with fail
  (with_reducible refine (zL rp cap' q a bs _ (zA HR3) hbl).mono ?_)
  rintro e w4 ⟨⟨x,rfl,hx,_⟩,H4,HP4⟩
  have HB4:=zB ((zA HB3).trans ((zA HP4).below (zA HB3).size hrp3))
  clear HP4
  go_wp2_with fail
  (with_reducible refine (zL rp cap' _ a bs _ (zA H4) hbl).mono ?_)
  rintro e w5 ⟨⟨y,rfl,hy,_⟩,_,HP5⟩
  have HB5:=zB ((zA HB4).trans ((zA HP5).below (zA HB4).size hrp3))
  obtain ⟨m,hm⟩:∃ m,m = (x * 256 + y) % (s.size + 1):=⟨_,rfl⟩
  have hml:m <= s.size:=by rw [hm]; have:=Nat.mod_lt (x * 256 + y) (show 0 < s.size + 1 by omega); omega
  have tm:((x:Int) * 256 + (y:Int)) % ((s.size:Int) + 1) = (m:Int):=by rw [hm]; simp
  have tm2:((x:Int) * 256 + (y:Int)).tmod ((s.size:Int) + 1) = (m:Int):=by rw [Int.tmod_eq_emod_of_nonneg (by omega)]; exact tm
  have hmI:(m:Int) <= (s.size:Int):=by omega
  have hm0:(0:Int) <= (m:Int):=by omega
  clear hm HP5
  go_wp2_with fail
  go_ret
  exact ⟨⟨_,rfl,by rw [ByteArray.size_extract]; omega⟩,zA HB5⟩
 ·have e5:((k:Int) % 6 == 5) = false:=by simp; omega
  by_cases h4:k % 6 = 4
  ·have e4:((k:Int) % 6 == 4) = true:=by simp; omega
   clear h4 h5
   go_wp2_with fail
   (with_reducible refine (zL rp cap' q a bs _ (zA HR3) hbl).mono ?_)
   rintro e w4 ⟨⟨x,rfl,hx,_⟩,H4,HP4⟩
   have HB4:=zB ((zA HB3).trans ((zA HP4).below (zA HB3).size hrp3))
   obtain ⟨m,hm⟩:∃ m,m = (k * 7 + x) % (s.size + 1):=⟨_,rfl⟩
   have hml:m <= s.size:=by rw [hm]; have:=Nat.mod_lt (k * 7 + x) (show 0 < s.size + 1 by omega); omega
   have tm:((k:Int) * 7 + (x:Int)) % ((s.size:Int) + 1) = (m:Int):=by rw [hm]; simp
   have tm2:((k:Int) * 7 + (x:Int)).tmod ((s.size:Int) + 1) = (m:Int):=by rw [Int.tmod_eq_emod_of_nonneg (by omega)]; exact tm
   have hmI:(m:Int) <= (s.size:Int):=by omega
   have hm0:(0:Int) <= (m:Int):=by omega
   obtain ⟨d,hd,hd9⟩:∃ d:Nat,d = k / 6 % 9 /\ d <= 8:=⟨_,rfl,by omega⟩
   have td:(k:Int) / 6 % 9 = (d:Int):=by omega
   have hd0:(0:Int) <= (d:Int):=by omega
   have hd1:(d:Int) <= 24:=by omega
   obtain ⟨T,hT⟩:∃ T:ByteArray,T = ⟨#[9,49,32,108,101,102,116,32,48,48,48,48,48,48,55,10,117,115,101,32,97,32,98,10]⟩:=⟨_,rfl⟩
   have hTz:T.size = 24:=by rw [hT]; rfl
   have z1:(s.extract 0 m).size <= 3000000000000:=by rw [ByteArray.size_extract]; omega
   have z2:((⟨#[9,49,32,108,101,102,116,32,48,48,48,48,48,48,55,10,117,115,101,32,97,32,98,10]⟩:ByteArray).extract d 24).size <= 24:=by rw [ByteArray.size_extract]; omega
   have z3:(s.extract m s.size).size <= 3000000000000:=by rw [ByteArray.size_extract]; omega
   have z4:(s.extract 0 m).size + (s.extract m s.size).size <= 3000000000000:=by rw [ByteArray.size_extract,ByteArray.size_extract]; omega
   clear hm HP4 hd hT hTz T
   go_wp2_with fail
   go_quiet (fail)
   go_wp2_with fail
   go_ret
   refine ⟨⟨_,rfl,?_⟩,(zA HB4).trans ⟨rfl,rfl,rfl,Nat.le_refl _,fun _ _=>rfl⟩⟩
   rw [zK,zK]
   have:(ByteArray.extract ⟨#[9,49,32,108,101,102,116,32,48,48,48,48,48,48,55,10,117,115,101,32,97,32,98,10]⟩ d 24).size <= 24:=z2
   omega
  ·have e4:((k:Int) % 6 == 4) = false:=by simp; omega
   clear h4 h5
   go_wp2_with fail
   go_ret
   exact ⟨⟨s,rfl,by omega⟩,zA HB3⟩
end Go.Proofs.YtgiemobdmbijiaaGreatDoor
