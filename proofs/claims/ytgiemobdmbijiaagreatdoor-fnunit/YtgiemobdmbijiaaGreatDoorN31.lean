import Derived.BigQuiet
import Derived.Test.YtgiemobdmbijiaaGreatDoorN05
import Derived.Test.YtgiemobdmbijiaaGreatDoorN12
import Derived.Test.YtgiemobdmbijiaaGreatDoorN13
import Derived.Test.YtgiemobdmbijiaaGreatDoorN18
import Derived.Test.YtgiemobdmbijiaaGreatDoorN21
import Derived.Test.YtgiemobdmbijiaaGreatDoorN30
namespace Go.Proofs.YtgiemobdmbijiaaGreatDoor
set_option linter.unusedSimpArgs false
set_option linter.unusedVariables false
set_option maxHeartbeats 16000000
set_option maxRecDepth 100000
open Go.RowKit
theorem zJD {os:List OpR} {o:ByteArray} (h:∀ i,i < os.length -> (ze (dW (atO os i))).size <= 21000):∀ i,i <= os.length -> (dcT os o i).size <= o.size + 21001 * i
 | 0,_=>Nat.le_refl _
 | i + 1,hi=>by
  have h1:=zJD (o:=o) h i (by omega)
  have h2:=h i (by omega)
  have:(⟨#[10]⟩:ByteArray).size = 1:=rfl
  simp only [dcT]
  rw [zK,zK]
  omega
theorem zGM {o:OpR} (h:o.s.size <= 20000):(ze (dW o)).size <= 21000:=by
 have h1:=zIO o.l.toNat
 have h2:=zIP o.sd
 have a1:Zi.size = 6:=rfl
 have a2:ZN.size = 7:=rfl
 have a3:Z7.size = 5:=rfl
 unfold dW
 repeat' split
 all_goals
  simp only [ze,zK,zk]
  omega
theorem zKE {xs:List OpR} {i:Nat} (h:i < xs.length):atO xs i ∈ xs:=by
 unfold atO
 rw [List.getD_eq_getElem?_getD,List.getElem?_eq_getElem h]
 exact List.getElem_mem h
theorem zPH {xs:List ByteArray} {i:Nat} (h:i < xs.length):xs[i]? = some (atB xs i):=by
 unfold atB
 rw [List.getD_eq_getElem?_getD,List.getElem?_eq_getElem h]
 rfl
theorem zH2 (vu vo:Value) (us:List ByteArray) (os:List OpR) (b:ByteArray) (w:World) (hul:us.length <= 20001) (hol:os.length <= 20001) (hu:zz w vu us) (ho:ZF w vo os) (hus:∀ j,(atB us j).size <= 20000) (hos:∀ i,i < os.length -> OpT (atO os i) /\ (atO os i).s.size <= 20000) (hb:b.size <= 20000) :
  Calls Tryz.prog 8 #[.agg #[vu,vo,.string b]] w fun e w'=>e = .returned (.string (zDk us os b)) /\ Below w.heap.size w w':=by
 obtain ⟨W0,hW0⟩:∃ W0,W0 = w.alloc (.cells #[vu,vo,.string b] 27):=⟨_,rfl⟩
 have HW0:=zB hW0
 have hb0:Below w.heap.size w W0:=by rw [hW0]; exact zC _ _
 have z0:w.heap.size < W0.heap.size:=by rw [hW0]; simp
 have q0:W0.cell? ⟨w.heap.size,0,none⟩ = some vu:=by rw [hW0]; simp [go_sem]
 have q1:W0.cell? ⟨w.heap.size,1,none⟩ = some vo:=by rw [hW0]; simp [go_sem]
 have q2:W0.cell? ⟨w.heap.size,2,none⟩ = some (.string b):=by rw [hW0]; simp [go_sem]
 have HU:=zB (hu.below hb0)
 have HO:=zB (ho.grown (row:=none) (zO hb0 none) (fun g _ e=>by cases e))
 have HB0:=zB hb0
 have HUS:=zB hus
 have HOS:=zB hos
 obtain ⟨au,cu,rfl,_⟩:=hu
 obtain ⟨ao,co,rfl,_⟩:=ho
 clear hW0 hb0 hus hos
 go_enter Tryz.func8,Tryz.ntmps8
 go_wp2_with fail
 rw [<- zA HW0]
 go_loopw [3,4] (fun ov iv wr=>∃ (i:Nat) (o:ByteArray),i <= us.length /\ iv = .int .i64 (i:Int) /\ ov = .string o /\ Hid (o = usT zCb us ⟨#[]⟩ i) /\ wr = W0) (fun _ iv _=>us.length - (intOf iv).toNat)
 case atStart=>exact ⟨0,_,Nat.zero_le _,rfl,rfl,zB rfl,rfl⟩
 case round=>
  obtain ⟨i,o,hi,rfl,rfl,HE,hwr⟩:=hrel
  have hwe:=hwr.symm
  subst hwe
  have hz:o.size <= 20006 * 20001:=by
   have:=zDl (pre:=zCb) (us:=us) (o:=⟨#[]⟩) (by decide) (zA HUS) i
   rw [<- zA HE] at this
   have e:(⟨#[]⟩:ByteArray).size = 0:=rfl
   rw [e] at this
   have:(20000 + 6) * i <= 20006 * 20001:=Nat.mul_le_mul_left _ (by omega)
   omega
  by_cases hlt:i < us.length
  ·have hltI:(i:Int) < (us.length:Int):=by omega
   obtain ⟨gu,cu',hv,hgu,hcs⟩:=(zA HU).lt (by omega)
   obtain ⟨rfl,_,rfl⟩:au = some ⟨gu,0,none⟩ /\ us.length = us.length /\ cu = cu':=by simpa using hv
   have k0:=hcs i _ (zPH hlt)
   have hs:=(zA HUS) i
   clear hcs hv
   go_wp2_with fail
   refine ⟨⟨i + 1,_,by omega,by go_num,rfl,zB ?_,by first | rfl | trivial⟩,by simp [intOf]; omega⟩
   rw [zA HE]
   rfl
  ·obtain rfl:i = us.length:=by omega
   obtain ⟨A,hA⟩:∃ A,A = usT zCb us ⟨#[]⟩ us.length:=⟨_,rfl⟩
   obtain rfl:o = A:=(zA HE).trans hA.symm
   have HA:=zB hA
   clear HE hA hlt
   go_wp2_with fail
   go_loopw [3,5] (fun ov iv wr=>∃ (i:Nat) (t:ByteArray),i <= os.length /\ iv = .int .i64 (i:Int) /\ ov = .string t /\ Hid (t = dcT os o i) /\ Hid (Below W0.heap.size W0 wr)) (fun _ iv _=>os.length - (intOf iv).toNat)
   case atStart=>exact ⟨0,_,Nat.zero_le _,rfl,rfl,zB rfl,zB (Below.refl _ _)⟩
   case round=>
    obtain ⟨i,t,hi,rfl,rfl,HE,HBW⟩:=hrel
    have hz2:t.size <= 20006 * 20001 + 21001 * 20001:=by
     have:=zJD (os:=os) (o:=o) (fun i hi=>zGM ((zA HOS) i hi).2) i (by omega)
     rw [<- zA HE] at this
     have:21001 * i <= 21001 * 20001:=Nat.mul_le_mul_left _ (by omega)
     omega
    have r0:=((zA HBW).cell (p:=⟨w.heap.size,0,none⟩) z0).trans q0
    have r1:=((zA HBW).cell (p:=⟨w.heap.size,1,none⟩) z0).trans q1
    have r2:=((zA HBW).cell (p:=⟨w.heap.size,2,none⟩) z0).trans q2
    by_cases hlt:i < os.length
    ·have hltI:(i:Int) < (os.length:Int):=by omega
     obtain ⟨ao',co',hv,hcs⟩:=zA HO
     obtain ⟨rfl,_,rfl⟩:ao = ao' /\ os.length = os.length /\ co = co':=by simpa using hv
     rcases hcs with ⟨h0,_⟩ | ⟨go,rfl,hgo,hops⟩
     ·omega
     obtain ⟨b0,b1,b2,b3⟩:=(hops.below (zA HBW) hgo) i hlt
     simp only [Nat.zero_add] at b0 b1 b2 b3
     obtain ⟨hot,hos⟩:=(zA HOS) i hlt
     obtain ⟨x,hx⟩:∃ x,x = atO os i:=⟨_,rfl⟩
     rw [<- hx] at b0 b1 b2 b3 hot hos
     have hdz:=zGM hos
     have HXC:=zB (zCU x wr hot (by omega))
     obtain ⟨J,hJ⟩:∃ J,J = ze (dW x):=⟨_,rfl⟩
     rw [<- hJ] at HXC hdz
     have HJ:=zB (show J = ze (dW (atO os i)) by rw [hJ,hx])
     clear hops hv hJ hx hot
     go_wp2_with fail
     (with_reducible refine (zA HXC).mono ?_)
     rintro e w3 ⟨rfl,hb3⟩
     have HB3:=zB ((zA HBW).trans (hb3.mono (zA HBW).size))
     clear hb3 HXC
     go_wp2_with fail
     refine ⟨⟨i + 1,_,by omega,by go_num,rfl,zB ?_,HB3⟩,by simp [intOf]; omega⟩
     rw [zA HE,zA HJ]
     rfl
    ·obtain rfl:i = os.length:=by omega
     have HF:=zB (show t ++ ⟨#[98,101,103,105,110,10]⟩ ++ b = zDk us os b by rw [zA HE,zA HA]; exact zLS us os b)
     have hz3:(t ++ (⟨#[98,101,103,105,110,10]⟩:ByteArray)).size <= 20006 * 20001 + 21001 * 20001 + 6:=by rw [zK]; show t.size + 6 <= _; omega
     clear hlt
     go_wp2_with fail
     go_ret
     exact ⟨by rw [<- zA HF]; rfl,(zA HB0).trans ((zA HBW).mono (zA HB0).size)⟩
theorem zHP {pre:ByteArray} {us:List ByteArray} {o:ByteArray} (hp:pre.size <= 5) (hu:∀ j,(atB us j).size <= 100) (ho:o.size <= 300000) {j:Nat} (hj:j <= 100):(usT pre us o j).size <= 310600:=by
 have h1:=zDl hp hu (o:=o) j
 have:(100 + 6) * j <= 10600:=by omega
 omega
theorem zGN (rp cap p gu cu go co:Nat) (a:Option Addr) (bs:List UInt8) (us:List ByteArray) (os:List OpR) (w:World) (h:RdF w rp a cap bs p) (hl:bs.length <= 1200) (hul:us.length <= 100) (hol:os.length <= 20) (hus:∀ j,(atB us j).size <= 100) (hoz:∀ i,(atO os i).s.size <= 16) (hot:∀ i,i < os.length -> OpT (atO os i))
  (hgu:gu < w.heap.size) (hgo:go < w.heap.size) (hnu:gu ≠ rp) (hno:go ≠ rp) (hu:∀ i,i < us.length -> w.cell? ⟨gu,i,none⟩ = some (.string (atB us i))) (ho:Ops w go 0 os) :
  Calls Tryz.prog 32 #[.pointer (some ⟨rp,0,none⟩),.slice (some ⟨gu,0,none⟩) us.length cu,.slice (some ⟨go,0,none⟩) os.length co] w fun e w'=>(∃ s:ByteArray,e = .returned (.string s) /\ s.size <= 320000 /\ Hid (s = zGs (nxt bs p) us os)) /\ Hid (RdF w' rp a cap bs (adv bs p)) /\ Hid (zF w w' rp):=by
 have H:=zB h
 have HU:=zB hu
 have HO:=zB ho
 have HUS:=zB hus
 have HOZ:=zB hoz
 have HOT:=zB hot
 clear h hu ho hus hoz hot
 go_enter Tryz.func32,Tryz.ntmps32
 go_wp2_with fail
 (with_reducible refine (zL rp cap p a bs _ (zA H) hl).mono ?_)
 rintro e w1 ⟨⟨k,rfl,hk,HK⟩,H1,HP1⟩
 have HU1:=zB (fun i hi=>((zA HP1).cell (b:=gu) hgu hnu i).trans ((zA HU) i hi))
 have HO1:=zB ((zA HP1).ops (zA HO) hgo hno)
 have hgu1:gu < w1.heap.size:=Nat.lt_of_lt_of_le hgu (zA HP1).size
 have hgo1:go < w1.heap.size:=Nat.lt_of_lt_of_le hgo (zA HP1).size
 have hrp1:=(zA H1).lt
 clear H HU HO
 have HSZ:=zB (fun i=>zIQ (k:=k) (zA HUS) hul (zA HOZ) i)
 obtain ⟨o0,HO0⟩:∃ o0,Hid (o0 = hoT k us os 0):=⟨_,zB rfl⟩
 have e0:((k:Int) % 8 == 7) = true /\ o0 = ⟨#[32,10]⟩ \/ ((k:Int) % 8 == 7) = false /\ o0 = ⟨#[]⟩:=by
  rw [zA HO0]
  by_cases h7:k % 8 = 7
  ·exact Or.inl ⟨by simp; omega,by simp only [hoT]; rw [if_pos h7]⟩
  ·exact Or.inr ⟨by simp; omega,by simp only [hoT]; rw [if_neg h7]⟩
 rcases e0 with ⟨e7,eo⟩ | ⟨e7,eo⟩
 all_goals
  go_wp2_with fail
  rw [<- eo]
  clear e7 eo
  go_loopw [7,9] (fun ov iv wr=>∃ (i:Nat) (o:ByteArray),i <= os.length /\ iv = .int .i64 (i:Int) /\ ov = .string o /\ Hid (o = hoT k us os i) /\ Hid (Below w1.heap.size w1 wr)) (fun _ iv _=>os.length - (intOf iv).toNat)
  case atStart=>exact ⟨0,_,Nat.zero_le _,rfl,rfl,HO0,zB (Below.refl _ _)⟩
  case round=>
   clear HO0
   obtain ⟨i,o,hi,rfl,rfl,HE,HBW⟩:=hrel
   have hos:o.size <= 220000:=by have:=(zA HSZ) i; rw [<- zA HE] at this; omega
   obtain ⟨wo,hwo⟩:∃ wo,wo = wr:=⟨_,rfl⟩
   subst hwo
   by_cases hlt:i < os.length
   ·have hltI:(i:Int) < (os.length:Int):=by omega
    obtain ⟨x,hx⟩:∃ x,x = atO os i:=⟨_,rfl⟩
    have hxz:x.s.size <= 16:=by rw [hx]; exact (zA HOZ) i
    have hxt:OpT x:=by rw [hx]; exact (zA HOT) i hlt
    have hdz:=zC3 hxz
    have HDX:=zB (fun W=>zCU x W hxt (by omega))
    obtain ⟨J,hJ⟩:∃ J,J = ze (dW x):=⟨_,rfl⟩
    rw [<- hJ] at HDX hdz
    have HJ:=zB (show zGr k (atO os i) = if k % 8 = 6 then (⟨#[32,32]⟩:ByteArray) ++ J ++ ⟨#[32]⟩ else J by rw [hJ,hx]; rfl)
    have HX:=zB hx
    clear hx hJ hxt
    have HTAIL:∀ (q:ByteArray) (wv:World),q.size <= 310600 -> Hid (q = if i = k % 3 then usT (zGb k) us o us.length else o) -> Hid (Below w1.heap.size w1 wv) -> True:=fun _ _ _ _ _=>trivial
    clear HTAIL
    by_cases hi3:i = k % 3
    ·have ei:((i:Int) == (k:Int) % 3) = true:=by simp; omega
     have HHO:=zB (show hoT k us os (i + 1) = usT (zGb k) us o us.length ++ zGr k (atO os i) ++ ⟨#[10]⟩ by simp only [hoT]; rw [if_pos hi3,<- zA HE])
     clear hi3
     go_wp2_with fail
     go_loopw [7,10] (fun ov jv wr=>∃ (j:Nat) (q:ByteArray),j <= us.length /\ jv = .int .i64 (j:Int) /\ ov = .string q /\ Hid (q = usT (zGb k) us o j) /\ Hid (Below w1.heap.size w1 wr)) (fun _ jv _=>us.length - (intOf jv).toNat)
     case atStart=>exact ⟨0,_,Nat.zero_le _,rfl,rfl,zB rfl,HBW⟩
     case round=>
      obtain ⟨j,q,hj,rfl,rfl,HQ,HBJ⟩:=hrel
      have hqs:q.size <= 310600:=by rw [zA HQ]; exact zHP (zGq k) (zA HUS) (by omega) (by omega)
      by_cases hjl:j < us.length
      ·have hjI:(j:Int) < (us.length:Int):=by omega
       have c0:=((zA HBJ).cell (p:=⟨gu,j,none⟩) hgu1).trans ((zA HU1) j hjl)
       have hjs:=(zA HUS) j
       have i1:(0:Int) <= (4:Int) + (k:Int) / 8 % 2:=by omega
       have i2:(4:Int) + (k:Int) / 8 % 2 <= 5:=by omega
       obtain ⟨P,hP⟩:∃ P,P = zGb k:=⟨_,rfl⟩
       go_wp2_with fail
       go_quiet (fail)
       go_wp2_with fail
       refine ⟨⟨j + 1,_,by omega,by go_num,rfl,zB ?_,zB ((zA HBJ).trans ⟨rfl,rfl,rfl,Nat.le_refl _,fun _ _=>rfl⟩)⟩,by simp [intOf]; omega⟩
       rw [zA HQ]
       show _ = usT (zGb k) us o j ++ zGb k ++ atB us j ++ ⟨#[10]⟩
       unfold zGb
       have em:((4:Int) + (k:Int) / 8 % 2).toNat = 4 + k / 8 % 2:=by omega
       first | rw [em] | skip
       first | rfl | skip
      ·obtain rfl:j = us.length:=by omega
       obtain ⟨b0,b1,b2,b3⟩:=((zA HO1).below (zA HBJ) hgo1) i hlt
       simp only [Nat.zero_add] at b0 b1 b2 b3
       rw [<- zA HX] at b0 b1 b2 b3
       go_wp2_with fail
       (with_reducible refine ((zA HDX) _).mono ?_)
       rintro e w3 ⟨rfl,hb3⟩
       have HB3:=zB ((zA HBJ).trans (hb3.mono (zA HBJ).size))
       clear hb3
       by_cases h6:k % 8 = 6
       ·have e6:((k:Int) % 8 == 6) = true:=by simp; omega
        have hz3:((⟨#[32,32]⟩:ByteArray) ++ J).size <= 60:=by rw [zK]; show 2 + J.size <= 60; omega
        have hz4:((⟨#[32,32]⟩:ByteArray) ++ J ++ ⟨#[32]⟩).size <= 61:=by rw [zK]; show _ + 1 <= 61; omega
        have hj6:=zA HJ
        rw [if_pos h6] at hj6
        have HJ6:=zB hj6
        clear hj6 h6
        go_wp2_with fail
        refine ⟨⟨i + 1,_,by omega,by go_num,rfl,zB ?_,HB3⟩,by simp [intOf]; omega⟩
        rw [zA HHO,zA HJ6,<- zA HQ]
       ·have e6:((k:Int) % 8 == 6) = false:=by simp; omega
        have hj6:=zA HJ
        rw [if_neg h6] at hj6
        have HJ6:=zB hj6
        clear hj6 h6
        go_wp2_with fail
        refine ⟨⟨i + 1,_,by omega,by go_num,rfl,zB ?_,HB3⟩,by simp [intOf]; omega⟩
        rw [zA HHO,zA HJ6,<- zA HQ]
    ·have ei:((i:Int) == (k:Int) % 3) = false:=by simp; omega
     have HHO:=zB (show hoT k us os (i + 1) = o ++ zGr k (atO os i) ++ ⟨#[10]⟩ by simp only [hoT]; rw [if_neg hi3,<- zA HE])
     clear hi3
     obtain ⟨b0,b1,b2,b3⟩:=((zA HO1).below (zA HBW) hgo1) i hlt
     simp only [Nat.zero_add] at b0 b1 b2 b3
     rw [<- zA HX] at b0 b1 b2 b3
     go_wp2_with fail
     (with_reducible refine ((zA HDX) _).mono ?_)
     rintro e w3 ⟨rfl,hb3⟩
     have HB3:=zB ((zA HBW).trans (hb3.mono (zA HBW).size))
     clear hb3
     by_cases h6:k % 8 = 6
     ·have e6:((k:Int) % 8 == 6) = true:=by simp; omega
      have hz3:((⟨#[32,32]⟩:ByteArray) ++ J).size <= 60:=by rw [zK]; show 2 + J.size <= 60; omega
      have hz4:((⟨#[32,32]⟩:ByteArray) ++ J ++ ⟨#[32]⟩).size <= 61:=by rw [zK]; show _ + 1 <= 61; omega
      have hj6:=zA HJ
      rw [if_pos h6] at hj6
      have HJ6:=zB hj6
      clear hj6 h6
      go_wp2_with fail
      refine ⟨⟨i + 1,_,by omega,by go_num,rfl,zB ?_,HB3⟩,by simp [intOf]; omega⟩
      rw [zA HHO,zA HJ6]
     ·have e6:((k:Int) % 8 == 6) = false:=by simp; omega
      have hj6:=zA HJ
      rw [if_neg h6] at hj6
      have HJ6:=zB hj6
      clear hj6 h6
      go_wp2_with fail
      refine ⟨⟨i + 1,_,by omega,by go_num,rfl,zB ?_,HB3⟩,by simp [intOf]; omega⟩
      rw [zA HHO,zA HJ6]
   ·obtain rfl:i = os.length:=by omega
    by_cases h3:os.length <= k % 3
    ·have e3:(os.length:Int) <= (k:Int) % 3:=by omega
     have HF:=zB (show zGs k us os = usT zCb us o us.length ++ ⟨#[98,101,103,105,110,10]⟩ by unfold zGs; rw [if_pos h3,<- zA HE])
     clear h3
     go_wp2_with fail
     go_loopw [7,12] (fun ov jv wr=>∃ (j:Nat) (q:ByteArray),j <= us.length /\ jv = .int .i64 (j:Int) /\ ov = .string q /\ Hid (q = usT zCb us o j) /\ wr = wo) (fun _ jv _=>us.length - (intOf jv).toNat)
     case atStart=>exact ⟨0,_,Nat.zero_le _,rfl,rfl,zB rfl,rfl⟩
     case round=>
      obtain ⟨j,q,hj,rfl,rfl,HQ,hwr⟩:=hrel
      have hwe:=hwr.symm
      subst hwe
      have hqs:q.size <= 310600:=by rw [zA HQ]; exact zHP (by decide) (zA HUS) (by omega) (by omega)
      by_cases hjl:j < us.length
      ·have hjI:(j:Int) < (us.length:Int):=by omega
       have c0:=((zA HBW).cell (p:=⟨gu,j,none⟩) hgu1).trans ((zA HU1) j hjl)
       have hjs:=(zA HUS) j
       go_wp2_with fail
       refine ⟨⟨j + 1,_,by omega,by go_num,rfl,zB ?_,by first | rfl | trivial⟩,by simp [intOf]; omega⟩
       rw [zA HQ]
       rfl
      ·obtain rfl:j = us.length:=by omega
       go_wp2_with fail
       go_ret
       refine ⟨⟨_,rfl,?_,zB ?_⟩,zB ((zA H1).kept (fun i hi=>(zA HBW).block i (by omega))),zB ((zA HP1).trans (zF.of_below (zA HBW)))⟩
       ·rw [zK]; show q.size + 6 <= _; omega
       ·rw [<- zA HK,zA HF,<- zA HQ]
    ·have e3:¬ (os.length:Int) <= (k:Int) % 3:=by omega
     have HF:=zB (show zGs k us os = o ++ ⟨#[98,101,103,105,110,10]⟩ by unfold zGs; rw [if_neg h3,<- zA HE])
     clear h3
     go_wp2_with fail
     go_ret
     refine ⟨⟨_,rfl,?_,zB ?_⟩,zB ((zA H1).kept (fun i hi=>(zA HBW).block i (by omega))),zB ((zA HP1).trans (zF.of_below (zA HBW)))⟩
     ·rw [zK]; show o.size + 6 <= _; omega
     ·rw [<- zA HK,zA HF]
theorem zMr {s:ByteArray} (l:List (Nat × Nat)):∀ n:Nat,(∀ p ∈ l,wds (s.extract p.1 p.2) ≠ [zh]) -> bgN s l n = 0:=by
 induction l with
 | nil=>intro n _; rfl
 | cons p r ih=>
  intro n h
  simp only [bgN]
  rw [if_neg (h p (by simp))]
  exact ih _ fun q hq=>h q (by simp [hq])
theorem zMs {s:ByteArray} (l:List (Nat × Nat)):∀ n i:Nat,i < l.length -> wds (s.extract (l.getD i (0,0)).1 (l.getD i (0,0)).2) = [zh] -> (∀ j,j < i -> wds (s.extract (l.getD j (0,0)).1 (l.getD j (0,0)).2) ≠ [zh]) -> bgN s l n = n + i + 1:=by
 induction l with
 | nil=>intro n i h _ _; simp at h
 | cons p r ih=>
  intro n i hi h hj
  cases i with
  | zero=>
   have e:(p :: r).getD 0 (0,0) = p:=rfl
   rw [e] at h
   simp only [bgN]
   rw [if_pos h,Nat.add_zero]
  | succ i=>
   have e0:(p :: r).getD 0 (0,0) = p:=rfl
   have e:∀ k,(p :: r).getD (k + 1) (0,0) = r.getD k (0,0):=fun k=>rfl
   have h0:=hj 0 (by omega)
   rw [e0] at h0
   rw [e] at h
   simp only [bgN]
   rw [if_neg h0,ih (n + 1) i (by simpa using hi) h (fun j hj'=>by have:=hj (j + 1) (by omega); rwa [e] at this)]
   omega
theorem zKy {ls:List LnR} {i:Nat} (h:i < ls.length):(plc ls).getD i (0,0) = ((atL ls i).f,(atL ls i).t):=by
 simp [plc,atL,List.getD_eq_getElem?_getD,h]
theorem zOA {s:ByteArray} {ls:List LnR} {r:Int} (hp:plc ls = pcs 10 s 0) (h:zMS s ls r):r + 1 = (bgN s (pcs 10 s 0) 0:Int) /\ bgN s (pcs 10 s 0) 0 <= ls.length:=by
 have hw:∀ i,i < ls.length -> wds (s.extract ((pcs 10 s 0).getD i (0,0)).1 ((pcs 10 s 0).getD i (0,0)).2) = wsL s ls i:=fun i hi=>by rw [<- hp,zKy hi]; rfl
 have hl:(pcs 10 s 0).length = ls.length:=by rw [<- hp]; simp [plc]
 rcases h with ⟨rfl,h⟩ | ⟨i,hi,rfl,h1,h2⟩
 ·rw [zMr _ _ (fun p hp'=>?_)]
  ·exact ⟨by omega,Nat.zero_le _⟩
  ·obtain ⟨i,hi,e⟩:=List.mem_iff_getElem.1 hp'
   have hi':i < ls.length:=by omega
   have e2:(pcs 10 s 0).getD i (0,0) = p:=by rw [List.getD_eq_getElem?_getD,List.getElem?_eq_getElem hi,<- e]; rfl
   have:=h i hi'
   rw [<- hw i hi',e2] at this
   exact this
 ·rw [zMs _ _ i (by omega) (by rw [hw i hi]; exact h1) (fun j hj=>by rw [hw j (by omega)]; exact h2 j hj)]
  exact ⟨by omega,by omega⟩
theorem zOB {s:ByteArray} {ls:List LnR} {i:Nat} (hp:plc ls = pcs 10 s 0) (hi:i < ls.length):(atL ls i).f <= (atL ls i).t /\ (atL ls i).t <= s.size:=by
 have hm:((atL ls i).f,(atL ls i).t) ∈ plc ls:=by
  unfold plc
  exact List.mem_map_of_mem (f:=fun l:LnR=>(l.f,l.t)) (zBs hi)
 rw [hp] at hm
 unfold pcs at hm
 obtain ⟨h1,h2,_⟩:=zFJ 10 s (s.size - 0 + 1) 0 (Nat.zero_le _) ((atL ls i).f,(atL ls i).t) hm
 exact ⟨h1,h2⟩
theorem zH3 (s:ByteArray) (o b:OpR) (w:World) (hs:s.size <= 900000) (hb:∀ ws,OpW ws o -> OpT b) (hbz:b.s.size <= 16) :
  Calls Tryz.prog 37 #[.string s,.agg #[.string o.s,.int .i64 o.k,.int .i64 o.l,.int .i64 o.sd],.agg #[.string b.s,.int .i64 b.k,.int .i64 b.l,.int .i64 b.sd]] w fun e w'=>(∃ t:ByteArray,e = .returned (.string t) /\ t.size <= 1000000000000 /\ Hid (zLm s o b t)) /\ Below w.heap.size w w':=by
 obtain ⟨W0,hW0⟩:∃ W0,W0 = (w.alloc (.cells #[.string o.s,.int .i64 o.k,.int .i64 o.l,.int .i64 o.sd] 46)).alloc (.cells #[.string b.s,.int .i64 b.k,.int .i64 b.l,.int .i64 b.sd] 46):=⟨_,rfl⟩
 have HW0:=zB hW0
 have hb0:Below w.heap.size w W0:=by rw [hW0]; exact (zC _ _).alloc (by simp) _
 have z0:w.heap.size + 1 < W0.heap.size:=by rw [hW0]; simp
 have HC0:=zB (show zB7 W0 w.heap.size o by rw [hW0]; exact ⟨by simp [go_sem],by simp [go_sem],by simp [go_sem],by simp [go_sem]⟩)
 have HD0:=zB (show zB7 W0 (w.heap.size + 1) b by rw [hW0]; exact ⟨by simp [go_sem],by simp [go_sem],by simp [go_sem],by simp [go_sem]⟩)
 have HB0:=zB hb0
 have HB:=zB hb
 have HLX:=zB (zE2 s W0 (by omega))
 have hdz:=zC3 hbz
 clear hW0 hb0 hb
 go_enter Tryz.func37,Tryz.ntmps37
 go_wp2_with fail
 rw [<- zA HW0]
 (with_reducible refine (zA HLX).mono ?_)
 rintro e w1 ⟨g,c,ls,rfl,hg,hgl,HOL,HST,HPL,hll,hb1⟩
 have z1:=hb1.size
 have HC1:=zB ((zA HC0).below hb1)
 have HD1:=zB ((zA HD0).below hb1)
 have HB1:=zB ((zA HB0).trans (hb1.mono (zA HB0).size))
 clear hb1 HLX HC0 HD0 HB0
 go_wp2_with fail
 obtain ⟨n,hn⟩:∃ n,n = bgN s (pcs 10 s 0) 0:=⟨_,rfl⟩
 have HN:=zB hn
 clear hn
 go_loopw [8,9] (fun ov iv wr=>∃ (i:Nat) (t:ByteArray),i <= n /\ iv = .int .i64 (i:Int) /\ ov = .string t /\ t.size <= 1000000 * i /\ Hid (HdI s o b (pcs 10 s 0) i t) /\ Hid (Below w1.heap.size w1 wr)) (fun _ iv _=>n - (intOf iv).toNat)
 case atStart=>exact ⟨0,_,Nat.zero_le _,rfl,rfl,Nat.le_refl _,zB rfl,zB (Below.refl _ _)⟩
 case round=>
  obtain ⟨i,t,hi,rfl,rfl,htz,HE,HBW⟩:=hrel
  have hbw:=zA HBW
  have zw:=hbw.size
  have HSTw:=zB (fun l hl=>((zA HST) l hl).below hbw)
  have HOLw:=zB ((zA HOL).below hbw hgl)
  have HCw:=zB ((zA HC1).below hbw)
  have HDw:=zB ((zA HD1).below hbw)
  have HBX:=zB (zE3 s g c ls wr (by omega) (zA HOLw) (zA HSTw))
  clear hbw
  go_wp2_with fail
  (with_reducible refine (zA HBX).mono ?_)
  rintro e w2 ⟨r,rfl,hbeg,hw2⟩
  have hw2':=hw2.symm
  subst hw2'
  obtain ⟨hr,hnl⟩:=zOA (zA HPL) hbeg
  rw [<- zA HN] at hr hnl
  clear hw2 hbeg HBX
  by_cases hlt:i < n
  ·have hltI:(i:Int) <= r:=by omega
   have hil:i < ls.length:=by omega
   obtain ⟨o0,o1,o2⟩:=(zA HOLw) i hil
   have hpc:=zKy hil
   rw [zA HPL] at hpc
   obtain ⟨m1,m2⟩:=zOB (zA HPL) hil
   have hstr:=(zA HSTw) _ (zBs hil)
   obtain ⟨wv,hwv⟩:∃ wv,wv = (atL ls i).wv:=⟨_,rfl⟩
   obtain ⟨f,hf⟩:∃ f,f = (atL ls i).f:=⟨_,rfl⟩
   obtain ⟨z,hz⟩:∃ z,z = (atL ls i).t:=⟨_,rfl⟩
   rw [<- hwv] at o0 hstr
   rw [<- hf] at o1 m1 hpc hstr
   rw [<- hz] at o2 m1 m2 hpc hstr
   have HPC:=zB hpc
   obtain ⟨ws,hws⟩:∃ ws,ws = wds (s.extract f z):=⟨_,rfl⟩
   rw [<- hws] at hstr
   have HWS:=zB hws
   have hes:(s.extract f z).size <= 900000:=by rw [ZO]; omega
   have HWX:=zB (zDc wv ws wr hstr (fun x hx=>by
    have h1:x.size <= (s.extract f z).size:=zCx (by rw [<- hws]; exact hx)
    unfold maxLen; omega))
   obtain ⟨av,cv,rfl,_⟩:=hstr
   clear hpc hwv hf hz hws hnl hr
   go_wp2_with fail
   (with_reducible refine (zA HWX).mono ?_)
   rintro e w3 ⟨d,v,rfl,hv,hb3⟩
   have z3:=hb3.size
   obtain ⟨W4,hW4⟩:∃ W4,W4 = w3.alloc (.cells #[.string d.s,.int .i64 d.k,.int .i64 d.l,.int .i64 d.sd] 46):=⟨_,rfl⟩
   have hb4:Below wr.heap.size wr W4:=by rw [hW4]; exact hb3.alloc z3 _
   have HB4:=zB ((zA HBW).trans (hb4.mono zw))
   obtain ⟨a0,a1,a2,a3⟩:=(zA HCw).below hb4
   obtain ⟨d0,d1,d2,d3⟩:=(zA HDw).below hb4
   obtain ⟨x0,x1,x2,x3⟩:zB7 W4 w3.heap.size d:=by rw [hW4]; exact ⟨by simp [go_sem],by simp [go_sem],by simp [go_sem],by simp [go_sem]⟩
   obtain ⟨_,_,_⟩:=(zA HOLw) i hil
   have p1:=(hb4.cell (p:=⟨g,i * 3 + 1,none⟩) (by show g < wr.heap.size; omega)).trans o1
   have p2:=(hb4.cell (p:=⟨g,i * 3 + 2,none⟩) (by show g < wr.heap.size; omega)).trans o2
   have HW4:=zB hW4
   clear hb3 hb4 HWX hW4
   have HQ:=zB (fun W=>zG7 d o W)
   have hgd:=zKk
   have hfz:(f:Int) <= (z:Int):=by omega
   have hzs:(z:Int) <= (s.size:Int):=by omega
   have hfs:(f:Int) <= (s.size:Int):=by omega
   go_upto_region 7 with fail
   rw [<- zA HW4]
   have key:(v = true /\ zBS d o = true /\ OpW ws o) \/ ((v = false \/ zBS d o = false) /\ ¬ OpW ws o):=by
    rcases hv with ⟨rfl,h⟩ | ⟨rfl,h⟩
    ·by_cases e:d = o
     ·subst e; exact Or.inl ⟨rfl,zAT.2 rfl,h⟩
     ·refine Or.inr ⟨Or.inr ?_,fun h'=>e (h.one h')⟩
      cases hx:zBS d o with
      | false=>rfl
      | true=>exact absurd (zAT.1 hx) e
    ·exact Or.inr ⟨Or.inl rfl,h o⟩
   clear hv
   rcases key with ⟨rfl,hsm,how⟩ | ⟨hno,how⟩
   ·have hq:=zA HQ
    simp only [hsm] at hq
    clear hsm HQ
    have HXD:=zB (zCU b W4 ((zA HB) _ how) (by omega))
    obtain ⟨J,hJ⟩:∃ J,J = ze (dW b):=⟨_,rfl⟩
    have HNX:=zB (show HdI s o b (pcs 10 s 0) (i + 1) (t ++ J ++ ⟨#[10]⟩) from ⟨t,zA HE,Or.inl ⟨by rw [zA HPC,<- zA HWS]; exact how,by rw [hJ]⟩⟩)
    rw [<- hJ] at HXD hdz
    clear how hJ
    go_wp2_with fail
    (with_reducible refine (zA HXD).mono ?_)
    rintro e w5 ⟨rfl,hb5⟩
    have HB5:=zB ((zA HB4).trans (hb5.mono (zA HB4).size))
    clear hb5 HXD
    go_wp2_with fail
    refine ⟨⟨i + 1,_,by omega,by go_num,rfl,?_,HNX,HB5⟩,by simp [intOf]; omega⟩
    rw [zK,zK]; show _ + _ + 1 <= _; omega
   ·have HNX:=zB (show HdI s o b (pcs 10 s 0) (i + 1) (t ++ s.extract f z ++ ⟨#[10]⟩) from ⟨t,zA HE,Or.inr ⟨by rw [zA HPC,<- zA HWS]; exact how,by rw [zA HPC]⟩⟩)
    clear how
    have hcs:v = false \/ (v = true /\ zBS d o = false):=by
     cases v with
     | false=>exact Or.inl rfl
     | true=>exact Or.inr ⟨rfl,hno.resolve_left (by simp)⟩
    clear hno
    rcases hcs with rfl | ⟨rfl,hsm⟩
    rotate_left
    have hq:=zA HQ
    simp only [hsm] at hq
    clear hsm
    rotate_left
    all_goals
     clear HQ
     go_wp2_with fail
     go_quiet (fail)
     go_wp2_with fail
     refine ⟨⟨i + 1,_,by omega,by go_num,rfl,?_,HNX,zB ((zA HB4).trans ⟨rfl,rfl,rfl,Nat.le_refl _,fun _ _=>rfl⟩)⟩,by simp [intOf]; omega⟩
     rw [zK,zK]; show _ + _ + 1 <= _; omega
  ·obtain rfl:i = n:=by omega
   have hltI:¬ (i:Int) <= r:=by omega
   have HF:=zB (show zLm s o b t by unfold zLm; rw [<- zA HN]; exact zA HE)
   go_wp2_with fail
   go_ret
   exact ⟨⟨t,rfl,by omega,HF⟩,(zA HB1).trans ((zA HBW).mono (zA HB1).size)⟩
end Go.Proofs.YtgiemobdmbijiaaGreatDoor
namespace Go.Proofs.YtgiemobdmbijiaaGreatDoor
set_option maxHeartbeats 16000000
set_option maxRecDepth 100000
open Go.RowKit
def atI (xs:List Int) (i:Nat):Int:=xs.getD i 0
def zt (l:List Int):List Value:=l.map fun n=>.int .i64 n
theorem zKF (l:List Int):(zt l).length = l.length:=by simp [zt]
theorem zAf (l l':List Int):zt (l ++ l') = zt l ++ zt l':=by simp [zt]
theorem zBi (l:List Int):∀ u ∈ zt l,u.oneCell' = true:=by
 intro u hu
 simp only [zt,List.mem_map] at hu
 obtain ⟨b,_,rfl⟩:=hu
 rfl
theorem zLT (l:List Int) (i:Nat) (h:i < l.length):(zt l)[i]? = some (.int .i64 (atI l i)):=by
 simp [zt,atI,h]
def zFU (w:World) (g:Nat) (xs:List Int) (k:Nat):Prop:=
 g < w.heap.size /\ w.there g 0 xs.length /\ ∀ i,i < k -> w.cell? ⟨g,i,none⟩ = some (.int .i64 (atI xs i))
theorem zEG {w:World} {base g cap:Nat} {e:TypeId} {zs:List Int} (h:w.ownsRow base e 1 (.slice (some ⟨g,0,none⟩) zs.length cap) zs.length (zt zs)):base <= g /\ zFU w g zs zs.length:=by
 have hlt:=h.lt g rfl
 refine ⟨hlt.1,hlt.2,fun j hj=>⟨?_,h.frozenAt _⟩,fun i hi=>?_⟩
 ·rw [h.cellAt (0 + j) (by omega)]
  have:0 + j < (zt zs).length:=by rw [zKF]; omega
  rw [List.getElem?_eq_getElem this]
  rfl
 ·exact (h.cellAt i (by omega)).trans (zLT zs i hi)
end Go.Proofs.YtgiemobdmbijiaaGreatDoor
