import Derived.Deep.RegionHeld3
import Derived.Deep.CutRange
import Derived.Test.YtgiemobdmbijiaaGreatDoorN30
import Derived.Test.YtgiemobdmbijiaaGreatDoorN31
import Derived.Test.YtgiemobdmbijiaaGreatDoorN41
namespace Go.Proofs.YtgiemobdmbijiaaGreatDoor
set_option linter.unusedSimpArgs false
set_option linter.unusedVariables false
set_option maxHeartbeats 16000000
set_option maxRecDepth 100000
open Go.RowKit
def zPO (w:World) (rp cap:Nat) (a:Option Addr) (bs:List UInt8) (D:List zI -> Nat -> Prop) (e:Ending) (w':World):Prop:=
 ∃ (g c q:Nat) (ms:List zI),e = .returned (.slice (some ⟨g,0,none⟩) ms.length c) /\ Hid (ZG w' w.heap.size (.slice (some ⟨g,0,none⟩) ms.length c) ms) /\ 1 <= ms.length /\ ms.length <= 4 /\ Hid (MsZ 3 2000000000000 ms) /\ Hid (D ms q) /\ Hid (RdS w' rp a cap bs q) /\ Hid (zF w w' rp)
theorem zEK (rp cap p:Nat) (a:Option Addr) (bs:List UInt8) (w:World) (h:RdS w rp a cap bs p) (hl:bs.length <= 1200) :
  Calls Tryz.prog 20 #[.pointer (some ⟨rp,0,none⟩)] w (zPO w rp cap a bs (fun ms q=>zO6 bs p ms q)):=by
 have hrp:=h.lt
 have H:=zB h
 clear h
 obtain ⟨i0,hi0,hz0,hz1,hz2⟩:=zQ zCQ
 have HI:=zB hi0
 have HZ:=zB (And.intro hz0 (And.intro hz1 hz2))
 obtain ⟨i1,hi1,hy0,hy1,hy2⟩:=info_parts zC5
 have HJ:=zB hi1
 have HY:=zB (And.intro hy0 (And.intro hy1 hy2))
 obtain ⟨i2,hi2,hx0,hx1,hx2⟩:=info_parts zEg
 have HM:=zB hi2
 have HX:=zB (And.intro hx0 (And.intro hx1 hx2))
 clear hi0 hz0 hz1 hz2 hi1 hy0 hy1 hy2 hi2 hx0 hx1 hx2
 go_enter Tryz.func20,Tryz.ntmps20
 go_wp2_with fail
 (with_reducible refine (Z4 rp cap p a bs _ (zA H) hl).mono ?_)
 rintro e w1 ⟨⟨k0,rfl,hk0,HK0⟩,H1,HP1⟩
 have hz1:=(zA HP1).size
 go_wp2_with fail
 (with_reducible refine (zE9 rp cap (adv bs p) a bs _ ((zA H1).below (zC _ _)) hl).mono ?_)
 rintro e w2 ⟨⟨ga,ca,qa,xa,rfl,hga,hF2,HTB,H2⟩,HP2⟩
 obtain ⟨n,HN⟩:∃ n,Hid (n = 1 + nxt bs p % 4):=⟨_,zB rfl⟩
 have hn1:1 <= n /\ n <= 4:=by rw [zA HN]; omega
 have hnI:(1:Int) + (k0:Int) % 4 = (n:Int):=by rw [zA HN,<- zA HK0]; omega
 have z2:w1.heap.size + 1 <= w2.heap.size:=by have:=(zA HP2).size; simpa using this
 have hga2:w1.heap.size + 1 <= ga:=by simpa using hga
 have hal:xa.length <= 10:=by have:=(zA HTB).small.1; have:=Nat.mod_lt (nxt bs (adv bs p)) (show 0 < 8 by decide); omega
 have HAT:=zB ((zA HTB).opT)
 have HR2:=zB (show PrS w (w2.alloc (.cells #[.slice (some ⟨ga,0,none⟩) xa.length ca] 55)) rp cap a bs w2.heap.size ga ca xa w1.heap.size 0 [] qa from by
  have hk:zF w w2 rp:=((zA HP1).belowN (zC _ _)).trans (zA HP2)
  have hb:=zC w2 (.cells #[.slice (some ⟨ga,0,none⟩) xa.length ca] 55)
  have hr:ZG w2 w.heap.size (.slice (some ⟨w1.heap.size,0,none⟩) 0 0) []:=(ZG.nil (w:=w1) (B:=w.heap.size) hz1).grown (ZE (zA HP2)) (fun k hk e=>by simp [Value.ownBlock] at hk; injection e with e; omega)
  have hgl:=hF2.lt1
  exact ⟨hr.below hb,(zA H2).below hb,hk.belowN hb,by simp [go_sem],hF2.tabO.below hb hgl,by omega,by omega,by omega,by omega,hrp⟩)
 clear hF2 H1 HP1 H2 HP2 H
 go_wp2_with fail
 go_loopw [4,6] (fun ov iv wr=>∃ (g c q:Nat) (ms:List zI),ms.length <= n /\ iv = .int .i64 (ms.length:Int) /\ ov = .slice (some ⟨g,0,none⟩) ms.length c /\ Hid (PrS w wr rp cap a bs w2.heap.size ga ca xa g c ms q) /\ Hid (zKu bs n xa qa ms.length ms q) /\ Hid (MsZ 3 2000000000000 ms)) (fun _ iv _=>n - (intOf iv).toNat)
 case atStart=>exact ⟨w1.heap.size,0,qa,[],Nat.zero_le _,rfl,rfl,HR2,zB ⟨rfl,rfl⟩,zB (MsZ.nil _ _)⟩
 case round=>
  clear HR2
  obtain ⟨g,c,q,ms,hml,rfl,rfl,HS,HTO,HMZ⟩:=hrel
  by_cases hlt:ms.length < n
  case neg=>
   have HF:=zB (show zO6 bs p ms q from ⟨xa,qa,zA HTB,by
    have hme:ms.length = n:=by omega
    have h:=zA HTO
    rw [hme] at h
    rw [<- zA HN]
    exact h⟩)
   have hltI:¬ (ms.length:Int) < (n:Int):=by omega
   go_wp2_with fail
   go_ret
   exact ⟨g,c,q,ms,rfl,zB (zA HS).row,by omega,by omega,HMZ,HF,zB (zA HS).rd,zB (zA HS).kp⟩
  have hltI:(ms.length:Int) < (n:Int):=by omega
  go_wp2_with fail
  (with_reducible refine (Z4 rp cap q a bs _ (zA HS).rd hl).mono ?_)
  rintro e w3 ⟨⟨k,rfl,hk,HK⟩,H3,HP3⟩
  have HS3:=zB ((zA HS).read (zA HP3) (zA H3))
  clear HS H3 HP3
  obtain ⟨L,hL⟩:∃ L,L = w3.heap.size:=⟨_,rfl⟩
  obtain ⟨W4,hW4⟩:∃ W4,W4 = ((w3.alloc (.cells #[] 9)).alloc (.cells #[] 46)).alloc (.cells #[.slice (some ⟨w3.heap.size + 1,0,none⟩) 0 0] 55):=⟨_,rfl⟩
  have hb4:Below w3.heap.size w3 W4:=by rw [hW4]; exact ((zC _ _).alloc (by simp) _).alloc (by simp; omega) _
  have HS4:=zB (show RnS w W4 rp cap a bs w2.heap.size ga ca xa g c ms (adv bs q) L (L + 2) (.slice (some ⟨L + 1,0,none⟩) 0 0) from by
   have h3:=zA HS3
   refine ⟨h3.below hb4,?_,?_,?_,?_,by omega,?_,?_⟩
   ·rw [hL]; exact (h3.row.lt g rfl).2
   ·rw [hL]; exact block_lt_of_cell h3.al
   ·rw [hL]; exact h3.tb.1
   ·rw [hL]; exact h3.kp.size
   ·rw [hW4,hL]; simp [go_sem]
   ·rw [hW4,hL]; simp [go_sem])
  have HU4:=zB (show za W4 L (.slice (some ⟨L,0,none⟩) 0 0) [] from by
   have h0:=za.nil (w:=w3) (B:=L) (by omega)
   have hb:Below (w3.alloc (.cells #[] 9)).heap.size (w3.alloc (.cells #[] 9)) W4:=by rw [hW4]; exact (zC _ _).alloc (by simp) _
   rw [hL] at h0 ⊢
   exact h0.below hb)
  have hz4:W4.heap.size = L + 3:=by rw [hW4,hL]; simp
  have HW4:=zB hW4
  have HL:=zB hL
  clear hW4 hb4 hL HS3
  go_wp2_with fail
  rw [<- zA HW4,<- zA HL]
  obtain ⟨Sb,hSb⟩:∃ Sb,Sb = L + 1 + 1:=⟨_,rfl⟩
  obtain ⟨S0,hS0⟩:∃ S0,S0 = L + 1:=⟨_,rfl⟩
  have eSb:L + 2 = Sb:=hSb.symm
  rw [eSb,<- hS0] at HS4
  rw [<- hSb,<- hS0]
  have HZL:=zB (And.intro hz4 (And.intro hSb hS0))
  have hi3:ms.length <= 3:=by omega
  clear hSb hS0 eSb hz4
  go_loopw [8,10] (fun uv jv wr=>∃ (j gu cu:Nat) (us:List ByteArray),j <= ms.length /\ us.length <= j /\ jv = .int .i64 (j:Int) /\ uv = .slice (some ⟨gu,0,none⟩) us.length cu /\ Hid (us = zC0 k ms j) /\ Hid (za wr L (.slice (some ⟨gu,0,none⟩) us.length cu) us) /\ Hid (RnS w wr rp cap a bs w2.heap.size ga ca xa g c ms (adv bs q) L Sb (.slice (some ⟨S0,0,none⟩) 0 0)) /\ gu ≠ Sb) (fun _ jv _=>ms.length - (intOf jv).toNat)
  case atStart=>
   have h:=zA HZL
   exact ⟨0,L,0,[],Nat.zero_le _,Nat.zero_le _,rfl,rfl,zB rfl,HU4,HS4,by omega⟩
  case round=>
   clear HU4 HS4
   obtain ⟨j,gu,cu,us,hj,hul,rfl,rfl,HUE,HRU,HRN,hgS⟩:=hrel
   obtain ⟨wo,hwo⟩:∃ wo,wo = wr:=⟨_,rfl⟩
   subst hwo
   by_cases hjl:j < ms.length
   ·have hjI:(j:Int) < (ms.length:Int):=by omega
    obtain ⟨c0,c1⟩:=(zA HRN).pr.row.ops j hjl
    simp only [Nat.zero_add] at c0 c1
    have hq2:((k:Int) / 2 ^ j).tmod 2 = ((k / 2 ^ j % 2:Nat):Int):=by
     have e:((k:Int) / 2 ^ j) = ((k / 2 ^ j:Nat):Int):=by simp
     rw [e]
     generalize k / 2 ^ j = x
     rw [Int.tmod_eq_emod_of_nonneg (by omega)]
     omega
    obtain ⟨nm,hnm⟩:∃ nm,nm = (atM ms j).n:=⟨_,rfl⟩
    rw [<- hnm] at c0
    by_cases hb2:k / 2 ^ j % 2 = 1
    ·have eb:(((k:Int) / 2 ^ j).tmod 2 == 1) = true:=by rw [hq2,hb2]; rfl
     have HNX:=zB (show us ++ [nm] = zC0 k ms (j + 1) by simp only [zC0]; rw [if_pos hb2,<- zA HUE,hnm])
     clear hq2 hb2 hnm
     go_wp2_with (at_builtin; refine wpList_append_own_at _ rfl (.tmp 48) (.tmp 54) 24 rfl L 9 i0 _ 1 16 Tryz.underlying24 (zA HI) (zA HZ).1 (zA HZ).2.1 (zA HZ).2.2 rfl (by decide) _ us.length (zH us) rfl ((zA HRU).below (zC _ _)) ⟨wo.heap.size,0,none⟩ 1 1 (zH [nm]) rfl rfl (ZL wo nm) (zS _) ?b1 ?b2 ?b3 ?next)
     case b1=>unfold maxLen; omega
     case b2=>omega
     case b3=>have:=(zA HRN).lS; have:Sb < wo.heap.size:=block_lt_of_cell (zA HRN).sc; simp; omega
     case next=>
      intro v6 w6 hown6 hgrow6 hnil6 hat6
      have hgl:=(zA HRU).lt gu rfl
      have hSl:Sb < wo.heap.size:=block_lt_of_cell (zA HRN).sc
      have hr6:za w6 L v6 (us ++ [nm]):=za.join hown6 rfl
      obtain ⟨g6,c6,rfl⟩:=hr6.has (by simp)
      obtain ⟨us6,hus6⟩:∃ us6,us6 = us ++ [nm]:=⟨_,rfl⟩
      rw [<- hus6] at hr6 HNX
      have hl6:us6.length = us.length + 1:=by rw [hus6]; simp
      have HRN6:=zB (((zA HRN).below (zC _ (.cells #[.string nm] 9))).grow hgrow6 hgl.1 hgS)
      have hg6:g6 ≠ Sb:=by
       rcases hat6 with e | e
       ·have:g6 = gu:=by simpa [Value.ownBlock] using e
        omega
       ·have:g6 = wo.heap.size + 1:=by simpa [Value.ownBlock] using e
        omega
      have HR6:=zB hr6
      rw [<- hus6]
      have hl7:us6.length <= j + 1:=by omega
      clear hown6 hgrow6 hnil6 hat6 hr6 hus6 hl6 HRN HRU
      go_wp2_with fail
      exact ⟨⟨j + 1,g6,c6,us6,by omega,hl7,by go_num,rfl,HNX,HR6,HRN6,hg6⟩,by simp [intOf]; omega⟩
    ·have eb:(((k:Int) / 2 ^ j).tmod 2 == 1) = false:=by rw [hq2]; generalize k / 2 ^ j % 2 = x at hb2 ⊢; simp; omega
     have HNX:=zB (show us = zC0 k ms (j + 1) by simp only [zC0]; rw [if_neg hb2,<- zA HUE])
     clear hq2 hb2 hnm
     go_wp2_with fail
     exact ⟨⟨j + 1,gu,cu,us,by omega,by omega,by go_num,rfl,HNX,HRU,HRN,hgS⟩,by simp [intOf]; omega⟩
   ·obtain rfl:j = ms.length:=by omega
    clear hjl hj
    have hSl:Sb < wo.heap.size:=block_lt_of_cell (zA HRN).sc
    have HO5:=zB (show zAd (wo.alloc (.cells #[] 46)) L (.slice (some ⟨wo.heap.size,0,none⟩) 0 0) [] from by
     have:=World.ownsRow_lit (base:=L) (e:=46) (size:=4) wo #[] 0 (by have:=(zA HRN).lS; omega) (Nat.zero_le _) rfl
     simpa [zAd,zX] using this)
    have HRN5:=zB ((zA HRN).below (zC wo (.cells #[] 46)))
    have HRU5:=zB ((zA HRU).below (zC wo (.cells #[] 46)))
    have hgl:=(zA HRU).lt gu rfl
    have hne5:wo.heap.size ≠ Sb /\ wo.heap.size ≠ gu:=by omega
    obtain ⟨W5,hW5⟩:∃ W5,W5 = wo.alloc (.cells #[] 46):=⟨_,rfl⟩
    rw [<- hW5] at HO5 HRN5 HRU5
    have HW5:=zB hW5
    clear hW5 HRN HRU
    go_wp2_with fail
    rw [<- zA HW5]
    have hne1:wo.heap.size ≠ Sb:=hne5.1
    have hne2:wo.heap.size ≠ gu:=hne5.2
    clear hne5
    go_loopw [11,12] (fun ov jv wr=>∃ (j go co:Nat) (own:List OpR),j <= xa.length /\ own.length <= j /\ jv = .int .i64 (j:Int) /\ ov = .slice (some ⟨go,0,none⟩) own.length co /\ Hid (own = zDd k n ms.length xa j) /\ Hid (zAd wr L (.slice (some ⟨go,0,none⟩) own.length co) own) /\ Hid (za wr L (.slice (some ⟨gu,0,none⟩) us.length cu) us) /\ Hid (RnS w wr rp cap a bs w2.heap.size ga ca xa g c ms (adv bs q) L Sb (.slice (some ⟨S0,0,none⟩) 0 0)) /\ go ≠ Sb /\ go ≠ gu) (fun _ jv _=>xa.length - (intOf jv).toNat)
    case atStart=>exact ⟨0,wo.heap.size,0,[],Nat.zero_le _,Nat.zero_le _,rfl,rfl,zB rfl,HO5,HRU5,HRN5,hne1,hne2⟩
    case round=>
     clear HO5 HRU5 HRN5 hne1 hne2
     obtain ⟨j,go,co,own,hj,hol,rfl,rfl,HOE,HRO,HRU,HRN,hoS,hou⟩:=hrel
     obtain ⟨wp,hwp⟩:∃ wp,wp = wr:=⟨_,rfl⟩
     subst hwp
     have al0:=(zA HRN).pr.al
     have hgl:=(zA HRO).lt go rfl
     have hul2:=(zA HRU).lt gu rfl
     have hSl2:Sb < wp.heap.size:=block_lt_of_cell (zA HRN).sc
     by_cases hjl:j < xa.length
     ·have hjI:(j:Int) < (xa.length:Int):=by omega
      obtain ⟨r,hr⟩:∃ r,r = j % n:=⟨_,rfl⟩
      have hn0:((n:Int) == 0) = false:=by simp; omega
      have tm:(j:Int).tmod (n:Int) = (r:Int):=by rw [Int.tmod_eq_emod_of_nonneg (by omega),hr]; simp
      have tm2:(j:Int) % (n:Int) = (r:Int):=by rw [hr]; simp
      by_cases hcd:r = ms.length \/ (240 <= k /\ r = 0)
      ·obtain ⟨b0,b1,b2,b3⟩:=(zA HRN).pr.tb.2 j hjl
       simp only [Nat.zero_add] at b0 b1 b2 b3
       obtain ⟨o,ho⟩:∃ o,o = atO xa j:=⟨_,rfl⟩
       rw [<- ho] at b0 b1 b2 b3
       have HNX:=zB (show own ++ [o] = zDd k n ms.length xa (j + 1) by simp only [zDd]; rw [if_pos (by rw [<- hr]; exact hcd),<- zA HOE,ho])
       clear hr ho
       have hcs:((r:Int) == (ms.length:Int)) = true \/ (((r:Int) == (ms.length:Int)) = false /\ (240:Int) <= (k:Int) /\ ((r:Int) == 0) = true):=by
        by_cases e:r = ms.length
        ·exact Or.inl (by simp [e])
        ·exact Or.inr ⟨by simp; omega,by omega,by simp; omega⟩
       clear hcd
       rcases hcs with e1 | ⟨e1,e2,e3⟩
       all_goals
        go_wp2_with (at_builtin; refine wpList_append_own_at _ rfl (.tmp 79) (.tmp 85) 25 rfl L 46 i1 _ 4 40 Tryz.underlying25 (zA HJ) (zA HY).1 (zA HY).2.1 (zA HY).2.2 rfl (by decide) _ own.length (zX own) rfl ((zA HRO).below (zC _ _)) ⟨wp.heap.size,0,none⟩ 1 1 (zX [o]) rfl rfl (zBK wp o) (ZZ _) ?b1 ?b2 ?b3 ?next)
        case b1=>unfold maxLen; omega
        case b2=>omega
        case b3=>have:=(zA HRN).lS; simp; omega
        case next=>
         intro v6 w6 hown6 hgrow6 hnil6 hat6
         have hr6:zAd w6 L v6 (own ++ [o]):=by
          unfold zAd
          rw [ZY,List.length_append]
          exact hown6
         obtain ⟨g6,c6,rfl⟩:∃ g6 c6,v6 = .slice (some ⟨g6,0,none⟩) (own ++ [o]).length c6:=by
          obtain ⟨_,⟨_,h0⟩ | ⟨g',cap',cur,hv,_⟩⟩:=hr6
          ·simp at h0
          ·exact ⟨g',cap',hv⟩
         obtain ⟨own6,hown⟩:∃ own6,own6 = own ++ [o]:=⟨_,rfl⟩
         rw [<- hown] at hr6 HNX
         have hl6:own6.length = own.length + 1:=by rw [hown]; simp
         have hbo:=zC wp (.cells #[.string o.s,.int .i64 o.k,.int .i64 o.l,.int .i64 o.sd] 46)
         have HRN6:=zB (((zA HRN).below hbo).grow hgrow6 hgl.1 hoS)
         have HRU6:=zB (((zA HRU).below hbo).grown hgrow6 (fun x hx e=>by simp [Value.ownBlock] at hx; have e':some go = some x:=e; injection e' with e'; omega))
         have hg6:g6 ≠ Sb /\ g6 ≠ gu:=by
          rcases hat6 with e | e
          ·have:g6 = go:=by simpa [Value.ownBlock] using e
           omega
          ·have:g6 = wp.heap.size + 1:=by simpa [Value.ownBlock] using e
           omega
         have HR6:=zB hr6
         rw [<- hown]
         have hl7:own6.length <= j + 1:=by omega
         clear hown6 hgrow6 hnil6 hat6 hr6 hown hl6 HRN HRU HRO hbo
         go_wp2_with fail
         exact ⟨⟨j + 1,g6,c6,own6,by omega,hl7,by go_num,rfl,HNX,HR6,HRU6,HRN6,hg6.1,hg6.2⟩,by simp [intOf]; omega⟩
      ·have HNX:=zB (show own = zDd k n ms.length xa (j + 1) by simp only [zDd]; rw [if_neg (by rw [<- hr]; exact hcd),<- zA HOE])
       clear hr
       have e1:((r:Int) == (ms.length:Int)) = false:=by simp; omega
       have hcs:¬ (240:Int) <= (k:Int) \/ ((240:Int) <= (k:Int) /\ ((r:Int) == 0) = false):=by
        by_cases e:240 <= k
        ·exact Or.inr ⟨by omega,by simp; omega⟩
        ·exact Or.inl (by omega)
       clear hcd
       rcases hcs with e2 | ⟨e2,e3⟩
       all_goals
        go_wp2_with fail
        exact ⟨⟨j + 1,go,co,own,by omega,by omega,by go_num,rfl,HNX,HRO,HRU,HRN,hoS,hou⟩,by simp [intOf]; omega⟩
     ·obtain rfl:j = xa.length:=by omega
      have hjI:¬ (xa.length:Int) < (xa.length:Int):=by omega
      clear hjl hj
      go_upto_region 21 with fail
      go_cut [93] from 28 to 166 (fun sv wc=>sv = .bool (decide (0 < ms.length /\ k % 32 = 31)) /\ wc = wp)
      case first=>
       as_aux_lemma=>
        by_cases h0:0 < ms.length
        ·have e0:(0:Int) < (ms.length:Int):=by omega
         by_cases h31:k % 32 = 31
         ·have e1:((k:Int) % 32 == 31) = true:=by simp; omega
          go_wp2_with fail
          go_meet
          case rel=>exact ⟨by simp [h0,h31],rfl⟩
         ·have e1:((k:Int) % 32 == 31) = false:=by simp; omega
          go_wp2_with fail
          go_meet
          case rel=>exact ⟨by simp [h31],rfl⟩
        ·have e0:¬ (0:Int) < (ms.length:Int):=by omega
         go_wp2_with fail
         go_meet
         case rel=>exact ⟨by simp [h0],rfl⟩
      case rest=>
       obtain ⟨rfl,hwc⟩:=hcut
       have hwd:=hwc.symm
       subst hwd
       have hrL:rp < L:=by have:=(zA HRN).pr.rpl; have:=(zA HRN).lw; omega
       go_upto_if 93 with fail
       go_cut [11] from 28 to 166 (fun sv wc=>∃ (go co p1:Nat) (own:List OpR),sv = .slice (some ⟨go,0,none⟩) own.length co /\ Hid (zFE bs n ms.length xa q = (own,p1)) /\ Hid (zAd wc L (.slice (some ⟨go,0,none⟩) own.length co) own) /\ Hid (za wc L (.slice (some ⟨gu,0,none⟩) us.length cu) us) /\ Hid (RnS w wc rp cap a bs w2.heap.size ga ca xa g c ms p1 L Sb (.slice (some ⟨S0,0,none⟩) 0 0)))
       case first=>
        as_aux_lemma=>
         by_cases hd:0 < ms.length /\ k % 32 = 31
         ·have ed:decide (0 < ms.length /\ k % 32 = 31) = true:=decide_eq_true hd
          have HXO:=zB (zDu rp cap (adv bs q) true a bs wp (zA HRN).pr.rd hl)
          rw [ed]
          clear ed
          go_wp2_with fail
          (with_reducible refine (zA HXO).mono ?_)
          rintro e w6 ⟨⟨o,rfl,HOo⟩,H6,HP6⟩
          have HRN6:=zB ((zA HRN).read (zA HP6) (zA H6))
          have HRU6:=zB ((zA HRU).grown (ZE (zA HP6)) (fun x hx e=>by simp [Value.ownBlock] at hx; injection e with e; omega))
          have HRO6:=zB ((zA HRO).grown (ZE (zA HP6)) (fun x hx e=>by simp [Value.ownBlock] at hx; injection e with e; omega))
          have hz6:=(zA HP6).size
          have HPX:=zB (show zFE bs n ms.length xa q = (own ++ [o],adv bs (adv bs (adv bs q))) by
           unfold zFE
           rw [<- zA HK,if_pos hd,<- zA HOE,<- zA HOo])
          clear hd H6 HP6 HXO
          go_wp2_with (at_builtin; refine wpList_append_own_at _ rfl (.tmp 94) (.tmp 97) 25 rfl L 46 i1 _ 4 40 Tryz.underlying25 (zA HJ) (zA HY).1 (zA HY).2.1 (zA HY).2.2 rfl (by decide) _ own.length (zX own) rfl ((zA HRO6).below (zC _ _)) ⟨w6.heap.size,0,none⟩ 1 1 (zX [o]) rfl rfl (zBK w6 o) (ZZ _) ?b1 ?b2 ?b3 ?next)
          case b1=>unfold maxLen; omega
          case b2=>omega
          case b3=>have:=(zA HRN).lS; simp; omega
          case next=>
           intro v7 w7 hown7 hgrow7 hnil7 hat7
           have hr7:zAd w7 L v7 (own ++ [o]):=by
            unfold zAd
            rw [ZY,List.length_append]
            exact hown7
           obtain ⟨g7,c7,rfl⟩:∃ g7 c7,v7 = .slice (some ⟨g7,0,none⟩) (own ++ [o]).length c7:=by
            obtain ⟨_,⟨_,h0⟩ | ⟨g',cap',cur,hv,_⟩⟩:=hr7
            ·simp at h0
            ·exact ⟨g',cap',hv⟩
           have hbo:=zC w6 (.cells #[.string o.s,.int .i64 o.k,.int .i64 o.l,.int .i64 o.sd] 46)
           have HRN7:=zB (((zA HRN6).below hbo).grow hgrow7 hgl.1 hoS)
           have HRU7:=zB (((zA HRU6).below hbo).grown hgrow7 (fun x hx e=>by simp [Value.ownBlock] at hx; have e':some go = some x:=e; injection e' with e'; omega))
           have HR7:=zB hr7
           clear hown7 hgrow7 hnil7 hat7 hr7 HRN6 HRU6 HRO6 hbo
           go_wp2_with fail
           go_meet
           case rel=>exact ⟨g7,c7,_,own ++ [o],rfl,HPX,HR7,HRU7,HRN7⟩
         ·have ed:decide (0 < ms.length /\ k % 32 = 31) = false:=decide_eq_false hd
          have HPX:=zB (show zFE bs n ms.length xa q = (own,adv bs q) by
           unfold zFE
           rw [<- zA HK,if_neg hd,<- zA HOE])
          rw [ed]
          clear ed hd
          go_wp2_with fail
          go_meet
          case rel=>exact ⟨go,co,_,own,rfl,HPX,HRO,HRU,HRN⟩
       case rest=>
        clear HRN HRU HRO HOE hgl hul2 hSl2 hoS hou al0 hol
        obtain ⟨go,co,p1,own,rfl,HPX,HRO,HRU,HRN⟩:=hcut
        have hgl:=(zA HRO).lt go rfl
        have hul2:=(zA HRU).lt gu rfl
        obtain ⟨wq,hwq⟩:∃ wq,wq = wc:=⟨_,rfl⟩
        subst hwq
        have hok:=zN8 (bs:=bs) (n:=n) (i:=ms.length) (p:=q) (zA HAT) hal
        rw [zA HPX] at hok
        obtain ⟨hol,hoo⟩:=hok
        have HOO:=zB hoo
        obtain ⟨hml2,hmu⟩:=zJC (k:=k) (z:=3) (fun i=>((zA HMZ) i).1) ms.length
        rw [<- zA HUE] at hmu
        have HMU:=zB hmu
        have HXN:=zB (zGL ms.length wq (by omega))
        obtain ⟨nm,hnm⟩:∃ nm,nm = zCf ms.length:=⟨_,rfl⟩
        rw [<- hnm] at HXN
        have HNM:=zB hnm
        have hnz:nm.size <= 3:=by rw [hnm]; exact zFa _
        clear hoo hmu hnm hml2
        go_wp2_with fail
        (with_reducible refine (zA HXN).mono ?_)
        rintro e w6 ⟨rfl,hb6⟩
        have HB6:=zB hb6
        have HRN6:=zB ((zA HRN).below hb6)
        have HRU6:=zB ((zA HRU).below hb6)
        have HRO6:=zB ((zA HRO).below hb6)
        have hz6:=hb6.size
        have hop6:Ops w6 go 0 own:=(zBJ (zA HRO6)).2.ops
        have HXH:=zB (zGN rp cap p1 gu cu go co a bs us own w6 (zA HRN6).pr.rd.free hl (by omega) (by omega) (zH0 (fun x hx=>Nat.le_trans ((zA HMU) x hx) (by decide))) (zPB (fun o ho=>((zA HOO) o ho).2)) (fun i hi=>((zA HOO) _ (zKE hi)).1) (by omega) (by omega) (by omega) (by omega) (fun i hi=>(zA HRU6).atE i hi) hop6)
        clear hb6 hop6 HXN
        go_wp2_with fail
        (with_reducible refine (zA HXH).mono ?_)
        rintro e w7 ⟨⟨hd,rfl,hdz,HHD⟩,H7,HP7⟩
        have HRN7:=zB ((zA HRN6).read (zA HP7) ((zA H7).strict (zEN (zA HRN6).pr.rd.le)))
        have hz7:=(zA HP7).size
        have HM8:=zB (MdB.new w7 nm hd)
        have HRN8:=zB ((zA HRN7).below (zC w7 (.cells #[.string nm,.string hd] 39)))
        obtain ⟨W8,hW8⟩:∃ W8,W8 = w7.alloc (.cells #[.string nm,.string hd] 39):=⟨_,rfl⟩
        rw [<- hW8] at HM8 HRN8
        have hz8:W8.heap.size = w7.heap.size + 1:=by rw [hW8]; simp
        have HW8:=zB hW8
        obtain ⟨M,hM⟩:∃ M,M = w7.heap.size:=⟨_,rfl⟩
        rw [<- hM] at HM8 hz8
        have hLM:L <= M:=by have:=(zA HRN7).lS; have:Sb < w7.heap.size:=block_lt_of_cell (zA HRN7).sc; omega
        have hSM:Sb ≠ M:=by have:Sb < w7.heap.size:=block_lt_of_cell (zA HRN7).sc; omega
        have HMe:=zB hM
        have hz8b:M < W8.heap.size:=by omega
        clear hz8
        clear HXH H7 HP7 HRN6 HRU6 HRO6 HRN HRU HRO HB6 HRN7 hW8 hM hgl hul2
        go_upto_region 24 with fail
        rw [<- zA HW8,<- zA HMe]
        go_cut [14,15] from 28 to 166 (fun tv cv wc=>∃ (tabs:List (List OpR)) (cd who:Int),cv = .int .i64 cd /\ Hid (zAW (ms ++ [⟨nm,hd⟩]) tabs cd who) /\ Hid (zGJ wc W8.heap.size tv tabs) /\ Hid (Below W8.heap.size W8 wc))
        case first=>
         as_aux_lemma=>
          have htz:hd.size <= 2000000000000:=by omega
          have hMl:M < W8.heap.size:=(zA HM8).lt
          have hgl8:=((zA HRN8).pr.row.lt g rfl).2
          have hl5:([]:List zI).length + ms.length <= 1000:=by simp; omega
          have hl6:ms.length + [(⟨nm,hd⟩:zI)].length <= 1000:=by simp; omega
          have HE1:=zB (show ZG (W8.alloc (.cells #[] 39)).drew W8.heap.size (.slice (some ⟨W8.heap.size,0,none⟩) ([]:List zI).length 0) [] from (ZG.nil (w:=W8) (Nat.le_refl _)).below (Below.refl _ _).drew)
          have HE2:=zB (show ZG ((W8.alloc (.cells #[] 39)).alloc (.cells #[.string nm,.string hd] 39)).drew W8.heap.size (.slice (some ⟨W8.heap.size,0,none⟩) ([]:List zI).length 0) [] from (ZG.nil (w:=W8) (Nat.le_refl _)).below (zC _ _).drew)
          have HE3:=zB (show ZG ((W8.alloc (.cells #[.string nm,.string hd] 39)).alloc (.cells #[] 39)).drew W8.heap.size (.slice (some ⟨W8.heap.size + 1,0,none⟩) ([]:List zI).length 0) [] from by
           have:=ZG.nil (w:=W8.alloc (.cells #[.string nm,.string hd] 39)) (B:=W8.heap.size) (by simp)
           simpa using this.below (Below.refl _ _).drew)
          have HO1:=zB ((zA HRN8).pr.row.ops.below (zC W8 (.cells #[] 39)).drew hgl8)
          have HO2:=zB ((zA HRN8).pr.row.ops.below ((zC W8 (.cells #[] 39)).alloc (by simp) (.cells #[.string nm,.string hd] 39)).drew hgl8)
          have HO3:=zB ((zA HRN8).pr.row.ops.below ((zC W8 (.cells #[.string nm,.string hd] 39)).alloc (by simp) (.cells #[] 39)).drew hgl8)
          have HQ2:=zB (show ∀ j u,(zU [(⟨nm,hd⟩:zI)])[j]? = some u -> ((W8.alloc (.cells #[] 39)).alloc (.cells #[.string nm,.string hd] 39)).drew.cell? ((⟨W8.heap.size + 1,0,none⟩:Addr).add j) = some u from fun j u hj=>by
           have:=Z0 (W8.alloc (.cells #[] 39)) ⟨nm,hd⟩ j u hj
           simpa using this)
          have HQ3:=zB (show ∀ j u,(zU [(⟨nm,hd⟩:zI)])[j]? = some u -> ((W8.alloc (.cells #[.string nm,.string hd] 39)).alloc (.cells #[] 39)).drew.cell? ((⟨W8.heap.size,0,none⟩:Addr).add j) = some u from fun j u hj=>by
           have h1:=Z0 W8 ⟨nm,hd⟩ j u hj
           rw [Addr.add_mid] at h1 ⊢
           exact ((zC (W8.alloc (.cells #[.string nm,.string hd] 39)) (.cells #[] 39)).drew.cell (p:=⟨W8.heap.size,0 + j,none⟩) (by simp)).trans h1)
          have HSZ6:=zB (((zA HMZ).snoc (m:=⟨nm,hd⟩) hnz htz).sized (by decide) (by decide))
          obtain ⟨c00,c01,_⟩:=zA HM8
          go_region_held3 (fun W=>W.cell? ⟨M,0,none⟩ = some (.string nm) /\ W.cell? ⟨M,1,none⟩ = some (.string hd)) (first | (go_keep; done) | exact ⟨m0,m1⟩ | exact ⟨((zC _ _).cell (p:=⟨M,0,none⟩) (by show M < w5.heap.size; omega)).trans m0,((zC _ _).cell (p:=⟨M,1,none⟩) (by show M < w5.heap.size; omega)).trans m1⟩)
           (first
            | (refine Zh (by rfl) (.tmp 107) (.tmp 108) (by rfl) (zA HE1) ⟨g,0,none⟩ c (zBA (zA HO1)) hl5 (by simp) (by rfl) (by rfl) ?_; intro g5 c5 w5 ts5 hts5 hr5 hgr5 hat5 hlt5; have e5:ms = ts5:=hts5.symm; subst e5; have hb5:Below W8.heap.size W8 w5:=(zC W8 (.cells #[] 39)).drew.grown hgr5 (by simp <;> omega) (fun x hx=>by injection hx with hx; omega); have HB5:=zB hb5; have HR5:=zB hr5; have z5:=hb5.size; have m0:=(hb5.cell (p:=⟨M,0,none⟩) hMl).trans (zA HM8).c0; have m1:=(hb5.cell (p:=⟨M,1,none⟩) hMl).trans (zA HM8).c1; clear hb5 hr5 hgr5 hat5 hlt5 hts5)
            | (refine Zh (by rfl) (.tmp 107) (.tmp 108) (by rfl) (zA HE2) ⟨g,0,none⟩ c (zBA (zA HO2)) hl5 (by simp; omega) (by rfl) (by rfl) ?_; intro g5 c5 w5 ts5 hts5 hr5 hgr5 hat5 hlt5; have e5:ms = ts5:=hts5.symm; subst e5; have hb5:Below W8.heap.size W8 w5:=((zC W8 (.cells #[] 39)).alloc (by simp) (.cells #[.string nm,.string hd] 39)).drew.grown hgr5 (by simp <;> omega) (fun x hx=>by injection hx with hx; omega); have HB5:=zB hb5; have HR5:=zB hr5; have z5:=hb5.size; have m0:=(hb5.cell (p:=⟨M,0,none⟩) hMl).trans (zA HM8).c0; have m1:=(hb5.cell (p:=⟨M,1,none⟩) hMl).trans (zA HM8).c1; have HN5:=zB (show ∀ j u,(zU [(⟨nm,hd⟩:zI)])[j]? = some u -> w5.cell? ((⟨W8.heap.size + 1,0,none⟩:Addr).add j) = some u from fun j u hj=>(by have h:=(zA HQ2) j u hj; rw [Addr.add_mid] at h ⊢; exact (zE hgr5 (b:=W8.heap.size + 1) (by simp) (fun x=>by injection x with x; omega) (0 + j)).trans h)); clear hb5 hr5 hgr5 hat5 hlt5 hts5)
            | (refine Zh (by rfl) (.tmp 107) (.tmp 108) (by rfl) (zA HE3) ⟨g,0,none⟩ c (zBA (zA HO3)) hl5 (by simp; omega) (by rfl) (by rfl) ?_; intro g5 c5 w5 ts5 hts5 hr5 hgr5 hat5 hlt5; have e5:ms = ts5:=hts5.symm; subst e5; have hb5:Below W8.heap.size W8 w5:=((zC W8 (.cells #[.string nm,.string hd] 39)).alloc (by simp) (.cells #[] 39)).drew.grown hgr5 (by simp <;> omega) (fun x hx=>by injection hx with hx; omega); have HB5:=zB hb5; have HR5:=zB hr5; have z5:=hb5.size; have m0:=(hb5.cell (p:=⟨M,0,none⟩) hMl).trans (zA HM8).c0; have m1:=(hb5.cell (p:=⟨M,1,none⟩) hMl).trans (zA HM8).c1; have HN6:=zB (show ∀ j u,(zU [(⟨nm,hd⟩:zI)])[j]? = some u -> w5.cell? ((⟨W8.heap.size,0,none⟩:Addr).add j) = some u from fun j u hj=>(by have h:=(zA HQ3) j u hj; rw [Addr.add_mid] at h ⊢; exact (zE hgr5 (b:=W8.heap.size) (by simp <;> omega) (fun x=>by injection x with x; omega) (0 + j)).trans h)); clear hb5 hr5 hgr5 hat5 hlt5 hts5)
            | (refine Zh (vs:=[⟨nm,hd⟩]) (by rfl) (.tmp 109) (.tmp 111) (by rfl) ((zA HR5).below (zC _ _)) ⟨w5.heap.size,0,none⟩ 1 (Z0 w5 ⟨nm,hd⟩) hl6 (by simp; omega) (by rfl) (by rfl) ?_; intro g6 c6 w6 ts6 hts6 hr6 hgr6 hat6 hlt6; have hb6:Below W8.heap.size W8 w6:=((zA HB5).alloc (zA HB5).size _).grown hgr6 (by have:=(zA HB5).size; first | omega | (simp; omega)) (fun x hx=>by injection hx with hx; have:=((zA HR5).lt g5 rfl).1; omega); have HB6:=zB hb6; have HR6:=zB hr6; have hl6b:ts6.length <= 10:=(by rw [hts6]; simp; omega); have HT6:=zB hts6; have m0:=(hb6.cell (p:=⟨M,0,none⟩) hMl).trans (zA HM8).c0; have m1:=(hb6.cell (p:=⟨M,1,none⟩) hMl).trans (zA HM8).c1; clear hb6 hr6 hgr6 hat6 hlt6 hts6)
            | (refine Zh (vs:=[⟨nm,hd⟩]) (by rfl) (.tmp 109) (.tmp 111) (by rfl) (zA HR5) ⟨W8.heap.size + 1,0,none⟩ 1 (zA HN5) hl6 (by omega) (by rfl) (by rfl) ?_; intro g6 c6 w6 ts6 hts6 hr6 hgr6 hat6 hlt6; have hb6:Below W8.heap.size W8 w6:=(zA HB5).grown hgr6 (by have:=(zA HB5).size; first | omega | (simp; omega)) (fun x hx=>by injection hx with hx; have:=((zA HR5).lt g5 rfl).1; omega); have HB6:=zB hb6; have HR6:=zB hr6; have hl6b:ts6.length <= 10:=(by rw [hts6]; simp; omega); have HT6:=zB hts6; have m0:=(hb6.cell (p:=⟨M,0,none⟩) hMl).trans (zA HM8).c0; have m1:=(hb6.cell (p:=⟨M,1,none⟩) hMl).trans (zA HM8).c1; clear hb6 hr6 hgr6 hat6 hlt6 hts6)
            | (refine Zh (vs:=[⟨nm,hd⟩]) (by rfl) (.tmp 109) (.tmp 111) (by rfl) (zA HR5) ⟨W8.heap.size,0,none⟩ 1 (zA HN6) hl6 (by omega) (by rfl) (by rfl) ?_; intro g6 c6 w6 ts6 hts6 hr6 hgr6 hat6 hlt6; have hb6:Below W8.heap.size W8 w6:=(zA HB5).grown hgr6 (by have:=(zA HB5).size; first | omega | (simp; omega)) (fun x hx=>by injection hx with hx; have:=((zA HR5).lt g5 rfl).1; omega); have HB6:=zB hb6; have HR6:=zB hr6; have hl6b:ts6.length <= 10:=(by rw [hts6]; simp; omega); have HT6:=zB hts6; have m0:=(hb6.cell (p:=⟨M,0,none⟩) hMl).trans (zA HM8).c0; have m1:=(hb6.cell (p:=⟨M,1,none⟩) hMl).trans (zA HM8).c1; clear hb6 hr6 hgr6 hat6 hlt6 hts6)
            | (go_at_call 33; have HXC:=zEE (some ⟨g6,0,none⟩) c6 ts6 w6 (by omega) (zA HR6).arg (by rw [zA HT6]; exact zA HSZ6); (with_reducible refine HXC.mono ?_); clear HXC; rintro e w9 ⟨tv,tabs,cd,who,rfl,HL9,HT9,hm9,hb9⟩; have HB9:=zB ((zA HB6).trans (hb9.mono (zA HB6).size)); have m0:=((zA HB9).cell (p:=⟨M,0,none⟩) hMl).trans (zA HM8).c0; have m1:=((zA HB9).cell (p:=⟨M,1,none⟩) hMl).trans (zA HM8).c1; clear hb9))
          all_goals
           go_wp2_with fail
           go_meet
           case rel=>exact ⟨tabs,cd,who,rfl,by rw [<- zA HT6]; exact HL9,zB ((zA HT9).low (zA HB6).size),HB9⟩
        case rest=>
         obtain ⟨tabs,cd,who,rfl,HLD,HTS,HB9⟩:=hcut
         have hz9:=(zA HB9).size
         have HRN9:=zB ((zA HRN8).below (zA HB9))
         have HM9:=zB ((zA HM8).below (zA HB9))
         clear HM8
         go_upto_if 118 with fail
         go_cut [9] from 28 to 166 (fun pv wd=>∃ (gs cs:Nat) (ns:List OpR),pv = .pointer (some ⟨Sb,0,none⟩) /\ Hid (ns = if cd = 0 then zDJ tabs ms.length else []) /\ Hid (zDf wd gs ns) /\ Hid (L <= gs) /\ Hid (ns.length <= 500 /\ zDR ns ns.length) /\ Hid (MdB wd M nm hd) /\ Hid (RnS w wd rp cap a bs w2.heap.size ga ca xa g c ms (adv bs p1) L Sb (.slice (some ⟨gs,0,none⟩) ns.length cs)))
         case first=>
          as_aux_lemma=>
           by_cases hc:cd = 0
           ·subst hc
            obtain ⟨hg1,hg2,hg3⟩:=(zA HLD).good
            obtain ⟨gT,cT,hu,hts⟩:=zA HTS
            have htl:ms.length < tabs.length:=by rw [hg3]; simp
            rcases hts with h0 | ⟨hT1,hT2,hT3⟩
            ·omega
            obtain ⟨t,ht0,⟨gq,cq,rfl,hq1,hq2⟩,ht2⟩:=hT3 ms.length htl
            subst hu
            have hgq:W8.heap.size <= gq:=ht2 gq rfl
            have hiI:(ms.length:Int) < (tabs.length:Int):=by omega
            have hcv:=zMl ((zA HLD).valid ms.length (by simp))
            obtain ⟨ns,hns⟩:∃ ns,ns = zDJ tabs ms.length:=⟨_,rfl⟩
            rw [<- hns] at ht0 hq2 hcv
            have sc9:=(zA HRN9).sc
            have sf9:=(zA HRN9).sf
            have hS8:Sb < W8.heap.size:=block_lt_of_cell (zA HRN8).sc
            have HNS:=zB (show ns = if (0:Int) = 0 then zDJ tabs ms.length else [] by rw [if_pos rfl]; exact hns)
            have HTO9:=zB (show zDf (wc.setCell ⟨Sb,0,none⟩ (.slice (some ⟨gq,0,none⟩) ns.length cq)) gq ns from ⟨by simpa [World.setCell] using hq1,fun i hi=>by
             obtain ⟨a0,a1,a2,a3⟩:=hq2 i hi
             have e:∀ o,(wc.setCell ⟨Sb,0,none⟩ (.slice (some ⟨gq,0,none⟩) ns.length cq)).cell? ⟨gq,o,none⟩ = wc.cell? ⟨gq,o,none⟩:=fun o=>World.cell?_setCell_other _ _ _ _ (fun e=>by injection e with e; omega)
             exact ⟨(e _).trans a0,(e _).trans a1,(e _).trans a2,(e _).trans a3⟩⟩)
            have HRP:=zB ((zA HRN9).put (.slice (some ⟨gq,0,none⟩) ns.length cq))
            have HMP:=zB ((zA HM9).other (b:=Sb) (o:=0) (v:=.slice (some ⟨gq,0,none⟩) ns.length cq) hSM)
            have hgL:L <= gq:=by omega
            have HCV:=zB hcv
            clear hT3 hq2 ht2 hns hcv htl hg1 hg2 hg3
            go_wp2_with fail
            go_meet
            case rel=>exact ⟨gq,cq,ns,rfl,HNS,HTO9,zB hgL,HCV,HMP,HRP⟩
           ·have hcI:(cd == 0) = false:=by simpa using hc
            have HNS:=zB (show ([]:List OpR) = if cd = 0 then zDJ tabs ms.length else [] by rw [if_neg hc])
            have hS9:Sb < wc.heap.size:=block_lt_of_cell (zA HRN9).sc
            have HTO9:=zB (show zDf wc S0 [] from ⟨by have:=(zA HZL).2; omega,fun i hi=>absurd hi (Nat.not_lt_zero _)⟩)
            clear hc
            go_wp2_with fail
            go_meet
            case rel=>exact ⟨S0,0,[],rfl,HNS,HTO9,zB (by have:=(zA HZL).2; omega),zB ⟨by simp,fun j hj=>absurd hj (Nat.not_lt_zero _)⟩,HM9,HRN9⟩
         case rest=>
          clear HRN9 HM9 HTS HRN8 HB9
          obtain ⟨gs,cs,ns,rfl,HNS,HTO,HGS,HCV,HMD,HRN⟩:=hcut
          obtain ⟨Wd,hWd⟩:∃ Wd,Wd = wc:=⟨_,rfl⟩
          subst hWd
          obtain ⟨hsz16,hks9⟩:=zMn (zA HCV).2
          have hgs:gs ≠ rp:=by have:=zA HGS; omega
          have HXA:=zB (zFF rp cap (adv bs p1) gs cs a bs ns Wd.drew ((zA HRN).pr.rd.below (Below.refl _ _).drew) hl (zA HCV).1 ((zA HTO).below (Below.refl _ _).drew (zA HTO).1) hgs hsz16 hks9)
          obtain ⟨rc0,rc1,rfz,_,_⟩:=(zA HRN).pr.rd
          obtain ⟨mc0,mc1,mf1⟩:=zA HMD
          have sc:=(zA HRN).sc
          have hMl:=(zA HMD).lt
          have hrM:M ≠ rp:=by omega
          have hSl9:Sb < Wd.heap.size:=block_lt_of_cell sc
          have hSr:Sb ≠ rp:=by have:=(zA HRN).lS; omega
          clear hsz16 hks9
          go_upto_region 28 with fail
          go_cut [13] from 28 to 166 (fun pv we=>∃ (ws:List ByteArray) (q1:Nat),pv = .pointer (some ⟨M,0,none⟩) /\ ws.length <= 4000 /\ Hid (zOv bs ns (adv bs p1) ws q1) /\ Hid (∀ s ∈ ws,s.size <= 16) /\ Hid (MdB we M nm (hd ++ zI7 bs ws q1)) /\ Hid (RnS w we rp cap a bs w2.heap.size ga ca xa g c ms (zN0 bs ws q1) L Sb (.slice (some ⟨gs,0,none⟩) ns.length cs)))
          case first=>
           as_aux_lemma=>
            go_region_with (first
             | (go_at_call 35; (with_reducible refine (zA HXA).mono ?_); rintro e w10 ⟨gw,cw,q1,ws,rfl,HRW,hw1,hw2,HWZ,HWD,H10,HP10⟩; have hgw:=(zA HRW).lt gw rfl; have md10:=((zA HMD).below (Below.refl _ _).drew).kept (zA HP10) hrM; have HRN10:=zB (((zA HRN).below (Below.refl _ _).drew).read (zA HP10) (zA H10)); have HMD10:=zB md10; obtain ⟨mc0,mc1,mf1⟩:=md10; have hz10:Wd.heap.size <= w10.heap.size:=(zA HP10).size; have HXS:=zB (zIB rp cap q1 gw cw a bs ws w10 (zA H10).free hl (by omega) (fun i=>Nat.le_trans (zH0 (zA HWZ) i) (by decide)) hgw.2 (by have hx:Wd.heap.size <= gw:=hgw.1; omega) (fun i hi=>(zA HRW).atE i hi)); clear HP10 H10)
             | (go_at_call 34; (with_reducible refine (zA HXS).mono ?_); rintro e w11 ⟨⟨sp,rfl,HSP⟩,H11,HP11⟩; have hspz:sp.size <= 72010:=(by rw [zA HSP]; exact zHN (zA HWZ) hw2); have md11:=(zA HMD10).kept (zA HP11) hrM; have HRN11:=zB ((zA HRN10).read (zA HP11) ((zA H11).strict (by have:=(zA HRN10).pr.rd.le; exact zEN (zKx bs ws q1 this ws.length)))); have HMD11:=zB md11; obtain ⟨mc0,mc1,mf1⟩:=md11; have HSE:=zB (show sp = zI7 bs ws q1 from zA HSP); clear HP11 H11))
            all_goals
             go_wp2_with fail
             go_meet
             case rel=>
              refine ⟨ws,q1,rfl,hw2,HWD,HWZ,zB ?_,zB ?_⟩
              ·rw [<- zA HSE]; exact (zA HMD11).put _
              ·have h:=zA HRN11
               exact h.grow (zm w11 M 1 _) hLM (Ne.symm hSM)
          case rest=>
           clear HXA HMD HTO rc0 rc1 rfz mc0 mc1 mf1 sc hMl
           obtain ⟨ws,q1,rfl,hwl,HWD,HWZ,HMD,HRN2⟩:=hcut
           have hspz:=zHN (bs:=bs) (q:=q1) (zA HWZ) hwl
           have htz0:(hd ++ zI7 bs ws q1).size <= 800000:=by rw [zK]; omega
           obtain ⟨t0,HT0⟩:∃ t0,Hid (t0 = hd ++ zI7 bs ws q1):=⟨_,zB rfl⟩
           rw [<- zA HT0] at HMD htz0
           obtain ⟨We,hWe⟩:∃ We,We = wc:=⟨_,rfl⟩
           subst hWe
           obtain ⟨rc0,rc1,rfz,_,_⟩:=(zA HRN2).pr.rd
           obtain ⟨mc0,mc1,mf1⟩:=zA HMD
           go_upto_if 137 with fail
           go_cut [13] from 28 to 166 (fun pv we=>∃ (tx:ByteArray) (q2:Nat),pv = .pointer (some ⟨M,0,none⟩) /\ tx.size <= 800000 /\ Hid ((cd = 0 /\ tx = hd ++ zI7 bs ws q1 /\ q2 = zN0 bs ws q1) \/ (cd ≠ 0 /\ tx = ⟨#[98,101,103,105,110,10,97]⟩ /\ q2 = adv bs p1)) /\ Hid (MdB we M nm tx) /\ Hid (RnS w we rp cap a bs w2.heap.size ga ca xa g c ms q2 L Sb (.slice (some ⟨gs,0,none⟩) ns.length cs)))
           case first=>
            as_aux_lemma=>
             by_cases hc:cd = 0
             ·have hcI:(cd != 0) = false:=by simpa using hc
              have HC:=zB hc
              clear hc
              go_wp2_with fail
              go_meet
              case rel=>exact ⟨t0,zN0 bs ws q1,rfl,htz0,zB (Or.inl ⟨zA HC,zA HT0,rfl⟩),HMD,HRN2⟩
             ·have hcI:(cd != 0) = true:=by simpa using hc
              have HC:=zB hc
              have hle:=(zA HRN).pr.rd.le
              have HR3:=zB ((zA HRN2).read (zAl We rp 1 (.int .i64 ((adv bs p1:Nat):Int))) (((zA HRN2).pr.rd.free.move (adv bs p1) _ rfl).strict hle))
              have HM3:=zB ((zA HMD).other (b:=rp) (o:=1) (v:=.int .i64 ((adv bs p1:Nat):Int)) (Ne.symm hrM))
              clear hc hle
              go_wp2_with fail
              go_meet
              case rel=>exact ⟨_,adv bs p1,rfl,by decide,zB (Or.inr ⟨zA HC,rfl,rfl⟩),zB ((zA HM3).put _),zB ((zA HR3).grow (zm _ M 1 _) hLM (Ne.symm hSM))⟩
           case rest=>
            clear HMD HRN2 HRN rc0 rc1 rfz mc0 mc1 mf1
            obtain ⟨tx,q2,rfl,htx,HTX,HM13,HRN13⟩:=hcut
            obtain ⟨W13,hW13⟩:∃ W13,W13 = wc:=⟨_,rfl⟩
            subst hW13
            go_upto_region 32 with fail
            go_cut [19] from 28 to 166 (fun bv we=>∃ (out:List (List zD)) (bad who2:Int),bv = .int .i64 bad /\ Hid (zDE (ms ++ [⟨nm,tx⟩]) out bad who2) /\ Hid (Below W13.heap.size W13 we))
            case first=>
             as_aux_lemma=>
              have htz:tx.size <= 2000000000000:=by omega
              have hMl:M < W13.heap.size:=(zA HM13).lt
              have hgl8:=((zA HRN13).pr.row.lt g rfl).2
              have hl5:([]:List zI).length + ms.length <= 1000:=by simp; omega
              have hl6:ms.length + [(⟨nm,tx⟩:zI)].length <= 1000:=by simp; omega
              have HE1:=zB (show ZG (W13.alloc (.cells #[] 39)).drew W13.heap.size (.slice (some ⟨W13.heap.size,0,none⟩) ([]:List zI).length 0) [] from (ZG.nil (w:=W13) (Nat.le_refl _)).below (Below.refl _ _).drew)
              have HE2:=zB (show ZG ((W13.alloc (.cells #[] 39)).alloc (.cells #[.string nm,.string tx] 39)).drew W13.heap.size (.slice (some ⟨W13.heap.size,0,none⟩) ([]:List zI).length 0) [] from (ZG.nil (w:=W13) (Nat.le_refl _)).below (zC _ _).drew)
              have HE3:=zB (show ZG ((W13.alloc (.cells #[.string nm,.string tx] 39)).alloc (.cells #[] 39)).drew W13.heap.size (.slice (some ⟨W13.heap.size + 1,0,none⟩) ([]:List zI).length 0) [] from by
               have:=ZG.nil (w:=W13.alloc (.cells #[.string nm,.string tx] 39)) (B:=W13.heap.size) (by simp)
               simpa using this.below (Below.refl _ _).drew)
              have HO1:=zB ((zA HRN13).pr.row.ops.below (zC W13 (.cells #[] 39)).drew hgl8)
              have HO2:=zB ((zA HRN13).pr.row.ops.below ((zC W13 (.cells #[] 39)).alloc (by simp) (.cells #[.string nm,.string tx] 39)).drew hgl8)
              have HO3:=zB ((zA HRN13).pr.row.ops.below ((zC W13 (.cells #[.string nm,.string tx] 39)).alloc (by simp) (.cells #[] 39)).drew hgl8)
              have HQ2:=zB (show ∀ j u,(zU [(⟨nm,tx⟩:zI)])[j]? = some u -> ((W13.alloc (.cells #[] 39)).alloc (.cells #[.string nm,.string tx] 39)).drew.cell? ((⟨W13.heap.size + 1,0,none⟩:Addr).add j) = some u from fun j u hj=>by
               have:=Z0 (W13.alloc (.cells #[] 39)) ⟨nm,tx⟩ j u hj
               simpa using this)
              have HQ3:=zB (show ∀ j u,(zU [(⟨nm,tx⟩:zI)])[j]? = some u -> ((W13.alloc (.cells #[.string nm,.string tx] 39)).alloc (.cells #[] 39)).drew.cell? ((⟨W13.heap.size,0,none⟩:Addr).add j) = some u from fun j u hj=>by
               have h1:=Z0 W13 ⟨nm,tx⟩ j u hj
               rw [Addr.add_mid] at h1 ⊢
               exact ((zC (W13.alloc (.cells #[.string nm,.string tx] 39)) (.cells #[] 39)).drew.cell (p:=⟨W13.heap.size,0 + j,none⟩) (by simp)).trans h1)
              have HSZ6:=zB (((zA HMZ).snoc (m:=⟨nm,tx⟩) hnz htz).sized (by decide) (by decide))
              obtain ⟨c00,c01,_⟩:=zA HM13
              go_region_held3 (fun W=>W.cell? ⟨M,0,none⟩ = some (.string nm) /\ W.cell? ⟨M,1,none⟩ = some (.string tx)) (first | (go_keep; done) | exact ⟨m0,m1⟩ | exact ⟨((zC _ _).cell (p:=⟨M,0,none⟩) (by show M < w5.heap.size; omega)).trans m0,((zC _ _).cell (p:=⟨M,1,none⟩) (by show M < w5.heap.size; omega)).trans m1⟩)
               (first
                | (refine Zh (by rfl) (.tmp 144) (.tmp 145) (by rfl) (zA HE1) ⟨g,0,none⟩ c (zBA (zA HO1)) hl5 (by simp) (by rfl) (by rfl) ?_; intro g5 c5 w5 ts5 hts5 hr5 hgr5 hat5 hlt5; have e5:ms = ts5:=hts5.symm; subst e5; have hb5:Below W13.heap.size W13 w5:=(zC W13 (.cells #[] 39)).drew.grown hgr5 (by simp <;> omega) (fun x hx=>by injection hx with hx; omega); have HB5:=zB hb5; have HR5:=zB hr5; have z5:=hb5.size; have m0:=(hb5.cell (p:=⟨M,0,none⟩) hMl).trans (zA HM13).c0; have m1:=(hb5.cell (p:=⟨M,1,none⟩) hMl).trans (zA HM13).c1; clear hb5 hr5 hgr5 hat5 hlt5 hts5)
                | (refine Zh (by rfl) (.tmp 144) (.tmp 145) (by rfl) (zA HE2) ⟨g,0,none⟩ c (zBA (zA HO2)) hl5 (by simp; omega) (by rfl) (by rfl) ?_; intro g5 c5 w5 ts5 hts5 hr5 hgr5 hat5 hlt5; have e5:ms = ts5:=hts5.symm; subst e5; have hb5:Below W13.heap.size W13 w5:=((zC W13 (.cells #[] 39)).alloc (by simp) (.cells #[.string nm,.string tx] 39)).drew.grown hgr5 (by simp <;> omega) (fun x hx=>by injection hx with hx; omega); have HB5:=zB hb5; have HR5:=zB hr5; have z5:=hb5.size; have m0:=(hb5.cell (p:=⟨M,0,none⟩) hMl).trans (zA HM13).c0; have m1:=(hb5.cell (p:=⟨M,1,none⟩) hMl).trans (zA HM13).c1; have HN5:=zB (show ∀ j u,(zU [(⟨nm,tx⟩:zI)])[j]? = some u -> w5.cell? ((⟨W13.heap.size + 1,0,none⟩:Addr).add j) = some u from fun j u hj=>(by have h:=(zA HQ2) j u hj; rw [Addr.add_mid] at h ⊢; exact (zE hgr5 (b:=W13.heap.size + 1) (by simp) (fun x=>by injection x with x; omega) (0 + j)).trans h)); clear hb5 hr5 hgr5 hat5 hlt5 hts5)
                | (refine Zh (by rfl) (.tmp 144) (.tmp 145) (by rfl) (zA HE3) ⟨g,0,none⟩ c (zBA (zA HO3)) hl5 (by simp; omega) (by rfl) (by rfl) ?_; intro g5 c5 w5 ts5 hts5 hr5 hgr5 hat5 hlt5; have e5:ms = ts5:=hts5.symm; subst e5; have hb5:Below W13.heap.size W13 w5:=((zC W13 (.cells #[.string nm,.string tx] 39)).alloc (by simp) (.cells #[] 39)).drew.grown hgr5 (by simp <;> omega) (fun x hx=>by injection hx with hx; omega); have HB5:=zB hb5; have HR5:=zB hr5; have z5:=hb5.size; have m0:=(hb5.cell (p:=⟨M,0,none⟩) hMl).trans (zA HM13).c0; have m1:=(hb5.cell (p:=⟨M,1,none⟩) hMl).trans (zA HM13).c1; have HN6:=zB (show ∀ j u,(zU [(⟨nm,tx⟩:zI)])[j]? = some u -> w5.cell? ((⟨W13.heap.size,0,none⟩:Addr).add j) = some u from fun j u hj=>(by have h:=(zA HQ3) j u hj; rw [Addr.add_mid] at h ⊢; exact (zE hgr5 (b:=W13.heap.size) (by simp <;> omega) (fun x=>by injection x with x; omega) (0 + j)).trans h)); clear hb5 hr5 hgr5 hat5 hlt5 hts5)
                | (refine Zh (vs:=[⟨nm,tx⟩]) (by rfl) (.tmp 146) (.tmp 148) (by rfl) ((zA HR5).below (zC _ _)) ⟨w5.heap.size,0,none⟩ 1 (Z0 w5 ⟨nm,tx⟩) hl6 (by simp; omega) (by rfl) (by rfl) ?_; intro g6 c6 w6 ts6 hts6 hr6 hgr6 hat6 hlt6; have hb6:Below W13.heap.size W13 w6:=((zA HB5).alloc (zA HB5).size _).grown hgr6 (by have:=(zA HB5).size; first | omega | (simp; omega)) (fun x hx=>by injection hx with hx; have:=((zA HR5).lt g5 rfl).1; omega); have HB6:=zB hb6; have HR6:=zB hr6; have hl6b:ts6.length <= 10:=(by rw [hts6]; simp; omega); have HT6:=zB hts6; have m0:=(hb6.cell (p:=⟨M,0,none⟩) hMl).trans (zA HM13).c0; have m1:=(hb6.cell (p:=⟨M,1,none⟩) hMl).trans (zA HM13).c1; clear hb6 hr6 hgr6 hat6 hlt6 hts6)
                | (refine Zh (vs:=[⟨nm,tx⟩]) (by rfl) (.tmp 146) (.tmp 148) (by rfl) (zA HR5) ⟨W13.heap.size + 1,0,none⟩ 1 (zA HN5) hl6 (by omega) (by rfl) (by rfl) ?_; intro g6 c6 w6 ts6 hts6 hr6 hgr6 hat6 hlt6; have hb6:Below W13.heap.size W13 w6:=(zA HB5).grown hgr6 (by have:=(zA HB5).size; first | omega | (simp; omega)) (fun x hx=>by injection hx with hx; have:=((zA HR5).lt g5 rfl).1; omega); have HB6:=zB hb6; have HR6:=zB hr6; have hl6b:ts6.length <= 10:=(by rw [hts6]; simp; omega); have HT6:=zB hts6; have m0:=(hb6.cell (p:=⟨M,0,none⟩) hMl).trans (zA HM13).c0; have m1:=(hb6.cell (p:=⟨M,1,none⟩) hMl).trans (zA HM13).c1; clear hb6 hr6 hgr6 hat6 hlt6 hts6)
                | (refine Zh (vs:=[⟨nm,tx⟩]) (by rfl) (.tmp 146) (.tmp 148) (by rfl) (zA HR5) ⟨W13.heap.size,0,none⟩ 1 (zA HN6) hl6 (by omega) (by rfl) (by rfl) ?_; intro g6 c6 w6 ts6 hts6 hr6 hgr6 hat6 hlt6; have hb6:Below W13.heap.size W13 w6:=(zA HB5).grown hgr6 (by have:=(zA HB5).size; first | omega | (simp; omega)) (fun x hx=>by injection hx with hx; have:=((zA HR5).lt g5 rfl).1; omega); have HB6:=zB hb6; have HR6:=zB hr6; have hl6b:ts6.length <= 10:=(by rw [hts6]; simp; omega); have HT6:=zB hts6; have m0:=(hb6.cell (p:=⟨M,0,none⟩) hMl).trans (zA HM13).c0; have m1:=(hb6.cell (p:=⟨M,1,none⟩) hMl).trans (zA HM13).c1; clear hb6 hr6 hgr6 hat6 hlt6 hts6)
                | (go_at_call 36; have HXC:=zGj (some ⟨g6,0,none⟩) c6 ts6 w6 (by omega) (zA HR6).arg (by rw [zA HT6]; exact zA HSZ6); (with_reducible refine HXC.mono ?_); clear HXC; rintro e w9 ⟨tv,out,bad,who2,rfl,HTI,HTR,hb9⟩; have HB9:=zB ((zA HB6).trans (hb9.mono (zA HB6).size)); have m0:=((zA HB9).cell (p:=⟨M,0,none⟩) hMl).trans (zA HM13).c0; have m1:=((zA HB9).cell (p:=⟨M,1,none⟩) hMl).trans (zA HM13).c1; clear hb9))
              all_goals
               go_wp2_with fail
               go_meet
               case rel=>exact ⟨out,bad,who2,rfl,by rw [<- zA HT6]; exact HTI,HB9⟩
            case rest=>
             obtain ⟨out,bad,who2,rfl,HTI,HB14⟩:=hcut
             have HRN14:=zB ((zA HRN13).below (zA HB14))
             have HM14:=zB ((zA HM13).below (zA HB14))
             obtain ⟨Wf,hWf⟩:∃ Wf,Wf = wc:=⟨_,rfl⟩
             subst hWf
             obtain ⟨mc0,mc1,mf1⟩:=zA HM14
             go_upto_if 155 with fail
             go_cut [13] from 28 to 166 (fun pv we=>∃ (ty:ByteArray),pv = .pointer (some ⟨M,0,none⟩) /\ ty.size <= 2000000000000 /\ Hid ((bad = 0 /\ ty = tx) \/ (bad ≠ 0 /\ ∃ h,zLm tx OpR.zero OpR.zero h /\ ty = h ++ ⟨#[49]⟩)) /\ Hid (MdB we M nm ty) /\ Hid (RnS w we rp cap a bs w2.heap.size ga ca xa g c ms q2 L Sb (.slice (some ⟨gs,0,none⟩) ns.length cs)))
             case first=>
              as_aux_lemma=>
               by_cases hc:bad = 0
               ·have hcI:(bad != 0) = false:=by simpa using hc
                have HC:=zB hc
                clear hc
                go_wp2_with fail
                go_meet
                case rel=>exact ⟨tx,rfl,by omega,zB (Or.inl ⟨zA HC,rfl⟩),HM14,HRN14⟩
               ·have hcI:(bad != 0) = true:=by simpa using hc
                have HXH:=zB (show Calls Tryz.prog 37 #[.string tx,.agg #[.string ⟨#[]⟩,.int .i64 0,.int .i64 0,.int .i64 0],.agg #[.string ⟨#[]⟩,.int .i64 0,.int .i64 0,.int .i64 0]] Wf _ from zH3 tx OpR.zero OpR.zero Wf (by omega) (fun ws h=>absurd h zMo) (by decide))
                have HCN:=zB hc
                clear hc
                go_wp2_with fail
                (with_reducible refine (zA HXH).mono ?_)
                rintro e w15 ⟨⟨th,rfl,hthz,HTH⟩,hb15⟩
                have HRN15:=zB ((zA HRN14).below hb15)
                have md15:=(zA HM14).below hb15
                have HM15:=zB md15
                obtain ⟨mc0,mc1,mf1⟩:=md15
                clear hb15 HXH
                go_wp2_with fail
                go_meet
                case rel=>exact ⟨_,rfl,by rw [zK]; show th.size + 1 <= _; omega,zB (Or.inr ⟨zA HCN,th,zA HTH,rfl⟩),zB ((zA HM15).put _),zB ((zA HRN15).grow (zm _ M 1 _) hLM (Ne.symm hSM))⟩
             case rest=>
              clear mc0 mc1 mf1 HM14 HRN14 HB14 HM13 HRN13
              obtain ⟨ty,rfl,htyz,HTY,HMD,HRN⟩:=hcut
              obtain ⟨Wg,hWg⟩:∃ Wg,Wg = wc:=⟨_,rfl⟩
              subst hWg
              obtain ⟨mc0,mc1,_⟩:=zA HMD
              have HRD:=zB (show zPd bs n xa ms.length ms q ⟨nm,ty⟩ q2 from by
               refine ⟨hd,tabs,cd,who,ws,q1,tx,out,bad,who2,?_,?_,?_,?_,?_,?_⟩
               ·rw [zA HPX,<- zA HK,<- zA HUE]; exact zA HHD
               ·rw [<- zA HNM]; exact zA HLD
               ·rw [zA HPX,<- zA HNS]; exact zA HWD
               ·rw [zA HPX]; exact zA HTX
               ·rw [<- zA HNM]; exact zA HTI
               ·rw [<- zA HNM]
                rcases zA HTY with ⟨h1,h2⟩ | ⟨h1,h,h2,h3⟩
                ·exact Or.inl ⟨h1,by rw [h2]⟩
                ·exact Or.inr ⟨h1,h,h2,by rw [h3]⟩)
              have hrow:=(zA HRN).pr.row.below (zC Wg (.cells #[.string nm,.string ty] 39))
              have HROW:=zB hrow
              have hwz:w.heap.size <= Wg.heap.size:=(zA HRN).pr.kp.size
              clear hrow
              go_wp2_with (at_builtin; refine wpList_append_own_at _ rfl (.tmp 163) (.tmp 165) 36 rfl w.heap.size 39 i2 _ 2 32 Tryz.underlying36 (zA HM) (zA HX).1 (zA HX).2.1 (zA HX).2.2 rfl (by decide) _ ms.length (zU ms) rfl (zA HROW) ⟨Wg.heap.size,0,none⟩ 1 1 (zU [⟨nm,ty⟩]) rfl rfl (Z0 Wg ⟨nm,ty⟩) (zAM _) ?b1 ?b2 ?b3 ?next)
              case b1=>unfold maxLen; omega
              case b2=>omega
              case b3=>simp; omega
              case next=>
               intro v6 w6 hown6 hgrow6 hnil6 hat6
               obtain ⟨g6,c6,ms6,hms6,rfl,hp6⟩:=((zA HRN).pr.below (zC Wg (.cells #[.string nm,.string ty] 39))).app hown6 hgrow6 (hat6.imp (fun e=>e) (fun e=>⟨Wg.heap.size + 1,e,by simp⟩))
               have hl6:ms6.length = ms.length + 1:=by rw [hms6]; simp
               have HPT:=zB (show zKu bs n xa qa ms6.length ms6 q2 from by rw [hl6]; exact ⟨ms,q,⟨nm,ty⟩,zA HTO,zA HRD,hms6⟩)
               have HMZ6:=zB (show MsZ 3 2000000000000 ms6 by rw [hms6]; exact (zA HMZ).snoc hnz htyz)
               have HP6:=zB hp6
               have hl7:ms6.length <= n:=by omega
               have HL7:=zB hl6
               clear hown6 hgrow6 hnil6 hat6 hms6 hp6 hl6 HROW HRN
               go_wp2_with fail
               exact ⟨⟨g6,c6,q2,ms6,hl7,by have:=zA HL7; congr 1; omega,rfl,HP6,HPT,HMZ6⟩,by have:=zA HL7; simp [intOf]; omega⟩
end Go.Proofs.YtgiemobdmbijiaaGreatDoor
