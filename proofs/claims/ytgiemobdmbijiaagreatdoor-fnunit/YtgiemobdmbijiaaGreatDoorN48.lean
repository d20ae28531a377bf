import Derived.OpenShut
import Derived.ProofKit
import Derived.Lib.SmallJoins
import Derived.ChangeSlices
import Derived.Deep.Slices
import Derived.ShutString
import Derived.ChangeOld
import Derived.Below
import Derived.Test.YtgiemobdmbijiaaGreatDoorTie
import Derived.Test.YtgiemobdmbijiaaGreatDoorCards
import Derived.LaidMore
import Derived.Lay
import Derived.SevenTiedAt
import Derived.Stop.Joined
import Derived.Shelf.Vars
import Derived.Test.YtgiemobdmbijiaaGreatDoorN01
import Derived.Test.YtgiemobdmbijiaaGreatDoorN15
import Derived.Test.YtgiemobdmbijiaaGreatDoorN16
import Derived.Test.YtgiemobdmbijiaaGreatDoorN18
import Derived.Test.YtgiemobdmbijiaaGreatDoorN27
import Derived.Test.YtgiemobdmbijiaaGreatDoorN31
import Derived.Test.YtgiemobdmbijiaaGreatDoorN45
import Derived.Test.YtgiemobdmbijiaaGreatDoorN46
import Derived.Test.YtgiemobdmbijiaaGreatDoorN47
namespace Go.Proofs.YtgiemobdmbijiaaGreatDoor
set_option linter.unusedSimpArgs false
set_option linter.unusedVariables false
set_option maxHeartbeats 16000000
set_option maxRecDepth 100000
open Go.RowKit
theorem za.mono {w:World} {B B':Nat} {v:Value} {ws:List ByteArray} (h:za w B v ws) (hb:B' <= B):za w B' v ws:=by
 obtain ⟨h1,h2 | ⟨g,cap,cur,hv,hg,h3⟩⟩:=h
 ·exact ⟨h1,Or.inl h2⟩
 ·exact ⟨h1,Or.inr ⟨g,cap,cur,hv,Nat.le_trans hb hg,h3⟩⟩
theorem zLa (w:World) (ps:List ByteArray) (k:Nat) (p:ByteArray) (h:ps[k]? = some p):(w.alloc (.cells (ps.map Value.string).toArray 9)).cell? ⟨w.heap.size,k,none⟩ = some (.string p):=by
 have:=World.rangeAt_of_block (w:=w.alloc (.cells (ps.map Value.string).toArray 9)) (b:=w.heap.size) (heap_alloc_new w _) 0 ps.length
 have h2:=this k (.string p) (by simp [List.getElem?_take,h,(List.getElem?_eq_some_iff.1 h).1]; exact (List.getElem?_eq_some_iff.1 h).2)
 simpa using h2
theorem zJU (s:ByteArray) (w:World) (hs:s.size <= 20000) (hm:zGW w) :
  Calls Tryz.prog 16 #[.string s] w (zKs w s):=by
 obtain ⟨i0,hi0,hz0,hz1,hz2⟩:=zQ zCQ
 have HI:=zB hi0
 have HZ:=zB (And.intro hz0 (And.intro hz1 hz2))
 clear hi0 hz0 hz1 hz2
 go_enter Tryz.func16,Tryz.ntmps16
 go_wp2_with (go_at_call 26; refine (zLY s hs w hm).mono ?_; rintro e w1 ⟨ps,HF,hpl,rfl,hw1⟩; have HC:=zB (show ∀ k p,ps[k]? = some p -> w1.cell? ⟨w.heap.size,k,none⟩ = some (.string p) from fun k p hk=>(by rw [hw1]; exact zLa w ps k p hk)); have HB0:=zB (show Below w.heap.size w w1 from (by rw [hw1]; exact zC _ _)); have hz1:w.heap.size + 1 <= w1.heap.size:=(by rw [hw1]; simp); clear hw1)
 go_loopw [3,9] (fun out i wr=>∃ (k:Nat) (us:List ByteArray) (v:Value),k <= ps.length /\ i = .int .i64 (k:Int) /\ out = v /\ us.length <= k /\ Hid (us = zFY (ps.take k)) /\ Hid (za wr w1.heap.size v us) /\ Below w1.heap.size w1 wr) (fun _ i _=>ps.length - (intOf i).toNat)
 case atStart=>exact ⟨0,[],_,Nat.zero_le _,rfl,rfl,Nat.zero_le _,zB rfl,zB (World.ownsRow_nil _ _ _ _),Below.refl _ _⟩
 case round=>
  obtain ⟨k,us,v,hk,rfl,rfl,hul,HU,HR,hbel⟩:=hrel
  by_cases hlt:k < ps.length
  ·have hltI:(k:Int) < (ps.length:Int):=by omega
   obtain ⟨p,hp⟩:∃ p,ps[k]? = some p:=⟨_,List.getElem?_eq_getElem hlt⟩
   have hc:wr.cell? ⟨w.heap.size,k,none⟩ = some (.string p):=(hbel.cell (p:=⟨w.heap.size,k,none⟩) (by show w.heap.size < w1.heap.size; omega)).trans ((zA HC) k p hp)
   have HT:=zB (zK8 ps k p hp)
   by_cases h0:0 < p.size
   ·have hne:=zER (t:=p) (by omega)
    have HT2:=zB (show zFY (ps.take (k + 1)) = us ++ [p] by rw [zA HT,if_pos h0,zA HU])
    clear hp HT h0
    go_wp2_with (at_builtin; refine wpList_append_own_at _ rfl (.tmp 15) (.tmp 17) 24 rfl w1.heap.size 9 i0 _ 1 16 Tryz.underlying24 (zA HI) (zA HZ).1 (zA HZ).2.1 (zA HZ).2.2 rfl (by decide) _ us.length (zH us) rfl ((zA HR).below (zC _ _)) ⟨wr.heap.size,0,none⟩ 1 1 (zH [p]) rfl rfl (by simpa using ZL wr p) (zS _) ?b1 ?b2 ?b3 ?next)
    case b1=>unfold maxLen; omega
    case b2=>omega
    case b3=>have:=hbel.size; simp; omega
    case next=>
     intro v4 w4 hown4 hgrow4 hnil4 hat4
     have HO:=zB (show za w4 w1.heap.size v4 (us ++ [p]) by
      unfold za
      rw [zAc,List.length_append]
      exact hown4)
     have hbel4:Below w1.heap.size w1 w4:=(hbel.alloc hbel.size _).grown hgrow4 (by have:=hbel.size; simp; omega) (fun q hq=>((zA HR).lt q hq).1)
     clear hown4 hgrow4 hnil4 hat4
     go_wp2
     exact ⟨⟨k + 1,us ++ [p],_,by omega,by go_num,rfl,by simp; omega,zB (zA HT2).symm,HO,hbel4⟩,by simp [intOf]; omega⟩
   ·obtain rfl:=zES (t:=p) (by omega)
    have HT2:=zB (show zFY (ps.take (k + 1)) = us by rw [zA HT,if_neg h0,zA HU,List.append_nil])
    clear hp HT h0
    go_wp2
    exact ⟨⟨k + 1,us,_,by omega,by go_num,rfl,by omega,zB (zA HT2).symm,HR,hbel⟩,by simp [intOf]; omega⟩
  ·have hkz:k = ps.length:=by omega
   have HE:=zB (show us = wds s by rw [zA HU,hkz,List.take_length,zA HF])
   clear hkz
   go_wp2
   go_ret
   have e:=zA HE
   subst e
   exact ⟨_,rfl,(zA HR).mono (by omega),by omega,(zA HB0).trans (hbel.mono (by omega))⟩
def zNL:Value -> Value -> Nat
 | .string r,.bool true=>r.size + 1
 | _,_=>0
theorem zOX {s:ByteArray} (h:20000 < s.size):zn s [] [] ByteArray.empty 1 0:=Or.inl ⟨h,rfl,rfl,rfl,rfl,rfl⟩
theorem zB9 (s:ByteArray) (w:World) (hs:s.size <= maxLen) (hm:zGW w) :
  Calls Tryz.prog 6 #[.string s] w (zEA w s):=by
 by_cases hlong:20000 < s.size
 ·have hlI:(20000:Int) < (s.size:Int):=by omega
  have HP:=zB (fun w'=>Zx (w:=w) (w':=w') (zOX hlong))
  unfold maxLen at hs
  clear hlong
  go_enter Tryz.func6,Tryz.ntmps6
  go_wp2
  refine bodyPost_ret (v:=.tuple #[.agg #[.slice none 0 0,.slice none 0 0,.string ⟨#[]⟩],.int .i64 1,.int .i64 0]) ?res rfl ((zA HP) _ ?_)
  case res=>simp [results,Tryz.results6,go_sem]
  first
   | exact zC _ _
   | exact zJ (Nat.le_refl _) [.slice none 0 0,.slice none 0 0,.string ⟨#[]⟩] 0 _ (zC _ _)
 have hs2:s.size <= 20000:=by omega
 have hlI:¬ (20000:Int) < (s.size:Int):=by omega
 have HM:=zB hm
 have hmg:=hm.lt
 clear hm hlong hs
 go_enter Tryz.func6,Tryz.ntmps6
 go_wp2_with fail
 obtain ⟨W0,hW0⟩:∃ W0,W0 = (w.alloc (.cells #[.slice none 0 0,.slice none 0 0,.string ⟨#[]⟩] 27)).alloc (.cells #[.slice none 0 0,.slice none 0 0,.string ⟨#[]⟩] 27):=⟨_,rfl⟩
 have HW0:=zB (show Below w.heap.size w W0 by rw [hW0]; exact (zC _ _).alloc (by simp) _)
 have hz0:w.heap.size + 2 <= W0.heap.size:=by rw [hW0]; simp
 have HZ0:=zB (show zCw W0 w.heap.size by rw [hW0]; exact ⟨by simp [go_sem],by simp [go_sem],by simp [go_sem],fun o=>by simp [go_sem]⟩)
 have HU0:=zB (show UnM W0 (w.heap.size + 1) (w.heap.size + 1) (.slice none 0 0) (.slice none 0 0) [] [] ⟨#[]⟩ by rw [hW0]; exact ⟨by simp [go_sem],by simp [go_sem],by simp [go_sem],fun o=>by simp [go_sem],Nat.le_refl _,World.ownsRow_nil _ _ _ _,World.ownsRow_nil _ _ _ _,by simp [Value.ownBlock],by simp [Value.ownBlock],fun g e=>by cases e⟩)
 rw [<- hW0]
 clear hW0
 go_loopw [6,7,8] (fun rest more num wr=>∃ (r:ByteArray) (m:Bool) (n:Nat),rest = .string r /\ more = .bool m /\ num = .int .i64 (n:Int) /\ n <= 20002 /\ Below (w.heap.size + 1) W0 wr /\ ((m = false /\ Hid (zn s [] [] ByteArray.empty 3 0)) \/ (m = true /\ ∃ (a:Nat) (us:List ByteArray) (os:List OpR) (vu vo:Value),a <= s.size /\ n <= a + 1 /\ us.length <= a /\ os.length <= a /\ Hid (r = s.extract a s.size) /\ Hid (zCS s (pcs 10 s a) n us os) /\ Hid (UnM wr (w.heap.size + 1) (w.heap.size + 1) vu vo us os ⟨#[]⟩)))) (fun rest more _ _=>zNL rest more)
 case atStart=>exact ⟨s,true,1,rfl,rfl,rfl,by omega,Below.refl _ _,Or.inr ⟨rfl,0,[],[],_,_,Nat.zero_le _,by omega,Nat.le_refl _,Nat.le_refl _,zB (zIJ s).symm,zB (zCS.start hs2),HU0⟩⟩
 case round=>
  clear HU0
  obtain ⟨r,m,n,rfl,rfl,rfl,hn,hbel,hcase⟩:=hrel
  have HBW:=zB (show Below w.heap.size w wr from (zA HW0).trans (hbel.mono (by omega)))
  have hzr:w.heap.size + 2 <= wr.heap.size:=Nat.le_trans hz0 hbel.size
  obtain ⟨y0,y1,y2,y3⟩:=(zA HZ0).below hbel (by omega)
  have HMr:=zB ((zA HM).below (zA HBW))
  rcases hcase with ⟨rfl,HE⟩ | ⟨rfl,a,us,os,vu,vo,ha,hna,hua,hoa,HR,HT,HU⟩
  ·have HP:=zB (fun w'=>Zx (w:=w) (w':=w') (zA HE))
   have y30:=y3 0
   have y31:=y3 1
   have y32:=y3 2
   go_wp2
   refine bodyPost_ret (v:=.tuple #[.agg #[.slice none 0 0,.slice none 0 0,.string ⟨#[]⟩],.int .i64 3,.int .i64 0]) ?res rfl ((zA HP) _ ?_)
   case res=>simp [results,Tryz.results6,go_sem,y0,y1,y2]
   first
    | exact zA HBW
    | exact zJ (Nat.le_refl _) [.slice none 0 0,.slice none 0 0,.string ⟨#[]⟩] 0 _ (zA HBW)
  ·obtain ⟨z,hz⟩:∃ z,z = nx 10 s a:=⟨_,rfl⟩
   obtain ⟨g1,g2,g3,g4⟩:=Z3 10 s a ha
   rw [<- hz] at g1 g2
   have HST:=zAY 10 s a ha
   rw [<- hz] at HST
   obtain ⟨t,ht⟩:∃ t,t = s.extract a z:=⟨_,rfl⟩
   have hts:t.size <= 20000:=by rw [ht,ZO]; omega
   have HCUT:=zB (zPQ s r a (zA HR) ha hs2 wr (zA HMr))
   rw [<- hz,<- ht] at HCUT
   have HTT:=zB (HST ▸ zA HT)
   have hrs:r.size = s.size - a:=by rw [zA HR,ZO,Nat.min_self]
   have HRS:=zB hrs
   have HTE:=zB ht
   obtain ⟨mo,hmo⟩:∃ mo,mo = decide (z < s.size):=⟨_,rfl⟩
   rw [<- hmo] at HCUT
   have HMO:=zB hmo
   have HUL:=(zA HU).lt
   have HY3:=zB y3
   have y30:=y3 0
   have y31:=y3 1
   have y32:=y3 2
   clear hz g3 g4 HST ht hrs HT hmo HM HZ0 HR y3
   go_wp2_with fail
   (with_reducible refine (zA HCUT).mono ?_)
   rintro e w1 ⟨rfl,hb1⟩
   have HB1:=zB hb1
   have z1:=hb1.size
   have HWO:=zB (zJU t w1 hts ((zA HMr).below hb1))
   clear hb1 HCUT HMr
   go_wp2_with fail
   (with_reducible refine (zA HWO).mono ?_)
   rintro e w2 ⟨v,rfl,hr2,hl2,hb2⟩
   obtain ⟨ws,hws⟩:∃ ws,ws = wds t:=⟨_,rfl⟩
   rw [<- hws] at hr2 hl2
   have HWS:=zB hws
   have HB2:=zB ((zA HB1).trans (hb2.mono z1))
   have z2:wr.heap.size <= w2.heap.size:=Nat.le_trans z1 hb2.size
   have HU2:=zB ((zA HU).below (zA HB2))
   have HBW2:=zB ((zA HBW).trans ((zA HB2).mono (by omega)))
   have HB02:=zB (show Below (w.heap.size + 1) W0 w2 from hbel.trans ((zA HB2).mono (by omega)))
   have HST:=zB hr2.strs
   have HNE:=zB (show ∀ q,v.ownBlock = some q -> q ≠ w.heap.size + 1 /\ vu.ownBlock ≠ some q from fun q e=>by
    have:=(hr2.lt q e).1
    exact ⟨by omega,fun e2=>by have:=((zA HU).ru.lt q e2).2; omega⟩)
   have HSZ:=zB (show ∀ x ∈ ws,x.size <= maxLen from fun x hx=>by
    have:=zCx (l:=t) (by rw [<- zA HWS]; exact hx)
    unfold maxLen
    omega)
   obtain ⟨x0,x1,x2,x3⟩:zCw w2 w.heap.size:=zCw.below ⟨y0,y1,y2,fun o=>(zA HY3) o⟩ (zA HB2) (by omega)
   have x30:=x3 0
   have x31:=x3 1
   have x32:=x3 2
   have hwl:ws.length <= 20001:=by omega
   by_cases hbeg:ws = [zh]
   ·have HI:=zB (show zn s us os (zAZ s z) 0 0 from (zA HTT).begin (by show wds (s.extract a z) = _; rw [<- zA HTE,<- zA HWS]; exact hbeg))
    obtain ⟨gw,c,rfl,hgw,hc⟩:=(zA HST).lt (by rw [hbeg]; simp)
    have k0:w2.cell? ⟨gw,0,none⟩ = some (.string ⟨#[98,101,103,105,110]⟩):=hc 0 _ (by rw [hbeg]; rfl)
    have hl1:ws.length = 1:=by rw [hbeg]; rfl
    rw [hl1]
    obtain ⟨au,cu,rfl⟩:=zV (zA HU2).ru
    obtain ⟨ao,co,rfl⟩:∃ a c,vo = .slice a os.length c:=zV (zA HU2).ro
    have u0:=(zA HU2).c0
    have u1:=(zA HU2).c1
    have u2:=(zA HU2).c2
    have f2:=(zA HU2).fz 2
    obtain ⟨ans,_⟩:=zEB (b':=zAZ s z) (by omega) (zA HU2) (zA HBW2) (zA HI) (by omega) (by omega)
    have HANS:=zB ans
    have e1:w.heap.size + 1 ≠ w.heap.size:=by omega
    have e2:w.heap.size ≠ w.heap.size + 1:=by omega
    clear ans hc hbeg hws hr2 hl2 hb2 x3 HST HNE HSZ HWO HWS hl1
    go_wp2_with fail
    refine bodyPost_ret (v:=.tuple #[.agg #[.slice au us.length cu,.slice ao os.length co,.string (zAZ s z)],.int .i64 0,.int .i64 0]) ?res rfl (zA HANS)
    case res=>simp [results,Tryz.results6,go_sem,x0,x1,x2,e1,e2,u0,u1,u2]
   ·have hnb:wds (s.extract a z) ≠ [zh]:=by rw [<- zA HTE,<- zA HWS]; exact hbeg
    have HTK:=zB (zLZ (w.heap.size + 1) (w.heap.size + 1) vu vo v us os ⟨#[]⟩ ws w2 (zA HU2) (zA HST) (zA HSZ) (zA HNE) (by omega) (by omega) hwl)
    have HBAD:=zB (fun (hl:∀ us' os',¬ Zv ws us os us' os')=>(zA HTT).bad hnb (by show ∀ us' os',¬ Zv (wds (s.extract a z)) us os us' os'; rw [<- zA HTE,<- zA HWS]; exact hl))
    have HNXT:=zB (fun us' os' (hl:Zv ws us os us' os')=>(zA HTT).next hnb (us':=us') (os':=os') (by show Zv (wds (s.extract a z)) us os us' os'; rw [<- zA HTE,<- zA HWS]; exact hl))
    have hcond:((ws.length:Int) == 1) = false \/ (((ws.length:Int) == 1) = true /\ ∃ gw c k,v = .slice (some ⟨gw,0,none⟩) ws.length c /\ w2.cell? ⟨gw,0,none⟩ = some (.string k) /\ (k.toList == [98,101,103,105,110]) = false):=by
     by_cases e:ws.length = 1
     ·right
      obtain ⟨gw,c,hv,hgw,hc⟩:=(zA HST).lt (by omega)
      match ws,e with
      | [k],_=>exact ⟨rfl,gw,c,k,hv,hc 0 k rfl,zCt (fun ek=>hbeg (by rw [ek]; rfl))⟩
     ·left; simp; omega
    obtain ⟨av,cv,hv⟩:=zV hr2
    clear hbeg hnb hws hr2 hl2 hb2 x3 HNE HSZ HWO HWS HST
    rcases hcond with hc1 | ⟨hc1,gw,c,k,hv2,k0,hk⟩
    all_goals
     first
      | (subst hv2; clear hv; have hg00:(0:Int) < (ws.length:Int):=(by have:=beq_iff_eq.1 hc1; omega))
      | subst hv
     go_wp2_with fail
     (with_reducible refine (zA HTK).mono ?_)
     rintro e w3 ⟨ok,rfl,hcase,hb3⟩
     have HBW3:=zB ((zA HBW2).trans (hb3.mono (by omega)))
     have HB03:=zB (show Below (w.heap.size + 1) W0 w3 from (zA HB02).trans hb3)
     have q0:=(hb3.cell (p:=⟨w.heap.size,0,none⟩) (Nat.lt_succ_self _)).trans x0
     have q1:=(hb3.cell (p:=⟨w.heap.size,1,none⟩) (Nat.lt_succ_self _)).trans x1
     have q2:=(hb3.cell (p:=⟨w.heap.size,2,none⟩) (Nat.lt_succ_self _)).trans x2
     have q30:=(hb3.frozen (p:=⟨w.heap.size,0,none⟩) (Nat.lt_succ_self _)).trans x30
     have q31:=(hb3.frozen (p:=⟨w.heap.size,1,none⟩) (Nat.lt_succ_self _)).trans x31
     have q32:=(hb3.frozen (p:=⟨w.heap.size,2,none⟩) (Nat.lt_succ_self _)).trans x32
     clear hb3 HTK
     rcases hcase with ⟨rfl,us',os',vu',vo',hline,hun,hlu,hlo⟩ | ⟨rfl,hline⟩
     ·have HTH:=zB ((zA HNXT) us' os' hline)
      have HUN:=zB hun
      clear hline hun HBAD HNXT
      go_wp2_with fail
      refine ⟨⟨zAZ s z,mo,n + 1,rfl,rfl,by go_num,by omega,zA HB03,?_⟩,?_⟩
      ·have hmo:=zA HMO
       by_cases hzs:z < s.size
       ·right
        refine ⟨by rw [hmo]; simpa using hzs,z + 1,us',os',vu',vo',by omega,by omega,by omega,by omega,zB ?_,zB ?_,HUN⟩
        ·unfold zAZ; rw [if_pos hzs]
        ·have:=zA HTH; rw [if_pos hzs] at this; exact this
       ·left
        refine ⟨by rw [hmo]; simpa using hzs,zB ?_⟩
        have:=zA HTH
        rw [if_neg hzs] at this
        exact this.fin
      ·have hmo:=zA HMO
       have hrs:=zA HRS
       by_cases hzs:z < s.size
       ·have:mo = true:=by rw [hmo]; simpa using hzs
        subst this
        simp only [zNL]
        unfold zAZ
        rw [if_pos hzs,ZO]
        omega
       ·have:mo = false:=by rw [hmo]; simpa using hzs
        subst this
        simp only [zNL]
        omega
     ·have HI:=zB ((zA HBAD) hline)
      have HP:=zB (fun w'=>Zx (w:=w) (w':=w') (zA HI))
      clear hline HBAD HNXT
      go_wp2_with fail
      refine bodyPost_ret (v:=.tuple #[.agg #[.slice none 0 0,.slice none 0 0,.string ⟨#[]⟩],.int .i64 2,.int .i64 (n:Int)]) ?res rfl ((zA HP) _ ?_)
      case res=>simp [results,Tryz.results6,go_sem,q0,q1,q2]
      first
       | exact zA HBW3
       | exact zJ (Nat.le_refl _) [.slice none 0 0,.slice none 0 0,.string ⟨#[]⟩] 0 _ (zA HBW3)
theorem UnF.bad {s:ByteArray}:∀ (ls:List (Nat × Nat)) (n:Nat) (us:List ByteArray) (os:List OpR) {u:List ByteArray} {o:List OpR} {b:ByteArray} {c l:Int},UnF s ls n us os u o b c l -> c ≠ 0 -> o = [] /\ b = ByteArray.empty
 | [],n,us,os,_,_,_,_,_,h,_=>by
  obtain ⟨rfl,rfl,rfl,rfl,rfl⟩:=h
  exact ⟨rfl,rfl⟩
 | p :: r,n,us,os,u,o,b,c,l,h,hc=>by
  rcases h with ⟨_,rfl,rfl,rfl,rfl,rfl⟩ | ⟨_,⟨us',os',hl,h⟩ | ⟨_,rfl,rfl,rfl,rfl,rfl⟩⟩
  ·exact absurd rfl hc
  ·exact UnF.bad r _ _ _ h hc
  ·exact ⟨rfl,rfl⟩
theorem zn.bad {s:ByteArray} {u:List ByteArray} {o:List OpR} {b:ByteArray} {c l:Int} (h:zn s u o b c l) (hc:c ≠ 0):o = [] /\ b = ByteArray.empty:=by
 rcases h with ⟨_,rfl,rfl,rfl,rfl,rfl⟩ | ⟨_,h⟩
 ·exact ⟨rfl,rfl⟩
 ·exact UnF.bad _ _ _ _ h hc
theorem UnF.optx {s:ByteArray}:∀ (ls:List (Nat × Nat)) (n:Nat) (us:List ByteArray) (os:List OpR) {u:List ByteArray} {o:List OpR} {b:ByteArray} {c l:Int},(∀ x ∈ os,x.s.size <= s.size) -> UnF s ls n us os u o b c l -> ∀ x ∈ o,x.s.size <= s.size
 | [],n,us,os,_,_,_,_,_,ho,h=>by
  obtain ⟨rfl,rfl,rfl,rfl,rfl⟩:=h
  exact fun x hx=>by cases hx
 | p :: r,n,us,os,u,o,b,c,l,ho,h=>by
  rcases h with ⟨_,rfl,rfl,rfl,rfl,rfl⟩ | ⟨_,⟨us',os',hl,h⟩ | ⟨_,rfl,rfl,rfl,rfl,rfl⟩⟩
  ·exact ho
  ·refine UnF.optx r _ _ _ ?_ h
   have hz:∀ x ∈ wds (s.extract p.1 p.2),x.size <= s.size:=fun x hx=>Nat.le_trans (zCx hx) (by rw [ByteArray.size_extract]; omega)
   rcases hl with ⟨_,_,rfl⟩ | ⟨_,_,_,rfl⟩ | ⟨o',ho',_,rfl⟩
   ·exact ho
   ·exact ho
   ·intro x hx
    rcases List.mem_append.1 hx with hx | hx
    ·exact ho x hx
    ·rw [List.mem_singleton.1 hx]
     obtain ⟨k,t,l',_,⟨e,⟨_,rfl⟩ | ⟨_,rfl⟩⟩ | ⟨sd,e,_,_,rfl⟩⟩:=ho'
     ·exact hz t (by rw [e]; simp)
     ·exact hz t (by rw [e]; simp)
     ·exact hz t (by rw [e]; simp)
  ·exact fun x hx=>by cases hx
theorem zLb {s:ByteArray} {u:List ByteArray} {o:List OpR} {b:ByteArray} {c l:Int} (h:zn s u o b c l):∀ x ∈ o,x.s.size <= 20000:=by
 rcases h with ⟨_,_,rfl,_⟩ | ⟨h0,h⟩
 ·exact fun x hx=>by cases hx
 ·exact fun x hx=>Nat.le_trans (UnF.optx _ _ _ _ (fun x hx=>by cases hx) h x hx) h0
def zGZ (w:World) (A:Nat) (vu vo:Value) (b:ByteArray):Prop:=w.cell? ⟨A,0,none⟩ = some vu /\ w.cell? ⟨A,1,none⟩ = some vo /\ w.cell? ⟨A,2,none⟩ = some (.string b)
theorem zGZ.below {w w':World} {A B:Nat} {vu vo:Value} {b:ByteArray} (h:zGZ w A vu vo b) (hb:Below B w w') (hA:A < B):zGZ w' A vu vo b:=
 ⟨(hb.cell (p:=⟨A,0,none⟩) hA).trans h.1,(hb.cell (p:=⟨A,1,none⟩) hA).trans h.2.1,(hb.cell (p:=⟨A,2,none⟩) hA).trans h.2.2⟩
theorem zGZ.new (w:World) (vu vo:Value) (b:ByteArray):zGZ (w.alloc (.cells #[vu,vo,.string b] 27)) w.heap.size vu vo b:=⟨by simp [go_sem],by simp [go_sem],by simp [go_sem]⟩
theorem zOY (a:Option Addr) (cap:Nat) (l:List UInt8) (w:World) (hl:l.length <= maxLen) (hcap:l.length <= cap) (h:zLo w a l) (hm:zGW w) :
  Calls Tryz.prog 3 #[.slice a l.length cap] w fun e w'=>e = .returned (.bool true) /\ Below w.heap.size w w':=by
 by_cases hbig:1048576 < l.length
 ·have hI:(1048576:Int) < (l.length:Int):=by omega
  go_enter Tryz.func3,Tryz.ntmps3
  go_wp2
  go_ret
  exact ⟨rfl,Below.refl _ _⟩
 have hI:¬ (1048576:Int) < (l.length:Int):=by omega
 have HM:=zB hm
 have HXD:=zB (zEp a cap l w (by omega) hcap h)
 clear hm hbig h
 go_enter Tryz.func3,Tryz.ntmps3
 go_wp2_with fail
 (with_reducible refine (zA HXD).mono ?_)
 rintro e w0 ⟨⟨s,rfl,hsz⟩,hb0⟩
 have HB0:=zB hb0
 have hs:s.size <= maxLen:=by unfold maxLen; omega
 have HS1:=zB (zA9 s w0 hs)
 clear hb0 HXD
 go_wp2_with fail
 (with_reducible refine (zA HS1).mono ?_)
 rintro e w1 ⟨vu,vo,us,os,b,c,ln,rfl,hi1,ru1,ro1,hne1,hlu,hlo,hb1⟩
 obtain ⟨a1,c1,rfl⟩:=zV ru1
 obtain ⟨a2,c2,rfl⟩:∃ a c,vo = .slice a os.length c:=zV ro1
 obtain ⟨W1,hW1⟩:∃ W1,W1 = w1.alloc (.cells #[.slice a1 us.length c1,.slice a2 os.length c2,.string b] 27):=⟨_,rfl⟩
 have HW1:=zB hW1
 have hbW1:Below w1.heap.size w1 W1:=by rw [hW1]; exact zC _ _
 have HBW1:=zB ((zA HB0).trans ((hb1.trans (hbW1.mono hb1.size)).mono (zA HB0).size))
 have zW1:w1.heap.size + 1 <= W1.heap.size:=by rw [hW1]; simp
 have HR1:=zB (show zGZ W1 w1.heap.size (.slice a1 us.length c1) (.slice a2 os.length c2) b by rw [hW1]; exact zGZ.new _ _ _ _)
 have HRU:=zB (ru1.below hbW1).strs
 have HRO:=zB (ro1.below hbW1).ops
 have HIS:=zB hi1
 have HS2:=zB (zB9 s W1 hs ((zA HM).below (zA HBW1)))
 clear ru1 ro1 hne1 hb1 HS1 hW1 hbW1 hi1
 go_wp2_with fail
 rw [<- zA HW1]
 (with_reducible refine (zA HS2).mono ?_)
 rintro e w2 ⟨vu',vo',us',os',b',c',ln',rfl,hi2,ru2,ro2,hne2,hlu2,hlo2,hb2⟩
 obtain ⟨rfl,rfl,rfl,rfl,rfl⟩:=(zA HIS).one hi2
 obtain ⟨a3,c3,rfl⟩:=zV ru2
 obtain ⟨a4,c4,rfl⟩:∃ a c,vo' = .slice a os.length c:=zV ro2
 obtain ⟨W2,hW2⟩:∃ W2,W2 = w2.alloc (.cells #[.slice a3 us.length c3,.slice a4 os.length c4,.string b] 27):=⟨_,rfl⟩
 have HW2:=zB hW2
 have hbW2:Below w2.heap.size w2 W2:=by rw [hW2]; exact zC _ _
 have z2:=hb2.size
 have hb2':Below W1.heap.size W1 W2:=hb2.trans (hbW2.mono z2)
 have zW2:w2.heap.size + 1 <= W2.heap.size:=by rw [hW2]; simp
 have HBW2:=zB ((zA HBW1).trans (hb2'.mono (zA HBW1).size))
 have HR2:=zB (show zGZ W2 w2.heap.size (.slice a3 us.length c3) (.slice a4 os.length c4) b by rw [hW2]; exact zGZ.new _ _ _ _)
 have HR12:=zB ((zA HR1).below hb2' (by omega))
 have HRU1:=zB ((zA HRU).below hb2')
 have HRO1:=zB ((zA HRO).belowW hb2')
 have HRU2:=zB (ru2.below hbW2).strs
 have HRO2:=zB (ro2.below hbW2).ops
 have ecc:(c != c) = false:=by simp
 have ell:(ln != ln) = false:=by simp
 clear hi2 ru2 ro2 hne2 hb2 hb2' hW2 hbW2 HS2 HRU HRO HR1
 obtain ⟨p0,p1,p2⟩:=zA HR2
 obtain ⟨q0,q1,q2⟩:=zA HR12
 go_upto_region 8 with fail
 rw [<- zA HW2]
 by_cases hc:c = 0
 ·have hcI:(c != 0) = false:=by simpa using hc
  subst hc
  have HEQ:=zB (zCa _ _ _ _ b us os W2 (by omega) (by omega) (zA HRU2) (zA HRO2) (zA HRU1) (zA HRO1))
  obtain ⟨hu1,hu2⟩:=zDD (zA HIS)
  have hbz:=zHM (zA HIS)
  have hoz:=zLb (zA HIS)
  obtain ⟨_,hot⟩:=(zA HIS).tells
  have hol:=(zD7 (zA HIS)).1
  have HUT:=zB (fun (W:World) (hb:Below W2.heap.size W2 W)=>zH2 _ _ us os b W hu1 (by omega) ((zA HRU2).below hb) ((zA HRO2).belowW hb) (zH0 hu2) (fun i hi=>⟨hot _ (zKE hi),hoz _ (zKE hi)⟩) hbz)
  clear hu2 hoz hot
  go_wp2_with fail
  (with_reducible refine (zA HEQ).mono ?_)
  rintro e w3 ⟨rfl,hb3⟩
  have z3:=hb3.size
  have HB3:=zB hb3
  have HXT:=zB ((zA HUT) w3 hb3)
  obtain ⟨x0,x1,x2⟩:=(zA HR2).below hb3 (by omega)
  clear HEQ hb3 p0 p1 p2 q0 q1 q2 HUT
  go_wp2_with fail
  (with_reducible refine (zA HXT).mono ?_)
  rintro e w4 ⟨rfl,hb4⟩
  have HB4:=zB ((zA HB3).trans (hb4.mono (zA HB3).size))
  obtain ⟨tx,htx⟩:∃ tx,tx = zDk us os b:=⟨_,rfl⟩
  rw [<- htx]
  have HTX:=zB htx
  clear HXT hb4 x0 x1 x2 htx
  by_cases ht:20000 < tx.size
  ·have htI:(20000:Int) < (tx.size:Int):=by omega
   go_wp2_with fail
   go_ret
   exact ⟨rfl,(zA HBW2).trans ((zA HB4).mono (zA HBW2).size)⟩
  ·have htI:¬ (20000:Int) < (tx.size:Int):=by omega
   have HIA:=zB (show zn tx us os b 0 0 by rw [zA HTX]; exact zJb (zA HIS) (by rw [<- zA HTX]; omega))
   have HBW4:=zB ((zA HBW2).trans ((zA HB4).mono (zA HBW2).size))
   have HS3:=zB (zB9 tx w4 (by unfold maxLen; omega) ((zA HM).below (zA HBW4)))
   have z4:=(zA HB4).size
   go_wp2_with fail
   (with_reducible refine (zA HS3).mono ?_)
   rintro e w5 ⟨vu',vo',us',os',b',c',ln',rfl,hi5,ru5,ro5,hne5,hlu5,hlo5,hb5⟩
   obtain ⟨rfl,rfl,rfl,rfl,rfl⟩:=(zA HIA).one hi5
   obtain ⟨a5,c5,rfl⟩:=zV ru5
   obtain ⟨a6,c6,rfl⟩:∃ a c,vo' = .slice a os.length c:=zV ro5
   obtain ⟨W5,hW5⟩:∃ W5,W5 = w5.alloc (.cells #[.slice a5 us.length c5,.slice a6 os.length c6,.string b] 27):=⟨_,rfl⟩
   have HW5:=zB hW5
   have hbW5:Below w5.heap.size w5 W5:=by rw [hW5]; exact zC _ _
   have hb5':Below w4.heap.size w4 W5:=hb5.trans (hbW5.mono hb5.size)
   have HBW5:=zB ((zA HBW4).trans (hb5'.mono (zA HBW4).size))
   have HB25:=zB ((zA HB4).trans (hb5'.mono (zA HB4).size))
   have z5:=hb5.size
   obtain ⟨y0,y1,y2⟩:zGZ W5 w5.heap.size (.slice a5 us.length c5) (.slice a6 os.length c6) b:=by rw [hW5]; exact zGZ.new _ _ _ _
   obtain ⟨q0,q1,q2⟩:=(zA HR12).below (zA HB25) (by omega)
   have HEQ:=zB (zCa _ _ _ _ b us os W5 (by omega) (by omega) (ru5.below hbW5).strs (ro5.below hbW5).ops ((zA HRU1).below (zA HB25)) ((zA HRO1).belowW (zA HB25)))
   clear hi5 ru5 ro5 hne5 hb5 hb5' hW5 hbW5 HS3
   go_upto_region 16 with fail
   rw [<- zA HW5]
   go_wp2_with fail
   (with_reducible refine (zA HEQ).mono ?_)
   rintro e w6 ⟨rfl,hb6⟩
   have HB6:=zB ((zA HBW5).trans (hb6.mono (zA HBW5).size))
   clear hb6 HEQ
   go_wp2_with fail
   go_ret
   exact ⟨rfl,zA HB6⟩
 ·have hcI:(c != 0) = true:=by simpa using hc
  obtain ⟨ho,hbe⟩:=(zA HIS).bad hc
  subst ho hbe
  clear hc
  go_wp2_with fail
  go_ret
  exact ⟨rfl,zA HBW2⟩
end Go.Proofs.YtgiemobdmbijiaaGreatDoor
namespace Go.Proofs.YtgiemobdmbijiaaGreatDoor
set_option linter.unusedVariables false
set_option maxHeartbeats 16000000
set_option maxRecDepth 100000
open Go.ChangeShapes Go.WideShapes Go.ChangeAt Go.RowKit Go.Joins
theorem ByP.own:ownKnob Tryz.prog.godebug = none:=by kernel_rfl
theorem ByP.laidOut:laidOutB Tryz.prog = true:=by kernel_rfl
theorem ByP.cellsB:Tryz.prog.cellsOf 5 = 1:=by kernel_rfl
theorem zKO {W:World} {x:Addr} {v:Value} (h:W.cell? (x.add 0) = some v):x = ⟨x.block,x.off,none⟩:=by
 obtain ⟨b,off,spot⟩:=x
 have hs:spot = none:=by
  have:=World.cell?_spot h
  simpa [Addr.add] using this
 subst hs
 rfl
theorem zGk (zs:List Int) (len i:Nat) (hi:i < len) (hz:len <= zs.length):((zs.take len).map fun n=>UInt8.ofNat n.toNat).getD i 0 = UInt8.ofNat (zs.getD i 0).toNat:=by
 have h1:i < zs.length:=by omega
 simp [List.getD,hi,h1]
theorem zJV {H:Type} {enc:TypeId × Value -> H} {W:World} {held:Bool} {fuel:Nat} {cs:List Value} {x:DataW H × List MemPlace} (h:DataW.trod enc Tryz.prog W 0 (fun _=>true) held fuel 22 cs = some x) :
  ∃ (a:Option Addr) (cap:Nat) (l:List UInt8),cs = [.slice a l.length cap] /\ l.length <= maxLen /\ l.length <= cap /\ zLo W a l:=by
 rcases open_ints Tryz.underlying22 Tryz.underlying5 ByP.cellsB h with ⟨rfl,_⟩ | ⟨a,len,cap,zs,rfl,_,hl,hm,hz,_,hcell,hwz⟩
 ·exact ⟨none,0,[],rfl,Nat.zero_le _,Nat.zero_le _,Or.inl rfl⟩
 simp only [if_true] at hz
 have hll:((zs.take len).map fun n=>UInt8.ofNat n.toNat).length = len:=by simp; omega
 refine ⟨some a,cap,(zs.take len).map fun n=>UInt8.ofNat n.toNat,by rw [hll],by rw [hll]; omega,by rw [hll]; exact hl,?_⟩
 by_cases h0:len = 0
 ·exact Or.inl (by rw [hll]; exact h0)
 ·have c0:=hcell 0 (by omega)
  have hs:=zKO c0
  refine Or.inr ⟨a.block,a.off,by rw [<- hs],?_,fun i hi=>?_⟩
  ·have:=block_lt_of_cell c0
   simpa [Addr.add] using this
  ·rw [hll] at hi
   have hc:=hcell i (by omega)
   rw [hs,Addr.add_mid] at hc
   have hb:=range_u8 hwz i
   have e:zs.getD i 0 = zs[i]?.getD 0:=rfl
   rw [hc,zGk zs len i hi (by omega),e]
   obtain ⟨z,hz⟩:∃ z:Int,z = zs[i]?.getD 0:=⟨_,rfl⟩
   rw [<- hz] at hb ⊢
   congr 2
   have:(UInt8.ofNat z.toNat).toNat = z.toNat:=by
    rw [UInt8.toNat_ofNat']
    omega
   rw [this]
   omega
end Go.Proofs.YtgiemobdmbijiaaGreatDoor
namespace Go.Proofs.YtgiemobdmbijiaaGreatDoor
set_option linter.unusedVariables false
set_option maxHeartbeats 16000000
set_option maxRecDepth 100000
open Go Go.ChangeShapes Go.WideShapes Go.ChangeAt Go.RowKit Go.Joins
theorem zOZ {W:World} (h:W.ShapedOpen Tryz.prog):zGW W:=
 cell_of_shapedOpen_int (g:=0) (t:=3) (zero:=#[.int .i64 0]) h (of_decide_eq_true (by kernel_rfl)) (by kernel_rfl) rfl (by kernel_rfl) (by kernel_rfl) Tryz.underlying3
theorem UfP.lifted (os:Os) (started:os.Started) (H:Type) (enc:TypeId × Value -> H) :
  ReturnsInHanded {} Tryz.checked os 3 .any (fun w args=>(Rows.fnUnitSpec.pre enc Tryz.prog Tryz.f3 Rows.fnUnitRow.domain false w args /\ laidMetH Tryz.prog Rows.fnUnitRow.laid w) /\ sizedMet enc Tryz.prog Tryz.f3 (OpenSpec.ofChange Rows.fnUnitSpec) false w args)
   (Rows.fnUnitSpec.post enc Tryz.prog Tryz.f3 false true false false):=by
 refine returnsInHanded_of_calls (C:=Tryz.checked) ByP.own started (by kernel_rfl)
  (ChangeSpec.witness_shaped (enc:=enc) (C:=Tryz.checked) (os:=os) (X:=fun w _=>laidMetH Tryz.prog Rows.fnUnitRow.laid w) false (World.laidAll Tryz.prog os Rows.fnUnitRow.laid) #[.slice none 0 0] 8 (World.laidAll_os _ _ _)
   (World.shaped_of_ZipB (by kernel_rfl) (by kernel_rfl)) (by kernel_rfl) (by kernel_rfl) (by kernel_rfl)
   (by rw [MakeChecks.laidMetH_plain _ _ _ (by kernel_rfl)]; exact laidMet_laidAll _ (by kernel_rfl) (by kernel_rfl))) ?_
 intro w tape i _ hsh _ hok hpre _
 obtain ⟨_,_,_,fn',hfn',_,_,_,_,hval0⟩:=hok
 obtain rfl:fn' = Tryz.f3:=Option.some.inj (hfn'.symm.trans Tryz.func3)
 obtain ⟨⟨⟨ds,gs,before,hw,_⟩,_⟩,_⟩:=hpre
 have hW:=DataW.Whole.of_heap (w':=w.forCall tape i) (by rfl) hw
 suffices hc:Calls Tryz.prog 3 i.args (w.forCall tape i) fun e W'=>∃ v,e = .returned v /\ Rows.fnUnitSpec.post enc Tryz.prog Tryz.f3 false true false false (w.forCall tape i) i.args v W' from
  hc.mono fun e W' ⟨v,he,hp⟩=>by
   subst he
   exact ChangeSpec.post_blind hp
 generalize w.forCall tape i = W at *
 generalize i.args = args at *
 have hval:∀ (j:Nat) t v,Tryz.f3.params[j]? = some t -> args[j]? = some v -> Value.okWide Tryz.prog W .any w.heap.size t v:=hval0
 have hW':=hW
 obtain ⟨p,q,hA0,hV,rfl,hfz,hnd⟩:=hW
 have hA:DataW.TrodAll enc Tryz.prog W 0 (fun _=>true) true Tryz.f3.params.toList args.toList ds p:=hA0
 rw [Tryz.params3] at hA hval
 obtain ⟨v0,vs0,d0,ds0,p0,q0,hargs,rfl,rfl,h0,r0⟩:=trodAll_cons hA
 obtain ⟨rfl,rfl,rfl⟩:=trodAll_nil r0
 obtain rfl:args = #[v0]:=by cases args; simp_all
 obtain ⟨rfl,rfl⟩:=trodVars_none hV
 have k0:=h0
 have lt0:∀ x ∈ p0,x.block < W.heap.size:=by obtain ⟨m,hm⟩:=k0; exact DataW.trod_lt m _ _ _ hm
 obtain ⟨a,len,cap,rfl⟩:=okWide_slice Tryz.underlying22 (hval 0 22 v0 rfl rfl)
 obtain ⟨a',cap',l,e,e1,e2,e3⟩:∃ (a':Option Addr) (cap':Nat) (l:List UInt8),[Value.slice a len cap] = [.slice a' l.length cap'] /\ l.length <= maxLen /\ l.length <= cap' /\ zLo W a' l:=by
  obtain ⟨fuel,hf⟩:=h0
  exact zJV hf
 simp at e
 obtain ⟨rfl,rfl,rfl⟩:=e
 clear hA0 hval0
 refine (zOY a cap l W e1 e2 e3 (zOZ hsh)).mono fun e W' ⟨he,bel⟩=>?_
 subst he
 exact ⟨_,rfl,_,_,_,[],_,[],hW',trodAll_mk1 (shut_bool Tryz.underlying4 _),(trodAll_cons_mk (Below.trod ByP.laidOut (by kernel_rfl) (of_decide_eq_true (by kernel_rfl)) k0 bel lt0) trodAll_mk0),rfl,bel.frame _,fun h=>by cases h⟩
theorem zNM:Rows.FnUnitSaid:=
 OpenClaim.holds_of_wide 3 Tryz.f3 rfl rfl rfl rfl rfl rfl rfl ⟨rfl,rfl,rfl,rfl,rfl⟩ rfl rfl rfl rfl rfl (by as_aux_lemma=>kernel_rfl) Tryz.func3 (by as_aux_lemma=>kernel_rfl)
  (of_decide_eq_true (by as_aux_lemma=>kernel_rfl)) (by unfold Func.isWrapper; first | (rw [if_pos (by as_aux_lemma=>decide +kernel)]; kernel_rfl) | (rw [if_neg (by as_aux_lemma=>decide +kernel)]; exact ⟨rfl,rfl⟩))
  (fun os started H enc _=>UfP.lifted os started H enc)
theorem unit_holds:Rows.FnUnitCardSaid:=
 Claim7.holds_tied_plain_at .later [] [.data,.data,.data,.data,.sentinel,.sentinel,.pinned] true Rows.fnUnitCard.stood.harness true
  zNM (fun _ h=>by cases h) (by as_aux_lemma=>kernel_rfl) (fun _ h=>by cases h) fnUnit_row_tie rfl ⟨rfl,rfl⟩ (by as_aux_lemma=>kernel_rfl) rfl
  (fun f fn hf hfn=>by
   obtain rfl:f = 3:=Option.some.inj ((show Tryz.prog.funcNamed "loop.example/s0059/laws.FnUnit" = some 3 by kernel_rfl).symm.trans hf) |>.symm
   obtain rfl:fn = Tryz.f3:=(Option.some.inj (Tryz.func3.symm.trans hfn)).symm
   exact ⟨by kernel_rfl,fun j t ht=>by
    rw [Tryz.params3] at ht
    have hm:t ∈ [22]:=by simpa using Array.mem_of_getElem? ht
    have hall:([22].all fun u=>!Tryz.prog.wantsStandIn u) = true:=by kernel_rfl
    exact (show Tryz.prog.wantsStandIn t = false by simpa using List.all_eq_true.1 hall t hm)⟩)
  (by as_aux_lemma=>kernel_rfl)
#print axioms unit_holds
end Go.Proofs.YtgiemobdmbijiaaGreatDoor
