import Derived.Deep.AppendLies
import Derived.Deep.RegionHeldLaw
import Derived.WalkMore
import Derived.Deep.LoopGhost
import Derived.Test.YtgiemobdmbijiaaGreatDoorN01
import Derived.Test.YtgiemobdmbijiaaGreatDoorN03
import Derived.Test.YtgiemobdmbijiaaGreatDoorN06
import Derived.Test.YtgiemobdmbijiaaGreatDoorN11
import Derived.Test.YtgiemobdmbijiaaGreatDoorN12
import Derived.Test.YtgiemobdmbijiaaGreatDoorN31
namespace Go.Proofs.YtgiemobdmbijiaaGreatDoor
set_option maxHeartbeats 16000000
set_option maxRecDepth 100000
open Go.RowKit
def zJE (xs:List OpR):Prop:=∀ j,j < xs.length -> ((atO xs j).k = 1 \/ (atO xs j).k = 2 \/ (atO xs j).k = 3)
theorem zMt {xs:List OpR} (h:zDR xs xs.length):zJE xs:=fun j hj=>by
 obtain ⟨_,h⟩:=zIE _ _ _ _ (h j hj)
 omega
theorem zLU {xs:List OpR} {t:ByteArray} (h:zJE xs):opT xs t ↔ ((∃ j,j < xs.length /\ (atO xs j).s = t /\ (atO xs j).k = 1) \/ (∃ j,j < xs.length /\ (atO xs j).s = t /\ (atO xs j).k = 2) \/ (∃ j,j < xs.length /\ (atO xs j).s = t /\ (atO xs j).k = 3)):=by
 constructor
 ·rintro ⟨j,hj,e⟩
  rcases h j hj with k | k | k
  ·exact Or.inl ⟨j,hj,e,k⟩
  ·exact Or.inr (Or.inl ⟨j,hj,e,k⟩)
  ·exact Or.inr (Or.inr ⟨j,hj,e,k⟩)
 ·rintro (⟨j,hj,e,_⟩ | ⟨j,hj,e,_⟩ | ⟨j,hj,e,_⟩)
  ·exact ⟨j,hj,e⟩
  ·exact ⟨j,hj,e⟩
  ·exact ⟨j,hj,e⟩
theorem zKG (b off cap:Nat) (xs:List OpR) (t:ByteArray) (w:World) (hm:xs.length <= 1048576) (hw:Ops w b off xs) (hB:b < w.heap.size) (hk:zJE xs) :
  Calls Tryz.prog 128 #[.agg #[.slice (some ⟨b,off,none⟩) xs.length cap],.string t] w fun e w'=>zHb e (opT xs t) /\ Below w.heap.size w w':=by
 have HK:=zB (zLU (t:=t) hk)
 have HW:=zB hw
 clear hk hw
 go_enter Tryz.func128,Tryz.ntmps128
 go_wp2_with fail
 refine (zAi b off cap xs t 1 _ hm ((zA HW).below (zC _ _) hB) (by simp; omega)).mono ?_
 rintro e w1 ⟨⟨r1,rfl,hr1⟩,hb1⟩
 have z1:w.heap.size < w1.heap.size:=by have:=hb1.size; simp at this; omega
 have c1:w1.cell? ⟨w.heap.size,0,none⟩ = some (.slice (some ⟨b,off,none⟩) xs.length cap):=by rw [hb1.cell (p:=⟨w.heap.size,0,none⟩) (by simp)]; simp [go_sem]
 have bel1:Below w.heap.size w w1:=(zC _ _).trans (hb1.mono (by simp))
 have H1:=zB hr1
 clear hr1 hb1
 by_cases p1:0 <= r1
 ·go_wp2_with fail
  go_ret
  exact ⟨⟨true,rfl,⟨fun _=>(zA HK).2 (Or.inl ((zA H1).1 p1)),fun _=>rfl⟩⟩,bel1⟩
 go_wp2_with fail
 refine (zAi b off cap xs t 2 _ hm ((zA HW).below bel1 hB) (by omega)).mono ?_
 rintro e w2 ⟨⟨r2,rfl,hr2⟩,hb2⟩
 have c2:w2.cell? ⟨w.heap.size,0,none⟩ = some (.slice (some ⟨b,off,none⟩) xs.length cap):=(hb2.cell (p:=⟨w.heap.size,0,none⟩) z1).trans c1
 have bel2:=bel1.trans (hb2.mono bel1.size)
 have H2:=zB hr2
 clear hr2 hb2 c1
 by_cases p2:0 <= r2
 ·go_wp2_with fail
  go_ret
  exact ⟨⟨true,rfl,⟨fun _=>(zA HK).2 (Or.inr (Or.inl ((zA H2).1 p2))),fun _=>rfl⟩⟩,bel2⟩
 go_wp2_with fail
 refine (zAi b off cap xs t 3 _ hm ((zA HW).below bel2 hB) (by have:=bel2.size; omega)).mono ?_
 rintro e w3 ⟨⟨r3,rfl,hr3⟩,hb3⟩
 have bel3:=bel2.trans (hb3.mono bel2.size)
 have H3:=zB hr3
 clear hr3 hb3
 go_wp2_with fail
 go_ret
 refine ⟨⟨decide (0 <= r1) || decide (0 <= r2) || decide (0 <= r3),rfl,?_⟩,bel3⟩
 unfold zIX
 rw [zA HK,<- zA H1,<- zA H2,<- zA H3]
 simp [or_assoc]
theorem zGO (b off cap:Nat) (xs:List OpR) (t:ByteArray) (w:World) (hm:xs.length <= 1048576) (hw:Ops w b off xs) (hB:b < w.heap.size) (hk:zJE xs) (hs:t.size <= maxLen) :
  Calls Tryz.prog 113 #[.agg #[.slice (some ⟨b,off,none⟩) xs.length cap],.string t] w fun e w'=>e = .returned (.int .i64 (ZR xs t:Int)) /\ Below w.heap.size w w':=by
 have HK:=zB hk
 have HW:=zB hw
 clear hk hw
 go_enter Tryz.func113,Tryz.ntmps113
 go_wp2_with fail
 refine (zAB t _ hs).mono ?_
 rintro e w1 ⟨⟨v1,rfl,hv1⟩,rfl⟩
 have V1:=zB hv1
 clear hv1
 cases v1
 case true=>
  go_wp2_with fail
  go_ret
  exact ⟨zG (by have:=(zA V1).1 rfl; simp [ZR,Zb,this]),by first | exact zC _ _ | exact Below.refl _ _⟩
 have n1:=zB (show ¬ zDS t from fun h=>Bool.false_ne_true ((zA V1).2 h))
 clear V1
 go_wp2_with fail
 refine (zCE t _ hs).mono ?_
 rintro e w1 ⟨⟨v2,rfl,hv2⟩,rfl⟩
 have V2:=zB hv2
 clear hv2
 cases v2
 case true=>
  go_wp2_with fail
  go_ret
  exact ⟨zG (by have:=(zA V2).1 rfl; have:=zA n1; simp [ZR,Zb,Zg, *]),by first | exact zC _ _ | exact Below.refl _ _⟩
 have n2:=zB (show ¬ zBY t from fun h=>Bool.false_ne_true ((zA V2).2 h))
 clear V2
 by_cases e4:t = ⟨#[40]⟩
 ·subst e4
  go_wp2_with fail
  go_ret
  exact ⟨zG (by have:=zA n1; have:=zA n2; simp [ZR,Zb,Zg, *]),by first | exact zC _ _ | exact Below.refl _ _⟩
 by_cases e5:t = ⟨#[41]⟩
 ·subst e5
  go_wp2_with fail
  go_ret
  exact ⟨zG (by have:=zA n1; have:=zA n2; simp [ZR,Zb,Zg, *]),by first | exact zC _ _ | exact Below.refl _ _⟩
 have q4:(t.toList == [40]) = false:=by
  rw [beq_eq_false_iff_ne]
  exact fun h=>e4 (zB2 (h.trans (by rw [ByteArray.toList_eq])))
 have q5:(t.toList == [41]) = false:=by
  rw [beq_eq_false_iff_ne]
  exact fun h=>e5 (zB2 (h.trans (by rw [ByteArray.toList_eq])))
 have E4:=zB e4
 have E5:=zB e5
 clear e4 e5
 go_wp2_with fail
 refine (zKG b off cap xs t _ hm ((zA HW).below (zC _ _) hB) (by simp; omega) (zA HK)).mono ?_
 rintro e w2 ⟨⟨v3,rfl,hv3⟩,hb2⟩
 have V3:=zB hv3
 clear hv3
 have bel2:Below w.heap.size w w2:=(zC _ _).trans (hb2.mono (by simp))
 cases v3
 ·go_wp2_with fail
  go_ret
  refine ⟨zG ?_,bel2⟩
  have n3:¬ opT xs t:=fun h=>Bool.false_ne_true ((zA V3).2 h)
  simp [ZR,Zb,Zg,zC4,zBm,zA n1,zA n2,zA E4,zA E5,n3]
 ·go_wp2_with fail
  go_ret
  refine ⟨zG ?_,bel2⟩
  have n3:opT xs t:=(zA V3).1 rfl
  simp [ZR,Zb,Zg,zC4,zBm,zA n1,zA n2,zA E4,zA E5,n3]
theorem zJF (s:ByteArray) (i:Nat) (w:World) (hs:s.size <= 1048576) (hi:i < s.size) :
  Calls Tryz.prog 127 #[.string s,.int .i64 (i:Int)] w fun e w'=>(∃ r:Nat,e = .returned (.int .i64 (r:Int)) /\ zKX s i r) /\ w' = w:=by
 have hbi:=zB (ZH hi)
 cases hsg:sgB s[i]
 ·go_enter Tryz.func127,Tryz.ntmps127
  go_wp2_with (go_at_call 77; refine (ZX _ _).mono ?_; rintro e w' ⟨rfl,rfl⟩)
  have hs6:=zB (show cls (bt s i) ≠ 6 from fun h=>by
   rw [ZH hi,zHT,decide_eq_false_iff_not] at hsg
   exact hsg h)
  go_loop [5] (fun n=>∃ k:Nat,1 <= k /\ i + k <= s.size /\ n = .int .i64 (k:Int) /\ Hid (k = 1 \/ ((cls (bt s i) = 2 \/ cls (bt s i) = 3) /\ ∀ j,j < k -> (cls (bt s (i + j)) = 2 \/ cls (bt s (i + j)) = 3)))) (fun n=>s.size - (intOf n).toNat)
  case atStart=>exact ⟨1,Nat.le_refl _,by omega,rfl,zB (Or.inl rfl)⟩
  case round=>
   obtain ⟨k,hk1,hk,rfl,hn⟩:=hrel
   by_cases hlt:i + k < s.size
   ·have GO:=zB (show ∀ (_:cls s[i] = 2 \/ cls s[i] = 3) (_:cls s[i + k] = 2 \/ cls s[i + k] = 3),(k + 1 = 1 \/ ((cls (bt s i) = 2 \/ cls (bt s i) = 3) /\ ∀ j,j < k + 1 -> (cls (bt s (i + j)) = 2 \/ cls (bt s (i + j)) = 3))) from fun h1 h2=>by
     rw [ZH hi] at h1
     rw [ZH hlt] at h2
     refine Or.inr ⟨h1,fun j hj=>?_⟩
     by_cases e:j = k
     ·subst e; exact h2
     ·rcases zA hn with x | x
      ·have:j = 0:=by omega
       subst this
       exact h1
      ·exact x.2 j (by omega))
    have STOP:=zB (show ∀ (_:¬ ((cls s[i] = 2 \/ cls s[i] = 3) /\ (cls s[i + k] = 2 \/ cls s[i + k] = 3))),zKX s i k from fun h=>by
     rw [ZH hi,ZH hlt] at h
     have h6:=zA hs6
     refine ⟨hk1,hk,Or.inr ?_⟩
     by_cases ha:cls (bt s i) = 2 \/ cls (bt s i) = 3
     ·refine Or.inl ⟨ha,fun j hj=>?_,fun _ hx=>h ⟨ha,hx⟩⟩
      rcases zA hn with x | x
      ·have:j = 0:=by omega
       subst this
       exact ha
      ·exact x.2 j hj
     ·refine Or.inr ⟨⟨h6,by omega,by omega⟩,?_⟩
      rcases zA hn with x | x
      ·exact x
      ·exact absurd x.1 ha)
    clear hn
    go_wp2_with (first | (go_at_call 75; refine (zAy _ _).mono ?_; rintro e w' ⟨rfl,rfl⟩) | (go_at_call 62; refine (zBI _ _).mono ?_; rintro e w' ⟨rfl,rfl⟩))
    all_goals
     first
      | (
       refine ⟨⟨k + 1,?_,?_,?_,zB ((zA GO) ?_ ?_)⟩,?_⟩
       ·omega
       ·omega
       ·go_num
       ·simp [*]
       ·simp [*]
       ·simp [intOf]; omega)
      | (
       go_ret
       refine ⟨⟨k,rfl,(zA STOP) ?_⟩,rfl⟩
       simp [*])
   ·have STOP:=zB (show zKX s i k from by
     have h6:=zA hs6
     refine ⟨hk1,hk,Or.inr ?_⟩
     by_cases ha:cls (bt s i) = 2 \/ cls (bt s i) = 3
     ·refine Or.inl ⟨ha,fun j hj=>?_,fun hx=>absurd hx hlt⟩
      rcases zA hn with x | x
      ·have:j = 0:=by omega
       subst this
       exact ha
      ·exact x.2 j hj
     ·refine Or.inr ⟨⟨h6,by omega,by omega⟩,?_⟩
      rcases zA hn with x | x
      ·exact x
      ·exact absurd x.1 ha)
    go_wp2
    go_ret
    exact ⟨⟨k,rfl,zA STOP⟩,rfl⟩
 ·have hs6:=zB (show cls (bt s i) = 6 by
   rw [ZH hi,zHT] at hsg
   simpa using hsg)
  by_cases h16:s.size - i < 16
  ·go_enter Tryz.func127,Tryz.ntmps127
   go_wp2_with (go_at_call 77; refine (ZX _ _).mono ?_; rintro e w' ⟨rfl,rfl⟩)
   go_ret
   exact ⟨⟨s.size - i,zG (by omega),⟨by omega,by omega,Or.inl ⟨zA hs6,by omega,Or.inr (by omega)⟩⟩⟩,rfl⟩
  ·go_enter Tryz.func127,Tryz.ntmps127
   go_wp2_with (go_at_call 77; refine (ZX _ _).mono ?_; rintro e w' ⟨rfl,rfl⟩)
   go_ret
   exact ⟨⟨16,rfl,⟨by omega,by omega,Or.inl ⟨zA hs6,by omega,Or.inl rfl⟩⟩⟩,rfl⟩
theorem zGg (b off cap:Nat) (xs:List OpR) (s:ByteArray) (i:Nat) (w:World) (hm:xs.length <= 1048576) (hw:Ops w b off xs) (hB:b < w.heap.size) (hk:zJE xs) (hs:s.size <= 1048576) (hi:i < s.size) :
  Calls Tryz.prog 112 #[.agg #[.slice (some ⟨b,off,none⟩) xs.length cap],.string s,.int .i64 (i:Int)] w fun e w'=>(∃ r:Nat,e = .returned (.int .i64 (r:Int)) /\ zKY xs s i r) /\ Below w.heap.size w w':=by
 have HK:=zB hk
 have HW:=zB hw
 clear hk hw
 go_enter Tryz.func112,Tryz.ntmps112
 go_wp2_with fail
 refine (zJF s i _ hs hi).mono ?_
 rintro e w1 ⟨⟨m,rfl,hm1⟩,rfl⟩
 have HR:=zB hm1
 have hms:i + m <= s.size:=hm1.2.1
 have hm0:1 <= m:=hm1.1
 clear hm1
 go_wp2_with fail
 go_loopw [7] (fun n wr=>∃ k:Nat,1 <= k /\ k <= m /\ n = .int .i64 (k:Int) /\ Hid (∀ q,k < q -> q <= m -> ZR xs (sub s i q) = 6) /\ Below (w.heap.size + 1) (w.alloc (.cells #[.slice (some ⟨b,off,none⟩) xs.length cap] 55)) wr) (fun n _=>(intOf n).toNat)
 case atStart=>exact ⟨m,hm0,Nat.le_refl _,rfl,zB (fun q h1 h2=>by omega),Below.refl _ _⟩
 case round=>
  obtain ⟨k,hk1,hkm,rfl,hn,hbel⟩:=hrel
  have hbw:Below w.heap.size w wr:=(zC _ _).trans (hbel.mono (by omega))
  have zw:w.heap.size < wr.heap.size:=by have:=hbel.size; simp at this; omega
  have c0:wr.cell? ⟨w.heap.size,0,none⟩ = some (.slice (some ⟨b,off,none⟩) xs.length cap):=by
   rw [hbel.cell (p:=⟨w.heap.size,0,none⟩) (show w.heap.size < _ by omega)]; simp [go_sem]
  have zb:b < wr.heap.size:=by omega
  by_cases hlt:1 < k
  ·have hltI:(1:Int) < (k:Int):=by omega
   have hik:i + k <= s.size:=by omega
   have hwr:IntKind.i64.wrap ((i:Int) + (k:Int)) = (i:Int) + (k:Int):=by rw [IntKind.wrap_i64]; omega
   have hs1:(i:Int) <= (i:Int) + (k:Int):=by omega
   have hs2:(i:Int) + (k:Int) <= (s.size:Int):=by omega
   have hs3:(0:Int) <= (i:Int) + (k:Int):=by omega
   have htn:((i:Int) + (k:Int)).toNat = i + k:=by omega
   go_wp2_with fail
   go_region_held (fun w'=>w'.cell? ⟨w.heap.size,0,none⟩ = some (.slice (some ⟨b,off,none⟩) xs.length cap)) (go_keep)
    (first | (go_at_call 113; refine (zGO b off cap xs (sub s i k) _ hm ((zA HW).below hbw.drew hB) zb (zA HK) (by rw [zBG hik]; unfold maxLen; omega)).mono ?_; rintro e w2 ⟨rfl,hb2⟩; have c2:=(hb2.cell (p:=⟨w.heap.size,0,none⟩) zw).trans (show wr.drew.cell? ⟨w.heap.size,0,none⟩ = _ from c0)))
   have hbel2:=hbel.drew.trans (hb2.mono zw)
   have hbw2:Below w.heap.size w w2:=(zC _ _).trans (hbel2.mono (by omega))
   by_cases h6:ZR xs (sub s i k) = 6
   ·have h6':((ZR xs (sub s i k):Int) != 6) = false:=by simp [h6]
    have H6:=zB h6
    clear h6
    go_wp2
    refine ⟨⟨k - 1,by omega,by omega,?_,zB (fun q h1 h2=>?_),hbel2⟩,?_⟩
    ·first | (go_num; done) | (congr 1; omega)
    ·by_cases e:q = k
     ·subst e; exact zA H6
     ·exact (zA hn) q (by omega) h2
    ·simp [intOf]; omega
   ·have h6':((ZR xs (sub s i k):Int) != 6) = true:=by simp; omega
    have H6:=zB h6
    clear h6
    go_wp2
    go_ret
    exact ⟨⟨k,rfl,⟨hk1,Or.inr (zA H6),m,zA HR,hkm,zA hn⟩⟩,hbw2⟩
  ·have hk1':k = 1:=by omega
   subst hk1'
   go_wp2
   go_ret
   exact ⟨⟨1,rfl,⟨Nat.le_refl _,Or.inl rfl,m,zA HR,hkm,zA hn⟩⟩,hbw⟩
end Go.Proofs.YtgiemobdmbijiaaGreatDoor
namespace Go.Proofs.YtgiemobdmbijiaaGreatDoor
set_option maxHeartbeats 16000000
set_option maxRecDepth 100000
open Go.RowKit Go.Maps
end Go.Proofs.YtgiemobdmbijiaaGreatDoor
namespace Go.Proofs.YtgiemobdmbijiaaGreatDoor
set_option linter.unusedSimpArgs false
set_option maxHeartbeats 16000000
set_option maxRecDepth 100000
open Go.RowKit Go.Maps
end Go.Proofs.YtgiemobdmbijiaaGreatDoor
namespace Go.Proofs.YtgiemobdmbijiaaGreatDoor
set_option maxHeartbeats 16000000
set_option maxRecDepth 100000
open Go.RowKit Go.Maps
end Go.Proofs.YtgiemobdmbijiaaGreatDoor
namespace Go.Proofs.YtgiemobdmbijiaaGreatDoor
set_option linter.unusedSimpArgs false
set_option maxHeartbeats 16000000
set_option maxRecDepth 100000
open Go.RowKit Go.Maps
end Go.Proofs.YtgiemobdmbijiaaGreatDoor
namespace Go.Proofs.YtgiemobdmbijiaaGreatDoor
set_option maxHeartbeats 16000000
set_option maxRecDepth 100000
open Go.RowKit
theorem zH4 {xs:List OpR} (h:zZ xs 0):zDR xs xs.length:=by
 rcases h with ⟨h,_⟩ | ⟨_,⟨h,_⟩ | ⟨h,_⟩⟩
 ·exact absurd h (by decide)
 ·exact absurd h (by decide)
 ·exact h
theorem zLV {w:World} {base e size g n cap:Nat} {xs:List Value} (h:w.ownsRow base e size (.slice (some ⟨g,0,none⟩) n cap) n xs):n <= cap /\ cap <= maxLen:=by
 obtain ⟨_,⟨h,_⟩ | ⟨g',cap',cur,h,_,_,h1,h2,_⟩⟩:=h
 ·cases h
 ·injection h with _ _ h
  subst h
  exact ⟨h1,h2⟩
theorem zH5 (b off cap:Nat) (xs:List OpR) (s:ByteArray) (w:World) (hm:xs.length <= 1048576) (hw:Ops w b off xs) (hsz:Zs xs) (hB:b < w.heap.size) (hs:s.size <= maxLen) :
  Calls Tryz.prog 84 #[.agg #[.slice (some ⟨b,off,none⟩) xs.length cap],.string s] w fun e w'=>(∃ (g c:Nat) (us:List zT) (v:Bool),e = .returned (.tuple #[.slice (some ⟨g,0,none⟩) us.length c,.bool v]) /\ (w.heap.size <= g /\ us.length <= c /\ c <= maxLen) /\ zKW w' g us us.length /\ zPY xs (zZ xs 0) s us v) /\ Below w.heap.size w w':=by
 unfold maxLen at hs
 have HW:=zB hw
 have HS:=zB hsz
 clear hw hsz
 go_enter Tryz.func84,Tryz.ntmps84
 go_wp2_with fail
 refine (ZU b off cap xs _ hm ((zA HW).below ((zC _ _).alloc (by simp) _) hB) (zA HS) (by simp; omega)).mono ?_
 rintro e w1 ⟨⟨c,rfl,hc⟩,hb1⟩
 have HC:=zB hc
 have z1:w.heap.size + 2 <= w1.heap.size:=by have:=hb1.size; simp at this; omega
 have bel1:Below w.heap.size w w1:=((zC _ _).alloc (by simp) _).trans (hb1.mono (by simp; omega))
 have c1:w1.cell? ⟨w.heap.size,0,none⟩ = some (.slice (some ⟨b,off,none⟩) xs.length cap):=by rw [hb1.cell (p:=⟨w.heap.size,0,none⟩) (by simp; omega)]; simp [go_sem]
 have HO:=zB (show w1.ownsRow (w.heap.size + 1) 125 3 (.slice (some ⟨w.heap.size + 1,0,none⟩) 0 0) 0 (zy []) by
  have h0:=World.ownsRow_lit (base:=w.heap.size + 1) (e:=125) (size:=3) (w.alloc (.cells #[.slice (some ⟨b,off,none⟩) xs.length cap] 55)) #[] 0 (by simp) (Nat.zero_le _) rfl
  have h1:=h0.kept (zAS hb1 none) (Or.inr (by simp [Value.ownBlock]))
  simpa [zy] using h1)
 have bel1':Below (w.heap.size + 1) (w.alloc (.cells #[.slice (some ⟨b,off,none⟩) xs.length cap] 55)) w1:=((zC _ _).mono (by simp)).trans (hb1.mono (by simp))
 clear hb1 hc
 by_cases hc0:c = 0
 case neg=>
  have hc0':(c != 0) = true:=by simpa using hc0
  have HN:=zB (show ¬ (zZ xs 0 /\ s.size <= 20000) from fun h=>hc0 (zA6 (zA HC) h.1))
  clear hc0
  go_wp2_with fail
  go_ret2
  obtain ⟨hg,hf⟩:=zCN (zs:=[]) (zA HO)
  exact ⟨⟨w.heap.size + 1,0,[],false,rfl,⟨by omega,Nat.le_refl _,Nat.zero_le _⟩,hf,Or.inr ⟨zA HN,rfl,rfl⟩⟩,bel1⟩
 subst hc0
 by_cases h2:20000 < s.size
 ·have HN:=zB (show ¬ (zZ xs 0 /\ s.size <= 20000) from fun h=>by omega)
  have h2':(20000:Int) < (s.size:Int):=by omega
  go_wp2_with fail
  go_ret2
  obtain ⟨hg,hf⟩:=zCN (zs:=[]) (zA HO)
  exact ⟨⟨w.heap.size + 1,0,[],false,rfl,⟨by omega,Nat.le_refl _,Nat.zero_le _⟩,hf,Or.inr ⟨zA HN,rfl,rfl⟩⟩,bel1⟩
 have HV:=zB (zDm (zH4 (zA HC)))
 have HK:=zB (zMt (zH4 (zA HC)))
 have h20:s.size <= 20000:=by omega
 clear hs h2
 go_wp2_with fail
 obtain ⟨i0,hi,hz0,hz1,hz2⟩:=info_parts zPV
 have HI:=zB hi
 have HZ:=zB (And.intro hz0 (And.intro hz1 hz2))
 clear hi hz0 hz1 hz2 c1
 go_loopw [6,7] (fun out i wr=>∃ (p go co:Nat) (acc:List zT),p <= s.size /\ i = .int .i64 (p:Int) /\ out = .slice (some ⟨go,0,none⟩) acc.length co /\ Hid (zHo xs s p acc) /\ Hid (wr.ownsRow (w.heap.size + 1) 125 3 (.slice (some ⟨go,0,none⟩) acc.length co) acc.length (zy acc)) /\ Below (w.heap.size + 1) (w.alloc (.cells #[.slice (some ⟨b,off,none⟩) xs.length cap] 55)) wr) (fun _ i _=>s.size - (intOf i).toNat)
 case atStart=>exact ⟨0,w.heap.size + 1,0,[],Nat.zero_le _,rfl,rfl,zB (zHo.start xs s),HO,bel1'⟩
 case round=>
  clear HO bel1'
  obtain ⟨p,go,co,acc,hp,rfl,rfl,hrd,hown,hbel⟩:=hrel
  have hbw:Below w.heap.size w wr:=(zC _ _).trans (hbel.mono (by omega))
  have zw:w.heap.size < wr.heap.size:=by have:=hbel.size; simp at this; omega
  have c0:wr.cell? ⟨w.heap.size,0,none⟩ = some (.slice (some ⟨b,off,none⟩) xs.length cap):=by
   rw [hbel.cell (p:=⟨w.heap.size,0,none⟩) (show w.heap.size < _ by omega)]; simp [go_sem]
  go_wp2_with fail
  go_loop [7] (fun iv=>∃ j:Nat,p <= j /\ j <= s.size /\ iv = .int .i64 (j:Int) /\ Hid (zCg s p j)) (fun iv=>s.size - (intOf iv).toNat)
  case atStart=>exact ⟨p,Nat.le_refl _,hp,rfl,zB (fun q h1 h2=>by omega)⟩
  case round=>
   obtain ⟨j,hpj,hj,rfl,hbl⟩:=hrel
   by_cases hlt:j < s.size
   ·cases hb:decide (cls s[j] = 1)
    ·have hnb:=zB (show cls (bt s j) ≠ 1 by rw [ZH hlt] at hb; simpa using hb)
     have hj':((j:Int) == (s.size:Int)) = false:=by simp; omega
     have hal:acc.length <= 20000:=by have:=(zA hrd).1; omega
     go_wp2_with (go_at_call 111; refine (zEr _ _).mono ?_; rintro e w2 ⟨rfl,hx⟩; obtain rfl:=hx.symm)
     refine (zGg b off cap xs s j _ hm ((zA HW).below hbw hB) (by omega) (zA HK) (by omega) hlt).mono ?_
     rintro e w2 ⟨⟨n,rfl,hn⟩,hb2⟩
     have htok:=zIT (zA HV) hn (zA hnb)
     have hjn:j + n <= s.size:=htok.2.1
     have hn1:1 <= n:=htok.1
     have HT:=zB htok
     have hbel2:=hbel.trans (hb2.mono zw)
     have hbw2:Below w.heap.size w w2:=(zC _ _).trans (hbel2.mono (by omega))
     have z2:w.heap.size < w2.heap.size:=Nat.lt_of_lt_of_le zw hb2.size
     have hown2:=zB ((zA hown).kept (zAS hb2 none) (Or.inr (by simp [Value.ownBlock])))
     have d0:w2.cell? ⟨w.heap.size,0,none⟩ = some (.slice (some ⟨b,off,none⟩) xs.length cap):=(hb2.cell (p:=⟨w.heap.size,0,none⟩) zw).trans c0
     have hwr:IntKind.i64.wrap ((j:Int) + (n:Int)) = (j:Int) + (n:Int):=by rw [IntKind.wrap_i64]; omega
     have hs1:(j:Int) <= (j:Int) + (n:Int):=by omega
     have hs2:(j:Int) + (n:Int) <= (s.size:Int):=by omega
     have hs3:(0:Int) <= (j:Int) + (n:Int):=by omega
     have htn:((j:Int) + (n:Int)).toNat = j + n:=by omega
     have hs4:(p:Int) <= (j:Int):=by omega
     have hs5:(j:Int) <= (s.size:Int):=by omega
     have zb:b < w2.heap.size:=by omega
     clear hn htok hb2 hown hbel hbw c0
     go_wp2_with fail
     go_region_held_law (fun w'=>w'.cell? ⟨w.heap.size,0,none⟩ = some (.slice (some ⟨b,off,none⟩) xs.length cap)) (go_keep)
      (first | (go_at_call 113; refine (zGO b off cap xs (sub s j n) _ hm ((zA HW).below hbw2.drew hB) zb (zA HK) (by rw [zBG hjn]; unfold maxLen; omega)).mono ?_; rintro e w3 ⟨rfl,hb3⟩; have c3:=(hb3.cell (p:=⟨w.heap.size,0,none⟩) z2).trans (show w2.drew.cell? ⟨w.heap.size,0,none⟩ = _ from d0); have hbel3:=hbel2.drew.trans (hb3.mono z2); have hown3:=zB ((zA hown2).drew.kept (zAS hb3 none) (Or.inr (by simp [Value.ownBlock]))); have z3:=Nat.lt_of_lt_of_le z2 hb3.size; have hgo:=zB ((zA hown3).lt go rfl)) | (refine step_append_lies _ (by rfl) (.tmp 49) (.tmp 69) 121 (by rfl) (w.heap.size + 1) 125 i0 _ 3 40 Tryz.underlying121 (zA HI) (zA HZ).1 (zA HZ).2.1 (zA HZ).2.2 rfl (by decide) _ acc.length (zy acc) (by rfl) ((zA hown3).alloc _) ⟨w3.heap.size,0,none⟩ 1 1 (zy [⟨(ZR xs (sub s j n):Int),s.extract p j,s.extract j (j + n)⟩]) (by rfl) rfl (zG3 w3 ⟨(ZR xs (sub s j n):Int),s.extract p j,s.extract j (j + n)⟩) (zD2 _) (by decide) (by unfold maxLen; omega) (by omega) (by simp; omega) _ rfl ?_; intro g4 c4 w4 hown4 hgrow4 _ hlt4; have q4:=(hgrow4.cell_far ⟨w.heap.size,0,none⟩ (by simp; omega) (by have:=zA hgo; simp [Value.ownBlock]; omega)).trans (((zC w3 _).cell (p:=⟨w.heap.size,0,none⟩) z3).trans c3); simp only [List.getElem_toArray,List.getElem_cons_succ,List.getElem_cons_zero]; simp only [Act.put,List.setIfInBounds_toArray,List.set_cons_zero,List.set_cons_succ]))
     have hbel4:Below (w.heap.size + 1) _ w4:=(hbel3.alloc z3 _).grown hgrow4 (by simp; omega) (fun q hq=>by have:=zA hgo; simp [Value.ownBlock] at hq; omega)
     rw [<- zCq] at hown4
     have hl4:acc.length + 1 = (acc ++ [(⟨(ZR xs (sub s j n):Int),s.extract p j,s.extract j (j + n)⟩:zT)]).length:=by simp
     rw [hl4] at hown4 ⊢
     have HW4:=zB hown4
     clear hown4 hgrow4 hown3 hown2 hbel3 hbel2 c3 q4
     go_wp2
     refine ⟨⟨j + n,g4,c4,_,hjn,by go_num,rfl,zB ((zA hrd).step hpj hlt (zA hbl) (zA hnb) (zA HT)),HW4,hbel4⟩,by simp [intOf]; omega⟩
    ·have Hb:=zB (show zCg s p (j + 1) from fun q h1 h2=>by
      by_cases e:q = j
      ·subst e
       rw [ZH hlt] at hb
       simpa using hb
      ·exact (zA hbl) q h1 (by omega))
     go_wp2_with (go_at_call 111; refine (zEr _ _).mono ?_; rintro e w' ⟨rfl,rfl⟩)
     exact ⟨⟨j + 1,by omega,by omega,by go_num,Hb⟩,by simp [intOf]; omega⟩
   ·have HJ:=zB (show j = s.size by omega)
    have hj':((j:Int) == (s.size:Int)) = true:=by simp; omega
    have hal:acc.length <= 20000:=by have:=(zA hrd).1; omega
    go_wp2_with (at_builtin; refine wpList_append_own _ rfl (.tmp 37) (.tmp 43) 121 rfl (w.heap.size + 1) 125 i0 _ 3 40 Tryz.underlying121 (zA HI) (zA HZ).1 (zA HZ).2.1 (zA HZ).2.2 rfl (by decide) _ acc.length (zy acc) rfl ((zA hown).alloc _) ⟨wr.heap.size,0,none⟩ 1 1 (zy [⟨7,s.extract p j,⟨#[]⟩⟩]) rfl rfl (zG3 wr ⟨7,s.extract p j,⟨#[]⟩⟩) (zD2 _) ?b1 ?b2 ?b3 ?next)
    case b1=>unfold maxLen; omega
    case b2=>omega
    case b3=>have:=hbel.size; simp; omega
    case next=>
     intro v4 w4 hown4 hgrow4 hnil4
     have hgo:=(zA hown).lt go rfl
     have hbel4:Below w.heap.size w w4:=(hbw.alloc hbw.size _).grown hgrow4 (by have:=hbw.size; simp; omega) (fun q hq=>by simp [Value.ownBlock] at hq; omega)
     obtain ⟨g4,c4,rfl⟩:=ZS hown4 (by simp [hnil4])
     rw [<- zCq] at hown4
     have hl4:acc.length + 1 = (acc ++ [(⟨7,s.extract p j,⟨#[]⟩⟩:zT)]).length:=by simp
     rw [hl4] at hown4 ⊢
     have HW4:=zB hown4
     clear hown4 hgrow4 hnil4
     go_wp2
     go_ret2
     obtain ⟨hg,hf⟩:=zCN (zA HW4)
     have hdn:=(zA hrd).done hp (zA HJ ▸ zA hbl)
     rw [<- zA HJ] at hdn
     exact ⟨⟨g4,c4,_,true,rfl,⟨by omega,zLV (zA HW4)⟩,hf,Or.inl ⟨⟨zA HC,h20⟩,rfl,hdn⟩⟩,hbel4⟩
end Go.Proofs.YtgiemobdmbijiaaGreatDoor
namespace Go.Proofs.YtgiemobdmbijiaaGreatDoor
set_option maxHeartbeats 16000000
set_option maxRecDepth 100000
open Go.RowKit Go.Maps
end Go.Proofs.YtgiemobdmbijiaaGreatDoor
namespace Go.Proofs.YtgiemobdmbijiaaGreatDoor
set_option linter.unusedSimpArgs false
set_option maxHeartbeats 16000000
set_option maxRecDepth 100000
open Go.RowKit Go.Maps
theorem zOC:(Tryz.prog.info? 3).map (fun i=>(i.zero,i.size,i.bytes)) = some (some (.int .i64 0),1,8):=by kernel_rfl
theorem zDF (w:World) (v:Int):∀ j u,(zt [v])[j]? = some u -> (w.alloc (.cells #[.int .i64 v] 3)).cell? ((⟨w.heap.size,0,none⟩:Addr).add j) = some u:=by
 intro j u hj
 rw [Addr.add_mid]
 have:=World.rangeAt_of_block (w:=w.alloc (.cells #[.int .i64 v] 3)) (b:=w.heap.size) (heap_alloc_new w _) 0 1
 exact this j u (by simpa [zt] using hj)
end Go.Proofs.YtgiemobdmbijiaaGreatDoor
namespace Go.Proofs.YtgiemobdmbijiaaGreatDoor
set_option linter.unusedSimpArgs false
set_option linter.unusedVariables false
set_option maxHeartbeats 16000000
set_option maxRecDepth 100000
open Go.RowKit
def hL:ET -> List Int
 | .nil=>[]
 | .node _ _ _ l r=>hL l ++ hL r ++ [((1 + max (hT l) (hT r):Nat):Int)]
theorem zDg:∀ T:ET,(hL T).length = tsz T
 | .nil=>rfl
 | .node _ _ _ l r=>by simp [hL,tsz,zDg l,zDg r]; omega
theorem zEH {a b:List Int} {i:Nat} (h:i < a.length):atI (a ++ b) i = atI a i:=by
 simp [atI,List.getD,List.getElem?_append,h]
theorem zEI {a b:List Int} {i:Nat} (h:a.length <= i):atI (a ++ b) i = atI b (i - a.length):=by
 simp [atI,List.getD,List.getElem?_append_right h]
theorem zJG {a b:List zD} {i:Nat} (h:i < a.length):atN (a ++ b) i = atN a i:=by
 simp [atN,List.getD,List.getElem?_append,h]
theorem zJH {a b:List zD} {i:Nat} (h:a.length <= i):atN (a ++ b) i = atN b (i - a.length):=by
 simp [atN,List.getD,List.getElem?_append_right h]
theorem zFV:∀ {T:ET},Sh T -> atI (hL T) (tsz T - 1) = (hT T:Int)
 | .nil,h=>h.elim
 | .node b o t l r,_=>by
  have e:tsz (.node b o t l r:ET) - 1 = (hL l ++ hL r).length:=by simp [tsz,zDg]
  rw [e]
  simp only [hL,hT]
  rw [zEI (Nat.le_refl _)]
  simp [atI]
def zMu (n:zD) (H:List Int) (s i:Nat):Prop:=
 (zY n.k = 0 /\ atI H i = 1) \/ (zY n.k = 1 /\ ∃ a,n.a = ((s + a:Nat):Int) /\ a < i /\ atI H i = atI H a + 1) \/
 (zY n.k = 2 /\ ∃ a c,n.a = ((s + a:Nat):Int) /\ n.b = ((s + c:Nat):Int) /\ a < i /\ c < i /\ atI H i = max (atI H a) (atI H c) + 1)
theorem zMv:∀ (T:ET),Sh T -> ∀ (s i:Nat),i < tsz T -> zMu (atN (nd T s) i) (hL T) s i
 | .nil,h,_,_,_=>h.elim
 | .node b o t l r,h,s,i,hi=>by
  simp only [tsz] at hi
  have el:=zDg l
  have er:=zDg r
  have nl:=ZI l s
  have nr:=ZI r (s + tsz l)
  by_cases h1:i < tsz l
  ·have hsl:Sh l:=by
    rcases h.2 with ⟨_,rfl,_⟩ | ⟨_,hl,_⟩ | ⟨_,hl,_⟩
    ·simp [tsz] at h1
    ·exact hl
    ·exact hl
   have ih:=zMv l hsl s i h1
   have en:atN (nd (.node b o t l r) s) i = atN (nd l s) i:=by
    simp only [nd]; rw [List.append_assoc,zJG (by omega)]
   have eH:∀ k,k < tsz l -> atI (hL (.node b o t l r)) k = atI (hL l) k:=fun k hk=>by
    simp only [hL]; rw [List.append_assoc,zEH (by omega)]
   unfold zMu
   rw [en]
   rcases ih with ⟨k0,e⟩ | ⟨k1,a,e1,e2,e3⟩ | ⟨k2,a,c,e1,e2,e3,e4,e5⟩
   ·exact Or.inl ⟨k0,by rw [eH i h1]; exact e⟩
   ·exact Or.inr (Or.inl ⟨k1,a,e1,e2,by rw [eH i h1,eH a (by omega)]; exact e3⟩)
   ·exact Or.inr (Or.inr ⟨k2,a,c,e1,e2,e3,e4,by rw [eH i h1,eH a (by omega),eH c (by omega)]; exact e5⟩)
  ·by_cases h2:i < tsz l + tsz r
   ·have hsr:Sh r:=by
     rcases h.2 with ⟨_,rfl,rfl⟩ | ⟨_,hl,rfl⟩ | ⟨_,_,hr⟩
     ·simp [tsz] at h2
     ·simp [tsz] at h2; omega
     ·exact hr
    have ih:=zMv r hsr (s + tsz l) (i - tsz l) (by omega)
    have en:atN (nd (.node b o t l r) s) i = atN (nd r (s + tsz l)) (i - tsz l):=by
     simp only [nd]; rw [List.append_assoc,zJH (by omega),nl,zJG (by omega)]
    have eH:∀ k,k < tsz r -> atI (hL (.node b o t l r)) (tsz l + k) = atI (hL r) k:=fun k hk=>by
     simp only [hL]; rw [List.append_assoc,zEI (by omega),el,zEH (by omega)]; congr 1; omega
    have ei:i = tsz l + (i - tsz l):=by omega
    unfold zMu
    rw [en]
    rcases ih with ⟨k0,e⟩ | ⟨k1,a,e1,e2,e3⟩ | ⟨k2,a,c,e1,e2,e3,e4,e5⟩
    ·exact Or.inl ⟨k0,by rw [ei,eH _ (by omega)]; exact e⟩
    ·refine Or.inr (Or.inl ⟨k1,tsz l + a,by rw [e1]; congr 1; omega,by omega,?_⟩)
     conv=>lhs; rw [ei]
     rw [eH _ (by omega),eH a (by omega)]; exact e3
    ·refine Or.inr (Or.inr ⟨k2,tsz l + a,tsz l + c,by rw [e1]; congr 1; omega,by rw [e2]; congr 1; omega,by omega,by omega,?_⟩)
     conv=>lhs; rw [ei]
     rw [eH _ (by omega),eH a (by omega),eH c (by omega)]; exact e5
   ·have ei:i = tsz l + tsz r:=by omega
    have en:atN (nd (.node b o t l r) s) i = tN b t l r s:=by
     simp only [nd]; rw [zJH (by simp; omega)]
     have:i - (nd l s ++ nd r (s + tsz l)).length = 0:=by simp; omega
     rw [this]; rfl
    have eI:atI (hL (.node b o t l r)) i = ((1 + max (hT l) (hT r):Nat):Int):=by
     simp only [hL]; rw [zEI (by simp; omega)]
     have:i - (hL l ++ hL r).length = 0:=by simp; omega
     rw [this]; rfl
    unfold zMu
    rw [en,eI]
    rcases h.2 with ⟨k0,rfl,rfl⟩ | ⟨k1,hl,rfl⟩ | ⟨k2,hl,hr⟩
    ·exact Or.inl ⟨k0,rfl⟩
    ·have hp:=Sh.pos hl
     refine Or.inr (Or.inl ⟨k1,tsz l - 1,?_,by omega,?_⟩)
     ·simp only [tN,k1]
      rw [if_neg (by decide)]
      omega
     ·have e:atI (hL (.node b o t l .nil)) (tsz l - 1) = (hT l:Int):=by
       simp only [hL]; rw [List.append_assoc,zEH (by omega)]; exact zFV hl
      rw [e]
      simp only [hT]
      omega
    ·have hp:=Sh.pos hl
     have hp2:=Sh.pos hr
     refine Or.inr (Or.inr ⟨k2,tsz l - 1,tsz l + tsz r - 1,?_,?_,by omega,by omega,?_⟩)
     ·simp only [tN,k2]
      rw [if_neg (by decide)]
      omega
     ·simp only [tN,k2]
      rw [if_pos trivial]
      omega
     ·have e:atI (hL (.node b o t l r)) (tsz l - 1) = (hT l:Int):=by
       simp only [hL]; rw [List.append_assoc,zEH (by omega)]; exact zFV hl
      have e2:atI (hL (.node b o t l r)) (tsz l + tsz r - 1) = (hT r:Int):=by
       simp only [hL]; rw [List.append_assoc,zEI (by omega),el,zEH (by omega)]
       have:tsz l + tsz r - 1 - tsz l = tsz r - 1:=by omega
       rw [this]
       exact zFV hr
      rw [e,e2]
      omega
theorem zMw:∀ (T:ET) (x:Int),x ∈ hL T -> 0 <= x /\ x <= (tsz T:Int)
 | .nil,x,h=>by simp [hL] at h
 | .node b o t l r,x,h=>by
  simp only [hL,List.mem_append,List.mem_singleton] at h
  simp only [tsz]
  rcases h with (h | h) | h
  ·have:=zMw l x h; omega
  ·have:=zMw r x h; omega
  ·have:=zKj l
   have:=zKj r
   subst h
   omega
theorem zOD (T:ET) {i:Nat} (h:i < tsz T):0 <= atI (hL T) i /\ atI (hL T) i <= (tsz T:Int):=by
 have hl:=zDg T
 refine zMw T _ ?_
 unfold atI
 rw [List.getD_eq_getElem?_getD,List.getElem?_eq_getElem (by omega)]
 exact List.getElem_mem _
end Go.Proofs.YtgiemobdmbijiaaGreatDoor
