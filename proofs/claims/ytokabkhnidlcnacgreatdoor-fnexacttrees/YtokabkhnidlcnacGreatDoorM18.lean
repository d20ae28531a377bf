import Derived.Deep.AppendLies
import Derived.Deep.RegionHeldLaw
import Derived.Test.YtokabkhnidlcnacGreatDoorM10
import Derived.Test.YtokabkhnidlcnacGreatDoorM15
import Derived.Test.YtokabkhnidlcnacGreatDoorM16
namespace Go.Proofs.YtokabkhnidlcnacGreatDoor
set_option maxHeartbeats 16000000
set_option maxRecDepth 100000
open Go.RowKit
def zGY (xs:List OpR):Prop:=∀ j,j < xs.length -> ((atO xs j).k = 1 \/ (atO xs j).k = 2 \/ (atO xs j).k = 3)
theorem zJX {xs:List OpR} (h:zBx xs xs.length):zGY xs:=fun j hj=>by
 obtain ⟨_,h⟩:=zA7 _ _ _ _ (h j hj)
 omega
theorem zHf {xs:List OpR} {t:ByteArray} (h:zGY xs):opT xs t ↔ ((∃ j,j < xs.length /\ (atO xs j).s = t /\ (atO xs j).k = 1) \/ (∃ j,j < xs.length /\ (atO xs j).s = t /\ (atO xs j).k = 2) \/ (∃ j,j < xs.length /\ (atO xs j).s = t /\ (atO xs j).k = 3)):=by
 constructor
 ·rintro ⟨j,hj,e⟩
  rcases h j hj with k | k | k
  ·exact Or.inl ⟨j,hj,e,k⟩
  ·exact Or.inr (Or.inl ⟨j,hj,e,k⟩)
  ·exact Or.inr (Or.inr ⟨j,hj,e,k⟩)
 ·rintro (⟨j,hj,e,_⟩ | ⟨j,hj,e,_⟩ | ⟨j,hj,e,_⟩)
  ·exact ⟨j,hj,e⟩
  ·exact ⟨j,hj,e⟩
  ·exact ⟨j,hj,e⟩
theorem zKT (b off cap:Nat) (xs:List OpR) (t:ByteArray) (w:World) (hm:xs.length <= 1048576) (hw:Ops w b off xs) (hB:b < w.heap.size) (hk:zGY xs) :
  Calls Tryz.prog 131 #[.agg #[.slice (some ⟨b,off,none⟩) xs.length cap],.string t] w fun e w'=>zB0 e (opT xs t) /\ Below w.heap.size w w':=by
 have HK:=zB (zHf (t:=t) hk)
 have HW:=zB hw
 clear hk hw
 go_enter Tryz.func131,Tryz.ntmps131
 go_wp2_with fail
 refine (zAX b off cap xs t 1 _ hm ((zA HW).below (zC _ _) hB) (by simp; omega)).mono ?_
 rintro e w1 ⟨⟨r1,rfl,hr1⟩,hb1⟩
 have z1:w.heap.size < w1.heap.size:=by have:=hb1.size; simp at this; omega
 have c1:w1.cell? ⟨w.heap.size,0,none⟩ = some (.slice (some ⟨b,off,none⟩) xs.length cap):=by rw [hb1.cell (p:=⟨w.heap.size,0,none⟩) (by simp)]; simp [go_sem]
 have bel1:Below w.heap.size w w1:=(zC _ _).trans (hb1.mono (by simp))
 have H1:=zB hr1
 clear hr1 hb1
 by_cases p1:0 <= r1
 ·go_wp2_with fail
  go_ret
  exact ⟨⟨true,rfl,⟨fun _=>(zA HK).2 (Or.inl ((zA H1).1 p1)),fun _=>rfl⟩⟩,bel1⟩
 go_wp2_with fail
 refine (zAX b off cap xs t 2 _ hm ((zA HW).below bel1 hB) (by omega)).mono ?_
 rintro e w2 ⟨⟨r2,rfl,hr2⟩,hb2⟩
 have c2:w2.cell? ⟨w.heap.size,0,none⟩ = some (.slice (some ⟨b,off,none⟩) xs.length cap):=(hb2.cell (p:=⟨w.heap.size,0,none⟩) z1).trans c1
 have bel2:=bel1.trans (hb2.mono bel1.size)
 have H2:=zB hr2
 clear hr2 hb2 c1
 by_cases p2:0 <= r2
 ·go_wp2_with fail
  go_ret
  exact ⟨⟨true,rfl,⟨fun _=>(zA HK).2 (Or.inr (Or.inl ((zA H2).1 p2))),fun _=>rfl⟩⟩,bel2⟩
 go_wp2_with fail
 refine (zAX b off cap xs t 3 _ hm ((zA HW).below bel2 hB) (by have:=bel2.size; omega)).mono ?_
 rintro e w3 ⟨⟨r3,rfl,hr3⟩,hb3⟩
 have bel3:=bel2.trans (hb3.mono bel2.size)
 have H3:=zB hr3
 clear hr3 hb3
 go_wp2_with fail
 go_ret
 refine ⟨⟨decide (0 <= r1) || decide (0 <= r2) || decide (0 <= r3),rfl,?_⟩,bel3⟩
 unfold zC1
 rw [zA HK,<- zA H1,<- zA H2,<- zA H3]
 simp [or_assoc]
theorem zGZ (b off cap:Nat) (xs:List OpR) (t:ByteArray) (w:World) (hm:xs.length <= 1048576) (hw:Ops w b off xs) (hB:b < w.heap.size) (hk:zGY xs) (hs:t.size <= maxLen) :
  Calls Tryz.prog 83 #[.agg #[.slice (some ⟨b,off,none⟩) xs.length cap],.string t] w fun e w'=>e = .returned (.int .i64 (ZK xs t:Int)) /\ Below w.heap.size w w':=by
 have HK:=zB hk
 have HW:=zB hw
 clear hk hw
 go_enter Tryz.func83,Tryz.ntmps83
 go_wp2_with fail
 refine (zAk t _ hs).mono ?_
 rintro e w1 ⟨⟨v1,rfl,hv1⟩,rfl⟩
 have V1:=zB hv1
 clear hv1
 cases v1
 case true=>
  go_wp2_with fail
  go_ret
  exact ⟨zG (by have:=(zA V1).1 rfl; simp [ZK,Za,this]),by first | exact zC _ _ | exact Below.refl _ _⟩
 have n1:=zB (show ¬ zEb t from fun h=>Bool.false_ne_true ((zA V1).2 h))
 clear V1
 go_wp2_with fail
 refine (zEB t _ hs).mono ?_
 rintro e w1 ⟨⟨v2,rfl,hv2⟩,rfl⟩
 have V2:=zB hv2
 clear hv2
 cases v2
 case true=>
  go_wp2_with fail
  go_ret
  exact ⟨zG (by have:=(zA V2).1 rfl; have:=zA n1; simp [ZK,Za,Zh, *]),by first | exact zC _ _ | exact Below.refl _ _⟩
 have n2:=zB (show ¬ zAx t from fun h=>Bool.false_ne_true ((zA V2).2 h))
 clear V2
 by_cases e4:t = ⟨#[40]⟩
 ·subst e4
  go_wp2_with fail
  go_ret
  exact ⟨zG (by have:=zA n1; have:=zA n2; simp [ZK,Za,Zh, *]),by first | exact zC _ _ | exact Below.refl _ _⟩
 by_cases e5:t = ⟨#[41]⟩
 ·subst e5
  go_wp2_with fail
  go_ret
  exact ⟨zG (by have:=zA n1; have:=zA n2; simp [ZK,Za,Zh, *]),by first | exact zC _ _ | exact Below.refl _ _⟩
 have q4:(t.toList == [40]) = false:=by
  rw [beq_eq_false_iff_ne]
  exact fun h=>e4 (zCO (h.trans (by rw [ByteArray.toList_eq])))
 have q5:(t.toList == [41]) = false:=by
  rw [beq_eq_false_iff_ne]
  exact fun h=>e5 (zCO (h.trans (by rw [ByteArray.toList_eq])))
 have E4:=zB e4
 have E5:=zB e5
 clear e4 e5
 go_wp2_with fail
 refine (zKT b off cap xs t _ hm ((zA HW).below (zC _ _) hB) (by simp; omega) (zA HK)).mono ?_
 rintro e w2 ⟨⟨v3,rfl,hv3⟩,hb2⟩
 have V3:=zB hv3
 clear hv3
 have bel2:Below w.heap.size w w2:=(zC _ _).trans (hb2.mono (by simp))
 cases v3
 ·go_wp2_with fail
  go_ret
  refine ⟨zG ?_,bel2⟩
  have n3:¬ opT xs t:=fun h=>Bool.false_ne_true ((zA V3).2 h)
  simp [ZK,Za,Zh,zDS,zB3,zA n1,zA n2,zA E4,zA E5,n3]
 ·go_wp2_with fail
  go_ret
  refine ⟨zG ?_,bel2⟩
  have n3:opT xs t:=(zA V3).1 rfl
  simp [ZK,Za,Zh,zDS,zB3,zA n1,zA n2,zA E4,zA E5,n3]
theorem zJY (s:ByteArray) (i:Nat) (w:World) (hs:s.size <= 1048576) (hi:i < s.size) :
  Calls Tryz.prog 129 #[.string s,.int .i64 (i:Int)] w fun e w'=>(∃ r:Nat,e = .returned (.int .i64 (r:Int)) /\ zLI s i r) /\ w' = w:=by
 have hbi:=zB (zk hi)
 cases hsg:sgB s[i]
 ·go_enter Tryz.func129,Tryz.ntmps129
  go_wp2_with (go_at_call 106; refine (zAi _ _).mono ?_; rintro e w' ⟨rfl,rfl⟩)
  have hs6:=zB (show cls (bt s i) ≠ 6 from fun h=>by
   rw [zk hi,zHw,decide_eq_false_iff_not] at hsg
   exact hsg h)
  go_loop [5] (fun n=>∃ k:Nat,1 <= k /\ i + k <= s.size /\ n = .int .i64 (k:Int) /\ Hid (k = 1 \/ ((cls (bt s i) = 2 \/ cls (bt s i) = 3) /\ ∀ j,j < k -> (cls (bt s (i + j)) = 2 \/ cls (bt s (i + j)) = 3)))) (fun n=>s.size - (intOf n).toNat)
  case atStart=>exact ⟨1,Nat.le_refl _,by omega,rfl,zB (Or.inl rfl)⟩
  case round=>
   obtain ⟨k,hk1,hk,rfl,hn⟩:=hrel
   by_cases hlt:i + k < s.size
   ·have GO:=zB (show ∀ (_:cls s[i] = 2 \/ cls s[i] = 3) (_:cls s[i + k] = 2 \/ cls s[i + k] = 3),(k + 1 = 1 \/ ((cls (bt s i) = 2 \/ cls (bt s i) = 3) /\ ∀ j,j < k + 1 -> (cls (bt s (i + j)) = 2 \/ cls (bt s (i + j)) = 3))) from fun h1 h2=>by
     rw [zk hi] at h1
     rw [zk hlt] at h2
     refine Or.inr ⟨h1,fun j hj=>?_⟩
     by_cases e:j = k
     ·subst e; exact h2
     ·rcases zA hn with x | x
      ·have:j = 0:=by omega
       subst this
       exact h1
      ·exact x.2 j (by omega))
    have STOP:=zB (show ∀ (_:¬ ((cls s[i] = 2 \/ cls s[i] = 3) /\ (cls s[i + k] = 2 \/ cls s[i + k] = 3))),zLI s i k from fun h=>by
     rw [zk hi,zk hlt] at h
     have h6:=zA hs6
     refine ⟨hk1,hk,Or.inr ?_⟩
     by_cases ha:cls (bt s i) = 2 \/ cls (bt s i) = 3
     ·refine Or.inl ⟨ha,fun j hj=>?_,fun _ hx=>h ⟨ha,hx⟩⟩
      rcases zA hn with x | x
      ·have:j = 0:=by omega
       subst this
       exact ha
      ·exact x.2 j hj
     ·refine Or.inr ⟨⟨h6,by omega,by omega⟩,?_⟩
      rcases zA hn with x | x
      ·exact x
      ·exact absurd x.1 ha)
    clear hn
    go_wp2_with (first | (go_at_call 78; refine (zAn _ _).mono ?_; rintro e w' ⟨rfl,rfl⟩) | (go_at_call 79; refine (zBB _ _).mono ?_; rintro e w' ⟨rfl,rfl⟩))
    all_goals
     first
      | (
       refine ⟨⟨k + 1,?_,?_,?_,zB ((zA GO) ?_ ?_)⟩,?_⟩
       ·omega
       ·omega
       ·go_num
       ·simp [*]
       ·simp [*]
       ·simp [intOf]; omega)
      | (
       go_ret
       refine ⟨⟨k,rfl,(zA STOP) ?_⟩,rfl⟩
       simp [*])
   ·have STOP:=zB (show zLI s i k from by
     have h6:=zA hs6
     refine ⟨hk1,hk,Or.inr ?_⟩
     by_cases ha:cls (bt s i) = 2 \/ cls (bt s i) = 3
     ·refine Or.inl ⟨ha,fun j hj=>?_,fun hx=>absurd hx hlt⟩
      rcases zA hn with x | x
      ·have:j = 0:=by omega
       subst this
       exact ha
      ·exact x.2 j hj
     ·refine Or.inr ⟨⟨h6,by omega,by omega⟩,?_⟩
      rcases zA hn with x | x
      ·exact x
      ·exact absurd x.1 ha)
    go_wp2
    go_ret
    exact ⟨⟨k,rfl,zA STOP⟩,rfl⟩
 ·have hs6:=zB (show cls (bt s i) = 6 by
   rw [zk hi,zHw] at hsg
   simpa using hsg)
  by_cases h16:s.size - i < 16
  ·go_enter Tryz.func129,Tryz.ntmps129
   go_wp2_with (go_at_call 106; refine (zAi _ _).mono ?_; rintro e w' ⟨rfl,rfl⟩)
   go_ret
   exact ⟨⟨s.size - i,zG (by omega),⟨by omega,by omega,Or.inl ⟨zA hs6,by omega,Or.inr (by omega)⟩⟩⟩,rfl⟩
  ·go_enter Tryz.func129,Tryz.ntmps129
   go_wp2_with (go_at_call 106; refine (zAi _ _).mono ?_; rintro e w' ⟨rfl,rfl⟩)
   go_ret
   exact ⟨⟨16,rfl,⟨by omega,by omega,Or.inl ⟨zA hs6,by omega,Or.inl rfl⟩⟩⟩,rfl⟩
theorem zG3 (b off cap:Nat) (xs:List OpR) (s:ByteArray) (i:Nat) (w:World) (hm:xs.length <= 1048576) (hw:Ops w b off xs) (hB:b < w.heap.size) (hk:zGY xs) (hs:s.size <= 1048576) (hi:i < s.size) :
  Calls Tryz.prog 82 #[.agg #[.slice (some ⟨b,off,none⟩) xs.length cap],.string s,.int .i64 (i:Int)] w fun e w'=>(∃ r:Nat,e = .returned (.int .i64 (r:Int)) /\ zLJ xs s i r) /\ Below w.heap.size w w':=by
 have HK:=zB hk
 have HW:=zB hw
 clear hk hw
 go_enter Tryz.func82,Tryz.ntmps82
 go_wp2_with fail
 refine (zJY s i _ hs hi).mono ?_
 rintro e w1 ⟨⟨m,rfl,hm1⟩,rfl⟩
 have HR:=zB hm1
 have hms:i + m <= s.size:=hm1.2.1
 have hm0:1 <= m:=hm1.1
 clear hm1
 go_wp2_with fail
 go_loopw [7] (fun n wr=>∃ k:Nat,1 <= k /\ k <= m /\ n = .int .i64 (k:Int) /\ Hid (∀ q,k < q -> q <= m -> ZK xs (sub s i q) = 6) /\ Below (w.heap.size + 1) (w.alloc (.cells #[.slice (some ⟨b,off,none⟩) xs.length cap] 61)) wr) (fun n _=>(intOf n).toNat)
 case atStart=>exact ⟨m,hm0,Nat.le_refl _,rfl,zB (fun q h1 h2=>by omega),Below.refl _ _⟩
 case round=>
  obtain ⟨k,hk1,hkm,rfl,hn,hbel⟩:=hrel
  have hbw:Below w.heap.size w wr:=(zC _ _).trans (hbel.mono (by omega))
  have zw:w.heap.size < wr.heap.size:=by have:=hbel.size; simp at this; omega
  have c0:wr.cell? ⟨w.heap.size,0,none⟩ = some (.slice (some ⟨b,off,none⟩) xs.length cap):=by
   rw [hbel.cell (p:=⟨w.heap.size,0,none⟩) (show w.heap.size < _ by omega)]; simp [go_sem]
  have zb:b < wr.heap.size:=by omega
  by_cases hlt:1 < k
  ·have hltI:(1:Int) < (k:Int):=by omega
   have hik:i + k <= s.size:=by omega
   have hwr:IntKind.i64.wrap ((i:Int) + (k:Int)) = (i:Int) + (k:Int):=by rw [IntKind.wrap_i64]; omega
   have hs1:(i:Int) <= (i:Int) + (k:Int):=by omega
   have hs2:(i:Int) + (k:Int) <= (s.size:Int):=by omega
   have hs3:(0:Int) <= (i:Int) + (k:Int):=by omega
   have htn:((i:Int) + (k:Int)).toNat = i + k:=by omega
   go_wp2_with fail
   go_region_held (fun w'=>w'.cell? ⟨w.heap.size,0,none⟩ = some (.slice (some ⟨b,off,none⟩) xs.length cap)) (go_keep)
    (first | (go_at_call 83; refine (zGZ b off cap xs (sub s i k) _ hm ((zA HW).below hbw.drew hB) zb (zA HK) (by rw [zAO hik]; unfold maxLen; omega)).mono ?_; rintro e w2 ⟨rfl,hb2⟩; have c2:=(hb2.cell (p:=⟨w.heap.size,0,none⟩) zw).trans (show wr.drew.cell? ⟨w.heap.size,0,none⟩ = _ from c0)))
   have hbel2:=hbel.drew.trans (hb2.mono zw)
   have hbw2:Below w.heap.size w w2:=(zC _ _).trans (hbel2.mono (by omega))
   by_cases h6:ZK xs (sub s i k) = 6
   ·have h6':((ZK xs (sub s i k):Int) != 6) = false:=by simp [h6]
    have H6:=zB h6
    clear h6
    go_wp2
    refine ⟨⟨k - 1,by omega,by omega,?_,zB (fun q h1 h2=>?_),hbel2⟩,?_⟩
    ·first | (go_num; done) | (congr 1; omega)
    ·by_cases e:q = k
     ·subst e; exact zA H6
     ·exact (zA hn) q (by omega) h2
    ·simp [intOf]; omega
   ·have h6':((ZK xs (sub s i k):Int) != 6) = true:=by simp; omega
    have H6:=zB h6
    clear h6
    go_wp2
    go_ret
    exact ⟨⟨k,rfl,⟨hk1,Or.inr (zA H6),m,zA HR,hkm,zA hn⟩⟩,hbw2⟩
  ·have hk1':k = 1:=by omega
   subst hk1'
   go_wp2
   go_ret
   exact ⟨⟨1,rfl,⟨Nat.le_refl _,Or.inl rfl,m,zA HR,hkm,zA hn⟩⟩,hbw⟩
theorem zBW {xs:List OpR} (h:zL xs 0):zBx xs xs.length:=by
 rcases h with ⟨h,_⟩ | ⟨_,⟨h,_⟩ | ⟨h,_⟩⟩
 ·exact absurd h (by decide)
 ·exact absurd h (by decide)
 ·exact h
theorem zL2 {w:World} {base e size g n cap:Nat} {xs:List Value} (h:w.ownsRow base e size (.slice (some ⟨g,0,none⟩) n cap) n xs):n <= cap /\ cap <= maxLen:=by
 obtain ⟨_,⟨h,_⟩ | ⟨g',cap',cur,h,_,_,h1,h2,_⟩⟩:=h
 ·cases h
 ·injection h with _ _ h
  subst h
  exact ⟨h1,h2⟩
theorem zII (b off cap:Nat) (xs:List OpR) (s:ByteArray) (w:World) (hm:xs.length <= 1048576) (hw:Ops w b off xs) (hsz:Zm xs) (hB:b < w.heap.size) (hs:s.size <= maxLen) :
  Calls Tryz.prog 50 #[.agg #[.slice (some ⟨b,off,none⟩) xs.length cap],.string s] w fun e w'=>(∃ (g c:Nat) (us:List zK) (v:Bool),e = .returned (.tuple #[.slice (some ⟨g,0,none⟩) us.length c,.bool v]) /\ (w.heap.size <= g /\ us.length <= c /\ c <= maxLen) /\ zFg w' g us us.length /\ zQY xs (zL xs 0) s us v) /\ Below w.heap.size w w':=by
 unfold maxLen at hs
 have HW:=zB hw
 have HS:=zB hsz
 clear hw hsz
 go_enter Tryz.func50,Tryz.ntmps50
 go_wp2_with fail
 refine (zAT b off cap xs _ hm ((zA HW).below ((zC _ _).alloc (by simp) _) hB) (zA HS) (by simp; omega)).mono ?_
 rintro e w1 ⟨⟨c,rfl,hc⟩,hb1⟩
 have HC:=zB hc
 have z1:w.heap.size + 2 <= w1.heap.size:=by have:=hb1.size; simp at this; omega
 have bel1:Below w.heap.size w w1:=((zC _ _).alloc (by simp) _).trans (hb1.mono (by simp; omega))
 have c1:w1.cell? ⟨w.heap.size,0,none⟩ = some (.slice (some ⟨b,off,none⟩) xs.length cap):=by rw [hb1.cell (p:=⟨w.heap.size,0,none⟩) (by simp; omega)]; simp [go_sem]
 have HO:=zB (show w1.ownsRow (w.heap.size + 1) 112 3 (.slice (some ⟨w.heap.size + 1,0,none⟩) 0 0) 0 (zR []) by
  have h0:=World.ownsRow_lit (base:=w.heap.size + 1) (e:=112) (size:=3) (w.alloc (.cells #[.slice (some ⟨b,off,none⟩) xs.length cap] 61)) #[] 0 (by simp) (Nat.zero_le _) rfl
  have h1:=h0.kept (Z5 hb1 none) (Or.inr (by simp [Value.ownBlock]))
  simpa [zR] using h1)
 have bel1':Below (w.heap.size + 1) (w.alloc (.cells #[.slice (some ⟨b,off,none⟩) xs.length cap] 61)) w1:=((zC _ _).mono (by simp)).trans (hb1.mono (by simp))
 clear hb1 hc
 by_cases hc0:c = 0
 case neg=>
  have hc0':(c != 0) = true:=by simpa using hc0
  have HN:=zB (show ¬ (zL xs 0 /\ s.size <= 20000) from fun h=>hc0 (zAV (zA HC) h.1))
  clear hc0
  go_wp2_with fail
  go_ret2
  obtain ⟨hg,hf⟩:=zBV (zs:=[]) (zA HO)
  exact ⟨⟨w.heap.size + 1,0,[],false,rfl,⟨by omega,Nat.le_refl _,Nat.zero_le _⟩,hf,Or.inr ⟨zA HN,rfl,rfl⟩⟩,bel1⟩
 subst hc0
 by_cases h2:20000 < s.size
 ·have HN:=zB (show ¬ (zL xs 0 /\ s.size <= 20000) from fun h=>by omega)
  have h2':(20000:Int) < (s.size:Int):=by omega
  go_wp2_with fail
  go_ret2
  obtain ⟨hg,hf⟩:=zBV (zs:=[]) (zA HO)
  exact ⟨⟨w.heap.size + 1,0,[],false,rfl,⟨by omega,Nat.le_refl _,Nat.zero_le _⟩,hf,Or.inr ⟨zA HN,rfl,rfl⟩⟩,bel1⟩
 have HV:=zB (zAo (zBW (zA HC)))
 have HK:=zB (zJX (zBW (zA HC)))
 have h20:s.size <= 20000:=by omega
 clear hs h2
 go_wp2_with fail
 obtain ⟨i0,hi,hz0,hz1,hz2⟩:=info_parts zPj
 have HI:=zB hi
 have HZ:=zB (And.intro hz0 (And.intro hz1 hz2))
 clear hi hz0 hz1 hz2 c1
 go_loopw [6,7] (fun out i wr=>∃ (p go co:Nat) (acc:List zK),p <= s.size /\ i = .int .i64 (p:Int) /\ out = .slice (some ⟨go,0,none⟩) acc.length co /\ Hid (zGL xs s p acc) /\ Hid (wr.ownsRow (w.heap.size + 1) 112 3 (.slice (some ⟨go,0,none⟩) acc.length co) acc.length (zR acc)) /\ Below (w.heap.size + 1) (w.alloc (.cells #[.slice (some ⟨b,off,none⟩) xs.length cap] 61)) wr) (fun _ i _=>s.size - (intOf i).toNat)
 case atStart=>exact ⟨0,w.heap.size + 1,0,[],Nat.zero_le _,rfl,rfl,zB (zGL.start xs s),HO,bel1'⟩
 case round=>
  clear HO bel1'
  obtain ⟨p,go,co,acc,hp,rfl,rfl,hrd,hown,hbel⟩:=hrel
  have hbw:Below w.heap.size w wr:=(zC _ _).trans (hbel.mono (by omega))
  have zw:w.heap.size < wr.heap.size:=by have:=hbel.size; simp at this; omega
  have c0:wr.cell? ⟨w.heap.size,0,none⟩ = some (.slice (some ⟨b,off,none⟩) xs.length cap):=by
   rw [hbel.cell (p:=⟨w.heap.size,0,none⟩) (show w.heap.size < _ by omega)]; simp [go_sem]
  go_wp2_with fail
  go_loop [7] (fun iv=>∃ j:Nat,p <= j /\ j <= s.size /\ iv = .int .i64 (j:Int) /\ Hid (zCm s p j)) (fun iv=>s.size - (intOf iv).toNat)
  case atStart=>exact ⟨p,Nat.le_refl _,hp,rfl,zB (fun q h1 h2=>by omega)⟩
  case round=>
   obtain ⟨j,hpj,hj,rfl,hbl⟩:=hrel
   by_cases hlt:j < s.size
   ·cases hb:decide (cls s[j] = 1)
    ·have hnb:=zB (show cls (bt s j) ≠ 1 by rw [zk hlt] at hb; simpa using hb)
     have hj':((j:Int) == (s.size:Int)) = false:=by simp; omega
     have hal:acc.length <= 20000:=by have:=(zA hrd).1; omega
     go_wp2_with (go_at_call 81; refine (zFL _ _).mono ?_; rintro e w2 ⟨rfl,hx⟩; obtain rfl:=hx.symm)
     refine (zG3 b off cap xs s j _ hm ((zA HW).below hbw hB) (by omega) (zA HK) (by omega) hlt).mono ?_
     rintro e w2 ⟨⟨n,rfl,hn⟩,hb2⟩
     have htok:=zJJ (zA HV) hn (zA hnb)
     have hjn:j + n <= s.size:=htok.2.1
     have hn1:1 <= n:=htok.1
     have HT:=zB htok
     have hbel2:=hbel.trans (hb2.mono zw)
     have hbw2:Below w.heap.size w w2:=(zC _ _).trans (hbel2.mono (by omega))
     have z2:w.heap.size < w2.heap.size:=Nat.lt_of_lt_of_le zw hb2.size
     have hown2:=zB ((zA hown).kept (Z5 hb2 none) (Or.inr (by simp [Value.ownBlock])))
     have d0:w2.cell? ⟨w.heap.size,0,none⟩ = some (.slice (some ⟨b,off,none⟩) xs.length cap):=(hb2.cell (p:=⟨w.heap.size,0,none⟩) zw).trans c0
     have hwr:IntKind.i64.wrap ((j:Int) + (n:Int)) = (j:Int) + (n:Int):=by rw [IntKind.wrap_i64]; omega
     have hs1:(j:Int) <= (j:Int) + (n:Int):=by omega
     have hs2:(j:Int) + (n:Int) <= (s.size:Int):=by omega
     have hs3:(0:Int) <= (j:Int) + (n:Int):=by omega
     have htn:((j:Int) + (n:Int)).toNat = j + n:=by omega
     have hs4:(p:Int) <= (j:Int):=by omega
     have hs5:(j:Int) <= (s.size:Int):=by omega
     have zb:b < w2.heap.size:=by omega
     clear hn htok hb2 hown hbel hbw c0
     go_wp2_with fail
     go_region_held_law (fun w'=>w'.cell? ⟨w.heap.size,0,none⟩ = some (.slice (some ⟨b,off,none⟩) xs.length cap)) (go_keep)
      (first | (go_at_call 83; refine (zGZ b off cap xs (sub s j n) _ hm ((zA HW).below hbw2.drew hB) zb (zA HK) (by rw [zAO hjn]; unfold maxLen; omega)).mono ?_; rintro e w3 ⟨rfl,hb3⟩; have c3:=(hb3.cell (p:=⟨w.heap.size,0,none⟩) z2).trans (show w2.drew.cell? ⟨w.heap.size,0,none⟩ = _ from d0); have hbel3:=hbel2.drew.trans (hb3.mono z2); have hown3:=zB ((zA hown2).drew.kept (Z5 hb3 none) (Or.inr (by simp [Value.ownBlock]))); have z3:=Nat.lt_of_lt_of_le z2 hb3.size; have hgo:=zB ((zA hown3).lt go rfl)) | (refine step_append_lies _ (by rfl) (.tmp 49) (.tmp 69) 108 (by rfl) (w.heap.size + 1) 112 i0 _ 3 40 Tryz.underlying108 (zA HI) (zA HZ).1 (zA HZ).2.1 (zA HZ).2.2 rfl (by decide) _ acc.length (zR acc) (by rfl) ((zA hown3).alloc _) ⟨w3.heap.size,0,none⟩ 1 1 (zR [⟨(ZK xs (sub s j n):Int),s.extract p j,s.extract j (j + n)⟩]) (by rfl) rfl (zDV w3 ⟨(ZK xs (sub s j n):Int),s.extract p j,s.extract j (j + n)⟩) (zBU _) (by decide) (by unfold maxLen; omega) (by omega) (by simp; omega) _ rfl ?_; intro g4 c4 w4 hown4 hgrow4 _ hlt4; have q4:=(hgrow4.cell_far ⟨w.heap.size,0,none⟩ (by simp; omega) (by have:=zA hgo; simp [Value.ownBlock]; omega)).trans (((zC w3 _).cell (p:=⟨w.heap.size,0,none⟩) z3).trans c3); simp only [List.getElem_toArray,List.getElem_cons_succ,List.getElem_cons_zero]; simp only [Act.put,List.setIfInBounds_toArray,List.set_cons_zero,List.set_cons_succ]))
     have hbel4:Below (w.heap.size + 1) _ w4:=(hbel3.alloc z3 _).grown hgrow4 (by simp; omega) (fun q hq=>by have:=zA hgo; simp [Value.ownBlock] at hq; omega)
     rw [<- zAt] at hown4
     have hl4:acc.length + 1 = (acc ++ [(⟨(ZK xs (sub s j n):Int),s.extract p j,s.extract j (j + n)⟩:zK)]).length:=by simp
     rw [hl4] at hown4 ⊢
     have HW4:=zB hown4
     clear hown4 hgrow4 hown3 hown2 hbel3 hbel2 c3 q4
     go_wp2
     refine ⟨⟨j + n,g4,c4,_,hjn,by go_num,rfl,zB ((zA hrd).step hpj hlt (zA hbl) (zA hnb) (zA HT)),HW4,hbel4⟩,by simp [intOf]; omega⟩
    ·have Hb:=zB (show zCm s p (j + 1) from fun q h1 h2=>by
      by_cases e:q = j
      ·subst e
       rw [zk hlt] at hb
       simpa using hb
      ·exact (zA hbl) q h1 (by omega))
     go_wp2_with (go_at_call 81; refine (zFL _ _).mono ?_; rintro e w' ⟨rfl,rfl⟩)
     exact ⟨⟨j + 1,by omega,by omega,by go_num,Hb⟩,by simp [intOf]; omega⟩
   ·have HJ:=zB (show j = s.size by omega)
    have hj':((j:Int) == (s.size:Int)) = true:=by simp; omega
    have hal:acc.length <= 20000:=by have:=(zA hrd).1; omega
    go_wp2_with (at_builtin; refine wpList_append_own _ rfl (.tmp 37) (.tmp 43) 108 rfl (w.heap.size + 1) 112 i0 _ 3 40 Tryz.underlying108 (zA HI) (zA HZ).1 (zA HZ).2.1 (zA HZ).2.2 rfl (by decide) _ acc.length (zR acc) rfl ((zA hown).alloc _) ⟨wr.heap.size,0,none⟩ 1 1 (zR [⟨7,s.extract p j,⟨#[]⟩⟩]) rfl rfl (zDV wr ⟨7,s.extract p j,⟨#[]⟩⟩) (zBU _) ?b1 ?b2 ?b3 ?next)
    case b1=>unfold maxLen; omega
    case b2=>omega
    case b3=>have:=hbel.size; simp; omega
    case next=>
     intro v4 w4 hown4 hgrow4 hnil4
     have hgo:=(zA hown).lt go rfl
     have hbel4:Below w.heap.size w w4:=(hbw.alloc hbw.size _).grown hgrow4 (by have:=hbw.size; simp; omega) (fun q hq=>by simp [Value.ownBlock] at hq; omega)
     obtain ⟨g4,c4,rfl⟩:=ZF hown4 (by simp [hnil4])
     rw [<- zAt] at hown4
     have hl4:acc.length + 1 = (acc ++ [(⟨7,s.extract p j,⟨#[]⟩⟩:zK)]).length:=by simp
     rw [hl4] at hown4 ⊢
     have HW4:=zB hown4
     clear hown4 hgrow4 hnil4
     go_wp2
     go_ret2
     obtain ⟨hg,hf⟩:=zBV (zA HW4)
     have hdn:=(zA hrd).done hp (zA HJ ▸ zA hbl)
     rw [<- zA HJ] at hdn
     exact ⟨⟨g4,c4,_,true,rfl,⟨by omega,zL2 (zA HW4)⟩,hf,Or.inl ⟨⟨zA HC,h20⟩,rfl,hdn⟩⟩,hbel4⟩
end Go.Proofs.YtokabkhnidlcnacGreatDoor
