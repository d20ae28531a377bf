import Derived.Test.YtfboipappaonhaaGreatP02
import Derived.Test.YtfboipappaonhaaGreatP16
namespace Go.Proofs.YtfboipappaonhaaGreat
set_option maxHeartbeats 16000000
set_option maxRecDepth 100000
open Go.RowKit
def zGN (xs:List OpR):Prop:=∀ j,j < xs.length -> ((atO xs j).k = 1 \/ (atO xs j).k = 2 \/ (atO xs j).k = 3)
theorem zJH {xs:List OpR} (h:zBF xs xs.length):zGN xs:=fun j hj=>by
 obtain ⟨_,h⟩:=zA2 _ _ _ _ (h j hj)
 omega
theorem zHQ {xs:List OpR} {t:ByteArray} (h:zGN xs):opT xs t ↔ ((∃ j,j < xs.length /\ (atO xs j).s = t /\ (atO xs j).k = 1) \/ (∃ j,j < xs.length /\ (atO xs j).s = t /\ (atO xs j).k = 2) \/ (∃ j,j < xs.length /\ (atO xs j).s = t /\ (atO xs j).k = 3)):=by
 constructor
 ·rintro ⟨j,hj,e⟩
  rcases h j hj with k | k | k
  ·exact Or.inl ⟨j,hj,e,k⟩
  ·exact Or.inr (Or.inl ⟨j,hj,e,k⟩)
  ·exact Or.inr (Or.inr ⟨j,hj,e,k⟩)
 ·rintro (⟨j,hj,e,_⟩ | ⟨j,hj,e,_⟩ | ⟨j,hj,e,_⟩)
  ·exact ⟨j,hj,e⟩
  ·exact ⟨j,hj,e⟩
  ·exact ⟨j,hj,e⟩
theorem zJ3 (b off cap:Nat) (xs:List OpR) (t:ByteArray) (w:World) (hm:xs.length <= 1048576) (hw:Ops w b off xs) (hB:b < w.heap.size) (hk:zGN xs) :
  Calls Tryz.prog 147 #[.agg #[.slice (some ⟨b,off,none⟩) xs.length cap],.string t] w fun e w'=>zCQ e (opT xs t) /\ Below w.heap.size w w':=by
 have HK:=zB (zHQ (t:=t) hk)
 have HW:=zB hw
 clear hk hw
 go_enter Tryz.func147,Tryz.ntmps147
 go_wp2_with fail
 refine (zAj b off cap xs t 1 _ hm ((zA HW).below (zC _ _) hB) (by simp; omega)).mono ?_
 rintro e w1 ⟨⟨r1,rfl,hr1⟩,hb1⟩
 have z1:w.heap.size < w1.heap.size:=by have:=hb1.size; simp at this; omega
 have c1:w1.cell? ⟨w.heap.size,0,none⟩ = some (.slice (some ⟨b,off,none⟩) xs.length cap):=by rw [hb1.cell (p:=⟨w.heap.size,0,none⟩) (by simp)]; simp [go_sem]
 have bel1:Below w.heap.size w w1:=(zC _ _).trans (hb1.mono (by simp))
 have H1:=zB hr1
 clear hr1 hb1
 by_cases p1:0 <= r1
 ·go_wp2_with fail
  go_ret
  exact ⟨⟨true,rfl,⟨fun _=>(zA HK).2 (Or.inl ((zA H1).1 p1)),fun _=>rfl⟩⟩,bel1⟩
 go_wp2_with fail
 refine (zAj b off cap xs t 2 _ hm ((zA HW).below bel1 hB) (by omega)).mono ?_
 rintro e w2 ⟨⟨r2,rfl,hr2⟩,hb2⟩
 have c2:w2.cell? ⟨w.heap.size,0,none⟩ = some (.slice (some ⟨b,off,none⟩) xs.length cap):=(hb2.cell (p:=⟨w.heap.size,0,none⟩) z1).trans c1
 have bel2:=bel1.trans (hb2.mono bel1.size)
 have H2:=zB hr2
 clear hr2 hb2 c1
 by_cases p2:0 <= r2
 ·go_wp2_with fail
  go_ret
  exact ⟨⟨true,rfl,⟨fun _=>(zA HK).2 (Or.inr (Or.inl ((zA H2).1 p2))),fun _=>rfl⟩⟩,bel2⟩
 go_wp2_with fail
 refine (zAj b off cap xs t 3 _ hm ((zA HW).below bel2 hB) (by have:=bel2.size; omega)).mono ?_
 rintro e w3 ⟨⟨r3,rfl,hr3⟩,hb3⟩
 have bel3:=bel2.trans (hb3.mono bel2.size)
 have H3:=zB hr3
 clear hr3 hb3
 go_wp2_with fail
 go_ret
 refine ⟨⟨decide (0 <= r1) || decide (0 <= r2) || decide (0 <= r3),rfl,?_⟩,bel3⟩
 unfold zIg
 rw [zA HK,<- zA H1,<- zA H2,<- zA H3]
 simp [or_assoc]
theorem zGO (b off cap:Nat) (xs:List OpR) (t:ByteArray) (w:World) (hm:xs.length <= 1048576) (hw:Ops w b off xs) (hB:b < w.heap.size) (hk:zGN xs) (hs:t.size <= maxLen) :
  Calls Tryz.prog 105 #[.agg #[.slice (some ⟨b,off,none⟩) xs.length cap],.string t] w fun e w'=>e = .returned (.int .i64 (ZR xs t:Int)) /\ Below w.heap.size w w':=by
 have HK:=zB hk
 have HW:=zB hw
 clear hk hw
 go_enter Tryz.func105,Tryz.ntmps105
 go_wp2_with fail
 refine (zDC t _ hs).mono ?_
 rintro e w1 ⟨⟨v1,rfl,hv1⟩,rfl⟩
 have V1:=zB hv1
 clear hv1
 cases v1
 case true=>
  go_wp2_with fail
  go_ret
  exact ⟨zF (by have:=(zA V1).1 rfl; simp [ZR,Zq,this]),by first | exact zC _ _ | exact Below.refl _ _⟩
 have n1:=zB (show ¬ zDA t from fun h=>Bool.false_ne_true ((zA V1).2 h))
 clear V1
 go_wp2_with fail
 refine (zD6 t _ hs).mono ?_
 rintro e w1 ⟨⟨v2,rfl,hv2⟩,rfl⟩
 have V2:=zB hv2
 clear hv2
 cases v2
 case true=>
  go_wp2_with fail
  go_ret
  exact ⟨zF (by have:=(zA V2).1 rfl; have:=zA n1; simp [ZR,Zq,Zn, *]),by first | exact zC _ _ | exact Below.refl _ _⟩
 have n2:=zB (show ¬ zBH t from fun h=>Bool.false_ne_true ((zA V2).2 h))
 clear V2
 by_cases e4:t = ⟨#[40]⟩
 ·subst e4
  go_wp2_with fail
  go_ret
  exact ⟨zF (by have:=zA n1; have:=zA n2; simp [ZR,Zq,Zn, *]),by first | exact zC _ _ | exact Below.refl _ _⟩
 by_cases e5:t = ⟨#[41]⟩
 ·subst e5
  go_wp2_with fail
  go_ret
  exact ⟨zF (by have:=zA n1; have:=zA n2; simp [ZR,Zq,Zn, *]),by first | exact zC _ _ | exact Below.refl _ _⟩
 have q4:(t.toList == [40]) = false:=by
  rw [beq_eq_false_iff_ne]
  exact fun h=>e4 (zDT (h.trans (by rw [ByteArray.toList_eq])))
 have q5:(t.toList == [41]) = false:=by
  rw [beq_eq_false_iff_ne]
  exact fun h=>e5 (zDT (h.trans (by rw [ByteArray.toList_eq])))
 have E4:=zB e4
 have E5:=zB e5
 clear e4 e5
 go_wp2_with fail
 refine (zJ3 b off cap xs t _ hm ((zA HW).below (zC _ _) hB) (by simp; omega) (zA HK)).mono ?_
 rintro e w2 ⟨⟨v3,rfl,hv3⟩,hb2⟩
 have V3:=zB hv3
 clear hv3
 have bel2:Below w.heap.size w w2:=(zC _ _).trans (hb2.mono (by simp))
 cases v3
 ·go_wp2_with fail
  go_ret
  refine ⟨zF ?_,bel2⟩
  have n3:¬ opT xs t:=fun h=>Bool.false_ne_true ((zA V3).2 h)
  simp [ZR,Zq,Zn,zDS,zCG,zA n1,zA n2,zA E4,zA E5,n3]
 ·go_wp2_with fail
  go_ret
  refine ⟨zF ?_,bel2⟩
  have n3:opT xs t:=(zA V3).1 rfl
  simp [ZR,Zq,Zn,zDS,zCG,zA n1,zA n2,zA E4,zA E5,n3]
theorem zJI (s:ByteArray) (i:Nat) (w:World) (hs:s.size <= 1048576) (hi:i < s.size) :
  Calls Tryz.prog 144 #[.string s,.int .i64 (i:Int)] w fun e w'=>(∃ r:Nat,e = .returned (.int .i64 (r:Int)) /\ zKK s i r) /\ w' = w:=by
 have hbi:=zB (ZM hi)
 cases hsg:sgB s[i]
 ·go_enter Tryz.func144,Tryz.ntmps144
  go_wp2_with (go_at_call 154; refine (ZY _ _).mono ?_; rintro e w' ⟨rfl,rfl⟩)
  have hs6:=zB (show cls (bt s i) ≠ 6 from fun h=>by
   rw [ZM hi,zEg,decide_eq_false_iff_not] at hsg
   exact hsg h)
  go_loop [5] (fun n=>∃ k:Nat,1 <= k /\ i + k <= s.size /\ n = .int .i64 (k:Int) /\ Hid (k = 1 \/ ((cls (bt s i) = 2 \/ cls (bt s i) = 3) /\ ∀ j,j < k -> (cls (bt s (i + j)) = 2 \/ cls (bt s (i + j)) = 3)))) (fun n=>s.size - (intOf n).toNat)
  case atStart=>exact ⟨1,Nat.le_refl _,by omega,rfl,zB (Or.inl rfl)⟩
  case round=>
   obtain ⟨k,hk1,hk,rfl,hn⟩:=hrel
   by_cases hlt:i + k < s.size
   ·have GO:=zB (show ∀ (_:cls s[i] = 2 \/ cls s[i] = 3) (_:cls s[i + k] = 2 \/ cls s[i + k] = 3),(k + 1 = 1 \/ ((cls (bt s i) = 2 \/ cls (bt s i) = 3) /\ ∀ j,j < k + 1 -> (cls (bt s (i + j)) = 2 \/ cls (bt s (i + j)) = 3))) from fun h1 h2=>by
     rw [ZM hi] at h1
     rw [ZM hlt] at h2
     refine Or.inr ⟨h1,fun j hj=>?_⟩
     by_cases e:j = k
     ·subst e; exact h2
     ·rcases zA hn with x | x
      ·have:j = 0:=by omega
       subst this
       exact h1
      ·exact x.2 j (by omega))
    have STOP:=zB (show ∀ (_:¬ ((cls s[i] = 2 \/ cls s[i] = 3) /\ (cls s[i + k] = 2 \/ cls s[i + k] = 3))),zKK s i k from fun h=>by
     rw [ZM hi,ZM hlt] at h
     have h6:=zA hs6
     refine ⟨hk1,hk,Or.inr ?_⟩
     by_cases ha:cls (bt s i) = 2 \/ cls (bt s i) = 3
     ·refine Or.inl ⟨ha,fun j hj=>?_,fun _ hx=>h ⟨ha,hx⟩⟩
      rcases zA hn with x | x
      ·have:j = 0:=by omega
       subst this
       exact ha
      ·exact x.2 j hj
     ·refine Or.inr ⟨⟨h6,by omega,by omega⟩,?_⟩
      rcases zA hn with x | x
      ·exact x
      ·exact absurd x.1 ha)
    clear hn
    go_wp2_with (first | (go_at_call 164; refine (zA4 _ _).mono ?_; rintro e w' ⟨rfl,rfl⟩) | (go_at_call 165; refine (zBS _ _).mono ?_; rintro e w' ⟨rfl,rfl⟩))
    all_goals
     first
      | (
       refine ⟨⟨k + 1,?_,?_,?_,zB ((zA GO) ?_ ?_)⟩,?_⟩
       ·omega
       ·omega
       ·go_num
       ·simp [*]
       ·simp [*]
       ·simp [intOf]; omega)
      | (
       go_ret
       refine ⟨⟨k,rfl,(zA STOP) ?_⟩,rfl⟩
       simp [*])
   ·have STOP:=zB (show zKK s i k from by
     have h6:=zA hs6
     refine ⟨hk1,hk,Or.inr ?_⟩
     by_cases ha:cls (bt s i) = 2 \/ cls (bt s i) = 3
     ·refine Or.inl ⟨ha,fun j hj=>?_,fun hx=>absurd hx hlt⟩
      rcases zA hn with x | x
      ·have:j = 0:=by omega
       subst this
       exact ha
      ·exact x.2 j hj
     ·refine Or.inr ⟨⟨h6,by omega,by omega⟩,?_⟩
      rcases zA hn with x | x
      ·exact x
      ·exact absurd x.1 ha)
    go_wp2
    go_ret
    exact ⟨⟨k,rfl,zA STOP⟩,rfl⟩
 ·have hs6:=zB (show cls (bt s i) = 6 by
   rw [ZM hi,zEg] at hsg
   simpa using hsg)
  by_cases h16:s.size - i < 16
  ·go_enter Tryz.func144,Tryz.ntmps144
   go_wp2_with (go_at_call 154; refine (ZY _ _).mono ?_; rintro e w' ⟨rfl,rfl⟩)
   go_ret
   exact ⟨⟨s.size - i,zF (by omega),⟨by omega,by omega,Or.inl ⟨zA hs6,by omega,Or.inr (by omega)⟩⟩⟩,rfl⟩
  ·go_enter Tryz.func144,Tryz.ntmps144
   go_wp2_with (go_at_call 154; refine (ZY _ _).mono ?_; rintro e w' ⟨rfl,rfl⟩)
   go_ret
   exact ⟨⟨16,rfl,⟨by omega,by omega,Or.inl ⟨zA hs6,by omega,Or.inl rfl⟩⟩⟩,rfl⟩
theorem zGm (b off cap:Nat) (xs:List OpR) (s:ByteArray) (i:Nat) (w:World) (hm:xs.length <= 1048576) (hw:Ops w b off xs) (hB:b < w.heap.size) (hk:zGN xs) (hs:s.size <= 1048576) (hi:i < s.size) :
  Calls Tryz.prog 104 #[.agg #[.slice (some ⟨b,off,none⟩) xs.length cap],.string s,.int .i64 (i:Int)] w fun e w'=>(∃ r:Nat,e = .returned (.int .i64 (r:Int)) /\ zKL xs s i r) /\ Below w.heap.size w w':=by
 have HK:=zB hk
 have HW:=zB hw
 clear hk hw
 go_enter Tryz.func104,Tryz.ntmps104
 go_wp2_with fail
 refine (zJI s i _ hs hi).mono ?_
 rintro e w1 ⟨⟨m,rfl,hm1⟩,rfl⟩
 have HR:=zB hm1
 have hms:i + m <= s.size:=hm1.2.1
 have hm0:1 <= m:=hm1.1
 clear hm1
 go_wp2_with fail
 go_loopw [7] (fun n wr=>∃ k:Nat,1 <= k /\ k <= m /\ n = .int .i64 (k:Int) /\ Hid (∀ q,k < q -> q <= m -> ZR xs (sub s i q) = 6) /\ Below (w.heap.size + 1) (w.alloc (.cells #[.slice (some ⟨b,off,none⟩) xs.length cap] 25)) wr) (fun n _=>(intOf n).toNat)
 case atStart=>exact ⟨m,hm0,Nat.le_refl _,rfl,zB (fun q h1 h2=>by omega),Below.refl _ _⟩
 case round=>
  obtain ⟨k,hk1,hkm,rfl,hn,hbel⟩:=hrel
  have hbw:Below w.heap.size w wr:=(zC _ _).trans (hbel.mono (by omega))
  have zw:w.heap.size < wr.heap.size:=by have:=hbel.size; simp at this; omega
  have c0:wr.cell? ⟨w.heap.size,0,none⟩ = some (.slice (some ⟨b,off,none⟩) xs.length cap):=by
   rw [hbel.cell (p:=⟨w.heap.size,0,none⟩) (show w.heap.size < _ by omega)]; simp [go_sem]
  have zb:b < wr.heap.size:=by omega
  by_cases hlt:1 < k
  ·have hltI:(1:Int) < (k:Int):=by omega
   have hik:i + k <= s.size:=by omega
   have hwr:IntKind.i64.wrap ((i:Int) + (k:Int)) = (i:Int) + (k:Int):=by rw [IntKind.wrap_i64]; omega
   have hs1:(i:Int) <= (i:Int) + (k:Int):=by omega
   have hs2:(i:Int) + (k:Int) <= (s.size:Int):=by omega
   have hs3:(0:Int) <= (i:Int) + (k:Int):=by omega
   have htn:((i:Int) + (k:Int)).toNat = i + k:=by omega
   go_wp2_with fail
   go_region_held (fun w'=>w'.cell? ⟨w.heap.size,0,none⟩ = some (.slice (some ⟨b,off,none⟩) xs.length cap)) (go_keep)
    (first | (go_at_call 105; refine (zGO b off cap xs (sub s i k) _ hm ((zA HW).below hbw.drew hB) zb (zA HK) (by rw [zAF hik]; unfold maxLen; omega)).mono ?_; rintro e w2 ⟨rfl,hb2⟩; have c2:=(hb2.cell (p:=⟨w.heap.size,0,none⟩) zw).trans (show wr.drew.cell? ⟨w.heap.size,0,none⟩ = _ from c0)))
   have hbel2:=hbel.drew.trans (hb2.mono zw)
   have hbw2:Below w.heap.size w w2:=(zC _ _).trans (hbel2.mono (by omega))
   by_cases h6:ZR xs (sub s i k) = 6
   ·have h6':((ZR xs (sub s i k):Int) != 6) = false:=by simp [h6]
    have H6:=zB h6
    clear h6
    go_wp2
    refine ⟨⟨k - 1,by omega,by omega,?_,zB (fun q h1 h2=>?_),hbel2⟩,?_⟩
    ·first | (go_num; done) | (congr 1; omega)
    ·by_cases e:q = k
     ·subst e; exact zA H6
     ·exact (zA hn) q (by omega) h2
    ·simp [intOf]; omega
   ·have h6':((ZR xs (sub s i k):Int) != 6) = true:=by simp; omega
    have H6:=zB h6
    clear h6
    go_wp2
    go_ret
    exact ⟨⟨k,rfl,⟨hk1,Or.inr (zA H6),m,zA HR,hkm,zA hn⟩⟩,hbw2⟩
  ·have hk1':k = 1:=by omega
   subst hk1'
   go_wp2
   go_ret
   exact ⟨⟨1,rfl,⟨Nat.le_refl _,Or.inl rfl,m,zA HR,hkm,zA hn⟩⟩,hbw⟩
end Go.Proofs.YtfboipappaonhaaGreat
namespace Go.Proofs.YtfboipappaonhaaGreat
set_option maxHeartbeats 16000000
set_option maxRecDepth 100000
open Go.RowKit Go.Maps
theorem zCL (bo bs n:Nat) (D:DataW Unit) (t:ByteArray) (kd:Int) (w:World) (hown:w.ownsMap Tryz.prog 161 Zy bo n D) (ht:t.size <= maxLen) (hk:(Lit.int .i64 kd).wf = true) :
  Calls Tryz.prog 123 #[.agg #[.map (some bo),.map (some bs)],.string t,.int .i64 kd] w fun e w'=>e = .returned (.bool (Maps.has D (klO t kd))) /\ Below w.heap.size w w':=by
 go_enter Tryz.func123,Tryz.ntmps123
 go_wp2_with (first | (at_lookup; refine wpList_lookup_own_ok _ rfl _ _ 66 rfl 161 123 zGh Tryz.underlying66 Zy (zMM _) (zAI ⟨#[]⟩ 0 0 0) [] (zCf _ _ _ _) bo n D rfl (hown.alloc _) _ _ rfl (zHz ht hk) ?_; intro v ps hv; obtain ⟨s',k',l',sd',rfl⟩:=zC1 hv))
 go_ret
 exact ⟨rfl,(zC _ _).alloc (by simp) _⟩
structure Idx (w:World) (bo bs:Nat) (xs:List OpR) (k:Nat):Prop where
 ops:∃ D:DataW Unit,w.ownsMap Tryz.prog 161 Zy bo k D /\ ∀ (s:ByteArray) (kd:Int),s.size <= maxLen -> (Lit.int .i64 kd).wf = true -> (Maps.has D (klO s kd) = true ↔ ∃ j,j < k /\ (atO xs j).s = s /\ (atO xs j).k = kd) /\ (Maps.has D (klO s kd) = true -> ∃ j,j < k /\ (atO xs j).s = s /\ (atO xs j).k = kd /\ D.atKey (klO s kd) (zAI ⟨#[]⟩ 0 0 0) = zAI (atO xs j).s (atO xs j).k (atO xs j).l (atO xs j).sd)
 srts:∃ D:DataW Unit,w.ownsMap Tryz.prog 3 (plainElem Tryz.prog 3) bs k D /\ ∀ l:Int,(Lit.int .i64 l).wf = true -> (Maps.has D (.int .i64 l) = true ↔ ∃ j,j < k /\ (atO xs j).l = l) /\
  ∀ c:Int,D.atKey (.int .i64 l) (.lit (.int .i64 0)) = .lit (.int .i64 c) -> Maps.has D (.int .i64 l) = true -> ∃ j,j < k /\ (atO xs j).l = l /\ srt (atO xs j).k (atO xs j).sd = c
 ne:bo ≠ bs
theorem Idx.kept {w w':World} {bo bs k:Nat} {xs:List OpR} (h:Idx w bo bs xs k) (hb:Below w.heap.size w w'):Idx w' bo bs xs k:=by
 obtain ⟨⟨D,h1,h2⟩,⟨E,h3,h4⟩,h5⟩:=h
 have hg:w.grownBy w' none:=⟨hb.os,hb.tape,hb.output,hb.size,fun i hi _=>hb.block i hi⟩
 exact ⟨⟨D,h1.kept hg (by simp),h2⟩,⟨E,h3.kept hg (by simp),h4⟩,h5⟩
theorem zO1:(Lit.int .i64 1).wf = true:=by decide
theorem zO2:(Lit.int .i64 2).wf = true:=by decide
theorem zO3:(Lit.int .i64 3).wf = true:=by decide
theorem zFf {o:OpR} (h:o.ok = true):o.k = 1 \/ o.k = 2 \/ o.k = 3:=by
 obtain ⟨_,h⟩:=zA2 _ _ _ _ h
 omega
theorem zIG (bo bs k:Nat) (xs:List OpR) (w:World) (hi:Idx w bo bs xs k) (hok:zBF xs (k + 1)) (hs:(atO xs k).s.size <= maxLen) :
  Calls Tryz.prog 75 #[.agg #[.map (some bo),.map (some bs)],.agg #[.string (atO xs k).s,.int .i64 (atO xs k).k,.int .i64 (atO xs k).l,.int .i64 (atO xs k).sd]] w fun e w'=>(∃ v,e = .returned (.bool v) /\ (v = true ↔ ∃ j,j < k /\ cl 3 (atO xs k) (atO xs j))) /\ Below w.heap.size w w':=by
 obtain ⟨⟨D,hown,hD⟩,_,_⟩:=hi
 have h1:=(hD _ _ hs zO1).1
 have h2:=(hD _ _ hs zO2).1
 have h3:=(hD _ _ hs zO3).1
 have hkk:=zFf (hok k (by omega))
 have key1:(atO xs k).k = 1 -> (Maps.has D (klO (atO xs k).s 1) = true ↔ ∃ j,j < k /\ cl 3 (atO xs k) (atO xs j)):=by
  intro hk
  rw [h1]
  simp only [cl,if_true,hk,true_iff]
  exact ⟨fun ⟨j,a,b,c⟩=>⟨j,a,b.symm,c⟩,fun ⟨j,a,b,c⟩=>⟨j,a,b.symm,c⟩⟩
 have key2:(atO xs k).k ≠ 1 -> ((Maps.has D (klO (atO xs k).s 2) = true \/ Maps.has D (klO (atO xs k).s 3) = true) ↔ ∃ j,j < k /\ cl 3 (atO xs k) (atO xs j)):=by
  intro hk
  rw [h2,h3]
  simp only [cl,if_true,hk,false_iff]
  constructor
  ·rintro (⟨j,a,b,c⟩ | ⟨j,a,b,c⟩)
   ·exact ⟨j,a,b.symm,by omega⟩
   ·exact ⟨j,a,b.symm,by omega⟩
  ·rintro ⟨j,a,b,c⟩
   have:=zFf (hok j (by omega))
   rcases this with e | e | e
   ·exact absurd e c
   ·exact Or.inl ⟨j,a,b.symm,e⟩
   ·exact Or.inr ⟨j,a,b.symm,e⟩
 have K1:=zB key1
 have K2:=zB key2
 clear key1 key2 h1 h2 h3 hD hok
 by_cases hk:(atO xs k).k = 1
 ·have hk':((atO xs k).k == 1) = true:=by simpa using hk
  have HK:=zB hk
  clear hk hkk
  go_enter Tryz.func75,Tryz.ntmps75
  go_wp2_with (first | (go_at_call 123; refine (zCL bo bs k D _ _ _ ((hown.alloc _).alloc _) hs (by decide)).mono ?_; rintro e w1 ⟨rfl,hb1⟩))
  go_ret
  exact ⟨⟨_,rfl,(zA K1) (zA HK)⟩,((zC _ _).alloc (by simp) _).trans (hb1.mono (by simp; omega))⟩
 ·have hk':((atO xs k).k == 1) = false:=by simpa using hk
  have HK:=zB hk
  clear hk hkk
  cases hh:Maps.has D (klO (atO xs k).s 2)
  ·have HH:=zB hh
   go_enter Tryz.func75,Tryz.ntmps75
   go_wp2_with fail
   refine (zCL bo bs k D _ _ _ ((hown.alloc _).alloc _) hs (by decide)).mono ?_
   rintro e w1 ⟨rfl,hb1⟩
   obtain ⟨hc1,hf1⟩:=zE4 hb1
   have hown1:=((hown.alloc (.cells #[.map (some bo),.map (some bs)] 69)).alloc (.cells #[.string (atO xs k).s,.int .i64 (atO xs k).k,.int .i64 (atO xs k).l,.int .i64 (atO xs k).sd] 123)).kept (w':=w1) (row:=none) ⟨hb1.os,hb1.tape,hb1.output,hb1.size,fun i hi _=>hb1.block i hi⟩ (by simp)
   have HO:=zB hown1
   clear hown1
   go_wp2_with fail
   refine (zCL bo bs k D _ _ _ (zA HO) hs (by decide)).mono ?_
   rintro e w2 ⟨rfl,hb2⟩
   go_wp2_with fail
   go_ret
   refine ⟨⟨_,rfl,?_⟩,(((zC _ _).alloc (by simp) _).trans (hb1.mono (by simp; omega))).trans (hb2.mono (by have:=hb1.size; simp at this; omega))⟩
   have:=(zA K2) (zA HK)
   rw [zA HH] at this
   simpa using this
  ·have HH:=zB hh
   go_enter Tryz.func75,Tryz.ntmps75
   go_wp2_with fail
   refine (zCL bo bs k D _ _ _ ((hown.alloc _).alloc _) hs (by decide)).mono ?_
   rintro e w1 ⟨rfl,hb1⟩
   go_wp2_with fail
   go_ret
   refine ⟨⟨_,rfl,?_⟩,((zC _ _).alloc (by simp) _).trans (hb1.mono (by simp; omega))⟩
   have:=(zA K2) (zA HK)
   rw [zA HH] at this
   simpa using this
theorem zGP {l:Int} (h1:0 <= l) (h2:l <= 1000):(Lit.int .i64 l).wf = true:=by
 exact WalkArith.wf_i64 (by omega)
theorem zEY {o:OpR} (h:o.ok = true):(Lit.int .i64 o.l).wf = true:=by
 obtain ⟨⟨h1,h2⟩,_⟩:=zA2 _ _ _ _ h
 exact zGP (by omega) h2
theorem zE0 {o:OpR} (h:o.ok = true):(Lit.int .i64 o.k).wf = true:=by
 obtain ⟨_,h⟩:=zA2 _ _ _ _ h
 exact zGP (by omega) (by omega)
theorem zOc {o:OpR} (h:o.ok = true):(Lit.int .i64 (srt o.k o.sd)).wf = true:=by
 obtain ⟨_,h⟩:=zA2 _ _ _ _ h
 have:0 <= srt o.k o.sd /\ srt o.k o.sd <= 1000:=by
  unfold srt
  split
  ·omega
  ·split <;> omega
 exact zGP this.1 this.2
theorem zJ4 {xs:List OpR} {k:Nat} {c:Int} (hn:zFr 4 xs k) {j0:Nat} (h0:j0 < k) (hl:(atO xs j0).l = (atO xs k).l) (hc:srt (atO xs j0).k (atO xs j0).sd = c) :
  (c ≠ srt (atO xs k).k (atO xs k).sd) ↔ ∃ j,j < k /\ cl 4 (atO xs k) (atO xs j):=by
 have hcl:∀ a b:OpR,cl 4 a b ↔ (a.l = b.l /\ srt a.k a.sd ≠ srt b.k b.sd):=fun a b=>by simp [cl]
 constructor
 ·intro h
  exact ⟨j0,h0,(hcl _ _).2 ⟨hl.symm,by rw [hc]; exact h.symm⟩⟩
 ·rintro ⟨j,hj,hh⟩
  obtain ⟨e1,e2⟩:=(hcl _ _).1 hh
  rw [<- hc]
  intro e
  apply e2
  rw [<- e]
  by_cases e3:j < j0
  ·have:=hn j0 j e3 h0
   rw [hcl] at this
   exact Classical.byContradiction fun x=>this ⟨by rw [hl,e1],x⟩
  ·by_cases e4:j0 < j
   ·have:=hn j j0 e4 hj
    rw [hcl] at this
    exact Classical.byContradiction fun x=>this ⟨by rw [hl,e1],fun y=>x y.symm⟩
   ·have e5:j = j0:=by omega
    rw [e5]
theorem zIH (bo bs k:Nat) (xs:List OpR) (w:World) (hi:Idx w bo bs xs k) (hok:zBF xs (k + 1)) (hn:zFr 4 xs k) :
  Calls Tryz.prog 76 #[.agg #[.map (some bo),.map (some bs)],.agg #[.string (atO xs k).s,.int .i64 (atO xs k).k,.int .i64 (atO xs k).l,.int .i64 (atO xs k).sd]] w fun e w'=>(∃ v,e = .returned (.bool v) /\ (v = true ↔ ∃ j,j < k /\ cl 4 (atO xs k) (atO xs j))) /\ Below w.heap.size w w':=by
 obtain ⟨_,⟨D,hown,hD⟩,_⟩:=hi
 have hok1:=hok k (by omega)
 obtain ⟨h1,h2⟩:=hD _ (zEY hok1)
 have hkl:=zNf (zEY hok1)
 have hso:=zB (show okB (atO xs k).s (atO xs k).k (atO xs k).l (atO xs k).sd = true from hok1)
 cases hh:Maps.has D (.int .i64 (atO xs k).l)
 ·have hno:=zB (show ¬ ∃ j,j < k /\ cl 4 (atO xs k) (atO xs j) from fun ⟨j,hj,hc⟩=>by
   simp only [cl] at hc
   have:=h1.2 ⟨j,hj,hc.1.symm⟩
   rw [hh] at this
   cases this)
  have HK:=zB hkl
  clear h1 h2 hD hok hok1 hkl hn
  go_enter Tryz.func76,Tryz.ntmps76
  go_wp2_with (first | (at_lookup; refine wpList_lookup_own_ok_int _ rfl _ _ 67 rfl 3 3 .i64 zMK Tryz.underlying67 Tryz.underlying3 (zKZ _) bs k D rfl ((hown.alloc _).alloc _) _ _ rfl (zA HK) ?_; intro c hat hwc; have HAT:=zB hat; clear hat))
  go_ret
  refine ⟨⟨_,rfl,?_⟩,(zC _ _).alloc (by simp) _⟩
  simp [zA hno]
 ·have hyes:=zB (show ∀ c:Int,D.atKey (.int .i64 (atO xs k).l) (.lit (.int .i64 0)) = .lit (.int .i64 c) -> ((c ≠ srt (atO xs k).k (atO xs k).sd) ↔ ∃ j,j < k /\ cl 4 (atO xs k) (atO xs j)) from fun c hc=>by
   obtain ⟨j0,hj0,hl0,hs0⟩:=h2 c hc hh
   exact zJ4 hn hj0 hl0 hs0)
  have HK:=zB hkl
  clear h1 h2 hD hok hok1 hkl hn
  go_enter Tryz.func76,Tryz.ntmps76
  go_wp2_with (first | (at_lookup; refine wpList_lookup_own_ok_int _ rfl _ _ 67 rfl 3 3 .i64 zMK Tryz.underlying67 Tryz.underlying3 (zKZ _) bs k D rfl ((hown.alloc _).alloc _) _ _ rfl (zA HK) ?_; intro c hat hwc; have HAT:=zB hat; clear hat) | (go_at_call 124; refine (zFq _ _ _ _ _ (zA hso)).mono ?_; rintro e w1 ⟨rfl,hb1⟩))
  go_ret
  refine ⟨⟨_,rfl,?_⟩,((zC _ _).alloc (by simp) _).trans (hb1.mono (by simp; omega))⟩
  have:=(zA hyes) c (zA HAT)
  rw [<- this]
  simp
structure Z5 (w w':World) (bo bs:Nat):Prop where
 os:w'.os = w.os
 tape:w'.tape = w.tape
 output:w'.output = w.output
 size:w.heap.size <= w'.heap.size
 block:∀ i,i < w.heap.size -> i ≠ bo -> i ≠ bs -> w'.heap[i]? = w.heap[i]?
theorem Z5.trans {w w1 w2:World} {bo bs:Nat} (h:Z5 w w1 bo bs) (h':Z5 w1 w2 bo bs):Z5 w w2 bo bs:=
 ⟨h'.os.trans h.os,h'.tape.trans h.tape,h'.output.trans h.output,Nat.le_trans h.size h'.size,fun i hi a b=>(h'.block i (Nat.lt_of_lt_of_le hi h.size) a b).trans (h.block i hi a b)⟩
theorem Z5.of_below {w w':World} {bo bs:Nat} (h:Below w.heap.size w w'):Z5 w w' bo bs:=⟨h.os,h.tape,h.output,h.size,fun i hi _ _=>h.block i hi⟩
theorem Z5.of_grown1 {w w':World} {bo bs:Nat} (h:w.grownBy w' (some bo)):Z5 w w' bo bs:=⟨h.os,h.tape,h.output,h.size,fun i hi a _=>h.block i hi (fun e=>a (Option.some.inj e))⟩
theorem Z5.of_grown2 {w w':World} {bo bs:Nat} (h:w.grownBy w' (some bs)):Z5 w w' bo bs:=⟨h.os,h.tape,h.output,h.size,fun i hi _ b=>h.block i hi (fun e=>b (Option.some.inj e))⟩
theorem Z5.cell {w w':World} {bo bs:Nat} (h:Z5 w w' bo bs) {b:Nat} (hb:b < w.heap.size) (h1:b ≠ bo) (h2:b ≠ bs) (o:Nat):w'.cell? ⟨b,o,none⟩ = w.cell? ⟨b,o,none⟩:=
 World.cell?_of_block (w:=w) (h.block b hb h1 h2)
theorem Z5.below {w w':World} {bo bs B:Nat} (h:Z5 w w' bo bs) (hB:B <= w.heap.size) (h1:B <= bo) (h2:B <= bs):Below B w w':=
 ⟨h.os,h.tape,h.output,h.size,fun i hi=>h.block i (by omega) (by omega) (by omega)⟩
theorem zMt {xs:List OpR} {k:Nat} {D:DataW Unit} (hm:IsMap D) (hs:(atO xs k).s.size <= maxLen) (hk:(Lit.int .i64 (atO xs k).k).wf = true)
  (h:∀ (s:ByteArray) (kd:Int),s.size <= maxLen -> (Lit.int .i64 kd).wf = true -> (Maps.has D (klO s kd) = true ↔ ∃ j,j < k /\ (atO xs j).s = s /\ (atO xs j).k = kd) /\ (Maps.has D (klO s kd) = true -> ∃ j,j < k /\ (atO xs j).s = s /\ (atO xs j).k = kd /\ D.atKey (klO s kd) (zAI ⟨#[]⟩ 0 0 0) = zAI (atO xs j).s (atO xs j).k (atO xs j).l (atO xs j).sd)) :
  ∀ (s:ByteArray) (kd:Int),s.size <= maxLen -> (Lit.int .i64 kd).wf = true -> (Maps.has (D.put (klO (atO xs k).s (atO xs k).k) (zAI (atO xs k).s (atO xs k).k (atO xs k).l (atO xs k).sd)) (klO s kd) = true ↔ ∃ j,j < k + 1 /\ (atO xs j).s = s /\ (atO xs j).k = kd) /\ (Maps.has (D.put (klO (atO xs k).s (atO xs k).k) (zAI (atO xs k).s (atO xs k).k (atO xs k).l (atO xs k).sd)) (klO s kd) = true -> ∃ j,j < k + 1 /\ (atO xs j).s = s /\ (atO xs j).k = kd /\ (D.put (klO (atO xs k).s (atO xs k).k) (zAI (atO xs k).s (atO xs k).k (atO xs k).l (atO xs k).sd)).atKey (klO s kd) (zAI ⟨#[]⟩ 0 0 0) = zAI (atO xs j).s (atO xs j).k (atO xs j).l (atO xs j).sd):=by
 intro s kd hs' hk'
 by_cases e:klO s kd = klO (atO xs k).s (atO xs k).k
 ·obtain ⟨e1,e2⟩:=zH0 hs' hs hk' hk e
  rw [e,has_put_same hm (zGh.key (zHz hs hk)),atKey_put_same hm (zGh.key (zHz hs hk))]
  exact ⟨⟨fun _=>⟨k,by omega,e1.symm,e2.symm⟩,fun _=>rfl⟩,fun _=>⟨k,by omega,e1.symm,e2.symm,rfl⟩⟩
 ·rw [has_put_other e,atKey_put_other e]
  obtain ⟨h1,h2⟩:=h s kd hs' hk'
  refine ⟨?_,fun hh=>?_⟩
  ·rw [h1]
   constructor
   ·rintro ⟨j,a,b,c⟩; exact ⟨j,by omega,b,c⟩
   ·rintro ⟨j,a,b,c⟩
    by_cases ej:j = k
    ·subst ej; exact absurd (by rw [b,c]) e
    ·exact ⟨j,by omega,b,c⟩
  ·obtain ⟨j,a,b,c,d⟩:=h2 hh
   exact ⟨j,by omega,b,c,d⟩
theorem zLN {xs:List OpR} {k:Nat} {D:DataW Unit} (hm:IsMap D) (hl:(Lit.int .i64 (atO xs k).l).wf = true)
  (h:∀ l:Int,(Lit.int .i64 l).wf = true -> (Maps.has D (.int .i64 l) = true ↔ ∃ j,j < k /\ (atO xs j).l = l) /\
   ∀ c:Int,D.atKey (.int .i64 l) (.lit (.int .i64 0)) = .lit (.int .i64 c) -> Maps.has D (.int .i64 l) = true -> ∃ j,j < k /\ (atO xs j).l = l /\ srt (atO xs j).k (atO xs j).sd = c) :
  ∀ l:Int,(Lit.int .i64 l).wf = true -> (Maps.has (D.put (.int .i64 (atO xs k).l) (.lit (.int .i64 (srt (atO xs k).k (atO xs k).sd)))) (.int .i64 l) = true ↔ ∃ j,j < k + 1 /\ (atO xs j).l = l) /\
   ∀ c:Int,(D.put (.int .i64 (atO xs k).l) (.lit (.int .i64 (srt (atO xs k).k (atO xs k).sd)))).atKey (.int .i64 l) (.lit (.int .i64 0)) = .lit (.int .i64 c) -> Maps.has (D.put (.int .i64 (atO xs k).l) (.lit (.int .i64 (srt (atO xs k).k (atO xs k).sd)))) (.int .i64 l) = true -> ∃ j,j < k + 1 /\ (atO xs j).l = l /\ srt (atO xs j).k (atO xs j).sd = c:=by
 intro l hl'
 by_cases e:l = (atO xs k).l
 ·subst e
  rw [has_put_same hm (zMK.key (zNf hl)),atKey_put_same hm (zMK.key (zNf hl))]
  refine ⟨⟨fun _=>⟨k,by omega,rfl⟩,fun _=>rfl⟩,fun c hc _=>⟨k,by omega,rfl,by simpa using hc⟩⟩
 ·have e':Lit.int .i64 l ≠ Lit.int .i64 (atO xs k).l:=fun x=>e (by simpa using x)
  rw [has_put_other e',atKey_put_other e']
  obtain ⟨h1,h2⟩:=h l hl'
  refine ⟨?_,fun c hc hh=>?_⟩
  ·rw [h1]
   constructor
   ·rintro ⟨j,a,b⟩; exact ⟨j,by omega,b⟩
   ·rintro ⟨j,a,b⟩
    by_cases ej:j = k
    ·subst ej; exact absurd b.symm e
    ·exact ⟨j,by omega,b⟩
  ·obtain ⟨j,a,b,d⟩:=h2 c hc hh
   exact ⟨j,by omega,b,d⟩
end Go.Proofs.YtfboipappaonhaaGreat
