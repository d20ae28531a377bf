import Derived.BigQuiet
import Derived.Test.YtfboipappaonhaaGreatM14
namespace Go.Proofs.YtfboipappaonhaaGreat
set_option linter.unusedSimpArgs false
set_option linter.unusedVariables false
set_option maxHeartbeats 16000000
set_option maxRecDepth 100000
open Go.RowKit
def Cs (cs:List (Nat × Nat × Value)) (w:World):Prop:=∀ p ∈ cs,w.cell? ⟨p.1,p.2.1,none⟩ = some p.2.2
theorem Cs.below {cs:List (Nat × Nat × Value)} {w w':World} (h:Cs cs w) (hb:Below w.heap.size w w'):Cs cs w':=
 fun p hp=>(hb.cell (p:=⟨p.1,p.2.1,none⟩) (block_lt_of_cell (h p hp))).trans (h p hp)
theorem zDE {B:Nat} {a w w':World} (h:Below B a w) (h1:w'.os = w.os) (h2:w'.tape = w.tape) (h3:w'.output = w.output) (h4:w'.heap = w.heap):Below B a w':=
 ⟨h1.trans h.os,h2.trans h.tape,h3.trans h.output,by rw [h4]; exact h.size,fun i hi=>by rw [h4]; exact h.block i hi⟩
theorem zHr {xs:List OpR} {ns:List zD} {i:Nat} (h:¬ zq (atN ns i)):zAx xs ns i:=fun j ho=>absurd ho h
theorem zHs {xs:List OpR} {ns:List zD} {i j:Nat} (ho:zq (atN ns i)) (hf:fnd xs (atN ns i).t ((atN ns i).k - 2) = some j) :
  zAx xs ns i ↔ zAe xs j false <= ZI xs (atN ns (atN ns i).a.toNat) /\ (zR (atN ns i).k = 1 \/ zAe xs j true <= ZI xs (atN ns (atN ns i).b.toNat)):=by
 constructor
 ·intro h; exact h j ho hf
 ·intro h j' _ hf'
  rw [hf] at hf'
  injection hf' with hf'
  subst hf'
  exact h
theorem zL2 {ns:List zD} (h:zu ns) {i:Nat} (hi:i < ns.length) (ho:zq (atN ns i)) :
  ∃ ka kb:Nat,(atN ns i).a = (ka:Int) /\ (atN ns i).b = (kb:Int) /\ ka < ns.length /\ kb < ns.length /\ (zR (atN ns i).k = 1 \/ zR (atN ns i).k = 2):=by
 rcases h.kidsAt hi with ⟨h0,_⟩ | ⟨h1,h2,ha,hb⟩ | ⟨h1,h2,hb,ha0,ha1⟩
 ·exfalso
  unfold zq at ho
  unfold zR at h0
  split at h0
  ·omega
  ·split at h0
   ·omega
   ·omega
 ·exact ⟨i - 1,0,by omega,by omega,by omega,by omega,Or.inl h1⟩
 ·exact ⟨(atN ns i).a.toNat,i - 1,by omega,by omega,by omega,by omega,Or.inr h1⟩
theorem zIb (b off cap bn offn cn i:Nat) (xs:List OpR) (ns:List zD) (w:World) (hm:xs.length <= 1048576) (hmn:ns.length <= 1048576) (hw:Ops w b off xs) (hsz:Zr xs) (hB:b < w.heap.size) (hwn:Zs w bn offn ns) (hBn:bn < w.heap.size) (hi:i < ns.length) (hord:zu ns) (hkn:zAY xs ns) :
  Calls Tryz.prog 54 #[.agg #[.slice (some ⟨b,off,none⟩) xs.length cap],.slice (some ⟨bn,offn,none⟩) ns.length cn,.int .i64 (i:Int)] w fun e w'=>zB3 e (zAx xs ns i) /\ Below w.heap.size w w':=by
 have hiI:(i:Int) < (ns.length:Int):=by omega
 obtain ⟨h0,h1,h2,h3⟩:=hwn i hi
 have HW:=zB hw
 have HWN:=zB hwn
 have HZ:=zB hsz
 have HKN:=zB hkn
 by_cases ho:zq (atN ns i)
 case neg=>
  have HN:=zB (zHr (xs:=xs) ho)
  have HD:=zB (show false = decide (3 <= (atN ns i).k /\ (atN ns i).k <= 5) by rw [eq_comm,decide_eq_false_iff_not]; exact ho)
  clear hw hwn hsz hkn ho
  go_enter Tryz.func54,Tryz.ntmps54
  go_wp2_with fail
  refine (Zo (atN ns i) _ false (zA HD)).mono ?_
  rintro e w1 ⟨rfl,hb1⟩
  go_wp2_with fail
  go_ret
  exact ⟨⟨_,rfl,ZQ (zA HN)⟩,((zC _ _).alloc (by simp) _).trans (hb1.mono (by simp; omega))⟩
 obtain ⟨j,hf⟩:∃ j,fnd xs (atN ns i).t ((atN ns i).k - 2) = some j:=by
  cases e:fnd xs (atN ns i).t ((atN ns i).k - 2) with
  | none=>exact absurd e (hkn i hi ho)
  | some j=>exact ⟨j,rfl⟩
 obtain ⟨ka,kb,hka,hkb,hkal,hkbl,hkk⟩:=zL2 hord hi ho
 have hj:=(Ze hf).1
 have HIF:=zB (show zAx xs ns i ↔ zAe xs j false <= ZI xs (atN ns ka) /\ (zR (atN ns i).k = 1 \/ zAe xs j true <= ZI xs (atN ns kb)) by
  rw [zHs ho hf,hka,hkb]; simp)
 have HD:=zB (show true = decide (3 <= (atN ns i).k /\ (atN ns i).k <= 5) by rw [eq_comm,decide_eq_true_iff]; exact ho)
 have HF:=zB hf
 have h3k:=ho.1
 have h5k:=ho.2
 have HKA:=zB (show 3 <= (atN ns ka).k -> (atN ns ka).k <= 5 -> fnd xs (atN ns ka).t ((atN ns ka).k - 2) ≠ none from fun a b=>hkn ka hkal ⟨a,b⟩)
 have HKB:=zB (show 3 <= (atN ns kb).k -> (atN ns kb).k <= 5 -> fnd xs (atN ns kb).t ((atN ns kb).k - 2) ≠ none from fun a b=>hkn kb hkbl ⟨a,b⟩)
 have HSJ:=zB (hsz j hj)
 rw [hka] at h2
 rw [hkb] at h3
 have hkaI:(ka:Int) < (ns.length:Int):=by omega
 have hkbI:(kb:Int) < (ns.length:Int):=by omega
 clear hw hwn hsz hkn ho hka hkb hf
 go_enter Tryz.func54,Tryz.ntmps54
 go_wp2_with fail
 refine (Zo ⟨(atN ns i).k,(atN ns i).t,(ka:Int),(kb:Int)⟩ _ true (zA HD)).mono ?_
 rintro e w1 ⟨rfl,hb1⟩
 have bel1:Below w.heap.size w w1:=((zC _ _).alloc (by simp) _).trans (hb1.mono (by simp; omega))
 have HC1:=zB (show Cs [(w.heap.size,0,.slice (some ⟨b,off,none⟩) xs.length cap),(w.heap.size + 1,0,.int .i64 (atN ns i).k),(w.heap.size + 1,1,.string (atN ns i).t),(w.heap.size + 1,2,.int .i64 (ka:Int)),(w.heap.size + 1,3,.int .i64 (kb:Int))] w1 from fun p hp=>by
  simp only [List.mem_cons,List.not_mem_nil,or_false] at hp
  rcases hp with rfl | rfl | rfl | rfl | rfl
  ·exact (hb1.cell (p:=⟨w.heap.size,0,none⟩) (by simp; omega)).trans (by simp [go_sem])
  ·exact (hb1.cell (p:=⟨w.heap.size + 1,0,none⟩) (by simp)).trans (by simp [go_sem])
  ·exact (hb1.cell (p:=⟨w.heap.size + 1,1,none⟩) (by simp)).trans (by simp [go_sem])
  ·exact (hb1.cell (p:=⟨w.heap.size + 1,2,none⟩) (by simp)).trans (by simp [go_sem])
  ·exact (hb1.cell (p:=⟨w.heap.size + 1,3,none⟩) (by simp)).trans (by simp [go_sem]))
 clear hb1
 have c0:=(zA HC1) (w.heap.size,0,.slice (some ⟨b,off,none⟩) xs.length cap) (by simp)
 have d0:=(zA HC1) (w.heap.size + 1,0,.int .i64 (atN ns i).k) (by simp)
 have d1:=(zA HC1) (w.heap.size + 1,1,.string (atN ns i).t) (by simp)
 have d2:=(zA HC1) (w.heap.size + 1,2,.int .i64 (ka:Int)) (by simp)
 have d3:=(zA HC1) (w.heap.size + 1,3,.int .i64 (kb:Int)) (by simp)
 simp only at c0 d0 d1 d2 d3
 go_wp2_with fail
 refine (zCQ b off cap xs ⟨(atN ns i).k,(atN ns i).t,(ka:Int),(kb:Int)⟩ j _ hm ((zA HW).below bel1 hB) (Nat.lt_of_lt_of_le hB bel1.size) h3k h5k (zA HF)).mono ?_
 rintro e w2 ⟨rfl,hb2⟩
 have bel2:=bel1.trans (hb2.mono bel1.size)
 have HC2:=zB ((zA HC1).below hb2)
 clear hb2 HC1 c0 d0 d1 d2 d3 bel1
 have HSC:=zB (show Cs [(w.heap.size,0,.slice (some ⟨b,off,none⟩) xs.length cap),(w.heap.size + 1,0,.int .i64 (atN ns i).k),(w.heap.size + 1,1,.string (atN ns i).t),(w.heap.size + 1,2,.int .i64 (ka:Int)),(w.heap.size + 1,3,.int .i64 (kb:Int)),(w2.heap.size,0,.string (atO xs j).s),(w2.heap.size,1,.int .i64 (atO xs j).k),(w2.heap.size,2,.int .i64 (atO xs j).l),(w2.heap.size,3,.int .i64 (atO xs j).sd),(bn,offn + ka * 4,.int .i64 (atN ns ka).k),(bn,offn + ka * 4 + 1,.string (atN ns ka).t),(bn,offn + ka * 4 + 2,.int .i64 (atN ns ka).a),(bn,offn + ka * 4 + 3,.int .i64 (atN ns ka).b),(bn,offn + kb * 4,.int .i64 (atN ns kb).k),(bn,offn + kb * 4 + 1,.string (atN ns kb).t),(bn,offn + kb * 4 + 2,.int .i64 (atN ns kb).a),(bn,offn + kb * 4 + 3,.int .i64 (atN ns kb).b)] (w2.alloc (.cells #[.string (atO xs j).s,.int .i64 (atO xs j).k,.int .i64 (atO xs j).l,.int .i64 (atO xs j).sd] 123)).drew from fun p hp=>by
  simp only [List.mem_cons,List.not_mem_nil,or_false] at hp
  have hold:Cs [(w.heap.size,0,.slice (some ⟨b,off,none⟩) xs.length cap),(w.heap.size + 1,0,.int .i64 (atN ns i).k),(w.heap.size + 1,1,.string (atN ns i).t),(w.heap.size + 1,2,.int .i64 (ka:Int)),(w.heap.size + 1,3,.int .i64 (kb:Int))] (w2.alloc (.cells #[.string (atO xs j).s,.int .i64 (atO xs j).k,.int .i64 (atO xs j).l,.int .i64 (atO xs j).sd] 123)).drew:=(zA HC2).below ((zC _ _).drew)
  have hna:=((zA HWN) ka hkal).below (bel2.trans (((zC w2 (.cells #[.string (atO xs j).s,.int .i64 (atO xs j).k,.int .i64 (atO xs j).l,.int .i64 (atO xs j).sd] 123)).drew).mono bel2.size)) hBn
  have hnb:=((zA HWN) kb hkbl).below (bel2.trans (((zC w2 (.cells #[.string (atO xs j).s,.int .i64 (atO xs j).k,.int .i64 (atO xs j).l,.int .i64 (atO xs j).sd] 123)).drew).mono bel2.size)) hBn
  rcases hp with rfl | rfl | rfl | rfl | rfl | rfl | rfl | rfl | rfl | rfl | rfl | rfl | rfl | rfl | rfl | rfl | rfl
  ·exact hold _ (by simp)
  ·exact hold _ (by simp)
  ·exact hold _ (by simp)
  ·exact hold _ (by simp)
  ·exact hold _ (by simp)
  ·exact (show (w2.alloc (.cells #[.string (atO xs j).s,.int .i64 (atO xs j).k,.int .i64 (atO xs j).l,.int .i64 (atO xs j).sd] 123)).cell? _ = _ by simp [go_sem])
  ·exact (show (w2.alloc (.cells #[.string (atO xs j).s,.int .i64 (atO xs j).k,.int .i64 (atO xs j).l,.int .i64 (atO xs j).sd] 123)).cell? _ = _ by simp [go_sem])
  ·exact (show (w2.alloc (.cells #[.string (atO xs j).s,.int .i64 (atO xs j).k,.int .i64 (atO xs j).l,.int .i64 (atO xs j).sd] 123)).cell? _ = _ by simp [go_sem])
  ·exact (show (w2.alloc (.cells #[.string (atO xs j).s,.int .i64 (atO xs j).k,.int .i64 (atO xs j).l,.int .i64 (atO xs j).sd] 123)).cell? _ = _ by simp [go_sem])
  ·exact hna.1
  ·exact hna.2.1
  ·exact hna.2.2.1
  ·exact hna.2.2.2
  ·exact hnb.1
  ·exact hnb.2.1
  ·exact hnb.2.2.1
  ·exact hnb.2.2.2)
 have HBC:=zB (show Below w.heap.size w (w2.alloc (.cells #[.string (atO xs j).s,.int .i64 (atO xs j).k,.int .i64 (atO xs j).l,.int .i64 (atO xs j).sd] 123)).drew from bel2.trans (((zC w2 (.cells #[.string (atO xs j).s,.int .i64 (atO xs j).k,.int .i64 (atO xs j).l,.int .i64 (atO xs j).sd] 123)).drew).mono bel2.size))
 clear HC2 bel2
 have HHF:=zB (show zAe xs j false = zm (atO xs j).s (atO xs j).k (atO xs j).l (atO xs j).sd false from rfl)
 have HHT:=zB (show zAe xs j true = zm (atO xs j).s (atO xs j).k (atO xs j).l (atO xs j).sd true from rfl)
 rw [zA HHF,zA HHT] at HIF
 clear HHF HHT
 by_cases hA:ZI xs (atN ns ka) < zm (atO xs j).s (atO xs j).k (atO xs j).l (atO xs j).sd false
 ·have HN:=zB (show ¬ zAx xs ns i from fun h=>by have:=((zA HIF).1 h).1; omega)
  clear HIF
  go_wp2_with fail
  go_region_held (fun w'=>w'.cell? ⟨w.heap.size,0,none⟩ = some (.slice (some ⟨b,off,none⟩) xs.length cap) /\ w'.cell? ⟨w.heap.size + 1,2,none⟩ = some (.int .i64 (ka:Int)) /\ w'.cell? ⟨w2.heap.size,0,none⟩ = some (.string (atO xs j).s) /\ w'.cell? ⟨w2.heap.size,1,none⟩ = some (.int .i64 (atO xs j).k) /\ w'.cell? ⟨w2.heap.size,2,none⟩ = some (.int .i64 (atO xs j).l) /\ w'.cell? ⟨w2.heap.size,3,none⟩ = some (.int .i64 (atO xs j).sd) /\ w'.cell? ⟨bn,offn + ka * 4,none⟩ = some (.int .i64 (atN ns ka).k) /\ w'.cell? ⟨bn,offn + ka * 4 + 1,none⟩ = some (.string (atN ns ka).t) /\ w'.cell? ⟨bn,offn + ka * 4 + 2,none⟩ = some (.int .i64 (atN ns ka).a) /\ w'.cell? ⟨bn,offn + ka * 4 + 3,none⟩ = some (.int .i64 (atN ns ka).b)) (first | (go_keep; done) | exact ⟨(zA HSC) (w.heap.size,0,.slice (some ⟨b,off,none⟩) xs.length cap) (by simp),(zA HSC) (w.heap.size + 1,2,.int .i64 (ka:Int)) (by simp),(zA HSC) (w2.heap.size,0,.string (atO xs j).s) (by simp),(zA HSC) (w2.heap.size,1,.int .i64 (atO xs j).k) (by simp),(zA HSC) (w2.heap.size,2,.int .i64 (atO xs j).l) (by simp),(zA HSC) (w2.heap.size,3,.int .i64 (atO xs j).sd) (by simp),(zA HSC) (bn,offn + ka * 4,.int .i64 (atN ns ka).k) (by simp),(zA HSC) (bn,offn + ka * 4 + 1,.string (atN ns ka).t) (by simp),(zA HSC) (bn,offn + ka * 4 + 2,.int .i64 (atN ns ka).a) (by simp),(zA HSC) (bn,offn + ka * 4 + 3,.int .i64 (atN ns ka).b) (by simp)⟩)
   (first | (go_at_call 100; have HX:=zAS b off cap xs (atN ns ka) _ hm ((zA HW).below (zA HBC) hB) (Nat.lt_of_lt_of_le hB (zA HBC).size) (zA HKA); refine HX.mono ?_; clear HX; rintro e w3 ⟨rfl,hb3⟩; replace HSC:=zB ((zA HSC).below hb3); replace HBC:=zB ((zA HBC).trans (hb3.mono (zA HBC).size)); clear hb3) | (go_at_call 99; refine (zAA (atO xs j).s (atO xs j).k (atO xs j).l (atO xs j).sd false _ (zA HSJ)).mono ?_; rintro e w4 ⟨rfl,hb4⟩; replace HSC:=zB ((zA HSC).below hb4); replace HBC:=zB ((zA HBC).trans (hb4.mono (zA HBC).size)); clear hb4))
  all_goals go_wp2
  all_goals go_ret
  all_goals exact ⟨⟨_,rfl,zK (zA HN)⟩,zA HBC⟩
 ·go_wp2_with fail
  go_region_held (fun w'=>w'.cell? ⟨w.heap.size,0,none⟩ = some (.slice (some ⟨b,off,none⟩) xs.length cap) /\ w'.cell? ⟨w.heap.size + 1,2,none⟩ = some (.int .i64 (ka:Int)) /\ w'.cell? ⟨w2.heap.size,0,none⟩ = some (.string (atO xs j).s) /\ w'.cell? ⟨w2.heap.size,1,none⟩ = some (.int .i64 (atO xs j).k) /\ w'.cell? ⟨w2.heap.size,2,none⟩ = some (.int .i64 (atO xs j).l) /\ w'.cell? ⟨w2.heap.size,3,none⟩ = some (.int .i64 (atO xs j).sd) /\ w'.cell? ⟨bn,offn + ka * 4,none⟩ = some (.int .i64 (atN ns ka).k) /\ w'.cell? ⟨bn,offn + ka * 4 + 1,none⟩ = some (.string (atN ns ka).t) /\ w'.cell? ⟨bn,offn + ka * 4 + 2,none⟩ = some (.int .i64 (atN ns ka).a) /\ w'.cell? ⟨bn,offn + ka * 4 + 3,none⟩ = some (.int .i64 (atN ns ka).b)) (first | (go_keep; done) | exact ⟨(zA HSC) (w.heap.size,0,.slice (some ⟨b,off,none⟩) xs.length cap) (by simp),(zA HSC) (w.heap.size + 1,2,.int .i64 (ka:Int)) (by simp),(zA HSC) (w2.heap.size,0,.string (atO xs j).s) (by simp),(zA HSC) (w2.heap.size,1,.int .i64 (atO xs j).k) (by simp),(zA HSC) (w2.heap.size,2,.int .i64 (atO xs j).l) (by simp),(zA HSC) (w2.heap.size,3,.int .i64 (atO xs j).sd) (by simp),(zA HSC) (bn,offn + ka * 4,.int .i64 (atN ns ka).k) (by simp),(zA HSC) (bn,offn + ka * 4 + 1,.string (atN ns ka).t) (by simp),(zA HSC) (bn,offn + ka * 4 + 2,.int .i64 (atN ns ka).a) (by simp),(zA HSC) (bn,offn + ka * 4 + 3,.int .i64 (atN ns ka).b) (by simp)⟩)
   (first | (go_at_call 100; have HX:=zAS b off cap xs (atN ns ka) _ hm ((zA HW).below (zA HBC) hB) (Nat.lt_of_lt_of_le hB (zA HBC).size) (zA HKA); refine HX.mono ?_; clear HX; rintro e w3 ⟨rfl,hb3⟩; replace HSC:=zB ((zA HSC).below hb3); replace HBC:=zB ((zA HBC).trans (hb3.mono (zA HBC).size)); clear hb3) | (go_at_call 99; refine (zAA (atO xs j).s (atO xs j).k (atO xs j).l (atO xs j).sd false _ (zA HSJ)).mono ?_; rintro e w4 ⟨rfl,hb4⟩; replace HSC:=zB ((zA HSC).below hb4); replace HBC:=zB ((zA HBC).trans (hb4.mono (zA HBC).size)); clear hb4))
  rcases hkk with hkk | hkk
  ·have HKK:=zB hkk
   have HY:=zB (show zAx xs ns i from (zA HIF).2 ⟨by omega,Or.inl hkk⟩)
   clear hkk HIF
   have d0:=(zA HSC) (w.heap.size + 1,0,.int .i64 (atN ns i).k) (by simp)
   simp only at d0
   go_wp2_with fail
   go_quiet ((go_at_call 55; exact Calls.quiet_of_same (zQ (zA HKK) 1 rfl _)))
   go_wp2
   go_ret
   exact ⟨⟨_,rfl,ZQ (zA HY)⟩,zDE (zA HBC) rfl rfl rfl rfl⟩
  ·have HKK:=zB hkk
   have HYN:=zB (show zAx xs ns i ↔ zm (atO xs j).s (atO xs j).k (atO xs j).l (atO xs j).sd true <= ZI xs (atN ns kb) by
    rw [zA HIF]
    constructor
    ·rintro ⟨_,h | h⟩
     ·omega
     ·exact h
    ·intro h; exact ⟨by omega,Or.inr h⟩)
   clear hkk HIF
   replace HSC:=zB ((zA HSC).below (Below.refl _ _).drew)
   replace HBC:=zB (zA HBC).drew
   go_wp2_with fail
   go_region_held (fun w'=>w'.cell? ⟨w.heap.size,0,none⟩ = some (.slice (some ⟨b,off,none⟩) xs.length cap) /\ w'.cell? ⟨w.heap.size + 1,0,none⟩ = some (.int .i64 (atN ns i).k) /\ w'.cell? ⟨w.heap.size + 1,3,none⟩ = some (.int .i64 (kb:Int)) /\ w'.cell? ⟨w2.heap.size,0,none⟩ = some (.string (atO xs j).s) /\ w'.cell? ⟨w2.heap.size,1,none⟩ = some (.int .i64 (atO xs j).k) /\ w'.cell? ⟨w2.heap.size,2,none⟩ = some (.int .i64 (atO xs j).l) /\ w'.cell? ⟨w2.heap.size,3,none⟩ = some (.int .i64 (atO xs j).sd) /\ w'.cell? ⟨bn,offn + kb * 4,none⟩ = some (.int .i64 (atN ns kb).k) /\ w'.cell? ⟨bn,offn + kb * 4 + 1,none⟩ = some (.string (atN ns kb).t) /\ w'.cell? ⟨bn,offn + kb * 4 + 2,none⟩ = some (.int .i64 (atN ns kb).a) /\ w'.cell? ⟨bn,offn + kb * 4 + 3,none⟩ = some (.int .i64 (atN ns kb).b)) (first | (go_keep; done) | exact ⟨(zA HSC) (w.heap.size,0,.slice (some ⟨b,off,none⟩) xs.length cap) (by simp),(zA HSC) (w.heap.size + 1,0,.int .i64 (atN ns i).k) (by simp),(zA HSC) (w.heap.size + 1,3,.int .i64 (kb:Int)) (by simp),(zA HSC) (w2.heap.size,0,.string (atO xs j).s) (by simp),(zA HSC) (w2.heap.size,1,.int .i64 (atO xs j).k) (by simp),(zA HSC) (w2.heap.size,2,.int .i64 (atO xs j).l) (by simp),(zA HSC) (w2.heap.size,3,.int .i64 (atO xs j).sd) (by simp),(zA HSC) (bn,offn + kb * 4,.int .i64 (atN ns kb).k) (by simp),(zA HSC) (bn,offn + kb * 4 + 1,.string (atN ns kb).t) (by simp),(zA HSC) (bn,offn + kb * 4 + 2,.int .i64 (atN ns kb).a) (by simp),(zA HSC) (bn,offn + kb * 4 + 3,.int .i64 (atN ns kb).b) (by simp)⟩)
    (first | (go_at_call 55; refine (zQ (zA HKK) 2 rfl _).mono ?_; rintro e w5 ⟨rfl,hx5⟩; obtain rfl:=hx5.symm) | (go_at_call 100; have HX:=zAS b off cap xs (atN ns kb) _ hm ((zA HW).below (zA HBC) hB) (Nat.lt_of_lt_of_le hB (zA HBC).size) (zA HKB); refine HX.mono ?_; clear HX; rintro e w3 ⟨rfl,hb3⟩; replace HSC:=zB ((zA HSC).below hb3); replace HBC:=zB ((zA HBC).trans (hb3.mono (zA HBC).size)); clear hb3) | (go_at_call 99; refine (zAA (atO xs j).s (atO xs j).k (atO xs j).l (atO xs j).sd true _ (zA HSJ)).mono ?_; rintro e w4 ⟨rfl,hb4⟩; replace HSC:=zB ((zA HSC).below hb4); replace HBC:=zB ((zA HBC).trans (hb4.mono (zA HBC).size)); clear hb4))
   all_goals go_wp2
   all_goals go_ret
   all_goals exact ⟨⟨_,rfl,(by unfold zIW; rw [zA HYN]; simp)⟩,zA HBC⟩
theorem zEA (b off cap:Nat) (xs:List OpR) (w:World) (hm:xs.length <= 1048576) (hw:Ops w b off xs) (hs:Zr xs) (hB:b < w.heap.size) (hc:zO xs 0) :
  Calls Tryz.prog 53 #[.agg #[.slice (some ⟨b,off,none⟩) xs.length cap]] w fun e w'=>e = .returned (.int .i64 0) /\ Below w.heap.size w w':=by
 refine (zAJ b off cap xs w hm hw hs hB).mono ?_
 rintro e w' ⟨⟨c,rfl,h⟩,hb⟩
 exact ⟨by rw [zAi h hc],hb⟩
theorem zB4 (b off cap bn offn cn:Nat) (xs:List OpR) (ns:List zD) (w:World) (hm:xs.length <= 1048576) (hmn:ns.length <= 1048576) (hw:Ops w b off xs) (hsz:Zr xs) (hB:b < w.heap.size) (hwn:Zs w bn offn ns) (hsn:Zj ns) (hBn:bn < w.heap.size) (hc:zO xs 0) :
  Calls Tryz.prog 51 #[.agg #[.slice (some ⟨b,off,none⟩) xs.length cap],.agg #[.slice (some ⟨bn,offn,none⟩) ns.length cn]] w fun e w'=>zB3 e (zu ns /\ zAY xs ns) /\ Below w.heap.size w w':=by
 have HW:=zB hw
 have HWN:=zB hwn
 have HZ:=zB hsz
 have HZN:=zB hsn
 have HC:=zB hc
 clear hw hwn hsz hsn hc
 go_enter Tryz.func51,Tryz.ntmps51
 go_wp2_with fail
 refine (zEA b off cap xs _ hm ((zA HW).below ((zC _ _).alloc (by simp) _) hB) (zA HZ) (by simp; omega) (zA HC)).mono ?_
 rintro e w1 ⟨rfl,hb1⟩
 have bel1:Below w.heap.size w w1:=((zC _ _).alloc (by simp) _).trans (hb1.mono (by simp; omega))
 have c0:w1.cell? ⟨w.heap.size,0,none⟩ = some (.slice (some ⟨b,off,none⟩) xs.length cap):=(hb1.cell (p:=⟨w.heap.size,0,none⟩) (by simp; omega)).trans (by simp [go_sem])
 have c1:w1.cell? ⟨w.heap.size + 1,0,none⟩ = some (.slice (some ⟨bn,offn,none⟩) ns.length cn):=(hb1.cell (p:=⟨w.heap.size + 1,0,none⟩) (by simp)).trans (by simp [go_sem])
 have z1:w.heap.size + 2 <= w1.heap.size:=by have:=hb1.size; simp at this; omega
 clear hb1
 go_wp2_with fail
 refine (zC1 bn offn cn ns _ hmn ((zA HWN).below bel1 hBn) (zA HZN) (by omega)).mono ?_
 rintro e w2 ⟨⟨v,rfl,hv⟩,hb2⟩
 have HV:=zB hv
 have bel2:=bel1.trans (hb2.mono bel1.size)
 have e0:=(hb2.cell (p:=⟨w.heap.size,0,none⟩) (show w.heap.size < w1.heap.size by omega)).trans c0
 have e1:=(hb2.cell (p:=⟨w.heap.size + 1,0,none⟩) (show w.heap.size + 1 < w1.heap.size by omega)).trans c1
 have z2:w.heap.size + 2 <= w2.heap.size:=Nat.le_trans z1 hb2.size
 clear hb2 hv c0 c1 bel1 z1
 cases v
 ·go_wp2_with fail
  go_ret
  exact ⟨⟨_,rfl,zK (fun h=>Bool.false_ne_true ((zA HV).2 h.1))⟩,bel2⟩
 have HO:=zB ((zA HV).1 rfl)
 clear HV
 have HCS:=zB (show Cs [(w.heap.size,0,.slice (some ⟨b,off,none⟩) xs.length cap),(w.heap.size + 1,0,.slice (some ⟨bn,offn,none⟩) ns.length cn)] w2 from fun p hp=>by
  simp only [List.mem_cons,List.not_mem_nil,or_false] at hp
  rcases hp with rfl | rfl
  ·exact e0
  ·exact e1)
 go_wp2_with fail
 go_loopw [5] (fun iv wr=>∃ k:Nat,k <= ns.length /\ iv = .int .i64 (k:Int) /\ Hid (∀ i,i < k -> zq (atN ns i) -> fnd xs (atN ns i).t ((atN ns i).k - 2) ≠ none) /\ Hid (Cs [(w.heap.size,0,.slice (some ⟨b,off,none⟩) xs.length cap),(w.heap.size + 1,0,.slice (some ⟨bn,offn,none⟩) ns.length cn)] wr) /\ Below w.heap.size w wr) (fun iv _=>ns.length - (intOf iv).toNat)
 case atStart=>exact ⟨0,Nat.zero_le _,rfl,zB (fun i hi=>absurd hi (Nat.not_lt_zero i)),HCS,bel2⟩
 case round=>
  clear HCS e0 e1 bel2 z2
  obtain ⟨k,hk,rfl,hkn,hcs,hbel⟩:=hrel
  have c0:=(zA hcs) (w.heap.size,0,.slice (some ⟨b,off,none⟩) xs.length cap) (by simp)
  have c1:=(zA hcs) (w.heap.size + 1,0,.slice (some ⟨bn,offn,none⟩) ns.length cn) (by simp)
  simp only at c0 c1
  by_cases hlt:k < ns.length
  ·have hltI:(k:Int) < (ns.length:Int):=by omega
   obtain ⟨a0,a1,a2,a3⟩:=((zA HWN) k hlt).below hbel hBn
   have HC1:=zB ((zA hcs).below (zC wr (.cells #[.int .i64 (atN ns k).k,.string (atN ns k).t,.int .i64 (atN ns k).a,.int .i64 (atN ns k).b] 81)))
   have bel1:Below w.heap.size w (wr.alloc (.cells #[.int .i64 (atN ns k).k,.string (atN ns k).t,.int .i64 (atN ns k).a,.int .i64 (atN ns k).b] 81)):=hbel.alloc hbel.size _
   by_cases ho:zq (atN ns k)
   ·have HD:=zB (show true = decide (3 <= (atN ns k).k /\ (atN ns k).k <= 5) by rw [eq_comm,decide_eq_true_iff]; exact ho)
    have h3:=ho.1
    have h5:=ho.2
    have HOP:=zB ho
    clear ho
    go_wp2_with fail
    refine (Zo (atN ns k) _ true (zA HD)).mono ?_
    rintro e w3 ⟨rfl,hb3⟩
    have HC3:=zB ((zA HC1).below hb3)
    have bel3:=bel1.trans (hb3.mono bel1.size)
    have n0:w3.cell? ⟨wr.heap.size,0,none⟩ = some (.int .i64 (atN ns k).k):=(hb3.cell (p:=⟨wr.heap.size,0,none⟩) (by simp)).trans (by simp [go_sem])
    have n1:w3.cell? ⟨wr.heap.size,1,none⟩ = some (.string (atN ns k).t):=(hb3.cell (p:=⟨wr.heap.size,1,none⟩) (by simp)).trans (by simp [go_sem])
    have d0:=(zA HC3) (w.heap.size,0,.slice (some ⟨b,off,none⟩) xs.length cap) (by simp)
    simp only at d0
    have hwr:IntKind.i64.wrap ((atN ns k).k - 2) = (atN ns k).k - 2:=by rw [IntKind.wrap_i64]; omega
    clear hb3 c0 c1
    cases hf:fnd xs (atN ns k).t ((atN ns k).k - 2) with
    | none=>
     have HF:=zB hf
     have HFI:=zB (show fI (fnd xs (atN ns k).t ((atN ns k).k - 2)) = -1 by rw [hf]; rfl)
     clear hf
     go_wp2_with fail
     refine (zD9 b off cap xs (atN ns k).t ((atN ns k).k - 2) _ hm ((zA HW).below bel3 hB) (Nat.lt_of_lt_of_le hB bel3.size)).mono ?_
     rw [zA HFI]
     rintro e w4 ⟨rfl,hb4⟩
     go_wp2_with fail
     go_ret
     exact ⟨⟨_,rfl,zK (fun h=>h.2 k hlt (zA HOP) (zA HF))⟩,bel3.trans (hb4.mono bel3.size)⟩
    | some j=>
     have HF:=zB hf
     have HFI:=zB (show fI (fnd xs (atN ns k).t ((atN ns k).k - 2)) = (j:Int) by rw [hf]; rfl)
     clear hf
     go_wp2_with fail
     refine (zD9 b off cap xs (atN ns k).t ((atN ns k).k - 2) _ hm ((zA HW).below bel3 hB) (Nat.lt_of_lt_of_le hB bel3.size)).mono ?_
     rw [zA HFI]
     rintro e w4 ⟨rfl,hb4⟩
     have hj0:¬ (j:Int) < 0:=by omega
     go_wp2_with fail
     refine ⟨⟨k + 1,by omega,by go_num,zB (fun i hi hop=>?_),zB ((zA HC3).below hb4),bel3.trans (hb4.mono bel3.size)⟩,by simp [intOf]; omega⟩
     by_cases e:i = k
     ·subst e; rw [zA HF]; simp
     ·exact (zA hkn) i (by omega) hop
   ·have HD:=zB (show false = decide (3 <= (atN ns k).k /\ (atN ns k).k <= 5) by rw [eq_comm,decide_eq_false_iff_not]; exact ho)
    have HOP:=zB ho
    clear ho
    go_wp2_with fail
    refine (Zo (atN ns k) _ false (zA HD)).mono ?_
    rintro e w3 ⟨rfl,hb3⟩
    go_wp2_with fail
    refine ⟨⟨k + 1,by omega,by go_num,zB (fun i hi hop=>?_),zB ((zA HC1).below hb3),bel1.trans (hb3.mono bel1.size)⟩,by simp [intOf]; omega⟩
    by_cases e:i = k
    ·subst e; exact absurd hop (zA HOP)
    ·exact (zA hkn) i (by omega) hop
  ·have hkx:k = ns.length:=by omega
   go_wp2_with fail
   go_ret
   exact ⟨⟨_,rfl,ZQ ⟨zA HO,fun i hi hop=>(zA hkn) i (by omega) hop⟩⟩,hbel⟩
end Go.Proofs.YtfboipappaonhaaGreat
