import Derived.Deep.Trees
import Derived.Test.YtfboipappaonhaaGreatM12
import Derived.Test.YtfboipappaonhaaGreatM19
import Derived.Test.YtfboipappaonhaaGreatM20
namespace Go.Proofs.YtfboipappaonhaaGreat
set_option linter.unusedSimpArgs false
set_option linter.unusedVariables false
set_option maxHeartbeats 16000000
set_option maxRecDepth 100000
open Go.RowKit
theorem zIe (k:Nat) {o d:OpR} (ho:0 <= o.k /\ o.k <= 9) (hd:0 <= d.k /\ d.k <= 9):0 <= (zAR k o d).k /\ (zAR k o d).k <= 9:=by
 unfold zAR
 split
 ·exact ho
 ·split
  ·exact ho
  ·split
   ·exact ho
   ·split
    ·exact ho
    ·split
     ·show 0 <= ((k / 8 % 5:Nat):Int) /\ ((k / 8 % 5:Nat):Int) <= 9
      omega
     ·split
      ·exact ho
      ·exact hd
theorem zKA (k:Nat):0 <= ZE k /\ ZE k <= 9:=by
 unfold ZE
 split
 ·omega
 ·split <;> omega
theorem zIf {xs:List OpR} (h:∀ i,i < xs.length -> 0 <= (atO xs i).k /\ (atO xs i).k <= 9) (bs:List UInt8) (p:Nat):∀ i,i < (zA2 xs bs p).length -> 0 <= (atO (zA2 xs bs p) i).k /\ (atO (zA2 xs bs p) i).k <= 9:=by
 unfold zA2
 split
 ·intro i hi
  rw [zCr] at hi
  have:atO (ZO (nxt bs (adv bs p)) (500 + nxt bs (adv bs p) % 2)) i = zER (nxt bs (adv bs p)) i:=by
   unfold atO ZO; simp [List.getD,hi]
  rw [this]
  show 0 <= (2:Int) /\ (2:Int) <= 9
  omega
 ·rename_i hne
  intro i hi
  rw [List.length_set] at hi
  by_cases e:i = nxt bs (adv bs p) % xs.length
  ·have:∀ o,atO (xs.set (nxt bs (adv bs p) % xs.length) o) i = o:=fun o=>by subst e; unfold atO; simp [List.getD,hi]
   rw [this]
   have h':=h _ hi
   rw [e] at h'
   exact zIe _ h' (zKA _)
  ·have:∀ o,atO (xs.set (nxt bs (adv bs p) % xs.length) o) i = atO xs i:=fun o=>by unfold atO; simp [List.getD,List.getElem?_set,Ne.symm e]
   rw [this]
   exact h i hi
theorem zAE.kinds {bs:List UInt8} {p:Nat} {ns:List OpR} {us:List zD} (h:zAE bs p ns us):∀ i,i < ns.length -> 0 <= (atO ns i).k /\ (atO ns i).k <= 9:=by
 obtain ⟨ys,q,ht,hc⟩:=h
 have hk:=ht.kinds
 rcases hc with ⟨_,rfl,rfl⟩ | ⟨_,rfl,hc⟩
 ·intro i hi
  have:i = 0:=by have:i < 1:=hi; omega
  subst this
  show 0 <= (1:Int) /\ (1:Int) <= 9
  omega
 ·unfold tb1
  split
  ·exact zIf hk _ _
  ·exact hk
theorem zAE.texts {bs:List UInt8} {p:Nat} {ns:List OpR} {us:List zD} (h:zAE bs p ns us):∀ i,(atO ns i).s.size <= 1001:=by
 obtain ⟨ys,q,ht,hc⟩:=h
 obtain ⟨h1,h2⟩:=ht.len
 have all:∀ xs:List OpR,(∀ i,i < xs.length -> (atO xs i).s.size <= 1001) -> ∀ i,(atO xs i).s.size <= 1001:=fun xs hx i=>by
  by_cases hi:i < xs.length
  ·exact hx i hi
  ·have:atO xs i = OpR.zero:=by unfold atO; simp [List.getD,List.getElem?_eq_none (Nat.le_of_not_lt hi)]
   rw [this]; show 0 <= 1001; omega
 rcases hc with ⟨_,rfl,rfl⟩ | ⟨_,rfl,hc⟩
 ·refine all _ (fun i hi=>?_)
  have:i = 0:=by have:i < 1:=hi; omega
  subst this
  show 1 <= 1001
  omega
 ·refine all _ ?_
  unfold tb1
  split
  ·exact (zGG h2 bs _).2
  ·exact fun i hi=>by have:=h2 i hi; omega
theorem zJV {ns:List OpR} (h:∀ i,(atO ns i).s.size <= 1001):∀ i,ShN (cT ns i)
 | 0=>fun o ho=>by simp [cT] at ho; subst ho; show 1 <= 2000; omega
 | i + 1=>by
  have h1:=h (i % ns.length)
  simp only [cT]
  split
  ·exact ((zJV h i).snoc (by show 1 <= 2000; omega)).snoc (by show (atO ns _).s.size <= 2000; omega)
  ·exact (zJV h i).snoc (by show (atO ns _).s.size <= 2000; omega)
def zHt (bs:List UInt8) (ns:List OpR) (us:List zD):Prop:=
 ∃ vs,zAE bs (adv bs 0) ns vs /\ ((nxt bs 0 % 64 = 63 /\ ∃ i,ChN ns (19998 + nxt bs 0 / 64) i /\ us = cT ns i) \/ (nxt bs 0 % 64 = 62 /\ ∃ i,ChN ns 1000 i /\ us = cT ns i) \/ (nxt bs 0 % 64 ≠ 63 /\ nxt bs 0 % 64 ≠ 62 /\ us = vs))
theorem zHt.one {bs:List UInt8} {ns ns':List OpR} {us us':List zD} (h:zHt bs ns us) (h':zHt bs ns' us'):ns = ns' /\ us = us':=by
 obtain ⟨vs,ht,hc⟩:=h
 obtain ⟨vs',ht',hc'⟩:=h'
 obtain ⟨rfl,rfl⟩:=ht.one ht'
 refine ⟨rfl,?_⟩
 rcases hc with ⟨e,i,hi,rfl⟩ | ⟨e,i,hi,rfl⟩ | ⟨e,f,rfl⟩ <;> rcases hc' with ⟨e',i',hi',rfl⟩ | ⟨e',i',hi',rfl⟩ | ⟨e',f',rfl⟩
 ·rw [hi.one hi']
 ·omega
 ·omega
 ·omega
 ·rw [hi.one hi']
 ·omega
 ·omega
 ·omega
 ·rfl
theorem zHt.sized {bs:List UInt8} {ns:List OpR} {us:List zD} (h:zHt bs ns us):ns.length <= 1048576 /\ Zr ns /\ us.length <= 30000 /\ Zj us:=by
 obtain ⟨vs,ht,hc⟩:=h
 obtain ⟨h1,h2,h3,h4⟩:=ht.sized
 have h8:=zGi bs 0
 refine ⟨h1,h2,?_⟩
 rcases hc with ⟨e,i,hi,rfl⟩ | ⟨e,i,hi,rfl⟩ | ⟨e,f,rfl⟩
 ·have:=hi.len
  exact ⟨by omega,(zJV ht.texts i).sized⟩
 ·have:=hi.len
  exact ⟨by omega,(zJV ht.texts i).sized⟩
 ·exact ⟨h3,h4⟩
theorem zC3 (a:Option Addr) (cap:Nat) (l:List UInt8) (w:World) (hl:l.length <= 1048576) (hcap:l.length <= cap) (h:zEz w a l) :
  Calls Tryz.prog 17 #[.slice a l.length cap] w (zL4 (zHt (zC6 l)) w):=by
 have HA:=zB h
 clear h
 go_enter Tryz.func17,Tryz.ntmps17
 go_wp2_with fail
 have HB0:=zB (show Below w.heap.size w ((w.alloc (.cells #[.slice none 0 0] 25)).alloc (.cells #[.slice none 0 0] 28)) from (zC _ _).alloc (by simp) _)
 (with_reducible refine (zIU a cap l _ hl hcap ((zA HA).step (zA HB0))).mono ?_)
 rintro e w1 ⟨⟨rp,cap',rfl,hrp,H1⟩,hb1⟩
 have z1:w.heap.size + 2 <= w1.heap.size:=by have:=hb1.size; simpa using this
 have hrp2:w.heap.size + 2 <= rp:=by simpa using hrp
 have q0:w1.cell? ⟨w.heap.size,0,none⟩ = some (.slice none 0 0):=(hb1.cell (p:=⟨w.heap.size,0,none⟩) (by simp; omega)).trans (by simp [go_sem])
 have g0:w1.frozen? ⟨w.heap.size,0,none⟩ = false:=(hb1.frozen (p:=⟨w.heap.size,0,none⟩) (by simp; omega)).trans (by simp [go_sem])
 have q1:w1.cell? ⟨w.heap.size + 1,0,none⟩ = some (.slice none 0 0):=(hb1.cell (p:=⟨w.heap.size + 1,0,none⟩) (by simp)).trans (by simp [go_sem])
 have g1:w1.frozen? ⟨w.heap.size + 1,0,none⟩ = false:=(hb1.frozen (p:=⟨w.heap.size + 1,0,none⟩) (by simp)).trans (by simp [go_sem])
 have bel1:=zB ((zA HB0).trans (hb1.mono (by simp; omega)))
 have hrl:=(zA H1).lt
 clear hb1 HB0 hrp
 go_wp2_with fail
 (with_reducible refine (Z9 rp cap' 0 a (zC6 l) _ (zA H1) (zHn l)).mono ?_)
 rintro e w2 ⟨⟨k,rfl,hk,HK⟩,H2,HP2⟩
 have z2:=(zA HP2).size
 have HXX:=zB (zDF rp cap' (adv (zC6 l) 0) a (zC6 l) w2 (zA H2) (zHn l))
 clear H1
 go_wp2_with fail
 (with_reducible refine (zA HXX).mono ?_)
 rintro e w3 ⟨⟨gt,ct,gn,cn,ns,us,rfl,hgt,hgn,hF,hN,hD⟩,hk3⟩
 have HKK:=zB ((zA HP2).trans (zA hk3))
 have Q0:=((zA HKK).cell (b:=w.heap.size) (by omega) (by omega) 0).trans q0
 have G0:=((zA HKK).frozen (b:=w.heap.size) (by omega) (by omega) 0).trans g0
 have Q1:=((zA HKK).cell (b:=w.heap.size + 1) (by omega) (by omega) 0).trans q1
 have G1:=((zA HKK).frozen (b:=w.heap.size + 1) (by omega) (by omega) 0).trans g1
 have z3:=(zA hk3).size
 have l0:w.heap.size < w3.heap.size:=by omega
 have l1:w.heap.size + 1 < w3.heap.size:=by omega
 have bel2:=zB ((zA bel1).trans ((zA HKK).below (B:=w.heap.size) (by omega) (by omega)))
 have n0:¬ w.heap.size = w3.heap.size:=by omega
 have n1:¬ w.heap.size + 1 = w3.heap.size:=by omega
 have n2:¬ w.heap.size = w3.heap.size + 1:=by omega
 have n3:¬ w.heap.size + 1 = w3.heap.size + 1:=by omega
 clear q0 g0 q1 g1 bel1 hk3 HP2 HKK H2 HXX
 have hKN:=(zA hD).kinds
 have hSZ:=(zA hD).sized
 have hFl:=(zA hF).1
 have hNl:=(zA hN).1
 have HWA:=zB (show Below w3.heap.size w3 ((w3.alloc (.cells #[.slice (some ⟨gt,0,none⟩) ns.length ct] 25)).alloc (.cells #[.slice (some ⟨gn,0,none⟩) us.length cn] 28)) from (zC _ _).alloc (by simp) _)
 have HF3:=zB ((zA hF).below (zA HWA) hFl)
 have HN3:=zB ((zA hN).below (zA HWA) hNl)
 have lW:w3.heap.size < ((w3.alloc (.cells #[.slice (some ⟨gt,0,none⟩) ns.length ct] 25)).alloc (.cells #[.slice (some ⟨gn,0,none⟩) us.length cn] 28)).heap.size:=by simp; omega
 have HKN:=zB hKN
 have hnl:ns.length <= 1048576:=hSZ.1
 clear hKN hSZ
 by_cases h63:k % 64 = 63
 ·have e63:((k:Int) % 64 == 63) = true:=by simp; omega
  obtain ⟨N,HN⟩:∃ N,Hid (N = 19998 + k / 64):=⟨_,zB rfl⟩
  have hN5:N <= 50000:=by have:=zA HN; omega
  have eW:IntKind.i64.wrap (19998 + IntKind.i64.wrap ((k:Int) / 64)) = (N:Int):=by
   rw [Go.IntWalk.i64_in ((k:Int) / 64) (by omega),Go.IntWalk.i64_in _ (by omega)]
   have:=zA HN
   omega
  obtain ⟨WA,hWA⟩:∃ WA,WA = ((w3.alloc (.cells #[.slice (some ⟨gt,0,none⟩) ns.length ct] 25)).alloc (.cells #[.slice (some ⟨gn,0,none⟩) us.length cn] 28)):=⟨_,rfl⟩
  have T0:WA.cell? ⟨w3.heap.size,0,none⟩ = some (.slice (some ⟨gt,0,none⟩) ns.length ct):=by rw [hWA]; simp [go_sem]
  have Q0W:WA.cell? ⟨w.heap.size,0,none⟩ = some (.slice none 0 0):=by rw [hWA]; exact ((zA HWA).cell (p:=⟨w.heap.size,0,none⟩) l0).trans Q0
  have G0W:WA.frozen? ⟨w.heap.size,0,none⟩ = false:=by rw [hWA]; exact ((zA HWA).frozen (p:=⟨w.heap.size,0,none⟩) l0).trans G0
  have Q1W:WA.cell? ⟨w.heap.size + 1,0,none⟩ = some (.slice none 0 0):=by rw [hWA]; exact ((zA HWA).cell (p:=⟨w.heap.size + 1,0,none⟩) l1).trans Q1
  have G1W:WA.frozen? ⟨w.heap.size + 1,0,none⟩ = false:=by rw [hWA]; exact ((zA HWA).frozen (p:=⟨w.heap.size + 1,0,none⟩) l1).trans G1
  have l3W:w3.heap.size < WA.drew.heap.size:=by rw [hWA]; exact lW
  have l0W:w.heap.size < WA.drew.heap.size:=by omega
  have l1W:w.heap.size + 1 < WA.drew.heap.size:=by omega
  rw [<- hWA] at HF3
  have HFD:=zB (show zf WA.drew gt ns ns.length from zA HF3)
  have HX:=zB (zCY gt ct N ns WA.drew hnl (zA HKN) (zA HFD).ops (zA HFD).1 hN5)
  have belA:=zB (show Below w.heap.size w WA.drew from ((zA bel2).trans (by rw [hWA]; exact (zA HWA).mono (by omega))).drew)
  rw [hWA] at HX
  go_wp2_with fail
  go_region_held3 (fun W=>W.cell? ⟨w3.heap.size,0,none⟩ = some (.slice (some ⟨gt,0,none⟩) ns.length ct)) (go_keep) (first | (go_at_call 50; (with_reducible refine (zA HX).mono ?_); rintro e w5 ⟨⟨g5,c5,i5,rfl,hg5,hF5,hC5⟩,hb5⟩; rw [<- hWA] at hg5 hb5; have b5:=(hb5.cell (p:=⟨w3.heap.size,0,none⟩) l3W).trans T0; have Q5:=(hb5.cell (p:=⟨w.heap.size,0,none⟩) l0W).trans Q0W; have G5:=(hb5.frozen (p:=⟨w.heap.size,0,none⟩) l0W).trans G0W; have Q6:=(hb5.cell (p:=⟨w.heap.size + 1,0,none⟩) l1W).trans Q1W; have G6:=(hb5.frozen (p:=⟨w.heap.size + 1,0,none⟩) l1W).trans G1W; have l05:w.heap.size < w5.heap.size:=(by have:=hb5.size; omega); have l15:w.heap.size + 1 < w5.heap.size:=(by have:=hb5.size; omega)))
  all_goals
   have HTF:=zB (zf.setCell (zf.setCell ((zA HFD).below hb5 (zA HFD).1) ⟨w.heap.size,0,none⟩ (.slice (some ⟨gt,0,none⟩) ns.length ct) (by show w.heap.size ≠ gt; omega)) ⟨w.heap.size + 1,0,none⟩ (.slice (some ⟨g5,0,none⟩) (cT ns i5).length c5) (by show w.heap.size + 1 ≠ gt; omega))
   have hg6:w.heap.size + 2 <= g5:=by omega
   have HTN:=zB ((hF5.setCell w.heap.size 0 (.slice (some ⟨gt,0,none⟩) ns.length ct) (by omega)).setCell (w.heap.size + 1) 0 (.slice (some ⟨g5,0,none⟩) (cT ns i5).length c5) (by omega))
   have HBF:=zB ((((zA belA).trans (hb5.mono (by omega))).setCell (p:=⟨w.heap.size,0,none⟩) (Nat.le_refl _) (.slice (some ⟨gt,0,none⟩) ns.length ct)).setCell (p:=⟨w.heap.size + 1,0,none⟩) (by simp) (.slice (some ⟨g5,0,none⟩) (cT ns i5).length c5))
   have HDD:=zB (show zHt (zC6 l) ns (cT ns i5) from ⟨us,zA hD,Or.inl ⟨by rw [<- zA HK]; exact h63,i5,by rw [<- zA HK,<- zA HN]; exact hC5,rfl⟩⟩)
   clear hF5 hb5
   go_wp2
   refine bodyPost_ret (v:=.tuple #[.agg #[.slice (some ⟨gt,0,none⟩) ns.length ct],.agg #[.slice (some ⟨g5,0,none⟩) (cT ns i5).length c5]]) ?res rfl ⟨⟨gt,ct,g5,c5,ns,cT ns i5,rfl,by omega,by omega,HTF,HTN,HDD⟩,zA HBF⟩
   case res=>simp [results,Tryz.results17,go_sem,Q5,Q6,l05,l15]
 ·have e63:((k:Int) % 64 == 63) = false:=by simp; omega
  by_cases h62:k % 64 = 62
  ·have e62:((k:Int) % 64 == 62) = true:=by simp; omega
   obtain ⟨N,HN⟩:∃ N,Hid (N = 1000):=⟨_,zB rfl⟩
   have hN5:N <= 50000:=by have:=zA HN; omega
   have eW:(1000:Int) = (N:Int):=by have:=zA HN; omega
   obtain ⟨WA,hWA⟩:∃ WA,WA = ((w3.alloc (.cells #[.slice (some ⟨gt,0,none⟩) ns.length ct] 25)).alloc (.cells #[.slice (some ⟨gn,0,none⟩) us.length cn] 28)):=⟨_,rfl⟩
   have T0:WA.cell? ⟨w3.heap.size,0,none⟩ = some (.slice (some ⟨gt,0,none⟩) ns.length ct):=by rw [hWA]; simp [go_sem]
   have Q0W:WA.cell? ⟨w.heap.size,0,none⟩ = some (.slice none 0 0):=by rw [hWA]; exact ((zA HWA).cell (p:=⟨w.heap.size,0,none⟩) l0).trans Q0
   have G0W:WA.frozen? ⟨w.heap.size,0,none⟩ = false:=by rw [hWA]; exact ((zA HWA).frozen (p:=⟨w.heap.size,0,none⟩) l0).trans G0
   have Q1W:WA.cell? ⟨w.heap.size + 1,0,none⟩ = some (.slice none 0 0):=by rw [hWA]; exact ((zA HWA).cell (p:=⟨w.heap.size + 1,0,none⟩) l1).trans Q1
   have G1W:WA.frozen? ⟨w.heap.size + 1,0,none⟩ = false:=by rw [hWA]; exact ((zA HWA).frozen (p:=⟨w.heap.size + 1,0,none⟩) l1).trans G1
   have l3W:w3.heap.size < WA.drew.heap.size:=by rw [hWA]; exact lW
   have l0W:w.heap.size < WA.drew.heap.size:=by omega
   have l1W:w.heap.size + 1 < WA.drew.heap.size:=by omega
   rw [<- hWA] at HF3
   have HFD:=zB (show zf WA.drew gt ns ns.length from zA HF3)
   have HX:=zB (zCY gt ct N ns WA.drew hnl (zA HKN) (zA HFD).ops (zA HFD).1 hN5)
   have belA:=zB (show Below w.heap.size w WA.drew from ((zA bel2).trans (by rw [hWA]; exact (zA HWA).mono (by omega))).drew)
   rw [hWA,<- eW] at HX
   clear eW
   go_wp2_with fail
   go_region_held3 (fun W=>W.cell? ⟨w3.heap.size,0,none⟩ = some (.slice (some ⟨gt,0,none⟩) ns.length ct)) (go_keep) (first | (go_at_call 50; (with_reducible refine (zA HX).mono ?_); rintro e w5 ⟨⟨g5,c5,i5,rfl,hg5,hF5,hC5⟩,hb5⟩; rw [<- hWA] at hg5 hb5; have b5:=(hb5.cell (p:=⟨w3.heap.size,0,none⟩) l3W).trans T0; have Q5:=(hb5.cell (p:=⟨w.heap.size,0,none⟩) l0W).trans Q0W; have G5:=(hb5.frozen (p:=⟨w.heap.size,0,none⟩) l0W).trans G0W; have Q6:=(hb5.cell (p:=⟨w.heap.size + 1,0,none⟩) l1W).trans Q1W; have G6:=(hb5.frozen (p:=⟨w.heap.size + 1,0,none⟩) l1W).trans G1W; have l05:w.heap.size < w5.heap.size:=(by have:=hb5.size; omega); have l15:w.heap.size + 1 < w5.heap.size:=(by have:=hb5.size; omega)))
   all_goals
    have HTF:=zB (zf.setCell (zf.setCell ((zA HFD).below hb5 (zA HFD).1) ⟨w.heap.size,0,none⟩ (.slice (some ⟨gt,0,none⟩) ns.length ct) (by show w.heap.size ≠ gt; omega)) ⟨w.heap.size + 1,0,none⟩ (.slice (some ⟨g5,0,none⟩) (cT ns i5).length c5) (by show w.heap.size + 1 ≠ gt; omega))
    have hg6:w.heap.size + 2 <= g5:=by omega
    have HTN:=zB ((hF5.setCell w.heap.size 0 (.slice (some ⟨gt,0,none⟩) ns.length ct) (by omega)).setCell (w.heap.size + 1) 0 (.slice (some ⟨g5,0,none⟩) (cT ns i5).length c5) (by omega))
    have HBF:=zB ((((zA belA).trans (hb5.mono (by omega))).setCell (p:=⟨w.heap.size,0,none⟩) (Nat.le_refl _) (.slice (some ⟨gt,0,none⟩) ns.length ct)).setCell (p:=⟨w.heap.size + 1,0,none⟩) (by simp) (.slice (some ⟨g5,0,none⟩) (cT ns i5).length c5))
    have HDD:=zB (show zHt (zC6 l) ns (cT ns i5) from ⟨us,zA hD,Or.inr (Or.inl ⟨by rw [<- zA HK]; exact h62,i5,by rw [<- zA HN]; exact hC5,rfl⟩)⟩)
    clear hF5 hb5
    go_wp2
    refine bodyPost_ret (v:=.tuple #[.agg #[.slice (some ⟨gt,0,none⟩) ns.length ct],.agg #[.slice (some ⟨g5,0,none⟩) (cT ns i5).length c5]]) ?res rfl ⟨⟨gt,ct,g5,c5,ns,cT ns i5,rfl,by omega,by omega,HTF,HTN,HDD⟩,zA HBF⟩
    case res=>simp [results,Tryz.results17,go_sem,Q5,Q6,l05,l15]
  ·have e62:((k:Int) % 64 == 62) = false:=by simp; omega
   go_wp2_with fail
   go_region
   all_goals go_wp2
   all_goals
    refine bodyPost_ret (v:=.tuple #[.agg #[.slice (some ⟨gt,0,none⟩) ns.length ct],.agg #[.slice (some ⟨gn,0,none⟩) us.length cn]]) ?res rfl ⟨⟨gt,ct,gn,cn,ns,us,rfl,by omega,by omega,zB (Kp3.filledT (x:=w.heap.size) (y:=w.heap.size + 1) (z:=w.heap.size) (((((Kp3.refl _ _ _ _).setX _ |>.setY _).push _).push _).drew) (zA HF3) (by omega) (by omega) (by omega)),zB (Kp3.filledN (x:=w.heap.size) (y:=w.heap.size + 1) (z:=w.heap.size) (((((Kp3.refl _ _ _ _).setX _ |>.setY _).push _).push _).drew) (zA HN3) (by omega) (by omega) (by omega)),zB ⟨us,zA hD,Or.inr (Or.inr ⟨by rw [<- zA HK]; exact h63,by rw [<- zA HK]; exact h62,rfl⟩)⟩⟩,?bel⟩
    case res=>simp [results,Tryz.results17,go_sem,Q0,Q1,l0,l1,n0,n1,n2,n3]
    case bel=>exact (((((zA bel2).setCell (Nat.le_refl _) _).setCell (by simp) _).alloc (by simp [World.setCell]; omega) _).alloc (by simp [World.setCell]; omega) _).drew
end Go.Proofs.YtfboipappaonhaaGreat
namespace Go.Proofs.YtfboipappaonhaaGreat
set_option linter.unusedSimpArgs false
set_option linter.unusedVariables false
set_option maxHeartbeats 16000000
set_option maxRecDepth 100000
open Go.RowKit
open Go.Deep (BT)
abbrev ET:=BT ByteArray
def tsz:ET -> Nat
 | .nil=>0
 | .node _ _ _ l r=>tsz l + tsz r + 1
def tN (b:Nat) (t:ByteArray) (l r:ET) (s:Nat):zD:=
 ⟨(b:Int),t,if zR (b:Int) = 0 then 0 else ((s + tsz l:Nat):Int) - 1,if zR (b:Int) = 2 then ((s + tsz l + tsz r:Nat):Int) - 1 else 0⟩
def nd:ET -> Nat -> List zD
 | .nil,_=>[]
 | .node b _ t l r,s=>nd l s ++ nd r (s + tsz l) ++ [tN b t l r s]
theorem zj:∀ (T:ET) (s:Nat),(nd T s).length = tsz T
 | .nil,_=>rfl
 | .node b o t l r,s=>by simp [nd,tsz,zj l,zj r]; omega
def Sh:ET -> Prop
 | .nil=>False
 | .node b o _ l r=>o = 0 /\ ((zR (b:Int) = 0 /\ l = .nil /\ r = .nil) \/ (zR (b:Int) = 1 /\ Sh l /\ r = .nil) \/ (zR (b:Int) = 2 /\ Sh l /\ Sh r))
theorem Sh.pos:∀ {T:ET},Sh T -> 1 <= tsz T
 | .nil,h=>h.elim
 | .node _ _ _ _ _,_=>by simp [tsz]
def zBR (xs:List zD):ET -> Nat -> Prop
 | .nil,_=>True
 | .node b _ t l r,s=>zBR xs l s /\ zBR xs r (s + tsz l) /\ atN xs (s + tsz l + tsz r) = tN b t l r s
theorem zA3 {xs ys:List zD} {i:Nat} (h:i < xs.length):atN (xs ++ ys) i = atN xs i:=by
 simp [atN,List.getD,List.getElem?_append,h]
theorem zAB {xs ys:List zD} {i:Nat} (h:xs.length <= i):atN (xs ++ ys) i = atN ys (i - xs.length):=by
 simp [atN,List.getD,List.getElem?_append_right h]
theorem zL5 (pre post:List zD):∀ (T:ET) (s:Nat),s = pre.length -> zBR (pre ++ (nd T s ++ post)) T s:=by
 intro T
 induction T generalizing pre post with
 | nil=>intro _ _; trivial
 | node b o t l r ihl ihr=>
  intro s hs
  subst hs
  refine ⟨?_,?_,?_⟩
  ·have:=ihl pre (nd r (pre.length + tsz l) ++ [tN b t l r pre.length] ++ post) pre.length rfl
   simpa [nd,List.append_assoc] using this
  ·have:=ihr (pre ++ nd l pre.length) ([tN b t l r pre.length] ++ post) (pre.length + tsz l) (by simp [zj])
   simpa [nd,List.append_assoc] using this
  ·rw [zAB (by omega)]
   have e:pre.length + tsz l + tsz r - pre.length = tsz l + tsz r:=by omega
   rw [e,zA3 (by simp [nd,zj])]
   simp only [nd]
   rw [zAB (by simp [zj])]
   simp [zj,atN]
theorem Zu (T:ET):zBR (nd T 0) T 0:=by
 have:=zL5 [] [] T 0 rfl
 simpa using this
theorem zHu {xs:List zD}:∀ (T:ET) (s:Nat),zBR xs T s -> ∀ j,j < tsz T -> atN xs (s + j) = atN (nd T s) j:=by
 intro T
 induction T with
 | nil=>intro s _ j hj; simp [tsz] at hj
 | node b o t l r ihl ihr=>
  rintro s ⟨h1,h2,h3⟩ j hj
  simp only [tsz] at hj
  simp only [nd]
  by_cases c1:j < tsz l
  ·rw [ihl s h1 j c1,List.append_assoc,zA3 (by rw [zj]; exact c1)]
  ·by_cases c2:j < tsz l + tsz r
   ·have:=ihr (s + tsz l) h2 (j - tsz l) (by omega)
    have e:s + tsz l + (j - tsz l) = s + j:=by omega
    rw [e] at this
    rw [this,zA3 (by simp [zj]; omega),zAB (by rw [zj]; omega),zj]
   ·have e:j = tsz l + tsz r:=by omega
    subst e
    rw [<- Nat.add_assoc,h3,zAB (by simp [zj])]
    simp [zj,atN]
theorem zIg {xs:List zD} {T:ET} (h:zBR xs T 0) (hl:xs.length = tsz T):xs = nd T 0:=by
 apply List.ext_getElem (by rw [zj,hl])
 intro i h1 h2
 have:=zHu T 0 h i (by omega)
 rw [Nat.zero_add] at this
 simpa [atN,List.getD,h1,h2] using this
theorem Z6 {xs:List zD}:∀ (T:ET) (s:Nat),Sh T -> zBR xs T s -> frS xs (s + tsz T - 1) = some s:=by
 intro T
 induction T with
 | nil=>intro s h; exact h.elim
 | node b o t l r ihl ihr=>
  rintro s ⟨_,hsh⟩ ⟨h1,h2,h3⟩
  have e:s + tsz (.node b o t l r) - 1 = s + tsz l + tsz r:=by simp only [tsz]; omega
  rw [e]
  rcases hsh with ⟨hk,rfl,rfl⟩ | ⟨hk,hl,rfl⟩ | ⟨hk,hl,hr⟩
  ·simp only [tsz,Nat.add_zero] at h3 ⊢
   have hk':zR (atN xs s).k = 0:=by rw [h3]; exact hk
   rw [zDQ hk',if_pos]
   rw [h3]
   simp [tN,hk]
  ·simp only [tsz,Nat.add_zero] at h3 ⊢
   have hp:=hl.pos
   have hk':zR (atN xs (s + tsz l)).k = 1:=by rw [h3]; exact hk
   rw [zEh hk',if_pos]
   ·exact ihl s hl h1
   ·rw [h3]
    simp [tN,hk]
    omega
  ·have hp:=hl.pos
   have hq:=hr.pos
   have hk':zR (atN xs (s + tsz l + tsz r)).k = 2:=by rw [h3]; exact hk
   have f2:=ihr (s + tsz l) hr h2
   rw [zEi hk' (by omega) (by rw [h3]; simp [tN,hk]) f2 (by omega) (by rw [h3]; simp [tN,hk])]
   exact ihl s hl h1
theorem zBl (xs:List zD) (htx:∀ i,i < xs.length -> 0 <= (atN xs i).k):∀ n i f,i < n -> i < xs.length -> frS xs i = some f -> ∃ T,Sh T /\ f + tsz T = i + 1 /\ zBR xs T f
 | 0,_,_,h,_,_=>absurd h (Nat.not_lt_zero _)
 | n + 1,i,f,h,hi,hf=>by
  have hkk:(((atN xs i).k.toNat:Nat):Int) = (atN xs i).k:=Int.toNat_of_nonneg (htx i hi)
  rcases Z1 hf with ⟨hk,ha,hb,hfi⟩ | ⟨hk,h1i,ha,hbb,hf1⟩ | ⟨hk,h1i,hbb,f2,hf2,h2f,ha,hf1⟩
  ·refine ⟨.node (atN xs i).k.toNat 0 (atN xs i).t .nil .nil,⟨rfl,Or.inl ⟨by rw [hkk]; exact hk,rfl,rfl⟩⟩,by simp [tsz]; omega,trivial,trivial,?_⟩
   simp only [tsz,Nat.add_zero,tN,hkk,hk]
   rw [hfi]
   generalize atN xs i = o at *
   cases o
   simp_all
  ·have hle:=ZU hf1
   obtain ⟨T,hs,hz,hl⟩:=zBl xs htx n (i - 1) f (by omega) (by omega) hf1
   have hp:=hs.pos
   refine ⟨.node (atN xs i).k.toNat 0 (atN xs i).t T .nil,⟨rfl,Or.inr (Or.inl ⟨by rw [hkk]; exact hk,hs,rfl⟩)⟩,by simp [tsz]; omega,hl,trivial,?_⟩
   have e:f + tsz T + tsz (BT.nil:ET) = i:=by simp [tsz]; omega
   rw [e]
   simp only [tN,hkk,hk]
   have e2:((f + tsz T:Nat):Int) - 1 = (i:Int) - 1:=by omega
   rw [e2]
   generalize atN xs i = o at *
   cases o
   simp_all
  ·have hle:=ZU hf2
   have hle1:=ZU hf1
   obtain ⟨T1,hs1,hz1,hl1⟩:=zBl xs htx n (f2 - 1) f (by omega) (by omega) hf1
   obtain ⟨T2,hs2,hz2,hl2⟩:=zBl xs htx n (i - 1) f2 (by omega) (by omega) hf2
   have hp:=hs1.pos
   have hq:=hs2.pos
   have ef:f + tsz T1 = f2:=by omega
   refine ⟨.node (atN xs i).k.toNat 0 (atN xs i).t T1 T2,⟨rfl,Or.inr (Or.inr ⟨by rw [hkk]; exact hk,hs1,hs2⟩)⟩,by simp [tsz]; omega,hl1,by rw [ef]; exact hl2,?_⟩
   have e:f + tsz T1 + tsz T2 = i:=by omega
   rw [e]
   simp only [tN,hkk,hk]
   have e2:((f + tsz T1:Nat):Int) - 1 = (f2:Int) - 1:=by omega
   have e3:((f + tsz T1 + tsz T2:Nat):Int) - 1 = (i:Int) - 1:=by omega
   rw [e2,e3]
   generalize atN xs i = o at *
   cases o
   simp_all
theorem Zk.nonneg {o:zD} (h:Zk o):0 <= o.k:=by
 rcases h.2 with ⟨h,_⟩ | ⟨h,_⟩ | ⟨h,_⟩ | ⟨h | h | h,_⟩ <;> omega
theorem zHv {xs:List zD} (h:zu xs):∃ T,Sh T /\ tsz T = xs.length /\ xs = nd T 0:=by
 obtain ⟨T,hs,hz,hl⟩:=zBl xs (fun i hi=>(h.2.2.2 i hi).nonneg) xs.length (xs.length - 1) 0 (by have:=h.1; omega) (by have:=h.1; omega) h.2.2.1
 have e:tsz T = xs.length:=by have:=h.1; omega
 exact ⟨T,hs,e,zIg hl e.symm⟩
def rt (b:Nat) (t:ByteArray):zD:=⟨(b:Int),t,0,0⟩
def clT (ns:List OpR) (b:Nat) (t:ByteArray) (least:Int) (T:ET):ET:=if ZI ns (rt b t) < least then .node 6 0 ByteArray.empty T .nil else T
def grT (ns:List OpR):ET -> Int -> ET
 | .nil,_=>.nil
 | .node b _ t l r,least=>if b = 6 then grT ns l least else clT ns b t least (.node b 0 t (grT ns l (zT ns (rt b t) false)) (grT ns r (zT ns (rt b t) true)))
def exT (ns:List OpR):ET -> Value
 | .nil=>.nilIface
 | .node b _ t l r=>exN (opA ns (rt b t)) (rt b t) (exT ns l) (exT ns r)
theorem zGw (ns:List OpR) (o:zD) (b:Nat) (t:ByteArray) (h1:o.k = (b:Int)) (h2:o.t = t):ZI ns o = ZI ns (rt b t):=by
 unfold ZI rt; rw [h1,h2]
theorem zB5 (ns:List OpR) (o:zD) (b:Nat) (t:ByteArray) (h1:o.k = (b:Int)) (h2:o.t = t) (c:Bool):zT ns o c = zT ns (rt b t) c:=by
 unfold zT rt; rw [h1,h2]
theorem zIh (ns:List OpR) (o:zD) (b:Nat) (t:ByteArray) (h1:o.k = (b:Int)) (h2:o.t = t):opA ns o = opA ns (rt b t):=by
 unfold opA rt; rw [h1,h2]
theorem zIi (p:OpR) (o:zD) (b:Nat) (t:ByteArray) (h1:o.k = (b:Int)) (h2:o.t = t) (e e':Value):exN p o e e' = exN p (rt b t) e e':=by
 unfold exN rt; rw [h1,h2]
theorem zGx (ns:List OpR) (o:zD) (b:Nat) (t:ByteArray) (h1:o.k = (b:Int)) (h2:o.t = t) (least:Int) (s:Nat) (T:ET) (u:List zD) (hu:u = nd T s):zAk ns o least s u = nd (clT ns b t least T) s:=by
 subst hu
 unfold zAk clT
 rw [zGw ns o b t h1 h2]
 split
 ·simp only [nd,tN,zj,tsz]
  simp [show zR 6 = 1 from rfl,show zR ((6:Nat):Int) = 1 from rfl]
 ·rfl
theorem zL6 (ns:List OpR) (xs:List zD):∀ (T:ET) (s:Nat),Sh T -> zBR xs T s -> ∀ (l:Int) (p:Nat),gS ns xs (s + tsz T - 1) l p = nd (grT ns T l) p:=by
 intro T
 induction T with
 | nil=>intro s h; exact h.elim
 | node b o t l r ihl ihr=>
  rintro s ⟨h0,hsh⟩ ⟨h1,h2,h3⟩ least p
  have e:s + tsz (.node b o t l r) - 1 = s + tsz l + tsz r:=by simp only [tsz]; omega
  rw [e]
  have hK:(atN xs (s + tsz l + tsz r)).k = (b:Int):=by rw [h3]; rfl
  have hT:(atN xs (s + tsz l + tsz r)).t = t:=by rw [h3]; rfl
  have hb6:((atN xs (s + tsz l + tsz r)).k = 6) ↔ b = 6:=by rw [hK]; omega
  rcases hsh with ⟨hk,rfl,rfl⟩ | ⟨hk,hl,rfl⟩ | ⟨hk,hl,hr⟩
  ·have hk':zR (atN xs (s + tsz (BT.nil:ET) + tsz (BT.nil:ET))).k = 0:=by rw [hK]; exact hk
   have h6:¬ b = 6:=fun e=>by subst e; exact absurd hk (by decide)
   rw [zBD hk']
   simp only [grT,if_neg h6]
   refine zGx ns _ b t hK hT least p _ _ ?_
   rw [hK,hT]
   simp [nd,tN,hk,tsz,grT]
  ·have hp:=hl.pos
   simp only [tsz,Nat.add_zero] at hK hT hb6 h3 ⊢
   have hk':zR (atN xs (s + tsz l)).k = 1:=by rw [hK]; exact hk
   have hfr:=Z6 l s hl h1
   by_cases h6:b = 6
   ·rw [zBO (hb6.2 h6) (by omega) hfr,ihl s hl h1]
    simp only [grT,if_pos h6]
   ·rw [zCO hk' (fun x=>h6 (hb6.1 x)) (by omega) hfr least p (ihl s hl h1 _ p).symm]
    simp only [grT,if_neg h6]
    rw [zB5 ns _ b t hK hT]
    refine zGx ns _ b t hK hT least p _ _ ?_
    simp [nd,tN,hK,hT,hk,tsz,zj,grT]
  ·have hp:=hl.pos
   have hq:=hr.pos
   have hk':zR (atN xs (s + tsz l + tsz r)).k = 2:=by rw [hK]; exact hk
   have h6:¬ b = 6:=fun e=>by subst e; exact absurd hk (by decide)
   have f2:=Z6 r (s + tsz l) hr h2
   have f1:=Z6 l s hl h1
   rw [zDB hk' (by omega) f2 (by omega) (by rw [h3]; simp [tN,hk]) f1 least p (ihl s hl h1 _ p).symm (ihr (s + tsz l) hr h2 _ _).symm]
   simp only [grT,if_neg h6]
   rw [zB5 ns _ b t hK hT,zB5 ns _ b t hK hT]
   refine zGx ns _ b t hK hT least p _ _ ?_
   rw [hK,hT]
   simp [nd,tN,hk,tsz,zj,Nat.add_assoc]
theorem zFO (ns:List OpR) (o:zD) (b:Nat) (t:ByteArray) (h1:o.k = (b:Int)) (h2:o.t = t) (least:Int) (T:ET) (e:Value) (he:e = exT ns T):zA7 ns o least e = exT ns (clT ns b t least T):=by
 subst he
 unfold zA7 clT
 rw [zGw ns o b t h1 h2]
 split
 ·simp [exT,exN,rt]
 ·rfl
theorem zL7 (ns:List OpR) (xs:List zD):∀ (T:ET) (s:Nat),Sh T -> zBR xs T s -> ∀ (l:Int),fS ns xs (s + tsz T - 1) l = exT ns (grT ns T l):=by
 intro T
 induction T with
 | nil=>intro s h; exact h.elim
 | node b o t l r ihl ihr=>
  rintro s ⟨h0,hsh⟩ ⟨h1,h2,h3⟩ least
  have e:s + tsz (.node b o t l r) - 1 = s + tsz l + tsz r:=by simp only [tsz]; omega
  rw [e]
  have hK:(atN xs (s + tsz l + tsz r)).k = (b:Int):=by rw [h3]; rfl
  have hT:(atN xs (s + tsz l + tsz r)).t = t:=by rw [h3]; rfl
  have hb6:((atN xs (s + tsz l + tsz r)).k = 6) ↔ b = 6:=by rw [hK]; omega
  rcases hsh with ⟨hk,rfl,rfl⟩ | ⟨hk,hl,rfl⟩ | ⟨hk,hl,hr⟩
  ·have hk':zR (atN xs (s + tsz (BT.nil:ET) + tsz (BT.nil:ET))).k = 0:=by rw [hK]; exact hk
   have h6:¬ b = 6:=fun e=>by subst e; exact absurd hk (by decide)
   rw [zDb hk']
   simp only [grT,if_neg h6]
   refine zFO ns _ b t hK hT least _ _ ?_
   rw [zIh ns _ b t hK hT,zIi _ _ b t hK hT]
   simp [exT,grT]
  ·have hp:=hl.pos
   simp only [tsz,Nat.add_zero] at hK hT hb6 h3 ⊢
   have hk':zR (atN xs (s + tsz l)).k = 1:=by rw [hK]; exact hk
   have hfr:=Z6 l s hl h1
   by_cases h6:b = 6
   ·rw [zDc (hb6.2 h6) (by omega) hfr,ihl s hl h1]
    simp only [grT,if_pos h6]
   ·rw [zD8 hk' (fun x=>h6 (hb6.1 x)) (by omega) hfr,ihl s hl h1]
    simp only [grT,if_neg h6]
    rw [zB5 ns _ b t hK hT]
    refine zFO ns _ b t hK hT least _ _ ?_
    rw [zIh ns _ b t hK hT,zIi _ _ b t hK hT]
    simp [exT,grT]
  ·have hp:=hl.pos
   have hq:=hr.pos
   have hk':zR (atN xs (s + tsz l + tsz r)).k = 2:=by rw [hK]; exact hk
   have h6:¬ b = 6:=fun e=>by subst e; exact absurd hk (by decide)
   have f2:=Z6 r (s + tsz l) hr h2
   have f1:=Z6 l s hl h1
   rw [zGt hk' (by omega) f2 (by omega) (by rw [h3]; simp [tN,hk]) f1,ihl s hl h1,ihr (s + tsz l) hr h2]
   simp only [grT,if_neg h6]
   rw [zB5 ns _ b t hK hT,zB5 ns _ b t hK hT]
   refine zFO ns _ b t hK hT least _ _ ?_
   rw [zIh ns _ b t hK hT,zIi _ _ b t hK hT]
   simp [exT]
end Go.Proofs.YtfboipappaonhaaGreat
