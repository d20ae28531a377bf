import Derived.Test.YtfboipappaonhaaGreatV18
import Derived.Test.YtfboipappaonhaaGreatV19
namespace Go.Proofs.YtfboipappaonhaaGreat
set_option linter.unusedSimpArgs false
set_option linter.unusedVariables false
set_option maxHeartbeats 16000000
set_option maxRecDepth 100000
open Go.RowKit
theorem zIj (k:Nat) {o d:OpR} (ho:0 <= o.k /\ o.k <= 9) (hd:0 <= d.k /\ d.k <= 9):0 <= (zAD k o d).k /\ (zAD k o d).k <= 9:=by
 unfold zAD
 split
 ·exact ho
 ·split
  ·exact ho
  ·split
   ·exact ho
   ·split
    ·exact ho
    ·split
     ·show 0 <= ((k / 8 % 5:Nat):Int) /\ ((k / 8 % 5:Nat):Int) <= 9
      omega
     ·split
      ·exact ho
      ·exact hd
theorem zJ9 (k:Nat):0 <= zt k /\ zt k <= 9:=by
 unfold zt
 split
 ·omega
 ·split <;> omega
theorem zIk {xs:List OpR} (h:∀ i,i < xs.length -> 0 <= (atO xs i).k /\ (atO xs i).k <= 9) (bs:List UInt8) (p:Nat):∀ i,i < (zAi xs bs p).length -> 0 <= (atO (zAi xs bs p) i).k /\ (atO (zAi xs bs p) i).k <= 9:=by
 unfold zAi
 split
 ·intro i hi
  rw [zCk] at hi
  have:atO (ZC (nxt bs (adv bs p)) (500 + nxt bs (adv bs p) % 2)) i = zET (nxt bs (adv bs p)) i:=by
   unfold atO ZC; simp [List.getD,hi]
  rw [this]
  show 0 <= (2:Int) /\ (2:Int) <= 9
  omega
 ·rename_i hne
  intro i hi
  rw [List.length_set] at hi
  by_cases e:i = nxt bs (adv bs p) % xs.length
  ·have:∀ o,atO (xs.set (nxt bs (adv bs p) % xs.length) o) i = o:=fun o=>by subst e; unfold atO; simp [List.getD,hi]
   rw [this]
   have h':=h _ hi
   rw [e] at h'
   exact zIj _ h' (zJ9 _)
  ·have:∀ o,atO (xs.set (nxt bs (adv bs p) % xs.length) o) i = atO xs i:=fun o=>by unfold atO; simp [List.getD,List.getElem?_set,Ne.symm e]
   rw [this]
   exact h i hi
theorem Z3.kinds {bs:List UInt8} {p:Nat} {ns:List OpR} {us:List zD} (h:Z3 bs p ns us):∀ i,i < ns.length -> 0 <= (atO ns i).k /\ (atO ns i).k <= 9:=by
 obtain ⟨ys,q,ht,hc⟩:=h
 have hk:=ht.kinds
 rcases hc with ⟨_,rfl,rfl⟩ | ⟨_,rfl,hc⟩
 ·intro i hi
  have:i = 0:=by have:i < 1:=hi; omega
  subst this
  show 0 <= (1:Int) /\ (1:Int) <= 9
  omega
 ·unfold tb1
  split
  ·exact zIk hk _ _
  ·exact hk
theorem Z3.texts {bs:List UInt8} {p:Nat} {ns:List OpR} {us:List zD} (h:Z3 bs p ns us):∀ i,(atO ns i).s.size <= 1001:=by
 obtain ⟨ys,q,ht,hc⟩:=h
 obtain ⟨h1,h2⟩:=ht.len
 have all:∀ xs:List OpR,(∀ i,i < xs.length -> (atO xs i).s.size <= 1001) -> ∀ i,(atO xs i).s.size <= 1001:=fun xs hx i=>by
  by_cases hi:i < xs.length
  ·exact hx i hi
  ·have:atO xs i = OpR.zero:=by unfold atO; simp [List.getD,List.getElem?_eq_none (Nat.le_of_not_lt hi)]
   rw [this]; show 0 <= 1001; omega
 rcases hc with ⟨_,rfl,rfl⟩ | ⟨_,rfl,hc⟩
 ·refine all _ (fun i hi=>?_)
  have:i = 0:=by have:i < 1:=hi; omega
  subst this
  show 1 <= 1001
  omega
 ·refine all _ ?_
  unfold tb1
  split
  ·exact (zGQ h2 bs _).2
  ·exact fun i hi=>by have:=h2 i hi; omega
theorem zJY {ns:List OpR} (h:∀ i,(atO ns i).s.size <= 1001):∀ i,ShN (cT ns i)
 | 0=>fun o ho=>by simp [cT] at ho; subst ho; show 1 <= 2000; omega
 | i + 1=>by
  have h1:=h (i % ns.length)
  simp only [cT]
  split
  ·exact ((zJY h i).snoc (by show 1 <= 2000; omega)).snoc (by show (atO ns _).s.size <= 2000; omega)
  ·exact (zJY h i).snoc (by show (atO ns _).s.size <= 2000; omega)
def zG4 (bs:List UInt8) (ns:List OpR) (us:List zD):Prop:=
 ∃ vs,Z3 bs (adv bs 0) ns vs /\ ((nxt bs 0 % 64 = 63 /\ ∃ i,ChN ns (19998 + nxt bs 0 / 64) i /\ us = cT ns i) \/ (nxt bs 0 % 64 = 62 /\ ∃ i,ChN ns 1000 i /\ us = cT ns i) \/ (nxt bs 0 % 64 ≠ 63 /\ nxt bs 0 % 64 ≠ 62 /\ us = vs))
theorem zG4.one {bs:List UInt8} {ns ns':List OpR} {us us':List zD} (h:zG4 bs ns us) (h':zG4 bs ns' us'):ns = ns' /\ us = us':=by
 obtain ⟨vs,ht,hc⟩:=h
 obtain ⟨vs',ht',hc'⟩:=h'
 obtain ⟨rfl,rfl⟩:=ht.one ht'
 refine ⟨rfl,?_⟩
 rcases hc with ⟨e,i,hi,rfl⟩ | ⟨e,i,hi,rfl⟩ | ⟨e,f,rfl⟩ <;> rcases hc' with ⟨e',i',hi',rfl⟩ | ⟨e',i',hi',rfl⟩ | ⟨e',f',rfl⟩
 ·rw [hi.one hi']
 ·omega
 ·omega
 ·omega
 ·rw [hi.one hi']
 ·omega
 ·omega
 ·omega
 ·rfl
theorem zG4.sized {bs:List UInt8} {ns:List OpR} {us:List zD} (h:zG4 bs ns us):ns.length <= 1048576 /\ Ze ns /\ us.length <= 30000 /\ ZX us:=by
 obtain ⟨vs,ht,hc⟩:=h
 obtain ⟨h1,h2,h3,h4⟩:=ht.sized
 have h8:=zGp bs 0
 refine ⟨h1,h2,?_⟩
 rcases hc with ⟨e,i,hi,rfl⟩ | ⟨e,i,hi,rfl⟩ | ⟨e,f,rfl⟩
 ·have:=hi.len
  exact ⟨by omega,(zJY ht.texts i).sized⟩
 ·have:=hi.len
  exact ⟨by omega,(zJY ht.texts i).sized⟩
 ·exact ⟨h3,h4⟩
theorem zF4 (a:Option Addr) (cap:Nat) (l:List UInt8) (w:World) (hl:l.length <= 1048576) (hcap:l.length <= cap) (h:zGq w a l) :
  Calls Tryz.prog 17 #[.slice a l.length cap] w (zJX (zG4 (zCs l)) w):=by
 have HA:=zB h
 clear h
 go_enter Tryz.func17,Tryz.ntmps17
 go_wp2_with fail
 have HB0:=zB (show Below w.heap.size w ((w.alloc (.cells #[.slice none 0 0] 25)).alloc (.cells #[.slice none 0 0] 28)) from (zC _ _).alloc (by simp) _)
 (with_reducible refine (zIb a cap l _ hl hcap ((zA HA).step (zA HB0))).mono ?_)
 rintro e w1 ⟨⟨rp,cap',rfl,hrp,H1⟩,hb1⟩
 have z1:w.heap.size + 2 <= w1.heap.size:=by have:=hb1.size; simpa using this
 have hrp2:w.heap.size + 2 <= rp:=by simpa using hrp
 have q0:w1.cell? ⟨w.heap.size,0,none⟩ = some (.slice none 0 0):=(hb1.cell (p:=⟨w.heap.size,0,none⟩) (by simp; omega)).trans (by simp [go_sem])
 have g0:w1.frozen? ⟨w.heap.size,0,none⟩ = false:=(hb1.frozen (p:=⟨w.heap.size,0,none⟩) (by simp; omega)).trans (by simp [go_sem])
 have q1:w1.cell? ⟨w.heap.size + 1,0,none⟩ = some (.slice none 0 0):=(hb1.cell (p:=⟨w.heap.size + 1,0,none⟩) (by simp)).trans (by simp [go_sem])
 have g1:w1.frozen? ⟨w.heap.size + 1,0,none⟩ = false:=(hb1.frozen (p:=⟨w.heap.size + 1,0,none⟩) (by simp)).trans (by simp [go_sem])
 have bel1:=zB ((zA HB0).trans (hb1.mono (by simp; omega)))
 have hrl:=(zA H1).lt
 clear hb1 HB0 hrp
 go_wp2_with fail
 (with_reducible refine (Zw rp cap' 0 a (zCs l) _ (zA H1) (zHw l)).mono ?_)
 rintro e w2 ⟨⟨k,rfl,hk,HK⟩,H2,HP2⟩
 have z2:=(zA HP2).size
 have HXX:=zB (zC8 rp cap' (adv (zCs l) 0) a (zCs l) w2 (zA H2) (zHw l))
 clear H1
 go_wp2_with fail
 (with_reducible refine (zA HXX).mono ?_)
 rintro e w3 ⟨⟨gt,ct,gn,cn,ns,us,rfl,hgt,hgn,hF,hN,hD⟩,hk3⟩
 have HKK:=zB ((zA HP2).trans (zA hk3))
 have Q0:=((zA HKK).cell (b:=w.heap.size) (by omega) (by omega) 0).trans q0
 have G0:=((zA HKK).frozen (b:=w.heap.size) (by omega) (by omega) 0).trans g0
 have Q1:=((zA HKK).cell (b:=w.heap.size + 1) (by omega) (by omega) 0).trans q1
 have G1:=((zA HKK).frozen (b:=w.heap.size + 1) (by omega) (by omega) 0).trans g1
 have z3:=(zA hk3).size
 have l0:w.heap.size < w3.heap.size:=by omega
 have l1:w.heap.size + 1 < w3.heap.size:=by omega
 have bel2:=zB ((zA bel1).trans ((zA HKK).below (B:=w.heap.size) (by omega) (by omega)))
 have n0:¬ w.heap.size = w3.heap.size:=by omega
 have n1:¬ w.heap.size + 1 = w3.heap.size:=by omega
 have n2:¬ w.heap.size = w3.heap.size + 1:=by omega
 have n3:¬ w.heap.size + 1 = w3.heap.size + 1:=by omega
 clear q0 g0 q1 g1 bel1 hk3 HP2 HKK H2 HXX
 have hKN:=(zA hD).kinds
 have hSZ:=(zA hD).sized
 have hFl:=(zA hF).1
 have hNl:=(zA hN).1
 have HWA:=zB (show Below w3.heap.size w3 ((w3.alloc (.cells #[.slice (some ⟨gt,0,none⟩) ns.length ct] 25)).alloc (.cells #[.slice (some ⟨gn,0,none⟩) us.length cn] 28)) from (zC _ _).alloc (by simp) _)
 have HF3:=zB ((zA hF).below (zA HWA) hFl)
 have HN3:=zB ((zA hN).below (zA HWA) hNl)
 have lW:w3.heap.size < ((w3.alloc (.cells #[.slice (some ⟨gt,0,none⟩) ns.length ct] 25)).alloc (.cells #[.slice (some ⟨gn,0,none⟩) us.length cn] 28)).heap.size:=by simp; omega
 have HKN:=zB hKN
 have hnl:ns.length <= 1048576:=hSZ.1
 clear hKN hSZ
 by_cases h63:k % 64 = 63
 ·have e63:((k:Int) % 64 == 63) = true:=by simp; omega
  obtain ⟨N,HN⟩:∃ N,Hid (N = 19998 + k / 64):=⟨_,zB rfl⟩
  have hN5:N <= 50000:=by have:=zA HN; omega
  have eW:IntKind.i64.wrap (19998 + IntKind.i64.wrap ((k:Int) / 64)) = (N:Int):=by
   rw [Go.IntWalk.i64_in ((k:Int) / 64) (by omega),Go.IntWalk.i64_in _ (by omega)]
   have:=zA HN
   omega
  obtain ⟨WA,hWA⟩:∃ WA,WA = ((w3.alloc (.cells #[.slice (some ⟨gt,0,none⟩) ns.length ct] 25)).alloc (.cells #[.slice (some ⟨gn,0,none⟩) us.length cn] 28)):=⟨_,rfl⟩
  have T0:WA.cell? ⟨w3.heap.size,0,none⟩ = some (.slice (some ⟨gt,0,none⟩) ns.length ct):=by rw [hWA]; simp [go_sem]
  have Q0W:WA.cell? ⟨w.heap.size,0,none⟩ = some (.slice none 0 0):=by rw [hWA]; exact ((zA HWA).cell (p:=⟨w.heap.size,0,none⟩) l0).trans Q0
  have G0W:WA.frozen? ⟨w.heap.size,0,none⟩ = false:=by rw [hWA]; exact ((zA HWA).frozen (p:=⟨w.heap.size,0,none⟩) l0).trans G0
  have Q1W:WA.cell? ⟨w.heap.size + 1,0,none⟩ = some (.slice none 0 0):=by rw [hWA]; exact ((zA HWA).cell (p:=⟨w.heap.size + 1,0,none⟩) l1).trans Q1
  have G1W:WA.frozen? ⟨w.heap.size + 1,0,none⟩ = false:=by rw [hWA]; exact ((zA HWA).frozen (p:=⟨w.heap.size + 1,0,none⟩) l1).trans G1
  have l3W:w3.heap.size < WA.drew.heap.size:=by rw [hWA]; exact lW
  have l0W:w.heap.size < WA.drew.heap.size:=by omega
  have l1W:w.heap.size + 1 < WA.drew.heap.size:=by omega
  rw [<- hWA] at HF3
  have HFD:=zB (show zX WA.drew gt ns ns.length from zA HF3)
  have HX:=zB (zCQ gt ct N ns WA.drew hnl (zA HKN) (zA HFD).ops (zA HFD).1 hN5)
  have belA:=zB (show Below w.heap.size w WA.drew from ((zA bel2).trans (by rw [hWA]; exact (zA HWA).mono (by omega))).drew)
  rw [hWA] at HX
  go_wp2_with fail
  go_region_held3 (fun W=>W.cell? ⟨w3.heap.size,0,none⟩ = some (.slice (some ⟨gt,0,none⟩) ns.length ct)) (go_keep) (first | (go_at_call 50; (with_reducible refine (zA HX).mono ?_); rintro e w5 ⟨⟨g5,c5,i5,rfl,hg5,hF5,hC5⟩,hb5⟩; rw [<- hWA] at hg5 hb5; have b5:=(hb5.cell (p:=⟨w3.heap.size,0,none⟩) l3W).trans T0; have Q5:=(hb5.cell (p:=⟨w.heap.size,0,none⟩) l0W).trans Q0W; have G5:=(hb5.frozen (p:=⟨w.heap.size,0,none⟩) l0W).trans G0W; have Q6:=(hb5.cell (p:=⟨w.heap.size + 1,0,none⟩) l1W).trans Q1W; have G6:=(hb5.frozen (p:=⟨w.heap.size + 1,0,none⟩) l1W).trans G1W; have l05:w.heap.size < w5.heap.size:=(by have:=hb5.size; omega); have l15:w.heap.size + 1 < w5.heap.size:=(by have:=hb5.size; omega)))
  all_goals
   have HTF:=zB (zX.setCell (zX.setCell ((zA HFD).below hb5 (zA HFD).1) ⟨w.heap.size,0,none⟩ (.slice (some ⟨gt,0,none⟩) ns.length ct) (by show w.heap.size ≠ gt; omega)) ⟨w.heap.size + 1,0,none⟩ (.slice (some ⟨g5,0,none⟩) (cT ns i5).length c5) (by show w.heap.size + 1 ≠ gt; omega))
   have hg6:w.heap.size + 2 <= g5:=by omega
   have HTN:=zB ((hF5.setCell w.heap.size 0 (.slice (some ⟨gt,0,none⟩) ns.length ct) (by omega)).setCell (w.heap.size + 1) 0 (.slice (some ⟨g5,0,none⟩) (cT ns i5).length c5) (by omega))
   have HBF:=zB ((((zA belA).trans (hb5.mono (by omega))).setCell (p:=⟨w.heap.size,0,none⟩) (Nat.le_refl _) (.slice (some ⟨gt,0,none⟩) ns.length ct)).setCell (p:=⟨w.heap.size + 1,0,none⟩) (by simp) (.slice (some ⟨g5,0,none⟩) (cT ns i5).length c5))
   have HDD:=zB (show zG4 (zCs l) ns (cT ns i5) from ⟨us,zA hD,Or.inl ⟨by rw [<- zA HK]; exact h63,i5,by rw [<- zA HK,<- zA HN]; exact hC5,rfl⟩⟩)
   clear hF5 hb5
   go_wp2
   refine bodyPost_ret (v:=.tuple #[.agg #[.slice (some ⟨gt,0,none⟩) ns.length ct],.agg #[.slice (some ⟨g5,0,none⟩) (cT ns i5).length c5]]) ?res rfl ⟨⟨gt,ct,g5,c5,ns,cT ns i5,rfl,by omega,by omega,HTF,HTN,HDD⟩,zA HBF⟩
   case res=>simp [results,Tryz.results17,go_sem,Q5,Q6,l05,l15]
 ·have e63:((k:Int) % 64 == 63) = false:=by simp; omega
  by_cases h62:k % 64 = 62
  ·have e62:((k:Int) % 64 == 62) = true:=by simp; omega
   obtain ⟨N,HN⟩:∃ N,Hid (N = 1000):=⟨_,zB rfl⟩
   have hN5:N <= 50000:=by have:=zA HN; omega
   have eW:(1000:Int) = (N:Int):=by have:=zA HN; omega
   obtain ⟨WA,hWA⟩:∃ WA,WA = ((w3.alloc (.cells #[.slice (some ⟨gt,0,none⟩) ns.length ct] 25)).alloc (.cells #[.slice (some ⟨gn,0,none⟩) us.length cn] 28)):=⟨_,rfl⟩
   have T0:WA.cell? ⟨w3.heap.size,0,none⟩ = some (.slice (some ⟨gt,0,none⟩) ns.length ct):=by rw [hWA]; simp [go_sem]
   have Q0W:WA.cell? ⟨w.heap.size,0,none⟩ = some (.slice none 0 0):=by rw [hWA]; exact ((zA HWA).cell (p:=⟨w.heap.size,0,none⟩) l0).trans Q0
   have G0W:WA.frozen? ⟨w.heap.size,0,none⟩ = false:=by rw [hWA]; exact ((zA HWA).frozen (p:=⟨w.heap.size,0,none⟩) l0).trans G0
   have Q1W:WA.cell? ⟨w.heap.size + 1,0,none⟩ = some (.slice none 0 0):=by rw [hWA]; exact ((zA HWA).cell (p:=⟨w.heap.size + 1,0,none⟩) l1).trans Q1
   have G1W:WA.frozen? ⟨w.heap.size + 1,0,none⟩ = false:=by rw [hWA]; exact ((zA HWA).frozen (p:=⟨w.heap.size + 1,0,none⟩) l1).trans G1
   have l3W:w3.heap.size < WA.drew.heap.size:=by rw [hWA]; exact lW
   have l0W:w.heap.size < WA.drew.heap.size:=by omega
   have l1W:w.heap.size + 1 < WA.drew.heap.size:=by omega
   rw [<- hWA] at HF3
   have HFD:=zB (show zX WA.drew gt ns ns.length from zA HF3)
   have HX:=zB (zCQ gt ct N ns WA.drew hnl (zA HKN) (zA HFD).ops (zA HFD).1 hN5)
   have belA:=zB (show Below w.heap.size w WA.drew from ((zA bel2).trans (by rw [hWA]; exact (zA HWA).mono (by omega))).drew)
   rw [hWA,<- eW] at HX
   clear eW
   go_wp2_with fail
   go_region_held3 (fun W=>W.cell? ⟨w3.heap.size,0,none⟩ = some (.slice (some ⟨gt,0,none⟩) ns.length ct)) (go_keep) (first | (go_at_call 50; (with_reducible refine (zA HX).mono ?_); rintro e w5 ⟨⟨g5,c5,i5,rfl,hg5,hF5,hC5⟩,hb5⟩; rw [<- hWA] at hg5 hb5; have b5:=(hb5.cell (p:=⟨w3.heap.size,0,none⟩) l3W).trans T0; have Q5:=(hb5.cell (p:=⟨w.heap.size,0,none⟩) l0W).trans Q0W; have G5:=(hb5.frozen (p:=⟨w.heap.size,0,none⟩) l0W).trans G0W; have Q6:=(hb5.cell (p:=⟨w.heap.size + 1,0,none⟩) l1W).trans Q1W; have G6:=(hb5.frozen (p:=⟨w.heap.size + 1,0,none⟩) l1W).trans G1W; have l05:w.heap.size < w5.heap.size:=(by have:=hb5.size; omega); have l15:w.heap.size + 1 < w5.heap.size:=(by have:=hb5.size; omega)))
   all_goals
    have HTF:=zB (zX.setCell (zX.setCell ((zA HFD).below hb5 (zA HFD).1) ⟨w.heap.size,0,none⟩ (.slice (some ⟨gt,0,none⟩) ns.length ct) (by show w.heap.size ≠ gt; omega)) ⟨w.heap.size + 1,0,none⟩ (.slice (some ⟨g5,0,none⟩) (cT ns i5).length c5) (by show w.heap.size + 1 ≠ gt; omega))
    have hg6:w.heap.size + 2 <= g5:=by omega
    have HTN:=zB ((hF5.setCell w.heap.size 0 (.slice (some ⟨gt,0,none⟩) ns.length ct) (by omega)).setCell (w.heap.size + 1) 0 (.slice (some ⟨g5,0,none⟩) (cT ns i5).length c5) (by omega))
    have HBF:=zB ((((zA belA).trans (hb5.mono (by omega))).setCell (p:=⟨w.heap.size,0,none⟩) (Nat.le_refl _) (.slice (some ⟨gt,0,none⟩) ns.length ct)).setCell (p:=⟨w.heap.size + 1,0,none⟩) (by simp) (.slice (some ⟨g5,0,none⟩) (cT ns i5).length c5))
    have HDD:=zB (show zG4 (zCs l) ns (cT ns i5) from ⟨us,zA hD,Or.inr (Or.inl ⟨by rw [<- zA HK]; exact h62,i5,by rw [<- zA HN]; exact hC5,rfl⟩)⟩)
    clear hF5 hb5
    go_wp2
    refine bodyPost_ret (v:=.tuple #[.agg #[.slice (some ⟨gt,0,none⟩) ns.length ct],.agg #[.slice (some ⟨g5,0,none⟩) (cT ns i5).length c5]]) ?res rfl ⟨⟨gt,ct,g5,c5,ns,cT ns i5,rfl,by omega,by omega,HTF,HTN,HDD⟩,zA HBF⟩
    case res=>simp [results,Tryz.results17,go_sem,Q5,Q6,l05,l15]
  ·have e62:((k:Int) % 64 == 62) = false:=by simp; omega
   go_wp2_with fail
   go_region
   all_goals go_wp2
   all_goals
    refine bodyPost_ret (v:=.tuple #[.agg #[.slice (some ⟨gt,0,none⟩) ns.length ct],.agg #[.slice (some ⟨gn,0,none⟩) us.length cn]]) ?res rfl ⟨⟨gt,ct,gn,cn,ns,us,rfl,by omega,by omega,zB (Kp3.filledT (x:=w.heap.size) (y:=w.heap.size + 1) (z:=w.heap.size) (((((Kp3.refl _ _ _ _).setX _ |>.setY _).push _).push _).drew) (zA HF3) (by omega) (by omega) (by omega)),zB (Kp3.filledN (x:=w.heap.size) (y:=w.heap.size + 1) (z:=w.heap.size) (((((Kp3.refl _ _ _ _).setX _ |>.setY _).push _).push _).drew) (zA HN3) (by omega) (by omega) (by omega)),zB ⟨us,zA hD,Or.inr (Or.inr ⟨by rw [<- zA HK]; exact h63,by rw [<- zA HK]; exact h62,rfl⟩)⟩⟩,?bel⟩
    case res=>simp [results,Tryz.results17,go_sem,Q0,Q1,l0,l1,n0,n1,n2,n3]
    case bel=>exact (((((zA bel2).setCell (Nat.le_refl _) _).setCell (by simp) _).alloc (by simp [World.setCell]; omega) _).alloc (by simp [World.setCell]; omega) _).drew
theorem zCw (a:Option Addr) (cap:Nat) (l:List UInt8) (w:World) (hl:l.length <= 1048576) (hcap:l.length <= cap) (h:zGq w a l) :
  Calls Tryz.prog 8 #[.slice a l.length cap] w (zJX (zG4 (zCs l)) w):=by
 have HA:=zB h
 clear h
 go_enter Tryz.func8,Tryz.ntmps8
 go_wp2_with fail
 have HB0:=zB (show Below w.heap.size w ((w.alloc (.cells #[.slice none 0 0] 25)).alloc (.cells #[.slice none 0 0] 28)) from (zC _ _).alloc (by simp) _)
 (with_reducible refine (zF4 a cap l _ hl hcap ((zA HA).step (zA HB0))).mono ?_)
 rintro e w2 ⟨⟨gt,ct,gn,cn,ns,us,rfl,hgt,hgn,hF,hN,hD⟩,hb1⟩
 have z1:w.heap.size + 2 <= w2.heap.size:=by have:=hb1.size; simpa using this
 have hgt2:w.heap.size + 2 <= gt:=by simpa using hgt
 have hgn2:w.heap.size + 2 <= gn:=by simpa using hgn
 have Q0:w2.cell? ⟨w.heap.size,0,none⟩ = some (.slice none 0 0):=(hb1.cell (p:=⟨w.heap.size,0,none⟩) (by simp; omega)).trans (by simp [go_sem])
 have G0:w2.frozen? ⟨w.heap.size,0,none⟩ = false:=(hb1.frozen (p:=⟨w.heap.size,0,none⟩) (by simp; omega)).trans (by simp [go_sem])
 have Q1:w2.cell? ⟨w.heap.size + 1,0,none⟩ = some (.slice none 0 0):=(hb1.cell (p:=⟨w.heap.size + 1,0,none⟩) (by simp)).trans (by simp [go_sem])
 have G1:w2.frozen? ⟨w.heap.size + 1,0,none⟩ = false:=(hb1.frozen (p:=⟨w.heap.size + 1,0,none⟩) (by simp)).trans (by simp [go_sem])
 have bel2:=zB ((zA HB0).trans (hb1.mono (by simp; omega)))
 have l0:w.heap.size < w2.heap.size:=by omega
 have l1:w.heap.size + 1 < w2.heap.size:=by omega
 clear hb1 HB0 hgt hgn
 go_wp2_with fail
 refine bodyPost_ret (v:=.tuple #[.agg #[.slice (some ⟨gt,0,none⟩) ns.length ct],.agg #[.slice (some ⟨gn,0,none⟩) us.length cn]]) ?res rfl ⟨⟨gt,ct,gn,cn,ns,us,rfl,by omega,by omega,zB (zX.setCell (zX.setCell (zA hF) _ _ (by show w.heap.size ≠ gt; omega)) _ _ (by show w.heap.size + 1 ≠ gt; omega)),zB (((zA hN).setCell _ _ _ (by omega)).setCell _ _ _ (by omega)),hD⟩,((zA bel2).setCell (Nat.le_refl _) _).setCell (by simp) _⟩
 case res=>simp [results,Tryz.results8,go_sem,Q0,Q1,l0,l1]
end Go.Proofs.YtfboipappaonhaaGreat
