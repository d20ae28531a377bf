import Derived.Test.YtfboipappaonhaaGreatP15
import Derived.Test.YtfboipappaonhaaGreatP47
import Derived.Test.YtfboipappaonhaaGreatP52
namespace Go.Proofs.YtfboipappaonhaaGreat
set_option linter.unusedSimpArgs false
set_option linter.unusedVariables false
set_option maxHeartbeats 16000000
set_option maxRecDepth 100000
open Go.RowKit Go.Maps
theorem zHY {k:Int}:(zCD k != 0) = decide (3 <= k /\ k <= 5):=by
 unfold zCD
 split
 ·rename_i h
  simp [h]
  omega
 ·rename_i h
  simp
  omega
theorem zIY (bo bs bn offn cn:Nat) (xs:List OpR) (ns:List zD) (w:World) (hmn:ns.length <= 1048576) (hi:Idx w bo bs xs xs.length) (hc:zM xs 0) (hok:zBF xs xs.length) (hwn:Zw w bn offn ns) (hsn:zBc ns) (hBn:bn < w.heap.size) :
  Calls Tryz.prog 87 #[.agg #[.map (some bo),.map (some bs)],.agg #[.slice (some ⟨bn,offn,none⟩) ns.length cn]] w fun e w'=>zCQ e (zDi xs ns) /\ Below w.heap.size w w':=by
 have HI:=zB hi
 have HC:=zB hc
 have HOK:=zB hok
 have HWN:=zB hwn
 have HZN:=zB hsn
 have HCS:=zB (show Cs [(w.heap.size,0,.map (some bo)),(w.heap.size,1,.map (some bs))] ((w.alloc (.cells #[.map (some bo),.map (some bs)] 69)).alloc (.cells #[.slice (some ⟨bn,offn,none⟩) ns.length cn] 28)) from fun p hp=>by
  simp only [List.mem_cons,List.not_mem_nil,or_false] at hp
  rcases hp with rfl | rfl
  ·simp [go_sem]
  ·simp [go_sem])
 have bel0:Below w.heap.size w ((w.alloc (.cells #[.map (some bo),.map (some bs)] 69)).alloc (.cells #[.slice (some ⟨bn,offn,none⟩) ns.length cn] 28)):=(zC _ _).alloc (by simp) _
 clear hi hc hok hwn hsn
 go_enter Tryz.func87,Tryz.ntmps87
 go_wp2_with fail
 go_loopw [12] (fun iv wr=>∃ k:Nat,k <= ns.length /\ iv = .int .i64 (k:Int) /\ Hid (∀ i,i < k -> ZD (atN ns i) -> fnd xs (atN ns i).t ((atN ns i).k - 2) ≠ none) /\ Hid (Cs [(w.heap.size,0,.map (some bo)),(w.heap.size,1,.map (some bs))] wr) /\ Below w.heap.size w wr) (fun iv _=>ns.length - (intOf iv).toNat)
 case atStart=>exact ⟨0,Nat.zero_le _,rfl,zB (fun i hi=>absurd hi (Nat.not_lt_zero i)),HCS,bel0⟩
 case round=>
  clear HCS bel0
  obtain ⟨k,hk,rfl,hkn,hcs,hbel⟩:=hrel
  have c0:=(zA hcs) (w.heap.size,0,.map (some bo)) (by simp)
  have c1:=(zA hcs) (w.heap.size,1,.map (some bs)) (by simp)
  simp only at c0 c1
  by_cases hlt:k < ns.length
  ·have hltI:(k:Int) < (ns.length:Int):=by omega
   obtain ⟨a0,a1,a2,a3⟩:=((zA HWN) k hlt).below hbel hBn
   have HC1:=zB ((zA hcs).below (zC wr (.cells #[.int .i64 (atN ns k).k,.string (atN ns k).t,.int .i64 (atN ns k).a,.int .i64 (atN ns k).b] 81)))
   have d0:=(zA HC1) (w.heap.size,0,.map (some bo)) (by simp)
   have d1:=(zA HC1) (w.heap.size,1,.map (some bs)) (by simp)
   simp only at d0 d1
   have bel1:Below w.heap.size w (wr.alloc (.cells #[.int .i64 (atN ns k).k,.string (atN ns k).t,.int .i64 (atN ns k).a,.int .i64 (atN ns k).b] 81)):=hbel.alloc hbel.size _
   go_wp2_with fail
   refine (zEc bo bs xs (atN ns k) _ ((zA HI).kept bel1) (zA HC) (zA HOK) ((zA HZN) k hlt)).mono ?_
   rintro e w3 ⟨⟨p,v,rfl,hp⟩,hb3⟩
   have HP:=zB hp
   have HC3:=zB (((zA HC1).below hb3).below (zC w3 (.cells #[.string p.s,.int .i64 p.k,.int .i64 p.l,.int .i64 p.sd] 123)))
   have n0:w3.cell? ⟨wr.heap.size,0,none⟩ = some (.int .i64 (atN ns k).k):=(hb3.cell (p:=⟨wr.heap.size,0,none⟩) (by simp)).trans (by simp [go_sem])
   have z3:wr.heap.size < w3.heap.size:=by have:=hb3.size; simp at this; omega
   have n0':(w3.alloc (.cells #[.string p.s,.int .i64 p.k,.int .i64 p.l,.int .i64 p.sd] 123)).cell? ⟨wr.heap.size,0,none⟩ = some (.int .i64 (atN ns k).k):=((zC _ _).cell (p:=⟨wr.heap.size,0,none⟩) z3).trans n0
   have bel3:Below w.heap.size w (w3.alloc (.cells #[.string p.s,.int .i64 p.k,.int .i64 p.l,.int .i64 p.sd] 123)):=(bel1.trans (hb3.mono bel1.size)).alloc (bel1.trans (hb3.mono bel1.size)).size _
   clear hp hb3 c0 c1 d0 d1
   cases v
   ·by_cases ho:ZD (atN ns k)
    ·have HF:=zB (show fnd xs (atN ns k).t ((atN ns k).k - 2) = none by
      rcases zA HP with ⟨j,_,_,h,_⟩ | ⟨h,_⟩
      ·cases h
      ·exact h ho)
     have HOP:=zB ho
     have hz:(zCD (atN ns k).k != 0) = true:=by rw [zHY]; exact decide_eq_true ho
     clear ho
     go_wp2_with (go_at_call 137; refine (zD1 _ _).mono ?_; rintro e w' ⟨rfl,hx⟩; obtain rfl:=hx.symm)
     go_ret
     exact ⟨⟨_,rfl,zL (fun h=>h k hlt (zA HOP) (zA HF))⟩,bel3⟩
    ·have HOP:=zB ho
     have hz:(zCD (atN ns k).k != 0) = false:=by rw [zHY]; exact decide_eq_false ho
     clear ho
     go_wp2_with (go_at_call 137; refine (zD1 _ _).mono ?_; rintro e w' ⟨rfl,hx⟩; obtain rfl:=hx.symm)
     refine ⟨⟨k + 1,by omega,by go_num,zB (fun i hi hop=>?_),HC3,bel3⟩,by simp [intOf]; omega⟩
     by_cases e:i = k
     ·subst e; exact absurd hop (zA HOP)
     ·exact (zA hkn) i (by omega) hop
   ·have HF:=zB (show fnd xs (atN ns k).t ((atN ns k).k - 2) ≠ none by
     rcases zA HP with ⟨j,_,h,_,_⟩ | ⟨_,h⟩
     ·rw [h]; simp
     ·cases h)
    go_wp2_with fail
    refine ⟨⟨k + 1,by omega,by go_num,zB (fun i hi hop=>?_),HC3,bel3⟩,by simp [intOf]; omega⟩
    by_cases e:i = k
    ·subst e; exact zA HF
    ·exact (zA hkn) i (by omega) hop
  ·have hkx:k = ns.length:=by omega
   go_wp2_with fail
   go_ret
   exact ⟨⟨_,rfl,Ze (fun i hi hop=>(zA hkn) i (by omega) hop)⟩,hbel⟩
theorem zAz (bo bs:Nat) (xs:List OpR) (o:zD) (w:World) (hi:Idx w bo bs xs xs.length) (hc:zM xs 0) (hok:zBF xs xs.length) (ht:o.t.size <= maxLen) :
  Calls Tryz.prog 89 #[.agg #[.map (some bo),.map (some bs)],.agg #[.int .i64 o.k,.string o.t,.int .i64 o.a,.int .i64 o.b]] w fun e w'=>e = .returned (.int .i64 (ZX xs o)) /\ Below w.heap.size w w':=by
 have HI:=zB (fun o1 o2=>(hi.kept (zC w o1)).kept (zC _ o2))
 have HC:=zB hc
 have HOK:=zB hok
 clear hi hc hok
 go_enter Tryz.func89,Tryz.ntmps89
 go_wp2_with fail
 refine (zEc bo bs xs o _ ((zA HI) _ _) (zA HC) (zA HOK) ht).mono ?_
 rintro e w1 ⟨⟨p,v,rfl,hp⟩,hb1⟩
 have HL:=zB (zLS hp)
 have bel1:Below w.heap.size w w1:=((zC _ _).alloc (by simp) _).trans (hb1.mono (by simp; omega))
 clear hp hb1
 cases v
 ·go_wp2_with fail
  go_ret
  exact ⟨zF (by rw [zA HL]; simp),bel1.alloc bel1.size _⟩
 ·go_wp2_with fail
  go_ret
  exact ⟨zF (by rw [zA HL]; simp),bel1.alloc bel1.size _⟩
theorem zJX {xs:List OpR} (hok:zBF xs xs.length) (o:zD):0 <= ZX xs o:=by
 unfold ZX
 split
 ·cases h:fnd xs o.t (o.k - 2) with
  | none=>simp
  | some j=>
   have:=(zA2 _ _ _ _ (hok j (ZW h).1)).1
   simp only
   omega
 ·omega
theorem zNE {xs:List OpR} {o:zD} {j:Nat} (hf:fnd xs o.t (o.k - 2) = some j) (ho:ZD o) (hk:zR o.k = 1):zA6 xs j true = 0:=by
 have hkj:=(ZW hf).2.2
 have hk4:o.k ≠ 4:=fun e=>by rw [e] at hk; simp [zR] at hk
 unfold zA6 zz
 split
 ·rfl
 ·rw [if_neg (by omega),if_pos rfl]
theorem zKH (bo bs bn offn cn:Nat) (xs:List OpR) (ns:List zD) (w:World) (hmn:ns.length <= 1048576) (hi:Idx w bo bs xs xs.length) (hc:zM xs 0) (hok:zBF xs xs.length) (hsz:ZV xs) (hwn:Zw w bn offn ns) (hsn:zBc ns) (hBn:bn < w.heap.size) (hord:ZL ns) :
  Calls Tryz.prog 45 #[.agg #[.map (some bo),.map (some bs)],.agg #[.slice (some ⟨bn,offn,none⟩) ns.length cn]] w fun e w'=>zCQ e (∀ i,i < ns.length -> zA0 xs ns i) /\ Below w.heap.size w w':=by
 have HI:=zB hi
 have HC:=zB hc
 have HOK:=zB hok
 have HWN:=zB hwn
 have HZN:=zB hsn
 have HZ:=zB hsz
 have HORD:=zB hord
 have HCS:=zB (show Cs [(w.heap.size,0,.map (some bo)),(w.heap.size,1,.map (some bs)),(w.heap.size + 1,0,.slice (some ⟨bn,offn,none⟩) ns.length cn)] ((w.alloc (.cells #[.map (some bo),.map (some bs)] 69)).alloc (.cells #[.slice (some ⟨bn,offn,none⟩) ns.length cn] 28)) from fun p hp=>by
  simp only [List.mem_cons,List.not_mem_nil,or_false] at hp
  rcases hp with rfl | rfl | rfl
  ·simp [go_sem]
  ·simp [go_sem]
  ·simp [go_sem])
 have bel0:Below w.heap.size w ((w.alloc (.cells #[.map (some bo),.map (some bs)] 69)).alloc (.cells #[.slice (some ⟨bn,offn,none⟩) ns.length cn] 28)):=(zC _ _).alloc (by simp) _
 clear hi hc hok hwn hsn hsz hord
 go_enter Tryz.func45,Tryz.ntmps45
 go_wp2_with fail
 go_loopw [14] (fun iv wr=>∃ k:Nat,k <= ns.length /\ iv = .int .i64 (k:Int) /\ Hid (∀ i,i < k -> zA0 xs ns i) /\ Hid (Cs [(w.heap.size,0,.map (some bo)),(w.heap.size,1,.map (some bs)),(w.heap.size + 1,0,.slice (some ⟨bn,offn,none⟩) ns.length cn)] wr) /\ Below w.heap.size w wr) (fun iv _=>ns.length - (intOf iv).toNat)
 case atStart=>exact ⟨0,Nat.zero_le _,rfl,zB (fun i hi=>absurd hi (Nat.not_lt_zero i)),HCS,bel0⟩
 case round=>
  clear HCS bel0
  obtain ⟨k,hk,rfl,hkn,hcs,hbel⟩:=hrel
  have c0:=(zA hcs) (w.heap.size,0,.map (some bo)) (by simp)
  have c1:=(zA hcs) (w.heap.size,1,.map (some bs)) (by simp)
  simp only at c0 c1
  by_cases hlt:k < ns.length
  ·have hltI:(k:Int) < (ns.length:Int):=by omega
   obtain ⟨a0,a1,a2,a3⟩:=((zA HWN) k hlt).below hbel hBn
   have HND:=zB (show ∀ i,i < k + 1 -> (i = k -> zA0 xs ns k) -> zA0 xs ns i from fun i hi h=>by
    by_cases e:i = k
    ·subst e; exact h rfl
    ·exact (zA hkn) i (by omega))
   by_cases hkids:zR (atN ns k).k = 0
   ·have HNOP:=zB (show ¬ ZD (atN ns k) from fun h=>by
     unfold ZD at h
     unfold zR at hkids
     split at hkids
     ·omega
     ·split at hkids <;> omega)
    have HC1:=zB ((zA hcs).below (zC wr (.cells #[.int .i64 (atN ns k).k,.string (atN ns k).t,.int .i64 (atN ns k).a,.int .i64 (atN ns k).b] 81)))
    have d0:=(zA HC1) (w.heap.size,0,.map (some bo)) (by simp)
    have d1:=(zA HC1) (w.heap.size,1,.map (some bs)) (by simp)
    simp only at d0 d1
    have bel1:Below w.heap.size w (wr.alloc (.cells #[.int .i64 (atN ns k).k,.string (atN ns k).t,.int .i64 (atN ns k).a,.int .i64 (atN ns k).b] 81)):=hbel.alloc hbel.size _
    go_wp2_with fail
    refine (zEc bo bs xs (atN ns k) _ ((zA HI).kept bel1) (zA HC) (zA HOK) ((zA HZN) k hlt)).mono ?_
    rintro e w3 ⟨⟨p,v,rfl,hp⟩,hb3⟩
    obtain rfl:v = false:=by
     rcases hp with ⟨j,h,_⟩ | ⟨_,h⟩
     ·exact absurd h (zA HNOP)
     ·exact h
    have HC3:=zB (((zA HC1).below hb3).below (zC w3 (.cells #[.string p.s,.int .i64 p.k,.int .i64 p.l,.int .i64 p.sd] 123)))
    have bel3:Below w.heap.size w (w3.alloc (.cells #[.string p.s,.int .i64 p.k,.int .i64 p.l,.int .i64 p.sd] 123)):=(bel1.trans (hb3.mono bel1.size)).alloc (bel1.trans (hb3.mono bel1.size)).size _
    clear hp hb3 c0 c1 d0 d1
    go_wp2_with fail
    exact ⟨⟨k + 1,by omega,by go_num,zB (fun i hi=>(zA HND) i hi (fun _=>zME (zA HNOP))),HC3,bel3⟩,by simp [intOf]; omega⟩
   ·obtain ⟨ka,kb,hka,hkb,hkal,hkbl⟩:∃ ka kb:Nat,(atN ns k).a = (ka:Int) /\ (atN ns k).b = (kb:Int) /\ ka < ns.length /\ kb < ns.length:=by
     rcases (zA HORD).kidsAt hlt with ⟨h0,_⟩ | ⟨h1,h2,ha,hb⟩ | ⟨h1,h2,hb,ha0,ha1⟩
     ·exact absurd h0 hkids
     ·exact ⟨k - 1,0,by omega,by omega,by omega,by omega⟩
     ·exact ⟨(atN ns k).a.toNat,k - 1,by omega,by omega,by omega,by omega⟩
    have HAB:=zB (And.intro hka hkb)
    rw [hka] at a2
    rw [hkb] at a3
    have hkaI:(ka:Int) < (ns.length:Int):=by omega
    have hkbI:(kb:Int) < (ns.length:Int):=by omega
    have HC1:=zB ((zA hcs).below (zC wr (.cells #[.int .i64 (atN ns k).k,.string (atN ns k).t,.int .i64 (ka:Int),.int .i64 (kb:Int)] 81)))
    have d0:=(zA HC1) (w.heap.size,0,.map (some bo)) (by simp)
    have d1:=(zA HC1) (w.heap.size,1,.map (some bs)) (by simp)
    simp only at d0 d1
    have bel1:Below w.heap.size w (wr.alloc (.cells #[.int .i64 (atN ns k).k,.string (atN ns k).t,.int .i64 (ka:Int),.int .i64 (kb:Int)] 81)):=hbel.alloc hbel.size _
    clear hkids hka hkb
    go_wp2_with fail
    refine (zEc bo bs xs ⟨(atN ns k).k,(atN ns k).t,(ka:Int),(kb:Int)⟩ _ ((zA HI).kept bel1) (zA HC) (zA HOK) ((zA HZN) k hlt)).mono ?_
    rintro e w3 ⟨⟨p,v,rfl,hp⟩,hb3⟩
    have HP:=zB hp
    have HC3:=zB (((zA HC1).below hb3).below (zC w3 (.cells #[.string p.s,.int .i64 p.k,.int .i64 p.l,.int .i64 p.sd] 123)))
    have bel3:Below w.heap.size w (w3.alloc (.cells #[.string p.s,.int .i64 p.k,.int .i64 p.l,.int .i64 p.sd] 123)):=(bel1.trans (hb3.mono bel1.size)).alloc (bel1.trans (hb3.mono bel1.size)).size _
    have m2:w3.cell? ⟨wr.heap.size,2,none⟩ = some (.int .i64 (ka:Int)):=(hb3.cell (p:=⟨wr.heap.size,2,none⟩) (by simp)).trans (by simp [go_sem])
    have m3:w3.cell? ⟨wr.heap.size,3,none⟩ = some (.int .i64 (kb:Int)):=(hb3.cell (p:=⟨wr.heap.size,3,none⟩) (by simp)).trans (by simp [go_sem])
    have z3:wr.heap.size < w3.heap.size:=by have:=hb3.size; simp at this; omega
    clear hp hb3 c0 c1 d0 d1
    cases v
    ·have HFN:=zB (show zA0 xs ns k from fun j ho hf=>by
      rcases zA HP with ⟨_,_,_,h,_⟩ | ⟨h,_⟩
      ·cases h
      ·have:=h ho
       rw [hf] at this
       cases this)
     go_wp2_with fail
     exact ⟨⟨k + 1,by omega,by go_num,zB (fun i hi=>(zA HND) i hi (fun _=>zA HFN)),HC3,bel3⟩,by simp [intOf]; omega⟩
    ·obtain ⟨j,hop,hf,hpj⟩:∃ j,ZD (atN ns k) /\ fnd xs (atN ns k).t ((atN ns k).k - 2) = some j /\ p = atO xs j:=by
      rcases zA HP with ⟨j,h1,h2,_,h4⟩ | ⟨_,h⟩
      ·exact ⟨j,h1,h2,h4⟩
      ·cases h
     subst hpj
     have hj:=(ZW hf).1
     have HSJ:=zB ((zA HZ) j hj)
     have HTA:=zB ((zA HZN) ka hkal)
     have HTB:=zB ((zA HZN) kb hkbl)
     have HIF:=zB (show zA0 xs ns k ↔ zA6 xs j false <= ZX xs (atN ns ka) /\ zA6 xs j true <= ZX xs (atN ns kb) by
      rw [zEN hop hf,(zA HAB).1,(zA HAB).2]
      simp only [Int.toNat_natCast]
      constructor
      ·rintro ⟨h1,h2 | h2⟩
       ·refine ⟨h1,?_⟩
        rw [zNE hf hop h2]
        exact zJX (zA HOK) _
       ·exact ⟨h1,h2⟩
      ·rintro ⟨h1,h2⟩; exact ⟨h1,Or.inr h2⟩)
     have HSC:=zB (show Cs [(w.heap.size,0,.map (some bo)),(w.heap.size,1,.map (some bs)),(w.heap.size + 1,0,.slice (some ⟨bn,offn,none⟩) ns.length cn),(wr.heap.size,2,.int .i64 (ka:Int)),(wr.heap.size,3,.int .i64 (kb:Int)),(w3.heap.size,0,.string (atO xs j).s),(w3.heap.size,1,.int .i64 (atO xs j).k),(w3.heap.size,2,.int .i64 (atO xs j).l),(w3.heap.size,3,.int .i64 (atO xs j).sd),(bn,offn + ka * 4,.int .i64 (atN ns ka).k),(bn,offn + ka * 4 + 1,.string (atN ns ka).t),(bn,offn + ka * 4 + 2,.int .i64 (atN ns ka).a),(bn,offn + ka * 4 + 3,.int .i64 (atN ns ka).b),(bn,offn + kb * 4,.int .i64 (atN ns kb).k),(bn,offn + kb * 4 + 1,.string (atN ns kb).t),(bn,offn + kb * 4 + 2,.int .i64 (atN ns kb).a),(bn,offn + kb * 4 + 3,.int .i64 (atN ns kb).b)] (w3.alloc (.cells #[.string (atO xs j).s,.int .i64 (atO xs j).k,.int .i64 (atO xs j).l,.int .i64 (atO xs j).sd] 123)).drew from fun q hq=>by
      simp only [List.mem_cons,List.not_mem_nil,or_false] at hq
      have hold:Cs [(w.heap.size,0,.map (some bo)),(w.heap.size,1,.map (some bs)),(w.heap.size + 1,0,.slice (some ⟨bn,offn,none⟩) ns.length cn)] (w3.alloc (.cells #[.string (atO xs j).s,.int .i64 (atO xs j).k,.int .i64 (atO xs j).l,.int .i64 (atO xs j).sd] 123)).drew:=(zA HC3).below (Below.refl _ _).drew
      have hna:=((zA HWN) ka hkal).below bel3.drew hBn
      have hnb:=((zA HWN) kb hkbl).below bel3.drew hBn
      rcases hq with rfl | rfl | rfl | rfl | rfl | rfl | rfl | rfl | rfl | rfl | rfl | rfl | rfl | rfl | rfl | rfl | rfl
      ·exact hold _ (by simp)
      ·exact hold _ (by simp)
      ·exact hold _ (by simp)
      ·exact ((zC w3 (.cells #[.string (atO xs j).s,.int .i64 (atO xs j).k,.int .i64 (atO xs j).l,.int .i64 (atO xs j).sd] 123)).cell (p:=⟨wr.heap.size,2,none⟩) z3).trans m2
      ·exact ((zC w3 (.cells #[.string (atO xs j).s,.int .i64 (atO xs j).k,.int .i64 (atO xs j).l,.int .i64 (atO xs j).sd] 123)).cell (p:=⟨wr.heap.size,3,none⟩) z3).trans m3
      ·exact (show (w3.alloc (.cells #[.string (atO xs j).s,.int .i64 (atO xs j).k,.int .i64 (atO xs j).l,.int .i64 (atO xs j).sd] 123)).cell? _ = _ by simp [go_sem])
      ·exact (show (w3.alloc (.cells #[.string (atO xs j).s,.int .i64 (atO xs j).k,.int .i64 (atO xs j).l,.int .i64 (atO xs j).sd] 123)).cell? _ = _ by simp [go_sem])
      ·exact (show (w3.alloc (.cells #[.string (atO xs j).s,.int .i64 (atO xs j).k,.int .i64 (atO xs j).l,.int .i64 (atO xs j).sd] 123)).cell? _ = _ by simp [go_sem])
      ·exact (show (w3.alloc (.cells #[.string (atO xs j).s,.int .i64 (atO xs j).k,.int .i64 (atO xs j).l,.int .i64 (atO xs j).sd] 123)).cell? _ = _ by simp [go_sem])
      ·exact hna.1
      ·exact hna.2.1
      ·exact hna.2.2.1
      ·exact hna.2.2.2
      ·exact hnb.1
      ·exact hnb.2.1
      ·exact hnb.2.2.1
      ·exact hnb.2.2.2)
     have HBC:=zB bel3.drew
     have HHF:=zB (show zA6 xs j false = zz (atO xs j).s (atO xs j).k (atO xs j).l (atO xs j).sd false from rfl)
     have HHT:=zB (show zA6 xs j true = zz (atO xs j).s (atO xs j).k (atO xs j).l (atO xs j).sd true from rfl)
     rw [zA HHF,zA HHT] at HIF
     clear HHF HHT HP HC3 bel3 bel1 HC1 hop hf hj m2 m3 hbel hcs
     generalize atN ns ka = na at HIF HSC HTA
     generalize atN ns kb = nb at HIF HSC HTB
     by_cases hA:ZX xs na < zz (atO xs j).s (atO xs j).k (atO xs j).l (atO xs j).sd false
     ·have HN:=zB (show ¬ (∀ i,i < ns.length -> zA0 xs ns i) from fun h=>by have:=((zA HIF).1 (h k hlt)).1; omega)
      clear HIF
      go_wp2_with fail
      go_region_held (fun w'=>w'.cell? ⟨w.heap.size,0,none⟩ = some (.map (some bo)) /\ w'.cell? ⟨w.heap.size,1,none⟩ = some (.map (some bs)) /\ w'.cell? ⟨w.heap.size + 1,0,none⟩ = some (.slice (some ⟨bn,offn,none⟩) ns.length cn) /\ w'.cell? ⟨wr.heap.size,2,none⟩ = some (.int .i64 (ka:Int)) /\ w'.cell? ⟨wr.heap.size,3,none⟩ = some (.int .i64 (kb:Int)) /\ w'.cell? ⟨bn,offn + ka * 4,none⟩ = some (.int .i64 na.k) /\ w'.cell? ⟨bn,offn + ka * 4 + 1,none⟩ = some (.string na.t) /\ w'.cell? ⟨bn,offn + ka * 4 + 2,none⟩ = some (.int .i64 na.a) /\ w'.cell? ⟨bn,offn + ka * 4 + 3,none⟩ = some (.int .i64 na.b) /\ w'.cell? ⟨bn,offn + kb * 4,none⟩ = some (.int .i64 nb.k) /\ w'.cell? ⟨bn,offn + kb * 4 + 1,none⟩ = some (.string nb.t) /\ w'.cell? ⟨bn,offn + kb * 4 + 2,none⟩ = some (.int .i64 nb.a) /\ w'.cell? ⟨bn,offn + kb * 4 + 3,none⟩ = some (.int .i64 nb.b)) (first | (go_keep; done) | exact ⟨(zA HSC) (w.heap.size,0,.map (some bo)) (by simp),(zA HSC) (w.heap.size,1,.map (some bs)) (by simp),(zA HSC) (w.heap.size + 1,0,.slice (some ⟨bn,offn,none⟩) ns.length cn) (by simp),(zA HSC) (wr.heap.size,2,.int .i64 (ka:Int)) (by simp),(zA HSC) (wr.heap.size,3,.int .i64 (kb:Int)) (by simp),(zA HSC) (bn,offn + ka * 4,.int .i64 na.k) (by simp),(zA HSC) (bn,offn + ka * 4 + 1,.string na.t) (by simp),(zA HSC) (bn,offn + ka * 4 + 2,.int .i64 na.a) (by simp),(zA HSC) (bn,offn + ka * 4 + 3,.int .i64 na.b) (by simp),(zA HSC) (bn,offn + kb * 4,.int .i64 nb.k) (by simp),(zA HSC) (bn,offn + kb * 4 + 1,.string nb.t) (by simp),(zA HSC) (bn,offn + kb * 4 + 2,.int .i64 nb.a) (by simp),(zA HSC) (bn,offn + kb * 4 + 3,.int .i64 nb.b) (by simp)⟩)
       (first | (go_at_call 89; have HX:=zAz bo bs xs na _ ((zA HI).kept (zA HBC)) (zA HC) (zA HOK) (zA HTA); with_reducible refine HX.mono ?_; clear HX; rintro e w5 ⟨rfl,hb5⟩; replace HSC:=zB ((zA HSC).below hb5); replace HBC:=zB ((zA HBC).trans (hb5.mono (zA HBC).size)); clear hb5) | (go_at_call 89; have HX:=zAz bo bs xs nb _ ((zA HI).kept (zA HBC)) (zA HC) (zA HOK) (zA HTB); with_reducible refine HX.mono ?_; clear HX; rintro e w5 ⟨rfl,hb5⟩; replace HSC:=zB ((zA HSC).below hb5); replace HBC:=zB ((zA HBC).trans (hb5.mono (zA HBC).size)); clear hb5))
      have o0:=(zA HSC) (w3.heap.size,0,.string (atO xs j).s) (by simp)
      have o1:=(zA HSC) (w3.heap.size,1,.int .i64 (atO xs j).k) (by simp)
      have o2:=(zA HSC) (w3.heap.size,2,.int .i64 (atO xs j).l) (by simp)
      have o3:=(zA HSC) (w3.heap.size,3,.int .i64 (atO xs j).sd) (by simp)
      simp only at o0 o1 o2 o3
      go_wp2_with (go_at_call 90; with_reducible refine (Zr (atO xs j).s (atO xs j).k (atO xs j).l (atO xs j).sd false _ (zA HSJ)).mono ?_; rintro e w6 ⟨rfl,hb6⟩; replace HSC:=zB ((zA HSC).below hb6); replace HBC:=zB ((zA HBC).trans (hb6.mono (zA HBC).size)); clear hb6)
      go_ret
      exact ⟨⟨_,rfl,zL (zA HN)⟩,zA HBC⟩
     ·by_cases hBt:ZX xs nb < zz (atO xs j).s (atO xs j).k (atO xs j).l (atO xs j).sd true
      ·have HN:=zB (show ¬ (∀ i,i < ns.length -> zA0 xs ns i) from fun h=>by have:=((zA HIF).1 (h k hlt)).2; omega)
       clear HIF
       go_wp2_with fail
       go_region_held (fun w'=>w'.cell? ⟨w.heap.size,0,none⟩ = some (.map (some bo)) /\ w'.cell? ⟨w.heap.size,1,none⟩ = some (.map (some bs)) /\ w'.cell? ⟨w.heap.size + 1,0,none⟩ = some (.slice (some ⟨bn,offn,none⟩) ns.length cn) /\ w'.cell? ⟨wr.heap.size,2,none⟩ = some (.int .i64 (ka:Int)) /\ w'.cell? ⟨wr.heap.size,3,none⟩ = some (.int .i64 (kb:Int)) /\ w'.cell? ⟨bn,offn + ka * 4,none⟩ = some (.int .i64 na.k) /\ w'.cell? ⟨bn,offn + ka * 4 + 1,none⟩ = some (.string na.t) /\ w'.cell? ⟨bn,offn + ka * 4 + 2,none⟩ = some (.int .i64 na.a) /\ w'.cell? ⟨bn,offn + ka * 4 + 3,none⟩ = some (.int .i64 na.b) /\ w'.cell? ⟨bn,offn + kb * 4,none⟩ = some (.int .i64 nb.k) /\ w'.cell? ⟨bn,offn + kb * 4 + 1,none⟩ = some (.string nb.t) /\ w'.cell? ⟨bn,offn + kb * 4 + 2,none⟩ = some (.int .i64 nb.a) /\ w'.cell? ⟨bn,offn + kb * 4 + 3,none⟩ = some (.int .i64 nb.b)) (first | (go_keep; done) | exact ⟨(zA HSC) (w.heap.size,0,.map (some bo)) (by simp),(zA HSC) (w.heap.size,1,.map (some bs)) (by simp),(zA HSC) (w.heap.size + 1,0,.slice (some ⟨bn,offn,none⟩) ns.length cn) (by simp),(zA HSC) (wr.heap.size,2,.int .i64 (ka:Int)) (by simp),(zA HSC) (wr.heap.size,3,.int .i64 (kb:Int)) (by simp),(zA HSC) (bn,offn + ka * 4,.int .i64 na.k) (by simp),(zA HSC) (bn,offn + ka * 4 + 1,.string na.t) (by simp),(zA HSC) (bn,offn + ka * 4 + 2,.int .i64 na.a) (by simp),(zA HSC) (bn,offn + ka * 4 + 3,.int .i64 na.b) (by simp),(zA HSC) (bn,offn + kb * 4,.int .i64 nb.k) (by simp),(zA HSC) (bn,offn + kb * 4 + 1,.string nb.t) (by simp),(zA HSC) (bn,offn + kb * 4 + 2,.int .i64 nb.a) (by simp),(zA HSC) (bn,offn + kb * 4 + 3,.int .i64 nb.b) (by simp)⟩)
        (first | (go_at_call 89; have HX:=zAz bo bs xs na _ ((zA HI).kept (zA HBC)) (zA HC) (zA HOK) (zA HTA); with_reducible refine HX.mono ?_; clear HX; rintro e w5 ⟨rfl,hb5⟩; replace HSC:=zB ((zA HSC).below hb5); replace HBC:=zB ((zA HBC).trans (hb5.mono (zA HBC).size)); clear hb5) | (go_at_call 89; have HX:=zAz bo bs xs nb _ ((zA HI).kept (zA HBC)) (zA HC) (zA HOK) (zA HTB); with_reducible refine HX.mono ?_; clear HX; rintro e w5 ⟨rfl,hb5⟩; replace HSC:=zB ((zA HSC).below hb5); replace HBC:=zB ((zA HBC).trans (hb5.mono (zA HBC).size)); clear hb5))
       have o0:=(zA HSC) (w3.heap.size,0,.string (atO xs j).s) (by simp)
       have o1:=(zA HSC) (w3.heap.size,1,.int .i64 (atO xs j).k) (by simp)
       have o2:=(zA HSC) (w3.heap.size,2,.int .i64 (atO xs j).l) (by simp)
       have o3:=(zA HSC) (w3.heap.size,3,.int .i64 (atO xs j).sd) (by simp)
       simp only at o0 o1 o2 o3
       go_wp2_with fail
       refine (Zr (atO xs j).s (atO xs j).k (atO xs j).l (atO xs j).sd false _ (zA HSJ)).mono ?_
       rintro e w6 ⟨rfl,hb6⟩
       replace HSC:=zB ((zA HSC).below hb6)
       replace HBC:=zB ((zA HBC).trans (hb6.mono (zA HBC).size))
       clear hb6 o0 o1 o2 o3
       have r0:=(zA HSC) (w3.heap.size,0,.string (atO xs j).s) (by simp)
       have r1:=(zA HSC) (w3.heap.size,1,.int .i64 (atO xs j).k) (by simp)
       have r2:=(zA HSC) (w3.heap.size,2,.int .i64 (atO xs j).l) (by simp)
       have r3:=(zA HSC) (w3.heap.size,3,.int .i64 (atO xs j).sd) (by simp)
       simp only at r0 r1 r2 r3
       go_wp2_with fail
       refine (Zr (atO xs j).s (atO xs j).k (atO xs j).l (atO xs j).sd true _ (zA HSJ)).mono ?_
       rintro e w7 ⟨rfl,hb7⟩
       replace HSC:=zB ((zA HSC).below hb7)
       replace HBC:=zB ((zA HBC).trans (hb7.mono (zA HBC).size))
       clear hb7 r0 r1 r2 r3
       go_wp2_with fail
       go_ret
       exact ⟨⟨_,rfl,zL (zA HN)⟩,zA HBC⟩
      ·have HY:=zB (show zA0 xs ns k from (zA HIF).2 ⟨by omega,by omega⟩)
       clear HIF
       go_wp2_with fail
       go_region_held (fun w'=>w'.cell? ⟨w.heap.size,0,none⟩ = some (.map (some bo)) /\ w'.cell? ⟨w.heap.size,1,none⟩ = some (.map (some bs)) /\ w'.cell? ⟨w.heap.size + 1,0,none⟩ = some (.slice (some ⟨bn,offn,none⟩) ns.length cn) /\ w'.cell? ⟨wr.heap.size,2,none⟩ = some (.int .i64 (ka:Int)) /\ w'.cell? ⟨wr.heap.size,3,none⟩ = some (.int .i64 (kb:Int)) /\ w'.cell? ⟨bn,offn + ka * 4,none⟩ = some (.int .i64 na.k) /\ w'.cell? ⟨bn,offn + ka * 4 + 1,none⟩ = some (.string na.t) /\ w'.cell? ⟨bn,offn + ka * 4 + 2,none⟩ = some (.int .i64 na.a) /\ w'.cell? ⟨bn,offn + ka * 4 + 3,none⟩ = some (.int .i64 na.b) /\ w'.cell? ⟨bn,offn + kb * 4,none⟩ = some (.int .i64 nb.k) /\ w'.cell? ⟨bn,offn + kb * 4 + 1,none⟩ = some (.string nb.t) /\ w'.cell? ⟨bn,offn + kb * 4 + 2,none⟩ = some (.int .i64 nb.a) /\ w'.cell? ⟨bn,offn + kb * 4 + 3,none⟩ = some (.int .i64 nb.b)) (first | (go_keep; done) | exact ⟨(zA HSC) (w.heap.size,0,.map (some bo)) (by simp),(zA HSC) (w.heap.size,1,.map (some bs)) (by simp),(zA HSC) (w.heap.size + 1,0,.slice (some ⟨bn,offn,none⟩) ns.length cn) (by simp),(zA HSC) (wr.heap.size,2,.int .i64 (ka:Int)) (by simp),(zA HSC) (wr.heap.size,3,.int .i64 (kb:Int)) (by simp),(zA HSC) (bn,offn + ka * 4,.int .i64 na.k) (by simp),(zA HSC) (bn,offn + ka * 4 + 1,.string na.t) (by simp),(zA HSC) (bn,offn + ka * 4 + 2,.int .i64 na.a) (by simp),(zA HSC) (bn,offn + ka * 4 + 3,.int .i64 na.b) (by simp),(zA HSC) (bn,offn + kb * 4,.int .i64 nb.k) (by simp),(zA HSC) (bn,offn + kb * 4 + 1,.string nb.t) (by simp),(zA HSC) (bn,offn + kb * 4 + 2,.int .i64 nb.a) (by simp),(zA HSC) (bn,offn + kb * 4 + 3,.int .i64 nb.b) (by simp)⟩)
        (first | (go_at_call 89; have HX:=zAz bo bs xs na _ ((zA HI).kept (zA HBC)) (zA HC) (zA HOK) (zA HTA); with_reducible refine HX.mono ?_; clear HX; rintro e w5 ⟨rfl,hb5⟩; replace HSC:=zB ((zA HSC).below hb5); replace HBC:=zB ((zA HBC).trans (hb5.mono (zA HBC).size)); clear hb5) | (go_at_call 89; have HX:=zAz bo bs xs nb _ ((zA HI).kept (zA HBC)) (zA HC) (zA HOK) (zA HTB); with_reducible refine HX.mono ?_; clear HX; rintro e w5 ⟨rfl,hb5⟩; replace HSC:=zB ((zA HSC).below hb5); replace HBC:=zB ((zA HBC).trans (hb5.mono (zA HBC).size)); clear hb5))
       have o0:=(zA HSC) (w3.heap.size,0,.string (atO xs j).s) (by simp)
       have o1:=(zA HSC) (w3.heap.size,1,.int .i64 (atO xs j).k) (by simp)
       have o2:=(zA HSC) (w3.heap.size,2,.int .i64 (atO xs j).l) (by simp)
       have o3:=(zA HSC) (w3.heap.size,3,.int .i64 (atO xs j).sd) (by simp)
       simp only at o0 o1 o2 o3
       go_wp2_with fail
       refine (Zr (atO xs j).s (atO xs j).k (atO xs j).l (atO xs j).sd false _ (zA HSJ)).mono ?_
       rintro e w6 ⟨rfl,hb6⟩
       replace HSC:=zB ((zA HSC).below hb6)
       replace HBC:=zB ((zA HBC).trans (hb6.mono (zA HBC).size))
       clear hb6 o0 o1 o2 o3
       have r0:=(zA HSC) (w3.heap.size,0,.string (atO xs j).s) (by simp)
       have r1:=(zA HSC) (w3.heap.size,1,.int .i64 (atO xs j).k) (by simp)
       have r2:=(zA HSC) (w3.heap.size,2,.int .i64 (atO xs j).l) (by simp)
       have r3:=(zA HSC) (w3.heap.size,3,.int .i64 (atO xs j).sd) (by simp)
       simp only at r0 r1 r2 r3
       go_wp2_with fail
       refine (Zr (atO xs j).s (atO xs j).k (atO xs j).l (atO xs j).sd true _ (zA HSJ)).mono ?_
       rintro e w7 ⟨rfl,hb7⟩
       replace HSC:=zB ((zA HSC).below hb7)
       replace HBC:=zB ((zA HBC).trans (hb7.mono (zA HBC).size))
       clear hb7 r0 r1 r2 r3
       go_wp2_with fail
       exact ⟨⟨k + 1,by omega,by go_num,zB (fun i hi=>(zA HND) i hi (fun _=>zA HY)),zB (fun q hq=>(zA HSC) q (by simp only [List.mem_cons,List.not_mem_nil,or_false] at hq ⊢; rcases hq with h | h | h <;> simp [h])),zA HBC⟩,by simp [intOf]; omega⟩
  ·have hkx:k = ns.length:=by omega
   go_wp2_with fail
   go_ret
   exact ⟨⟨_,rfl,Ze (fun i hi=>(zA hkn) i (by omega))⟩,hbel⟩
theorem zE3 (bo bs bn offn cn:Nat) (xs:List OpR) (ns:List zD) (w:World) (hmn:ns.length <= 1048576) (hi:Idx w bo bs xs xs.length) (hc:zM xs 0) (hok:zBF xs xs.length) (hwn:Zw w bn offn ns) (hsn:zBc ns) (hBn:bn < w.heap.size) :
  Calls Tryz.prog 44 #[.agg #[.map (some bo),.map (some bs)],.agg #[.slice (some ⟨bn,offn,none⟩) ns.length cn]] w fun e w'=>zCQ e (ZL ns /\ zDi xs ns) /\ Below w.heap.size w w':=by
 have HI:=zB hi
 have HC:=zB hc
 have HOK:=zB hok
 have HWN:=zB hwn
 have HZN:=zB hsn
 have bel0:Below w.heap.size w ((w.alloc (.cells #[.map (some bo),.map (some bs)] 69)).alloc (.cells #[.slice (some ⟨bn,offn,none⟩) ns.length cn] 28)):=(zC _ _).alloc (by simp) _
 clear hi hc hok hwn hsn
 go_enter Tryz.func44,Tryz.ntmps44
 go_wp2_with fail
 refine (zJW bn offn cn ns _ hmn ((zA HWN).below bel0 hBn) (zA HZN) (Nat.lt_of_lt_of_le hBn bel0.size)).mono ?_
 rintro e w2 ⟨⟨v,rfl,hv⟩,hb2⟩
 have HV:=zB hv
 have bel2:=bel0.trans (hb2.mono bel0.size)
 have k1:w2.cell? ⟨w.heap.size + 1,0,none⟩ = some (.slice (some ⟨bn,offn,none⟩) ns.length cn):=(hb2.cell (p:=⟨w.heap.size + 1,0,none⟩) (by simp)).trans (by simp [go_sem])
 have k2:w2.cell? ⟨w.heap.size,0,none⟩ = some (.map (some bo)):=(hb2.cell (p:=⟨w.heap.size,0,none⟩) (by simp; omega)).trans (by simp [go_sem])
 have k3:w2.cell? ⟨w.heap.size,1,none⟩ = some (.map (some bs)):=(hb2.cell (p:=⟨w.heap.size,1,none⟩) (by simp; omega)).trans (by simp [go_sem])
 clear hv hb2 bel0
 cases v
 ·go_wp2_with fail
  go_ret
  exact ⟨⟨_,rfl,zL (fun h=>Bool.false_ne_true ((zA HV).2 h.1))⟩,bel2⟩
 have HO:=zB ((zA HV).1 rfl)
 clear HV
 go_wp2_with fail
 refine (zIY bo bs bn offn cn xs ns _ hmn ((zA HI).kept bel2) (zA HC) (zA HOK) ((zA HWN).below bel2 hBn) (zA HZN) (Nat.lt_of_lt_of_le hBn bel2.size)).mono ?_
 rintro e w3 ⟨⟨v,rfl,hv⟩,hb3⟩
 have HV:=zB hv
 have bel3:=bel2.trans (hb3.mono bel2.size)
 clear hv hb3 bel2 k1 k2 k3
 cases v
 ·go_wp2_with fail
  go_ret
  exact ⟨⟨_,rfl,zL (fun h=>Bool.false_ne_true ((zA HV).2 h.2))⟩,bel3⟩
 ·go_wp2_with fail
  go_ret
  exact ⟨⟨_,rfl,Ze ⟨zA HO,(zA HV).1 rfl⟩⟩,bel3⟩
end Go.Proofs.YtfboipappaonhaaGreat
