import Derived.Test.YtfboipappaonhaaGreatV14
import Derived.Test.YtfboipappaonhaaGreatV39
namespace Go.Proofs.YtfboipappaonhaaGreat
set_option linter.unusedSimpArgs false
set_option linter.unusedVariables false
set_option maxHeartbeats 16000000
set_option maxRecDepth 100000
open Go.RowKit Go.Maps
theorem zCg (ns:List OpR) (o:zD) (l:Int) (s:Nat) (u:List zD):(zAs ns o l s u).length + 1 = u.length + zHA (ZF ns o) l:=by
 unfold zAs zHA
 split <;> simp
theorem zDw {ns:List OpR} {o:zD} {j:Nat} (h:fnd ns o.t (o.k - 2) = some j):opA ns o = atO ns j:=by
 unfold opA
 rw [h]
theorem zDx {ns:List OpR} {o:zD} {j:Nat} (h:fnd ns o.t (o.k - 2) = some j) (b:Bool):zR ns o b = zk (opA ns o).s (opA ns o).k (opA ns o).l (opA ns o).sd b:=by
 rw [zDw h]
 unfold zR
 rw [h]
 rfl
theorem zBH (ns:List OpR) (xs:List zD):∀ n i f,i < n -> frS xs i = some f -> ∀ l,∃ T v,fS ns xs i l = .iface T v
 | 0,_,_,h,_=>absurd h (Nat.not_lt_zero _)
 | n + 1,i,f,h,hf=>by
  intro l
  have cl:∀ p o e e',∃ T v,zBN ns (atN xs i) l (exN p o e e') = .iface T v:=fun p o e e'=>by
   obtain ⟨T,v,h⟩:=zBp p o e e'
   rw [h]
   exact zA7 (ZF ns (atN xs i)) l T v
  rcases Zq hf with ⟨hk,ha,hb,hfi⟩ | ⟨hk,h1i,ha,hbb,hf1⟩ | ⟨hk,h1i,hbb,f2,hf2,h2f,ha,hf1⟩
  ·rw [zEs hk]; exact cl _ _ _ _
  ·by_cases h6:(atN xs i).k = 6
   ·rw [zFO h6 h1i hf1]
    exact zBH ns xs n (i - 1) f (by omega) hf1 l
   ·rw [zG2 hk h6 h1i hf1]; exact cl _ _ _ _
  ·rw [zIf hk h1i hf2 h2f ha hf1]; exact cl _ _ _ _
theorem zCO {w:World} {g m m':Nat} {e e':Value} (hm:m = m') (he:e = e') {f:FuncId} {args:Array Value} (h:Calls Tryz.prog f args w (Z0 w g m e)):Calls Tryz.prog f args w (Z0 w g m' e'):=by
 subst hm
 subst he
 exact h
theorem zE5 (ns:List OpR) (xs:List zD) (htx:∀ i,i < xs.length -> Za (atN xs i)) (hkn:zAL ns xs) (hsz:Ze ns):∀ n i f,i < n -> i < xs.length -> frS xs i = some f -> ∀ (g m:Nat) (least:Int) (w:World),zAk w g m -> m + 2 * (i + 1 - f) <= 90000 ->
  Calls Tryz.prog 66 #[.pointer (some ⟨g,0,none⟩),exS ns xs i,.int .i64 least] w (Z0 w g (m + (gS ns xs i least 0).length) (fS ns xs i least))
 | 0,_,_,h,_,_=>absurd h (Nat.not_lt_zero _)
 | n + 1,i,f,h,hi,hf=>by
  intro g m least w hg hm
  have hso:zn (atN xs i) -> ∃ j,fnd ns (atN xs i).t ((atN xs i).k - 2) = some j:=fun ho=>by
   cases e:fnd ns (atN xs i).t ((atN xs i).k - 2) with
   | none=>exact absurd e (hkn i hi ho)
   | some j=>exact ⟨j,rfl⟩
  have hlo:zn (atN xs i) -> ZF ns (atN xs i) = (opA ns (atN xs i)).l:=fun ho=>by
   obtain ⟨j,hj⟩:=hso ho
   rw [zDw hj]
   exact zJW ho.1 ho.2 hj
  have hss:zn (atN xs i) -> (opA ns (atN xs i)).s.size <= maxLen:=fun ho=>by
   obtain ⟨j,hj⟩:=hso ho
   rw [zDw hj]
   exact hsz j (Zg hj).1
  rcases Zq hf with ⟨hk,ha,hb,hfi⟩ | ⟨hk,h1i,ha,hbb,hf1⟩ | ⟨hk,h1i,hbb,f2,hf2,h2f,ha,hf1⟩
  ·rcases (htx i hi).2 with ⟨h1,_⟩ | ⟨h2,_⟩ | ⟨h6,_⟩ | ⟨h345,_⟩
   ·have hl:ZF ns (atN xs i) = 1001:=zFQ (by omega)
    have e0:exS ns xs i = zG1 (atN xs i).t:=by rw [zC6]; simp only [exN,h1,if_true]
    have e1:fS ns xs i least = zDe 1001 least (zG1 (atN xs i).t):=by
     rw [zEs hk,zBN,hl]; simp only [exN,h1,if_true]; rfl
    have e2:=zCg ns (atN xs i) least 0 [⟨(atN xs i).k,(atN xs i).t,0,0⟩]
    rw [<- zCC hk,hl] at e2
    simp only [List.length_cons,List.length_nil] at e2
    rw [e0]
    exact zCO (by omega) e1.symm (zH5 (zNd _) (zJZ _) g m least w hg (by omega))
   ·have hl:ZF ns (atN xs i) = 1001:=zFQ (by omega)
    have e0:exS ns xs i = zDY (atN xs i).t:=by rw [zC6]; simp only [exN,h2]; rfl
    have e1:fS ns xs i least = zDe 1001 least (zDY (atN xs i).t):=by
     rw [zEs hk,zBN,hl]; simp only [exN,h2]; rfl
    have e2:=zCg ns (atN xs i) least 0 [⟨(atN xs i).k,(atN xs i).t,0,0⟩]
    rw [<- zCC hk,hl] at e2
    simp only [List.length_cons,List.length_nil] at e2
    rw [e0]
    exact zCO (by omega) e1.symm (zH5 (zMV _) (zH3 _) g m least w hg (by omega))
   ·rw [h6] at hk; simp [zM] at hk
   ·rcases h345 with h | h | h <;> rw [h] at hk <;> simp [zM] at hk
  ·have hle:=ZM hf1
   have ih:=zE5 ns xs htx hkn hsz n (i - 1) f (by omega) (by omega) hf1
   have hln:=zAM ns xs i (i - 1) f (by omega) hf1
   obtain ⟨T,v,hTv⟩:=zAU ns xs (i - 1)
   rw [hTv] at ih
   have ex:=zMJ (ns:=ns) h1i ha .nilIface hk
   rw [hTv] at ex
   rcases (htx i hi).2 with ⟨h1,_⟩ | ⟨h2,_⟩ | ⟨h6,_⟩ | ⟨h345,_⟩
   ·rw [h1] at hk; simp [zM] at hk
   ·rw [h2] at hk; simp [zM] at hk
   ·have e0:exS ns xs i = zDZ (.iface T v):=by rw [ex]; simp only [exN,h6]; rfl
    rw [e0]
    refine zCO rfl (zFO h6 h1i hf1 least).symm (zMW g _ least w (zBH ns xs i (i - 1) f (by omega) hf1 least) (fun o=>?_))
    refine zCO (by rw [zBk h6 h1i hf1]) rfl (ih g m least _ (hg.below (zC _ _)) (by omega))
   ·rcases h345 with h | h | h
    ·have ho:zn (atN xs i):=⟨by omega,by omega⟩
     obtain ⟨j,hj⟩:=hso ho
     have e0:exS ns xs i = zC5 (opA ns (atN xs i)) (.iface T v):=by rw [ex]; simp only [exN,h]; rfl
     have e1:fS ns xs i least = zDe (opA ns (atN xs i)).l least (zC5 (opA ns (atN xs i)) (fS ns xs (i - 1) (zR ns (atN xs i) false))):=by
      rw [zG2 hk (by omega) h1i hf1,zBN,hlo ho]; simp only [exN,h]; rfl
     have e2:=zCg ns (atN xs i) least 0 (gS ns xs (i - 1) (zR ns (atN xs i) false) 0 ++ [⟨(atN xs i).k,(atN xs i).t,((0 + (gS ns xs (i - 1) (zR ns (atN xs i) false) 0).length:Nat):Int) - 1,0⟩])
     rw [<- zC4 hk (by omega) h1i hf1 least 0 rfl,hlo ho,List.length_append] at e2
     simp only [List.length_cons,List.length_nil] at e2
     have hl1:=(hln (zR ns (atN xs i) false) 0).2
     rw [e0]
     refine zCO ?_ e1.symm (zM5 (opA ns (atN xs i)) g m (m + (gS ns xs (i - 1) (zR ns (atN xs i) false) 0).length) least w (zBH ns xs i (i - 1) f (by omega) hf1 _) hg (hss ho) (by omega) (fun W hW=>?_))
     ·omega
     ·rw [<- zDx hj false]
      exact ih g m _ W hW (by omega)
    ·rw [h] at hk; simp [zM] at hk
    ·have ho:zn (atN xs i):=⟨by omega,by omega⟩
     obtain ⟨j,hj⟩:=hso ho
     have e0:exS ns xs i = zAo (opA ns (atN xs i)) (.iface T v):=by rw [ex]; simp only [exN,h]; rfl
     have e1:fS ns xs i least = zDe (opA ns (atN xs i)).l least (zAo (opA ns (atN xs i)) (fS ns xs (i - 1) (zR ns (atN xs i) false))):=by
      rw [zG2 hk (by omega) h1i hf1,zBN,hlo ho]; simp only [exN,h]; rfl
     have e2:=zCg ns (atN xs i) least 0 (gS ns xs (i - 1) (zR ns (atN xs i) false) 0 ++ [⟨(atN xs i).k,(atN xs i).t,((0 + (gS ns xs (i - 1) (zR ns (atN xs i) false) 0).length:Nat):Int) - 1,0⟩])
     rw [<- zC4 hk (by omega) h1i hf1 least 0 rfl,hlo ho,List.length_append] at e2
     simp only [List.length_cons,List.length_nil] at e2
     have hl1:=(hln (zR ns (atN xs i) false) 0).2
     rw [e0]
     refine zCO ?_ e1.symm (zL5 (opA ns (atN xs i)) g m (m + (gS ns xs (i - 1) (zR ns (atN xs i) false) 0).length) least w (zBH ns xs i (i - 1) f (by omega) hf1 _) hg (hss ho) (by omega) (fun W hW=>?_))
     ·omega
     ·rw [<- zDx hj false]
      exact ih g m _ W hW (by omega)
  ·have hle:=ZM hf2
   have hle1:=ZM hf1
   have h4:(atN xs i).k = 4:=by
    unfold zM at hk
    split at hk
    ·assumption
    ·split at hk <;> omega
   have ho:zn (atN xs i):=⟨by omega,by omega⟩
   obtain ⟨j,hj⟩:=hso ho
   have ih1:=zE5 ns xs htx hkn hsz n (f2 - 1) f (by omega) (by omega) hf1
   have ih2:=zE5 ns xs htx hkn hsz n (i - 1) f2 (by omega) (by omega) hf2
   have hln1:=(zAM ns xs i (f2 - 1) f (by omega) hf1 (zR ns (atN xs i) false) 0).2
   have hln2:=(zAM ns xs i (i - 1) f2 (by omega) hf2 (zR ns (atN xs i) true) 0).2
   obtain ⟨T,v,hTv⟩:=zAU ns xs (f2 - 1)
   obtain ⟨T2,v2,hTv2⟩:=zAU ns xs (i - 1)
   rw [hTv] at ih1
   rw [hTv2] at ih2
   have ex:=zMK (ns:=ns) (j:=f2 - 1) h1i (by rw [ha]; omega) (by omega) hbb
   rw [hTv,hTv2] at ex
   have e0:exS ns xs i = zCV (opA ns (atN xs i)) (.iface T v) (.iface T2 v2):=by rw [ex]; simp only [exN,h4]; rfl
   have e1:fS ns xs i least = zDe (opA ns (atN xs i)).l least (zCV (opA ns (atN xs i)) (fS ns xs (f2 - 1) (zR ns (atN xs i) false)) (fS ns xs (i - 1) (zR ns (atN xs i) true))):=by
    rw [zIf hk h1i hf2 h2f ha hf1,zBN,hlo ho]; simp only [exN,h4]; rfl
   obtain ⟨u1,hu1⟩:∃ u1,u1 = gS ns xs (f2 - 1) (zR ns (atN xs i) false) 0:=⟨_,rfl⟩
   obtain ⟨u2,hu2⟩:∃ u2,u2 = gS ns xs (i - 1) (zR ns (atN xs i) true) (0 + u1.length):=⟨_,rfl⟩
   have e2:=zCg ns (atN xs i) least 0 ((u1 ++ u2) ++ [⟨(atN xs i).k,(atN xs i).t,((0 + u1.length:Nat):Int) - 1,((0 + u1.length + u2.length:Nat):Int) - 1⟩])
   rw [<- zD8 hk h1i hf2 h2f ha hf1 least 0 hu1 hu2,hlo ho,List.length_append,List.length_append] at e2
   simp only [List.length_cons,List.length_nil] at e2
   have e3:u2.length = (gS ns xs (i - 1) (zR ns (atN xs i) true) 0).length:=by
    rw [hu2]; exact zA3 ns xs i (i - 1) f2 (by omega) hf2 _ _ _
   rw [<- hu1] at hln1
   rw [<- e3] at hln2
   rw [e0]
   refine zCO ?_ e1.symm (zM6 (opA ns (atN xs i)) g m (m + u1.length) (m + u1.length + u2.length) least w (zBH ns xs i (f2 - 1) f (by omega) hf1 _) (zBH ns xs i (i - 1) f2 (by omega) hf2 _) hg (hss ho) (by omega) (fun W hW=>?_) (fun W hW=>?_))
   ·omega
   ·rw [<- zDx hj false,hu1]
    exact ih1 g m _ W hW (by omega)
   ·rw [<- zDx hj true,e3]
    exact ih2 g _ _ W hW (by omega)
theorem zFv {ns:List OpR} {o:zD} {p:OpR} {v:Bool} (h:zE4 ns o p v) (ho:zn o) (hk:fnd ns o.t (o.k - 2) ≠ none):p = opA ns o:=by
 rcases h with ⟨j,_,hj,_,rfl⟩ | ⟨h,_⟩
 ·exact (zDw hj).symm
 ·exact absurd (h ho) hk
theorem zBf (bo bs:Nat) (ns:List OpR) (o:zD) (e e':Value) (w:World) (hi:Idx w bo bs ns ns.length) (hc:zK ns 0) (hok:Z1 ns ns.length) (ht:o.t.size <= maxLen) (hk:o.k = 1 \/ o.k = 2) :
  Calls Tryz.prog 116 #[.agg #[.map (some bo),.map (some bs)],.agg #[.int .i64 o.k,.string o.t,.int .i64 o.a,.int .i64 o.b],e,e'] w fun x w'=>x = .returned (exN (opA ns o) o e e') /\ Below w.heap.size w w':=by
 have HI:=zB (fun o1 o2=>(hi.kept (zC w o1)).kept (zC _ o2))
 have HC:=zB hc
 have HOK:=zB hok
 clear hi hc hok
 go_enter Tryz.func116,Tryz.ntmps116
 go_wp2_with fail
 refine (zBG bo bs ns o _ ((zA HI) _ _) (zA HC) (zA HOK) ht).mono ?_
 rintro x w1 ⟨⟨p,v,rfl,hp⟩,hb1⟩
 have bel1:Below w.heap.size w w1:=((zC _ _).alloc (by simp) _).trans (hb1.mono (by simp; omega))
 have z1:w.heap.size + 2 <= w1.heap.size:=by have:=hb1.size; simp at this; omega
 have c0:(w1.alloc (.cells #[.string p.s,.int .i64 p.k,.int .i64 p.l,.int .i64 p.sd] 123)).cell? ⟨w.heap.size + 1,0,none⟩ = some (.int .i64 o.k):=((zC _ _).cell (p:=⟨w.heap.size + 1,0,none⟩) (show w.heap.size + 1 < w1.heap.size by omega)).trans ((hb1.cell (p:=⟨w.heap.size + 1,0,none⟩) (by simp)).trans (by simp [go_sem]))
 have c1:(w1.alloc (.cells #[.string p.s,.int .i64 p.k,.int .i64 p.l,.int .i64 p.sd] 123)).cell? ⟨w.heap.size + 1,1,none⟩ = some (.string o.t):=((zC _ _).cell (p:=⟨w.heap.size + 1,1,none⟩) (show w.heap.size + 1 < w1.heap.size by omega)).trans ((hb1.cell (p:=⟨w.heap.size + 1,1,none⟩) (by simp)).trans (by simp [go_sem]))
 clear hp hb1
 rcases hk with hk | hk
 ·have HE:=zB (show exN (opA ns o) o e e' = zG1 o.t by simp only [exN,hk]; rfl)
  rw [hk] at c0
  go_wp2_with fail
  go_ret
  exact ⟨by rw [zA HE]; rfl,bel1.alloc bel1.size _⟩
 ·have HE:=zB (show exN (opA ns o) o e e' = zDY o.t by simp only [exN,hk]; rfl)
  rw [hk] at c0
  go_wp2_with fail
  go_ret
  exact ⟨by rw [zA HE]; rfl,bel1.alloc bel1.size _⟩
theorem zCP (bo bs:Nat) (ns:List OpR) (o:zD) (T:TypeId) (u:Value) (e':Value) (w:World) (hi:Idx w bo bs ns ns.length) (hc:zK ns 0) (hok:Z1 ns ns.length) (ht:o.t.size <= maxLen) (hk:o.k = 3 \/ o.k = 5 \/ o.k = 6) (hkn:zn o -> fnd ns o.t (o.k - 2) ≠ none) :
  Calls Tryz.prog 116 #[.agg #[.map (some bo),.map (some bs)],.agg #[.int .i64 o.k,.string o.t,.int .i64 o.a,.int .i64 o.b],.iface T u,e'] w fun x w'=>x = .returned (exN (opA ns o) o (.iface T u) e') /\ Below w.heap.size w w':=by
 have HI:=zB (fun o1 o2=>(hi.kept (zC w o1)).kept (zC _ o2))
 have HC:=zB hc
 have HOK:=zB hok
 have HKN:=zB hkn
 clear hi hc hok hkn
 go_enter Tryz.func116,Tryz.ntmps116
 go_wp2_with fail
 refine (zBG bo bs ns o _ ((zA HI) _ _) (zA HC) (zA HOK) ht).mono ?_
 rintro x w1 ⟨⟨p,v,rfl,hp⟩,hb1⟩
 have HP:=zB hp
 have bel1:Below w.heap.size w w1:=((zC _ _).alloc (by simp) _).trans (hb1.mono (by simp; omega))
 have z1:w.heap.size + 2 <= w1.heap.size:=by have:=hb1.size; simp at this; omega
 have c0:(w1.alloc (.cells #[.string p.s,.int .i64 p.k,.int .i64 p.l,.int .i64 p.sd] 123)).cell? ⟨w.heap.size + 1,0,none⟩ = some (.int .i64 o.k):=((zC _ _).cell (p:=⟨w.heap.size + 1,0,none⟩) (show w.heap.size + 1 < w1.heap.size by omega)).trans ((hb1.cell (p:=⟨w.heap.size + 1,0,none⟩) (by simp)).trans (by simp [go_sem]))
 clear hp hb1
 rcases hk with hk | hk | hk
 ·have HE:=zB (show exN (opA ns o) o (.iface T u) e' = zC5 p (.iface T u) by
   rw [zFv (zA HP) ⟨by omega,by omega⟩ ((zA HKN) ⟨by omega,by omega⟩)]
   simp only [exN,hk]; rfl)
  rw [hk] at c0
  clear hk HKN
  go_wp2_with fail
  go_ret
  exact ⟨by rw [zA HE]; rfl,bel1.alloc bel1.size _⟩
 ·have HE:=zB (show exN (opA ns o) o (.iface T u) e' = zAo p (.iface T u) by
   rw [zFv (zA HP) ⟨by omega,by omega⟩ ((zA HKN) ⟨by omega,by omega⟩)]
   simp only [exN,hk]; rfl)
  rw [hk] at c0
  clear hk HKN
  go_wp2_with fail
  go_ret
  exact ⟨by rw [zA HE]; rfl,bel1.alloc bel1.size _⟩
 ·have HE:=zB (show exN (opA ns o) o (.iface T u) e' = zDZ (.iface T u) by simp only [exN,hk]; rfl)
  rw [hk] at c0
  clear hk HKN
  go_wp2_with fail
  go_ret
  exact ⟨by rw [zA HE]; rfl,bel1.alloc bel1.size _⟩
theorem zHb (bo bs:Nat) (ns:List OpR) (o:zD) (T T':TypeId) (u u':Value) (w:World) (hi:Idx w bo bs ns ns.length) (hc:zK ns 0) (hok:Z1 ns ns.length) (ht:o.t.size <= maxLen) (hk:o.k = 4) (hkn:zn o -> fnd ns o.t (o.k - 2) ≠ none) :
  Calls Tryz.prog 116 #[.agg #[.map (some bo),.map (some bs)],.agg #[.int .i64 o.k,.string o.t,.int .i64 o.a,.int .i64 o.b],.iface T u,.iface T' u'] w fun x w'=>x = .returned (exN (opA ns o) o (.iface T u) (.iface T' u')) /\ Below w.heap.size w w':=by
 have HI:=zB (fun o1 o2=>(hi.kept (zC w o1)).kept (zC _ o2))
 have HC:=zB hc
 have HOK:=zB hok
 have HKN:=zB hkn
 have HK4:=zB hk
 clear hi hc hok hkn hk
 go_enter Tryz.func116,Tryz.ntmps116
 go_wp2_with fail
 refine (zBG bo bs ns o _ ((zA HI) _ _) (zA HC) (zA HOK) ht).mono ?_
 rintro x w1 ⟨⟨p,v,rfl,hp⟩,hb1⟩
 have HP:=zB hp
 have bel1:Below w.heap.size w w1:=((zC _ _).alloc (by simp) _).trans (hb1.mono (by simp; omega))
 have z1:w.heap.size + 2 <= w1.heap.size:=by have:=hb1.size; simp at this; omega
 have c0:(w1.alloc (.cells #[.string p.s,.int .i64 p.k,.int .i64 p.l,.int .i64 p.sd] 123)).cell? ⟨w.heap.size + 1,0,none⟩ = some (.int .i64 o.k):=((zC _ _).cell (p:=⟨w.heap.size + 1,0,none⟩) (show w.heap.size + 1 < w1.heap.size by omega)).trans ((hb1.cell (p:=⟨w.heap.size + 1,0,none⟩) (by simp)).trans (by simp [go_sem]))
 clear hp hb1
 have hk:=zA HK4
 have HE:=zB (show exN (opA ns o) o (.iface T u) (.iface T' u') = zCV p (.iface T u) (.iface T' u') by
  rw [zFv (zA HP) ⟨by omega,by omega⟩ ((zA HKN) ⟨by omega,by omega⟩)]
  simp only [exN,hk]; rfl)
 rw [hk] at c0
 clear hk HKN
 go_wp2_with fail
 go_ret
 exact ⟨by rw [zA HE]; rfl,bel1.alloc bel1.size _⟩
end Go.Proofs.YtfboipappaonhaaGreat
