import Derived.Test.YtfboipappaonhaaGreatF13
import Derived.Test.YtfboipappaonhaaGreatF43
import Derived.Test.YtfboipappaonhaaGreatF48
namespace Go.Proofs.YtfboipappaonhaaGreat
set_option linter.unusedSimpArgs false
set_option linter.unusedVariables false
set_option maxHeartbeats 16000000
set_option maxRecDepth 100000
open Go.RowKit Go.Maps
theorem zD6 (ns:List OpR) (o:zD) (l:Int) (s:Nat) (u:List zD):(zCT ns o l s u).length+1=u.length+zI1 (Zd ns o) l:=by
 unfold zCT zI1
 split <;> simp
theorem zFV {ns:List OpR} {o:zD} {j:Nat} (h:fnd ns o.t (o.k-2)=some j):opA ns o=atO ns j:=by
 unfold opA
 rw [h]
theorem zFW {ns:List OpR} {o:zD} {j:Nat} (h:fnd ns o.t (o.k-2)=some j) (b:Bool):zY ns o b=ZJ (opA ns o).s (opA ns o).k (opA ns o).l (opA ns o).sd b:=by
 rw [zFV h]
 unfold zY
 rw [h]
 rfl
theorem zCR (ns:List OpR) (xs:List zD):∀ n i f,i<n->frS xs i=some f->∀ l,∃ T v,fS ns xs i l = .iface T v
 | 0,_,_,h,_=>absurd h (Nat.not_lt_zero _)
 | n+1,i,f,h,hf=>by
  intro l
  have cl:∀ p o e e',∃ T v,zCW ns (atN xs i) l (exN p o e e') = .iface T v:=fun p o e e'=>by
   obtain ⟨T,v,h⟩:=zC3 p o e e'
   rw [h]
   exact zCB (Zd ns (atN xs i)) l T v
  rcases zAe hf with ⟨hk,ha,hb,hfi⟩ | ⟨hk,h1i,ha,hbb,hf1⟩ | ⟨hk,h1i,hbb,f2,hf2,h2f,ha,hf1⟩
  ·rw [zGW hk]; exact cl _ _ _ _
  ·by_cases h6:(atN xs i).k=6
   ·rw [zG1 h6 h1i hf1]
    exact zCR ns xs n (i-1) f (by omega) hf1 l
   ·rw [zIv hk h6 h1i hf1]; exact cl _ _ _ _
  ·rw [zKv hk h1i hf2 h2f ha hf1]; exact cl _ _ _ _
theorem zDl {w:World} {g m m':Nat} {e e':Value} (hm:m=m') (he:e=e') {f:FuncId} {args:Array Value} (h:Calls Tryz.prog f args w (zAr w g m e)):Calls Tryz.prog f args w (zAr w g m' e'):=by
 subst hm
 subst he
 exact h
theorem zGl (ns:List OpR) (xs:List zD) (htx:∀ i,i<xs.length->zAA (atN xs i)) (hkn:zAt ns xs) (hsz:ZV ns):∀ n i f,i<n->i<xs.length->frS xs i=some f->∀ (g m:Nat) (least:Int) (w:World),zBt w g m->m+2*(i+1-f)<=90000 ->
  Calls Tryz.prog 66 #[.pointer (some ⟨g,0,none⟩),exS ns xs i,.int .i64 least] w (zAr w g (m+(gS ns xs i least 0).length) (fS ns xs i least))
 | 0,_,_,h,_,_=>absurd h (Nat.not_lt_zero _)
 | n+1,i,f,h,hi,hf=>by
  intro g m least w hg hm
  have hso:ZF (atN xs i)->∃ j,fnd ns (atN xs i).t ((atN xs i).k-2)=some j:=fun ho=>by
   cases e:fnd ns (atN xs i).t ((atN xs i).k-2) with
   | none=>exact absurd e (hkn i hi ho)
   | some j=>exact ⟨j,rfl⟩
  have hlo:ZF (atN xs i)->Zd ns (atN xs i)=(opA ns (atN xs i)).l:=fun ho=>by
   obtain ⟨j,hj⟩:=hso ho
   rw [zFV hj]
   exact zLv ho.1 ho.2 hj
  have hss:ZF (atN xs i)->(opA ns (atN xs i)).s.size<=maxLen:=fun ho=>by
   obtain ⟨j,hj⟩:=hso ho
   rw [zFV hj]
   exact hsz j (Z2 hj).1
  rcases zAe hf with ⟨hk,ha,hb,hfi⟩ | ⟨hk,h1i,ha,hbb,hf1⟩ | ⟨hk,h1i,hbb,f2,hf2,h2f,ha,hf1⟩
  ·rcases (htx i hi).2 with ⟨h1,_⟩ | ⟨h2,_⟩ | ⟨h6,_⟩ | ⟨h345,_⟩
   ·have hl:Zd ns (atN xs i)=1001:=zHB (by omega)
    have e0:exS ns xs i=zIu (atN xs i).t:=by rw [zEe]; simp only [exN,h1,if_true]
    have e1:fS ns xs i least=zFB 1001 least (zIu (atN xs i).t):=by
     rw [zGW hk,zCW,hl]; simp only [exN,h1,if_true]; rfl
    have e2:=zD6 ns (atN xs i) least 0 [⟨(atN xs i).k,(atN xs i).t,0,0⟩]
    rw [<- zDS hk,hl] at e2
    simp only [List.length_cons,List.length_nil] at e2
    rw [e0]
    exact zDl (by omega) e1.symm (zKA (zP6 _) (zLo _) g m least w hg (by omega))
   ·have hl:Zd ns (atN xs i)=1001:=zHB (by omega)
    have e0:exS ns xs i=zE5 (atN xs i).t:=by rw [zEe]; simp only [exN,h2]; rfl
    have e1:fS ns xs i least=zFB 1001 least (zE5 (atN xs i).t):=by
     rw [zGW hk,zCW,hl]; simp only [exN,h2]; rfl
    have e2:=zD6 ns (atN xs i) least 0 [⟨(atN xs i).k,(atN xs i).t,0,0⟩]
    rw [<- zDS hk,hl] at e2
    simp only [List.length_cons,List.length_nil] at e2
    rw [e0]
    exact zDl (by omega) e1.symm (zKA (zOt _) (zJ8 _) g m least w hg (by omega))
   ·rw [h6] at hk; simp [zU] at hk
   ·rcases h345 with h | h | h <;> rw [h] at hk <;> simp [zU] at hk
  ·have hle:=Zl hf1
   have ih:=zGl ns xs htx hkn hsz n (i-1) f (by omega) (by omega) hf1
   have hln:=zBV ns xs i (i-1) f (by omega) hf1
   obtain ⟨T,v,hTv⟩:=zBW ns xs (i-1)
   rw [hTv] at ih
   have ex:=zOn (ns:=ns) h1i ha .nilIface hk
   rw [hTv] at ex
   rcases (htx i hi).2 with ⟨h1,_⟩ | ⟨h2,_⟩ | ⟨h6,_⟩ | ⟨h345,_⟩
   ·rw [h1] at hk; simp [zU] at hk
   ·rw [h2] at hk; simp [zU] at hk
   ·have e0:exS ns xs i=zE6 (.iface T v):=by rw [ex]; simp only [exN,h6]; rfl
    rw [e0]
    refine zDl rfl (zG1 h6 h1i hf1 least).symm (zOu g _ least w (zCR ns xs i (i-1) f (by omega) hf1 least) (fun o=>?_))
    refine zDl (by rw [zC0 h6 h1i hf1]) rfl (ih g m least _ (hg.below (zC _ _)) (by omega))
   ·rcases h345 with h | h | h
    ·have ho:ZF (atN xs i):=⟨by omega,by omega⟩
     obtain ⟨j,hj⟩:=hso ho
     have e0:exS ns xs i=zEd (opA ns (atN xs i)) (.iface T v):=by rw [ex]; simp only [exN,h]; rfl
     have e1:fS ns xs i least=zFB (opA ns (atN xs i)).l least (zEd (opA ns (atN xs i)) (fS ns xs (i-1) (zY ns (atN xs i) false))):=by
      rw [zIv hk (by omega) h1i hf1,zCW,hlo ho]; simp only [exN,h]; rfl
     have e2:=zD6 ns (atN xs i) least 0 (gS ns xs (i-1) (zY ns (atN xs i) false) 0++[⟨(atN xs i).k,(atN xs i).t,((0+(gS ns xs (i-1) (zY ns (atN xs i) false) 0).length:Nat):Int)-1,0⟩])
     rw [<- zEc hk (by omega) h1i hf1 least 0 rfl,hlo ho,List.length_append] at e2
     simp only [List.length_cons,List.length_nil] at e2
     have hl1:=(hln (zY ns (atN xs i) false) 0).2
     rw [e0]
     refine zDl ?_ e1.symm (zPl (opA ns (atN xs i)) g m (m+(gS ns xs (i-1) (zY ns (atN xs i) false) 0).length) least w (zCR ns xs i (i-1) f (by omega) hf1 _) hg (hss ho) (by omega) (fun W hW=>?_))
     ·omega
     ·rw [<- zFW hj false]
      exact ih g m _ W hW (by omega)
    ·rw [h] at hk; simp [zU] at hk
    ·have ho:ZF (atN xs i):=⟨by omega,by omega⟩
     obtain ⟨j,hj⟩:=hso ho
     have e0:exS ns xs i=zBw (opA ns (atN xs i)) (.iface T v):=by rw [ex]; simp only [exN,h]; rfl
     have e1:fS ns xs i least=zFB (opA ns (atN xs i)).l least (zBw (opA ns (atN xs i)) (fS ns xs (i-1) (zY ns (atN xs i) false))):=by
      rw [zIv hk (by omega) h1i hf1,zCW,hlo ho]; simp only [exN,h]; rfl
     have e2:=zD6 ns (atN xs i) least 0 (gS ns xs (i-1) (zY ns (atN xs i) false) 0++[⟨(atN xs i).k,(atN xs i).t,((0+(gS ns xs (i-1) (zY ns (atN xs i) false) 0).length:Nat):Int)-1,0⟩])
     rw [<- zEc hk (by omega) h1i hf1 least 0 rfl,hlo ho,List.length_append] at e2
     simp only [List.length_cons,List.length_nil] at e2
     have hl1:=(hln (zY ns (atN xs i) false) 0).2
     rw [e0]
     refine zDl ?_ e1.symm (zOd (opA ns (atN xs i)) g m (m+(gS ns xs (i-1) (zY ns (atN xs i) false) 0).length) least w (zCR ns xs i (i-1) f (by omega) hf1 _) hg (hss ho) (by omega) (fun W hW=>?_))
     ·omega
     ·rw [<- zFW hj false]
      exact ih g m _ W hW (by omega)
  ·have hle:=Zl hf2
   have hle1:=Zl hf1
   have h4:(atN xs i).k=4:=by
    unfold zU at hk
    split at hk
    ·assumption
    ·split at hk <;> omega
   have ho:ZF (atN xs i):=⟨by omega,by omega⟩
   obtain ⟨j,hj⟩:=hso ho
   have ih1:=zGl ns xs htx hkn hsz n (f2-1) f (by omega) (by omega) hf1
   have ih2:=zGl ns xs htx hkn hsz n (i-1) f2 (by omega) (by omega) hf2
   have hln1:=(zBV ns xs i (f2-1) f (by omega) hf1 (zY ns (atN xs i) false) 0).2
   have hln2:=(zBV ns xs i (i-1) f2 (by omega) hf2 (zY ns (atN xs i) true) 0).2
   obtain ⟨T,v,hTv⟩:=zBW ns xs (f2-1)
   obtain ⟨T2,v2,hTv2⟩:=zBW ns xs (i-1)
   rw [hTv] at ih1
   rw [hTv2] at ih2
   have ex:=zOo (ns:=ns) (j:=f2-1) h1i (by rw [ha]; omega) (by omega) hbb
   rw [hTv,hTv2] at ex
   have e0:exS ns xs i=zDt (opA ns (atN xs i)) (.iface T v) (.iface T2 v2):=by rw [ex]; simp only [exN,h4]; rfl
   have e1:fS ns xs i least=zFB (opA ns (atN xs i)).l least (zDt (opA ns (atN xs i)) (fS ns xs (f2-1) (zY ns (atN xs i) false)) (fS ns xs (i-1) (zY ns (atN xs i) true))):=by
    rw [zKv hk h1i hf2 h2f ha hf1,zCW,hlo ho]; simp only [exN,h4]; rfl
   obtain ⟨u1,hu1⟩:∃ u1,u1=gS ns xs (f2-1) (zY ns (atN xs i) false) 0:=⟨_,rfl⟩
   obtain ⟨u2,hu2⟩:∃ u2,u2=gS ns xs (i-1) (zY ns (atN xs i) true) (0+u1.length):=⟨_,rfl⟩
   have e2:=zD6 ns (atN xs i) least 0 ((u1++u2)++[⟨(atN xs i).k,(atN xs i).t,((0+u1.length:Nat):Int)-1,((0+u1.length+u2.length:Nat):Int)-1⟩])
   rw [<- zFf hk h1i hf2 h2f ha hf1 least 0 hu1 hu2,hlo ho,List.length_append,List.length_append] at e2
   simp only [List.length_cons,List.length_nil] at e2
   have e3:u2.length=(gS ns xs (i-1) (zY ns (atN xs i) true) 0).length:=by
    rw [hu2]; exact zB9 ns xs i (i-1) f2 (by omega) hf2 _ _ _
   rw [<- hu1] at hln1
   rw [<- e3] at hln2
   rw [e0]
   refine zDl ?_ e1.symm (zPm (opA ns (atN xs i)) g m (m+u1.length) (m+u1.length+u2.length) least w (zCR ns xs i (f2-1) f (by omega) hf1 _) (zCR ns xs i (i-1) f2 (by omega) hf2 _) hg (hss ho) (by omega) (fun W hW=>?_) (fun W hW=>?_))
   ·omega
   ·rw [<- zFW hj false,hu1]
    exact ih1 g m _ W hW (by omega)
   ·rw [<- zFW hj true,e3]
    exact ih2 g _ _ W hW (by omega)
theorem zHo {ns:List OpR} {o:zD} {p:OpR} {v:Bool} (h:zJi ns o p v) (ho:ZF o) (hk:fnd ns o.t (o.k-2)≠none):p=opA ns o:=by
 rcases h with ⟨j,_,hj,_,rfl⟩ | ⟨h,_⟩
 ·exact (zFV hj).symm
 ·exact absurd (h ho) hk
theorem zCs (bo bs:Nat) (ns:List OpR) (o:zD) (e e':Value) (w:World) (hi:Idx w bo bs ns ns.length) (hc:zM ns 0) (hok:zBF ns ns.length) (ht:o.t.size<=maxLen) (hk:o.k=1\/o.k=2) :
  Calls Tryz.prog 116 #[.agg #[.map (some bo),.map (some bs)],.agg #[.int .i64 o.k,.string o.t,.int .i64 o.a,.int .i64 o.b],e,e'] w fun x w'=>x = .returned (exN (opA ns o) o e e')/\Below w.heap.size w w':=by
 have HI:=zB (fun o1 o2=>(hi.kept (zC w o1)).kept (zC _ o2))
 have HC:=zB hc
 have HOK:=zB hok
 clear hi hc hok
 go_enter Tryz.func116,Tryz.ntmps116
 go_wp2_with fail
 refine (zFS bo bs ns o _ ((zA HI) _ _) (zA HC) (zA HOK) ht).mono ?_
 rintro x w1 ⟨⟨p,v,rfl,hp⟩,hb1⟩
 have bel1:Below w.heap.size w w1:=((zC _ _).alloc (by simp) _).trans (hb1.mono (by simp; omega))
 have z1:w.heap.size+2<=w1.heap.size:=by have:=hb1.size; simp at this; omega
 have c0:(w1.alloc (.cells #[.string p.s,.int .i64 p.k,.int .i64 p.l,.int .i64 p.sd] 123)).cell? ⟨w.heap.size+1,0,none⟩=some (.int .i64 o.k):=((zC _ _).cell (p:=⟨w.heap.size+1,0,none⟩) (show w.heap.size+1<w1.heap.size by omega)).trans ((hb1.cell (p:=⟨w.heap.size+1,0,none⟩) (by simp)).trans (by simp [go_sem]))
 have c1:(w1.alloc (.cells #[.string p.s,.int .i64 p.k,.int .i64 p.l,.int .i64 p.sd] 123)).cell? ⟨w.heap.size+1,1,none⟩=some (.string o.t):=((zC _ _).cell (p:=⟨w.heap.size+1,1,none⟩) (show w.heap.size+1<w1.heap.size by omega)).trans ((hb1.cell (p:=⟨w.heap.size+1,1,none⟩) (by simp)).trans (by simp [go_sem]))
 clear hp hb1
 rcases hk with hk | hk
 ·have HE:=zB (show exN (opA ns o) o e e'=zIu o.t by simp only [exN,hk]; rfl)
  rw [hk] at c0
  go_wp2_with fail
  go_ret
  exact ⟨by rw [zA HE]; rfl,bel1.alloc bel1.size _⟩
 ·have HE:=zB (show exN (opA ns o) o e e'=zE5 o.t by simp only [exN,hk]; rfl)
  rw [hk] at c0
  go_wp2_with fail
  go_ret
  exact ⟨by rw [zA HE]; rfl,bel1.alloc bel1.size _⟩
theorem zDm (bo bs:Nat) (ns:List OpR) (o:zD) (T:TypeId) (u:Value) (e':Value) (w:World) (hi:Idx w bo bs ns ns.length) (hc:zM ns 0) (hok:zBF ns ns.length) (ht:o.t.size<=maxLen) (hk:o.k=3\/o.k=5\/o.k=6) (hkn:ZF o->fnd ns o.t (o.k-2)≠none) :
  Calls Tryz.prog 116 #[.agg #[.map (some bo),.map (some bs)],.agg #[.int .i64 o.k,.string o.t,.int .i64 o.a,.int .i64 o.b],.iface T u,e'] w fun x w'=>x = .returned (exN (opA ns o) o (.iface T u) e')/\Below w.heap.size w w':=by
 have HI:=zB (fun o1 o2=>(hi.kept (zC w o1)).kept (zC _ o2))
 have HC:=zB hc
 have HOK:=zB hok
 have HKN:=zB hkn
 clear hi hc hok hkn
 go_enter Tryz.func116,Tryz.ntmps116
 go_wp2_with fail
 refine (zFS bo bs ns o _ ((zA HI) _ _) (zA HC) (zA HOK) ht).mono ?_
 rintro x w1 ⟨⟨p,v,rfl,hp⟩,hb1⟩
 have HP:=zB hp
 have bel1:Below w.heap.size w w1:=((zC _ _).alloc (by simp) _).trans (hb1.mono (by simp; omega))
 have z1:w.heap.size+2<=w1.heap.size:=by have:=hb1.size; simp at this; omega
 have c0:(w1.alloc (.cells #[.string p.s,.int .i64 p.k,.int .i64 p.l,.int .i64 p.sd] 123)).cell? ⟨w.heap.size+1,0,none⟩=some (.int .i64 o.k):=((zC _ _).cell (p:=⟨w.heap.size+1,0,none⟩) (show w.heap.size+1<w1.heap.size by omega)).trans ((hb1.cell (p:=⟨w.heap.size+1,0,none⟩) (by simp)).trans (by simp [go_sem]))
 clear hp hb1
 rcases hk with hk | hk | hk
 ·have HE:=zB (show exN (opA ns o) o (.iface T u) e'=zEd p (.iface T u) by
   rw [zHo (zA HP) ⟨by omega,by omega⟩ ((zA HKN) ⟨by omega,by omega⟩)]
   simp only [exN,hk]; rfl)
  rw [hk] at c0
  clear hk HKN
  go_wp2_with fail
  go_ret
  exact ⟨by rw [zA HE]; rfl,bel1.alloc bel1.size _⟩
 ·have HE:=zB (show exN (opA ns o) o (.iface T u) e'=zBw p (.iface T u) by
   rw [zHo (zA HP) ⟨by omega,by omega⟩ ((zA HKN) ⟨by omega,by omega⟩)]
   simp only [exN,hk]; rfl)
  rw [hk] at c0
  clear hk HKN
  go_wp2_with fail
  go_ret
  exact ⟨by rw [zA HE]; rfl,bel1.alloc bel1.size _⟩
 ·have HE:=zB (show exN (opA ns o) o (.iface T u) e'=zE6 (.iface T u) by simp only [exN,hk]; rfl)
  rw [hk] at c0
  clear hk HKN
  go_wp2_with fail
  go_ret
  exact ⟨by rw [zA HE]; rfl,bel1.alloc bel1.size _⟩
theorem zJm (bo bs:Nat) (ns:List OpR) (o:zD) (T T':TypeId) (u u':Value) (w:World) (hi:Idx w bo bs ns ns.length) (hc:zM ns 0) (hok:zBF ns ns.length) (ht:o.t.size<=maxLen) (hk:o.k=4) (hkn:ZF o->fnd ns o.t (o.k-2)≠none) :
  Calls Tryz.prog 116 #[.agg #[.map (some bo),.map (some bs)],.agg #[.int .i64 o.k,.string o.t,.int .i64 o.a,.int .i64 o.b],.iface T u,.iface T' u'] w fun x w'=>x = .returned (exN (opA ns o) o (.iface T u) (.iface T' u'))/\Below w.heap.size w w':=by
 have HI:=zB (fun o1 o2=>(hi.kept (zC w o1)).kept (zC _ o2))
 have HC:=zB hc
 have HOK:=zB hok
 have HKN:=zB hkn
 have HK4:=zB hk
 clear hi hc hok hkn hk
 go_enter Tryz.func116,Tryz.ntmps116
 go_wp2_with fail
 refine (zFS bo bs ns o _ ((zA HI) _ _) (zA HC) (zA HOK) ht).mono ?_
 rintro x w1 ⟨⟨p,v,rfl,hp⟩,hb1⟩
 have HP:=zB hp
 have bel1:Below w.heap.size w w1:=((zC _ _).alloc (by simp) _).trans (hb1.mono (by simp; omega))
 have z1:w.heap.size+2<=w1.heap.size:=by have:=hb1.size; simp at this; omega
 have c0:(w1.alloc (.cells #[.string p.s,.int .i64 p.k,.int .i64 p.l,.int .i64 p.sd] 123)).cell? ⟨w.heap.size+1,0,none⟩=some (.int .i64 o.k):=((zC _ _).cell (p:=⟨w.heap.size+1,0,none⟩) (show w.heap.size+1<w1.heap.size by omega)).trans ((hb1.cell (p:=⟨w.heap.size+1,0,none⟩) (by simp)).trans (by simp [go_sem]))
 clear hp hb1
 have hk:=zA HK4
 have HE:=zB (show exN (opA ns o) o (.iface T u) (.iface T' u')=zDt p (.iface T u) (.iface T' u') by
  rw [zHo (zA HP) ⟨by omega,by omega⟩ ((zA HKN) ⟨by omega,by omega⟩)]
  simp only [exN,hk]; rfl)
 rw [hk] at c0
 clear hk HKN
 go_wp2_with fail
 go_ret
 exact ⟨by rw [zA HE]; rfl,bel1.alloc bel1.size _⟩
end Go.Proofs.YtfboipappaonhaaGreat
