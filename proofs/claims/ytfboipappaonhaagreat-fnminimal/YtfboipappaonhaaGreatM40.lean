import Derived.Deep.RegionHeldLaw
import Derived.Test.YtfboipappaonhaaGreatM10
import Derived.Test.YtfboipappaonhaaGreatM23
import Derived.Test.YtfboipappaonhaaGreatM31
namespace Go.Proofs.YtfboipappaonhaaGreat
set_option linter.unusedSimpArgs false
set_option linter.unusedVariables false
set_option maxHeartbeats 16000000
set_option maxRecDepth 100000
open Go.RowKit
def zCC (w:World) (N:Nat) (p:OpR) (e:Value):Prop:=w.cell? ⟨N,0,none⟩ = some (.string p.s) /\ w.cell? ⟨N,1,none⟩ = some (.int .i64 p.k) /\ w.cell? ⟨N,2,none⟩ = some (.int .i64 p.l) /\ w.cell? ⟨N,3,none⟩ = some (.int .i64 p.sd) /\ w.cell? ⟨N,4,none⟩ = some e /\ w.frozen? ⟨N,4,none⟩ = false
theorem zCC.kept {w w':World} {N g:Nat} {p:OpR} {e:Value} (h:zCC w N p e) (hk:zE w w' g) (hne:N ≠ g):zCC w' N p e:=by
 obtain ⟨h0,h1,h2,h3,h4,h5⟩:=h
 have hlt:=block_lt_of_cell h0
 have c:=hk.cell hlt hne
 exact ⟨(c 0).trans h0,(c 1).trans h1,(c 2).trans h2,(c 3).trans h3,(c 4).trans h4,(hk.frozen hlt hne 4).trans h5⟩
theorem zCC.below {w w':World} {N:Nat} {p:OpR} {e:Value} (h:zCC w N p e) (hb:Below w.heap.size w w'):zCC w' N p e:=
 h.kept (g:=w.heap.size) (zE.of_below hb) (by have:N < w.heap.size:=block_lt_of_cell h.1; omega)
theorem zCC.set {w:World} {N:Nat} {p:OpR} {e:Value} (h:zCC w N p e) (e':Value):zCC (w.setCell ⟨N,4,none⟩ e') N p e':=by
 obtain ⟨h0,h1,h2,h3,h4,h5⟩:=h
 have c:∀ o,o ≠ 4 -> (w.setCell ⟨N,4,none⟩ e').cell? ⟨N,o,none⟩ = w.cell? ⟨N,o,none⟩:=fun o ho=>World.cell?_setCell_other _ _ _ _ (fun x=>ho (by injection x with _ x; exact x.symm))
 exact ⟨(c 0 (by omega)).trans h0,(c 1 (by omega)).trans h1,(c 2 (by omega)).trans h2,(c 3 (by omega)).trans h3,World.cell?_setCell_same _ _ _ h4,(World.frozen?_setCell _ _ _ _).trans h5⟩
theorem zA4.other {w:World} {g m N o:Nat} (h:zA4 w g m) (hne:N ≠ g) (v:Value):zA4 (w.setCell ⟨N,o,none⟩ v) g m:=
 ⟨(World.cell?_setCell_other _ _ _ _ (fun x=>hne (by injection x))).trans h.1,(World.frozen?_setCell _ _ _ _).trans h.2⟩
theorem zE.far {w w1:World} {g N:Nat} (h:zE w w1 g) (o:Nat) (v:Value) (hN:w.heap.size <= N):zE w (w1.setCell ⟨N,o,none⟩ v) g:=
 ⟨h.os,h.tape,h.output,by simpa [World.setCell] using h.size,fun i hi a=>(Below.heap_setCell _ _ _ _ (fun e=>by have:i = N:=e; omega)).trans (h.block i hi a)⟩
theorem zMd {T:TypeId} {v:Value} (p:OpR) (g m m1:Nat) (least:Int) {e1:Value} (w:World) (he:∃ T' v',e1 = .iface T' v') (hg:zA4 w g m) (hsz:p.s.size <= maxLen) (hm1:m1 <= 100000)
  (hc:∀ W,zA4 W g m -> Calls Tryz.prog 66 #[.pointer (some ⟨g,0,none⟩),.iface T v,.int .i64 (zm p.s p.k p.l p.sd false)] W (zAC W g m1 e1)) :
  Calls Tryz.prog 66 #[.pointer (some ⟨g,0,none⟩),zD7 p (.iface T v),.int .i64 least] w (zAC w g (m1 + zG2 p.l least) (zDg p.l least (zD7 p e1))):=by
 obtain ⟨T',v',rfl⟩:=he
 have n1:=zNC (.agg #[.string p.s,.int .i64 p.k,.int .i64 p.l,.int .i64 p.sd,.iface T v])
 have i1:=zNF (.agg #[.string p.s,.int .i64 p.k,.int .i64 p.l,.int .i64 p.sd,.iface T v])
 unfold zAn zG at n1
 have hlt:=block_lt_of_cell hg.1
 have HC:=zB hc
 have HGC:=zB (show zA4 (w.alloc (.cells #[.string p.s,.int .i64 p.k,.int .i64 p.l,.int .i64 p.sd,.iface T v] 129)).drew g m from hg.below ((zC _ _).drew))
 have HPC:=zB (show zCC (w.alloc (.cells #[.string p.s,.int .i64 p.k,.int .i64 p.l,.int .i64 p.sd,.iface T v] 129)).drew w.heap.size p (.iface T v) from
  (show zCC (w.alloc (.cells #[.string p.s,.int .i64 p.k,.int .i64 p.l,.int .i64 p.sd,.iface T v] 129)) w.heap.size p (.iface T v) from ⟨by simp [go_sem],by simp [go_sem],by simp [go_sem],by simp [go_sem],by simp [go_sem],by simp [go_sem]⟩).below ((Below.refl _ _).drew))
 have HKC:=zB (show zE w (w.alloc (.cells #[.string p.s,.int .i64 p.k,.int .i64 p.l,.int .i64 p.sd,.iface T v] 129)).drew g from zE.of_below ((zC _ _).drew))
 clear hc hg
 unfold zD7
 go_enter Tryz.func66,Tryz.ntmps66
 go_wp2_with fail
 clear n1 i1
 obtain ⟨k0,k1,k2,k3,k4,k5⟩:=zA HPC
 go_region_with
  (first | (go_at_call 90; refine (ZD p.s p.k p.l p.sd false _ hsz).mono ?_; rintro e w3 ⟨rfl,hb3⟩; replace HPC:=zB ((zA HPC).below hb3); replace ⟨k0,k1,k2,k3,k4,k5⟩:=zA HPC; replace HGC:=zB ((zA HGC).below hb3); replace HKC:=zB ((zA HKC).trans (zE.of_below hb3)); clear hb3) | (go_at_call 66; refine ((zA HC) _ (zA HGC)).mono ?_; rintro e w4 ⟨rfl,hg4,hk4⟩; replace HPC:=zB ((zA HPC).kept (zA hk4) (by omega)); replace HGC:=hg4; replace HKC:=zB ((zA HKC).trans (zA hk4)); clear hk4 hg4; replace ⟨k0,k1,k2,k3,k4,k5⟩:=zA HPC))
 all_goals
  replace HPC:=zB ((zA HPC).set (.iface T' v'))
  replace HGC:=zB ((zA HGC).other (N:=w.heap.size) (o:=4) (by omega) (.iface T' v'))
  replace HKC:=zB ((zA HKC).far 4 (.iface T' v') (Nat.le_refl _))
  clear k0 k1 k2 k3 k4 k5
  obtain ⟨k0,k1,k2,k3,k4,k5⟩:=zA HPC
  go_wp2_with fail
  refine (zBn (zJZ p (.iface T' v')) g m1 least _ (zA HGC) hm1).mono ?_
  rintro x w6 ⟨rfl,h1,h2⟩
  obtain ⟨T6,v6,hTv⟩:=zBT p.l least 129 (.agg #[.string p.s,.int .i64 p.k,.int .i64 p.l,.int .i64 p.sd,.iface T' v'])
  have HK6:=zB ((zA HKC).trans (zA h2))
  unfold zD7
  rw [hTv]
  clear k0 k1 k2 k3 k4 k5 HPC HGC HKC h2
  go_wp2_with fail
  go_ret
  exact ⟨by first | rfl | (rw [hTv]; rfl),h1,HK6⟩
theorem zLn {T:TypeId} {v:Value} (p:OpR) (g m m1:Nat) (least:Int) {e1:Value} (w:World) (he:∃ T' v',e1 = .iface T' v') (hg:zA4 w g m) (hsz:p.s.size <= maxLen) (hm1:m1 <= 100000)
  (hc:∀ W,zA4 W g m -> Calls Tryz.prog 66 #[.pointer (some ⟨g,0,none⟩),.iface T v,.int .i64 (zm p.s p.k p.l p.sd false)] W (zAC W g m1 e1)) :
  Calls Tryz.prog 66 #[.pointer (some ⟨g,0,none⟩),zBk p (.iface T v),.int .i64 least] w (zAC w g (m1 + zG2 p.l least) (zDg p.l least (zBk p e1))):=by
 obtain ⟨T',v',rfl⟩:=he
 obtain ⟨n1,n2,n3⟩:=zMB (.agg #[.string p.s,.int .i64 p.k,.int .i64 p.l,.int .i64 p.sd,.iface T v])
 have i1:=zMC (.agg #[.string p.s,.int .i64 p.k,.int .i64 p.l,.int .i64 p.sd,.iface T v])
 unfold zAn zG at n1
 unfold zAn zP at n2
 unfold zAn zI at n3
 have hlt:=block_lt_of_cell hg.1
 have HC:=zB hc
 have HGC:=zB (show zA4 (w.alloc (.cells #[.string p.s,.int .i64 p.k,.int .i64 p.l,.int .i64 p.sd,.iface T v] 132)).drew g m from hg.below ((zC _ _).drew))
 have HPC:=zB (show zCC (w.alloc (.cells #[.string p.s,.int .i64 p.k,.int .i64 p.l,.int .i64 p.sd,.iface T v] 132)).drew w.heap.size p (.iface T v) from
  (show zCC (w.alloc (.cells #[.string p.s,.int .i64 p.k,.int .i64 p.l,.int .i64 p.sd,.iface T v] 132)) w.heap.size p (.iface T v) from ⟨by simp [go_sem],by simp [go_sem],by simp [go_sem],by simp [go_sem],by simp [go_sem],by simp [go_sem]⟩).below ((Below.refl _ _).drew))
 have HKC:=zB (show zE w (w.alloc (.cells #[.string p.s,.int .i64 p.k,.int .i64 p.l,.int .i64 p.sd,.iface T v] 132)).drew g from zE.of_below ((zC _ _).drew))
 clear hc hg
 unfold zBk
 go_enter Tryz.func66,Tryz.ntmps66
 go_wp2_with fail
 clear n1 n2 n3 i1
 obtain ⟨k0,k1,k2,k3,k4,k5⟩:=zA HPC
 go_region_with
  (first | (go_at_call 90; refine (ZD p.s p.k p.l p.sd false _ hsz).mono ?_; rintro e w3 ⟨rfl,hb3⟩; replace HPC:=zB ((zA HPC).below hb3); replace ⟨k0,k1,k2,k3,k4,k5⟩:=zA HPC; replace HGC:=zB ((zA HGC).below hb3); replace HKC:=zB ((zA HKC).trans (zE.of_below hb3)); clear hb3) | (go_at_call 66; refine ((zA HC) _ (zA HGC)).mono ?_; rintro e w4 ⟨rfl,hg4,hk4⟩; replace HPC:=zB ((zA HPC).kept (zA hk4) (by omega)); replace HGC:=hg4; replace HKC:=zB ((zA HKC).trans (zA hk4)); clear hk4 hg4; replace ⟨k0,k1,k2,k3,k4,k5⟩:=zA HPC))
 all_goals
  replace HPC:=zB ((zA HPC).set (.iface T' v'))
  replace HGC:=zB ((zA HGC).other (N:=w.heap.size) (o:=4) (by omega) (.iface T' v'))
  replace HKC:=zB ((zA HKC).far 4 (.iface T' v') (Nat.le_refl _))
  clear k0 k1 k2 k3 k4 k5
  obtain ⟨k0,k1,k2,k3,k4,k5⟩:=zA HPC
  go_wp2_with fail
  refine (zBn (zHy p (.iface T' v')) g m1 least _ (zA HGC) hm1).mono ?_
  rintro x w6 ⟨rfl,h1,h2⟩
  obtain ⟨T6,v6,hTv⟩:=zBT p.l least 132 (.agg #[.string p.s,.int .i64 p.k,.int .i64 p.l,.int .i64 p.sd,.iface T' v'])
  have HK6:=zB ((zA HKC).trans (zA h2))
  unfold zBk
  rw [hTv]
  clear k0 k1 k2 k3 k4 k5 HPC HGC HKC h2
  go_wp2_with fail
  go_ret
  exact ⟨by first | rfl | (rw [hTv]; rfl),h1,HK6⟩
def zBt (w:World) (N:Nat) (p:OpR) (e e':Value):Prop:=w.cell? ⟨N,0,none⟩ = some (.string p.s) /\ w.cell? ⟨N,1,none⟩ = some (.int .i64 p.k) /\ w.cell? ⟨N,2,none⟩ = some (.int .i64 p.l) /\ w.cell? ⟨N,3,none⟩ = some (.int .i64 p.sd) /\ w.cell? ⟨N,4,none⟩ = some e /\ w.cell? ⟨N,5,none⟩ = some e' /\ w.frozen? ⟨N,4,none⟩ = false /\ w.frozen? ⟨N,5,none⟩ = false
theorem zBt.kept {w w':World} {N g:Nat} {p:OpR} {e e':Value} (h:zBt w N p e e') (hk:zE w w' g) (hne:N ≠ g):zBt w' N p e e':=by
 obtain ⟨h0,h1,h2,h3,h4,h5,h6,h7⟩:=h
 have hlt:=block_lt_of_cell h0
 have c:=hk.cell hlt hne
 exact ⟨(c 0).trans h0,(c 1).trans h1,(c 2).trans h2,(c 3).trans h3,(c 4).trans h4,(c 5).trans h5,(hk.frozen hlt hne 4).trans h6,(hk.frozen hlt hne 5).trans h7⟩
theorem zBt.below {w w':World} {N:Nat} {p:OpR} {e e':Value} (h:zBt w N p e e') (hb:Below w.heap.size w w'):zBt w' N p e e':=
 h.kept (g:=w.heap.size) (zE.of_below hb) (by have:N < w.heap.size:=block_lt_of_cell h.1; omega)
theorem zBt.set4 {w:World} {N:Nat} {p:OpR} {e e':Value} (h:zBt w N p e e') (u:Value):zBt (w.setCell ⟨N,4,none⟩ u) N p u e':=by
 obtain ⟨h0,h1,h2,h3,h4,h5,h6,h7⟩:=h
 have c:∀ o,o ≠ 4 -> (w.setCell ⟨N,4,none⟩ u).cell? ⟨N,o,none⟩ = w.cell? ⟨N,o,none⟩:=fun o ho=>World.cell?_setCell_other _ _ _ _ (fun x=>ho (by injection x with _ x; exact x.symm))
 exact ⟨(c 0 (by omega)).trans h0,(c 1 (by omega)).trans h1,(c 2 (by omega)).trans h2,(c 3 (by omega)).trans h3,World.cell?_setCell_same _ _ _ h4,(c 5 (by omega)).trans h5,(World.frozen?_setCell _ _ _ _).trans h6,(World.frozen?_setCell _ _ _ _).trans h7⟩
theorem zBt.set5 {w:World} {N:Nat} {p:OpR} {e e':Value} (h:zBt w N p e e') (u:Value):zBt (w.setCell ⟨N,5,none⟩ u) N p e u:=by
 obtain ⟨h0,h1,h2,h3,h4,h5,h6,h7⟩:=h
 have c:∀ o,o ≠ 5 -> (w.setCell ⟨N,5,none⟩ u).cell? ⟨N,o,none⟩ = w.cell? ⟨N,o,none⟩:=fun o ho=>World.cell?_setCell_other _ _ _ _ (fun x=>ho (by injection x with _ x; exact x.symm))
 exact ⟨(c 0 (by omega)).trans h0,(c 1 (by omega)).trans h1,(c 2 (by omega)).trans h2,(c 3 (by omega)).trans h3,(c 4 (by omega)).trans h4,World.cell?_setCell_same _ _ _ h5,(World.frozen?_setCell _ _ _ _).trans h6,(World.frozen?_setCell _ _ _ _).trans h7⟩
theorem zMe {T T2:TypeId} {v v2:Value} (p:OpR) (g m m1 m2:Nat) (least:Int) {e1 e2:Value} (w:World) (he:∃ T' v',e1 = .iface T' v') (he2:∃ T' v',e2 = .iface T' v') (hg:zA4 w g m) (hsz:p.s.size <= maxLen) (hm2:m2 <= 100000)
  (hc:∀ W,zA4 W g m -> Calls Tryz.prog 66 #[.pointer (some ⟨g,0,none⟩),.iface T v,.int .i64 (zm p.s p.k p.l p.sd false)] W (zAC W g m1 e1))
  (hc2:∀ W,zA4 W g m1 -> Calls Tryz.prog 66 #[.pointer (some ⟨g,0,none⟩),.iface T2 v2,.int .i64 (zm p.s p.k p.l p.sd true)] W (zAC W g m2 e2)) :
  Calls Tryz.prog 66 #[.pointer (some ⟨g,0,none⟩),zDC p (.iface T v) (.iface T2 v2),.int .i64 least] w (zAC w g (m2 + zG2 p.l least) (zDg p.l least (zDC p e1 e2))):=by
 obtain ⟨T',v',rfl⟩:=he
 obtain ⟨T2',v2',rfl⟩:=he2
 obtain ⟨n1,n2⟩:=zND (.agg #[.string p.s,.int .i64 p.k,.int .i64 p.l,.int .i64 p.sd,.iface T v,.iface T2 v2])
 have i1:=zNG (.agg #[.string p.s,.int .i64 p.k,.int .i64 p.l,.int .i64 p.sd,.iface T v,.iface T2 v2])
 unfold zAn zG at n1
 unfold zAn zP at n2
 have hlt:=block_lt_of_cell hg.1
 have HC:=zB hc
 have HC2:=zB hc2
 have HGC:=zB (show zA4 (w.alloc (.cells #[.string p.s,.int .i64 p.k,.int .i64 p.l,.int .i64 p.sd,.iface T v,.iface T2 v2] 131)).drew g m from hg.below ((zC _ _).drew))
 have HPC:=zB (show zBt (w.alloc (.cells #[.string p.s,.int .i64 p.k,.int .i64 p.l,.int .i64 p.sd,.iface T v,.iface T2 v2] 131)).drew w.heap.size p (.iface T v) (.iface T2 v2) from
  (show zBt (w.alloc (.cells #[.string p.s,.int .i64 p.k,.int .i64 p.l,.int .i64 p.sd,.iface T v,.iface T2 v2] 131)) w.heap.size p (.iface T v) (.iface T2 v2) from ⟨by simp [go_sem],by simp [go_sem],by simp [go_sem],by simp [go_sem],by simp [go_sem],by simp [go_sem],by simp [go_sem],by simp [go_sem]⟩).below ((Below.refl _ _).drew))
 have HKC:=zB (show zE w (w.alloc (.cells #[.string p.s,.int .i64 p.k,.int .i64 p.l,.int .i64 p.sd,.iface T v,.iface T2 v2] 131)).drew g from zE.of_below ((zC _ _).drew))
 clear hc hc2 hg
 unfold zDC
 go_enter Tryz.func66,Tryz.ntmps66
 go_wp2_with fail
 clear n1 n2 i1
 obtain ⟨k0,k1,k2,k3,k4,k5,k6,k7⟩:=zA HPC
 go_region_with
  (first | (go_at_call 90; refine (ZD p.s p.k p.l p.sd false _ hsz).mono ?_; rintro e w3 ⟨rfl,hb3⟩; replace HPC:=zB ((zA HPC).below hb3); replace ⟨k0,k1,k2,k3,k4,k5,k6,k7⟩:=zA HPC; replace HGC:=zB ((zA HGC).below hb3); replace HKC:=zB ((zA HKC).trans (zE.of_below hb3)); clear hb3) | (go_at_call 66; refine ((zA HC) _ (zA HGC)).mono ?_; rintro e w4 ⟨rfl,hg4,hk4⟩; replace HPC:=zB ((zA HPC).kept (zA hk4) (by omega)); replace HGC:=hg4; replace HKC:=zB ((zA HKC).trans (zA hk4)); clear hk4 hg4; replace ⟨k0,k1,k2,k3,k4,k5,k6,k7⟩:=zA HPC))
 all_goals
  replace HPC:=zB (((zA HPC).set4 (.iface T' v')).below ((Below.refl _ _).drew))
  replace HGC:=zB (((zA HGC).other (N:=w.heap.size) (o:=4) (by omega) (.iface T' v')).below ((Below.refl _ _).drew))
  replace HKC:=zB (((zA HKC).far 4 (.iface T' v') (Nat.le_refl _)).trans (zE.of_below ((Below.refl _ _).drew)))
  clear k0 k1 k2 k3 k4 k5 k6 k7 HC
  obtain ⟨k0,k1,k2,k3,k4,k5,k6,k7⟩:=zA HPC
  go_wp2_with fail
  go_region_with
   (first | (go_at_call 90; refine (ZD p.s p.k p.l p.sd true _ hsz).mono ?_; rintro e w5 ⟨rfl,hb3⟩; replace HPC:=zB ((zA HPC).below hb3); replace ⟨k0,k1,k2,k3,k4,k5,k6,k7⟩:=zA HPC; replace HGC:=zB ((zA HGC).below hb3); replace HKC:=zB ((zA HKC).trans (zE.of_below hb3)); clear hb3) | (go_at_call 66; refine ((zA HC2) _ (zA HGC)).mono ?_; rintro e w6 ⟨rfl,hg4,hk4⟩; replace HPC:=zB ((zA HPC).kept (zA hk4) (by omega)); replace HGC:=hg4; replace HKC:=zB ((zA HKC).trans (zA hk4)); clear hk4 hg4; replace ⟨k0,k1,k2,k3,k4,k5,k6,k7⟩:=zA HPC))
 all_goals
  replace HPC:=zB ((zA HPC).set5 (.iface T2' v2'))
  replace HGC:=zB ((zA HGC).other (N:=w.heap.size) (o:=5) (by omega) (.iface T2' v2'))
  replace HKC:=zB ((zA HKC).far 5 (.iface T2' v2') (Nat.le_refl _))
  clear k0 k1 k2 k3 k4 k5 k6 k7 HC2
  obtain ⟨k0,k1,k2,k3,k4,k5,k6,k7⟩:=zA HPC
  go_wp2_with fail
  refine (zBn (zJa p (.iface T' v') (.iface T2' v2')) g m2 least _ (zA HGC) hm2).mono ?_
  rintro x w7 ⟨rfl,h1,h2⟩
  obtain ⟨T6,v6,hTv⟩:=zBT p.l least 131 (.agg #[.string p.s,.int .i64 p.k,.int .i64 p.l,.int .i64 p.sd,.iface T' v',.iface T2' v2'])
  have HK6:=zB ((zA HKC).trans (zA h2))
  unfold zDC
  rw [hTv]
  clear k0 k1 k2 k3 k4 k5 k6 k7 HPC HGC HKC h2
  go_wp2_with fail
  go_ret
  exact ⟨by first | rfl | (rw [hTv]; rfl),h1,HK6⟩
end Go.Proofs.YtfboipappaonhaaGreat
namespace Go.Proofs.YtfboipappaonhaaGreat
set_option linter.unusedSimpArgs false
set_option linter.unusedVariables false
set_option maxHeartbeats 16000000
set_option maxRecDepth 100000
open Go.RowKit Go.Maps
def zBd (k:Int):Int:=if 3 <= k /\ k <= 5 then k - 2 else 0
theorem zJu {k:Int} (h:3 <= k /\ k <= 5):zBd k = k - 2:=if_pos h
theorem zDM (k:Int) (w:World) :
  Calls Tryz.prog 137 #[.int .i64 k] w fun e w'=>e = .returned (.int .i64 (zBd k)) /\ w' = w:=by
 by_cases h3:k = 3
 ·subst h3
  go_enter Tryz.func137,Tryz.ntmps137
  go_wp2
  go_ret
  exact ⟨zJ (by simp [zBd]),rfl⟩
 by_cases h4:k = 4
 ·subst h4
  go_enter Tryz.func137,Tryz.ntmps137
  go_wp2
  go_ret
  exact ⟨zJ (by simp [zBd]),rfl⟩
 by_cases h5:k = 5
 ·subst h5
  go_enter Tryz.func137,Tryz.ntmps137
  go_wp2
  go_ret
  exact ⟨zJ (by simp [zBd]),rfl⟩
 have e3:(k == 3) = false:=by simpa using h3
 have e4:(k == 4) = false:=by simpa using h4
 have e5:(k == 5) = false:=by simpa using h5
 have HK:=zB (show zBd k = 0 by unfold zBd; rw [if_neg]; omega)
 clear h3 h4 h5
 go_enter Tryz.func137,Tryz.ntmps137
 go_wp2
 go_ret
 exact ⟨zJ (zA HK).symm,rfl⟩
theorem zLo {w:World} {bo bs:Nat} {xs:List OpR} (hi:Idx w bo bs xs xs.length) (hc:zO xs 0) (hok:zAD xs xs.length) (o:zD) (ht:o.t.size <= maxLen) :
  ∃ D:DataW Unit,w.ownsMap Tryz.prog 161 Zp bo xs.length D /\
   (
    (∃ j,zq o /\ fnd xs o.t (o.k - 2) = some j /\ Maps.has D (klO o.t (zBd o.k)) = true /\ D.atKey (klO o.t (zBd o.k)) (Z3 ⟨#[]⟩ 0 0 0) = Z3 (atO xs j).s (atO xs j).k (atO xs j).l (atO xs j).sd) \/
    ((zq o -> fnd xs o.t (o.k - 2) = none) /\ Maps.has D (klO o.t (zBd o.k)) = false)):=by
 obtain ⟨⟨D,hown,hD⟩,_,_⟩:=hi
 have hw:(Lit.int .i64 (zBd o.k)).wf = true:=by
  unfold zBd
  split
  ·rename_i h
   rcases (by omega:o.k = 3 \/ o.k = 4 \/ o.k = 5) with e | e | e <;> rw [e] <;> decide
  ·decide
 obtain ⟨h1,h2⟩:=hD o.t (zBd o.k) ht hw
 refine ⟨D,hown,?_⟩
 cases hh:Maps.has D (klO o.t (zBd o.k)) with
 | true=>
  obtain ⟨j,hj,e1,e2,e3⟩:=h2 hh
  have hop:zq o:=by
   unfold zq
   have hk:=zEu (hok j hj)
   unfold zBd at e2
   split at e2
   ·assumption
   ·omega
  have e2':(atO xs j).k = o.k - 2:=by
   rw [e2]; exact zJu hop
  exact Or.inl ⟨j,hop,zJN hc hj ⟨e1,e2'⟩,rfl,e3⟩
 | false=>
  refine Or.inr ⟨fun hop=>zJM (fun j hj h=>?_),rfl⟩
  have:Maps.has D (klO o.t (zBd o.k)) = true:=h1.2 ⟨j,hj,h.1,by rw [h.2]; exact (zJu hop).symm⟩
  rw [hh] at this
  cases this
def zEv (xs:List OpR) (o:zD) (p:OpR) (found:Bool):Prop:=
 (∃ j,zq o /\ fnd xs o.t (o.k - 2) = some j /\ found = true /\ p = atO xs j) \/ ((zq o -> fnd xs o.t (o.k - 2) = none) /\ found = false)
theorem zBe (bo bs:Nat) (xs:List OpR) (o:zD) (w:World) (hi:Idx w bo bs xs xs.length) (hc:zO xs 0) (hok:zAD xs xs.length) (ht:o.t.size <= maxLen) :
  Calls Tryz.prog 88 #[.agg #[.map (some bo),.map (some bs)],.agg #[.int .i64 o.k,.string o.t,.int .i64 o.a,.int .i64 o.b]] w fun e w'=>(∃ (p:OpR) (v:Bool),e = .returned (.tuple #[.agg #[.string p.s,.int .i64 p.k,.int .i64 p.l,.int .i64 p.sd],.bool v]) /\ zEv xs o p v) /\ Below w.heap.size w w':=by
 obtain ⟨D,hown,hcase⟩:=zLo hi hc hok o ht
 have hw:(Lit.int .i64 (zBd o.k)).wf = true:=by
  unfold zBd
  split
  ·rename_i h
   rcases (by omega:o.k = 3 \/ o.k = 4 \/ o.k = 5) with e | e | e <;> rw [e] <;> decide
  ·decide
 have HKY:=zB (zHA ht hw)
 have HOW:=zB hown
 have HCS:=zB hcase
 have HB3:=zB (show ∀ o1 o2 o3:Obj,Below w.heap.size w ((w.alloc o1).alloc o2 |>.alloc o3) from fun o1 o2 o3=>((zC w o1).alloc (by simp) o2).alloc (by simp; omega) o3)
 clear hown hcase hi hc hok
 go_enter Tryz.func88,Tryz.ntmps88
 go_wp2_with fail
 have hlook:∀ W:World,W.ownsMap Tryz.prog 161 Zp bo xs.length D -> ∃ p v,(Instr.lookup 66 (.map (some bo)) (.agg #[.string o.t,.int .i64 (zBd o.k)]) true).run Tryz.prog W = .ok (.tuple #[.agg #[.string p.s,.int .i64 p.k,.int .i64 p.l,.int .i64 p.sd],.bool v]) W /\ zEv xs o p v:=fun W hW=>by
  obtain ⟨v,ps,hr,hv⟩:=hW.look_ok zFx Tryz.underlying66 (zLM _) (zB8 _ _ _ _) (zA HKY)
  rcases zA HCS with ⟨j,h1,h2,h3,h4⟩ | ⟨h1,h2⟩
  ·rw [h4] at hv
   have e:=zIn hv
   subst e
   rw [h3] at hr
   exact ⟨atO xs j,true,hr,Or.inl ⟨j,h1,h2,rfl,rfl⟩⟩
  ·obtain ⟨s,k,l,sd,rfl⟩:=zCT hv
   rw [h2] at hr
   exact ⟨⟨s,k,l,sd⟩,false,hr,Or.inr ⟨h1,rfl⟩⟩
 obtain ⟨p1,v1,hr1,hp1⟩:=hlook (((w.alloc (.cells #[.map (some bo),.map (some bs)] 69)).alloc (.cells #[.int .i64 o.k,.string o.t,.int .i64 o.a,.int .i64 o.b] 81)).alloc (.cells #[.string ⟨#[]⟩,.int .i64 0,.int .i64 0,.int .i64 0] 123)).drew ((((zA HOW).alloc _).alloc _).alloc _).drew
 obtain ⟨p2,v2,hr2,hp2⟩:=hlook ((((w.alloc (.cells #[.map (some bo),.map (some bs)] 69)).alloc (.cells #[.int .i64 o.k,.string o.t,.int .i64 o.a,.int .i64 o.b] 81)).alloc (.cells #[.string ⟨#[]⟩,.int .i64 0,.int .i64 0,.int .i64 0] 123)).alloc (.cells #[.string ⟨#[]⟩,.int .i64 0,.int .i64 0,.int .i64 0] 123)).drew (((((zA HOW).alloc _).alloc _).alloc _).alloc _).drew
 have HP1:=zB hp1
 have HP2:=zB hp2
 clear hp1 hp2 hlook
 go_region_held (fun w'=>w'.cell? ⟨w.heap.size,0,none⟩ = some (.map (some bo)) /\ w'.cell? ⟨w.heap.size + 1,0,none⟩ = some (.int .i64 o.k) /\ w'.cell? ⟨w.heap.size + 1,1,none⟩ = some (.string o.t)) (go_keep)
  (first | (go_at_call 137; refine (zDM _ _).mono ?_; rintro e w2 ⟨rfl,hx⟩; obtain rfl:=hx.symm))
 all_goals go_wp2
 all_goals first | (refine bodyPost_ret (v:=.tuple #[.agg #[.string p1.s,.int .i64 p1.k,.int .i64 p1.l,.int .i64 p1.sd],.bool v1]) ?_ rfl ⟨⟨p1,v1,rfl,zA HP1⟩,((((zC _ _).alloc (by simp) _).alloc (by simp; omega) _).alloc (by simp; omega) _).drew⟩; (simp [results,Tryz.results88,go_sem]; done)) | (refine bodyPost_ret (v:=.tuple #[.agg #[.string p2.s,.int .i64 p2.k,.int .i64 p2.l,.int .i64 p2.sd],.bool v2]) ?_ rfl ⟨⟨p2,v2,rfl,zA HP2⟩,((((zC _ _).alloc (by simp) _).alloc (by simp; omega) _).alloc (by simp; omega) _).drew⟩; (simp [results,Tryz.results88,go_sem]; done))
theorem zKT {xs:List OpR} {o:zD} {p:OpR} {v:Bool} (h:zEv xs o p v):ZI xs o = if v = true then p.l else 1001:=by
 rcases h with ⟨j,h1,h2,rfl,rfl⟩ | ⟨h1,rfl⟩
 ·unfold ZI
  have h1':3 <= o.k /\ o.k <= 5:=h1
  rw [if_pos h1',h2]
  simp
 ·unfold ZI
  simp only [Bool.false_eq_true,if_false]
  split
  ·rename_i h
   rw [h1 h]
  ·rfl
end Go.Proofs.YtfboipappaonhaaGreat
