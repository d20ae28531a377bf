import Derived.Test.YtgiemobdmbijiaaGreatDoorN37
namespace Go.Proofs.YtgiemobdmbijiaaGreatDoor
set_option linter.unusedSimpArgs false
set_option linter.unusedVariables false
set_option maxHeartbeats 16000000
set_option maxRecDepth 100000
open Go.RowKit
theorem zOK (b off cap gt ot ct gr cr lo hi root:Nat) (xs:List OpR) (ts:List zT) (us:List Int) (B:Nat) (u:Value) (ns:List zD) (w:World) (hm:xs.length <= 1048576) (hsx:Zs xs) (hE:BE w B b off gt ot gr xs ts us) (hF:TF xs ts us) (hlr:lo <= root) (hrh:root < hi) (hhi:hi <= ts.length) (hR:zBu (rtF xs (sgs xs ts lo (hi - lo)) lo 0 none) = (root:Int))
  (hrow:zr w B u ns) (hlen:ns.length + (hi - lo) <= 90000) (hro:zd xs ts root = 1) (hne:root ≠ lo) :
  Calls Tryz.prog 87 #[.agg #[.slice (some ⟨b,off,none⟩) xs.length cap],.slice (some ⟨gt,ot,none⟩) ts.length ct,.slice (some ⟨gr,0,none⟩) us.length cr,.int .i64 (lo:Int),.int .i64 (hi:Int),u] w (Zz w B u ns none (hi - lo)):=by
 have HX:=zAk (cap:=cap) (ct:=ct) (cr:=cr) hm hE hF (by omega) hhi hR
 have hrI:(root:Int) < (ts.length:Int):=by omega
 have hln:ts.length <= 100000:=hF.len
 have hul:us.length = ts.length:=by rw [hF.us,Zu]
 have hrU:(root:Int) < (us.length:Int):=by omega
 have HE:=zB hE
 obtain ⟨h1,h2,h3,h4,h5,h6,h7⟩:=hE
 have k2:=(h3 root (by omega)).2.2
 have kr:=h5.2 root (by omega)
 rw [hF.us,zBX (by omega),hro] at kr
 have hB1:=zC w (.cells #[.slice (some ⟨b,off,none⟩) xs.length cap] 55)
 have HROW:=zB hrow
 have HUB:=zB hrow.base
 have hne0:∀ x,w.heap.size <= x -> u.ownBlock ≠ some x:=fun x hx e=>by have:=World.ownsRow.lt hrow _ e; omega
 have HNE:=zB hne0
 have hw4:gt < w.heap.size:=by omega
 have hw6:gr < w.heap.size:=by omega
 have er:decide ((root:Int) < 0) = false:=by rw [decide_eq_false_iff_not]; omega
 have eN:((root:Int) != (lo:Int)) = true:=by simp; omega
 clear hrow h1 h3 h5 hF hR hro hne0 hul
 go_enter Tryz.func87,Tryz.ntmps87
 go_wp2_with fail
 refine HX.mono ?_
 clear HX
 rintro e w1 ⟨rfl,hb1⟩
 have bel1:Below w.heap.size w w1:=hB1.trans (hb1.mono hB1.size)
 have z1:w.heap.size + 1 <= w1.heap.size:=by have:=hb1.size; simp at this; omega
 have t1:w1.cell? ⟨w.heap.size,0,none⟩ = some (.slice (some ⟨b,off,none⟩) xs.length cap):=(hb1.cell (p:=⟨w.heap.size,0,none⟩) (by simp)).trans (by simp [go_sem])
 replace k2:=(bel1.cell (p:=⟨gt,ot + root * 3 + 2,none⟩) hw4).trans k2
 replace kr:=(bel1.cell (p:=⟨gr,root,none⟩) hw6).trans kr
 have hgl:gt < w1.heap.size:=by omega
 have hgn:gt ≠ w1.heap.size:=by omega
 have hrl:gr < w1.heap.size:=by omega
 have hrn:gr ≠ w1.heap.size:=by omega
 have hNn:w.heap.size ≠ w1.heap.size:=by omega
 clear hb1 hB1
 go_wp2_with fail
 go_region_held (fun w'=>w'.cell? ⟨gt,ot + root * 3 + 2,none⟩ = some (.string (atT ts root).t) /\ w'.cell? ⟨gr,root,none⟩ = some (.int .i64 1)) (go_keep) (fail)
 have HB2:=zB (show Below w.heap.size w (w1.alloc (.cells #[.int .i64 3,.string (atT ts root).t,.int .i64 0,.int .i64 0] 120)).drew from (bel1.alloc bel1.size _).drew)
 go_wp2_with fail
 refine bodyPost_ret (v:=.tuple #[u,.bool false]) (by simp [results,Tryz.results87,go_sem]) rfl ⟨u,ns,false,rfl,zB ((zA HROW).below (zA HB2)),zB (zO (zA HB2) _),zB (Or.inl rfl),by omega,zB (Or.inr ⟨rfl,rfl⟩)⟩
theorem zOL (b off cap gt ot ct gr cr lo hi root:Nat) (xs:List OpR) (ts:List zT) (us:List Int) (B:Nat) (u:Value) (ns:List zD) (w:World) (hm:xs.length <= 1048576) (hsx:Zs xs) (hE:BE w B b off gt ot gr xs ts us) (hF:TF xs ts us) (hlr:lo <= root) (hrh:root < hi) (hhi:hi <= ts.length) (hR:zBu (rtF xs (sgs xs ts lo (hi - lo)) lo 0 none) = (root:Int))
  (hrow:zr w B u ns) (hlen:ns.length + (hi - lo) <= 90000) (hro:zd xs ts root = 3) (hne:root + 1 ≠ hi) :
  Calls Tryz.prog 87 #[.agg #[.slice (some ⟨b,off,none⟩) xs.length cap],.slice (some ⟨gt,ot,none⟩) ts.length ct,.slice (some ⟨gr,0,none⟩) us.length cr,.int .i64 (lo:Int),.int .i64 (hi:Int),u] w (Zz w B u ns none (hi - lo)):=by
 have HX:=zAk (cap:=cap) (ct:=ct) (cr:=cr) hm hE hF (by omega) hhi hR
 have hrI:(root:Int) < (ts.length:Int):=by omega
 have hln:ts.length <= 100000:=hF.len
 have hul:us.length = ts.length:=by rw [hF.us,Zu]
 have hrU:(root:Int) < (us.length:Int):=by omega
 have HE:=zB hE
 obtain ⟨h1,h2,h3,h4,h5,h6,h7⟩:=hE
 have k2:=(h3 root (by omega)).2.2
 have kr:=h5.2 root (by omega)
 rw [hF.us,zBX (by omega),hro] at kr
 have hB1:=zC w (.cells #[.slice (some ⟨b,off,none⟩) xs.length cap] 55)
 have HROW:=zB hrow
 have HUB:=zB hrow.base
 have hne0:∀ x,w.heap.size <= x -> u.ownBlock ≠ some x:=fun x hx e=>by have:=World.ownsRow.lt hrow _ e; omega
 have HNE:=zB hne0
 have hw4:gt < w.heap.size:=by omega
 have hw6:gr < w.heap.size:=by omega
 have er:decide ((root:Int) < 0) = false:=by rw [decide_eq_false_iff_not]; omega
 have eN:((root:Int) != (hi:Int) - 1) = true:=by simp; omega
 clear hrow h1 h3 h5 hF hR hro hne0 hul
 go_enter Tryz.func87,Tryz.ntmps87
 go_wp2_with fail
 refine HX.mono ?_
 clear HX
 rintro e w1 ⟨rfl,hb1⟩
 have bel1:Below w.heap.size w w1:=hB1.trans (hb1.mono hB1.size)
 have z1:w.heap.size + 1 <= w1.heap.size:=by have:=hb1.size; simp at this; omega
 have t1:w1.cell? ⟨w.heap.size,0,none⟩ = some (.slice (some ⟨b,off,none⟩) xs.length cap):=(hb1.cell (p:=⟨w.heap.size,0,none⟩) (by simp)).trans (by simp [go_sem])
 replace k2:=(bel1.cell (p:=⟨gt,ot + root * 3 + 2,none⟩) hw4).trans k2
 replace kr:=(bel1.cell (p:=⟨gr,root,none⟩) hw6).trans kr
 have hgl:gt < w1.heap.size:=by omega
 have hgn:gt ≠ w1.heap.size:=by omega
 have hrl:gr < w1.heap.size:=by omega
 have hrn:gr ≠ w1.heap.size:=by omega
 have hNn:w.heap.size ≠ w1.heap.size:=by omega
 clear hb1 hB1
 go_wp2_with fail
 go_region_held (fun w'=>w'.cell? ⟨gt,ot + root * 3 + 2,none⟩ = some (.string (atT ts root).t) /\ w'.cell? ⟨gr,root,none⟩ = some (.int .i64 3)) (go_keep) (fail)
 have HB2:=zB (show Below w.heap.size w (w1.alloc (.cells #[.int .i64 5,.string (atT ts root).t,.int .i64 0,.int .i64 0] 120)).drew from (bel1.alloc bel1.size _).drew)
 go_wp2_with fail
 refine bodyPost_ret (v:=.tuple #[u,.bool false]) (by simp [results,Tryz.results87,go_sem]) rfl ⟨u,ns,false,rfl,zB ((zA HROW).below (zA HB2)),zB (zO (zA HB2) _),zB (Or.inl rfl),by omega,zB (Or.inr ⟨rfl,rfl⟩)⟩
theorem zPM (b off cap gt ot ct gr cr lo hi root:Nat) (xs:List OpR) (ts:List zT) (us:List Int) (B:Nat) (u:Value) (ns:List zD) (w:World) (hm:xs.length <= 1048576) (hsx:Zs xs) (hE:BE w B b off gt ot gr xs ts us) (hF:TF xs ts us) (hlr:lo <= root) (hrh:root < hi) (hhi:hi <= ts.length) (hR:zBu (rtF xs (sgs xs ts lo (hi - lo)) lo 0 none) = (root:Int))
  (hrow:zr w B u ns) (hlen:ns.length + (hi - lo) <= 90000) (hro:zd xs ts root = 1) (hne:root = lo) (r1:Option ET) (hgd:∀ T,r1 = some T -> Zk xs T)
  (hc:∀ W,BE W B b off gt ot gr xs ts us -> zr W B u ns -> Calls Tryz.prog 87 #[.agg #[.slice (some ⟨b,off,none⟩) xs.length cap],.slice (some ⟨gt,ot,none⟩) ts.length ct,.slice (some ⟨gr,0,none⟩) us.length cr,.int .i64 ((lo:Int) + 1),.int .i64 (hi:Int),u] W (Zz W B u ns r1 (hi - lo - 1)))
  (res:Option ET) (hres:res = (match r1 with
   | none=>none
   | some T=>if zA5 xs 3 (atT ts root).t T .nil then some (.node 3 0 (atT ts root).t T .nil) else none)) :
  Calls Tryz.prog 87 #[.agg #[.slice (some ⟨b,off,none⟩) xs.length cap],.slice (some ⟨gt,ot,none⟩) ts.length ct,.slice (some ⟨gr,0,none⟩) us.length cr,.int .i64 (lo:Int),.int .i64 (hi:Int),u] w (Zz w B u ns res (hi - lo)):=by
 obtain ⟨i0,hi0,hz0,hz1,hz2⟩:=zQ zCW
 have HI:=zB hi0
 have HZ:=zB (And.intro hz0 (And.intro hz1 hz2))
 clear hi0 hz0 hz1 hz2
 have HX:=zAk (cap:=cap) (ct:=ct) (cr:=cr) hm hE hF (by omega) hhi hR
 have hrI:(root:Int) < (ts.length:Int):=by omega
 have hln:ts.length <= 100000:=hF.len
 have hul:us.length = ts.length:=by rw [hF.us,Zu]
 have hrU:(root:Int) < (us.length:Int):=by omega
 have HE:=zB hE
 obtain ⟨h1,h2,h3,h4,h5,h6,h7⟩:=hE
 have k2:=(h3 root (by omega)).2.2
 have kr:=h5.2 root (by omega)
 rw [hF.us,zBX (by omega),hro] at kr
 have hB1:=zC w (.cells #[.slice (some ⟨b,off,none⟩) xs.length cap] 55)
 have HROW:=zB hrow
 have HUB:=zB hrow.base
 have hne0:∀ x,w.heap.size <= x -> u.ownBlock ≠ some x:=fun x hx e=>by have:=World.ownsRow.lt hrow _ e; omega
 have HNE:=zB hne0
 have hw4:gt < w.heap.size:=by omega
 have hw6:gr < w.heap.size:=by omega
 have er:decide ((root:Int) < 0) = false:=by rw [decide_eq_false_iff_not]; omega
 have eN:((root:Int) != (lo:Int)) = false:=by simp; omega
 have HC:=zB hc
 have HGD:=zB hgd
 have HRES:=zB hres
 have HSX:=zB hsx
 obtain ⟨j,hfj⟩:∃ j,fnd xs (atT ts root).t (((3:Nat):Int) - 2) = some j:=by
  rcases (hF.all root (by omega)).1 with ⟨_,_,_,j,h,_⟩ | ⟨_,h0,_⟩
  ·rw [hro] at h; exact ⟨j,h⟩
  ·omega
 have HFJ:=zB hfj
 clear hrow h1 h3 h5 hF hR hro hne0 hul hc hgd hres hsx hfj hne
 go_enter Tryz.func87,Tryz.ntmps87
 go_wp2_with fail
 refine HX.mono ?_
 clear HX
 rintro e w1 ⟨rfl,hb1⟩
 have bel1:Below w.heap.size w w1:=hB1.trans (hb1.mono hB1.size)
 have z1:w.heap.size + 1 <= w1.heap.size:=by have:=hb1.size; simp at this; omega
 have t1:w1.cell? ⟨w.heap.size,0,none⟩ = some (.slice (some ⟨b,off,none⟩) xs.length cap):=(hb1.cell (p:=⟨w.heap.size,0,none⟩) (by simp)).trans (by simp [go_sem])
 replace k2:=(bel1.cell (p:=⟨gt,ot + root * 3 + 2,none⟩) hw4).trans k2
 replace kr:=(bel1.cell (p:=⟨gr,root,none⟩) hw6).trans kr
 have hgl:gt < w1.heap.size:=by omega
 have hgn:gt ≠ w1.heap.size:=by omega
 have hrl:gr < w1.heap.size:=by omega
 have hrn:gr ≠ w1.heap.size:=by omega
 have hNn:w.heap.size ≠ w1.heap.size:=by omega
 clear hb1 hB1
 go_wp2_with fail
 go_region_held (fun w'=>w'.cell? ⟨gt,ot + root * 3 + 2,none⟩ = some (.string (atT ts root).t) /\ w'.cell? ⟨gr,root,none⟩ = some (.int .i64 1)) (go_keep) (fail)
 have hwK:IntKind.i64.wrap 3 = 3:=by rfl
 rw [hwK]
 clear hwK
 obtain ⟨W2,hW2⟩:∃ W2,W2 = (w1.alloc (.cells #[.int .i64 3,.string (atT ts root).t,.int .i64 0,.int .i64 0] 120)).drew:=⟨_,rfl⟩
 have hbW:Below w1.heap.size w1 W2:=by rw [hW2]; exact (zC _ _).drew
 have bel2:Below w.heap.size w W2:=bel1.trans (hbW.mono bel1.size)
 have HN2:=zB (show zp W2 w1.heap.size ⟨3,(atT ts root).t,0,0⟩ by
  rw [hW2]
  exact zp.below (w:=w1.alloc (.cells #[.int .i64 3,.string (atT ts root).t,.int .i64 0,.int .i64 0] 120)) ⟨by simp [go_sem],by simp [go_sem],by simp [go_sem],by simp [go_sem],by simp [go_sem],by simp [go_sem]⟩ (Below.refl _ _).drew)
 have t2:W2.cell? ⟨w.heap.size,0,none⟩ = some (.slice (some ⟨b,off,none⟩) xs.length cap):=(hbW.cell (p:=⟨w.heap.size,0,none⟩) (by simp only; omega)).trans t1
 have z2:w1.heap.size + 1 <= W2.heap.size:=by rw [hW2]; show _ <= (w1.alloc _).heap.size; simp
 obtain ⟨n0,n1,n2,n3,_,_⟩:=zA HN2
 simp only at n0 n1 n2 n3
 have HX:=(zA HC) W2 ((zA HE).below bel2) ((zA HROW).below bel2)
 rw [<- hW2]
 clear hbW k2 kr t1 hW2 HC HROW
 go_wp2_with fail
 refine HX.mono ?_
 clear HX n0 n1 n2 n3
 rintro e w3 ⟨u1,vs1,ok,rfl,HR3,HG3,HA3,hl3,HO3⟩
 obtain ⟨a1,c1,rfl⟩:=ZJ (zA HR3)
 have HG:=zB (zc bel2 (zA HG3))
 have HA:=zB (show (Value.slice a1 vs1.length c1).ownBlock = u.ownBlock \/ ∃ k,(Value.slice a1 vs1.length c1).ownBlock = some k /\ w.heap.size <= k from (zA HA3).imp id (fun ⟨k,h,h'⟩=>⟨k,h,by omega⟩))
 have HnB:=zB (show (Value.slice a1 vs1.length c1).ownBlock ≠ some w1.heap.size from fun e=>by
  rcases zA HA3 with h | ⟨k,h,h'⟩
  ·exact (zA HNE) w1.heap.size (by omega) (h.symm.trans e)
  ·rw [h] at e; injection e with e; omega)
 have HnT:=zB (show (Value.slice a1 vs1.length c1).ownBlock ≠ some w.heap.size from fun e=>by
  rcases zA HA3 with h | ⟨k,h,h'⟩
  ·exact (zA HNE) w.heap.size (by omega) (h.symm.trans e)
  ·rw [h] at e; injection e with e; omega)
 replace HN2:=zB ((zA HN2).grown (zA HG3) ((zA HNE) _ (by omega)))
 have t3:w3.cell? ⟨w.heap.size,0,none⟩ = some (.slice (some ⟨b,off,none⟩) xs.length cap):=(zE (zA HG3) (b:=w.heap.size) (by omega) ((zA HNE) _ (by omega)) 0).trans t2
 have z3:=(zA HG3).size
 obtain ⟨n0,n1,n2,n3,n4,n5⟩:=zA HN2
 simp only at n0 n1 n2 n3
 clear HG3 HA3 t2
 rcases zA HO3 with ⟨T,hr1,rfl,hvs⟩ | ⟨hr1,rfl⟩
 case inr=>
  have HOUT:=zB (show res = none by rw [zA HRES,hr1])
  clear hr1 HO3
  go_wp2_with fail
  refine bodyPost_ret (v:=.tuple #[.slice a1 vs1.length c1,.bool false]) (by simp [results,Tryz.results87,go_sem]) rfl ⟨_,vs1,false,rfl,HR3,HG,HA,by omega,zB (Or.inr ⟨zA HOUT,rfl⟩)⟩
 have HT:=zB ((zA HGD) T hr1)
 have HVS:=zB hvs
 have hv1:1 <= vs1.length:=(zAN (zA HT) ns [] hvs).1
 have HRT:=zB (show res = if zA5 xs 3 (atT ts root).t T .nil then some (.node 3 0 (atT ts root).t T .nil) else none by rw [zA HRES,hr1])
 clear hr1 hvs HO3 HRES HGD
 have HM:=zB ((zA HN2).set2 ((vs1.length:Int) - 1))
 have HR3':=zB ((zA HR3).other (g:=w1.heap.size) (j:=2) (.int .i64 ((vs1.length:Int) - 1)) (zA HnB))
 have t4:(w3.setCell ⟨w1.heap.size,2,none⟩ (.int .i64 ((vs1.length:Int) - 1))).cell? ⟨w.heap.size,0,none⟩ = some (.slice (some ⟨b,off,none⟩) xs.length cap):=(World.cell?_setCell_other w3 ⟨w1.heap.size,2,none⟩ ⟨w.heap.size,0,none⟩ (.int .i64 ((vs1.length:Int) - 1)) (fun x=>by injection x with x1; omega)).trans t3
 have HGs:=zB (zP (zA HG) (⟨rfl,rfl,rfl,by simp [World.setCell],fun i _ hi=>Below.heap_setCell _ _ _ _ (fun e=>hi (by rw [e]))⟩:w3.grownBy (w3.setCell ⟨w1.heap.size,2,none⟩ (.int .i64 ((vs1.length:Int) - 1))) (some w1.heap.size)) (Or.inr ⟨_,rfl,by omega⟩))
 obtain ⟨m0,m1,m2,m3,_,_⟩:=zA HM
 simp only at m0 m1 m2 m3
 clear HG HR3 n0 n1 n3 n5 HN2 t3
 go_wp2_with (at_builtin; refine wpList_append_own_at _ rfl (.tmp 152) (.tmp 154) 95 rfl B 120 i0 _ 4 40 Tryz.underlying95 (zA HI) (zA HZ).1 (zA HZ).2.1 (zA HZ).2.2 rfl (by decide) _ vs1.length (zM vs1) rfl ((zA HR3').below (zC _ _)) ⟨w3.heap.size,0,none⟩ 1 1 (zM [⟨3,(atT ts root).t,(vs1.length:Int) - 1,0⟩]) rfl rfl (by simpa using Zc (w3.setCell ⟨w1.heap.size,2,none⟩ (.int .i64 ((vs1.length:Int) - 1))) w3.heap.size ⟨3,(atT ts root).t,(vs1.length:Int) - 1,0⟩ (by simp [World.setCell])) (zR _) ?b1 ?b2 ?b3 ?next)
 case b1=>unfold maxLen; omega
 case b2=>omega
 case b3=>first | omega | (have:=(zA HGs).size; simp at this ⊢; omega)
 case next=>
  intro v4 w4 hown4 hgrow4 hnil4 hat4
  obtain ⟨vs4,hvs4⟩:∃ vs4,vs4 = vs1 ++ [(⟨3,(atT ts root).t,(vs1.length:Int) - 1,0⟩:zD)]:=⟨_,rfl⟩
  have hl4:vs4.length = vs1.length + 1:=by rw [hvs4]; simp
  have HR4:=zB (show zr w4 B v4 vs4 by
   rw [hvs4]
   unfold zr
   rw [zi,List.length_append]
   exact hown4)
  have HG5:=zB (zc (zC (w3.setCell ⟨w1.heap.size,2,none⟩ (.int .i64 ((vs1.length:Int) - 1))) _) hgrow4)
  have HG4:=zB (zP (zA HGs) (zA HG5) (zA HA))
  have HA4:=zB (Z9 (zA HGs) (zA HA) v4.ownBlock (hat4.imp id (fun h=>⟨_,h,by first | exact Nat.le_refl _ | simp⟩)))
  have t5:w4.cell? ⟨w.heap.size,0,none⟩ = some (.slice (some ⟨b,off,none⟩) xs.length cap):=(zE (zA HG5) (b:=w.heap.size) (block_lt_of_cell t4) (zA HnT) 0).trans t4
  have HE4:=zB ((zA HE).grown (zA HG4) (zA HUB))
  obtain ⟨g4,c4,rfl,hg4,hfl⟩:=zCV (zA HR4) (by omega)
  have hX4:=zA HE4
  have hat:atN vs4 vs1.length = ⟨3,(atT ts root).t,(vs1.length:Int) - 1,0⟩:=by rw [hvs4]; exact zDG rfl
  have hkd:=zAN (zA HT) ns [⟨3,(atT ts root).t,(vs1.length:Int) - 1,0⟩] (zA HVS)
  rw [<- hvs4] at hkd
  have HX:=zEn b off cap g4 0 c4 vs1.length xs vs4 w4 hm (by omega) hX4.1 (zA HSX) (by have:=hX4.2.2.2.2.2.2; have:=hX4.2.1; omega) hfl.2.2 hfl.1 (by omega) (by rw [hat]; unfold zAo; simp only; omega) j (by rw [hat]; exact zA HFJ) (vs1.length - 1) 0 (by rw [hat]; simp only; omega) (by rw [hat]; rfl) (by omega) (by omega) (by rw [hat]; exact Or.inl rfl) hkd.2.2 (fun h=>by rw [hat] at h; simp [zY] at h)
  have hFI:=zK2 (q:=3) (zA HT) (by omega) (zA HFJ) ns (zA HVS)
  have e6:((vs1.length:Nat):Int) = (vs4.length:Int) - 1:=by omega
  have HFI:=zB (show zFi xs vs4 vs1.length ↔ zA5 xs 3 (atT ts root).t T .nil = true by rw [hvs4]; exact hFI)
  have HV4:=zB (show vs4 = ns ++ nd (.node 3 0 (atT ts root).t T .nil) ns.length by rw [hvs4,zKL (b:=3) rfl,<- zA HVS]; rfl)
  rw [e6] at HX
  have hl5:vs4.length <= ns.length + (hi - lo):=by omega
  clear hown4 hgrow4 hnil4 hat4 HGs HG5 hvs4 hat hkd hX4 hfl m0 m1 m2 m3 HM hFI e6 hl4
  go_wp2_with fail
  refine HX.mono ?_
  clear HX
  rintro e w5 ⟨⟨v,rfl,hv⟩,hb5⟩
  have HG6:=zB (zP (zA HG4) (zO hb5 u.ownBlock) (Or.inl rfl))
  have HR6:=zB ((zA HR4).below hb5)
  have HV:=zB hv
  clear hb5 hv
  go_wp2_with fail
  refine bodyPost_ret (v:=.tuple #[.slice (some ⟨g4,0,none⟩) vs4.length c4,.bool v]) (by simp [results,Tryz.results87,go_sem]) rfl ⟨_,vs4,v,rfl,HR6,HG6,HA4,hl5,zB ?_⟩
  have hvv:v = true ↔ zA5 xs 3 (atT ts root).t T .nil = true:=(zA HV).trans (zA HFI)
  rw [zA HRT]
  cases v with
  | true=>
   rw [if_pos (hvv.1 rfl)]
   exact Or.inl ⟨_,rfl,rfl,zA HV4⟩
  | false=>
   rw [if_neg (fun h=>Bool.false_ne_true (hvv.2 h))]
   exact Or.inr ⟨rfl,rfl⟩
theorem zOM (b off cap gt ot ct gr cr lo hi root:Nat) (xs:List OpR) (ts:List zT) (us:List Int) (B:Nat) (u:Value) (ns:List zD) (w:World) (hm:xs.length <= 1048576) (hsx:Zs xs) (hE:BE w B b off gt ot gr xs ts us) (hF:TF xs ts us) (hlr:lo <= root) (hrh:root < hi) (hhi:hi <= ts.length) (hR:zBu (rtF xs (sgs xs ts lo (hi - lo)) lo 0 none) = (root:Int))
  (hrow:zr w B u ns) (hlen:ns.length + (hi - lo) <= 90000) (hro:zd xs ts root = 3) (hne:root + 1 = hi) (r1:Option ET) (hgd:∀ T,r1 = some T -> Zk xs T)
  (hc:∀ W,BE W B b off gt ot gr xs ts us -> zr W B u ns -> Calls Tryz.prog 87 #[.agg #[.slice (some ⟨b,off,none⟩) xs.length cap],.slice (some ⟨gt,ot,none⟩) ts.length ct,.slice (some ⟨gr,0,none⟩) us.length cr,.int .i64 (lo:Int),.int .i64 (root:Int),u] W (Zz W B u ns r1 (hi - lo - 1)))
  (res:Option ET) (hres:res = (match r1 with
   | none=>none
   | some T=>if zA5 xs 5 (atT ts root).t T .nil then some (.node 5 0 (atT ts root).t T .nil) else none)) :
  Calls Tryz.prog 87 #[.agg #[.slice (some ⟨b,off,none⟩) xs.length cap],.slice (some ⟨gt,ot,none⟩) ts.length ct,.slice (some ⟨gr,0,none⟩) us.length cr,.int .i64 (lo:Int),.int .i64 (hi:Int),u] w (Zz w B u ns res (hi - lo)):=by
 obtain ⟨i0,hi0,hz0,hz1,hz2⟩:=zQ zCW
 have HI:=zB hi0
 have HZ:=zB (And.intro hz0 (And.intro hz1 hz2))
 clear hi0 hz0 hz1 hz2
 have HX:=zAk (cap:=cap) (ct:=ct) (cr:=cr) hm hE hF (by omega) hhi hR
 have hrI:(root:Int) < (ts.length:Int):=by omega
 have hln:ts.length <= 100000:=hF.len
 have hul:us.length = ts.length:=by rw [hF.us,Zu]
 have hrU:(root:Int) < (us.length:Int):=by omega
 have HE:=zB hE
 obtain ⟨h1,h2,h3,h4,h5,h6,h7⟩:=hE
 have k2:=(h3 root (by omega)).2.2
 have kr:=h5.2 root (by omega)
 rw [hF.us,zBX (by omega),hro] at kr
 have hB1:=zC w (.cells #[.slice (some ⟨b,off,none⟩) xs.length cap] 55)
 have HROW:=zB hrow
 have HUB:=zB hrow.base
 have hne0:∀ x,w.heap.size <= x -> u.ownBlock ≠ some x:=fun x hx e=>by have:=World.ownsRow.lt hrow _ e; omega
 have HNE:=zB hne0
 have hw4:gt < w.heap.size:=by omega
 have hw6:gr < w.heap.size:=by omega
 have er:decide ((root:Int) < 0) = false:=by rw [decide_eq_false_iff_not]; omega
 have eN:((root:Int) != (hi:Int) - 1) = false:=by simp; omega
 have HC:=zB hc
 have HGD:=zB hgd
 have HRES:=zB hres
 have HSX:=zB hsx
 obtain ⟨j,hfj⟩:∃ j,fnd xs (atT ts root).t (((5:Nat):Int) - 2) = some j:=by
  rcases (hF.all root (by omega)).1 with ⟨_,_,_,j,h,_⟩ | ⟨_,h0,_⟩
  ·rw [hro] at h; exact ⟨j,h⟩
  ·omega
 have HFJ:=zB hfj
 clear hrow h1 h3 h5 hF hR hro hne0 hul hc hgd hres hsx hfj hne
 go_enter Tryz.func87,Tryz.ntmps87
 go_wp2_with fail
 refine HX.mono ?_
 clear HX
 rintro e w1 ⟨rfl,hb1⟩
 have bel1:Below w.heap.size w w1:=hB1.trans (hb1.mono hB1.size)
 have z1:w.heap.size + 1 <= w1.heap.size:=by have:=hb1.size; simp at this; omega
 have t1:w1.cell? ⟨w.heap.size,0,none⟩ = some (.slice (some ⟨b,off,none⟩) xs.length cap):=(hb1.cell (p:=⟨w.heap.size,0,none⟩) (by simp)).trans (by simp [go_sem])
 replace k2:=(bel1.cell (p:=⟨gt,ot + root * 3 + 2,none⟩) hw4).trans k2
 replace kr:=(bel1.cell (p:=⟨gr,root,none⟩) hw6).trans kr
 have hgl:gt < w1.heap.size:=by omega
 have hgn:gt ≠ w1.heap.size:=by omega
 have hrl:gr < w1.heap.size:=by omega
 have hrn:gr ≠ w1.heap.size:=by omega
 have hNn:w.heap.size ≠ w1.heap.size:=by omega
 clear hb1 hB1
 go_wp2_with fail
 go_region_held (fun w'=>w'.cell? ⟨gt,ot + root * 3 + 2,none⟩ = some (.string (atT ts root).t) /\ w'.cell? ⟨gr,root,none⟩ = some (.int .i64 3)) (go_keep) (fail)
 have hwK:IntKind.i64.wrap 5 = 5:=by rfl
 rw [hwK]
 clear hwK
 obtain ⟨W2,hW2⟩:∃ W2,W2 = (w1.alloc (.cells #[.int .i64 5,.string (atT ts root).t,.int .i64 0,.int .i64 0] 120)).drew:=⟨_,rfl⟩
 have hbW:Below w1.heap.size w1 W2:=by rw [hW2]; exact (zC _ _).drew
 have bel2:Below w.heap.size w W2:=bel1.trans (hbW.mono bel1.size)
 have HN2:=zB (show zp W2 w1.heap.size ⟨5,(atT ts root).t,0,0⟩ by
  rw [hW2]
  exact zp.below (w:=w1.alloc (.cells #[.int .i64 5,.string (atT ts root).t,.int .i64 0,.int .i64 0] 120)) ⟨by simp [go_sem],by simp [go_sem],by simp [go_sem],by simp [go_sem],by simp [go_sem],by simp [go_sem]⟩ (Below.refl _ _).drew)
 have t2:W2.cell? ⟨w.heap.size,0,none⟩ = some (.slice (some ⟨b,off,none⟩) xs.length cap):=(hbW.cell (p:=⟨w.heap.size,0,none⟩) (by simp only; omega)).trans t1
 have z2:w1.heap.size + 1 <= W2.heap.size:=by rw [hW2]; show _ <= (w1.alloc _).heap.size; simp
 obtain ⟨n0,n1,n2,n3,_,_⟩:=zA HN2
 simp only at n0 n1 n2 n3
 have HX:=(zA HC) W2 ((zA HE).below bel2) ((zA HROW).below bel2)
 rw [<- hW2]
 clear hbW k2 kr t1 hW2 HC HROW
 go_wp2_with fail
 refine HX.mono ?_
 clear HX n0 n1 n2 n3
 rintro e w3 ⟨u1,vs1,ok,rfl,HR3,HG3,HA3,hl3,HO3⟩
 obtain ⟨a1,c1,rfl⟩:=ZJ (zA HR3)
 have HG:=zB (zc bel2 (zA HG3))
 have HA:=zB (show (Value.slice a1 vs1.length c1).ownBlock = u.ownBlock \/ ∃ k,(Value.slice a1 vs1.length c1).ownBlock = some k /\ w.heap.size <= k from (zA HA3).imp id (fun ⟨k,h,h'⟩=>⟨k,h,by omega⟩))
 have HnB:=zB (show (Value.slice a1 vs1.length c1).ownBlock ≠ some w1.heap.size from fun e=>by
  rcases zA HA3 with h | ⟨k,h,h'⟩
  ·exact (zA HNE) w1.heap.size (by omega) (h.symm.trans e)
  ·rw [h] at e; injection e with e; omega)
 have HnT:=zB (show (Value.slice a1 vs1.length c1).ownBlock ≠ some w.heap.size from fun e=>by
  rcases zA HA3 with h | ⟨k,h,h'⟩
  ·exact (zA HNE) w.heap.size (by omega) (h.symm.trans e)
  ·rw [h] at e; injection e with e; omega)
 replace HN2:=zB ((zA HN2).grown (zA HG3) ((zA HNE) _ (by omega)))
 have t3:w3.cell? ⟨w.heap.size,0,none⟩ = some (.slice (some ⟨b,off,none⟩) xs.length cap):=(zE (zA HG3) (b:=w.heap.size) (by omega) ((zA HNE) _ (by omega)) 0).trans t2
 have z3:=(zA HG3).size
 obtain ⟨n0,n1,n2,n3,n4,n5⟩:=zA HN2
 simp only at n0 n1 n2 n3
 clear HG3 HA3 t2
 rcases zA HO3 with ⟨T,hr1,rfl,hvs⟩ | ⟨hr1,rfl⟩
 case inr=>
  have HOUT:=zB (show res = none by rw [zA HRES,hr1])
  clear hr1 HO3
  go_wp2_with fail
  refine bodyPost_ret (v:=.tuple #[.slice a1 vs1.length c1,.bool false]) (by simp [results,Tryz.results87,go_sem]) rfl ⟨_,vs1,false,rfl,HR3,HG,HA,by omega,zB (Or.inr ⟨zA HOUT,rfl⟩)⟩
 have HT:=zB ((zA HGD) T hr1)
 have HVS:=zB hvs
 have hv1:1 <= vs1.length:=(zAN (zA HT) ns [] hvs).1
 have HRT:=zB (show res = if zA5 xs 5 (atT ts root).t T .nil then some (.node 5 0 (atT ts root).t T .nil) else none by rw [zA HRES,hr1])
 clear hr1 hvs HO3 HRES HGD
 have HM:=zB ((zA HN2).set2 ((vs1.length:Int) - 1))
 have HR3':=zB ((zA HR3).other (g:=w1.heap.size) (j:=2) (.int .i64 ((vs1.length:Int) - 1)) (zA HnB))
 have t4:(w3.setCell ⟨w1.heap.size,2,none⟩ (.int .i64 ((vs1.length:Int) - 1))).cell? ⟨w.heap.size,0,none⟩ = some (.slice (some ⟨b,off,none⟩) xs.length cap):=(World.cell?_setCell_other w3 ⟨w1.heap.size,2,none⟩ ⟨w.heap.size,0,none⟩ (.int .i64 ((vs1.length:Int) - 1)) (fun x=>by injection x with x1; omega)).trans t3
 have HGs:=zB (zP (zA HG) (⟨rfl,rfl,rfl,by simp [World.setCell],fun i _ hi=>Below.heap_setCell _ _ _ _ (fun e=>hi (by rw [e]))⟩:w3.grownBy (w3.setCell ⟨w1.heap.size,2,none⟩ (.int .i64 ((vs1.length:Int) - 1))) (some w1.heap.size)) (Or.inr ⟨_,rfl,by omega⟩))
 obtain ⟨m0,m1,m2,m3,_,_⟩:=zA HM
 simp only at m0 m1 m2 m3
 clear HG HR3 n0 n1 n3 n5 HN2 t3
 go_wp2_with (at_builtin; refine wpList_append_own_at _ rfl (.tmp 152) (.tmp 154) 95 rfl B 120 i0 _ 4 40 Tryz.underlying95 (zA HI) (zA HZ).1 (zA HZ).2.1 (zA HZ).2.2 rfl (by decide) _ vs1.length (zM vs1) rfl ((zA HR3').below (zC _ _)) ⟨w3.heap.size,0,none⟩ 1 1 (zM [⟨5,(atT ts root).t,(vs1.length:Int) - 1,0⟩]) rfl rfl (by simpa using Zc (w3.setCell ⟨w1.heap.size,2,none⟩ (.int .i64 ((vs1.length:Int) - 1))) w3.heap.size ⟨5,(atT ts root).t,(vs1.length:Int) - 1,0⟩ (by simp [World.setCell])) (zR _) ?b1 ?b2 ?b3 ?next)
 case b1=>unfold maxLen; omega
 case b2=>omega
 case b3=>first | omega | (have:=(zA HGs).size; simp at this ⊢; omega)
 case next=>
  intro v4 w4 hown4 hgrow4 hnil4 hat4
  obtain ⟨vs4,hvs4⟩:∃ vs4,vs4 = vs1 ++ [(⟨5,(atT ts root).t,(vs1.length:Int) - 1,0⟩:zD)]:=⟨_,rfl⟩
  have hl4:vs4.length = vs1.length + 1:=by rw [hvs4]; simp
  have HR4:=zB (show zr w4 B v4 vs4 by
   rw [hvs4]
   unfold zr
   rw [zi,List.length_append]
   exact hown4)
  have HG5:=zB (zc (zC (w3.setCell ⟨w1.heap.size,2,none⟩ (.int .i64 ((vs1.length:Int) - 1))) _) hgrow4)
  have HG4:=zB (zP (zA HGs) (zA HG5) (zA HA))
  have HA4:=zB (Z9 (zA HGs) (zA HA) v4.ownBlock (hat4.imp id (fun h=>⟨_,h,by first | exact Nat.le_refl _ | simp⟩)))
  have t5:w4.cell? ⟨w.heap.size,0,none⟩ = some (.slice (some ⟨b,off,none⟩) xs.length cap):=(zE (zA HG5) (b:=w.heap.size) (block_lt_of_cell t4) (zA HnT) 0).trans t4
  have HE4:=zB ((zA HE).grown (zA HG4) (zA HUB))
  obtain ⟨g4,c4,rfl,hg4,hfl⟩:=zCV (zA HR4) (by omega)
  have hX4:=zA HE4
  have hat:atN vs4 vs1.length = ⟨5,(atT ts root).t,(vs1.length:Int) - 1,0⟩:=by rw [hvs4]; exact zDG rfl
  have hkd:=zAN (zA HT) ns [⟨5,(atT ts root).t,(vs1.length:Int) - 1,0⟩] (zA HVS)
  rw [<- hvs4] at hkd
  have HX:=zEn b off cap g4 0 c4 vs1.length xs vs4 w4 hm (by omega) hX4.1 (zA HSX) (by have:=hX4.2.2.2.2.2.2; have:=hX4.2.1; omega) hfl.2.2 hfl.1 (by omega) (by rw [hat]; unfold zAo; simp only; omega) j (by rw [hat]; exact zA HFJ) (vs1.length - 1) 0 (by rw [hat]; simp only; omega) (by rw [hat]; rfl) (by omega) (by omega) (by rw [hat]; exact Or.inl rfl) hkd.2.2 (fun h=>by rw [hat] at h; simp [zY] at h)
  have hFI:=zK2 (q:=5) (zA HT) (by omega) (zA HFJ) ns (zA HVS)
  have e6:((vs1.length:Nat):Int) = (vs4.length:Int) - 1:=by omega
  have HFI:=zB (show zFi xs vs4 vs1.length ↔ zA5 xs 5 (atT ts root).t T .nil = true by rw [hvs4]; exact hFI)
  have HV4:=zB (show vs4 = ns ++ nd (.node 5 0 (atT ts root).t T .nil) ns.length by rw [hvs4,zKL (b:=5) rfl,<- zA HVS]; rfl)
  rw [e6] at HX
  have hl5:vs4.length <= ns.length + (hi - lo):=by omega
  clear hown4 hgrow4 hnil4 hat4 HGs HG5 hvs4 hat hkd hX4 hfl m0 m1 m2 m3 HM hFI e6 hl4
  go_wp2_with fail
  refine HX.mono ?_
  clear HX
  rintro e w5 ⟨⟨v,rfl,hv⟩,hb5⟩
  have HG6:=zB (zP (zA HG4) (zO hb5 u.ownBlock) (Or.inl rfl))
  have HR6:=zB ((zA HR4).below hb5)
  have HV:=zB hv
  clear hb5 hv
  go_wp2_with fail
  refine bodyPost_ret (v:=.tuple #[.slice (some ⟨g4,0,none⟩) vs4.length c4,.bool v]) (by simp [results,Tryz.results87,go_sem]) rfl ⟨_,vs4,v,rfl,HR6,HG6,HA4,hl5,zB ?_⟩
  have hvv:v = true ↔ zA5 xs 5 (atT ts root).t T .nil = true:=(zA HV).trans (zA HFI)
  rw [zA HRT]
  cases v with
  | true=>
   rw [if_pos (hvv.1 rfl)]
   exact Or.inl ⟨_,rfl,rfl,zA HV4⟩
  | false=>
   rw [if_neg (fun h=>Bool.false_ne_true (hvv.2 h))]
   exact Or.inr ⟨rfl,rfl⟩
end Go.Proofs.YtgiemobdmbijiaaGreatDoor
