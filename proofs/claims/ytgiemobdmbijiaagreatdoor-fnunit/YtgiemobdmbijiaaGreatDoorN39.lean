import Derived.Test.YtgiemobdmbijiaaGreatDoorN37
import Derived.Test.YtgiemobdmbijiaaGreatDoorN38
namespace Go.Proofs.YtgiemobdmbijiaaGreatDoor
set_option linter.unusedSimpArgs false
set_option linter.unusedVariables false
set_option maxHeartbeats 16000000
set_option maxRecDepth 100000
open Go.RowKit
def zPl (xs:List OpR) (t:ByteArray) (T:ET) (r2:Option ET):Option ET:=match r2 with
 | none=>none
 | some T2=>if zA5 xs 4 t T T2 then some (.node 4 0 t T T2) else none
theorem zPN (b off cap gt ot ct gr cr lo hi root:Nat) (xs:List OpR) (ts:List zT) (us:List Int) (B:Nat) (u:Value) (ns:List zD) (w:World) (hm:xs.length <= 1048576) (hsx:Zs xs) (hE:BE w B b off gt ot gr xs ts us) (hF:TF xs ts us) (hlr:lo <= root) (hrh:root < hi) (hhi:hi <= ts.length) (hR:zBu (rtF xs (sgs xs ts lo (hi - lo)) lo 0 none) = (root:Int))
  (hrow:zr w B u ns) (hlen:ns.length + (hi - lo) <= 90000) (hro:zd xs ts root = 2) (r1 r2:Option ET) (hgd:∀ T,r1 = some T -> Zk xs T) (hgd2:∀ T,r2 = some T -> Zk xs T)
  (hc:∀ W,BE W B b off gt ot gr xs ts us -> zr W B u ns -> Calls Tryz.prog 87 #[.agg #[.slice (some ⟨b,off,none⟩) xs.length cap],.slice (some ⟨gt,ot,none⟩) ts.length ct,.slice (some ⟨gr,0,none⟩) us.length cr,.int .i64 (lo:Int),.int .i64 (root:Int),u] W (Zz W B u ns r1 (root - lo)))
  (hc2:∀ W u1 vs1,BE W B b off gt ot gr xs ts us -> zr W B u1 vs1 -> vs1.length + (hi - root - 1) <= 90000 -> Calls Tryz.prog 87 #[.agg #[.slice (some ⟨b,off,none⟩) xs.length cap],.slice (some ⟨gt,ot,none⟩) ts.length ct,.slice (some ⟨gr,0,none⟩) us.length cr,.int .i64 ((root:Int) + 1),.int .i64 (hi:Int),u1] W (Zz W B u1 vs1 r2 (hi - root - 1)))
  (res:Option ET) (hres:res = (match r1 with
   | none=>none
   | some T=>zPl xs (atT ts root).t T r2)) :
  Calls Tryz.prog 87 #[.agg #[.slice (some ⟨b,off,none⟩) xs.length cap],.slice (some ⟨gt,ot,none⟩) ts.length ct,.slice (some ⟨gr,0,none⟩) us.length cr,.int .i64 (lo:Int),.int .i64 (hi:Int),u] w (Zz w B u ns res (hi - lo)):=by
 obtain ⟨i0,hi0,hz0,hz1,hz2⟩:=zQ zCW
 have HI:=zB hi0
 have HZ:=zB (And.intro hz0 (And.intro hz1 hz2))
 clear hi0 hz0 hz1 hz2
 have HX:=zAk (cap:=cap) (ct:=ct) (cr:=cr) hm hE hF (by omega) hhi hR
 have hrI:(root:Int) < (ts.length:Int):=by omega
 have hln:ts.length <= 100000:=hF.len
 have hul:us.length = ts.length:=by rw [hF.us,Zu]
 have hrU:(root:Int) < (us.length:Int):=by omega
 have HE:=zB hE
 obtain ⟨h1,h2,h3,h4,h5,h6,h7⟩:=hE
 have k2:=(h3 root (by omega)).2.2
 have kr:=h5.2 root (by omega)
 rw [hF.us,zBX (by omega),hro] at kr
 have hB1:=zC w (.cells #[.slice (some ⟨b,off,none⟩) xs.length cap] 55)
 have HROW:=zB hrow
 have HUB:=zB hrow.base
 have hne0:∀ x,w.heap.size <= x -> u.ownBlock ≠ some x:=fun x hx e=>by have:=World.ownsRow.lt hrow _ e; omega
 have HNE:=zB hne0
 have hw4:gt < w.heap.size:=by omega
 have hw6:gr < w.heap.size:=by omega
 have er:decide ((root:Int) < 0) = false:=by rw [decide_eq_false_iff_not]; omega
 have HC:=zB hc
 have HC2:=zB hc2
 have HGD:=zB hgd
 have HGD2:=zB hgd2
 have HRES:=zB hres
 have HSX:=zB hsx
 obtain ⟨j,hfj⟩:∃ j,fnd xs (atT ts root).t 2 = some j:=by
  rcases (hF.all root (by omega)).1 with ⟨_,_,_,j,h,_⟩ | ⟨_,h0,_⟩
  ·rw [hro] at h; exact ⟨j,h⟩
  ·omega
 have HFJ:=zB hfj
 clear hrow h1 h3 h5 hF hR hro hne0 hul hc hc2 hgd hgd2 hres hsx hfj
 go_enter Tryz.func87,Tryz.ntmps87
 go_wp2_with fail
 refine HX.mono ?_
 clear HX
 rintro e w1 ⟨rfl,hb1⟩
 have bel1:Below w.heap.size w w1:=hB1.trans (hb1.mono hB1.size)
 have z1:w.heap.size + 1 <= w1.heap.size:=by have:=hb1.size; simp at this; omega
 have t1:w1.cell? ⟨w.heap.size,0,none⟩ = some (.slice (some ⟨b,off,none⟩) xs.length cap):=(hb1.cell (p:=⟨w.heap.size,0,none⟩) (by simp)).trans (by simp [go_sem])
 replace k2:=(bel1.cell (p:=⟨gt,ot + root * 3 + 2,none⟩) hw4).trans k2
 replace kr:=(bel1.cell (p:=⟨gr,root,none⟩) hw6).trans kr
 have hgl:gt < w1.heap.size:=by omega
 have hgn:gt ≠ w1.heap.size:=by omega
 have hrl:gr < w1.heap.size:=by omega
 have hrn:gr ≠ w1.heap.size:=by omega
 have hNn:w.heap.size ≠ w1.heap.size:=by omega
 clear hb1 hB1
 go_wp2_with fail
 go_region_held (fun w'=>w'.cell? ⟨gt,ot + root * 3 + 2,none⟩ = some (.string (atT ts root).t) /\ w'.cell? ⟨gr,root,none⟩ = some (.int .i64 2)) (go_keep) (fail)
 have hwK:IntKind.i64.wrap 4 = 4:=by rfl
 rw [hwK]
 clear hwK
 obtain ⟨W2,hW2⟩:∃ W2,W2 = (w1.alloc (.cells #[.int .i64 4,.string (atT ts root).t,.int .i64 0,.int .i64 0] 120)).drew:=⟨_,rfl⟩
 have hbW:Below w1.heap.size w1 W2:=by rw [hW2]; exact (zC _ _).drew
 have bel2:Below w.heap.size w W2:=bel1.trans (hbW.mono bel1.size)
 have HN2:=zB (show zp W2 w1.heap.size ⟨4,(atT ts root).t,0,0⟩ by
  rw [hW2]
  exact zp.below (w:=w1.alloc (.cells #[.int .i64 4,.string (atT ts root).t,.int .i64 0,.int .i64 0] 120)) ⟨by simp [go_sem],by simp [go_sem],by simp [go_sem],by simp [go_sem],by simp [go_sem],by simp [go_sem]⟩ (Below.refl _ _).drew)
 have t2:W2.cell? ⟨w.heap.size,0,none⟩ = some (.slice (some ⟨b,off,none⟩) xs.length cap):=(hbW.cell (p:=⟨w.heap.size,0,none⟩) (by simp only; omega)).trans t1
 have z2:w1.heap.size + 1 <= W2.heap.size:=by rw [hW2]; show _ <= (w1.alloc _).heap.size; simp
 obtain ⟨n0,n1,n2,n3,_,_⟩:=zA HN2
 simp only at n0 n1 n2 n3
 have HX:=(zA HC) W2 ((zA HE).below bel2) ((zA HROW).below bel2)
 rw [<- hW2]
 clear hbW k2 kr t1 hW2 HC HROW
 go_wp2_with fail
 refine HX.mono ?_
 clear HX n0 n1 n2 n3
 rintro e w3 ⟨u1,vs1,ok,rfl,HR3,HG3,HA3,hl3,HO3⟩
 obtain ⟨a1,c1,hu1⟩:=ZJ (zA HR3)
 have HG:=zB (zc bel2 (zA HG3))
 have HA:=zB (show u1.ownBlock = u.ownBlock \/ ∃ k,u1.ownBlock = some k /\ w.heap.size <= k from (zA HA3).imp id (fun ⟨k,h,h'⟩=>⟨k,h,by omega⟩))
 have HnB:=zB (show u1.ownBlock ≠ some w1.heap.size from fun e=>by
  rcases zA HA3 with h | ⟨k,h,h'⟩
  ·exact (zA HNE) w1.heap.size (by omega) (h.symm.trans e)
  ·rw [h] at e; injection e with e; omega)
 have HnT:=zB (show u1.ownBlock ≠ some w.heap.size from fun e=>by
  rcases zA HA3 with h | ⟨k,h,h'⟩
  ·exact (zA HNE) w.heap.size (by omega) (h.symm.trans e)
  ·rw [h] at e; injection e with e; omega)
 have HU1B:=zB (zA HR3).base
 replace HN2:=zB ((zA HN2).grown (zA HG3) ((zA HNE) _ (by omega)))
 have t3:w3.cell? ⟨w.heap.size,0,none⟩ = some (.slice (some ⟨b,off,none⟩) xs.length cap):=(zE (zA HG3) (b:=w.heap.size) (by omega) ((zA HNE) _ (by omega)) 0).trans t2
 have z3:=(zA HG3).size
 obtain ⟨n0,n1,n2,n3,n4,n5⟩:=zA HN2
 simp only at n0 n1 n2 n3
 clear HG3 HA3 t2
 rcases zA HO3 with ⟨T,hr1,rfl,hvs⟩ | ⟨hr1,rfl⟩
 case inr=>
  have HOUT:=zB (show res = none by rw [zA HRES,hr1])
  clear hr1 HO3 hu1
  go_wp2_with fail
  refine bodyPost_ret (v:=.tuple #[u1,.bool false]) (by simp [results,Tryz.results87,go_sem]) rfl ⟨_,vs1,false,rfl,HR3,HG,HA,by omega,zB (Or.inr ⟨zA HOUT,rfl⟩)⟩
 have HT:=zB ((zA HGD) T hr1)
 have HVS:=zB hvs
 have hv1:1 <= vs1.length:=(zAN (zA HT) ns [] hvs).1
 have HRT:=zB (show res = zPl xs (atT ts root).t T r2 by rw [zA HRES,hr1])
 clear hr1 hvs HO3 HRES HGD
 obtain ⟨W3,hW3⟩:∃ W3,W3 = w3.setCell ⟨w1.heap.size,2,none⟩ (.int .i64 ((vs1.length:Int) - 1)):=⟨_,rfl⟩
 have HM:=zB (show zp W3 w1.heap.size ⟨4,(atT ts root).t,(vs1.length:Int) - 1,0⟩ by rw [hW3]; exact (zA HN2).set2 ((vs1.length:Int) - 1))
 have HR3':=zB (show zr W3 B u1 vs1 by rw [hW3]; exact (zA HR3).other (g:=w1.heap.size) (j:=2) (.int .i64 ((vs1.length:Int) - 1)) (zA HnB))
 have t4:W3.cell? ⟨w.heap.size,0,none⟩ = some (.slice (some ⟨b,off,none⟩) xs.length cap):=by rw [hW3]; exact (World.cell?_setCell_other w3 ⟨w1.heap.size,2,none⟩ ⟨w.heap.size,0,none⟩ (.int .i64 ((vs1.length:Int) - 1)) (fun x=>by injection x with x1; omega)).trans t3
 have HGs:=zB (show w.grownBy W3 u.ownBlock by rw [hW3]; exact zP (zA HG) (⟨rfl,rfl,rfl,by simp [World.setCell],fun i _ hi=>Below.heap_setCell _ _ _ _ (fun e=>hi (by rw [e]))⟩:w3.grownBy (w3.setCell ⟨w1.heap.size,2,none⟩ (.int .i64 ((vs1.length:Int) - 1))) (some w1.heap.size)) (Or.inr ⟨_,rfl,by omega⟩))
 have zW:W3.heap.size = w3.heap.size:=by rw [hW3]; simp [World.setCell]
 have HZW:=zB zW
 have z3':w1.heap.size + 1 <= W3.heap.size:=by omega
 clear zW
 obtain ⟨m0,m1,m2,m3,m4,m5⟩:=zA HM
 simp only at m0 m1 m2 m3
 have HX:=(zA HC2) W3 u1 vs1 ((zA HE).grown (zA HGs) (zA HUB)) (zA HR3') (by omega)
 subst hu1
 have HW3:=zB hW3
 have hl3':vs1.length <= 90000:=by omega
 clear HG HR3 n1 n3 n5 HN2 HC2
 clear hW3
 go_wp2_with fail
 rw [<- zA HW3]
 go_wp2_with fail
 refine HX.mono ?_
 clear HX n0 n2 n4 t3 m0 m1 m2 m3 m4 m5
 rintro e w5 ⟨u2,vs2,ok2,rfl,HR5,HG5,HA5,hl5,HO5⟩
 obtain ⟨a2,c2,rfl⟩:=ZJ (zA HR5)
 have HGw:=zB (zP (zA HGs) (zA HG5) (zA HA))
 have HAw:=zB (Z9 (zA HGs) (zA HA) (Value.slice a2 vs2.length c2).ownBlock (zA HA5))
 have HnB2:=zB (show (Value.slice a2 vs2.length c2).ownBlock ≠ some w1.heap.size from fun e=>by
  rcases zA HA5 with h | ⟨k,h,h'⟩
  ·exact (zA HnB) (h.symm.trans e)
  ·rw [h] at e; injection e with e; omega)
 have HnT2:=zB (show (Value.slice a2 vs2.length c2).ownBlock ≠ some w.heap.size from fun e=>by
  rcases zA HA5 with h | ⟨k,h,h'⟩
  ·exact (zA HnT) (h.symm.trans e)
  ·rw [h] at e; injection e with e; omega)
 have HN5:=zB ((zA HM).grown (zA HG5) (zA HnB))
 have t5:w5.cell? ⟨w.heap.size,0,none⟩ = some (.slice (some ⟨b,off,none⟩) xs.length cap):=(zE (zA HG5) (b:=w.heap.size) (block_lt_of_cell t4) (zA HnT) 0).trans t4
 have z5:=(zA HG5).size
 obtain ⟨n0,n1,n2,n3,n4,n5⟩:=zA HN5
 simp only at n0 n1 n2 n3
 clear HG5 HA5 t4 HM HGs HA HR3'
 rcases zA HO5 with ⟨T2,hr2,rfl,hvs2⟩ | ⟨hr2,rfl⟩
 case inr=>
  have HOUT:=zB (show res = none by rw [zA HRT,hr2]; rfl)
  clear hr2 HO5
  go_wp2_with fail
  refine bodyPost_ret (v:=.tuple #[.slice a2 vs2.length c2,.bool false]) (by simp [results,Tryz.results87,go_sem]) rfl ⟨_,vs2,false,rfl,HR5,HGw,HAw,by omega,zB (Or.inr ⟨zA HOUT,rfl⟩)⟩
 have HT2:=zB ((zA HGD2) T2 hr2)
 have HVS2:=zB hvs2
 have hv2:1 <= vs2.length:=(zAN (zA HT2) vs1 [] hvs2).1
 have HRU:=zB (show res = if zA5 xs 4 (atT ts root).t T T2 then some (.node 4 0 (atT ts root).t T T2) else none by rw [zA HRT,hr2]; rfl)
 clear hr2 hvs2 HO5 HRT HGD2
 have HM5:=zB ((zA HN5).set3 ((vs2.length:Int) - 1))
 have HR5':=zB ((zA HR5).other (g:=w1.heap.size) (j:=3) (.int .i64 ((vs2.length:Int) - 1)) (zA HnB2))
 have t6:(w5.setCell ⟨w1.heap.size,3,none⟩ (.int .i64 ((vs2.length:Int) - 1))).cell? ⟨w.heap.size,0,none⟩ = some (.slice (some ⟨b,off,none⟩) xs.length cap):=(World.cell?_setCell_other w5 ⟨w1.heap.size,3,none⟩ ⟨w.heap.size,0,none⟩ (.int .i64 ((vs2.length:Int) - 1)) (fun x=>by injection x with x1; omega)).trans t5
 have HGv:=zB (zP (zA HGw) (⟨rfl,rfl,rfl,by simp [World.setCell],fun i _ hi=>Below.heap_setCell _ _ _ _ (fun e=>hi (by rw [e]))⟩:w5.grownBy (w5.setCell ⟨w1.heap.size,3,none⟩ (.int .i64 ((vs2.length:Int) - 1))) (some w1.heap.size)) (Or.inr ⟨_,rfl,by omega⟩))
 obtain ⟨m0,m1,m2,m3,_,_⟩:=zA HM5
 simp only at m0 m1 m2 m3
 clear HGw HR5 n0 n1 n2 n4 HN5 t5
 go_wp2_with (at_builtin; refine wpList_append_own_at _ rfl (.tmp 152) (.tmp 154) 95 rfl B 120 i0 _ 4 40 Tryz.underlying95 (zA HI) (zA HZ).1 (zA HZ).2.1 (zA HZ).2.2 rfl (by decide) _ vs2.length (zM vs2) rfl ((zA HR5').below (zC _ _)) ⟨w5.heap.size,0,none⟩ 1 1 (zM [⟨4,(atT ts root).t,(vs1.length:Int) - 1,(vs2.length:Int) - 1⟩]) rfl rfl (by simpa using Zc (w5.setCell ⟨w1.heap.size,3,none⟩ (.int .i64 ((vs2.length:Int) - 1))) w5.heap.size ⟨4,(atT ts root).t,(vs1.length:Int) - 1,(vs2.length:Int) - 1⟩ (by simp [World.setCell])) (zR _) ?b1 ?b2 ?b3 ?next)
 case b1=>unfold maxLen; omega
 case b2=>omega
 case b3=>first | omega | (have:=(zA HGv).size; simp at this ⊢; omega)
 case next=>
  intro v4 w6 hown4 hgrow4 hnil4 hat4
  obtain ⟨vs4,hvs4⟩:∃ vs4,vs4 = vs2 ++ [(⟨4,(atT ts root).t,(vs1.length:Int) - 1,(vs2.length:Int) - 1⟩:zD)]:=⟨_,rfl⟩
  have hl4:vs4.length = vs2.length + 1:=by rw [hvs4]; simp
  have HR4:=zB (show zr w6 B v4 vs4 by
   rw [hvs4]
   unfold zr
   rw [zi,List.length_append]
   exact hown4)
  have HG6:=zB (zc (zC (w5.setCell ⟨w1.heap.size,3,none⟩ (.int .i64 ((vs2.length:Int) - 1))) _) hgrow4)
  have HG4:=zB (zP (zA HGv) (zA HG6) (zA HAw))
  have HA4:=zB (Z9 (zA HGv) (zA HAw) v4.ownBlock (hat4.imp id (fun h=>⟨_,h,by first | exact Nat.le_refl _ | simp⟩)))
  have t7:w6.cell? ⟨w.heap.size,0,none⟩ = some (.slice (some ⟨b,off,none⟩) xs.length cap):=(zE (zA HG6) (b:=w.heap.size) (block_lt_of_cell t6) (zA HnT2) 0).trans t6
  have HE4:=zB ((zA HE).grown (zA HG4) (zA HUB))
  obtain ⟨g4,c4,rfl,hg4,hfl⟩:=zCV (zA HR4) (by omega)
  have hX4:=zA HE4
  have hat:atN vs4 vs2.length = ⟨4,(atT ts root).t,(vs1.length:Int) - 1,(vs2.length:Int) - 1⟩:=by rw [hvs4]; exact zDG rfl
  have hk1:=zAN (zA HT) ns (nd T2 vs1.length ++ [⟨4,(atT ts root).t,(vs1.length:Int) - 1,(vs2.length:Int) - 1⟩]) (zA HVS)
  rw [<- List.append_assoc,<- zA HVS2,<- hvs4] at hk1
  have hk2:=zAN (zA HT2) vs1 [⟨4,(atT ts root).t,(vs1.length:Int) - 1,(vs2.length:Int) - 1⟩] (zA HVS2)
  rw [<- hvs4] at hk2
  have hle12:vs1.length <= vs2.length:=by rw [zA HVS2,List.length_append]; omega
  have HX:=zEn b off cap g4 0 c4 vs2.length xs vs4 w6 hm (by omega) hX4.1 (zA HSX) (by have:=hX4.2.2.2.2.2.2; have:=hX4.2.1; omega) hfl.2.2 hfl.1 (by omega) (by rw [hat]; unfold zAo; simp only; omega) j (by rw [hat]; exact zA HFJ) (vs1.length - 1) (vs2.length - 1) (by rw [hat]; simp only; omega) (by rw [hat]; simp only; omega) (by omega) (by omega) (by rw [hat]; exact Or.inr rfl) hk1.2.2 (fun _=>hk2.2.2)
  have hFI:=zOJ (zA HT) (zA HT2) (zA HFJ) ns (zA HVS) (zA HVS2)
  have e6:((vs2.length:Nat):Int) = (vs4.length:Int) - 1:=by omega
  have HFI:=zB (show zFi xs vs4 vs2.length ↔ zA5 xs 4 (atT ts root).t T T2 = true by rw [hvs4]; exact hFI)
  have HV4:=zB (show vs4 = ns ++ nd (.node 4 0 (atT ts root).t T T2) ns.length by rw [hvs4,zPL,<- zA HVS,<- zA HVS2])
  rw [e6] at HX
  have hl5':vs4.length <= ns.length + (hi - lo):=by omega
  clear hown4 hgrow4 hnil4 hat4 HGv HG6 hvs4 hat hk1 hk2 hX4 hfl m0 m1 m2 m3 HM5 hFI e6 hl4
  go_wp2_with fail
  refine HX.mono ?_
  clear HX
  rintro e w7 ⟨⟨v,rfl,hv⟩,hb7⟩
  have HG8:=zB (zP (zA HG4) (zO hb7 u.ownBlock) (Or.inl rfl))
  have HR8:=zB ((zA HR4).below hb7)
  have HV:=zB hv
  clear hb7 hv
  go_wp2_with fail
  refine bodyPost_ret (v:=.tuple #[.slice (some ⟨g4,0,none⟩) vs4.length c4,.bool v]) (by simp [results,Tryz.results87,go_sem]) rfl ⟨_,vs4,v,rfl,HR8,HG8,HA4,hl5',zB ?_⟩
  have hvv:v = true ↔ zA5 xs 4 (atT ts root).t T T2 = true:=(zA HV).trans (zA HFI)
  rw [zA HRU]
  cases v with
  | true=>
   rw [if_pos (hvv.1 rfl)]
   exact Or.inl ⟨_,rfl,rfl,zA HV4⟩
  | false=>
   rw [if_neg (fun h=>Bool.false_ne_true (hvv.2 h))]
   exact Or.inr ⟨rfl,rfl⟩
theorem zH8 {xs:List OpR} {ts:List zT} {i:Nat} (h:TkF xs ts i) (hk:1 <= (atT ts i).k /\ (atT ts i).k <= 7 /\ (atT ts i).k ≠ 6) :
  ((sgT xs ts i).1 = 1 \/ (sgT xs ts i).1 = 2 -> ((atT ts i).k = 1 \/ (atT ts i).k = 2) /\ sgT xs ts i = ((atT ts i).k.toNat,(atT ts i).t)) /\
  ((sgT xs ts i).1 = 6 -> (atT ts i).k = 4) /\
  (3 <= (sgT xs ts i).1 -> (sgT xs ts i).1 <= 5 -> ((sgT xs ts i).1:Int) = zd xs ts i + 2 /\ (sgT xs ts i).2 = (atT ts i).t):=by
 rcases h with ⟨k3,hr,es,_⟩ | ⟨k3,h0,hn⟩
 ·rw [es]
  simp only
  exact ⟨fun h=>by omega,fun h=>by omega,fun _ _=>⟨by omega,trivial⟩⟩
 ·refine ⟨fun h=>?_,fun h=>?_,fun h3 h5=>absurd ⟨h3,h5⟩ hn⟩
  ·unfold sgT at h ⊢
   rw [if_neg k3] at h ⊢
   by_cases k4:(atT ts i).k = 4
   ·rw [if_pos k4] at h; exfalso; revert h; decide
   ·rw [if_neg k4] at h ⊢
    by_cases k5:(atT ts i).k = 5
    ·rw [if_pos k5] at h; exfalso; revert h; decide
    ·rw [if_neg k5] at h ⊢
     by_cases k7:(atT ts i).k = 7
     ·rw [if_pos k7] at h; exfalso; revert h; decide
     ·rw [if_neg k7]
      exact ⟨by omega,rfl⟩
  ·unfold sgT at h
   rw [if_neg k3] at h
   by_cases k4:(atT ts i).k = 4
   ·exact k4
   ·rw [if_neg k4] at h
    by_cases k5:(atT ts i).k = 5
    ·rw [if_pos k5] at h; exfalso; revert h; decide
    ·rw [if_neg k5] at h
     by_cases k7:(atT ts i).k = 7
     ·rw [if_pos k7] at h; exfalso; revert h; decide
     ·rw [if_neg k7] at h
      simp only at h
      omega
theorem zAr {b off cap gt ot ct gr cr:Nat} {xs:List OpR} {ts:List zT} {us:List Int} {B:Nat} (hv:zZ xs 0) (hm:xs.length <= 1048576) (hsx:Zs xs) (hF:TF xs ts us) :
  ∀ (n lo hi:Nat) (u:Value) (ns:List zD) (w:World),lo <= hi -> hi <= ts.length -> hi - lo <= n -> Seg xs (sgs xs ts lo (hi - lo)) -> BE w B b off gt ot gr xs ts us -> zr w B u ns -> ns.length + (hi - lo) <= 90000 ->
   Calls Tryz.prog 87 #[.agg #[.slice (some ⟨b,off,none⟩) xs.length cap],.slice (some ⟨gt,ot,none⟩) ts.length ct,.slice (some ⟨gr,0,none⟩) us.length cr,.int .i64 (lo:Int),.int .i64 (hi:Int),u] w (Zz w B u ns (bld xs n (sgs xs ts lo (hi - lo))) (hi - lo))
 | 0,lo,hi,u,ns,w,hlo,hhi,hn,hs,hE,hrow,hlen=>by
  have:hi - lo = 0:=by omega
  rw [this] at hs
  exact absurd rfl (Seg.ne hs)
 | n + 1,lo,hi,u,ns,w,hlo,hhi,hn,hs,hE,hrow,hlen=>by
  have ssl:=zDA xs ts lo (hi - lo)
  cases hrt:rtF xs (sgs xs ts lo (hi - lo)) 0 0 none with
  | none=>
   have hR:zBu (rtF xs (sgs xs ts lo (hi - lo)) lo 0 none) = -1:=by rw [zMy,hrt]; rfl
   rcases zIi hs hrt with ⟨s,hs12,hss⟩ | ⟨q,hss,hq⟩
   ·have h1:hi - lo = 1:=by rw [hss] at ssl; simpa using ssl.symm
    have hsg:s = sgT xs ts lo:=by
     have:=hss
     rw [h1] at this
     simp only [sgs,List.range'_one,List.map_cons,List.map_nil,List.cons.injEq,and_true] at this
     exact this.symm
    rw [hsg] at hs12
    obtain ⟨hk,he⟩:=(zH8 (hF.all lo (by omega)).1 (hF.all lo (by omega)).2).1 hs12
    have hb:bld xs (n + 1) (sgs xs ts lo (hi - lo)) = some (.node (atT ts lo).k.toNat 0 (atT ts lo).t .nil .nil):=by
     simp only [bld]
     rw [hrt,hss,hsg,he]
     simp only
     rw [if_neg (by omega)]
    rw [hb]
    exact zOG b off cap gt ot ct gr cr lo hi xs ts us B u ns w hm hE hF (by omega) hhi hR hrow (by omega) hk rfl (by omega)
   ·have hl2:hi - lo = q.length + 2:=by rw [hss] at ssl; simp at ssl; omega
    have hsg:=hss
    rw [hl2,zD3] at hsg
    injection hsg with hsg1 hsg2
    have hsg3:=hsg2
    rw [zCr] at hsg3
    have hq2:=(List.append_inj' hsg3 (by simp)).1
    have hk:=(zH8 (hF.all lo (by omega)).1 (hF.all lo (by omega)).2).2.1 (by rw [hsg1])
    have e0:hi - 1 - (lo + 1) = q.length:=by omega
    have hb:bld xs (n + 1) (sgs xs ts lo (hi - lo)) = (bld xs n q).map (fun T=>.node 6 0 ByteArray.empty T .nil):=by
     simp only [bld]
     rw [hrt,hss]
     simp
    rw [hb]
    refine zM2 b off cap gt ot ct gr cr lo hi xs ts us B u ns w hm hE hF (by omega) hhi hR hrow hlen hk (bld xs n q) (fun W hW hr=>?_)
    have h:=zAr hv hm hsx hF n (lo + 1) (hi - 1) u ns W (cap:=cap) (ct:=ct) (cr:=cr) (by omega) (by omega) (by omega) (by rw [e0,hq2]; exact hq) hW hr (by omega)
    rw [e0,hq2,show ((lo + 1:Nat):Int) = (lo:Int) + 1 by omega,show ((hi - 1:Nat):Int) = (hi:Int) - 1 by omega] at h
    rw [show hi - lo - 2 = q.length by omega]
    exact h
  | some x=>
   obtain ⟨L,R,hss,hx1,hkn,hcase⟩:=zIj hs hrt
   obtain ⟨g1,g2,g3,g4⟩:=zK0 hss
   rw [<- hx1] at g1 g2 g3 g4
   have hR:zBu (rtF xs (sgs xs ts lo (hi - lo)) lo 0 none) = ((lo + x.1:Nat):Int):=by
    rw [zMy,hrt]
    show ((x.1 + lo:Nat):Int) = _
    rw [Nat.add_comm]
   have hrx:lo + x.1 < ts.length:=by omega
   have hx3:3 <= x.2.1 /\ x.2.1 <= 5:=by
    rcases hcase with ⟨h,_⟩ | ⟨h,_⟩ | ⟨h,_⟩ <;> omega
   obtain ⟨hrole,htx⟩:=(zH8 (hF.all (lo + x.1) hrx).1 (hF.all (lo + x.1) hrx).2).2.2 (by rw [<- g1]; exact hx3.1) (by rw [<- g1]; exact hx3.2)
   rw [<- g1] at hrole htx
   have hb0:bld xs (n + 1) (sgs xs ts lo (hi - lo)) = (if (x.2.1 = 3 /\ x.1 ≠ 0) \/ (x.2.1 = 5 /\ x.1 + 1 ≠ hi - lo) then none
     else if x.2.1 = 3 then (match bld xs n ((sgs xs ts lo (hi - lo)).drop 1) with
      | none=>none
      | some T=>if zA5 xs 3 x.2.2 T .nil then some (.node 3 0 x.2.2 T .nil) else none)
     else if x.2.1 = 5 then (match bld xs n ((sgs xs ts lo (hi - lo)).take x.1) with
      | none=>none
      | some T=>if zA5 xs 5 x.2.2 T .nil then some (.node 5 0 x.2.2 T .nil) else none)
     else (match bld xs n ((sgs xs ts lo (hi - lo)).take x.1) with
      | none=>none
      | some T=>(match bld xs n ((sgs xs ts lo (hi - lo)).drop (x.1 + 1)) with
       | none=>none
       | some T2=>if zA5 xs 4 x.2.2 T T2 then some (.node 4 0 x.2.2 T T2) else none))):=by
    conv=>lhs; unfold bld
    rw [hrt]
    simp only [ssl]
    rfl
   have htake:(sgs xs ts lo (hi - lo)).take x.1 = sgs xs ts lo x.1:=by
    rw [hss,hx1,List.take_left']
    ·rw [<- hx1]; exact g3
    ·rfl
   have hdrop:(sgs xs ts lo (hi - lo)).drop (x.1 + 1) = sgs xs ts (lo + x.1 + 1) (hi - lo - x.1 - 1):=by
    have e:L ++ x.2 :: R = (L ++ [x.2]) ++ R:=by simp
    rw [hss,<- g4,e]
    exact List.drop_left' (by simp [hx1])
   rcases hcase with ⟨h3,hsR⟩ | ⟨h5,hsL⟩ | ⟨h4,hsL,hsR⟩
   ·by_cases hz:x.1 = 0
    ·have hLn:L = []:=List.length_eq_zero_iff.1 (by omega)
     have hsR':=hsR hLn
     rw [g4,hz] at hsR'
     have e0:hi - (lo + 1) = hi - lo - 0 - 1:=by omega
     rw [hb0,if_neg (by omega),if_pos h3]
     have hd1:(sgs xs ts lo (hi - lo)).drop 1 = sgs xs ts (lo + 1) (hi - (lo + 1)):=by
      have:=hdrop
      rw [hz] at this
      rw [e0]
      exact this
     rw [hd1,htx]
     have hsR2:Seg xs (sgs xs ts (lo + 1) (hi - (lo + 1))):=by rw [e0]; exact hsR'
     refine zPM b off cap gt ot ct gr cr lo hi (lo + x.1) xs ts us B u ns w hm hsx hE hF (by omega) (by omega) hhi hR hrow hlen (by omega) (by omega) (bld xs n (sgs xs ts (lo + 1) (hi - (lo + 1)))) (fun T hT=>(Zr hv _ _ _ hsR2 hT).1) (fun W hW hr=>?_) _ rfl
     have h:=zAr hv hm hsx hF n (lo + 1) hi u ns W (cap:=cap) (ct:=ct) (cr:=cr) (by omega) (by omega) (by omega) hsR2 hW hr (by omega)
     rw [show ((lo + 1:Nat):Int) = (lo:Int) + 1 by omega] at h
     rw [show hi - lo - 1 = hi - (lo + 1) by omega]
     exact h
    ·rw [hb0,if_pos (Or.inl ⟨h3,hz⟩)]
     exact zOK b off cap gt ot ct gr cr lo hi (lo + x.1) xs ts us B u ns w hm hsx hE hF (by omega) (by omega) hhi hR hrow hlen (by omega) (by omega)
   ·by_cases hz:x.1 + 1 = hi - lo
    ·rw [hb0,if_neg (by omega),if_neg (by omega),if_pos h5,htake,htx]
     rw [g3] at hsL
     have e0:lo + x.1 - lo = x.1:=by omega
     refine zOM b off cap gt ot ct gr cr lo hi (lo + x.1) xs ts us B u ns w hm hsx hE hF (by omega) (by omega) hhi hR hrow hlen (by omega) (by omega) (bld xs n (sgs xs ts lo x.1)) (fun T hT=>(Zr hv _ _ _ hsL hT).1) (fun W hW hr=>?_) _ rfl
     have h:=zAr hv hm hsx hF n lo (lo + x.1) u ns W (cap:=cap) (ct:=ct) (cr:=cr) (by omega) (by omega) (by omega) (by rw [e0]; exact hsL) hW hr (by omega)
     rw [e0] at h
     rw [show hi - lo - 1 = x.1 by omega]
     exact h
    ·rw [hb0,if_pos (Or.inr ⟨h5,hz⟩)]
     exact zOL b off cap gt ot ct gr cr lo hi (lo + x.1) xs ts us B u ns w hm hsx hE hF (by omega) (by omega) hhi hR hrow hlen (by omega) (by omega)
   ·rw [hb0,if_neg (by omega),if_neg (by omega),if_neg (by omega),htake,hdrop,htx]
    rw [g3] at hsL
    rw [g4] at hsR
    have e0:lo + x.1 - lo = x.1:=by omega
    have e1:hi - (lo + x.1 + 1) = hi - lo - x.1 - 1:=by omega
    refine zPN b off cap gt ot ct gr cr lo hi (lo + x.1) xs ts us B u ns w hm hsx hE hF (by omega) (by omega) hhi hR hrow hlen (by omega) (bld xs n (sgs xs ts lo x.1)) (bld xs n (sgs xs ts (lo + x.1 + 1) (hi - lo - x.1 - 1))) (fun T hT=>(Zr hv _ _ _ hsL hT).1) (fun T hT=>(Zr hv _ _ _ hsR hT).1) (fun W hW hr=>?_) (fun W u1 vs1 hW hr hl=>?_) _ rfl
    ·have h:=zAr hv hm hsx hF n lo (lo + x.1) u ns W (cap:=cap) (ct:=ct) (cr:=cr) (by omega) (by omega) (by omega) (by rw [e0]; exact hsL) hW hr (by omega)
     rw [e0] at h
     rw [e0]
     exact h
    ·have h:=zAr hv hm hsx hF n (lo + x.1 + 1) hi u1 vs1 W (cap:=cap) (ct:=ct) (cr:=cr) (by omega) (by omega) (by omega) (by rw [e1]; exact hsR) hW hr (by omega)
     rw [e1,show ((lo + x.1 + 1:Nat):Int) = ((lo + x.1:Nat):Int) + 1 by omega] at h
     rw [show hi - (lo + x.1) - 1 = hi - lo - x.1 - 1 by omega]
     exact h
end Go.Proofs.YtgiemobdmbijiaaGreatDoor
