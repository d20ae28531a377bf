import Derived.Test.YtgiemobdmbijiaaGreatDoorN24
namespace Go.Proofs.YtgiemobdmbijiaaGreatDoor
set_option linter.unusedSimpArgs false
set_option linter.unusedVariables false
set_option maxHeartbeats 16000000
set_option maxRecDepth 100000
open Go.RowKit
theorem zO9 (b off cap bz offz cz j ja jb jj:Nat) (ns:List OpR) (zs:List zD) (o:zD) (least:Int) (B:Nat) (u:Value) (us us1 us2 vs:List zD) (w:World) (hm:ns.length <= 1048576) (hsz:Zs ns) (hw:Ops w b off ns) (hb:b < B) (hwz:zAs w bz offz zs) (hbz:bz < B) (hB:B <= w.heap.size) (hrow:zr w B u us) (hj:j < zs.length) (hzl:zs.length <= 20000) (ho:atN zs j = ⟨o.k,o.t,(ja:Int),(jb:Int)⟩) (hop:zAo o) (hk:zY o.k = 2) (hf:fnd ns o.t (o.k - 2) = some jj) (hlen:us2.length <= 90000) {U U2:List zD} (hu1:us1 = us ++ U) (hu2:us2 = us1 ++ U2) (hvs:vs = us ++ zCk ns o least us.length ((U ++ U2) ++ [⟨o.k,o.t,(us1.length:Int) - 1,(us2.length:Int) - 1⟩]))
  (hc:∀ W,Ops W b off ns -> zAs W bz offz zs -> B <= W.heap.size -> zr W B u us -> Calls Tryz.prog 81 #[.agg #[.slice (some ⟨b,off,none⟩) ns.length cap],.slice (some ⟨bz,offz,none⟩) zs.length cz,.int .i64 (ja:Int),.int .i64 (zAu (atO ns jj).s (atO ns jj).k (atO ns jj).l (atO ns jj).sd false),u] W (zAR W B u us1))
  (hc2:∀ u' W,Ops W b off ns -> zAs W bz offz zs -> B <= W.heap.size -> zr W B u' us1 -> Calls Tryz.prog 81 #[.agg #[.slice (some ⟨b,off,none⟩) ns.length cap],.slice (some ⟨bz,offz,none⟩) zs.length cz,.int .i64 (jb:Int),.int .i64 (zAu (atO ns jj).s (atO ns jj).k (atO ns jj).l (atO ns jj).sd true),u'] W (zAR W B u' us2)) :
  Calls Tryz.prog 81 #[.agg #[.slice (some ⟨b,off,none⟩) ns.length cap],.slice (some ⟨bz,offz,none⟩) zs.length cz,.int .i64 (j:Int),.int .i64 least,u] w (zAR w B u vs):=by
 obtain ⟨us4,HU4'⟩:∃ us4,Hid (us4 = us ++ ((U ++ U2) ++ [⟨o.k,o.t,(us1.length:Int) - 1,(us2.length:Int) - 1⟩])):=⟨_,zB rfl⟩
 have HU4:=HU4'
 have HU4e:us4 = us2 ++ [⟨o.k,o.t,(us1.length:Int) - 1,(us2.length:Int) - 1⟩]:=by
  rw [zA HU4',<- List.append_assoc,<- List.append_assoc,<- hu1,<- hu2]
 have hl4:us4.length <= 90001:=by rw [HU4e,List.length_append]; simp; omega
 have hl1:us1.length <= 90000:=by rw [hu2,List.length_append] at hlen; omega
 obtain ⟨i0,hi0,hz0,hz1,hz2⟩:=zQ zCW
 have HI:=zB hi0
 have HZ:=zB (And.intro hz0 (And.intro hz1 hz2))
 clear hi0 hz0 hz1 hz2
 have hjI:(j:Int) < (zs.length:Int):=by omega
 have hbzw:bz < w.heap.size:=by omega
 have hbw:b < w.heap.size:=by omega
 obtain ⟨h0,h1,h2,h3⟩:=hwz j hj
 rw [ho] at h0 h1 h2 h3
 simp only at h0 h1 h2 h3
 have HD:=zB (show true = decide (3 <= o.k /\ o.k <= 5) by rw [eq_comm,decide_eq_true_iff]; exact hop)
 have h3k:=hop.1
 have h5k:=hop.2
 have HF:=zB hf
 have hjj:=(zA0 hf).1
 have HSJ:=zB (hsz jj hjj)
 have HKN:=zB (show 3 <= o.k -> o.k <= 5 -> fnd ns o.t (o.k - 2) ≠ none from fun _ _=>by rw [hf]; simp)
 have HV4:=zB (zGG hvs (zA HU4))
 have HUB:=zB hrow.base
 have hne0:∀ x,w.heap.size <= x -> u.ownBlock ≠ some x:=fun x hx e=>by have:=hrow.lt _ e; omega
 obtain ⟨a0,c0,rfl⟩:=ZJ hrow
 obtain ⟨u,hu⟩:∃ u,u = Value.slice a0 us.length c0:=⟨_,rfl⟩
 have HNE:=zB hne0
 have HW:=zB hw
 have HWZ:=zB hwz
 have HRC:=zB hrow
 have HB3:=zB (show ∀ o1 o2 o3:Obj,Below w.heap.size w (((w.alloc o1).alloc o2).alloc o3) from fun o1 o2 o3=>((zC w o1).alloc (by simp) o2).alloc (by simp; omega) o3)
 have HPU:=zB (show zAR w B (Value.slice a0 us.length c0) vs = zAR w B u vs by rw [hu])
 rw [zA HPU]
 have HUE:=zB hu
 rw [<- hu] at HUB
 have HC:=zB hc
 have HK1:=zB hk
 have HC2:=zB hc2
 replace HU4:=zB HU4e
 clear hk hu1 hu2 HU4' HU4e hc2
 clear hw hwz hrow ho hvs hne0 hu HPU hc hop hf
 go_enter Tryz.func81,Tryz.ntmps81
 go_wp2_with fail
 refine (zAK ⟨o.k,o.t,(ja:Int),(jb:Int)⟩ _ true (zA HD)).mono ?_
 rintro e w1 ⟨rfl,hb1⟩
 have bel1:Below w.heap.size w w1:=((zA HB3) _ _ _).trans (hb1.mono (by simp; omega))
 have t1:w1.cell? ⟨w.heap.size,0,none⟩ = some (.slice (some ⟨b,off,none⟩) ns.length cap):=(hb1.cell (p:=⟨w.heap.size,0,none⟩) (by simp; omega)).trans (by simp [go_sem])
 have HN1:=zB (show zp w1 (w.heap.size + 1) ⟨o.k,o.t,(ja:Int),(jb:Int)⟩ from zp.below ⟨by simp [go_sem],by simp [go_sem],by simp [go_sem],by simp [go_sem],by simp [go_sem],by simp [go_sem]⟩ hb1)
 have HM1:=zB (show zp w1 (w.heap.size + 1 + 1) ⟨o.k,o.t,0,0⟩ from zp.below ⟨by simp [go_sem],by simp [go_sem],by simp [go_sem],by simp [go_sem],by simp [go_sem],by simp [go_sem]⟩ hb1)
 have z1:w.heap.size + 3 <= w1.heap.size:=by have:=hb1.size; simp at this; omega
 obtain ⟨n0,n1,n2,n3,_,_⟩:=zA HN1
 simp only at n0 n1 n2 n3
 clear hb1 HB3
 go_wp2_with fail
 refine (zCO b off cap ns ⟨o.k,o.t,(ja:Int),(jb:Int)⟩ jj _ hm ((zA HW).below bel1 hbw) (by omega) h3k h5k (zA HF)).mono ?_
 rintro e w2 ⟨rfl,hb2⟩
 have bel2:=bel1.trans (hb2.mono bel1.size)
 have z2:w.heap.size + 3 <= w2.heap.size:=Nat.le_trans z1 hb2.size
 have hbC:Below w2.heap.size w2 (w2.alloc (.cells #[.string (atO ns jj).s,.int .i64 (atO ns jj).k,.int .i64 (atO ns jj).l,.int .i64 (atO ns jj).sd] 46)).drew:=(zC _ _).drew
 have HTC:=zB (show (w2.alloc (.cells #[.string (atO ns jj).s,.int .i64 (atO ns jj).k,.int .i64 (atO ns jj).l,.int .i64 (atO ns jj).sd] 46)).drew.cell? ⟨w.heap.size,0,none⟩ = some (.slice (some ⟨b,off,none⟩) ns.length cap) from (hbC.cell (p:=⟨w.heap.size,0,none⟩) (show w.heap.size < w2.heap.size by omega)).trans ((hb2.cell (p:=⟨w.heap.size,0,none⟩) (show w.heap.size < w1.heap.size by omega)).trans t1))
 have HNC:=zB (((zA HN1).below hb2).below hbC)
 have HMC:=zB (((zA HM1).below hb2).below hbC)
 have HOC:=zB (show zB7 (w2.alloc (.cells #[.string (atO ns jj).s,.int .i64 (atO ns jj).k,.int .i64 (atO ns jj).l,.int .i64 (atO ns jj).sd] 46)).drew w2.heap.size (atO ns jj) from zB7.below (w:=w2.alloc (.cells #[.string (atO ns jj).s,.int .i64 (atO ns jj).k,.int .i64 (atO ns jj).l,.int .i64 (atO ns jj).sd] 46)) ⟨by simp [go_sem],by simp [go_sem],by simp [go_sem],by simp [go_sem]⟩ (Below.refl _ _).drew)
 have HBC:=zB (bel2.trans (hbC.mono bel2.size))
 replace HRC:=zB ((zA HRC).below (zA HBC))
 have HZC:=zB (show w2.heap.size + 1 <= (w2.alloc (.cells #[.string (atO ns jj).s,.int .i64 (atO ns jj).k,.int .i64 (atO ns jj).l,.int .i64 (atO ns jj).sd] 46)).drew.heap.size by simp)
 clear hb2 hbC t1 HN1 HM1 n0 n1 n2 n3 bel1 bel2
 go_wp2_with fail
 go_region_held (fun w'=>w'.cell? ⟨w.heap.size,0,none⟩ = some (.slice (some ⟨b,off,none⟩) ns.length cap) /\ w'.cell? ⟨w.heap.size + 1,2,none⟩ = some (.int .i64 (ja:Int)) /\ w'.cell? ⟨w2.heap.size,0,none⟩ = some (.string (atO ns jj).s) /\ w'.cell? ⟨w2.heap.size,1,none⟩ = some (.int .i64 (atO ns jj).k) /\ w'.cell? ⟨w2.heap.size,2,none⟩ = some (.int .i64 (atO ns jj).l) /\ w'.cell? ⟨w2.heap.size,3,none⟩ = some (.int .i64 (atO ns jj).sd)) (first | (go_keep; done) | exact ⟨zA HTC,(zA HNC).2.2.1,(zA HOC).1,(zA HOC).2.1,(zA HOC).2.2.1,(zA HOC).2.2.2⟩)
  (first | (go_at_call 108; refine (zAP (atO ns jj).s (atO ns jj).k (atO ns jj).l (atO ns jj).sd false _ (zA HSJ)).mono ?_; rintro e w3 ⟨rfl,hb3⟩; have hp3:=hb3; replace HTC:=zB ((hb3.cell (p:=⟨w.heap.size,0,none⟩) (block_lt_of_cell (zA HTC))).trans (zA HTC)); replace HNC:=zB ((zA HNC).below hb3); replace HMC:=zB ((zA HMC).below hb3); replace HOC:=zB ((zA HOC).below hb3); replace HRC:=zB ((zA HRC).below hb3); replace HBC:=zB ((zA HBC).trans (hp3.mono (zA HBC).size)); replace HZC:=zB (Nat.le_trans (zA HZC) hb3.size); clear hb3 hp3) | (go_at_call 81; refine ((zA HC) _ ((zA HW).below (zA HBC) hbw) ((zA HWZ).below (zA HBC) hbzw) (Nat.le_trans hB (zA HBC).size) (zA HRC)).mono ?_; rintro x w5 ⟨u1,rfl,hr5,hg5,ho5⟩; replace HTC:=zB ((zE (zA hg5) (b:=w.heap.size) (block_lt_of_cell (zA HTC)) ((zA HNE) _ (by omega)) 0).trans (zA HTC)); replace HNC:=zB ((zA HNC).grown (zA hg5) ((zA HNE) _ (by omega))); replace HMC:=zB ((zA HMC).grown (zA hg5) ((zA HNE) _ (by omega))); replace HOC:=zB ((zA HOC).grown (zA hg5) ((zA HNE) _ (by omega))); have HGX:=zB (zc (zA HBC) (zA hg5)); have HA5:=zB ((zA ho5).imp id (fun ⟨k,h1,h2⟩=>⟨k,h1,Nat.le_trans (zA HZC) h2⟩):u1.ownBlock = (Value.slice a0 us.length c0).ownBlock \/ ∃ k,u1.ownBlock = some k /\ w2.heap.size + 1 <= k); obtain ⟨a1,c1,rfl⟩:=ZJ (zA hr5); have HRX:=hr5; clear hg5 ho5 hr5 HRC HBC))
 rw [<- zA HUE] at HGX HA5
 have HNE1:=zB (show ∀ x,w.heap.size <= x -> x < w2.heap.size + 1 -> (Value.slice a1 us1.length c1).ownBlock ≠ some x from fun x hx hx2 e=>by
  rcases zA HA5 with h | ⟨k,h1,h2⟩
  ·exact (zA HNE) x hx (by rw [<- zA HUE,<- h]; exact e)
  ·rw [h1] at e; injection e with e; omega)
 have HneX:=zB (show ∀ x,w.heap.size <= x -> x < w.heap.size + 3 -> (Value.slice a1 us1.length c1).ownBlock ≠ some x from fun x hx hx2=>(zA HNE1) x hx (by omega))
 have HAX:=zB (show (Value.slice a1 us1.length c1).ownBlock = u.ownBlock \/ ∃ k,(Value.slice a1 us1.length c1).ownBlock = some k /\ w.heap.size <= k from (zA HA5).imp id (fun ⟨k,h1,h2⟩=>⟨k,h1,by omega⟩))
 have mc:=zA HMC
 obtain ⟨mm0,mm1,mm2,mm3,mm4,mm5⟩:=mc
 simp only at mm0 mm1 mm2 mm3
 have nc:=zA HNC
 obtain ⟨nn0,nn1,nn2,nn3,_,_⟩:=nc
 simp only at nn0 nn1 nn2 nn3
 have n0':(w5.setCell ⟨w.heap.size + 1 + 1,2,none⟩ (.int .i64 ((us1.length:Int) - 1))).cell? ⟨w.heap.size + 1,0,none⟩ = some (.int .i64 o.k):=(World.cell?_setCell_other _ _ _ _ (fun x=>by injection x with x1; omega)).trans nn0
 replace HMC:=zB ((zA HMC).set2 ((us1.length:Int) - 1))
 replace HNC:=zB ((zA HNC).other (g:=w.heap.size + 1 + 1) (j:=2) (.int .i64 ((us1.length:Int) - 1)) (by omega))
 replace HTC:=zB ((World.cell?_setCell_other w5 ⟨w.heap.size + 1 + 1,2,none⟩ ⟨w.heap.size,0,none⟩ (.int .i64 ((us1.length:Int) - 1)) (fun x=>by injection x with x1; omega)).trans (zA HTC))
 replace HRX:=zB ((zA HRX).other (g:=w.heap.size + 1 + 1) (j:=2) (.int .i64 ((us1.length:Int) - 1)) ((zA HneX) _ (by omega) (by omega)))
 replace HGX:=zB (zP (zA HGX) (⟨rfl,rfl,rfl,by simp [World.setCell],fun i _ hi=>Below.heap_setCell _ _ _ _ (fun e=>hi (by rw [e]))⟩:w5.grownBy (w5.setCell ⟨w.heap.size + 1 + 1,2,none⟩ (.int .i64 ((us1.length:Int) - 1))) (some (w.heap.size + 1 + 1))) (Or.inr ⟨_,rfl,by omega⟩))
 replace HOC:=zB ((zA HOC).other (g:=w.heap.size + 1 + 1) (j:=2) (.int .i64 ((us1.length:Int) - 1)) (by omega))
 have HZX:=zB (show w2.heap.size + 1 <= w5.heap.size from Nat.lt_of_lt_of_le (by have:=block_lt_of_cell (zA HOC).1; simpa [World.setCell] using this) (Nat.le_refl _))
 clear nn0 nn1 nn2 nn3 mm0 mm1 mm3 mm5 HC n0'
 replace HTC:=zB ((show Below (w5.setCell ⟨w.heap.size + 1 + 1,2,none⟩ (.int .i64 ((us1.length:Int) - 1))).heap.size (w5.setCell ⟨w.heap.size + 1 + 1,2,none⟩ (.int .i64 ((us1.length:Int) - 1))) (w5.setCell ⟨w.heap.size + 1 + 1,2,none⟩ (.int .i64 ((us1.length:Int) - 1))).drew from (Below.refl _ _).drew).cell (p:=⟨w.heap.size,0,none⟩) (block_lt_of_cell (zA HTC)) |>.trans (zA HTC))
 replace HNC:=zB ((zA HNC).below (Below.refl _ _).drew)
 replace HMC:=zB ((zA HMC).below (Below.refl _ _).drew)
 replace HOC:=zB ((zA HOC).below (Below.refl _ _).drew)
 replace HRX:=zB ((zA HRX).below (Below.refl _ _).drew)
 replace HGX:=zB (zP (zA HGX) (zO ((Below.refl _ _).drew) u.ownBlock) (Or.inl rfl))
 replace HZX:=zB (show w2.heap.size + 1 <= (w5.setCell ⟨w.heap.size + 1 + 1,2,none⟩ (.int .i64 ((us1.length:Int) - 1))).drew.heap.size by have:=zA HZX; simpa [World.setCell] using this)
 have n0':(w5.setCell ⟨w.heap.size + 1 + 1,2,none⟩ (.int .i64 ((us1.length:Int) - 1))).cell? ⟨w.heap.size + 1,0,none⟩ = some (.int .i64 o.k):=(zA HNC).1
 go_wp2_with (go_at_call 83; refine (zN (zA HK1) 2 rfl _).mono ?_; rintro e w' ⟨rfl,rfl⟩)
 clear n0' mm2 mm4
 go_region_held (fun w'=>w'.cell? ⟨w.heap.size,0,none⟩ = some (.slice (some ⟨b,off,none⟩) ns.length cap) /\ w'.cell? ⟨w.heap.size + 1,3,none⟩ = some (.int .i64 (jb:Int)) /\ w'.cell? ⟨w2.heap.size,0,none⟩ = some (.string (atO ns jj).s) /\ w'.cell? ⟨w2.heap.size,1,none⟩ = some (.int .i64 (atO ns jj).k) /\ w'.cell? ⟨w2.heap.size,2,none⟩ = some (.int .i64 (atO ns jj).l) /\ w'.cell? ⟨w2.heap.size,3,none⟩ = some (.int .i64 (atO ns jj).sd)) (first | (go_keep; done) | exact ⟨zA HTC,(zA HNC).2.2.2.1,(zA HOC).1,(zA HOC).2.1,(zA HOC).2.2.1,(zA HOC).2.2.2⟩)
  (first | (go_at_call 108; refine (zAP (atO ns jj).s (atO ns jj).k (atO ns jj).l (atO ns jj).sd true _ (zA HSJ)).mono ?_; rintro e w6 ⟨rfl,hb3⟩; have hp3:=hb3; replace HTC:=zB ((hb3.cell (p:=⟨w.heap.size,0,none⟩) (block_lt_of_cell (zA HTC))).trans (zA HTC)); replace HNC:=zB ((zA HNC).below hb3); replace HMC:=zB ((zA HMC).below hb3); replace HOC:=zB ((zA HOC).below hb3); replace HRX:=zB ((zA HRX).below hb3); replace HGX:=zB (zP (zA HGX) (zO hb3 u.ownBlock) (Or.inl rfl)); replace HZX:=zB (Nat.le_trans (zA HZX) hb3.size); clear hb3 hp3) | (go_at_call 81; refine ((zA HC2) _ _ (zB8 (zA HW) (zA HGX) hb hB (zA HUB)) (zJ3 (zA HWZ) (zA HGX) hbz hB (zA HUB)) (Nat.le_trans hB (zA HGX).size) (zA HRX)).mono ?_; rintro x w7 ⟨u2,rfl,hr7,hg7,ho7⟩; replace HTC:=zB ((zE (zA hg7) (b:=w.heap.size) (block_lt_of_cell (zA HTC)) ((zA HNE1) _ (by omega) (by omega)) 0).trans (zA HTC)); replace HNC:=zB ((zA HNC).grown (zA hg7) ((zA HNE1) _ (by omega) (by omega))); replace HMC:=zB ((zA HMC).grown (zA hg7) ((zA HNE1) _ (by omega) (by omega))); replace HOC:=zB ((zA HOC).grown (zA hg7) ((zA HNE1) _ (by omega) (by omega))); replace HGX:=zB (zP (zA HGX) (zA hg7) (zA HAX)); have HA7:=zB ((zA ho7).imp id (fun ⟨k,h1,h2⟩=>⟨k,h1,Nat.le_trans (zA HZX) h2⟩):u2.ownBlock = (Value.slice a1 us1.length c1).ownBlock \/ ∃ k,u2.ownBlock = some k /\ w2.heap.size + 1 <= k); obtain ⟨a2,c2,rfl⟩:=ZJ (zA hr7); replace HRX:=hr7; clear hg7 ho7 hr7))
 have HneX2:=zB (show ∀ x,w.heap.size <= x -> x < w.heap.size + 3 -> (Value.slice a2 us2.length c2).ownBlock ≠ some x from fun x hx hx2 e=>by
  rcases zA HA7 with h | ⟨k,h1,h2⟩
  ·exact (zA HneX) x hx hx2 (by rw [<- h]; exact e)
  ·rw [h1] at e; injection e with e; omega)
 have HAX2:=zB (show (Value.slice a2 us2.length c2).ownBlock = u.ownBlock \/ ∃ k,(Value.slice a2 us2.length c2).ownBlock = some k /\ w.heap.size <= k by
  rcases zA HA7 with h | ⟨k,h1,h2⟩
  ·rw [h]; exact zA HAX
  ·exact Or.inr ⟨k,h1,by omega⟩)
 clear HneX HAX HNE1 HA5 HA7
 have HneX:=HneX2
 have HAX:=HAX2
 clear HneX2 HAX2
 obtain ⟨mm0,mm1,mm2,mm3,mm4,mm5⟩:=zA HMC
 simp only at mm0 mm1 mm2 mm3
 replace HMC:=zB ((zA HMC).set3 ((us2.length:Int) - 1))
 replace HNC:=zB ((zA HNC).other (g:=w.heap.size + 1 + 1) (j:=3) (.int .i64 ((us2.length:Int) - 1)) (by omega))
 replace HTC:=zB ((World.cell?_setCell_other w7 ⟨w.heap.size + 1 + 1,3,none⟩ ⟨w.heap.size,0,none⟩ (.int .i64 ((us2.length:Int) - 1)) (fun x=>by injection x with x1; omega)).trans (zA HTC))
 replace HRX:=zB ((zA HRX).other (g:=w.heap.size + 1 + 1) (j:=3) (.int .i64 ((us2.length:Int) - 1)) ((zA HneX) _ (by omega) (by omega)))
 replace HGX:=zB (zP (zA HGX) (⟨rfl,rfl,rfl,by simp [World.setCell],fun i _ hi=>Below.heap_setCell _ _ _ _ (fun e=>hi (by rw [e]))⟩:w7.grownBy (w7.setCell ⟨w.heap.size + 1 + 1,3,none⟩ (.int .i64 ((us2.length:Int) - 1))) (some (w.heap.size + 1 + 1))) (Or.inr ⟨_,rfl,by omega⟩))
 have HMX:=HMC
 have HNX:=HNC
 have HTX:=HTC
 clear HMC HNC HTC HOC HZX mm0 mm1 mm2 mm4 HC2 HNE HWZ
 obtain ⟨mk0,mk1,mk2,mk3,_,_⟩:=zA HMX
 simp only at mk0 mk1 mk2 mk3
 go_wp2_with (at_builtin; refine wpList_append_own_at _ rfl (.tmp 56) (.tmp 58) 95 rfl B 120 i0 _ 4 40 Tryz.underlying95 (zA HI) (zA HZ).1 (zA HZ).2.1 (zA HZ).2.2 rfl (by decide) _ us2.length (zM us2) rfl ((zA HRX).below (zC _ _)) ⟨w7.heap.size,0,none⟩ 1 1 (zM [⟨o.k,o.t,(us1.length:Int) - 1,(us2.length:Int) - 1⟩]) rfl rfl (by simpa using Zc (w7.setCell ⟨w.heap.size + 1 + 1,3,none⟩ (.int .i64 ((us2.length:Int) - 1))) w7.heap.size ⟨o.k,o.t,(us1.length:Int) - 1,(us2.length:Int) - 1⟩ (by simp [World.setCell])) (zR _) ?b1 ?b2 ?b3 ?next)
 case b1=>unfold maxLen; omega
 case b2=>omega
 case b3=>first | omega | (have:=(zA HGX).size; simp at this ⊢; omega)
 case next=>
  intro v4 w4 hown4 hgrow4 hnil4 hat4
  have hr4:zr w4 B v4 (us2 ++ [⟨o.k,o.t,(us1.length:Int) - 1,(us2.length:Int) - 1⟩]):=by
   unfold zr
   rw [zi,List.length_append]
   exact hown4
  rw [<- zA HU4] at hr4
  have HGb:=zB (zc (zC (w7.setCell ⟨w.heap.size + 1 + 1,3,none⟩ (.int .i64 ((us2.length:Int) - 1))) _) hgrow4)
  have HAb:=zB (show v4.ownBlock = (Value.slice a2 us2.length c2).ownBlock \/ ∃ k,v4.ownBlock = some k /\ (w7.setCell ⟨w.heap.size + 1 + 1,3,none⟩ (.int .i64 ((us2.length:Int) - 1))).heap.size <= k from hat4.imp id (fun h=>⟨_,h,by first | exact Nat.le_refl _ | simp⟩))
  have HG4:=zB (zP (zA HGX) (zA HGb) (zA HAX))
  have HA4:=zB (Z9 (zA HGX) (zA HAX) v4.ownBlock (zA HAb))
  have HN4:=zB ((zA HNX).grown (zA HGb) (zA HneX _ (by omega) (by omega)))
  have t4:w4.cell? ⟨w.heap.size,0,none⟩ = some (.slice (some ⟨b,off,none⟩) ns.length cap):=(zE (zA HGb) (b:=w.heap.size) (block_lt_of_cell (zA HTX)) (zA HneX _ (by omega) (by omega)) 0).trans (zA HTX)
  have HW4:=zB (zB8 (zA HW) (zA HG4) hb hB (zA HUB))
  have z4:=(zA HG4).size
  obtain ⟨n0,n1,n2,n3,_,_⟩:=zA HN4
  simp only at n0 n1 n2 n3
  obtain ⟨a4,c4,rfl⟩:=ZJ hr4
  have HR4:=zB hr4
  clear hown4 hgrow4 hnil4 hat4 hr4 HGb HAb mk0 mk1 mk2 mk3 HMX HNX HTX HRX HneX HGX HAX
  go_wp2_with fail
  refine (zAp b off cap ns ⟨o.k,o.t,(ja:Int),(jb:Int)⟩ _ hm (zA HW4) (by omega) (zA HKN)).mono ?_
  rintro e w5 ⟨rfl,hb5⟩
  have hlv:Z2 ns ⟨o.k,o.t,(ja:Int),(jb:Int)⟩ = Z2 ns o:=rfl
  rw [hlv]
  have HG5:=zB (zP (zA HG4) (zO hb5 u.ownBlock) (Or.inl rfl))
  have HR5:=zB ((zA HR4).below hb5)
  have z5:w.heap.size <= w5.heap.size:=Nat.le_trans z4 hb5.size
  clear hlv hb5 HG4 HR4 HN4 HW4 t4 n0 n1 n2 n3 z4
  by_cases hl:Z2 ns o < least
  ·have HVS:=zB ((zA HV4).1 (by omega))
   clear HV4
   go_wp2_with (at_builtin; refine wpList_append_own_at _ rfl (.tmp 65) (.tmp 70) 95 rfl B 120 i0 _ 4 40 Tryz.underlying95 (zA HI) (zA HZ).1 (zA HZ).2.1 (zA HZ).2.2 rfl (by decide) _ us4.length (zM us4) rfl ((zA HR5).below (zC _ _)) ⟨w5.heap.size,0,none⟩ 1 1 (zM [⟨6,⟨#[]⟩,(us4.length:Int) - 1,0⟩]) rfl rfl (by simpa using ZD w5 ⟨6,⟨#[]⟩,(us4.length:Int) - 1,0⟩) (zR _) ?b4 ?b5 ?b6 ?next2)
   case b4=>unfold maxLen; omega
   case b5=>omega
   case b6=>first | omega | (simp; omega)
   case next2=>
    intro v6 w6 hown6 hgrow6 hnil6 hat6
    have HO6:=zB (show zr w6 B v6 vs by
     rw [zA HVS]
     unfold zr
     rw [zi,List.length_append]
     exact hown6)
    have HGc:=zB (zc (zC w5 _) hgrow6)
    have HG6:=zB (zP (zA HG5) (zA HGc) (zA HA4))
    have HA6:=zB (Z9 (zA HG5) (zA HA4) v6.ownBlock (hat6.imp id (fun h=>⟨_,h,by first | exact Nat.le_refl _ | simp⟩)))
    clear hown6 hgrow6 hnil6 hat6 HGc HG5 HR5
    go_wp2_with fail
    go_ret
    exact ⟨v6,rfl,HO6,HG6,HA6⟩
  ·have HVS:=zB ((zA HV4).2 (by omega))
   clear HV4
   go_wp2_with fail
   go_ret
   exact ⟨_,rfl,by rw [zA HVS]; exact HR5,HG5,HA4⟩
end Go.Proofs.YtgiemobdmbijiaaGreatDoor
