import Derived.Test.YtgbkgkdpdfdokaaGreatDoorQ15
namespace Go.Proofs.YtgbkgkdpdfdokaaGreatDoor
set_option linter.all false
set_option maxHeartbeats 16000000
set_option maxRecDepth 100000
open Go.RowKit
variable {w:World}
theorem zRO (b Q cap bz offz cz j ja jj:Nat) (ns:List OpR) (zs:List zD) (o:zD) (v:Int) (B:Nat) (u:Value) (us H vs:List zD) (w:JY) (hm:ns.length<=1048576) (hQ:Zg ns) (hw:Ops w b Q ns) (hb:b<B) (hn:zBC w bz offz zs) (Hf:bz<B) (hB:B<=w.heap.size) (P:ZD w B u us) (hj:j<zs.length) (He:zs.length<=20000) (ho:atN zs j=⟨o.k,o.t,(ja:Int),0⟩) (m:zA7 o) (hk:ze o.k=1) (hf:fnd ns o.t (o.k-2)=some jj) (Hc:H.length<=90000) {U:List zD} (hh:H=us++U) (hN:vs=us++zDK ns o v us.length (U++[⟨o.k,o.t,(H.length:Int)-1,0⟩]))
  (hc:∀ W,Ops W b Q ns->zBC W bz offz zs->B<=W.heap.size->ZD W B u us->Calls Tryz.prog 92 #[.agg #[.slice (some ⟨b,Q,none⟩) ns.length cap],.slice (some ⟨bz,offz,none⟩) zs.length cz,.int .i64 (ja:Int),.int .i64 (zBF (atO ns jj).s (atO ns jj).k (atO ns jj).l (atO ns jj).sd false),u] W (zAm W B u H)) :
  Calls Tryz.prog 92 #[.agg #[.slice (some ⟨b,Q,none⟩) ns.length cap],.slice (some ⟨bz,offz,none⟩) zs.length cz,.int .i64 (j:Int),.int .i64 v,u] w (zAm w B u vs):=by
 obtain ⟨J,C⟩:∃ J,Hid (J=us++(U++[⟨o.k,o.t,(H.length:Int)-1,0⟩])):=⟨_,zB rfl⟩
 have hv:=C
 have Hd:J.length<=90001:=by rw [zA C,<- yx,<- hh,ym]; simp; omega
 obtain ⟨i0,hK,hD,hF,hO⟩:=zN zC7
 have HI:=zB hK
 have HZ:=zB (yH hD (yH hF hO))
 clear hK hD hF hO
 have Hg:(j:Int)<(zs.length:Int):=by omega
 have h4:bz<w.heap.size:=by omega
 have h8:b<w.heap.size:=by omega
 obtain ⟨h0,h1,h2,h3⟩:=hn j hj
 rw [ho] at h0 h1 h2 h3
 simp only at h0 h1 h2 h3
 have HD:=zB (show true=decide (3<=o.k/\o.k<=5) by rw [eq_comm,decide_eq_true_iff]; exact m)
 have hY:=m.1
 have hU:=m.2
 have HF:=zB hf
 have hR:=(zBK hf).1
 have hX:=zB (hQ jj hR)
 have hV:=zB (show 3<=o.k->o.k<=5->fnd ns o.t (o.k-2)≠none from fun _ _=>by rw [hf]; simp)
 have M:=zB (zHK hN (zA hv))
 have hz:=zB P.base
 have Z:∀ x,w.heap.size<=x->u.ownBlock≠some x:=fun x hx e=>by have:=P.lt _ e; omega
 obtain ⟨a0,c0,rfl⟩:=ZQ P
 obtain ⟨u,hu⟩:∃ u,u=Value.slice a0 us.length c0:=⟨_,rfl⟩
 have E:=zB Z
 have HW:=zB hw
 have h9:=zB hn
 have D:=zB P
 have h6:=zB (show ∀ o1 o2 o3:Obj,Below w.heap.size w (((w.alloc o1).alloc o2).alloc o3) from fun o1 o2 o3=>((zC w o1).alloc (by simp) o2).alloc (by simp; omega) o3)
 have hE:=zB (show zAm w B (Value.slice a0 us.length c0) vs=zAm w B u vs by rw [hu])
 rw [zA hE]
 have h5:=zB hu
 rw [<- hu] at hz
 have HC:=zB hc
 have hZ:=zB hk
 replace hv:=zB (show J=H++[⟨o.k,o.t,(H.length:Int)-1,0⟩] by rw [zA C,<- yx,<- hh])
 clear hk hh C
 clear hw hn P ho hN Z hu hE hc m hf
 go_enter Tryz.func92,Tryz.ntmps92
 go_wp2_with fail
 refine (zAf ⟨o.k,o.t,(ja:Int),0⟩ _ true (zA HD)).mono ?_
 rintro e w1 ⟨rfl,hb1⟩
 have d:Below w.heap.size w w1:=((zA h6) _ _ _).trans (hb1.mono (by simp; omega))
 have t1:w1.cell? ⟨w.heap.size,0,none⟩=some (.slice (some ⟨b,Q,none⟩) ns.length cap):=(hb1.cell (p:=⟨w.heap.size,0,none⟩) (by simp; omega)).trans (by simp [go_sem])
 have hq:=zB (show ZB w1 (w.heap.size+1) ⟨o.k,o.t,(ja:Int),0⟩ from ZB.below ⟨by simp [go_sem],by simp [go_sem],by simp [go_sem],by simp [go_sem],by simp [go_sem],by simp [go_sem]⟩ hb1)
 have hJ:=zB (show ZB w1 (w.heap.size+1+1) ⟨o.k,o.t,0,0⟩ from ZB.below ⟨by simp [go_sem],by simp [go_sem],by simp [go_sem],by simp [go_sem],by simp [go_sem],by simp [go_sem]⟩ hb1)
 have z1:w.heap.size+3<=w1.heap.size:=by have:=hb1.size; simp at this; omega
 obtain ⟨n0,n1,n2,n3,_,_⟩:=zA hq
 simp only at n0 n1 n2 n3
 clear hb1 h6
 go_wp2_with fail
 refine (zC0 b Q cap ns ⟨o.k,o.t,(ja:Int),0⟩ jj _ hm ((zA HW).below d h8) (by omega) hY hU (zA HF)).mono ?_
 rintro e w2 ⟨rfl,hb2⟩
 have G:=d.trans (hb2.mono d.size)
 have z2:w.heap.size+3<=w2.heap.size:=yr z1 hb2.size
 have I:Below w2.heap.size w2 (w2.alloc (.cells #[.string (atO ns jj).s,.int .i64 (atO ns jj).k,.int .i64 (atO ns jj).l,.int .i64 (atO ns jj).sd] 57)).drew:=(zC _ _).drew
 have K:=zB (show (w2.alloc (.cells #[.string (atO ns jj).s,.int .i64 (atO ns jj).k,.int .i64 (atO ns jj).l,.int .i64 (atO ns jj).sd] 57)).drew.cell? ⟨w.heap.size,0,none⟩=some (.slice (some ⟨b,Q,none⟩) ns.length cap) from (I.cell (p:=⟨w.heap.size,0,none⟩) (show w.heap.size<w2.heap.size by omega)).trans ((hb2.cell (p:=⟨w.heap.size,0,none⟩) (show w.heap.size<w1.heap.size by omega)).trans t1))
 have q:=zB (((zA hq).below hb2).below I)
 have X:=zB (((zA hJ).below hb2).below I)
 have Y:=zB (show zCg (w2.alloc (.cells #[.string (atO ns jj).s,.int .i64 (atO ns jj).k,.int .i64 (atO ns jj).l,.int .i64 (atO ns jj).sd] 57)).drew w2.heap.size (atO ns jj) from zCg.below (w:=w2.alloc (.cells #[.string (atO ns jj).s,.int .i64 (atO ns jj).k,.int .i64 (atO ns jj).l,.int .i64 (atO ns jj).sd] 57)) ⟨by simp [go_sem],by simp [go_sem],by simp [go_sem],by simp [go_sem]⟩ (yG _ _).drew)
 have y:=zB (G.trans (I.mono G.size))
 replace D:=zB ((zA D).below (zA y))
 have hr:=zB (show w2.heap.size+1<=(w2.alloc (.cells #[.string (atO ns jj).s,.int .i64 (atO ns jj).k,.int .i64 (atO ns jj).l,.int .i64 (atO ns jj).sd] 57)).drew.heap.size by simp)
 clear hb2 I t1 hq hJ n0 n1 n2 n3 d G
 go_wp2_with fail
 go_region_held (fun w'=>w'.cell? ⟨w.heap.size,0,none⟩=some (.slice (some ⟨b,Q,none⟩) ns.length cap)/\w'.cell? ⟨w.heap.size+1,2,none⟩=some (.int .i64 (ja:Int))/\w'.cell? ⟨w2.heap.size,0,none⟩=some (.string (atO ns jj).s)/\w'.cell? ⟨w2.heap.size,1,none⟩=some (.int .i64 (atO ns jj).k)/\w'.cell? ⟨w2.heap.size,2,none⟩=some (.int .i64 (atO ns jj).l)/\w'.cell? ⟨w2.heap.size,3,none⟩=some (.int .i64 (atO ns jj).sd)) (first | (go_keep; done) | exact ⟨zA K,(zA q).2.2.1,(zA Y).1,(zA Y).2.1,(zA Y).2.2.1,(zA Y).2.2.2⟩)
  (first | (go_at_call 109; refine (zAk (atO ns jj).s (atO ns jj).k (atO ns jj).l (atO ns jj).sd false _ (zA hX)).mono ?_; rintro e w3 ⟨rfl,hb3⟩; have hM:=hb3; replace K:=zB ((hb3.cell (p:=⟨w.heap.size,0,none⟩) (block_lt_of_cell (zA K))).trans (zA K)); replace q:=zB ((zA q).below hb3); replace X:=zB ((zA X).below hb3); replace Y:=zB ((zA Y).below hb3); replace D:=zB ((zA D).below hb3); replace y:=zB ((zA y).trans (hM.mono (zA y).size)); replace hr:=zB (yr (zA hr) hb3.size); clear hb3 hM) | (go_at_call 92; refine ((zA HC) _ ((zA HW).below (zA y) h8) ((zA h9).below (zA y) h4) (yr hB (zA y).size) (zA D)).mono ?_; rintro x w5 ⟨u1,rfl,hr5,hg5,ho5⟩; replace K:=zB ((zE (zA hg5) (b:=w.heap.size) (block_lt_of_cell (zA K)) ((zA E) _ (by omega)) 0).trans (zA K)); replace q:=zB ((zA q).grown (zA hg5) ((zA E) _ (by omega))); replace X:=zB ((zA X).grown (zA hg5) ((zA E) _ (by omega))); replace Y:=zB ((zA Y).grown (zA hg5) ((zA E) _ (by omega))); have V:=zB (zh (zA y) (zA hg5)); have r:=zB ((zA ho5).imp id (fun ⟨k,h1,h2⟩=>⟨k,h1,yr (zA hr) h2⟩):u1.ownBlock=(Value.slice a0 us.length c0).ownBlock\/∃ k,u1.ownBlock=some k/\w2.heap.size+1<=k); obtain ⟨a1,c1,rfl⟩:=ZQ (zA hr5); have O:=hr5; clear hg5 ho5 hr5 D y))
 rw [<- zA h5] at V r
 have T:=zB (show ∀ x,w.heap.size<=x->x<w2.heap.size+1->(Value.slice a1 H.length c1).ownBlock≠some x from fun x hx Hb e=>by
  rcases zA r with h | ⟨k,h1,h2⟩
  ·exact (zA E) x hx (by rw [<- zA h5,<- h]; exact e)
  ·rw [h1] at e; injection e with e; omega)
 have c:=zB (show ∀ x,w.heap.size<=x->x<w.heap.size+3->(Value.slice a1 H.length c1).ownBlock≠some x from fun x hx Hb=>(zA T) x hx (by omega))
 have ht:=zB (show (Value.slice a1 H.length c1).ownBlock=u.ownBlock\/∃ k,(Value.slice a1 H.length c1).ownBlock=some k/\w.heap.size<=k from (zA r).imp id (fun ⟨k,h1,h2⟩=>⟨k,h1,by omega⟩))
 have mc:=zA X
 obtain ⟨mm0,mm1,mm2,mm3,mm4,mm5⟩:=mc
 simp only at mm0 mm1 mm2 mm3
 have nc:=zA q
 obtain ⟨nn0,nn1,nn2,nn3,_,_⟩:=nc
 simp only at nn0 nn1 nn2 nn3
 have n0':(w5.setCell ⟨w.heap.size+1+1,2,none⟩ (.int .i64 ((H.length:Int)-1))).cell? ⟨w.heap.size+1,0,none⟩=some (.int .i64 o.k):=(yg _ _ _ _ (fun x=>by injection x with x1; omega)).trans nn0
 replace X:=zB ((zA X).set2 ((H.length:Int)-1))
 replace q:=zB ((zA q).other (g:=w.heap.size+1+1) (j:=2) (.int .i64 ((H.length:Int)-1)) (by omega))
 replace K:=zB ((yg w5 ⟨w.heap.size+1+1,2,none⟩ ⟨w.heap.size,0,none⟩ (.int .i64 ((H.length:Int)-1)) (fun x=>by injection x with x1; omega)).trans (zA K))
 replace O:=zB ((zA O).other (g:=w.heap.size+1+1) (j:=2) (.int .i64 ((H.length:Int)-1)) ((zA c) _ (by omega) (by omega)))
 replace V:=zB (zQ (zA V) (⟨rfl,rfl,rfl,by simp [World.setCell],fun i _ hi=>yZ _ _ _ _ (fun e=>hi (by rw [e]))⟩:w5.grownBy (w5.setCell ⟨w.heap.size+1+1,2,none⟩ (.int .i64 ((H.length:Int)-1))) (some (w.heap.size+1+1))) (yR ⟨_,rfl,by omega⟩))
 have hH:=X
 have hA:=q
 have hs:=K
 clear X q K Y r T nn0 nn1 nn2 nn3 mm0 mm1 mm3 mm5 HC E h9
 obtain ⟨mk0,mk1,mk2,mk3,_,_⟩:=zA hH
 simp only at mk0 mk1 mk2 mk3
 go_wp2_with (first | (go_at_call 94; refine (zP (zA hZ) 1 rfl _).mono ?_; rintro e w' ⟨rfl,rfl⟩) | (at_builtin; refine yJ _ rfl (.tmp 56) (.tmp 58) 123 rfl B 144 i0 _ 4 40 Tryz.underlying123 (zA HI) (zA HZ).1 (zA HZ).2.1 (zA HZ).2.2 rfl (by decide) _ H.length (zL H) rfl ((zA O).below (zC _ _)) ⟨w5.heap.size,0,none⟩ 1 1 (zL [⟨o.k,o.t,(H.length:Int)-1,0⟩]) rfl rfl (by simpa using Zl (w5.setCell ⟨w.heap.size+1+1,2,none⟩ (.int .i64 ((H.length:Int)-1))) w5.heap.size ⟨o.k,o.t,(H.length:Int)-1,0⟩ (by simp [World.setCell])) (zS _) ?b1 ?b2 ?b3 ?next))
 case b1=>unfold maxLen; omega
 case b2=>omega
 case b3=>first | omega | (have:=(zA V).size; simp at this ⊢; omega)
 case next=>
  intro v4 w4 f A hd S
  have N:ZD w4 B v4 (H++[⟨o.k,o.t,(H.length:Int)-1,0⟩]):=by
   unfold ZD
   rw [zm,ym]
   exact f
  rw [<- zA hv] at N
  have n:=zB (zh (zC (w5.setCell ⟨w.heap.size+1+1,2,none⟩ (.int .i64 ((H.length:Int)-1))) _) A)
  have hG:=zB (show v4.ownBlock=(Value.slice a1 H.length c1).ownBlock\/∃ k,v4.ownBlock=some k/\(w5.setCell ⟨w.heap.size+1+1,2,none⟩ (.int .i64 ((H.length:Int)-1))).heap.size<=k from S.imp id (fun h=>⟨_,h,by first | exact yh _ | simp⟩))
  have R:=zB (zQ (zA V) (zA n) (zA ht))
  have ha:=zB (zAU (zA V) (zA ht) v4.ownBlock (zA hG))
  have hy:=zB ((zA hA).grown (zA n) (zA c _ (by omega) (by omega)))
  have t4:w4.cell? ⟨w.heap.size,0,none⟩=some (.slice (some ⟨b,Q,none⟩) ns.length cap):=(zE (zA n) (b:=w.heap.size) (block_lt_of_cell (zA hs)) (zA c _ (by omega) (by omega)) 0).trans (zA hs)
  have hP:=zB (zCh (zA HW) (zA R) hb hB (zA hz))
  have z4:=(zA R).size
  obtain ⟨n0,n1,n2,n3,_,_⟩:=zA hy
  simp only at n0 n1 n2 n3
  obtain ⟨a4,c4,rfl⟩:=ZQ N
  have hC:=zB N
  clear f A hd S N n hG mk0 mk1 mk2 mk3 hH hA hs O c V ht
  go_wp2_with fail
  refine (zA8 b Q cap ns ⟨o.k,o.t,(ja:Int),0⟩ _ hm (zA hP) (by omega) (zA hV)).mono ?_
  rintro e w5 ⟨rfl,hb5⟩
  have hI:zAN ns ⟨o.k,o.t,(ja:Int),0⟩=zAN ns o:=rfl
  rw [hI]
  have L:=zB (zQ (zA R) (zH hb5 u.ownBlock) (yQ rfl))
  have he:=zB ((zA hC).below hb5)
  have z5:w.heap.size<=w5.heap.size:=yr z4 hb5.size
  clear hI hb5 R hC hy hP t4 n0 n1 n2 n3 z4
  by_cases hl:zAN ns o<v
  ·have hg:=zB ((zA M).1 (by omega))
   clear M
   go_wp2_with (at_builtin; refine yJ _ rfl (.tmp 65) (.tmp 70) 123 rfl B 144 i0 _ 4 40 Tryz.underlying123 (zA HI) (zA HZ).1 (zA HZ).2.1 (zA HZ).2.2 rfl (by decide) _ J.length (zL J) rfl ((zA he).below (zC _ _)) ⟨w5.heap.size,0,none⟩ 1 1 (zL [⟨6,⟨#[]⟩,(J.length:Int)-1,0⟩]) rfl rfl (by simpa using ZN w5 ⟨6,⟨#[]⟩,(J.length:Int)-1,0⟩) (zS _) ?b4 ?b5 ?b6 ?next2)
   case b4=>unfold maxLen; omega
   case b5=>omega
   case b6=>first | omega | (simp; omega)
   case next2=>
    intro v6 w6 F a hp z
    have Ha:=zB (show ZD w6 B v6 vs by
     rw [zA hg]
     unfold ZD
     rw [zm,ym]
     exact F)
    have h7:=zB (zh (zC w5 _) a)
    have hS:=zB (zQ (zA L) (zA h7) (zA ha))
    have hW:=zB (zAU (zA L) (zA ha) v6.ownBlock (z.imp id (fun h=>⟨_,h,by first | exact yh _ | simp⟩)))
    clear F a hp z h7 L he
    go_wp2_with fail
    go_ret
    exact ⟨v6,rfl,Ha,hS,hW⟩
  ·have hg:=zB ((zA M).2 (by omega))
   clear M
   go_wp2_with fail
   go_ret
   exact ⟨_,rfl,by rw [zA hg]; exact he,L,ha⟩
theorem zRP (b J cap bz offz cz j ja jb jj:Nat) (ns:List OpR) (zs:List zD) (o:zD) (d:Int) (B:Nat) (u:Value) (us H K vs:List zD) (w:JY) (hm:ns.length<=1048576) (Hd:Zg ns) (hw:Ops w b J ns) (hb:b<B) (h5:zBC w bz offz zs) (Hk:bz<B) (hB:B<=w.heap.size) (c:ZD w B u us) (hj:j<zs.length) (Ho:zs.length<=20000) (ho:atN zs j=⟨o.k,o.t,(ja:Int),(jb:Int)⟩) (T:zA7 o) (hk:ze o.k=2) (hf:fnd ns o.t (o.k-2)=some jj) (hM:K.length<=90000) {U U2:List zD} (hS:H=us++U) (h4:K=H++U2) (Ha:vs=us++zDK ns o d us.length ((U++U2)++[⟨o.k,o.t,(H.length:Int)-1,(K.length:Int)-1⟩]))
  (hc:∀ W,Ops W b J ns->zBC W bz offz zs->B<=W.heap.size->ZD W B u us->Calls Tryz.prog 92 #[.agg #[.slice (some ⟨b,J,none⟩) ns.length cap],.slice (some ⟨bz,offz,none⟩) zs.length cz,.int .i64 (ja:Int),.int .i64 (zBF (atO ns jj).s (atO ns jj).k (atO ns jj).l (atO ns jj).sd false),u] W (zAm W B u H))
  (hE:∀ u' W,Ops W b J ns->zBC W bz offz zs->B<=W.heap.size->ZD W B u' H->Calls Tryz.prog 92 #[.agg #[.slice (some ⟨b,J,none⟩) ns.length cap],.slice (some ⟨bz,offz,none⟩) zs.length cz,.int .i64 (jb:Int),.int .i64 (zBF (atO ns jj).s (atO ns jj).k (atO ns jj).l (atO ns jj).sd true),u'] W (zAm W B u' K)) :
  Calls Tryz.prog 92 #[.agg #[.slice (some ⟨b,J,none⟩) ns.length cap],.slice (some ⟨bz,offz,none⟩) zs.length cz,.int .i64 (j:Int),.int .i64 d,u] w (zAm w B u vs):=by
 obtain ⟨A,r⟩:∃ A,Hid (A=us++((U++U2)++[⟨o.k,o.t,(H.length:Int)-1,(K.length:Int)-1⟩])):=⟨_,zB rfl⟩
 have hC:=r
 have N:A=K++[⟨o.k,o.t,(H.length:Int)-1,(K.length:Int)-1⟩]:=by
  rw [zA r,<- yx,<- yx,<- hS,<- h4]
 have Hn:A.length<=90001:=by rw [N,ym]; simp; omega
 have Hp:H.length<=90000:=by rw [h4,ym] at hM; omega
 obtain ⟨i0,hZ,hO,hR,Hb⟩:=zN zC7
 have HI:=zB hZ
 have HZ:=zB (yH hO (yH hR Hb))
 clear hZ hO hR Hb
 have Hq:(j:Int)<(zs.length:Int):=by omega
 have hF:bz<w.heap.size:=by omega
 have hJ:b<w.heap.size:=by omega
 obtain ⟨h0,h1,h2,h3⟩:=h5 j hj
 rw [ho] at h0 h1 h2 h3
 simp only at h0 h1 h2 h3
 have HD:=zB (show true=decide (3<=o.k/\o.k<=5) by rw [eq_comm,decide_eq_true_iff]; exact T)
 have Hj:=T.1
 have Hh:=T.2
 have HF:=zB hf
 have He:=(zBK hf).1
 have hP:=zB (Hd jj He)
 have Hg:=zB (show 3<=o.k->o.k<=5->fnd ns o.t (o.k-2)≠none from fun _ _=>by rw [hf]; simp)
 have z:=zB (zHK Ha (zA hC))
 have R:=zB c.base
 have hq:∀ x,w.heap.size<=x->u.ownBlock≠some x:=fun x hx e=>by have:=c.lt _ e; omega
 obtain ⟨a0,c0,rfl⟩:=ZQ c
 obtain ⟨u,hu⟩:∃ u,u=Value.slice a0 us.length c0:=⟨_,rfl⟩
 have G:=zB hq
 have HW:=zB hw
 have hz:=zB h5
 have F:=zB c
 have hH:=zB (show ∀ o1 o2 o3:Obj,Below w.heap.size w (((w.alloc o1).alloc o2).alloc o3) from fun o1 o2 o3=>((zC w o1).alloc (by simp) o2).alloc (by simp; omega) o3)
 have hQ:=zB (show zAm w B (Value.slice a0 us.length c0) vs=zAm w B u vs by rw [hu])
 rw [zA hQ]
 have hG:=zB hu
 rw [<- hu] at R
 have HC:=zB hc
 have Hl:=zB hk
 have hV:=zB hE
 replace hC:=zB N
 clear hk hS h4 r N hE
 clear hw h5 c ho Ha hq hu hQ hc T hf
 go_enter Tryz.func92,Tryz.ntmps92
 go_wp2_with fail
 refine (zAf ⟨o.k,o.t,(ja:Int),(jb:Int)⟩ _ true (zA HD)).mono ?_
 rintro e w1 ⟨rfl,hb1⟩
 have f:Below w.heap.size w w1:=((zA hH) _ _ _).trans (hb1.mono (by simp; omega))
 have t1:w1.cell? ⟨w.heap.size,0,none⟩=some (.slice (some ⟨b,J,none⟩) ns.length cap):=(hb1.cell (p:=⟨w.heap.size,0,none⟩) (by simp; omega)).trans (by simp [go_sem])
 have h7:=zB (show ZB w1 (w.heap.size+1) ⟨o.k,o.t,(ja:Int),(jb:Int)⟩ from ZB.below ⟨by simp [go_sem],by simp [go_sem],by simp [go_sem],by simp [go_sem],by simp [go_sem],by simp [go_sem]⟩ hb1)
 have hY:=zB (show ZB w1 (w.heap.size+1+1) ⟨o.k,o.t,0,0⟩ from ZB.below ⟨by simp [go_sem],by simp [go_sem],by simp [go_sem],by simp [go_sem],by simp [go_sem],by simp [go_sem]⟩ hb1)
 have z1:w.heap.size+3<=w1.heap.size:=by have:=hb1.size; simp at this; omega
 obtain ⟨n0,n1,n2,n3,_,_⟩:=zA h7
 simp only at n0 n1 n2 n3
 clear hb1 hH
 go_wp2_with fail
 refine (zC0 b J cap ns ⟨o.k,o.t,(ja:Int),(jb:Int)⟩ jj _ hm ((zA HW).below f hJ) (by omega) Hj Hh (zA HF)).mono ?_
 rintro e w2 ⟨rfl,hb2⟩
 have n:=f.trans (hb2.mono f.size)
 have z2:w.heap.size+3<=w2.heap.size:=yr z1 hb2.size
 have O:Below w2.heap.size w2 (w2.alloc (.cells #[.string (atO ns jj).s,.int .i64 (atO ns jj).k,.int .i64 (atO ns jj).l,.int .i64 (atO ns jj).sd] 57)).drew:=(zC _ _).drew
 have q:=zB (show (w2.alloc (.cells #[.string (atO ns jj).s,.int .i64 (atO ns jj).k,.int .i64 (atO ns jj).l,.int .i64 (atO ns jj).sd] 57)).drew.cell? ⟨w.heap.size,0,none⟩=some (.slice (some ⟨b,J,none⟩) ns.length cap) from (O.cell (p:=⟨w.heap.size,0,none⟩) (show w.heap.size<w2.heap.size by omega)).trans ((hb2.cell (p:=⟨w.heap.size,0,none⟩) (show w.heap.size<w1.heap.size by omega)).trans t1))
 have X:=zB (((zA h7).below hb2).below O)
 have y:=zB (((zA hY).below hb2).below O)
 have Q:=zB (show zCg (w2.alloc (.cells #[.string (atO ns jj).s,.int .i64 (atO ns jj).k,.int .i64 (atO ns jj).l,.int .i64 (atO ns jj).sd] 57)).drew w2.heap.size (atO ns jj) from zCg.below (w:=w2.alloc (.cells #[.string (atO ns jj).s,.int .i64 (atO ns jj).k,.int .i64 (atO ns jj).l,.int .i64 (atO ns jj).sd] 57)) ⟨by simp [go_sem],by simp [go_sem],by simp [go_sem],by simp [go_sem]⟩ (yG _ _).drew)
 have a:=zB (n.trans (O.mono n.size))
 replace F:=zB ((zA F).below (zA a))
 have h8:=zB (show w2.heap.size+1<=(w2.alloc (.cells #[.string (atO ns jj).s,.int .i64 (atO ns jj).k,.int .i64 (atO ns jj).l,.int .i64 (atO ns jj).sd] 57)).drew.heap.size by simp)
 clear hb2 O t1 h7 hY n0 n1 n2 n3 f n
 go_wp2_with fail
 go_region_held (fun w'=>w'.cell? ⟨w.heap.size,0,none⟩=some (.slice (some ⟨b,J,none⟩) ns.length cap)/\w'.cell? ⟨w.heap.size+1,2,none⟩=some (.int .i64 (ja:Int))/\w'.cell? ⟨w2.heap.size,0,none⟩=some (.string (atO ns jj).s)/\w'.cell? ⟨w2.heap.size,1,none⟩=some (.int .i64 (atO ns jj).k)/\w'.cell? ⟨w2.heap.size,2,none⟩=some (.int .i64 (atO ns jj).l)/\w'.cell? ⟨w2.heap.size,3,none⟩=some (.int .i64 (atO ns jj).sd)) (first | (go_keep; done) | exact ⟨zA q,(zA X).2.2.1,(zA Q).1,(zA Q).2.1,(zA Q).2.2.1,(zA Q).2.2.2⟩)
  (first | (go_at_call 109; refine (zAk (atO ns jj).s (atO ns jj).k (atO ns jj).l (atO ns jj).sd false _ (zA hP)).mono ?_; rintro e w3 ⟨rfl,hb3⟩; have hd:=hb3; replace q:=zB ((hb3.cell (p:=⟨w.heap.size,0,none⟩) (block_lt_of_cell (zA q))).trans (zA q)); replace X:=zB ((zA X).below hb3); replace y:=zB ((zA y).below hb3); replace Q:=zB ((zA Q).below hb3); replace F:=zB ((zA F).below hb3); replace a:=zB ((zA a).trans (hd.mono (zA a).size)); replace h8:=zB (yr (zA h8) hb3.size); clear hb3 hd) | (go_at_call 92; refine ((zA HC) _ ((zA HW).below (zA a) hJ) ((zA hz).below (zA a) hF) (yr hB (zA a).size) (zA F)).mono ?_; rintro x w5 ⟨u1,rfl,hr5,hg5,ho5⟩; replace q:=zB ((zE (zA hg5) (b:=w.heap.size) (block_lt_of_cell (zA q)) ((zA G) _ (by omega)) 0).trans (zA q)); replace X:=zB ((zA X).grown (zA hg5) ((zA G) _ (by omega))); replace y:=zB ((zA y).grown (zA hg5) ((zA G) _ (by omega))); replace Q:=zB ((zA Q).grown (zA hg5) ((zA G) _ (by omega))); have Y:=zB (zh (zA a) (zA hg5)); have he:=zB ((zA ho5).imp id (fun ⟨k,h1,h2⟩=>⟨k,h1,yr (zA h8) h2⟩):u1.ownBlock=(Value.slice a0 us.length c0).ownBlock\/∃ k,u1.ownBlock=some k/\w2.heap.size+1<=k); obtain ⟨a1,c1,rfl⟩:=ZQ (zA hr5); have v:=hr5; clear hg5 ho5 hr5 F a))
 rw [<- zA hG] at Y he
 have V:=zB (show ∀ x,w.heap.size<=x->x<w2.heap.size+1->(Value.slice a1 H.length c1).ownBlock≠some x from fun x hx hA e=>by
  rcases zA he with h | ⟨k,h1,h2⟩
  ·exact (zA G) x hx (by rw [<- zA hG,<- h]; exact e)
  ·rw [h1] at e; injection e with e; omega)
 have P:=zB (show ∀ x,w.heap.size<=x->x<w.heap.size+3->(Value.slice a1 H.length c1).ownBlock≠some x from fun x hx hA=>(zA V) x hx (by omega))
 have C:=zB (show (Value.slice a1 H.length c1).ownBlock=u.ownBlock\/∃ k,(Value.slice a1 H.length c1).ownBlock=some k/\w.heap.size<=k from (zA he).imp id (fun ⟨k,h1,h2⟩=>⟨k,h1,by omega⟩))
 have mc:=zA y
 obtain ⟨mm0,mm1,mm2,mm3,mm4,mm5⟩:=mc
 simp only at mm0 mm1 mm2 mm3
 have nc:=zA X
 obtain ⟨nn0,nn1,nn2,nn3,_,_⟩:=nc
 simp only at nn0 nn1 nn2 nn3
 have n0':(w5.setCell ⟨w.heap.size+1+1,2,none⟩ (.int .i64 ((H.length:Int)-1))).cell? ⟨w.heap.size+1,0,none⟩=some (.int .i64 o.k):=(yg _ _ _ _ (fun x=>by injection x with x1; omega)).trans nn0
 replace y:=zB ((zA y).set2 ((H.length:Int)-1))
 replace X:=zB ((zA X).other (g:=w.heap.size+1+1) (j:=2) (.int .i64 ((H.length:Int)-1)) (by omega))
 replace q:=zB ((yg w5 ⟨w.heap.size+1+1,2,none⟩ ⟨w.heap.size,0,none⟩ (.int .i64 ((H.length:Int)-1)) (fun x=>by injection x with x1; omega)).trans (zA q))
 replace v:=zB ((zA v).other (g:=w.heap.size+1+1) (j:=2) (.int .i64 ((H.length:Int)-1)) ((zA P) _ (by omega) (by omega)))
 replace Y:=zB (zQ (zA Y) (⟨rfl,rfl,rfl,by simp [World.setCell],fun i _ hi=>yZ _ _ _ _ (fun e=>hi (by rw [e]))⟩:w5.grownBy (w5.setCell ⟨w.heap.size+1+1,2,none⟩ (.int .i64 ((H.length:Int)-1))) (some (w.heap.size+1+1))) (yR ⟨_,rfl,by omega⟩))
 replace Q:=zB ((zA Q).other (g:=w.heap.size+1+1) (j:=2) (.int .i64 ((H.length:Int)-1)) (by omega))
 have I:=zB (show w2.heap.size+1<=w5.heap.size from yi (by have:=block_lt_of_cell (zA Q).1; simpa [World.setCell] using this) (yh _))
 clear nn0 nn1 nn2 nn3 mm0 mm1 mm3 mm5 HC n0'
 replace q:=zB ((show Below (w5.setCell ⟨w.heap.size+1+1,2,none⟩ (.int .i64 ((H.length:Int)-1))).heap.size (w5.setCell ⟨w.heap.size+1+1,2,none⟩ (.int .i64 ((H.length:Int)-1))) (w5.setCell ⟨w.heap.size+1+1,2,none⟩ (.int .i64 ((H.length:Int)-1))).drew from (yG _ _).drew).cell (p:=⟨w.heap.size,0,none⟩) (block_lt_of_cell (zA q)) |>.trans (zA q))
 replace X:=zB ((zA X).below (yG _ _).drew)
 replace y:=zB ((zA y).below (yG _ _).drew)
 replace Q:=zB ((zA Q).below (yG _ _).drew)
 replace v:=zB ((zA v).below (yG _ _).drew)
 replace Y:=zB (zQ (zA Y) (zH ((yG _ _).drew) u.ownBlock) (yQ rfl))
 replace I:=zB (show w2.heap.size+1<=(w5.setCell ⟨w.heap.size+1+1,2,none⟩ (.int .i64 ((H.length:Int)-1))).drew.heap.size by have:=zA I; simpa [World.setCell] using this)
 have n0':(w5.setCell ⟨w.heap.size+1+1,2,none⟩ (.int .i64 ((H.length:Int)-1))).cell? ⟨w.heap.size+1,0,none⟩=some (.int .i64 o.k):=(zA X).1
 go_wp2_with (go_at_call 94; refine (zP (zA Hl) 2 rfl _).mono ?_; rintro e w' ⟨rfl,rfl⟩)
 clear n0' mm2 mm4
 go_region_held (fun w'=>w'.cell? ⟨w.heap.size,0,none⟩=some (.slice (some ⟨b,J,none⟩) ns.length cap)/\w'.cell? ⟨w.heap.size+1,3,none⟩=some (.int .i64 (jb:Int))/\w'.cell? ⟨w2.heap.size,0,none⟩=some (.string (atO ns jj).s)/\w'.cell? ⟨w2.heap.size,1,none⟩=some (.int .i64 (atO ns jj).k)/\w'.cell? ⟨w2.heap.size,2,none⟩=some (.int .i64 (atO ns jj).l)/\w'.cell? ⟨w2.heap.size,3,none⟩=some (.int .i64 (atO ns jj).sd)) (first | (go_keep; done) | exact ⟨zA q,(zA X).2.2.2.1,(zA Q).1,(zA Q).2.1,(zA Q).2.2.1,(zA Q).2.2.2⟩)
  (first | (go_at_call 109; refine (zAk (atO ns jj).s (atO ns jj).k (atO ns jj).l (atO ns jj).sd true _ (zA hP)).mono ?_; rintro e w6 ⟨rfl,hb3⟩; have hd:=hb3; replace q:=zB ((hb3.cell (p:=⟨w.heap.size,0,none⟩) (block_lt_of_cell (zA q))).trans (zA q)); replace X:=zB ((zA X).below hb3); replace y:=zB ((zA y).below hb3); replace Q:=zB ((zA Q).below hb3); replace v:=zB ((zA v).below hb3); replace Y:=zB (zQ (zA Y) (zH hb3 u.ownBlock) (yQ rfl)); replace I:=zB (yr (zA I) hb3.size); clear hb3 hd) | (go_at_call 92; refine ((zA hV) _ _ (zCh (zA HW) (zA Y) hb hB (zA R)) (zLS (zA hz) (zA Y) Hk hB (zA R)) (yr hB (zA Y).size) (zA v)).mono ?_; rintro x w7 ⟨u2,rfl,hr7,hg7,ho7⟩; replace q:=zB ((zE (zA hg7) (b:=w.heap.size) (block_lt_of_cell (zA q)) ((zA V) _ (by omega) (by omega)) 0).trans (zA q)); replace X:=zB ((zA X).grown (zA hg7) ((zA V) _ (by omega) (by omega))); replace y:=zB ((zA y).grown (zA hg7) ((zA V) _ (by omega) (by omega))); replace Q:=zB ((zA Q).grown (zA hg7) ((zA V) _ (by omega) (by omega))); replace Y:=zB (zQ (zA Y) (zA hg7) (zA C)); have hs:=zB ((zA ho7).imp id (fun ⟨k,h1,h2⟩=>⟨k,h1,yr (zA I) h2⟩):u2.ownBlock=(Value.slice a1 H.length c1).ownBlock\/∃ k,u2.ownBlock=some k/\w2.heap.size+1<=k); obtain ⟨a2,c2,rfl⟩:=ZQ (zA hr7); replace v:=hr7; clear hg7 ho7 hr7))
 have L:=zB (show ∀ x,w.heap.size<=x->x<w.heap.size+3->(Value.slice a2 K.length c2).ownBlock≠some x from fun x hx hA e=>by
  rcases zA hs with h | ⟨k,h1,h2⟩
  ·exact (zA P) x hx hA (by rw [<- h]; exact e)
  ·rw [h1] at e; injection e with e; omega)
 have hh:=zB (show (Value.slice a2 K.length c2).ownBlock=u.ownBlock\/∃ k,(Value.slice a2 K.length c2).ownBlock=some k/\w.heap.size<=k by
  rcases zA hs with h | ⟨k,h1,h2⟩
  ·rw [h]; exact zA C
  ·exact yR ⟨k,h1,by omega⟩)
 clear P C V he hs
 have P:=L
 have C:=hh
 clear L hh
 obtain ⟨mm0,mm1,mm2,mm3,mm4,mm5⟩:=zA y
 simp only at mm0 mm1 mm2 mm3
 replace y:=zB ((zA y).set3 ((K.length:Int)-1))
 replace X:=zB ((zA X).other (g:=w.heap.size+1+1) (j:=3) (.int .i64 ((K.length:Int)-1)) (by omega))
 replace q:=zB ((yg w7 ⟨w.heap.size+1+1,3,none⟩ ⟨w.heap.size,0,none⟩ (.int .i64 ((K.length:Int)-1)) (fun x=>by injection x with x1; omega)).trans (zA q))
 replace v:=zB ((zA v).other (g:=w.heap.size+1+1) (j:=3) (.int .i64 ((K.length:Int)-1)) ((zA P) _ (by omega) (by omega)))
 replace Y:=zB (zQ (zA Y) (⟨rfl,rfl,rfl,by simp [World.setCell],fun i _ hi=>yZ _ _ _ _ (fun e=>hi (by rw [e]))⟩:w7.grownBy (w7.setCell ⟨w.heap.size+1+1,3,none⟩ (.int .i64 ((K.length:Int)-1))) (some (w.heap.size+1+1))) (yR ⟨_,rfl,by omega⟩))
 have hW:=y
 have hK:=X
 have h9:=q
 clear y X q Q I mm0 mm1 mm2 mm4 hV G hz
 obtain ⟨mk0,mk1,mk2,mk3,_,_⟩:=zA hW
 simp only at mk0 mk1 mk2 mk3
 go_wp2_with (at_builtin; refine yJ _ rfl (.tmp 56) (.tmp 58) 123 rfl B 144 i0 _ 4 40 Tryz.underlying123 (zA HI) (zA HZ).1 (zA HZ).2.1 (zA HZ).2.2 rfl (by decide) _ K.length (zL K) rfl ((zA v).below (zC _ _)) ⟨w7.heap.size,0,none⟩ 1 1 (zL [⟨o.k,o.t,(H.length:Int)-1,(K.length:Int)-1⟩]) rfl rfl (by simpa using Zl (w7.setCell ⟨w.heap.size+1+1,3,none⟩ (.int .i64 ((K.length:Int)-1))) w7.heap.size ⟨o.k,o.t,(H.length:Int)-1,(K.length:Int)-1⟩ (by simp [World.setCell])) (zS _) ?b1 ?b2 ?b3 ?next)
 case b1=>unfold maxLen; omega
 case b2=>omega
 case b3=>first | omega | (have:=(zA Y).size; simp at this ⊢; omega)
 case next=>
  intro v4 w4 m E ht hn
  have ha:ZD w4 B v4 (K++[⟨o.k,o.t,(H.length:Int)-1,(K.length:Int)-1⟩]):=by
   unfold ZD
   rw [zm,ym]
   exact m
  rw [<- zA hC] at ha
  have Z:=zB (zh (zC (w7.setCell ⟨w.heap.size+1+1,3,none⟩ (.int .i64 ((K.length:Int)-1))) _) E)
  have hU:=zB (show v4.ownBlock=(Value.slice a2 K.length c2).ownBlock\/∃ k,v4.ownBlock=some k/\(w7.setCell ⟨w.heap.size+1+1,3,none⟩ (.int .i64 ((K.length:Int)-1))).heap.size<=k from hn.imp id (fun h=>⟨_,h,by first | exact yh _ | simp⟩))
  have hg:=zB (zQ (zA Y) (zA Z) (zA C))
  have hr:=zB (zAU (zA Y) (zA C) v4.ownBlock (zA hU))
  have hD:=zB ((zA hK).grown (zA Z) (zA P _ (by omega) (by omega)))
  have t4:w4.cell? ⟨w.heap.size,0,none⟩=some (.slice (some ⟨b,J,none⟩) ns.length cap):=(zE (zA Z) (b:=w.heap.size) (block_lt_of_cell (zA h9)) (zA P _ (by omega) (by omega)) 0).trans (zA h9)
  have Hc:=zB (zCh (zA HW) (zA hg) hb hB (zA R))
  have z4:=(zA hg).size
  obtain ⟨n0,n1,n2,n3,_,_⟩:=zA hD
  simp only at n0 n1 n2 n3
  obtain ⟨a4,c4,rfl⟩:=ZQ ha
  have hN:=zB ha
  clear m E ht hn ha Z hU mk0 mk1 mk2 mk3 hW hK h9 v P Y C
  go_wp2_with fail
  refine (zA8 b J cap ns ⟨o.k,o.t,(ja:Int),(jb:Int)⟩ _ hm (zA Hc) (by omega) (zA Hg)).mono ?_
  rintro e w5 ⟨rfl,hb5⟩
  have hX:zAN ns ⟨o.k,o.t,(ja:Int),(jb:Int)⟩=zAN ns o:=rfl
  rw [hX]
  have S:=zB (zQ (zA hg) (zH hb5 u.ownBlock) (yQ rfl))
  have hv:=zB ((zA hN).below hb5)
  have z5:w.heap.size<=w5.heap.size:=yr z4 hb5.size
  clear hX hb5 hg hN hD Hc t4 n0 n1 n2 n3 z4
  by_cases hl:zAN ns o<d
  ·have hy:=zB ((zA z).1 (by omega))
   clear z
   go_wp2_with (at_builtin; refine yJ _ rfl (.tmp 65) (.tmp 70) 123 rfl B 144 i0 _ 4 40 Tryz.underlying123 (zA HI) (zA HZ).1 (zA HZ).2.1 (zA HZ).2.2 rfl (by decide) _ A.length (zL A) rfl ((zA hv).below (zC _ _)) ⟨w5.heap.size,0,none⟩ 1 1 (zL [⟨6,⟨#[]⟩,(A.length:Int)-1,0⟩]) rfl rfl (by simpa using ZN w5 ⟨6,⟨#[]⟩,(A.length:Int)-1,0⟩) (zS _) ?b4 ?b5 ?b6 ?next2)
   case b4=>unfold maxLen; omega
   case b5=>omega
   case b6=>first | omega | (simp; omega)
   case next2=>
    intro v6 w6 M D h6 hp
    have Hm:=zB (show ZD w6 B v6 vs by
     rw [zA hy]
     unfold ZD
     rw [zm,ym]
     exact M)
    have hI:=zB (zh (zC w5 _) D)
    have Hf:=zB (zQ (zA S) (zA hI) (zA hr))
    have Hi:=zB (zAU (zA S) (zA hr) v6.ownBlock (hp.imp id (fun h=>⟨_,h,by first | exact yh _ | simp⟩)))
    clear M D h6 hp hI S hv
    go_wp2_with fail
    go_ret
    exact ⟨v6,rfl,Hm,Hf,Hi⟩
  ·have hy:=zB ((zA z).2 (by omega))
   clear z
   go_wp2_with fail
   go_ret
   exact ⟨_,rfl,by rw [zA hy]; exact hv,S,hr⟩
theorem zGL {xs:List zD} (h:zA6 xs) {i:Nat} (hi:1<=i):1<=cnt xs i:=by
 have:=zJj xs 1 i hi
 rw [zMl h] at this
 exact this
theorem zAs (b Q cap bz offz cz:Nat) (ns:List OpR) (xs zs:List zD) (hm:ns.length<=1048576) (P:Zg ns) (K:zA6 xs) (d:zJq ns xs) (y:zs=er xs xs.length):∀ n i f,i<n->i<xs.length->frS xs i=some f->∀ (j:Nat) (H:Int) (B:Nat) (u:Value) (us vs:List zD) (w:JY),j+1=cnt xs (i+1)->Ops w b Q ns->b<B->zBC w bz offz zs->bz<B->B<=w.heap.size->ZD w B u us->us.length+2*(i+1-f)<=80000->vs=us++gS ns xs i H us.length ->
  Calls Tryz.prog 92 #[.agg #[.slice (some ⟨b,Q,none⟩) ns.length cap],.slice (some ⟨bz,offz,none⟩) zs.length cz,.int .i64 (j:Int),.int .i64 H,u] w (zAm w B u vs)
 | 0,_,_,h,_,_=>yP h (yt _)
 | n+1,i,f,h,hi,hf=>by
  intro j H B u us vs w hj hw hb F Y hB p z D
  have M:zs.length<=20000:=by
   rw [y,zBj]
   have:=zEB xs xs.length
   have:=K.2.1
   omega
  have N:zA7 (atN xs i)->∃ j,fnd ns (atN xs i).t ((atN xs i).k-2)=some j:=fun ho=>by
   cases e:fnd ns (atN xs i).t ((atN xs i).k-2) with
   | none=>exact yP e (d i hi ho)
   | some j=>exact ⟨j,rfl⟩
  rcases zB4 hf with ⟨hk,ha,I,hc⟩ | ⟨hk,v,ha,I,q⟩ | ⟨hk,v,I,f2,E,o,ha,q⟩
  ·have h6:(atN xs i).k≠6:=fun e=>by rw [e] at hk; simp [ze] at hk
   obtain ⟨X,x⟩:=zOR (m:=xs.length) hi h6
   rw [zFU h6] at hj
   have ej:j=cnt xs i:=by omega
   subst ej
   rw [<- y] at X x
   refine zP5 b Q cap bz offz cz _ ns zs (atN xs i) H B u us vs w hm hw hb F Y hB p X M ?_ hk (by omega) ?_
   ·rw [x]; simp [erN,hk]
   ·rw [D,zIt hk]
  ·have O:=zAV q
   have S:=zGL K v
   have g:i-1+1=i:=by omega
   have r:=zCt ns xs i (i-1) f (by omega) q
   by_cases h6:(atN xs i).k=6
   ·refine zAs b Q cap bz offz cz ns xs zs hm P K d y n (i-1) f (by omega) (by omega) q j H B u us vs w ?_ hw hb F Y hB p (by omega) ?_
    ·rw [hj,zM1 h6,g]
    ·rw [D,zGh h6 v q]
   ·obtain ⟨X,x⟩:=zOR (m:=xs.length) hi h6
    rw [zFU h6] at hj
    have ej:j=cnt xs i:=by omega
    subst ej
    rw [<- y] at X x
    have a:zA7 (atN xs i):=by
     unfold ze at hk
     unfold zA7
     split at hk
     ·omega
     ·split at hk <;> omega
    obtain ⟨jj,c⟩:=N a
    have J:∀ bb,ZM ns (atN xs i) bb=zBF (atO ns jj).s (atO ns jj).k (atO ns jj).l (atO ns jj).sd bb:=fun bb=>by
     unfold ZM; rw [c]; rfl
    obtain ⟨U,hU⟩:∃ U,U=gS ns xs (i-1) (ZM ns (atN xs i) false) us.length:=⟨_,rfl⟩
    have G:=(r (ZM ns (atN xs i) false) us.length).2
    rw [<- hU] at G
    refine zRO b Q cap bz offz cz _ (cnt xs i-1) jj ns zs (atN xs i) H B u us (us++U) vs w hm P hw hb F Y hB p X M ?_ a hk c (by rw [ym]; omega) rfl ?_ ?_
    ·rw [x]
     have e1:((i:Int)-1).toNat+1=i:=by omega
     unfold erN mvd
     rw [hk,ha,e1,yN (by decide),yN (by decide)]
     congr 1
     omega
    ·rw [D,zK8 hk h6 v q H us.length hU,ym]
    ·intro W hW C A V
     rw [<- J false]
     exact zAs b Q cap bz offz cz ns xs zs hm P K d y n (i-1) f (by omega) (by omega) q (cnt xs i-1) _ B u us _ W (by rw [g]; omega) hW hb C Y A V (by omega) (by rw [hU])
  ·have O:=zAV E
   have Z:=zAV q
   have S:=zGL K v
   have hd:=zGL K o
   have g:i-1+1=i:=by omega
   have T:f2-1+1=f2:=by omega
   have h6:(atN xs i).k≠6:=fun e=>by rw [e] at hk; simp [ze] at hk
   obtain ⟨X,x⟩:=zOR (m:=xs.length) hi h6
   rw [zFU h6] at hj
   have ej:j=cnt xs i:=by omega
   subst ej
   rw [<- y] at X x
   have a:zA7 (atN xs i):=by
    unfold ze at hk
    unfold zA7
    split at hk
    ·omega
    ·split at hk <;> omega
   obtain ⟨jj,c⟩:=N a
   have J:∀ bb,ZM ns (atN xs i) bb=zBF (atO ns jj).s (atO ns jj).k (atO ns jj).l (atO ns jj).sd bb:=fun bb=>by
    unfold ZM; rw [c]; rfl
   obtain ⟨U,hU⟩:∃ U,U=gS ns xs (f2-1) (ZM ns (atN xs i) false) us.length:=⟨_,rfl⟩
   obtain ⟨U2,L⟩:∃ U2,U2=gS ns xs (i-1) (ZM ns (atN xs i) true) (us.length+U.length):=⟨_,rfl⟩
   have G:=(zCt ns xs i (f2-1) f (by omega) q (ZM ns (atN xs i) false) us.length).2
   have R:=(zCt ns xs i (i-1) f2 (by omega) E (ZM ns (atN xs i) true) (us.length+U.length)).2
   rw [<- hU] at G
   rw [<- L] at R
   refine zRP b Q cap bz offz cz _ (cnt xs f2-1) (cnt xs i-1) jj ns zs (atN xs i) H B u us (us++U) (us++U++U2) vs w hm P hw hb F Y hB p X M ?_ a hk c (by rw [ym,ym]; omega) rfl rfl ?_ ?_ ?_
   ·rw [x]
    have e1:((i:Int)-1).toNat+1=i:=by omega
    have e2:((f2:Int)-1).toNat+1=f2:=by omega
    unfold erN mvd
    rw [hk,ha,I,e1,e2,yN (by decide),yO rfl]
    congr 1 <;> omega
   ·rw [D,zK9 hk v E o ha q H us.length hU L]
    simp only [ym]
   ·intro W hW C A V
    rw [<- J false]
    exact zAs b Q cap bz offz cz ns xs zs hm P K d y n (f2-1) f (by omega) (by omega) q (cnt xs f2-1) _ B u us _ W (by rw [T]; omega) hW hb C Y A V (by omega) (by rw [hU])
   ·intro u' W hW C A V
    rw [<- J true]
    exact zAs b Q cap bz offz cz ns xs zs hm P K d y n (i-1) f2 (by omega) (by omega) E (cnt xs i-1) _ B u' (us++U) _ W (by rw [g]; omega) hW hb C Y A V (by rw [ym]; omega) (by rw [L,ym])
theorem zFV (b H cap bn q cn:Nat) (xs:List OpR) (ns:List zD) (w:JY) (hm:xs.length<=1048576) (hw:Ops w b H xs) (k:Zg xs) (hB:b<w.heap.size) (hc:¬ zR xs 0) :
  Calls Tryz.prog 90 #[.agg #[.slice (some ⟨b,H,none⟩) xs.length cap],.agg #[.slice (some ⟨bn,q,none⟩) ns.length cn]] w fun e w'=>e = .returned (.bool false)/\Below w.heap.size w w':=by
 have HW:=zB hw
 have HZ:=zB k
 have HC:=zB hc
 clear hw k hc
 go_enter Tryz.func90,Tryz.ntmps90
 go_wp2_with fail
 refine (ZY b H cap xs _ hm ((zA HW).below ((zC _ _).alloc (by simp) _) hB) (zA HZ) (by simp; omega)).mono ?_
 rintro e w1 ⟨⟨c,rfl,h⟩,hb1⟩
 have Q:(c != 0)=true:=by
  rw [bne_iff_ne]
  intro e
  exact (zA HC) (e ▸ h)
 have K:Below w.heap.size w w1:=((zC _ _).alloc (by simp) _).trans (hb1.mono (by simp; omega))
 clear h hb1
 go_wp2_with fail
 go_ret
 exact ⟨rfl,K⟩
theorem zFW (b k cap bn H cn:Nat) (xs:List OpR) (ns:List zD) (w:JY) (hm:xs.length<=1048576) (q:ns.length<=1048576) (hw:Ops w b k xs) (K:Zg xs) (hB:b<w.heap.size) (x:zBC w bn H ns) (X:zFB ns) (Q:bn<w.heap.size) :
  Calls Tryz.prog 90 #[.agg #[.slice (some ⟨b,k,none⟩) xs.length cap],.agg #[.slice (some ⟨bn,H,none⟩) ns.length cn]] w fun e w'=>zBs e (zR xs 0/\zA6 ns/\zJq xs ns)/\Below w.heap.size w w':=by
 by_cases hc:zR xs 0
 ·refine (zFT b k cap bn H cn xs ns w hm q hw K hB x X Q hc).mono ?_
  rintro e w' ⟨⟨v,rfl,hv⟩,hb⟩
  exact ⟨⟨v,rfl,⟨fun h=>⟨hc,hv.1 h⟩,fun h=>hv.2 h.2⟩⟩,hb⟩
 ·refine (zFV b k cap bn H cn xs ns w hm hw K hB hc).mono ?_
  rintro e w' ⟨rfl,hb⟩
  exact ⟨⟨false,rfl,zc (fun h=>hc h.1)⟩,hb⟩
theorem zD5 (b q cap bn K cn:Nat) (ns:List OpR) (xs:List zD) (w:JY) (hm:ns.length<=1048576) (f:xs.length<=1048576) (hw:Ops w b q ns) (d:Zg ns) (hB:b<w.heap.size) (E:zBC w bn K xs) (G:zFB xs) (B:bn<w.heap.size) :
  Calls Tryz.prog 74 #[.agg #[.slice (some ⟨b,q,none⟩) ns.length cap],.agg #[.slice (some ⟨bn,K,none⟩) xs.length cn]] w fun e w'=>(∃ (a:Option Addr) (c:Nat) (us:List zD) (v:Bool),e = .returned (.tuple #[.agg #[.slice a us.length c],.bool v])/\Hid (ZU w' w.heap.size a us)/\Hid (zDj ns xs us v))/\Below w.heap.size w w':=by
 have HW:=zB hw
 have m:=zB E
 have HZ:=zB d
 have F:=zB G
 have u:=zB (show ∀ o1 o2 o3:Obj,Below w.heap.size w (((w.alloc o1).alloc o2).alloc o3) from fun o1 o2 o3=>((zC w o1).alloc (by simp) o2).alloc (by simp; omega) o3)
 clear hw E d G
 go_enter Tryz.func74,Tryz.ntmps74
 go_wp2_with fail
 refine (zFW b q cap bn K cn ns xs _ hm f ((zA HW).below ((zA u) _ _ _) hB) (zA HZ) (by simp; omega) ((zA m).below ((zA u) _ _ _) B) (zA F) (by simp; omega)).mono ?_
 rintro e w1 ⟨⟨v,rfl,hv⟩,hb1⟩
 have HV:=zB hv
 have k:Below w.heap.size w w1:=((zA u) _ _ _).trans (hb1.mono (by simp; omega))
 have z1:w.heap.size+3<=w1.heap.size:=by have:=hb1.size; simp at this; omega
 have Y:=zB (show Cs [(w.heap.size,0,.slice (some ⟨b,q,none⟩) ns.length cap),(w.heap.size+1,0,.slice (some ⟨bn,K,none⟩) xs.length cn),(w.heap.size+1+1,0,.slice none 0 0)] w1 from Cs.below (fun p hp=>by
  simp only [List.mem_cons,List.not_mem_nil,or_false] at hp
  rcases hp with rfl | rfl | rfl
  ·simp [go_sem]
  ·simp [go_sem]
  ·simp [go_sem]) hb1)
 have d1:w1.frozen? ⟨w.heap.size+1+1,0,none⟩=false:=(hb1.frozen (p:=⟨w.heap.size+1+1,0,none⟩) (by simp)).trans (by simp [go_sem])
 have c0:=(zA Y) (w.heap.size,0,.slice (some ⟨b,q,none⟩) ns.length cap) (by simp)
 have c1:=(zA Y) (w.heap.size+1,0,.slice (some ⟨bn,K,none⟩) xs.length cn) (by simp)
 have c2:=(zA Y) (w.heap.size+1+1,0,.slice none 0 0) (by simp)
 simp only at c0 c1 c2
 clear hv hb1 u
 cases v
 ·have HF:=zB (show ∀ W:JY,W=w1.setCell ⟨w.heap.size+1+1,0,none⟩ (.slice none 0 0)->Below w.heap.size w W from fun W hW=>by rw [hW]; exact k.setCell (by simp; omega) _)
  go_wp2_with fail
  refine yK (v:=.tuple #[.agg #[.slice none 0 0],.bool false]) ?res rfl ⟨⟨none,0,[],false,rfl,zB (yQ ⟨rfl,rfl⟩),zB (yR ⟨fun h=>Bool.false_ne_true ((zA HV).2 h.1),rfl,rfl⟩)⟩,(zA HF) _ rfl⟩
  case res=>simp [results,Tryz.results74,go_sem,c2]
 have HY:=zB ((zA HV).1 rfl)
 clear HV
 have hc:=(zA HY).2.1.2.1
 have h1:=(zA HY).2.1.1
 go_wp2_with fail
 refine (zHm bn K cn xs _ f ((zA m).below k B) (zA F) (yi B k.size)).mono ?_
 rintro e w2 ⟨⟨a2,k2,zs,v,rfl,hown,her⟩,hb2⟩
 have s:v=true/\zs=er xs xs.length:=by
  rcases zA her with ⟨_,h,h'⟩ | ⟨h,_⟩
  ·exact ⟨h,h'⟩
  ·exact yP (zA HY).2.1 h
 obtain ⟨rfl,hz⟩:=s
 have L:zs.length=cnt xs xs.length:=by rw [hz,zBj]
 have O:=zGL (zA HY).2.1 h1
 have N:=zEB xs xs.length
 obtain ⟨g2,rfl,z,H⟩:∃ g,a2=some ⟨g,0,none⟩/\w1.heap.size<=g/\ZL w2 g zs zs.length:=by
  rcases zA hown with ⟨h,_⟩ | h
  ·omega
  ·exact h
 have o:=H.1
 have n:=zB (H.ops)
 have R:=zB hz
 have X:=k.trans (hb2.mono k.size)
 have z2:w1.heap.size<=w2.heap.size:=hb2.size
 have A:=zB ((zA Y).below hb2)
 have d2:w2.frozen? ⟨w.heap.size+1+1,0,none⟩=false:=(hb2.frozen (p:=⟨w.heap.size+1+1,0,none⟩) (show w.heap.size+1+1<w1.heap.size by omega)).trans d1
 have r:=zB L
 have S:zs.length<=20000:=by omega
 have ha:1<=zs.length:=by omega
 clear hown her H hb2 Y hz c0 c1 c2 d1 L O N k
 obtain ⟨W3,y⟩:∃ W3,Hid (W3=(w2.alloc (.cells #[.slice (some ⟨g2,0,none⟩) zs.length k2] 125)).alloc (.cells #[] 144)):=⟨_,zB rfl⟩
 have J:Below w2.heap.size w2 W3:=by rw [zA y]; exact (zC _ _).alloc (by simp) _
 have s3:W3.heap.size=w2.heap.size+2:=by rw [zA y]; simp
 have j:=X.trans (J.mono X.size)
 have I:=zB (show ZD W3 (w2.heap.size+1) (.slice (some ⟨w2.heap.size+1,0,none⟩) 0 0) [] by
  rw [zA y]
  have:=yD (base:=w2.heap.size+1) (e:=144) (size:=4) (w2.alloc (.cells #[.slice (some ⟨g2,0,none⟩) zs.length k2] 125)) #[] 0 (by simp) (yj _) rfl
  simpa [ZD,zL] using this)
 have D:=zB ((zA A).below J)
 have d3:W3.frozen? ⟨w.heap.size+1+1,0,none⟩=false:=(J.frozen (p:=⟨w.heap.size+1+1,0,none⟩) (show w.heap.size+1+1<w2.heap.size by omega)).trans d2
 obtain ⟨vs,V⟩:∃ vs,vs=gS ns xs (xs.length-1) 0 0:=⟨_,rfl⟩
 have P:=zCt ns xs xs.length (xs.length-1) 0 (by omega) (zA HY).2.1.2.2.1 0 0
 rw [<- V] at P
 have ei:(zs.length:Int)-1=((zs.length-1:Nat):Int):=by omega
 have Q:=zB (zAs b q cap g2 0 k2 ns xs zs hm (zA HZ) (zA HY).2.1 (zA HY).2.2 (zA R) xs.length (xs.length-1) 0 (by omega) (by omega) (zA HY).2.1.2.2.1 (zs.length-1) 0 (w2.heap.size+1) (.slice (some ⟨w2.heap.size+1,0,none⟩) 0 0) [] vs W3 (by rw [Nat.sub_add_cancel h1,<- zA r]; omega) ((zA HW).below j hB) (by have:=X.size; omega) ((zA n).below J o) (by omega) (by omega) (zA I) (by rw [yW]; omega) (by rw [List.nil_append,yW]; exact V))
 rw [zA y] at Q
 have C:=zB V
 have t:=P.1
 have T:=P.2
 have c0:w2.cell? ⟨w.heap.size,0,none⟩=some (.slice (some ⟨b,q,none⟩) ns.length cap):=(zA A) (w.heap.size,0,.slice (some ⟨b,q,none⟩) ns.length cap) (by simp)
 have hT:w.heap.size<w2.heap.size:=by omega
 clear V P I
 go_wp2_with fail
 refine (zA Q).mono ?_
 rw [<- zA y]
 rintro x w4 ⟨u',rfl,hr,hg,ho⟩
 obtain ⟨g4,c4,rfl,hb,H⟩:=(show ZD w4 (w2.heap.size+1) u' vs->∃ g c,u' = .slice (some ⟨g,0,none⟩) vs.length c/\w2.heap.size+1<=g/\ZL w4 g vs vs.length from fun h=>by
  have hh:=h
  unfold ZD at hh
  obtain ⟨_,⟨rfl,h0⟩ | ⟨g,cap,Z,rfl,_⟩⟩:=h
  ·omega
  ·have:=zBJ hh
   exact ⟨g,cap,rfl,this.1,this.2⟩) (zA hr)
 have e1:w4.cell? ⟨w.heap.size+1+1,0,none⟩=some (.slice none 0 0):=(zE (zA hg) (b:=w.heap.size+1+1) (by omega) (by simp [Value.ownBlock]; omega) 0).trans ((zA D) (w.heap.size+1+1,0,.slice none 0 0) (by simp))
 have f1:w4.frozen? ⟨w.heap.size+1+1,0,none⟩=false:=(yA (w:=W3) ((zA hg).block (w.heap.size+1+1) (by omega) (by simp [Value.ownBlock]; omega))).trans d3
 have U:Below w.heap.size w w4:=j.trans ⟨(zA hg).os,(zA hg).tape,(zA hg).output,(zA hg).size,fun i hi=>(zA hg).block i (by have:=j.size; omega) (by simp [Value.ownBlock]; have:=X.size; omega)⟩
 have l:=zB H
 clear hr hg ho H Q A D d2 d3 c0 J y
 by_cases hq:vs.length<=20000
 ·have M:¬ (20000:Int)<(vs.length:Int):=by omega
  go_wp2_with fail
  refine yK (v:=.tuple #[.agg #[.slice (some ⟨g4,0,none⟩) vs.length c4],.bool true]) ?res rfl ⟨⟨some ⟨g4,0,none⟩,c4,vs,true,rfl,zB (yR ⟨g4,rfl,by omega,?_⟩),zB (yQ ⟨⟨zA HY,by rw [<- zA C]; exact hq⟩,rfl,zA C⟩)⟩,?_⟩
  case res=>simp [results,Tryz.results74,go_sem,e1]
  ·exact (zA l).setCell _ _ _ (by omega)
  ·exact U.setCell (by simp; omega) _
 ·have M:(20000:Int)<(vs.length:Int):=by omega
  go_wp2_with fail
  refine yK (v:=.tuple #[.agg #[.slice none 0 0],.bool false]) ?res rfl ⟨⟨none,0,[],false,rfl,zB (yQ ⟨rfl,rfl⟩),zB (yR ⟨fun h=>hq (by rw [zA C]; exact h.2),rfl,rfl⟩)⟩,?_⟩
  case res=>simp [results,Tryz.results74,go_sem,e1]
  ·exact U.setCell (by simp; omega) _
theorem zAM.lt1 {g k:Nat} {xs:List OpR} (h:zAM w g xs k):g<w.heap.size:=h.1
theorem ZL.lt1 {g k:Nat} {xs:List zD} (h:ZL w g xs k):g<w.heap.size:=h.1
theorem zJf.step {w':JY} {a:Option Addr} {l:List UInt8} (h:zJf w a l) (hb:Below w.heap.size w w'):zJf w' a l:=by
 rcases h with h | ⟨b,H,rfl,k,hc⟩
 ·exact yQ h
 ·exact yR ⟨b,H,rfl,yi k hb.size,fun i hi=>(hb.cell (p:=⟨b,H+i,none⟩) k).trans (hc i hi)⟩
end Go.Proofs.YtgbkgkdpdfdokaaGreatDoor
