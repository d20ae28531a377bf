import Derived.Test.YtgbkgkdpdfdokaaGreatDoorQ24
namespace Go.Proofs.YtgbkgkdpdfdokaaGreatDoor
set_option linter.all false
set_option maxHeartbeats 16000000
set_option maxRecDepth 100000
open Go.RowKit
theorem zQM (b K cap gt ot ct gr cr lo hi h:Nat) (xs:List OpR) (ts:List zX) (us:List Int) (B:Nat) (u:Value) (ns:List zD) (w:JY) (hm:xs.length<=1048576) (i:Zg xs) (hE:BE w B b K gt ot gr xs ts us) (hF:TF xs ts us) (I:lo<=h) (A:h<hi) (j:hi<=ts.length) (hR:zCP (rtF xs (sgs xs ts lo (hi-lo)) lo 0 none)=(h:Int))
  (H:ZD w B u ns) (U:ns.length+(hi-lo)<=90000) (X:zi xs ts h=1) (D:h≠lo) :
  Calls Tryz.prog 98 #[.agg #[.slice (some ⟨b,K,none⟩) xs.length cap],.slice (some ⟨gt,ot,none⟩) ts.length ct,.slice (some ⟨gr,0,none⟩) us.length cr,.int .i64 (lo:Int),.int .i64 (hi:Int),u] w (zAG w B u ns none (hi-lo)):=by
 have HX:=zA1 (cap:=cap) (ct:=ct) (cr:=cr) hm hE hF (by omega) j hR
 have f:(h:Int)<(ts.length:Int):=by omega
 have E:ts.length<=100000:=hF.len
 have V:us.length=ts.length:=by rw [hF.us,Z8]
 have a:(h:Int)<(us.length:Int):=by omega
 have HE:=zB hE
 obtain ⟨h1,h2,h3,h4,h5,h6,h7⟩:=hE
 have k2:=(h3 h (by omega)).2.2
 have kr:=h5.2 h (by omega)
 rw [hF.us,zBz (by omega),X] at kr
 have Q:=zC w (.cells #[.slice (some ⟨b,K,none⟩) xs.length cap] 33)
 have Y:=zB H
 have c:=zB H.base
 have q:∀ x,w.heap.size<=x->u.ownBlock≠some x:=fun x hx e=>by have:=World.ownsRow.lt H _ e; omega
 have g:=zB q
 have J:gt<w.heap.size:=by omega
 have P:gr<w.heap.size:=by omega
 have er:decide ((h:Int)<0)=false:=by rw [yT]; omega
 have eN:((h:Int) != (lo:Int))=true:=by simp; omega
 clear H h1 h3 h5 hF hR X q V
 go_enter Tryz.func98,Tryz.ntmps98
 go_wp2_with fail
 refine HX.mono ?_
 clear HX
 rintro e w1 ⟨rfl,hb1⟩
 have k:Below w.heap.size w w1:=Q.trans (hb1.mono Q.size)
 have z1:w.heap.size+1<=w1.heap.size:=by have:=hb1.size; simp at this; omega
 have t1:w1.cell? ⟨w.heap.size,0,none⟩=some (.slice (some ⟨b,K,none⟩) xs.length cap):=(hb1.cell (p:=⟨w.heap.size,0,none⟩) (by simp)).trans (by simp [go_sem])
 replace k2:=(k.cell (p:=⟨gt,ot+h*3+2,none⟩) J).trans k2
 replace kr:=(k.cell (p:=⟨gr,h,none⟩) P).trans kr
 have F:gt<w1.heap.size:=by omega
 have C:gt≠w1.heap.size:=by omega
 have G:gr<w1.heap.size:=by omega
 have d:gr≠w1.heap.size:=by omega
 have l:w.heap.size≠w1.heap.size:=by omega
 clear hb1 Q
 go_wp2_with fail
 go_region_held (fun w'=>w'.cell? ⟨gt,ot+h*3+2,none⟩=some (.string (atT ts h).t)/\w'.cell? ⟨gr,h,none⟩=some (.int .i64 1)) (go_keep) (fail)
 have y:=zB (show Below w.heap.size w (w1.alloc (.cells #[.int .i64 3,.string (atT ts h).t,.int .i64 0,.int .i64 0] 144)).drew from (k.alloc k.size _).drew)
 go_wp2_with fail
 refine yK (v:=.tuple #[u,.bool false]) (by simp [results,Tryz.results98,go_sem]) rfl ⟨u,ns,false,rfl,zB ((zA Y).below (zA y)),zB (zH (zA y) _),zB (yQ rfl),by omega,zB (yR ⟨rfl,rfl⟩)⟩
theorem zQN (b K cap gt ot ct gr cr lo hi h:Nat) (xs:List OpR) (ts:List zX) (us:List Int) (B:Nat) (u:Value) (ns:List zD) (w:JY) (hm:xs.length<=1048576) (i:Zg xs) (hE:BE w B b K gt ot gr xs ts us) (hF:TF xs ts us) (I:lo<=h) (A:h<hi) (j:hi<=ts.length) (hR:zCP (rtF xs (sgs xs ts lo (hi-lo)) lo 0 none)=(h:Int))
  (H:ZD w B u ns) (U:ns.length+(hi-lo)<=90000) (X:zi xs ts h=3) (D:h+1≠hi) :
  Calls Tryz.prog 98 #[.agg #[.slice (some ⟨b,K,none⟩) xs.length cap],.slice (some ⟨gt,ot,none⟩) ts.length ct,.slice (some ⟨gr,0,none⟩) us.length cr,.int .i64 (lo:Int),.int .i64 (hi:Int),u] w (zAG w B u ns none (hi-lo)):=by
 have HX:=zA1 (cap:=cap) (ct:=ct) (cr:=cr) hm hE hF (by omega) j hR
 have f:(h:Int)<(ts.length:Int):=by omega
 have E:ts.length<=100000:=hF.len
 have V:us.length=ts.length:=by rw [hF.us,Z8]
 have a:(h:Int)<(us.length:Int):=by omega
 have HE:=zB hE
 obtain ⟨h1,h2,h3,h4,h5,h6,h7⟩:=hE
 have k2:=(h3 h (by omega)).2.2
 have kr:=h5.2 h (by omega)
 rw [hF.us,zBz (by omega),X] at kr
 have Q:=zC w (.cells #[.slice (some ⟨b,K,none⟩) xs.length cap] 33)
 have Y:=zB H
 have c:=zB H.base
 have q:∀ x,w.heap.size<=x->u.ownBlock≠some x:=fun x hx e=>by have:=World.ownsRow.lt H _ e; omega
 have g:=zB q
 have J:gt<w.heap.size:=by omega
 have P:gr<w.heap.size:=by omega
 have er:decide ((h:Int)<0)=false:=by rw [yT]; omega
 have eN:((h:Int) != (hi:Int)-1)=true:=by simp; omega
 clear H h1 h3 h5 hF hR X q V
 go_enter Tryz.func98,Tryz.ntmps98
 go_wp2_with fail
 refine HX.mono ?_
 clear HX
 rintro e w1 ⟨rfl,hb1⟩
 have k:Below w.heap.size w w1:=Q.trans (hb1.mono Q.size)
 have z1:w.heap.size+1<=w1.heap.size:=by have:=hb1.size; simp at this; omega
 have t1:w1.cell? ⟨w.heap.size,0,none⟩=some (.slice (some ⟨b,K,none⟩) xs.length cap):=(hb1.cell (p:=⟨w.heap.size,0,none⟩) (by simp)).trans (by simp [go_sem])
 replace k2:=(k.cell (p:=⟨gt,ot+h*3+2,none⟩) J).trans k2
 replace kr:=(k.cell (p:=⟨gr,h,none⟩) P).trans kr
 have F:gt<w1.heap.size:=by omega
 have C:gt≠w1.heap.size:=by omega
 have G:gr<w1.heap.size:=by omega
 have d:gr≠w1.heap.size:=by omega
 have l:w.heap.size≠w1.heap.size:=by omega
 clear hb1 Q
 go_wp2_with fail
 go_region_held (fun w'=>w'.cell? ⟨gt,ot+h*3+2,none⟩=some (.string (atT ts h).t)/\w'.cell? ⟨gr,h,none⟩=some (.int .i64 3)) (go_keep) (fail)
 have y:=zB (show Below w.heap.size w (w1.alloc (.cells #[.int .i64 5,.string (atT ts h).t,.int .i64 0,.int .i64 0] 144)).drew from (k.alloc k.size _).drew)
 go_wp2_with fail
 refine yK (v:=.tuple #[u,.bool false]) (by simp [results,Tryz.results98,go_sem]) rfl ⟨u,ns,false,rfl,zB ((zA Y).below (zA y)),zB (zH (zA y) _),zB (yQ rfl),by omega,zB (yR ⟨rfl,rfl⟩)⟩
theorem zRd (b X cap gt ot ct gr cr lo hi H:Nat) (xs:List OpR) (ts:List zX) (us:List Int) (B:Nat) (u:Value) (ns:List zD) (w:JY) (hm:xs.length<=1048576) (s:Zg xs) (hE:BE w B b X gt ot gr xs ts us) (hF:TF xs ts us) (hW:lo<=H) (hX:H<hi) (hA:hi<=ts.length) (hR:zCP (rtF xs (sgs xs ts lo (hi-lo)) lo 0 none)=(H:Int))
  (P:ZD w B u ns) (hJ:ns.length+(hi-lo)<=90000) (L:zi xs ts H=1) (hr:H=lo) (r1:Option ET) (hh:∀ T,r1=some T->Zt xs T)
  (hc:∀ W,BE W B b X gt ot gr xs ts us->ZD W B u ns->Calls Tryz.prog 98 #[.agg #[.slice (some ⟨b,X,none⟩) xs.length cap],.slice (some ⟨gt,ot,none⟩) ts.length ct,.slice (some ⟨gr,0,none⟩) us.length cr,.int .i64 ((lo:Int)+1),.int .i64 (hi:Int),u] W (zAG W B u ns r1 (hi-lo-1)))
  (res:Option ET) (F:res=(match r1 with
   | none=>none
   | some T=>if zBP xs 3 (atT ts H).t T .nil then some (.node 3 0 (atT ts H).t T .nil) else none)) :
  Calls Tryz.prog 98 #[.agg #[.slice (some ⟨b,X,none⟩) xs.length cap],.slice (some ⟨gt,ot,none⟩) ts.length ct,.slice (some ⟨gr,0,none⟩) us.length cr,.int .i64 (lo:Int),.int .i64 (hi:Int),u] w (zAG w B u ns res (hi-lo)):=by
 obtain ⟨i0,hg,Z,hd,ho⟩:=zN zC7
 have HI:=zB hg
 have HZ:=zB (yH Z (yH hd ho))
 clear hg Z hd ho
 have HX:=zA1 (cap:=cap) (ct:=ct) (cr:=cr) hm hE hF (by omega) hA hR
 have hS:(H:Int)<(ts.length:Int):=by omega
 have hM:ts.length<=100000:=hF.len
 have hC:us.length=ts.length:=by rw [hF.us,Z8]
 have hK:(H:Int)<(us.length:Int):=by omega
 have HE:=zB hE
 obtain ⟨h1,h2,h3,h4,h5,h6,h7⟩:=hE
 have k2:=(h3 H (by omega)).2.2
 have kr:=h5.2 H (by omega)
 rw [hF.us,zBz (by omega),L] at kr
 have N:=zC w (.cells #[.slice (some ⟨b,X,none⟩) xs.length cap] 33)
 have I:=zB P
 have hq:=zB P.base
 have l:∀ x,w.heap.size<=x->u.ownBlock≠some x:=fun x hx e=>by have:=World.ownsRow.lt P _ e; omega
 have D:=zB l
 have hB:gt<w.heap.size:=by omega
 have hy:gr<w.heap.size:=by omega
 have er:decide ((H:Int)<0)=false:=by rw [yT]; omega
 have eN:((H:Int) != (lo:Int))=false:=by simp; omega
 have HC:=zB hc
 have he:=zB hh
 have d:=zB F
 have hH:=zB s
 obtain ⟨j,ha⟩:∃ j,fnd xs (atT ts H).t (((3:Nat):Int)-2)=some j:=by
  rcases (hF.all H (by omega)).1 with ⟨_,_,_,j,h,_⟩ | ⟨_,h0,_⟩
  ·rw [L] at h; exact ⟨j,h⟩
  ·omega
 have hk:=zB ha
 clear P h1 h3 h5 hF hR L l hC hc hh F s ha hr
 go_enter Tryz.func98,Tryz.ntmps98
 go_wp2_with fail
 refine HX.mono ?_
 clear HX
 rintro e w1 ⟨rfl,hb1⟩
 have V:Below w.heap.size w w1:=N.trans (hb1.mono N.size)
 have z1:w.heap.size+1<=w1.heap.size:=by have:=hb1.size; simp at this; omega
 have t1:w1.cell? ⟨w.heap.size,0,none⟩=some (.slice (some ⟨b,X,none⟩) xs.length cap):=(hb1.cell (p:=⟨w.heap.size,0,none⟩) (by simp)).trans (by simp [go_sem])
 replace k2:=(V.cell (p:=⟨gt,ot+H*3+2,none⟩) hB).trans k2
 replace kr:=(V.cell (p:=⟨gr,H,none⟩) hy).trans kr
 have hN:gt<w1.heap.size:=by omega
 have hQ:gt≠w1.heap.size:=by omega
 have hU:gr<w1.heap.size:=by omega
 have hY:gr≠w1.heap.size:=by omega
 have hP:w.heap.size≠w1.heap.size:=by omega
 clear hb1 N
 go_wp2_with fail
 go_region_held (fun w'=>w'.cell? ⟨gt,ot+H*3+2,none⟩=some (.string (atT ts H).t)/\w'.cell? ⟨gr,H,none⟩=some (.int .i64 1)) (go_keep) (fail)
 have hl:IntKind.i64.wrap 3=3:=by rfl
 rw [hl]
 clear hl
 obtain ⟨W2,C⟩:∃ W2,W2=(w1.alloc (.cells #[.int .i64 3,.string (atT ts H).t,.int .i64 0,.int .i64 0] 144)).drew:=⟨_,rfl⟩
 have o:Below w1.heap.size w1 W2:=by rw [C]; exact (zC _ _).drew
 have c:Below w.heap.size w W2:=V.trans (o.mono V.size)
 have a:=zB (show ZB W2 w1.heap.size ⟨3,(atT ts H).t,0,0⟩ by
  rw [C]
  exact ZB.below (w:=w1.alloc (.cells #[.int .i64 3,.string (atT ts H).t,.int .i64 0,.int .i64 0] 144)) ⟨by simp [go_sem],by simp [go_sem],by simp [go_sem],by simp [go_sem],by simp [go_sem],by simp [go_sem]⟩ (yG _ _).drew)
 have t2:W2.cell? ⟨w.heap.size,0,none⟩=some (.slice (some ⟨b,X,none⟩) xs.length cap):=(o.cell (p:=⟨w.heap.size,0,none⟩) (by simp only; omega)).trans t1
 have z2:w1.heap.size+1<=W2.heap.size:=by rw [C]; show _<=(w1.alloc _).heap.size; simp
 obtain ⟨n0,n1,n2,n3,_,_⟩:=zA a
 simp only at n0 n1 n2 n3
 have HX:=(zA HC) W2 ((zA HE).below c) ((zA I).below c)
 rw [<- C]
 clear o k2 kr t1 C HC I
 go_wp2_with fail
 refine HX.mono ?_
 clear HX n0 n1 n2 n3
 rintro e w3 ⟨u1,K,ok,rfl,HR3,HG3,HA3,hl3,HO3⟩
 obtain ⟨a1,c1,rfl⟩:=ZQ (zA HR3)
 have HG:=zB (zh c (zA HG3))
 have HA:=zB (show (Value.slice a1 K.length c1).ownBlock=u.ownBlock\/∃ k,(Value.slice a1 K.length c1).ownBlock=some k/\w.heap.size<=k from (zA HA3).imp id (fun ⟨k,h,h'⟩=>⟨k,h,by omega⟩))
 have h8:=zB (show (Value.slice a1 K.length c1).ownBlock≠some w1.heap.size from fun e=>by
  rcases zA HA3 with h | ⟨k,h,h'⟩
  ·exact (zA D) w1.heap.size (by omega) (h.symm.trans e)
  ·rw [h] at e; injection e with e; omega)
 have hD:=zB (show (Value.slice a1 K.length c1).ownBlock≠some w.heap.size from fun e=>by
  rcases zA HA3 with h | ⟨k,h,h'⟩
  ·exact (zA D) w.heap.size (by omega) (h.symm.trans e)
  ·rw [h] at e; injection e with e; omega)
 replace a:=zB ((zA a).grown (zA HG3) ((zA D) _ (by omega)))
 have t3:w3.cell? ⟨w.heap.size,0,none⟩=some (.slice (some ⟨b,X,none⟩) xs.length cap):=(zE (zA HG3) (b:=w.heap.size) (by omega) ((zA D) _ (by omega)) 0).trans t2
 have z3:=(zA HG3).size
 obtain ⟨n0,n1,n2,n3,n4,n5⟩:=zA a
 simp only at n0 n1 n2 n3
 clear HG3 HA3 t2
 rcases zA HO3 with ⟨T,U,rfl,r⟩ | ⟨U,rfl⟩
 case inr=>
  have hj:=zB (show res=none by rw [zA d,U])
  clear U HO3
  go_wp2_with fail
  refine yK (v:=.tuple #[.slice a1 K.length c1,.bool false]) (by simp [results,Tryz.results98,go_sem]) rfl ⟨_,K,false,rfl,HR3,HG,HA,by omega,zB (yR ⟨zA hj,rfl⟩)⟩
 have HT:=zB ((zA he) T U)
 have n:=zB r
 have hO:1<=K.length:=(zAh (zA HT) ns [] r).1
 have hG:=zB (show res=if zBP xs 3 (atT ts H).t T .nil then some (.node 3 0 (atT ts H).t T .nil) else none by rw [zA d,U])
 clear U r HO3 d he
 have HM:=zB ((zA a).set2 ((K.length:Int)-1))
 have hf:=zB ((zA HR3).other (g:=w1.heap.size) (j:=2) (.int .i64 ((K.length:Int)-1)) (zA h8))
 have t4:(w3.setCell ⟨w1.heap.size,2,none⟩ (.int .i64 ((K.length:Int)-1))).cell? ⟨w.heap.size,0,none⟩=some (.slice (some ⟨b,X,none⟩) xs.length cap):=(yg w3 ⟨w1.heap.size,2,none⟩ ⟨w.heap.size,0,none⟩ (.int .i64 ((K.length:Int)-1)) (fun x=>by injection x with x1; omega)).trans t3
 have E:=zB (zQ (zA HG) (⟨rfl,rfl,rfl,by simp [World.setCell],fun i _ hi=>yZ _ _ _ _ (fun e=>hi (by rw [e]))⟩:w3.grownBy (w3.setCell ⟨w1.heap.size,2,none⟩ (.int .i64 ((K.length:Int)-1))) (some w1.heap.size)) (yR ⟨_,rfl,by omega⟩))
 obtain ⟨m0,m1,m2,m3,_,_⟩:=zA HM
 simp only at m0 m1 m2 m3
 clear HG HR3 n0 n1 n3 n5 a t3
 go_wp2_with (at_builtin; refine yJ _ rfl (.tmp 152) (.tmp 154) 123 rfl B 144 i0 _ 4 40 Tryz.underlying123 (zA HI) (zA HZ).1 (zA HZ).2.1 (zA HZ).2.2 rfl (by decide) _ K.length (zL K) rfl ((zA hf).below (zC _ _)) ⟨w3.heap.size,0,none⟩ 1 1 (zL [⟨3,(atT ts H).t,(K.length:Int)-1,0⟩]) rfl rfl (by simpa using Zl (w3.setCell ⟨w1.heap.size,2,none⟩ (.int .i64 ((K.length:Int)-1))) w3.heap.size ⟨3,(atT ts H).t,(K.length:Int)-1,0⟩ (by simp [World.setCell])) (zS _) ?b1 ?b2 ?b3 ?next)
 case b1=>unfold maxLen; omega
 case b2=>omega
 case b3=>first | omega | (have:=(zA E).size; simp at this ⊢; omega)
 case next=>
  intro v4 w4 A J m G
  obtain ⟨Q,y⟩:∃ Q,Q=K++[(⟨3,(atT ts H).t,(K.length:Int)-1,0⟩:zD)]:=⟨_,rfl⟩
  have hz:Q.length=K.length+1:=by rw [y]; simp
  have z:=zB (show ZD w4 B v4 Q by
   rw [y]
   unfold ZD
   rw [zm,ym]
   exact A)
  have M:=zB (zh (zC (w3.setCell ⟨w1.heap.size,2,none⟩ (.int .i64 ((K.length:Int)-1))) _) J)
  have hn:=zB (zQ (zA E) (zA M) (zA HA))
  have hp:=zB (zAU (zA E) (zA HA) v4.ownBlock (G.imp id (fun h=>⟨_,h,by first | exact yh _ | simp⟩)))
  have t5:w4.cell? ⟨w.heap.size,0,none⟩=some (.slice (some ⟨b,X,none⟩) xs.length cap):=(zE (zA M) (b:=w.heap.size) (block_lt_of_cell t4) (zA hD) 0).trans t4
  have hs:=zB ((zA HE).grown (zA hn) (zA hq))
  obtain ⟨g4,c4,rfl,hV,R⟩:=zC5 (zA z) (by omega)
  have f:=zA hs
  have Y:atN Q K.length=⟨3,(atT ts H).t,(K.length:Int)-1,0⟩:=by rw [y]; exact zDu rfl
  have O:=zAh (zA HT) ns [⟨3,(atT ts H).t,(K.length:Int)-1,0⟩] (zA n)
  rw [<- y] at O
  have HX:=zFY b X cap g4 0 c4 K.length xs Q w4 hm (by omega) f.1 (zA hH) (by have:=f.2.2.2.2.2.2; have:=f.2.1; omega) R.2.2 R.1 (by omega) (by rw [Y]; unfold zA7; simp only; omega) j (by rw [Y]; exact zA hk) (K.length-1) 0 (by rw [Y]; simp only; omega) (by rw [Y]; rfl) (by omega) (by omega) (by rw [Y]; exact yQ rfl) O.2.2 (fun h=>by rw [Y] at h; simp [ze] at h)
  have hb:=zMb (q:=3) (zA HT) (by omega) (zA hk) ns (zA n)
  have e6:((K.length:Nat):Int)=(Q.length:Int)-1:=by omega
  have hu:=zB (show zGg xs Q K.length↔zBP xs 3 (atT ts H).t T .nil=true by rw [y]; exact hb)
  have h9:=zB (show Q=ns++nd (.node 3 0 (atT ts H).t T .nil) ns.length by rw [y,zLl (b:=3) rfl,<- zA n]; rfl)
  rw [e6] at HX
  have hI:Q.length<=ns.length+(hi-lo):=by omega
  clear A J m G E M y Y O f R m0 m1 m2 m3 HM hb e6 hz
  go_wp2_with fail
  refine HX.mono ?_
  clear HX
  rintro e w5 ⟨⟨v,rfl,hv⟩,hb5⟩
  have ht:=zB (zQ (zA hn) (zH hb5 u.ownBlock) (yQ rfl))
  have hw:=zB ((zA z).below hb5)
  have HV:=zB hv
  clear hb5 hv
  go_wp2_with fail
  refine yK (v:=.tuple #[.slice (some ⟨g4,0,none⟩) Q.length c4,.bool v]) (by simp [results,Tryz.results98,go_sem]) rfl ⟨_,Q,v,rfl,hw,ht,hp,hI,zB ?_⟩
  have S:v=true↔zBP xs 3 (atT ts H).t T .nil=true:=(zA HV).trans (zA hu)
  rw [zA hG]
  cases v with
  | true=>
   rw [yO (S.1 rfl)]
   exact yQ ⟨_,rfl,rfl,zA h9⟩
  | false=>
   rw [yN (fun h=>Bool.false_ne_true (S.2 h))]
   exact yR ⟨rfl,rfl⟩
theorem zQO (b X cap gt ot ct gr cr lo hi H:Nat) (xs:List OpR) (ts:List zX) (us:List Int) (B:Nat) (u:Value) (ns:List zD) (w:JY) (hm:xs.length<=1048576) (s:Zg xs) (hE:BE w B b X gt ot gr xs ts us) (hF:TF xs ts us) (hW:lo<=H) (hX:H<hi) (hA:hi<=ts.length) (hR:zCP (rtF xs (sgs xs ts lo (hi-lo)) lo 0 none)=(H:Int))
  (P:ZD w B u ns) (hJ:ns.length+(hi-lo)<=90000) (L:zi xs ts H=3) (hr:H+1=hi) (r1:Option ET) (hh:∀ T,r1=some T->Zt xs T)
  (hc:∀ W,BE W B b X gt ot gr xs ts us->ZD W B u ns->Calls Tryz.prog 98 #[.agg #[.slice (some ⟨b,X,none⟩) xs.length cap],.slice (some ⟨gt,ot,none⟩) ts.length ct,.slice (some ⟨gr,0,none⟩) us.length cr,.int .i64 (lo:Int),.int .i64 (H:Int),u] W (zAG W B u ns r1 (hi-lo-1)))
  (res:Option ET) (F:res=(match r1 with
   | none=>none
   | some T=>if zBP xs 5 (atT ts H).t T .nil then some (.node 5 0 (atT ts H).t T .nil) else none)) :
  Calls Tryz.prog 98 #[.agg #[.slice (some ⟨b,X,none⟩) xs.length cap],.slice (some ⟨gt,ot,none⟩) ts.length ct,.slice (some ⟨gr,0,none⟩) us.length cr,.int .i64 (lo:Int),.int .i64 (hi:Int),u] w (zAG w B u ns res (hi-lo)):=by
 obtain ⟨i0,hg,Z,hd,ho⟩:=zN zC7
 have HI:=zB hg
 have HZ:=zB (yH Z (yH hd ho))
 clear hg Z hd ho
 have HX:=zA1 (cap:=cap) (ct:=ct) (cr:=cr) hm hE hF (by omega) hA hR
 have hS:(H:Int)<(ts.length:Int):=by omega
 have hM:ts.length<=100000:=hF.len
 have hC:us.length=ts.length:=by rw [hF.us,Z8]
 have hK:(H:Int)<(us.length:Int):=by omega
 have HE:=zB hE
 obtain ⟨h1,h2,h3,h4,h5,h6,h7⟩:=hE
 have k2:=(h3 H (by omega)).2.2
 have kr:=h5.2 H (by omega)
 rw [hF.us,zBz (by omega),L] at kr
 have N:=zC w (.cells #[.slice (some ⟨b,X,none⟩) xs.length cap] 33)
 have I:=zB P
 have hq:=zB P.base
 have l:∀ x,w.heap.size<=x->u.ownBlock≠some x:=fun x hx e=>by have:=World.ownsRow.lt P _ e; omega
 have D:=zB l
 have hB:gt<w.heap.size:=by omega
 have hy:gr<w.heap.size:=by omega
 have er:decide ((H:Int)<0)=false:=by rw [yT]; omega
 have eN:((H:Int) != (hi:Int)-1)=false:=by simp; omega
 have HC:=zB hc
 have he:=zB hh
 have d:=zB F
 have hH:=zB s
 obtain ⟨j,ha⟩:∃ j,fnd xs (atT ts H).t (((5:Nat):Int)-2)=some j:=by
  rcases (hF.all H (by omega)).1 with ⟨_,_,_,j,h,_⟩ | ⟨_,h0,_⟩
  ·rw [L] at h; exact ⟨j,h⟩
  ·omega
 have hk:=zB ha
 clear P h1 h3 h5 hF hR L l hC hc hh F s ha hr
 go_enter Tryz.func98,Tryz.ntmps98
 go_wp2_with fail
 refine HX.mono ?_
 clear HX
 rintro e w1 ⟨rfl,hb1⟩
 have V:Below w.heap.size w w1:=N.trans (hb1.mono N.size)
 have z1:w.heap.size+1<=w1.heap.size:=by have:=hb1.size; simp at this; omega
 have t1:w1.cell? ⟨w.heap.size,0,none⟩=some (.slice (some ⟨b,X,none⟩) xs.length cap):=(hb1.cell (p:=⟨w.heap.size,0,none⟩) (by simp)).trans (by simp [go_sem])
 replace k2:=(V.cell (p:=⟨gt,ot+H*3+2,none⟩) hB).trans k2
 replace kr:=(V.cell (p:=⟨gr,H,none⟩) hy).trans kr
 have hN:gt<w1.heap.size:=by omega
 have hQ:gt≠w1.heap.size:=by omega
 have hU:gr<w1.heap.size:=by omega
 have hY:gr≠w1.heap.size:=by omega
 have hP:w.heap.size≠w1.heap.size:=by omega
 clear hb1 N
 go_wp2_with fail
 go_region_held (fun w'=>w'.cell? ⟨gt,ot+H*3+2,none⟩=some (.string (atT ts H).t)/\w'.cell? ⟨gr,H,none⟩=some (.int .i64 3)) (go_keep) (fail)
 have hl:IntKind.i64.wrap 5=5:=by rfl
 rw [hl]
 clear hl
 obtain ⟨W2,C⟩:∃ W2,W2=(w1.alloc (.cells #[.int .i64 5,.string (atT ts H).t,.int .i64 0,.int .i64 0] 144)).drew:=⟨_,rfl⟩
 have o:Below w1.heap.size w1 W2:=by rw [C]; exact (zC _ _).drew
 have c:Below w.heap.size w W2:=V.trans (o.mono V.size)
 have a:=zB (show ZB W2 w1.heap.size ⟨5,(atT ts H).t,0,0⟩ by
  rw [C]
  exact ZB.below (w:=w1.alloc (.cells #[.int .i64 5,.string (atT ts H).t,.int .i64 0,.int .i64 0] 144)) ⟨by simp [go_sem],by simp [go_sem],by simp [go_sem],by simp [go_sem],by simp [go_sem],by simp [go_sem]⟩ (yG _ _).drew)
 have t2:W2.cell? ⟨w.heap.size,0,none⟩=some (.slice (some ⟨b,X,none⟩) xs.length cap):=(o.cell (p:=⟨w.heap.size,0,none⟩) (by simp only; omega)).trans t1
 have z2:w1.heap.size+1<=W2.heap.size:=by rw [C]; show _<=(w1.alloc _).heap.size; simp
 obtain ⟨n0,n1,n2,n3,_,_⟩:=zA a
 simp only at n0 n1 n2 n3
 have HX:=(zA HC) W2 ((zA HE).below c) ((zA I).below c)
 rw [<- C]
 clear o k2 kr t1 C HC I
 go_wp2_with fail
 refine HX.mono ?_
 clear HX n0 n1 n2 n3
 rintro e w3 ⟨u1,K,ok,rfl,HR3,HG3,HA3,hl3,HO3⟩
 obtain ⟨a1,c1,rfl⟩:=ZQ (zA HR3)
 have HG:=zB (zh c (zA HG3))
 have HA:=zB (show (Value.slice a1 K.length c1).ownBlock=u.ownBlock\/∃ k,(Value.slice a1 K.length c1).ownBlock=some k/\w.heap.size<=k from (zA HA3).imp id (fun ⟨k,h,h'⟩=>⟨k,h,by omega⟩))
 have h8:=zB (show (Value.slice a1 K.length c1).ownBlock≠some w1.heap.size from fun e=>by
  rcases zA HA3 with h | ⟨k,h,h'⟩
  ·exact (zA D) w1.heap.size (by omega) (h.symm.trans e)
  ·rw [h] at e; injection e with e; omega)
 have hD:=zB (show (Value.slice a1 K.length c1).ownBlock≠some w.heap.size from fun e=>by
  rcases zA HA3 with h | ⟨k,h,h'⟩
  ·exact (zA D) w.heap.size (by omega) (h.symm.trans e)
  ·rw [h] at e; injection e with e; omega)
 replace a:=zB ((zA a).grown (zA HG3) ((zA D) _ (by omega)))
 have t3:w3.cell? ⟨w.heap.size,0,none⟩=some (.slice (some ⟨b,X,none⟩) xs.length cap):=(zE (zA HG3) (b:=w.heap.size) (by omega) ((zA D) _ (by omega)) 0).trans t2
 have z3:=(zA HG3).size
 obtain ⟨n0,n1,n2,n3,n4,n5⟩:=zA a
 simp only at n0 n1 n2 n3
 clear HG3 HA3 t2
 rcases zA HO3 with ⟨T,U,rfl,r⟩ | ⟨U,rfl⟩
 case inr=>
  have hj:=zB (show res=none by rw [zA d,U])
  clear U HO3
  go_wp2_with fail
  refine yK (v:=.tuple #[.slice a1 K.length c1,.bool false]) (by simp [results,Tryz.results98,go_sem]) rfl ⟨_,K,false,rfl,HR3,HG,HA,by omega,zB (yR ⟨zA hj,rfl⟩)⟩
 have HT:=zB ((zA he) T U)
 have n:=zB r
 have hO:1<=K.length:=(zAh (zA HT) ns [] r).1
 have hG:=zB (show res=if zBP xs 5 (atT ts H).t T .nil then some (.node 5 0 (atT ts H).t T .nil) else none by rw [zA d,U])
 clear U r HO3 d he
 have HM:=zB ((zA a).set2 ((K.length:Int)-1))
 have hf:=zB ((zA HR3).other (g:=w1.heap.size) (j:=2) (.int .i64 ((K.length:Int)-1)) (zA h8))
 have t4:(w3.setCell ⟨w1.heap.size,2,none⟩ (.int .i64 ((K.length:Int)-1))).cell? ⟨w.heap.size,0,none⟩=some (.slice (some ⟨b,X,none⟩) xs.length cap):=(yg w3 ⟨w1.heap.size,2,none⟩ ⟨w.heap.size,0,none⟩ (.int .i64 ((K.length:Int)-1)) (fun x=>by injection x with x1; omega)).trans t3
 have E:=zB (zQ (zA HG) (⟨rfl,rfl,rfl,by simp [World.setCell],fun i _ hi=>yZ _ _ _ _ (fun e=>hi (by rw [e]))⟩:w3.grownBy (w3.setCell ⟨w1.heap.size,2,none⟩ (.int .i64 ((K.length:Int)-1))) (some w1.heap.size)) (yR ⟨_,rfl,by omega⟩))
 obtain ⟨m0,m1,m2,m3,_,_⟩:=zA HM
 simp only at m0 m1 m2 m3
 clear HG HR3 n0 n1 n3 n5 a t3
 go_wp2_with (at_builtin; refine yJ _ rfl (.tmp 152) (.tmp 154) 123 rfl B 144 i0 _ 4 40 Tryz.underlying123 (zA HI) (zA HZ).1 (zA HZ).2.1 (zA HZ).2.2 rfl (by decide) _ K.length (zL K) rfl ((zA hf).below (zC _ _)) ⟨w3.heap.size,0,none⟩ 1 1 (zL [⟨5,(atT ts H).t,(K.length:Int)-1,0⟩]) rfl rfl (by simpa using Zl (w3.setCell ⟨w1.heap.size,2,none⟩ (.int .i64 ((K.length:Int)-1))) w3.heap.size ⟨5,(atT ts H).t,(K.length:Int)-1,0⟩ (by simp [World.setCell])) (zS _) ?b1 ?b2 ?b3 ?next)
 case b1=>unfold maxLen; omega
 case b2=>omega
 case b3=>first | omega | (have:=(zA E).size; simp at this ⊢; omega)
 case next=>
  intro v4 w4 A J m G
  obtain ⟨Q,y⟩:∃ Q,Q=K++[(⟨5,(atT ts H).t,(K.length:Int)-1,0⟩:zD)]:=⟨_,rfl⟩
  have hz:Q.length=K.length+1:=by rw [y]; simp
  have z:=zB (show ZD w4 B v4 Q by
   rw [y]
   unfold ZD
   rw [zm,ym]
   exact A)
  have M:=zB (zh (zC (w3.setCell ⟨w1.heap.size,2,none⟩ (.int .i64 ((K.length:Int)-1))) _) J)
  have hn:=zB (zQ (zA E) (zA M) (zA HA))
  have hp:=zB (zAU (zA E) (zA HA) v4.ownBlock (G.imp id (fun h=>⟨_,h,by first | exact yh _ | simp⟩)))
  have t5:w4.cell? ⟨w.heap.size,0,none⟩=some (.slice (some ⟨b,X,none⟩) xs.length cap):=(zE (zA M) (b:=w.heap.size) (block_lt_of_cell t4) (zA hD) 0).trans t4
  have hs:=zB ((zA HE).grown (zA hn) (zA hq))
  obtain ⟨g4,c4,rfl,hV,R⟩:=zC5 (zA z) (by omega)
  have f:=zA hs
  have Y:atN Q K.length=⟨5,(atT ts H).t,(K.length:Int)-1,0⟩:=by rw [y]; exact zDu rfl
  have O:=zAh (zA HT) ns [⟨5,(atT ts H).t,(K.length:Int)-1,0⟩] (zA n)
  rw [<- y] at O
  have HX:=zFY b X cap g4 0 c4 K.length xs Q w4 hm (by omega) f.1 (zA hH) (by have:=f.2.2.2.2.2.2; have:=f.2.1; omega) R.2.2 R.1 (by omega) (by rw [Y]; unfold zA7; simp only; omega) j (by rw [Y]; exact zA hk) (K.length-1) 0 (by rw [Y]; simp only; omega) (by rw [Y]; rfl) (by omega) (by omega) (by rw [Y]; exact yQ rfl) O.2.2 (fun h=>by rw [Y] at h; simp [ze] at h)
  have hb:=zMb (q:=5) (zA HT) (by omega) (zA hk) ns (zA n)
  have e6:((K.length:Nat):Int)=(Q.length:Int)-1:=by omega
  have hu:=zB (show zGg xs Q K.length↔zBP xs 5 (atT ts H).t T .nil=true by rw [y]; exact hb)
  have h9:=zB (show Q=ns++nd (.node 5 0 (atT ts H).t T .nil) ns.length by rw [y,zLl (b:=5) rfl,<- zA n]; rfl)
  rw [e6] at HX
  have hI:Q.length<=ns.length+(hi-lo):=by omega
  clear A J m G E M y Y O f R m0 m1 m2 m3 HM hb e6 hz
  go_wp2_with fail
  refine HX.mono ?_
  clear HX
  rintro e w5 ⟨⟨v,rfl,hv⟩,hb5⟩
  have ht:=zB (zQ (zA hn) (zH hb5 u.ownBlock) (yQ rfl))
  have hw:=zB ((zA z).below hb5)
  have HV:=zB hv
  clear hb5 hv
  go_wp2_with fail
  refine yK (v:=.tuple #[.slice (some ⟨g4,0,none⟩) Q.length c4,.bool v]) (by simp [results,Tryz.results98,go_sem]) rfl ⟨_,Q,v,rfl,hw,ht,hp,hI,zB ?_⟩
  have S:v=true↔zBP xs 5 (atT ts H).t T .nil=true:=(zA HV).trans (zA hu)
  rw [zA hG]
  cases v with
  | true=>
   rw [yO (S.1 rfl)]
   exact yQ ⟨_,rfl,rfl,zA h9⟩
  | false=>
   rw [yN (fun h=>Bool.false_ne_true (S.2 h))]
   exact yR ⟨rfl,rfl⟩
def zR5 (xs:List OpR) (t:JZ) (T:ET) (r2:Option ET):Option ET:=match r2 with
 | none=>none
 | some T2=>if zBP xs 4 t T T2 then some (.node 4 0 t T T2) else none
theorem zRe (b q cap gt ot ct gr cr lo hi H:Nat) (xs:List OpR) (ts:List zX) (us:List Int) (B:Nat) (u:Value) (ns:List zD) (w:JY) (hm:xs.length<=1048576) (hs:Zg xs) (hE:BE w B b q gt ot gr xs ts us) (hF:TF xs ts us) (Hu:lo<=H) (Hv:H<hi) (Ha:hi<=ts.length) (hR:zCP (rtF xs (sgs xs ts lo (hi-lo)) lo 0 none)=(H:Int))
  (P:ZD w B u ns) (Hh:ns.length+(hi-lo)<=90000) (R:zi xs ts H=2) (r1 r2:Option ET) (hI:∀ T,r1=some T->Zt xs T) (m:∀ T,r2=some T->Zt xs T)
  (hc:∀ W,BE W B b q gt ot gr xs ts us->ZD W B u ns->Calls Tryz.prog 98 #[.agg #[.slice (some ⟨b,q,none⟩) xs.length cap],.slice (some ⟨gt,ot,none⟩) ts.length ct,.slice (some ⟨gr,0,none⟩) us.length cr,.int .i64 (lo:Int),.int .i64 (H:Int),u] W (zAG W B u ns r1 (H-lo)))
  (hp:∀ W u1 vs1,BE W B b q gt ot gr xs ts us->ZD W B u1 vs1->vs1.length+(hi-H-1)<=90000->Calls Tryz.prog 98 #[.agg #[.slice (some ⟨b,q,none⟩) xs.length cap],.slice (some ⟨gt,ot,none⟩) ts.length ct,.slice (some ⟨gr,0,none⟩) us.length cr,.int .i64 ((H:Int)+1),.int .i64 (hi:Int),u1] W (zAG W B u1 vs1 r2 (hi-H-1)))
  (res:Option ET) (M:res=(match r1 with
   | none=>none
   | some T=>zR5 xs (atT ts H).t T r2)) :
  Calls Tryz.prog 98 #[.agg #[.slice (some ⟨b,q,none⟩) xs.length cap],.slice (some ⟨gt,ot,none⟩) ts.length ct,.slice (some ⟨gr,0,none⟩) us.length cr,.int .i64 (lo:Int),.int .i64 (hi:Int),u] w (zAG w B u ns res (hi-lo)):=by
 obtain ⟨i0,hH,hw,h9,hO⟩:=zN zC7
 have HI:=zB hH
 have HZ:=zB (yH hw (yH h9 hO))
 clear hH hw h9 hO
 have HX:=zA1 (cap:=cap) (ct:=ct) (cr:=cr) hm hE hF (by omega) Ha hR
 have Hr:(H:Int)<(ts.length:Int):=by omega
 have Hm:ts.length<=100000:=hF.len
 have Hc:us.length=ts.length:=by rw [hF.us,Z8]
 have Hj:(H:Int)<(us.length:Int):=by omega
 have HE:=zB hE
 obtain ⟨h1,h2,h3,h4,h5,h6,h7⟩:=hE
 have k2:=(h3 H (by omega)).2.2
 have kr:=h5.2 H (by omega)
 rw [hF.us,zBz (by omega),R] at kr
 have hd:=zC w (.cells #[.slice (some ⟨b,q,none⟩) xs.length cap] 33)
 have o:=zB P
 have ho:=zB P.base
 have O:∀ x,w.heap.size<=x->u.ownBlock≠some x:=fun x hx e=>by have:=World.ownsRow.lt P _ e; omega
 have G:=zB O
 have Hb:gt<w.heap.size:=by omega
 have hX:gr<w.heap.size:=by omega
 have er:decide ((H:Int)<0)=false:=by rw [yT]; omega
 have HC:=zB hc
 have hC:=zB hp
 have hA:=zB hI
 have r:=zB m
 have F:=zB M
 have He:=zB hs
 obtain ⟨j,hy⟩:∃ j,fnd xs (atT ts H).t 2=some j:=by
  rcases (hF.all H (by omega)).1 with ⟨_,_,_,j,h,_⟩ | ⟨_,h0,_⟩
  ·rw [R] at h; exact ⟨j,h⟩
  ·omega
 have hJ:=zB hy
 clear P h1 h3 h5 hF hR R O Hc hc hp hI m M hs hy
 go_enter Tryz.func98,Tryz.ntmps98
 go_wp2_with fail
 refine HX.mono ?_
 clear HX
 rintro e w1 ⟨rfl,hb1⟩
 have V:Below w.heap.size w w1:=hd.trans (hb1.mono hd.size)
 have z1:w.heap.size+1<=w1.heap.size:=by have:=hb1.size; simp at this; omega
 have t1:w1.cell? ⟨w.heap.size,0,none⟩=some (.slice (some ⟨b,q,none⟩) xs.length cap):=(hb1.cell (p:=⟨w.heap.size,0,none⟩) (by simp)).trans (by simp [go_sem])
 replace k2:=(V.cell (p:=⟨gt,ot+H*3+2,none⟩) Hb).trans k2
 replace kr:=(V.cell (p:=⟨gr,H,none⟩) hX).trans kr
 have Hn:gt<w1.heap.size:=by omega
 have Hq:gt≠w1.heap.size:=by omega
 have Hs:gr<w1.heap.size:=by omega
 have Hw:gr≠w1.heap.size:=by omega
 have Hp:w.heap.size≠w1.heap.size:=by omega
 clear hb1 hd
 go_wp2_with fail
 go_region_held (fun w'=>w'.cell? ⟨gt,ot+H*3+2,none⟩=some (.string (atT ts H).t)/\w'.cell? ⟨gr,H,none⟩=some (.int .i64 2)) (go_keep) (fail)
 have hM:IntKind.i64.wrap 4=4:=by rfl
 rw [hM]
 clear hM
 obtain ⟨W2,D⟩:∃ W2,W2=(w1.alloc (.cells #[.int .i64 4,.string (atT ts H).t,.int .i64 0,.int .i64 0] 144)).drew:=⟨_,rfl⟩
 have hg:Below w1.heap.size w1 W2:=by rw [D]; exact (zC _ _).drew
 have d:Below w.heap.size w W2:=V.trans (hg.mono V.size)
 have c:=zB (show ZB W2 w1.heap.size ⟨4,(atT ts H).t,0,0⟩ by
  rw [D]
  exact ZB.below (w:=w1.alloc (.cells #[.int .i64 4,.string (atT ts H).t,.int .i64 0,.int .i64 0] 144)) ⟨by simp [go_sem],by simp [go_sem],by simp [go_sem],by simp [go_sem],by simp [go_sem],by simp [go_sem]⟩ (yG _ _).drew)
 have t2:W2.cell? ⟨w.heap.size,0,none⟩=some (.slice (some ⟨b,q,none⟩) xs.length cap):=(hg.cell (p:=⟨w.heap.size,0,none⟩) (by simp only; omega)).trans t1
 have z2:w1.heap.size+1<=W2.heap.size:=by rw [D]; show _<=(w1.alloc _).heap.size; simp
 obtain ⟨n0,n1,n2,n3,_,_⟩:=zA c
 simp only at n0 n1 n2 n3
 have HX:=(zA HC) W2 ((zA HE).below d) ((zA o).below d)
 rw [<- D]
 clear hg k2 kr t1 D HC o
 go_wp2_with fail
 refine HX.mono ?_
 clear HX n0 n1 n2 n3
 rintro e w3 ⟨u1,vs1,ok,rfl,HR3,HG3,HA3,hl3,HO3⟩
 obtain ⟨a1,c1,hB⟩:=ZQ (zA HR3)
 have HG:=zB (zh d (zA HG3))
 have HA:=zB (show u1.ownBlock=u.ownBlock\/∃ k,u1.ownBlock=some k/\w.heap.size<=k from (zA HA3).imp id (fun ⟨k,h,h'⟩=>⟨k,h,by omega⟩))
 have hf:=zB (show u1.ownBlock≠some w1.heap.size from fun e=>by
  rcases zA HA3 with h | ⟨k,h,h'⟩
  ·exact (zA G) w1.heap.size (by omega) (h.symm.trans e)
  ·rw [h] at e; injection e with e; omega)
 have hG:=zB (show u1.ownBlock≠some w.heap.size from fun e=>by
  rcases zA HA3 with h | ⟨k,h,h'⟩
  ·exact (zA G) w.heap.size (by omega) (h.symm.trans e)
  ·rw [h] at e; injection e with e; omega)
 have Hi:=zB (zA HR3).base
 replace c:=zB ((zA c).grown (zA HG3) ((zA G) _ (by omega)))
 have t3:w3.cell? ⟨w.heap.size,0,none⟩=some (.slice (some ⟨b,q,none⟩) xs.length cap):=(zE (zA HG3) (b:=w.heap.size) (by omega) ((zA G) _ (by omega)) 0).trans t2
 have z3:=(zA HG3).size
 obtain ⟨n0,n1,n2,n3,n4,n5⟩:=zA c
 simp only at n0 n1 n2 n3
 clear HG3 HA3 t2
 rcases zA HO3 with ⟨T,a,rfl,hl⟩ | ⟨a,rfl⟩
 case inr=>
  have f:=zB (show res=none by rw [zA F,a])
  clear a HO3 hB
  go_wp2_with fail
  refine yK (v:=.tuple #[u1,.bool false]) (by simp [results,Tryz.results98,go_sem]) rfl ⟨_,vs1,false,rfl,HR3,HG,HA,by omega,zB (yR ⟨zA f,rfl⟩)⟩
 have HT:=zB ((zA hA) T a)
 have ha:=zB hl
 have Ho:1<=vs1.length:=(zAh (zA HT) ns [] hl).1
 have hk:=zB (show res=zR5 xs (atT ts H).t T r2 by rw [zA F,a])
 clear a hl HO3 F hA
 obtain ⟨W3,Y⟩:∃ W3,W3=w3.setCell ⟨w1.heap.size,2,none⟩ (.int .i64 ((vs1.length:Int)-1)):=⟨_,rfl⟩
 have HM:=zB (show ZB W3 w1.heap.size ⟨4,(atT ts H).t,(vs1.length:Int)-1,0⟩ by rw [Y]; exact (zA c).set2 ((vs1.length:Int)-1))
 have N:=zB (show ZD W3 B u1 vs1 by rw [Y]; exact (zA HR3).other (g:=w1.heap.size) (j:=2) (.int .i64 ((vs1.length:Int)-1)) (zA hf))
 have t4:W3.cell? ⟨w.heap.size,0,none⟩=some (.slice (some ⟨b,q,none⟩) xs.length cap):=by rw [Y]; exact (yg w3 ⟨w1.heap.size,2,none⟩ ⟨w.heap.size,0,none⟩ (.int .i64 ((vs1.length:Int)-1)) (fun x=>by injection x with x1; omega)).trans t3
 have l:=zB (show w.grownBy W3 u.ownBlock by rw [Y]; exact zQ (zA HG) (⟨rfl,rfl,rfl,by simp [World.setCell],fun i _ hi=>yZ _ _ _ _ (fun e=>hi (by rw [e]))⟩:w3.grownBy (w3.setCell ⟨w1.heap.size,2,none⟩ (.int .i64 ((vs1.length:Int)-1))) (some w1.heap.size)) (yR ⟨_,rfl,by omega⟩))
 have zW:W3.heap.size=w3.heap.size:=by rw [Y]; simp [World.setCell]
 have Hk:=zB zW
 have z3':w1.heap.size+1<=W3.heap.size:=by omega
 clear zW
 obtain ⟨m0,m1,m2,m3,m4,m5⟩:=zA HM
 simp only at m0 m1 m2 m3
 have HX:=(zA hC) W3 u1 vs1 ((zA HE).grown (zA l) (zA ho)) (zA N) (by omega)
 subst hB
 have Hd:=zB Y
 have Hg:vs1.length<=90000:=by omega
 clear HG HR3 n1 n3 n5 c hC
 clear Y
 go_wp2_with fail
 rw [<- zA Hd]
 go_wp2_with fail
 refine HX.mono ?_
 clear HX n0 n2 n4 t3 m0 m1 m2 m3 m4 m5
 rintro e w5 ⟨u2,K,ok2,rfl,HR5,HG5,HA5,hl5,HO5⟩
 obtain ⟨a2,c2,rfl⟩:=ZQ (zA HR5)
 have hb:=zB (zQ (zA l) (zA HG5) (zA HA))
 have hj:=zB (zAU (zA l) (zA HA) (Value.slice a2 K.length c2).ownBlock (zA HA5))
 have hD:=zB (show (Value.slice a2 K.length c2).ownBlock≠some w1.heap.size from fun e=>by
  rcases zA HA5 with h | ⟨k,h,h'⟩
  ·exact (zA hf) (h.symm.trans e)
  ·rw [h] at e; injection e with e; omega)
 have hq:=zB (show (Value.slice a2 K.length c2).ownBlock≠some w.heap.size from fun e=>by
  rcases zA HA5 with h | ⟨k,h,h'⟩
  ·exact (zA hG) (h.symm.trans e)
  ·rw [h] at e; injection e with e; omega)
 have Z:=zB ((zA HM).grown (zA HG5) (zA hf))
 have t5:w5.cell? ⟨w.heap.size,0,none⟩=some (.slice (some ⟨b,q,none⟩) xs.length cap):=(zE (zA HG5) (b:=w.heap.size) (block_lt_of_cell t4) (zA hG) 0).trans t4
 have z5:=(zA HG5).size
 obtain ⟨n0,n1,n2,n3,n4,n5⟩:=zA Z
 simp only at n0 n1 n2 n3
 clear HG5 HA5 t4 HM l HA N
 rcases zA HO5 with ⟨T2,U,rfl,E⟩ | ⟨U,rfl⟩
 case inr=>
  have f:=zB (show res=none by rw [zA hk,U]; rfl)
  clear U HO5
  go_wp2_with fail
  refine yK (v:=.tuple #[.slice a2 K.length c2,.bool false]) (by simp [results,Tryz.results98,go_sem]) rfl ⟨_,K,false,rfl,HR5,hb,hj,by omega,zB (yR ⟨zA f,rfl⟩)⟩
 have hh:=zB ((zA r) T2 U)
 have y:=zB E
 have Hl:1<=K.length:=(zAh (zA hh) vs1 [] E).1
 have hQ:=zB (show res=if zBP xs 4 (atT ts H).t T T2 then some (.node 4 0 (atT ts H).t T T2) else none by rw [zA hk,U]; rfl)
 clear U E HO5 hk r
 have hz:=zB ((zA Z).set3 ((K.length:Int)-1))
 have hK:=zB ((zA HR5).other (g:=w1.heap.size) (j:=3) (.int .i64 ((K.length:Int)-1)) (zA hD))
 have t6:(w5.setCell ⟨w1.heap.size,3,none⟩ (.int .i64 ((K.length:Int)-1))).cell? ⟨w.heap.size,0,none⟩=some (.slice (some ⟨b,q,none⟩) xs.length cap):=(yg w5 ⟨w1.heap.size,3,none⟩ ⟨w.heap.size,0,none⟩ (.int .i64 ((K.length:Int)-1)) (fun x=>by injection x with x1; omega)).trans t5
 have I:=zB (zQ (zA hb) (⟨rfl,rfl,rfl,by simp [World.setCell],fun i _ hi=>yZ _ _ _ _ (fun e=>hi (by rw [e]))⟩:w5.grownBy (w5.setCell ⟨w1.heap.size,3,none⟩ (.int .i64 ((K.length:Int)-1))) (some w1.heap.size)) (yR ⟨_,rfl,by omega⟩))
 obtain ⟨m0,m1,m2,m3,_,_⟩:=zA hz
 simp only at m0 m1 m2 m3
 clear hb HR5 n0 n1 n2 n4 Z t5
 go_wp2_with (at_builtin; refine yJ _ rfl (.tmp 152) (.tmp 154) 123 rfl B 144 i0 _ 4 40 Tryz.underlying123 (zA HI) (zA HZ).1 (zA HZ).2.1 (zA HZ).2.2 rfl (by decide) _ K.length (zL K) rfl ((zA hK).below (zC _ _)) ⟨w5.heap.size,0,none⟩ 1 1 (zL [⟨4,(atT ts H).t,(vs1.length:Int)-1,(K.length:Int)-1⟩]) rfl rfl (by simpa using Zl (w5.setCell ⟨w1.heap.size,3,none⟩ (.int .i64 ((K.length:Int)-1))) w5.heap.size ⟨4,(atT ts H).t,(vs1.length:Int)-1,(K.length:Int)-1⟩ (by simp [World.setCell])) (zS _) ?b1 ?b2 ?b3 ?next)
 case b1=>unfold maxLen; omega
 case b2=>omega
 case b3=>first | omega | (have:=(zA I).size; simp at this ⊢; omega)
 case next=>
  intro v4 w6 C J s n
  obtain ⟨X,Q⟩:∃ X,X=K++[(⟨4,(atT ts H).t,(vs1.length:Int)-1,(K.length:Int)-1⟩:zD)]:=⟨_,rfl⟩
  have hY:X.length=K.length+1:=by rw [Q]; simp
  have hu:=zB (show ZD w6 B v4 X by
   rw [Q]
   unfold ZD
   rw [zm,ym]
   exact C)
  have z:=zB (zh (zC (w5.setCell ⟨w1.heap.size,3,none⟩ (.int .i64 ((K.length:Int)-1))) _) J)
  have hN:=zB (zQ (zA I) (zA z) (zA hj))
  have hS:=zB (zAU (zA I) (zA hj) v4.ownBlock (n.imp id (fun h=>⟨_,h,by first | exact yh _ | simp⟩)))
  have t7:w6.cell? ⟨w.heap.size,0,none⟩=some (.slice (some ⟨b,q,none⟩) xs.length cap):=(zE (zA z) (b:=w.heap.size) (block_lt_of_cell t6) (zA hq) 0).trans t6
  have hU:=zB ((zA HE).grown (zA hN) (zA ho))
  obtain ⟨g4,c4,rfl,Ht,hn⟩:=zC5 (zA hu) (by omega)
  have L:=zA hU
  have A:atN X K.length=⟨4,(atT ts H).t,(vs1.length:Int)-1,(K.length:Int)-1⟩:=by rw [Q]; exact zDu rfl
  have he:=zAh (zA HT) ns (nd T2 vs1.length++[⟨4,(atT ts H).t,(vs1.length:Int)-1,(K.length:Int)-1⟩]) (zA ha)
  rw [<- yx,<- zA y,<- Q] at he
  have S:=zAh (zA hh) vs1 [⟨4,(atT ts H).t,(vs1.length:Int)-1,(K.length:Int)-1⟩] (zA y)
  rw [<- Q] at S
  have hV:vs1.length<=K.length:=by rw [zA y,ym]; omega
  have HX:=zFY b q cap g4 0 c4 K.length xs X w6 hm (by omega) L.1 (zA He) (by have:=L.2.2.2.2.2.2; have:=L.2.1; omega) hn.2.2 hn.1 (by omega) (by rw [A]; unfold zA7; simp only; omega) j (by rw [A]; exact zA hJ) (vs1.length-1) (K.length-1) (by rw [A]; simp only; omega) (by rw [A]; simp only; omega) (by omega) (by omega) (by rw [A]; exact yR rfl) he.2.2 (fun _=>S.2.2)
  have h8:=zQL (zA HT) (zA hh) (zA hJ) ns (zA ha) (zA y)
  have e6:((K.length:Nat):Int)=(X.length:Int)-1:=by omega
  have hW:=zB (show zGg xs X K.length↔zBP xs 4 (atT ts H).t T T2=true by rw [Q]; exact h8)
  have hZ:=zB (show X=ns++nd (.node 4 0 (atT ts H).t T T2) ns.length by rw [Q,zRc,<- zA ha,<- zA y])
  rw [e6] at HX
  have hr:X.length<=ns.length+(hi-lo):=by omega
  clear C J s n I z Q A he S L hn m0 m1 m2 m3 hz h8 e6 hY
  go_wp2_with fail
  refine HX.mono ?_
  clear HX
  rintro e w7 ⟨⟨v,rfl,hv⟩,hb7⟩
  have hP:=zB (zQ (zA hN) (zH hb7 u.ownBlock) (yQ rfl))
  have Hf:=zB ((zA hu).below hb7)
  have HV:=zB hv
  clear hb7 hv
  go_wp2_with fail
  refine yK (v:=.tuple #[.slice (some ⟨g4,0,none⟩) X.length c4,.bool v]) (by simp [results,Tryz.results98,go_sem]) rfl ⟨_,X,v,rfl,Hf,hP,hS,hr,zB ?_⟩
  have ht:v=true↔zBP xs 4 (atT ts H).t T T2=true:=(zA HV).trans (zA hW)
  rw [zA hQ]
  cases v with
  | true=>
   rw [yO (ht.1 rfl)]
   exact yQ ⟨_,rfl,rfl,zA hZ⟩
  | false=>
   rw [yN (fun h=>Bool.false_ne_true (ht.2 h))]
   exact yR ⟨rfl,rfl⟩
end Go.Proofs.YtgbkgkdpdfdokaaGreatDoor
