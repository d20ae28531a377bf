import Derived.Test.YtadiaghhackbjaaGreatDoorU19
import Derived.Test.YtadiaghhackbjaaGreatDoorU20
namespace Go.Proofs.YtadiaghhackbjaaGreatDoor
set_option linter.all false
set_option maxHeartbeats 0
set_option maxRecDepth 100000
open Proofs.Tryz RowKit
theorem zVC(b K cap gt ot ct gr cr lo hi h:Nat)(xs:List OpR)(ts:List zU)(us:List Int)(B:Nat)(u:Value)(ns:List zD)(w:JY)(hm:xs.length<=1048576)(A:ZA xs)(hE:BE w B b K gt ot gr xs ts us)(hF:TF xs ts us)(l:lo<=h)(a:h<hi)(V:hi<=ts.length)(hR:zDv (rtF xs (sgs xs ts lo (hi-lo)) lo 0 none)=(h:Int))(k:ZK w B u ns)(U:ns.length+(hi-lo)<=90000)(X:zZ xs ts h=1)(g:h≠lo):Calls prog 68 #[.agg #[.slice (some (Qa b K)) xs.length cap],.slice (some (Qa gt ot)) ts.length ct,Ql gr us.length cr,Qi lo,Qi hi,u] w (zAu w B u ns none (hi-lo)):=by
 have HX:=zBq (cap:=cap) (ct:=ct) (cr:=cr) hm hE hF Jo V hR;have I:(h:Int)<(ts.length:Int):=Jo;have c:ts.length<=100000:=hF.len;have P:us.length=ts.length:=by rw[hF.us,zAP]
 have E:(h:Int)<(us.length:Int):=Jo;have HE:=zB hE;obtain⟨h1,h2,h3,h4,h5,h6,h7⟩:=hE;have k2:=(h3 h Jo).2.2;have kr:=h5.2 h Jo;rw[hF.us,zDA Jo,X] at kr;have Q:=zC w (.cells #[.slice (some (Qa b K)) xs.length cap] 63);have y:=zB k;have C:=zB k.base;have q:∀x,w.heap.size<=x->u.ownBlock≠some x:=fun x hx e=>Jy (World.ownsRow.lt k _ e)
 have f:=zB q;have j:gt<w.heap.size:=Jo;have J:gr<w.heap.size:=Jo;have er:decide ((h:Int)<0)=false:=by rw[yW];omega
 have eN:((h:Int)!=(lo:Int))=true:=Jq;clear k h1 h3 h5 hF hR X q P;go_enter func68,ntmps68;go_wp2_with fail;refine HX.mono ?_;clear HX;rintro e w1 ⟨rfl,hb1⟩;have H:Qb w w1:=Q.trans (hb1.mono Q.size);have z1:w.heap.size+1<=w1.heap.size:=Jz hb1.size
 have t1:w1.cell? (Qa w.heap.size 0)=some (.slice (some (Qa b K)) xs.length cap):=Jc hb1 Jh Jg;replace k2:=(H.cell (p:=(Qa gt (ot+h*3+2))) j).trans k2;replace kr:=Jc H Jh kr;have D:gt<w1.heap.size:=Jo;have G:gt≠w1.heap.size:=Jo;have d:gr<w1.heap.size:=Jo;have i:gr≠w1.heap.size:=Jo;have F:w.heap.size≠w1.heap.size:=Jo;clear hb1 Q;go_wp2_with fail;go_region_held (fun w'=>w'.cell? (Qa gt (ot+h*3+2))=some (Qs (atT ts h).t)/\w'.cell? (Qa gr h)=some (Qi 1)) (go_keep) (fail);have Y:Hid (Qb w (w1.alloc (.cells #[Qi 3,Qs (atT ts h).t,Qi 0,Qi 0] 106)).drew):=(H.alloc H.size _).drew;go_wp2_with fail;refine yN (v:=.tuple #[u,.bool false]) (by simp[results,results68,go_sem]) rfl ⟨u,ns,false,rfl,zB (y.below Y),zB (zE Y _),zB (yS rfl),Jo,zB (yU ⟨rfl,rfl⟩)⟩
theorem zVD(b K cap gt ot ct gr cr lo hi h:Nat)(xs:List OpR)(ts:List zU)(us:List Int)(B:Nat)(u:Value)(ns:List zD)(w:JY)(hm:xs.length<=1048576)(A:ZA xs)(hE:BE w B b K gt ot gr xs ts us)(hF:TF xs ts us)(l:lo<=h)(a:h<hi)(V:hi<=ts.length)(hR:zDv (rtF xs (sgs xs ts lo (hi-lo)) lo 0 none)=(h:Int))(k:ZK w B u ns)(U:ns.length+(hi-lo)<=90000)(X:zZ xs ts h=3)(g:h+1≠hi):Calls prog 68 #[.agg #[.slice (some (Qa b K)) xs.length cap],.slice (some (Qa gt ot)) ts.length ct,Ql gr us.length cr,Qi lo,Qi hi,u] w (zAu w B u ns none (hi-lo)):=by
 have HX:=zBq (cap:=cap) (ct:=ct) (cr:=cr) hm hE hF Jo V hR;have I:(h:Int)<(ts.length:Int):=Jo;have c:ts.length<=100000:=hF.len;have P:us.length=ts.length:=by rw[hF.us,zAP]
 have E:(h:Int)<(us.length:Int):=Jo;have HE:=zB hE;obtain⟨h1,h2,h3,h4,h5,h6,h7⟩:=hE;have k2:=(h3 h Jo).2.2;have kr:=h5.2 h Jo;rw[hF.us,zDA Jo,X] at kr;have Q:=zC w (.cells #[.slice (some (Qa b K)) xs.length cap] 63);have y:=zB k;have C:=zB k.base;have q:∀x,w.heap.size<=x->u.ownBlock≠some x:=fun x hx e=>Jy (World.ownsRow.lt k _ e)
 have f:=zB q;have j:gt<w.heap.size:=Jo;have J:gr<w.heap.size:=Jo;have er:decide ((h:Int)<0)=false:=by rw[yW];omega
 have eN:((h:Int)!=(hi:Int)-1)=true:=Jq;clear k h1 h3 h5 hF hR X q P;go_enter func68,ntmps68;go_wp2_with fail;refine HX.mono ?_;clear HX;rintro e w1 ⟨rfl,hb1⟩;have H:Qb w w1:=Q.trans (hb1.mono Q.size);have z1:w.heap.size+1<=w1.heap.size:=Jz hb1.size
 have t1:w1.cell? (Qa w.heap.size 0)=some (.slice (some (Qa b K)) xs.length cap):=Jc hb1 Jh Jg;replace k2:=(H.cell (p:=(Qa gt (ot+h*3+2))) j).trans k2;replace kr:=Jc H Jh kr;have D:gt<w1.heap.size:=Jo;have G:gt≠w1.heap.size:=Jo;have d:gr<w1.heap.size:=Jo;have i:gr≠w1.heap.size:=Jo;have F:w.heap.size≠w1.heap.size:=Jo;clear hb1 Q;go_wp2_with fail;go_region_held (fun w'=>w'.cell? (Qa gt (ot+h*3+2))=some (Qs (atT ts h).t)/\w'.cell? (Qa gr h)=some (Qi 3)) (go_keep) (fail);have Y:Hid (Qb w (w1.alloc (.cells #[Qi 5,Qs (atT ts h).t,Qi 0,Qi 0] 106)).drew):=(H.alloc H.size _).drew;go_wp2_with fail;refine yN (v:=.tuple #[u,.bool false]) (by simp[results,results68,go_sem]) rfl ⟨u,ns,false,rfl,zB (y.below Y),zB (zE Y _),zB (yS rfl),Jo,zB (yU ⟨rfl,rfl⟩)⟩
theorem zWf(b X cap gt ot ct gr cr lo hi H:Nat)(xs:List OpR)(ts:List zU)(us:List Int)(B:Nat)(u:Value)(ns:List zD)(w:JY)(hm:xs.length<=1048576)(hf:ZA xs)(hE:BE w B b X gt ot gr xs ts us)(hF:TF xs ts us)(hZ:lo<=H)(hV:H<hi)(hC:hi<=ts.length)(hR:zDv (rtF xs (sgs xs ts lo (hi-lo)) lo 0 none)=(H:Int))(V:ZK w B u ns)(hK:ns.length+(hi-lo)<=90000)(o:zZ xs ts H=1)(hs:H=lo)(r1:Option ET)(Z:∀T,r1=some T->zn xs T)(hc:∀W,BE W B b X gt ot gr xs ts us->ZK W B u ns->Calls prog 68 #[.agg #[.slice (some (Qa b X)) xs.length cap],.slice (some (Qa gt ot)) ts.length ct,Ql gr us.length cr,Qi ((lo:Int)+1),Qi hi,u] W (zAu W B u ns r1 (hi-lo-1)))(res:Option ET)(G:res=(match r1 with
   |none=>none
   |some T=>if zCJ xs 3 (atT ts H).t T .nil then some (.node 3 0 (atT ts H).t T .nil) else none)):Calls prog 68 #[.agg #[.slice (some (Qa b X)) xs.length cap],.slice (some (Qa gt ot)) ts.length ct,Ql gr us.length cr,Qi lo,Qi hi,u] w (zAu w B u ns res (hi-lo)):=by
 obtain⟨i0,he,hg,hj,hk⟩:=zS zDK;have HI:=zB he;have HZ:=zB (yK hg (yK hj hk));clear he hg hj hk;have HX:=zBq (cap:=cap) (ct:=ct) (cr:=cr) hm hE hF Jo hC hR;have hX:(H:Int)<(ts.length:Int):=Jo;have hM:ts.length<=100000:=hF.len;have hu:us.length=ts.length:=by rw[hF.us,zAP]
 have hW:(H:Int)<(us.length:Int):=Jo;have HE:=zB hE;obtain⟨h1,h2,h3,h4,h5,h6,h7⟩:=hE;have k2:=(h3 H Jo).2.2;have kr:=h5.2 H Jo;rw[hF.us,zDA Jo,o] at kr;have O:=zC w (.cells #[.slice (some (Qa b X)) xs.length cap] 63);have I:=zB V;have h9:=zB V.base;have F:∀x,w.heap.size<=x->u.ownBlock≠some x:=fun x hx e=>Jy (World.ownsRow.lt V _ e)
 have D:=zB F;have hq:gt<w.heap.size:=Jo;have h8:gr<w.heap.size:=Jo;have er:decide ((H:Int)<0)=false:=by rw[yW];omega
 have eN:((H:Int)!=(lo:Int))=false:=Jq;have HC:=zB hc;have hh:=zB Z;have A:=zB G;have hI:=zB hf;obtain⟨j,hd⟩:∃j,fnd xs (atT ts H).t (((3:Nat):Int)-2)=some j:=by
  rcases(hF.all H Jo).1 with⟨_,_,_,j,h,_⟩|⟨_,h0,_⟩
  ·rw[o] at h;exact⟨j,h⟩
  ·omega
 have hl:=zB hd;clear V h1 h3 h5 hF hR o F hu hc Z G hf hd hs;go_enter func68,ntmps68;go_wp2_with fail;refine HX.mono ?_;clear HX;rintro e w1 ⟨rfl,hb1⟩;have J:Qb w w1:=O.trans (hb1.mono O.size);have z1:w.heap.size+1<=w1.heap.size:=Jz hb1.size
 have t1:w1.cell? (Qa w.heap.size 0)=some (.slice (some (Qa b X)) xs.length cap):=Jc hb1 Jh Jg;replace k2:=(J.cell (p:=(Qa gt (ot+H*3+2))) hq).trans k2;replace kr:=Jc J h8 kr;have hQ:gt<w1.heap.size:=Jo;have hU:gt≠w1.heap.size:=Jo;have hP:gr<w1.heap.size:=Jo;have hO:gr≠w1.heap.size:=Jo;have hS:w.heap.size≠w1.heap.size:=Jo;clear hb1 O;go_wp2_with fail;go_region_held (fun w'=>w'.cell? (Qa gt (ot+H*3+2))=some (Qs (atT ts H).t)/\w'.cell? (Qa gr H)=some (Qi 1)) (go_keep) (fail);have hn:IntKind.i64.wrap 3=3:=by rfl
 rw[hn];clear hn;obtain⟨W2,d⟩:=Jx ((w1.alloc (.cells #[Qi 3,Qs (atT ts H).t,Qi 0,Qi 0] 106)).drew);have R:Qb w1 W2:=by rw[d];exact(zC _ _).drew
 have C:Qb w W2:=J.trans (R.mono J.size);have U:=zB (show Zj W2 w1.heap.size ⟨3,(atT ts H).t,0,0⟩ by
  rw[d]
  exact Zj.below (w:=w1.alloc (.cells #[Qi 3,Qs (atT ts H).t,Qi 0,Qi 0] 106)) ⟨Jg,Jg,Jg,Jg,Jg,Jg⟩ (yJ _ _).drew)
 have t2:W2.cell? (Qa w.heap.size 0)=some (.slice (some (Qa b X)) xs.length cap):=Jc R Jh t1;have z2:w1.heap.size+1<=W2.heap.size:=by rw[d];show _<=(w1.alloc _).heap.size;simp
 obtain⟨n0,n1,n2,n3,_,_⟩:=zA U;simp only at n0 n1 n2 n3;have HX:=(zA HC) W2 (HE.below C) (I.below C);rw[<-d];clear R k2 kr t1 d HC I;go_wp2_with fail;refine HX.mono ?_;clear HX n0 n1 n2 n3;rintro e w3 ⟨u1,K,ok,rfl,HR3,HG3,HA3,hl3,HO3⟩;obtain⟨a1,c1,rfl⟩:=ZE HR3;have HG:=zB (zV C HG3);have HA:Hid ((Value.slice a1 K.length c1).ownBlock=u.ownBlock\/∃k,(Value.slice a1 K.length c1).ownBlock=some k/\w.heap.size<=k):=HA3.imp id (fun⟨k,h,h'⟩=>⟨k,h,Jo⟩);have hr:=zB (show(Value.slice a1 K.length c1).ownBlock≠some w1.heap.size from fun e=>by
  rcases zA HA3 with h|⟨k,h,h'⟩
  ·exact D w1.heap.size Jo (h.symm.trans e)
  ·rw[h] at e;injection e with e;omega)
 have hJ:=zB (show(Value.slice a1 K.length c1).ownBlock≠some w.heap.size from fun e=>by
  rcases zA HA3 with h|⟨k,h,h'⟩
  ·exact D w.heap.size Jo (h.symm.trans e)
  ·rw[h] at e;injection e with e;omega)
 replace U:=zB (U.grown HG3 (D _ Jo));have t3:w3.cell? (Qa w.heap.size 0)=some (.slice (some (Qa b X)) xs.length cap):=(zK HG3 (b:=w.heap.size) Jo (D _ Jo) 0).trans t2;have z3:=HG3.size;obtain⟨n0,n1,n2,n3,n4,n5⟩:=zA U;simp only at n0 n1 n2 n3;clear HG3 HA3 t2;rcases zA HO3 with⟨T,a,rfl,n⟩|⟨a,rfl⟩;case inr=>
  have hp:=zB (by rw[zA A,a]:res=none);clear a HO3;go_wp2_with fail;refine yN (v:=.tuple #[.slice a1 K.length c1,.bool false]) (by simp[results,results68,go_sem]) rfl ⟨_,K,false,rfl,HR3,HG,HA,Jo,zB (yU ⟨hp,rfl⟩)⟩
 have HT:=zB (hh T a);have N:=zB n;have hN:1<=K.length:=(zBP HT ns [] n).1;have hB:=zB (by rw[zA A,a]:res=if zCJ xs 3 (atT ts H).t T .nil then some (.node 3 0 (atT ts H).t T .nil) else none);clear a n HO3 A hh;have HM:=zB (U.set2 ((K.length:Int)-1));have S:=zB (HR3.other (g:=w1.heap.size) (j:=2) (Qi ((K.length:Int)-1)) hr);have t4:(w3.setCell (Qa w1.heap.size 2) (Qi ((K.length:Int)-1))).cell? (Qa w.heap.size 0)=some (.slice (some (Qa b X)) xs.length cap):=(yj w3 (Qa w1.heap.size 2) (Qa w.heap.size 0) (Qi ((K.length:Int)-1)) (fun x=>by injection x with x1;omega)).trans t3;have E:=zB (zX HG (⟨rfl,rfl,rfl,Jt,fun i _ hi=>je _ _ _ _ (fun e=>hi (by rw[e]))⟩:w3.grownBy (w3.setCell (Qa w1.heap.size 2) (Qi ((K.length:Int)-1))) (some w1.heap.size)) (yU ⟨_,rfl,Jo⟩));obtain⟨m0,m1,m2,m3,_,_⟩:=zA HM;simp only at m0 m1 m2 m3;clear HG HR3 n0 n1 n3 n5 U t3;go_wp2_with (at_builtin;refine yL _ rfl (.tmp 152) (.tmp 154) 68 rfl B 106 i0 _ 4 40 underlying68 HI HZ.1 HZ.2.1 HZ.2.2 rfl Jd _ K.length (zT K) rfl (S.below (zC _ _)) (Qa w3.heap.size 0) 1 1 (zT [⟨3,(atT ts H).t,(K.length:Int)-1,0⟩]) rfl rfl (Ju (zAr (w3.setCell (Qa w1.heap.size 2) (Qi ((K.length:Int)-1))) w3.heap.size ⟨3,(atT ts H).t,(K.length:Int)-1,0⟩ Jt)) (zj _) ?b1 ?b2 ?b3 ?next);case b1=>exact Jm
 case b2=>omega
 case b3=>first|omega|(have:=E.size;simp at this ⊢;omega)
 case next=>
  intro v4 w4 c P r l;obtain⟨Q,y⟩:=Jx (K++[(⟨3,(atT ts H).t,(K.length:Int)-1,0⟩:zD)]);have hw:Q.length=K.length+1:=by rw[y];simp
  have hb:=zB (show ZK w4 B v4 Q by
   rw[y]
   unfold ZK
   rw[ze,yq]
   exact c)
  have M:=zB (zV (zC (w3.setCell (Qa w1.heap.size 2) (Qi ((K.length:Int)-1))) _) P);have ha:=zB (zX E M HA);have hy:=zB (ZZ E HA v4.ownBlock (l.imp id (fun h=>⟨_,h,by first|exact yk _|simp⟩)));have t5:w4.cell? (Qa w.heap.size 0)=some (.slice (some (Qa b X)) xs.length cap):=(zK M (b:=w.heap.size) (block_lt_of_cell t4) hJ 0).trans t4;have ht:=zB (HE.grown ha h9);obtain⟨g4,c4,rfl,hY,L⟩:=zDc hb Jo;have f:=zA ht;have Y:atN Q K.length=⟨3,(atT ts H).t,(K.length:Int)-1,0⟩:=by rw[y];exact zF1 rfl
  have m:=zBP HT ns [⟨3,(atT ts H).t,(K.length:Int)-1,0⟩] N;rw[<-y] at m;have HX:=zHr b X cap g4 0 c4 K.length xs Q w4 hm Jo f.1 hI (by have:=f.2.2.2.2.2.2;have:=f.2.1;omega) L.2.2 L.1 Jo (by rw[Y];unfold Zh;simp only;omega) j (by rw[Y];exact hl) (K.length-1) 0 (by rw[Y];simp only;omega) (by rw[Y];rfl) Jo Jo (by rw[Y];exact yS rfl) m.2.2 (fun h=>by rw[Y] at h;simp[zY] at h);have s:=zQZ (q:=3) HT Jo hl ns N;have e6:((K.length:Nat):Int)=(Q.length:Int)-1:=Jo;have hz:=zB (by rw[y];exact s:zJF xs Q K.length↔zCJ xs 3 (atT ts H).t T .nil=true);have hG:=zB (by rw[y,zPR (b:=3) rfl,<-zA N];rfl:Q=ns++nd (.node 3 0 (atT ts H).t T .nil) ns.length);rw[e6] at HX;have hH:Q.length<=ns.length+(hi-lo):=Jo;clear c P r l E M y Y m f L m0 m1 m2 m3 HM s e6 hw;go_wp2_with fail;refine HX.mono ?_;clear HX;rintro e w5 ⟨⟨v,rfl,hv⟩,hb5⟩;have hD:=zB (zX ha (zE hb5 u.ownBlock) (yS rfl));have hA:=zB (hb.below hb5);have HV:=zB hv;clear hb5 hv;go_wp2_with fail;refine yN (v:=.tuple #[Ql g4 Q.length c4,.bool v]) (by simp[results,results68,go_sem]) rfl ⟨_,Q,v,rfl,hA,hD,hy,hH,zB ?_⟩;have ho:v=true↔zCJ xs 3 (atT ts H).t T .nil=true:=HV.trans hz;rw[zA hB];cases v with
  |true=>
   rw[yQ (ho.1 rfl)];exact yS ⟨_,rfl,rfl,hG⟩
  |false=>
   rw[yP (fun h=>Bool.false_ne_true (ho.2 h))];exact yU ⟨rfl,rfl⟩
theorem zVE(b X cap gt ot ct gr cr lo hi H:Nat)(xs:List OpR)(ts:List zU)(us:List Int)(B:Nat)(u:Value)(ns:List zD)(w:JY)(hm:xs.length<=1048576)(hf:ZA xs)(hE:BE w B b X gt ot gr xs ts us)(hF:TF xs ts us)(hZ:lo<=H)(hV:H<hi)(hC:hi<=ts.length)(hR:zDv (rtF xs (sgs xs ts lo (hi-lo)) lo 0 none)=(H:Int))(V:ZK w B u ns)(hK:ns.length+(hi-lo)<=90000)(o:zZ xs ts H=3)(hs:H+1=hi)(r1:Option ET)(Z:∀T,r1=some T->zn xs T)(hc:∀W,BE W B b X gt ot gr xs ts us->ZK W B u ns->Calls prog 68 #[.agg #[.slice (some (Qa b X)) xs.length cap],.slice (some (Qa gt ot)) ts.length ct,Ql gr us.length cr,Qi lo,Qi H,u] W (zAu W B u ns r1 (hi-lo-1)))(res:Option ET)(G:res=(match r1 with
   |none=>none
   |some T=>if zCJ xs 5 (atT ts H).t T .nil then some (.node 5 0 (atT ts H).t T .nil) else none)):Calls prog 68 #[.agg #[.slice (some (Qa b X)) xs.length cap],.slice (some (Qa gt ot)) ts.length ct,Ql gr us.length cr,Qi lo,Qi hi,u] w (zAu w B u ns res (hi-lo)):=by
 obtain⟨i0,he,hg,hj,hk⟩:=zS zDK;have HI:=zB he;have HZ:=zB (yK hg (yK hj hk));clear he hg hj hk;have HX:=zBq (cap:=cap) (ct:=ct) (cr:=cr) hm hE hF Jo hC hR;have hX:(H:Int)<(ts.length:Int):=Jo;have hM:ts.length<=100000:=hF.len;have hu:us.length=ts.length:=by rw[hF.us,zAP]
 have hW:(H:Int)<(us.length:Int):=Jo;have HE:=zB hE;obtain⟨h1,h2,h3,h4,h5,h6,h7⟩:=hE;have k2:=(h3 H Jo).2.2;have kr:=h5.2 H Jo;rw[hF.us,zDA Jo,o] at kr;have O:=zC w (.cells #[.slice (some (Qa b X)) xs.length cap] 63);have I:=zB V;have h9:=zB V.base;have F:∀x,w.heap.size<=x->u.ownBlock≠some x:=fun x hx e=>Jy (World.ownsRow.lt V _ e)
 have D:=zB F;have hq:gt<w.heap.size:=Jo;have h8:gr<w.heap.size:=Jo;have er:decide ((H:Int)<0)=false:=by rw[yW];omega
 have eN:((H:Int)!=(hi:Int)-1)=false:=Jq;have HC:=zB hc;have hh:=zB Z;have A:=zB G;have hI:=zB hf;obtain⟨j,hd⟩:∃j,fnd xs (atT ts H).t (((5:Nat):Int)-2)=some j:=by
  rcases(hF.all H Jo).1 with⟨_,_,_,j,h,_⟩|⟨_,h0,_⟩
  ·rw[o] at h;exact⟨j,h⟩
  ·omega
 have hl:=zB hd;clear V h1 h3 h5 hF hR o F hu hc Z G hf hd hs;go_enter func68,ntmps68;go_wp2_with fail;refine HX.mono ?_;clear HX;rintro e w1 ⟨rfl,hb1⟩;have J:Qb w w1:=O.trans (hb1.mono O.size);have z1:w.heap.size+1<=w1.heap.size:=Jz hb1.size
 have t1:w1.cell? (Qa w.heap.size 0)=some (.slice (some (Qa b X)) xs.length cap):=Jc hb1 Jh Jg;replace k2:=(J.cell (p:=(Qa gt (ot+H*3+2))) hq).trans k2;replace kr:=Jc J h8 kr;have hQ:gt<w1.heap.size:=Jo;have hU:gt≠w1.heap.size:=Jo;have hP:gr<w1.heap.size:=Jo;have hO:gr≠w1.heap.size:=Jo;have hS:w.heap.size≠w1.heap.size:=Jo;clear hb1 O;go_wp2_with fail;go_region_held (fun w'=>w'.cell? (Qa gt (ot+H*3+2))=some (Qs (atT ts H).t)/\w'.cell? (Qa gr H)=some (Qi 3)) (go_keep) (fail);have hn:IntKind.i64.wrap 5=5:=by rfl
 rw[hn];clear hn;obtain⟨W2,d⟩:=Jx ((w1.alloc (.cells #[Qi 5,Qs (atT ts H).t,Qi 0,Qi 0] 106)).drew);have R:Qb w1 W2:=by rw[d];exact(zC _ _).drew
 have C:Qb w W2:=J.trans (R.mono J.size);have U:=zB (show Zj W2 w1.heap.size ⟨5,(atT ts H).t,0,0⟩ by
  rw[d]
  exact Zj.below (w:=w1.alloc (.cells #[Qi 5,Qs (atT ts H).t,Qi 0,Qi 0] 106)) ⟨Jg,Jg,Jg,Jg,Jg,Jg⟩ (yJ _ _).drew)
 have t2:W2.cell? (Qa w.heap.size 0)=some (.slice (some (Qa b X)) xs.length cap):=Jc R Jh t1;have z2:w1.heap.size+1<=W2.heap.size:=by rw[d];show _<=(w1.alloc _).heap.size;simp
 obtain⟨n0,n1,n2,n3,_,_⟩:=zA U;simp only at n0 n1 n2 n3;have HX:=(zA HC) W2 (HE.below C) (I.below C);rw[<-d];clear R k2 kr t1 d HC I;go_wp2_with fail;refine HX.mono ?_;clear HX n0 n1 n2 n3;rintro e w3 ⟨u1,K,ok,rfl,HR3,HG3,HA3,hl3,HO3⟩;obtain⟨a1,c1,rfl⟩:=ZE HR3;have HG:=zB (zV C HG3);have HA:Hid ((Value.slice a1 K.length c1).ownBlock=u.ownBlock\/∃k,(Value.slice a1 K.length c1).ownBlock=some k/\w.heap.size<=k):=HA3.imp id (fun⟨k,h,h'⟩=>⟨k,h,Jo⟩);have hr:=zB (show(Value.slice a1 K.length c1).ownBlock≠some w1.heap.size from fun e=>by
  rcases zA HA3 with h|⟨k,h,h'⟩
  ·exact D w1.heap.size Jo (h.symm.trans e)
  ·rw[h] at e;injection e with e;omega)
 have hJ:=zB (show(Value.slice a1 K.length c1).ownBlock≠some w.heap.size from fun e=>by
  rcases zA HA3 with h|⟨k,h,h'⟩
  ·exact D w.heap.size Jo (h.symm.trans e)
  ·rw[h] at e;injection e with e;omega)
 replace U:=zB (U.grown HG3 (D _ Jo));have t3:w3.cell? (Qa w.heap.size 0)=some (.slice (some (Qa b X)) xs.length cap):=(zK HG3 (b:=w.heap.size) Jo (D _ Jo) 0).trans t2;have z3:=HG3.size;obtain⟨n0,n1,n2,n3,n4,n5⟩:=zA U;simp only at n0 n1 n2 n3;clear HG3 HA3 t2;rcases zA HO3 with⟨T,a,rfl,n⟩|⟨a,rfl⟩;case inr=>
  have hp:=zB (by rw[zA A,a]:res=none);clear a HO3;go_wp2_with fail;refine yN (v:=.tuple #[.slice a1 K.length c1,.bool false]) (by simp[results,results68,go_sem]) rfl ⟨_,K,false,rfl,HR3,HG,HA,Jo,zB (yU ⟨hp,rfl⟩)⟩
 have HT:=zB (hh T a);have N:=zB n;have hN:1<=K.length:=(zBP HT ns [] n).1;have hB:=zB (by rw[zA A,a]:res=if zCJ xs 5 (atT ts H).t T .nil then some (.node 5 0 (atT ts H).t T .nil) else none);clear a n HO3 A hh;have HM:=zB (U.set2 ((K.length:Int)-1));have S:=zB (HR3.other (g:=w1.heap.size) (j:=2) (Qi ((K.length:Int)-1)) hr);have t4:(w3.setCell (Qa w1.heap.size 2) (Qi ((K.length:Int)-1))).cell? (Qa w.heap.size 0)=some (.slice (some (Qa b X)) xs.length cap):=(yj w3 (Qa w1.heap.size 2) (Qa w.heap.size 0) (Qi ((K.length:Int)-1)) (fun x=>by injection x with x1;omega)).trans t3;have E:=zB (zX HG (⟨rfl,rfl,rfl,Jt,fun i _ hi=>je _ _ _ _ (fun e=>hi (by rw[e]))⟩:w3.grownBy (w3.setCell (Qa w1.heap.size 2) (Qi ((K.length:Int)-1))) (some w1.heap.size)) (yU ⟨_,rfl,Jo⟩));obtain⟨m0,m1,m2,m3,_,_⟩:=zA HM;simp only at m0 m1 m2 m3;clear HG HR3 n0 n1 n3 n5 U t3;go_wp2_with (at_builtin;refine yL _ rfl (.tmp 152) (.tmp 154) 68 rfl B 106 i0 _ 4 40 underlying68 HI HZ.1 HZ.2.1 HZ.2.2 rfl Jd _ K.length (zT K) rfl (S.below (zC _ _)) (Qa w3.heap.size 0) 1 1 (zT [⟨5,(atT ts H).t,(K.length:Int)-1,0⟩]) rfl rfl (Ju (zAr (w3.setCell (Qa w1.heap.size 2) (Qi ((K.length:Int)-1))) w3.heap.size ⟨5,(atT ts H).t,(K.length:Int)-1,0⟩ Jt)) (zj _) ?b1 ?b2 ?b3 ?next);case b1=>exact Jm
 case b2=>omega
 case b3=>first|omega|(have:=E.size;simp at this ⊢;omega)
 case next=>
  intro v4 w4 c P r l;obtain⟨Q,y⟩:=Jx (K++[(⟨5,(atT ts H).t,(K.length:Int)-1,0⟩:zD)]);have hw:Q.length=K.length+1:=by rw[y];simp
  have hb:=zB (show ZK w4 B v4 Q by
   rw[y]
   unfold ZK
   rw[ze,yq]
   exact c)
  have M:=zB (zV (zC (w3.setCell (Qa w1.heap.size 2) (Qi ((K.length:Int)-1))) _) P);have ha:=zB (zX E M HA);have hy:=zB (ZZ E HA v4.ownBlock (l.imp id (fun h=>⟨_,h,by first|exact yk _|simp⟩)));have t5:w4.cell? (Qa w.heap.size 0)=some (.slice (some (Qa b X)) xs.length cap):=(zK M (b:=w.heap.size) (block_lt_of_cell t4) hJ 0).trans t4;have ht:=zB (HE.grown ha h9);obtain⟨g4,c4,rfl,hY,L⟩:=zDc hb Jo;have f:=zA ht;have Y:atN Q K.length=⟨5,(atT ts H).t,(K.length:Int)-1,0⟩:=by rw[y];exact zF1 rfl
  have m:=zBP HT ns [⟨5,(atT ts H).t,(K.length:Int)-1,0⟩] N;rw[<-y] at m;have HX:=zHr b X cap g4 0 c4 K.length xs Q w4 hm Jo f.1 hI (by have:=f.2.2.2.2.2.2;have:=f.2.1;omega) L.2.2 L.1 Jo (by rw[Y];unfold Zh;simp only;omega) j (by rw[Y];exact hl) (K.length-1) 0 (by rw[Y];simp only;omega) (by rw[Y];rfl) Jo Jo (by rw[Y];exact yS rfl) m.2.2 (fun h=>by rw[Y] at h;simp[zY] at h);have s:=zQZ (q:=5) HT Jo hl ns N;have e6:((K.length:Nat):Int)=(Q.length:Int)-1:=Jo;have hz:=zB (by rw[y];exact s:zJF xs Q K.length↔zCJ xs 5 (atT ts H).t T .nil=true);have hG:=zB (by rw[y,zPR (b:=5) rfl,<-zA N];rfl:Q=ns++nd (.node 5 0 (atT ts H).t T .nil) ns.length);rw[e6] at HX;have hH:Q.length<=ns.length+(hi-lo):=Jo;clear c P r l E M y Y m f L m0 m1 m2 m3 HM s e6 hw;go_wp2_with fail;refine HX.mono ?_;clear HX;rintro e w5 ⟨⟨v,rfl,hv⟩,hb5⟩;have hD:=zB (zX ha (zE hb5 u.ownBlock) (yS rfl));have hA:=zB (hb.below hb5);have HV:=zB hv;clear hb5 hv;go_wp2_with fail;refine yN (v:=.tuple #[Ql g4 Q.length c4,.bool v]) (by simp[results,results68,go_sem]) rfl ⟨_,Q,v,rfl,hA,hD,hy,hH,zB ?_⟩;have ho:v=true↔zCJ xs 5 (atT ts H).t T .nil=true:=HV.trans hz;rw[zA hB];cases v with
  |true=>
   rw[yQ (ho.1 rfl)];exact yS ⟨_,rfl,rfl,hG⟩
  |false=>
   rw[yP (fun h=>Bool.false_ne_true (ho.2 h))];exact yU ⟨rfl,rfl⟩
def zXN(xs:List OpR)(t:JZ)(T:ET)(r2:Option ET):Option ET:=match r2 with
 |none=>none
 |some T2=>if zCJ xs 4 t T T2 then some (.node 4 0 t T T2) else none
theorem zWg(b q cap gt ot ct gr cr lo hi H:Nat)(xs:List OpR)(ts:List zU)(us:List Int)(B:Nat)(u:Value)(ns:List zD)(w:JY)(hm:xs.length<=1048576)(hA:ZA xs)(hE:BE w B b q gt ot gr xs ts us)(hF:TF xs ts us)(Hx:lo<=H)(Hr:H<hi)(He:hi<=ts.length)(hR:zDv (rtF xs (sgs xs ts lo (hi-lo)) lo 0 none)=(H:Int))(V:ZK w B u ns)(Hj:ns.length+(hi-lo)<=90000)(hb:zZ xs ts H=2)(r1 r2:Option ET)(hq:∀T,r1=some T->zn xs T)(N:∀T,r2=some T->zn xs T)(hc:∀W,BE W B b q gt ot gr xs ts us->ZK W B u ns->Calls prog 68 #[.agg #[.slice (some (Qa b q)) xs.length cap],.slice (some (Qa gt ot)) ts.length ct,Ql gr us.length cr,Qi lo,Qi H,u] W (zAu W B u ns r1 (H-lo)))(h8:∀W u1 vs1,BE W B b q gt ot gr xs ts us->ZK W B u1 vs1->vs1.length+(hi-H-1)<=90000->Calls prog 68 #[.agg #[.slice (some (Qa b q)) xs.length cap],.slice (some (Qa gt ot)) ts.length ct,Ql gr us.length cr,Qi ((H:Int)+1),Qi hi,u1] W (zAu W B u1 vs1 r2 (hi-H-1)))(res:Option ET)(M:res=(match r1 with
   |none=>none
   |some T=>zXN xs (atT ts H).t T r2)):Calls prog 68 #[.agg #[.slice (some (Qa b q)) xs.length cap],.slice (some (Qa gt ot)) ts.length ct,Ql gr us.length cr,Qi lo,Qi hi,u] w (zAu w B u ns res (hi-lo)):=by
 obtain⟨i0,hy,hD,hH,hI⟩:=zS zDK;have HI:=zB hy;have HZ:=zB (yK hD (yK hH hI));clear hy hD hH hI;have HX:=zBq (cap:=cap) (ct:=ct) (cr:=cr) hm hE hF Jo He hR;have Hu:(H:Int)<(ts.length:Int):=Jo;have Hk:ts.length<=100000:=hF.len;have hU:us.length=ts.length:=by rw[hF.us,zAP]
 have Hs:(H:Int)<(us.length:Int):=Jo;have HE:=zB hE;obtain⟨h1,h2,h3,h4,h5,h6,h7⟩:=hE;have k2:=(h3 H Jo).2.2;have kr:=h5.2 H Jo;rw[hF.us,zDA Jo,hb] at kr;have hj:=zC w (.cells #[.slice (some (Qa b q)) xs.length cap] 63);have r:=zB V;have hB:=zB V.base;have m:∀x,w.heap.size<=x->u.ownBlock≠some x:=fun x hx e=>Jy (World.ownsRow.lt V _ e)
 have I:=zB m;have hQ:gt<w.heap.size:=Jo;have hZ:gr<w.heap.size:=Jo;have er:decide ((H:Int)<0)=false:=by rw[yW];omega
 have HC:=zB hc;have hC:=zB h8;have hG:=zB hq;have O:=zB N;have C:=zB M;have Hd:=zB hA;obtain⟨j,ht⟩:∃j,fnd xs (atT ts H).t 2=some j:=by
  rcases(hF.all H Jo).1 with⟨_,_,_,j,h,_⟩|⟨_,h0,_⟩
  ·rw[hb] at h;exact⟨j,h⟩
  ·omega
 have hJ:=zB ht;clear V h1 h3 h5 hF hR hb m hU hc h8 hq N M hA ht;go_enter func68,ntmps68;go_wp2_with fail;refine HX.mono ?_;clear HX;rintro e w1 ⟨rfl,hb1⟩;have J:Below w.heap.size w w1:=hj.trans (hb1.mono hj.size);have z1:w.heap.size+1<=w1.heap.size:=Jz hb1.size
 have t1:w1.cell? (Qa w.heap.size 0)=some (.slice (some (Qa b q)) xs.length cap):=Jc hb1 Jh Jg;replace k2:=(J.cell (p:=(Qa gt (ot+H*3+2))) hQ).trans k2;replace kr:=Jc J hZ kr;have Ho:gt<w1.heap.size:=Jo;have Hq:gt≠w1.heap.size:=Jo;have Hn:gr<w1.heap.size:=Jo;have Hm:gr≠w1.heap.size:=Jo;have Hp:w.heap.size≠w1.heap.size:=Jo;clear hb1 hj;go_wp2_with fail;go_region_held (fun w'=>w'.cell? (Qa gt (ot+H*3+2))=some (Qs (atT ts H).t)/\w'.cell? (Qa gr H)=some (Qi 2)) (go_keep) (fail);have hO:IntKind.i64.wrap 4=4:=by rfl
 rw[hO];clear hO;obtain⟨W2,f⟩:=Jx ((w1.alloc (.cells #[Qi 4,Qs (atT ts H).t,Qi 0,Qi 0] 106)).drew);have ho:Below w1.heap.size w1 W2:=by rw[f];exact(zC _ _).drew
 have D:Below w.heap.size w W2:=J.trans (ho.mono J.size);have U:=zB (show Zj W2 w1.heap.size ⟨4,(atT ts H).t,0,0⟩ by
  rw[f]
  exact Zj.below (w:=w1.alloc (.cells #[Qi 4,Qs (atT ts H).t,Qi 0,Qi 0] 106)) ⟨Jg,Jg,Jg,Jg,Jg,Jg⟩ (yJ _ _).drew)
 have t2:W2.cell? (Qa w.heap.size 0)=some (.slice (some (Qa b q)) xs.length cap):=Jc ho Jh t1;have z2:w1.heap.size+1<=W2.heap.size:=by rw[f];show _<=(w1.alloc _).heap.size;simp
 obtain⟨n0,n1,n2,n3,_,_⟩:=zA U;simp only at n0 n1 n2 n3;have HX:=(zA HC) W2 (HE.below D) (r.below D);rw[<-f];clear ho k2 kr t1 f HC r;go_wp2_with fail;refine HX.mono ?_;clear HX n0 n1 n2 n3;rintro e w3 ⟨u1,vs1,ok,rfl,HR3,HG3,HA3,hl3,HO3⟩;obtain⟨a1,c1,hK⟩:=ZE HR3;have HG:=zB (zV D HG3);have HA:Hid (u1.ownBlock=u.ownBlock\/∃k,u1.ownBlock=some k/\w.heap.size<=k):=HA3.imp id (fun⟨k,h,h'⟩=>⟨k,h,Jo⟩);have s:=zB (show u1.ownBlock≠some w1.heap.size from fun e=>by
  rcases zA HA3 with h|⟨k,h,h'⟩
  ·exact I w1.heap.size Jo (h.symm.trans e)
  ·rw[h] at e;injection e with e;omega)
 have hM:=zB (show u1.ownBlock≠some w.heap.size from fun e=>by
  rcases zA HA3 with h|⟨k,h,h'⟩
  ·exact I w.heap.size Jo (h.symm.trans e)
  ·rw[h] at e;injection e with e;omega)
 have Hh:=zB HR3.base;replace U:=zB (U.grown HG3 (I _ Jo));have t3:w3.cell? (Qa w.heap.size 0)=some (.slice (some (Qa b q)) xs.length cap):=(zK HG3 (b:=w.heap.size) Jo (I _ Jo) 0).trans t2;have z3:=HG3.size;obtain⟨n0,n1,n2,n3,n4,n5⟩:=zA U;simp only at n0 n1 n2 n3;clear HG3 HA3 t2;rcases zA HO3 with⟨T,A,rfl,Z⟩|⟨A,rfl⟩;case inr=>
  have F:=zB (by rw[zA C,A]:res=none);clear A HO3 hK;go_wp2_with fail;refine yN (v:=.tuple #[u1,.bool false]) (by simp[results,results68,go_sem]) rfl ⟨_,vs1,false,rfl,HR3,HG,HA,Jo,zB (yU ⟨F,rfl⟩)⟩
 have HT:=zB (hG T A);have ha:=zB Z;have Hl:1<=vs1.length:=(zBP HT ns [] Z).1;have hf:=zB (by rw[zA C,A]:res=zXN xs (atT ts H).t T r2);clear A Z HO3 C hG;obtain⟨W3,Y⟩:=Jx (w3.setCell (Qa w1.heap.size 2) (Qi ((vs1.length:Int)-1)));have HM:=zB (by rw[Y];exact U.set2 ((vs1.length:Int)-1):Zj W3 w1.heap.size ⟨4,(atT ts H).t,(vs1.length:Int)-1,0⟩);have n:=zB (by rw[Y];exact HR3.other (g:=w1.heap.size) (j:=2) (Qi ((vs1.length:Int)-1)) s:ZK W3 B u1 vs1);have t4:W3.cell? (Qa w.heap.size 0)=some (.slice (some (Qa b q)) xs.length cap):=by rw[Y];exact(yj w3 (Qa w1.heap.size 2) (Qa w.heap.size 0) (Qi ((vs1.length:Int)-1)) (fun x=>by injection x with x1;omega)).trans t3
 have l:=zB (by rw[Y];exact zX HG (⟨rfl,rfl,rfl,Jt,fun i _ hi=>je _ _ _ _ (fun e=>hi (by rw[e]))⟩:w3.grownBy (w3.setCell (Qa w1.heap.size 2) (Qi ((vs1.length:Int)-1))) (some w1.heap.size)) (yU ⟨_,rfl,Jo⟩):w.grownBy W3 u.ownBlock);have zW:W3.heap.size=w3.heap.size:=by rw[Y];simp[World.setCell]
 have Hv:=zB zW;have z3':w1.heap.size+1<=W3.heap.size:=Jo;clear zW;obtain⟨m0,m1,m2,m3,m4,m5⟩:=zA HM;simp only at m0 m1 m2 m3;have HX:=(zA hC) W3 u1 vs1 (HE.grown l hB) n Jo;subst hK;have Hf:=zB Y;have Hi:vs1.length<=90000:=Jo;clear HG HR3 n1 n3 n5 U hC;clear Y;go_wp2_with fail;rw[<-zA Hf];go_wp2_with fail;refine HX.mono ?_;clear HX n0 n2 n4 t3 m0 m1 m2 m3 m4 m5;rintro e w5 ⟨u2,K,ok2,rfl,HR5,HG5,HA5,hl5,HO5⟩;obtain⟨a2,c2,rfl⟩:=ZE HR5;have S:=zB (zX l HG5 HA);have hd:=zB (ZZ l HA (Value.slice a2 K.length c2).ownBlock HA5);have hw:=zB (show(Value.slice a2 K.length c2).ownBlock≠some w1.heap.size from fun e=>by
  rcases zA HA5 with h|⟨k,h,h'⟩
  ·exact s (h.symm.trans e)
  ·rw[h] at e;injection e with e;omega)
 have hu:=zB (show(Value.slice a2 K.length c2).ownBlock≠some w.heap.size from fun e=>by
  rcases zA HA5 with h|⟨k,h,h'⟩
  ·exact hM (h.symm.trans e)
  ·rw[h] at e;injection e with e;omega)
 have he:=zB (HM.grown HG5 s);have t5:w5.cell? (Qa w.heap.size 0)=some (.slice (some (Qa b q)) xs.length cap):=(zK HG5 (b:=w.heap.size) (block_lt_of_cell t4) hM 0).trans t4;have z5:=HG5.size;obtain⟨n0,n1,n2,n3,n4,n5⟩:=zA he;simp only at n0 n1 n2 n3;clear HG5 HA5 t4 HM l HA n;rcases zA HO5 with⟨T2,c,rfl,E⟩|⟨c,rfl⟩;case inr=>
  have F:=zB (by rw[zA hf,c];rfl:res=none);clear c HO5;go_wp2_with fail;refine yN (v:=.tuple #[.slice a2 K.length c2,.bool false]) (by simp[results,results68,go_sem]) rfl ⟨_,K,false,rfl,HR5,S,hd,Jo,zB (yU ⟨F,rfl⟩)⟩
 have hh:=zB (O T2 c);have y:=zB E;have Ht:1<=K.length:=(zBP hh vs1 [] E).1;have hV:=zB (by rw[zA hf,c];rfl:res=if zCJ xs 4 (atT ts H).t T T2 then some (.node 4 0 (atT ts H).t T T2) else none);clear c E HO5 hf O;have hz:=zB (he.set3 ((K.length:Int)-1));have h9:=zB (HR5.other (g:=w1.heap.size) (j:=3) (Qi ((K.length:Int)-1)) hw);have t6:(w5.setCell (Qa w1.heap.size 3) (Qi ((K.length:Int)-1))).cell? (Qa w.heap.size 0)=some (.slice (some (Qa b q)) xs.length cap):=(yj w5 (Qa w1.heap.size 3) (Qa w.heap.size 0) (Qi ((K.length:Int)-1)) (fun x=>by injection x with x1;omega)).trans t5;have G:=zB (zX S (⟨rfl,rfl,rfl,Jt,fun i _ hi=>je _ _ _ _ (fun e=>hi (by rw[e]))⟩:w5.grownBy (w5.setCell (Qa w1.heap.size 3) (Qi ((K.length:Int)-1))) (some w1.heap.size)) (yU ⟨_,rfl,Jo⟩));obtain⟨m0,m1,m2,m3,_,_⟩:=zA hz;simp only at m0 m1 m2 m3;clear S HR5 n0 n1 n2 n4 he t5;go_wp2_with (at_builtin;refine yL _ rfl (.tmp 152) (.tmp 154) 68 rfl B 106 i0 _ 4 40 underlying68 HI HZ.1 HZ.2.1 HZ.2.2 rfl Jd _ K.length (zT K) rfl (h9.below (zC _ _)) (Qa w5.heap.size 0) 1 1 (zT [⟨4,(atT ts H).t,(vs1.length:Int)-1,(K.length:Int)-1⟩]) rfl rfl (Ju (zAr (w5.setCell (Qa w1.heap.size 3) (Qi ((K.length:Int)-1))) w5.heap.size ⟨4,(atT ts H).t,(vs1.length:Int)-1,(K.length:Int)-1⟩ Jt)) (zj _) ?b1 ?b2 ?b3 ?next);case b1=>exact Jm
 case b2=>omega
 case b3=>first|omega|(have:=G.size;simp at this ⊢;omega)
 case next=>
  intro v4 w6 d P hl o;obtain⟨X,Q⟩:=Jx (K++[(⟨4,(atT ts H).t,(vs1.length:Int)-1,(K.length:Int)-1⟩:zD)]);have hW:X.length=K.length+1:=by rw[Q];simp
  have hs:=zB (show ZK w6 B v4 X by
   rw[Q]
   unfold ZK
   rw[ze,yq]
   exact d)
  have hn:=zB (zV (zC (w5.setCell (Qa w1.heap.size 3) (Qi ((K.length:Int)-1))) _) P);have hr:=zB (zX G hn hd);have hX:=zB (ZZ G hd v4.ownBlock (o.imp id (fun h=>⟨_,h,by first|exact yk _|simp⟩)));have t7:w6.cell? (Qa w.heap.size 0)=some (.slice (some (Qa b q)) xs.length cap):=(zK hn (b:=w.heap.size) (block_lt_of_cell t6) hu 0).trans t6;have hS:=zB (HE.grown hr hB);obtain⟨g4,c4,rfl,Hw,R⟩:=zDc hs Jo;have L:=zA hS;have a:atN X K.length=⟨4,(atT ts H).t,(vs1.length:Int)-1,(K.length:Int)-1⟩:=by rw[Q];exact zF1 rfl
  have hk:=zBP HT ns (nd T2 vs1.length++[⟨4,(atT ts H).t,(vs1.length:Int)-1,(K.length:Int)-1⟩]) ha;rw[<-yA,<-zA y,<-Q] at hk;have hg:=zBP hh vs1 [⟨4,(atT ts H).t,(vs1.length:Int)-1,(K.length:Int)-1⟩] y;rw[<-Q] at hg;have Ha:vs1.length<=K.length:=by rw[zA y,yq];omega
  have HX:=zHr b q cap g4 0 c4 K.length xs X w6 hm Jo L.1 Hd (by have:=L.2.2.2.2.2.2;have:=L.2.1;omega) R.2.2 R.1 Jo (by rw[a];unfold Zh;simp only;omega) j (by rw[a];exact hJ) (vs1.length-1) (K.length-1) (by rw[a];simp only;omega) (by rw[a];simp only;omega) Jo Jo (by rw[a];exact yU rfl) hk.2.2 (fun _=>hg.2.2);have hp:=zU9 HT hh hJ ns ha y;have e6:((K.length:Nat):Int)=(X.length:Int)-1:=Jo;have hY:=zB (by rw[Q];exact hp:zJF xs X K.length↔zCJ xs 4 (atT ts H).t T T2=true);have Hg:=zB (by rw[Q,zWe,<-zA ha,<-zA y]:X=ns++nd (.node 4 0 (atT ts H).t T T2) ns.length);rw[e6] at HX;have hN:X.length<=ns.length+(hi-lo):=Jo;clear d P hl o G hn Q a hk hg L R m0 m1 m2 m3 hz hp e6 hW;go_wp2_with fail;refine HX.mono ?_;clear HX;rintro e w7 ⟨⟨v,rfl,hv⟩,hb7⟩;have Hc:=zB (zX hr (zE hb7 u.ownBlock) (yS rfl));have Hb:=zB (hs.below hb7);have HV:=zB hv;clear hb7 hv;go_wp2_with fail;refine yN (v:=.tuple #[Ql g4 X.length c4,.bool v]) (by simp[results,results68,go_sem]) rfl ⟨_,X,v,rfl,Hb,Hc,hX,hN,zB ?_⟩;have hP:v=true↔zCJ xs 4 (atT ts H).t T T2=true:=HV.trans hY;rw[zA hV];cases v with
  |true=>
   rw[yQ (hP.1 rfl)];exact yS ⟨_,rfl,rfl,Hg⟩
  |false=>
   rw[yP (fun h=>Bool.false_ne_true (hP.2 h))];exact yU ⟨rfl,rfl⟩
end Go.Proofs.YtadiaghhackbjaaGreatDoor
