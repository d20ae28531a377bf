import Derived.Test.YtgbkgkdpdfdokaaGreatDoorQ23
namespace Go.Proofs.YtgbkgkdpdfdokaaGreatDoor
set_option linter.all false
set_option maxHeartbeats 16000000
set_option maxRecDepth 100000
open Go.RowKit
variable {B b off:Nat} {V:List zD} {t:ByteArray} {ts:List zX} {us:List Int} {w:World} {xs:List OpR}
def BE (w:JY) (B b h gt ot gr:Nat) (xs:List OpR) (ts:List zX) (us:List Int):Prop:=Ops w b h xs/\b<B/\zFA w gt ot ts/\gt<B/\zOp w gr us/\gr<B/\B<=w.heap.size
theorem BE.grown {w':JY} {gt ot gr:Nat} {row:Option Nat} (h:BE w B b off gt ot gr xs ts us) (hg:w.grownBy w' row) (hr:∀ k,row=some k->B<=k):BE w' B b off gt ot gr xs ts us:=by
 obtain ⟨h1,h2,h3,h4,h5,h6,h7⟩:=h
 have c:∀ q,q<B->∀ o,w'.cell? ⟨q,o,none⟩=w.cell? ⟨q,o,none⟩:=fun q hq o=>zE hg (b:=q) (by omega) (fun e=>by have:=hr _ e; omega) o
 refine ⟨zCh h1 hg h2 h7 hr,h2,fun i hi=>?_,h4,⟨yi h5.1 hg.size,fun i hi=>(c _ h6 _).trans (h5.2 i hi)⟩,h6,yr h7 hg.size⟩
 obtain ⟨a0,a1,a2⟩:=h3 i hi
 exact ⟨(c _ h4 _).trans a0,(c _ h4 _).trans a1,(c _ h4 _).trans a2⟩
theorem BE.below {w':JY} {gt ot gr:Nat} (h:BE w B b off gt ot gr xs ts us) (hb:Below w.heap.size w w'):BE w' B b off gt ot gr xs ts us:=h.grown (zH hb none) (fun k hk=>by cases hk)
structure TF (xs:List OpR) (ts:List zX) (us:List Int):Prop where
 len:ts.length<=100000
 us:us=Z0 xs ts ts.length
 all:∀ i,i<ts.length->TkF xs ts i/\1<=(atT ts i).k/\(atT ts i).k<=7/\(atT ts i).k≠6
def zAG (w:JY) (B:Nat) (u:Value) (us:List zD) (r:Option ET) (m:Nat) (x:Ending) (w':JY):Prop:=
 ∃ u' vs ok,x = .returned (.tuple #[u',.bool ok])/\Hid (ZD w' B u' vs)/\Hid (w.grownBy w' u.ownBlock)/\Hid (u'.ownBlock=u.ownBlock\/∃ k,u'.ownBlock=some k/\w.heap.size<=k)/\vs.length<=us.length+m /\
  Hid ((∃ T,r=some T/\ok=true/\vs=us++nd T us.length)\/(r=none/\ok=false))
theorem zA1 {cap gt ot ct gr cr lo hi:Nat} (hm:xs.length<=1048576) (hE:BE w B b off gt ot gr xs ts us) (hF:TF xs ts us) (h:lo<=hi) (H:hi<=ts.length) {R:Int} (hR:zCP (rtF xs (sgs xs ts lo (hi-lo)) lo 0 none)=R) :
  Calls Tryz.prog 118 #[.agg #[.slice (some ⟨b,off,none⟩) xs.length cap],.slice (some ⟨gt,ot,none⟩) ts.length ct,.slice (some ⟨gr,0,none⟩) us.length cr,.int .i64 (lo:Int),.int .i64 (hi:Int)] (w.alloc (.cells #[.slice (some ⟨b,off,none⟩) xs.length cap] 33)) fun e w'=>e = .returned (.int .i64 R)/\Below (w.alloc (.cells #[.slice (some ⟨b,off,none⟩) xs.length cap] 33)).heap.size (w.alloc (.cells #[.slice (some ⟨b,off,none⟩) xs.length cap] 33)) w':=by
 obtain ⟨h1,h2,h3,h4,h5,h6,h7⟩:=hE.below (zC w (.cells #[.slice (some ⟨b,off,none⟩) xs.length cap] 33))
 rw [<- hR]
 exact zLk b off cap gt ot ct gr cr lo hi xs ts us _ hm h1 (by omega) h3 (by omega) h5 hF.us hF.len h H hF.all
theorem zQI (b A cap gt ot ct gr cr lo hi:Nat) (xs:List OpR) (ts:List zX) (us:List Int) (B:Nat) (u:Value) (ns:List zD) (w:JY) (hm:xs.length<=1048576) (hE:BE w B b A gt ot gr xs ts us) (hF:TF xs ts us) (M:lo<hi) (g:hi<=ts.length) (hR:zCP (rtF xs (sgs xs ts lo (hi-lo)) lo 0 none) = -1)
  (Y:ZD w B u ns) (i:ns.length<=90000) (hk:(atT ts lo).k=1\/(atT ts lo).k=2) {T:ET} (hT:T = .node (atT ts lo).k.toNat 0 (atT ts lo).t .nil .nil) (I:1<=hi-lo) :
  Calls Tryz.prog 98 #[.agg #[.slice (some ⟨b,A,none⟩) xs.length cap],.slice (some ⟨gt,ot,none⟩) ts.length ct,.slice (some ⟨gr,0,none⟩) us.length cr,.int .i64 (lo:Int),.int .i64 (hi:Int),u] w (zAG w B u ns (some T) (hi-lo)):=by
 obtain ⟨i0,C,d,f,F⟩:=zN zC7
 have HI:=zB C
 have HZ:=zB (yH d (yH f F))
 clear C d f F
 have HX:=zA1 (cap:=cap) (ct:=ct) (cr:=cr) hm hE hF (by omega) g hR
 have G:(lo:Int)<(ts.length:Int):=by omega
 have j:=zB (show nd T ns.length=[⟨(atT ts lo).k,(atT ts lo).t,0,0⟩] by
  rw [hT]
  rcases hk with e | e <;> rw [e] <;> rfl)
 obtain ⟨h1,h2,h3,h4,h5,h6,h7⟩:=hE
 obtain ⟨k0,k1,k2⟩:=h3 lo (by omega)
 have a:=zC w (.cells #[.slice (some ⟨b,A,none⟩) xs.length cap] 33)
 have y:=zB Y
 have l:=zB Y.base
 obtain ⟨a0,c0,hu⟩:=ZQ Y
 have E:gt<w.heap.size:=by omega
 clear Y h1 h3 h5 hT hF hR
 subst hu
 obtain ⟨u,hu⟩:∃ u,u=Value.slice a0 ns.length c0:=⟨_,rfl⟩
 have D:=zB (show zAG w B (Value.slice a0 ns.length c0) ns (some T) (hi-lo)=zAG w B u ns (some T) (hi-lo) by rw [hu])
 rw [zA D]
 have P:=zB hu
 clear hu D
 go_enter Tryz.func98,Tryz.ntmps98
 go_wp2_with fail
 refine HX.mono ?_
 clear HX
 rintro e w1 ⟨rfl,hb1⟩
 have H:Below w.heap.size w w1:=a.trans (hb1.mono a.size)
 have z1:w.heap.size+1<=w1.heap.size:=by have:=hb1.size; simp at this; omega
 replace k0:=(H.cell (p:=⟨gt,ot+lo*3,none⟩) E).trans k0
 replace k2:=(H.cell (p:=⟨gt,ot+lo*3+2,none⟩) E).trans k2
 have m:gt<w1.heap.size:=by omega
 have L:gt≠w1.heap.size:=by omega
 clear hb1 k1 a
 rcases hk with hk | hk
 ·have e4:((atT ts lo).k==4)=false:=by rw [hk]; rfl
  have e2:((atT ts lo).k==2)=false:=by rw [hk]; rfl
  have x:=zB ((zA y).below H)
  have J:=zB (show Below w.heap.size w ((w1.alloc (.cells #[.int .i64 1,.string (atT ts lo).t,.int .i64 0,.int .i64 0] 144))) from H.alloc H.size _)
  rw [hk] at j
  clear hk y
  go_wp2_with (at_builtin; refine yJ _ rfl (.tmp 65) (.tmp 67) 123 rfl B 144 i0 _ 4 40 Tryz.underlying123 (zA HI) (zA HZ).1 (zA HZ).2.1 (zA HZ).2.2 rfl (by decide) _ ns.length (zL ns) rfl (((zA x).below (zC _ _)).below (zC _ _)) ⟨w1.heap.size+1,0,none⟩ 1 1 (zL [⟨1,(atT ts lo).t,0,0⟩]) rfl rfl (by simpa using Zl (w1.alloc (.cells #[.int .i64 1,.string (atT ts lo).t,.int .i64 0,.int .i64 0] 144)) (w1.heap.size+1) ⟨1,(atT ts lo).t,0,0⟩ (by simp)) (zS _) ?b1 ?b2 ?b3 ?next)
  case b1=>unfold maxLen; omega
  case b2=>omega
  case b3=>first | omega | (simp; omega)
  case next=>
   intro v4 w4 q K X Q
   have U:=zB (show ZD w4 B v4 (ns++nd T ns.length) by
    rw [zA j]
    unfold ZD
    rw [zm,ym]
    exact q)
   have c:=zB (show w.grownBy w4 u.ownBlock by rw [zA P]; exact zh ((zA J).alloc (zA J).size _) K)
   have V:=zB (show v4.ownBlock=u.ownBlock\/∃ k,v4.ownBlock=some k/\w.heap.size<=k by rw [zA P]; exact Q.imp id (fun h=>⟨_,h,by have:=H.size; first | omega | (simp; omega)⟩))
   clear q K X Q
   go_wp2_with fail
   refine yK (v:=.tuple #[v4,.bool true]) (by simp [results,Tryz.results98,go_sem]) rfl ⟨v4,ns++nd T ns.length,true,rfl,U,c,V,?_,zB (yQ ⟨T,rfl,rfl,rfl⟩)⟩
   rw [zA j,ym,List.length_singleton]
   omega
 ·have e4:((atT ts lo).k==4)=false:=by rw [hk]; rfl
  have e2:((atT ts lo).k==2)=true:=by rw [hk]; rfl
  have x:=zB ((zA y).below H)
  have J:=zB (show Below w.heap.size w ((w1.alloc (.cells #[.int .i64 2,.string (atT ts lo).t,.int .i64 0,.int .i64 0] 144))) from H.alloc H.size _)
  rw [hk] at j
  clear hk y
  go_wp2_with (at_builtin; refine yJ _ rfl (.tmp 65) (.tmp 67) 123 rfl B 144 i0 _ 4 40 Tryz.underlying123 (zA HI) (zA HZ).1 (zA HZ).2.1 (zA HZ).2.2 rfl (by decide) _ ns.length (zL ns) rfl (((zA x).below (zC _ _)).below (zC _ _)) ⟨w1.heap.size+1,0,none⟩ 1 1 (zL [⟨2,(atT ts lo).t,0,0⟩]) rfl rfl (by simpa using Zl (w1.alloc (.cells #[.int .i64 2,.string (atT ts lo).t,.int .i64 0,.int .i64 0] 144)) (w1.heap.size+1) ⟨2,(atT ts lo).t,0,0⟩ (by simp)) (zS _) ?b1 ?b2 ?b3 ?next)
  case b1=>unfold maxLen; omega
  case b2=>omega
  case b3=>first | omega | (simp; omega)
  case next=>
   intro v4 w4 q K X Q
   have U:=zB (show ZD w4 B v4 (ns++nd T ns.length) by
    rw [zA j]
    unfold ZD
    rw [zm,ym]
    exact q)
   have c:=zB (show w.grownBy w4 u.ownBlock by rw [zA P]; exact zh ((zA J).alloc (zA J).size _) K)
   have V:=zB (show v4.ownBlock=u.ownBlock\/∃ k,v4.ownBlock=some k/\w.heap.size<=k by rw [zA P]; exact Q.imp id (fun h=>⟨_,h,by have:=H.size; first | omega | (simp; omega)⟩))
   clear q K X Q
   go_wp2_with fail
   refine yK (v:=.tuple #[v4,.bool true]) (by simp [results,Tryz.results98,go_sem]) rfl ⟨v4,ns++nd T ns.length,true,rfl,U,c,V,?_,zB (yQ ⟨T,rfl,rfl,rfl⟩)⟩
   rw [zA j,ym,List.length_singleton]
   omega
theorem zLl (hk:ze (b:Int)=1) (t:JZ) (T:ET) (ns:List zD):ns++nd (.node b 0 t T .nil) ns.length=(ns++nd T ns.length)++[⟨(b:Int),t,((ns++nd T ns.length).length:Int)-1,0⟩]:=by
 simp only [nd,tN,hk,ym,ZO]
 simp
theorem zRc (t:JZ) (L R:ET) (ns:List zD):ns++nd (.node 4 0 t L R) ns.length=((ns++nd L ns.length)++nd R (ns++nd L ns.length).length)++[⟨4,t,((ns++nd L ns.length).length:Int)-1,(((ns++nd L ns.length)++nd R (ns++nd L ns.length).length).length:Int)-1⟩]:=by
 have hk:ze ((4:Nat):Int)=2:=rfl
 simp only [nd,tN,hk,ym,ZO]
 simp
theorem zOq (b q cap gt ot ct gr cr lo hi:Nat) (xs:List OpR) (ts:List zX) (us:List Int) (B:Nat) (u:Value) (ns:List zD) (w:JY) (hm:xs.length<=1048576) (hE:BE w B b q gt ot gr xs ts us) (hF:TF xs ts us) (g:lo+2<=hi) (c:hi<=ts.length) (hR:zCP (rtF xs (sgs xs ts lo (hi-lo)) lo 0 none) = -1)
  (x:ZD w B u ns) (E:ns.length+(hi-lo)<=90000) (hk:(atT ts lo).k=4) (r1:Option ET)
  (hc:∀ W,BE W B b q gt ot gr xs ts us->ZD W B u ns->Calls Tryz.prog 98 #[.agg #[.slice (some ⟨b,q,none⟩) xs.length cap],.slice (some ⟨gt,ot,none⟩) ts.length ct,.slice (some ⟨gr,0,none⟩) us.length cr,.int .i64 ((lo:Int)+1),.int .i64 ((hi:Int)-1),u] W (zAG W B u ns r1 (hi-lo-2))) :
  Calls Tryz.prog 98 #[.agg #[.slice (some ⟨b,q,none⟩) xs.length cap],.slice (some ⟨gt,ot,none⟩) ts.length ct,.slice (some ⟨gr,0,none⟩) us.length cr,.int .i64 (lo:Int),.int .i64 (hi:Int),u] w (zAG w B u ns (r1.map (fun T=>.node 6 0 ByteArray.empty T .nil)) (hi-lo)):=by
 obtain ⟨i0,j,P,V,U⟩:=zN zC7
 have HI:=zB j
 have HZ:=zB (yH P (yH V U))
 clear j P V U
 have HX:=zA1 (cap:=cap) (ct:=ct) (cr:=cr) hm hE hF (by omega) c hR
 have D:(lo:Int)<(ts.length:Int):=by omega
 have F:ts.length<=100000:=hF.len
 have HE:=zB hE
 obtain ⟨h1,h2,h3,h4,h5,h6,h7⟩:=hE
 obtain ⟨k0,k1,k2⟩:=h3 lo (by omega)
 have y:=zC w (.cells #[.slice (some ⟨b,q,none⟩) xs.length cap] 33)
 have J:=zB x
 have f:=zB x.base
 have HC:=zB hc
 have C:gt<w.heap.size:=by omega
 have e4:((atT ts lo).k==4)=true:=by rw [hk]; rfl
 clear x h1 h3 h5 hF hR hc hk
 go_enter Tryz.func98,Tryz.ntmps98
 go_wp2_with fail
 refine HX.mono ?_
 clear HX
 rintro e w1 ⟨rfl,hb1⟩
 have K:Below w.heap.size w w1:=y.trans (hb1.mono y.size)
 have z1:w.heap.size+1<=w1.heap.size:=by have:=hb1.size; simp at this; omega
 have t1:w1.cell? ⟨w.heap.size,0,none⟩=some (.slice (some ⟨b,q,none⟩) xs.length cap):=(hb1.cell (p:=⟨w.heap.size,0,none⟩) (by simp)).trans (by simp [go_sem])
 replace k0:=(K.cell (p:=⟨gt,ot+lo*3,none⟩) C).trans k0
 have HX:=(zA HC) w1 ((zA HE).below K) ((zA J).below K)
 clear hb1 k1 k2 y HC
 go_wp2_with fail
 refine HX.mono ?_
 clear HX
 rintro e w2 ⟨u1,vs1,ok,rfl,HR2,HG2,HA2,hl2,HO2⟩
 obtain ⟨a1,c1,rfl⟩:=ZQ (zA HR2)
 have HG:=zB (zh K (zA HG2))
 have HA:=zB (show (Value.slice a1 vs1.length c1).ownBlock=u.ownBlock\/∃ k,(Value.slice a1 vs1.length c1).ownBlock=some k/\w.heap.size<=k from (zA HA2).imp id (fun ⟨k,h,h'⟩=>⟨k,h,by omega⟩))
 have z2:=(zA HG2).size
 clear HG2 HA2 t1 k0
 go_wp2_with (at_builtin; refine yJ _ rfl (.tmp 44) (.tmp 49) 123 rfl B 144 i0 _ 4 40 Tryz.underlying123 (zA HI) (zA HZ).1 (zA HZ).2.1 (zA HZ).2.2 rfl (by decide) _ vs1.length (zL vs1) rfl ((zA HR2).below (zC _ _)) ⟨w2.heap.size,0,none⟩ 1 1 (zL [⟨6,⟨#[]⟩,(vs1.length:Int)-1,0⟩]) rfl rfl (by simpa using ZN w2 ⟨6,⟨#[]⟩,(vs1.length:Int)-1,0⟩) (zS _) ?b1 ?b2 ?b3 ?next)
 case b1=>unfold maxLen; omega
 case b2=>omega
 case b3=>first | omega | (simp; omega)
 case next=>
  intro v4 w4 Q H Y X
  have A:=zB (show ZD w4 B v4 (vs1++[⟨6,⟨#[]⟩,(vs1.length:Int)-1,0⟩]) by
   unfold ZD
   rw [zm,ym]
   exact Q)
  have d:=zB (zQ (zA HG) (zh (zC w2 _) H) (zA HA))
  have a:=zB (zAU (zA HG) (zA HA) v4.ownBlock (X.imp id (fun h=>⟨_,h,by first | exact yh _ | simp⟩)))
  clear Q H Y X
  go_wp2_with fail
  refine yK (v:=.tuple #[v4,.bool ok]) (by simp [results,Tryz.results98,go_sem]) rfl ⟨v4,_,ok,rfl,A,d,a,?_,zB ?_⟩
  ·rw [ym,List.length_singleton]
   omega
  ·rcases zA HO2 with ⟨T,rfl,rfl,rfl⟩ | ⟨rfl,rfl⟩
   ·exact yQ ⟨_,rfl,rfl,(zLl (b:=6) rfl ByteArray.empty T ns).symm⟩
   ·exact yR ⟨rfl,rfl⟩
theorem zFY (b Q cap bn H cn i:Nat) (xs:List OpR) (ns:List zD) (w:JY) (hm:xs.length<=1048576) (S:ns.length<=1048576) (hw:Ops w b Q xs) (A:Zg xs) (hB:b<w.heap.size) (c:zBC w bn H ns) (M:bn<w.heap.size) (hi:i<ns.length) (ho:zA7 (atN ns i)) (j:Nat) (hf:fnd xs (atN ns i).t ((atN ns i).k-2)=some j) (ka kb:Nat) (B:(atN ns i).a=(ka:Int)) (D:(atN ns i).b=(kb:Int)) (f:ka<ns.length) (L:kb<ns.length) (X:ze (atN ns i).k=1\/ze (atN ns i).k=2) (U:3<=(atN ns ka).k->(atN ns ka).k<=5->fnd xs (atN ns ka).t ((atN ns ka).k-2)≠none) (u:ze (atN ns i).k=2->3<=(atN ns kb).k->(atN ns kb).k<=5->fnd xs (atN ns kb).t ((atN ns kb).k-2)≠none) :
  Calls Tryz.prog 119 #[.agg #[.slice (some ⟨b,Q,none⟩) xs.length cap],.slice (some ⟨bn,H,none⟩) ns.length cn,.int .i64 (i:Int)] w fun e w'=>zBs e (zGg xs ns i)/\Below w.heap.size w w':=by
 have T:(i:Int)<(ns.length:Int):=by omega
 obtain ⟨h0,h1,h2,h3⟩:=c i hi
 have HW:=zB hw
 have G:=zB c
 have HZ:=zB A
 have hj:=(zBK hf).1
 have P:=zB (show zGg xs ns i↔zD1 xs j false<=zAN xs (atN ns ka)/\(ze (atN ns i).k=1\/zD1 xs j true<=zAN xs (atN ns kb)) by
  rw [zGt ho hf,B,D]; simp)
 have HD:=zB (show true=decide (3<=(atN ns i).k/\(atN ns i).k<=5) by rw [eq_comm,decide_eq_true_iff]; exact ho)
 have HF:=zB hf
 have o:=ho.1
 have O:=ho.2
 have g:=zB U
 have F:=zB u
 have d:=zB (A j hj)
 rw [B] at h2
 rw [D] at h3
 have r:(ka:Int)<(ns.length:Int):=by omega
 have R:(kb:Int)<(ns.length:Int):=by omega
 clear hw c A ho B D hf U u
 go_enter Tryz.func119,Tryz.ntmps119
 go_wp2_with fail
 refine (zAf ⟨(atN ns i).k,(atN ns i).t,(ka:Int),(kb:Int)⟩ _ true (zA HD)).mono ?_
 rintro e w1 ⟨rfl,hb1⟩
 have Y:Below w.heap.size w w1:=((zC _ _).alloc (by simp) _).trans (hb1.mono (by simp; omega))
 have J:=zB (show Cs [(w.heap.size,0,.slice (some ⟨b,Q,none⟩) xs.length cap),(w.heap.size+1,0,.int .i64 (atN ns i).k),(w.heap.size+1,1,.string (atN ns i).t),(w.heap.size+1,2,.int .i64 (ka:Int)),(w.heap.size+1,3,.int .i64 (kb:Int))] w1 from fun p hp=>by
  simp only [List.mem_cons,List.not_mem_nil,or_false] at hp
  rcases hp with rfl | rfl | rfl | rfl | rfl
  ·exact (hb1.cell (p:=⟨w.heap.size,0,none⟩) (by simp; omega)).trans (by simp [go_sem])
  ·exact (hb1.cell (p:=⟨w.heap.size+1,0,none⟩) (by simp)).trans (by simp [go_sem])
  ·exact (hb1.cell (p:=⟨w.heap.size+1,1,none⟩) (by simp)).trans (by simp [go_sem])
  ·exact (hb1.cell (p:=⟨w.heap.size+1,2,none⟩) (by simp)).trans (by simp [go_sem])
  ·exact (hb1.cell (p:=⟨w.heap.size+1,3,none⟩) (by simp)).trans (by simp [go_sem]))
 clear hb1
 have c0:=(zA J) (w.heap.size,0,.slice (some ⟨b,Q,none⟩) xs.length cap) (by simp)
 have d0:=(zA J) (w.heap.size+1,0,.int .i64 (atN ns i).k) (by simp)
 have d1:=(zA J) (w.heap.size+1,1,.string (atN ns i).t) (by simp)
 have d2:=(zA J) (w.heap.size+1,2,.int .i64 (ka:Int)) (by simp)
 have d3:=(zA J) (w.heap.size+1,3,.int .i64 (kb:Int)) (by simp)
 simp only at c0 d0 d1 d2 d3
 go_wp2_with fail
 refine (zC0 b Q cap xs ⟨(atN ns i).k,(atN ns i).t,(ka:Int),(kb:Int)⟩ j _ hm ((zA HW).below Y hB) (yi hB Y.size) o O (zA HF)).mono ?_
 rintro e w2 ⟨rfl,hb2⟩
 have x:=Y.trans (hb2.mono Y.size)
 have E:=zB ((zA J).below hb2)
 clear hb2 J c0 d0 d1 d2 d3 Y
 have K:=zB (show Cs [(w.heap.size,0,.slice (some ⟨b,Q,none⟩) xs.length cap),(w.heap.size+1,0,.int .i64 (atN ns i).k),(w.heap.size+1,1,.string (atN ns i).t),(w.heap.size+1,2,.int .i64 (ka:Int)),(w.heap.size+1,3,.int .i64 (kb:Int)),(w2.heap.size,0,.string (atO xs j).s),(w2.heap.size,1,.int .i64 (atO xs j).k),(w2.heap.size,2,.int .i64 (atO xs j).l),(w2.heap.size,3,.int .i64 (atO xs j).sd),(bn,H+ka*4,.int .i64 (atN ns ka).k),(bn,H+ka*4+1,.string (atN ns ka).t),(bn,H+ka*4+2,.int .i64 (atN ns ka).a),(bn,H+ka*4+3,.int .i64 (atN ns ka).b),(bn,H+kb*4,.int .i64 (atN ns kb).k),(bn,H+kb*4+1,.string (atN ns kb).t),(bn,H+kb*4+2,.int .i64 (atN ns kb).a),(bn,H+kb*4+3,.int .i64 (atN ns kb).b)] (w2.alloc (.cells #[.string (atO xs j).s,.int .i64 (atO xs j).k,.int .i64 (atO xs j).l,.int .i64 (atO xs j).sd] 57)).drew from fun p hp=>by
  simp only [List.mem_cons,List.not_mem_nil,or_false] at hp
  have y:Cs [(w.heap.size,0,.slice (some ⟨b,Q,none⟩) xs.length cap),(w.heap.size+1,0,.int .i64 (atN ns i).k),(w.heap.size+1,1,.string (atN ns i).t),(w.heap.size+1,2,.int .i64 (ka:Int)),(w.heap.size+1,3,.int .i64 (kb:Int))] (w2.alloc (.cells #[.string (atO xs j).s,.int .i64 (atO xs j).k,.int .i64 (atO xs j).l,.int .i64 (atO xs j).sd] 57)).drew:=(zA E).below ((zC _ _).drew)
  have V:=((zA G) ka f).below (x.trans (((zC w2 (.cells #[.string (atO xs j).s,.int .i64 (atO xs j).k,.int .i64 (atO xs j).l,.int .i64 (atO xs j).sd] 57)).drew).mono x.size)) M
  have v:=((zA G) kb L).below (x.trans (((zC w2 (.cells #[.string (atO xs j).s,.int .i64 (atO xs j).k,.int .i64 (atO xs j).l,.int .i64 (atO xs j).sd] 57)).drew).mono x.size)) M
  rcases hp with rfl | rfl | rfl | rfl | rfl | rfl | rfl | rfl | rfl | rfl | rfl | rfl | rfl | rfl | rfl | rfl | rfl
  ·exact y _ (by simp)
  ·exact y _ (by simp)
  ·exact y _ (by simp)
  ·exact y _ (by simp)
  ·exact y _ (by simp)
  ·exact (show (w2.alloc (.cells #[.string (atO xs j).s,.int .i64 (atO xs j).k,.int .i64 (atO xs j).l,.int .i64 (atO xs j).sd] 57)).cell? _=_ by simp [go_sem])
  ·exact (show (w2.alloc (.cells #[.string (atO xs j).s,.int .i64 (atO xs j).k,.int .i64 (atO xs j).l,.int .i64 (atO xs j).sd] 57)).cell? _=_ by simp [go_sem])
  ·exact (show (w2.alloc (.cells #[.string (atO xs j).s,.int .i64 (atO xs j).k,.int .i64 (atO xs j).l,.int .i64 (atO xs j).sd] 57)).cell? _=_ by simp [go_sem])
  ·exact (show (w2.alloc (.cells #[.string (atO xs j).s,.int .i64 (atO xs j).k,.int .i64 (atO xs j).l,.int .i64 (atO xs j).sd] 57)).cell? _=_ by simp [go_sem])
  ·exact V.1
  ·exact V.2.1
  ·exact V.2.2.1
  ·exact V.2.2.2
  ·exact v.1
  ·exact v.2.1
  ·exact v.2.2.1
  ·exact v.2.2.2)
 have q:=zB (show Below w.heap.size w (w2.alloc (.cells #[.string (atO xs j).s,.int .i64 (atO xs j).k,.int .i64 (atO xs j).l,.int .i64 (atO xs j).sd] 57)).drew from x.trans (((zC w2 (.cells #[.string (atO xs j).s,.int .i64 (atO xs j).k,.int .i64 (atO xs j).l,.int .i64 (atO xs j).sd] 57)).drew).mono x.size))
 clear E x
 have m:=zB (show zD1 xs j false=zBF (atO xs j).s (atO xs j).k (atO xs j).l (atO xs j).sd false from rfl)
 have I:=zB (show zD1 xs j true=zBF (atO xs j).s (atO xs j).k (atO xs j).l (atO xs j).sd true from rfl)
 rw [zA m,zA I] at P
 clear m I
 by_cases hA:zAN xs (atN ns ka)<zBF (atO xs j).s (atO xs j).k (atO xs j).l (atO xs j).sd false
 ·have HN:=zB (show ¬ zGg xs ns i from fun h=>by have:=((zA P).1 h).1; omega)
  clear P
  go_wp2_with fail
  go_region_held (fun w'=>w'.cell? ⟨w.heap.size,0,none⟩=some (.slice (some ⟨b,Q,none⟩) xs.length cap)/\w'.cell? ⟨w.heap.size+1,2,none⟩=some (.int .i64 (ka:Int))/\w'.cell? ⟨w2.heap.size,0,none⟩=some (.string (atO xs j).s)/\w'.cell? ⟨w2.heap.size,1,none⟩=some (.int .i64 (atO xs j).k)/\w'.cell? ⟨w2.heap.size,2,none⟩=some (.int .i64 (atO xs j).l)/\w'.cell? ⟨w2.heap.size,3,none⟩=some (.int .i64 (atO xs j).sd)/\w'.cell? ⟨bn,H+ka*4,none⟩=some (.int .i64 (atN ns ka).k)/\w'.cell? ⟨bn,H+ka*4+1,none⟩=some (.string (atN ns ka).t)/\w'.cell? ⟨bn,H+ka*4+2,none⟩=some (.int .i64 (atN ns ka).a)/\w'.cell? ⟨bn,H+ka*4+3,none⟩=some (.int .i64 (atN ns ka).b)) (first | (go_keep; done) | exact ⟨(zA K) (w.heap.size,0,.slice (some ⟨b,Q,none⟩) xs.length cap) (by simp),(zA K) (w.heap.size+1,2,.int .i64 (ka:Int)) (by simp),(zA K) (w2.heap.size,0,.string (atO xs j).s) (by simp),(zA K) (w2.heap.size,1,.int .i64 (atO xs j).k) (by simp),(zA K) (w2.heap.size,2,.int .i64 (atO xs j).l) (by simp),(zA K) (w2.heap.size,3,.int .i64 (atO xs j).sd) (by simp),(zA K) (bn,H+ka*4,.int .i64 (atN ns ka).k) (by simp),(zA K) (bn,H+ka*4+1,.string (atN ns ka).t) (by simp),(zA K) (bn,H+ka*4+2,.int .i64 (atN ns ka).a) (by simp),(zA K) (bn,H+ka*4+3,.int .i64 (atN ns ka).b) (by simp)⟩)
   (first | (go_at_call 110; have HX:=zA8 b Q cap xs (atN ns ka) _ hm ((zA HW).below (zA q) hB) (yi hB (zA q).size) (zA g); refine HX.mono ?_; clear HX; rintro e w3 ⟨rfl,hb3⟩; replace K:=zB ((zA K).below hb3); replace q:=zB ((zA q).trans (hb3.mono (zA q).size)); clear hb3) | (go_at_call 109; refine (zAk (atO xs j).s (atO xs j).k (atO xs j).l (atO xs j).sd false _ (zA d)).mono ?_; rintro e w4 ⟨rfl,hb4⟩; replace K:=zB ((zA K).below hb4); replace q:=zB ((zA q).trans (hb4.mono (zA q).size)); clear hb4))
  all_goals go_wp2
  all_goals go_ret
  all_goals exact ⟨⟨_,rfl,zc (zA HN)⟩,zA q⟩
 ·go_wp2_with fail
  go_region_held (fun w'=>w'.cell? ⟨w.heap.size,0,none⟩=some (.slice (some ⟨b,Q,none⟩) xs.length cap)/\w'.cell? ⟨w.heap.size+1,2,none⟩=some (.int .i64 (ka:Int))/\w'.cell? ⟨w2.heap.size,0,none⟩=some (.string (atO xs j).s)/\w'.cell? ⟨w2.heap.size,1,none⟩=some (.int .i64 (atO xs j).k)/\w'.cell? ⟨w2.heap.size,2,none⟩=some (.int .i64 (atO xs j).l)/\w'.cell? ⟨w2.heap.size,3,none⟩=some (.int .i64 (atO xs j).sd)/\w'.cell? ⟨bn,H+ka*4,none⟩=some (.int .i64 (atN ns ka).k)/\w'.cell? ⟨bn,H+ka*4+1,none⟩=some (.string (atN ns ka).t)/\w'.cell? ⟨bn,H+ka*4+2,none⟩=some (.int .i64 (atN ns ka).a)/\w'.cell? ⟨bn,H+ka*4+3,none⟩=some (.int .i64 (atN ns ka).b)) (first | (go_keep; done) | exact ⟨(zA K) (w.heap.size,0,.slice (some ⟨b,Q,none⟩) xs.length cap) (by simp),(zA K) (w.heap.size+1,2,.int .i64 (ka:Int)) (by simp),(zA K) (w2.heap.size,0,.string (atO xs j).s) (by simp),(zA K) (w2.heap.size,1,.int .i64 (atO xs j).k) (by simp),(zA K) (w2.heap.size,2,.int .i64 (atO xs j).l) (by simp),(zA K) (w2.heap.size,3,.int .i64 (atO xs j).sd) (by simp),(zA K) (bn,H+ka*4,.int .i64 (atN ns ka).k) (by simp),(zA K) (bn,H+ka*4+1,.string (atN ns ka).t) (by simp),(zA K) (bn,H+ka*4+2,.int .i64 (atN ns ka).a) (by simp),(zA K) (bn,H+ka*4+3,.int .i64 (atN ns ka).b) (by simp)⟩)
   (first | (go_at_call 110; have HX:=zA8 b Q cap xs (atN ns ka) _ hm ((zA HW).below (zA q) hB) (yi hB (zA q).size) (zA g); refine HX.mono ?_; clear HX; rintro e w3 ⟨rfl,hb3⟩; replace K:=zB ((zA K).below hb3); replace q:=zB ((zA q).trans (hb3.mono (zA q).size)); clear hb3) | (go_at_call 109; refine (zAk (atO xs j).s (atO xs j).k (atO xs j).l (atO xs j).sd false _ (zA d)).mono ?_; rintro e w4 ⟨rfl,hb4⟩; replace K:=zB ((zA K).below hb4); replace q:=zB ((zA q).trans (hb4.mono (zA q).size)); clear hb4))
  rcases X with X | X
  ·have C:=zB X
   have HY:=zB (show zGg xs ns i from (zA P).2 ⟨by omega,yQ X⟩)
   clear X P
   have d0:=(zA K) (w.heap.size+1,0,.int .i64 (atN ns i).k) (by simp)
   simp only at d0
   go_wp2_with fail
   go_quiet ((go_at_call 94; exact Calls.quiet_of_same (zP (zA C) 1 rfl _)))
   go_wp2
   go_ret
   exact ⟨⟨_,rfl,zAJ (zA HY)⟩,zGs (zA q) rfl rfl rfl rfl⟩
  ·have C:=zB X
   have n:=zB ((zA F) X)
   have N:=zB (show zGg xs ns i↔zBF (atO xs j).s (atO xs j).k (atO xs j).l (atO xs j).sd true<=zAN xs (atN ns kb) by
    rw [zA P]
    constructor
    ·rintro ⟨_,h | h⟩
     ·omega
     ·exact h
    ·intro h; exact ⟨by omega,yR h⟩)
   clear X P
   replace K:=zB ((zA K).below (yG _ _).drew)
   replace q:=zB (zA q).drew
   go_wp2_with fail
   go_region_held (fun w'=>w'.cell? ⟨w.heap.size,0,none⟩=some (.slice (some ⟨b,Q,none⟩) xs.length cap)/\w'.cell? ⟨w.heap.size+1,0,none⟩=some (.int .i64 (atN ns i).k)/\w'.cell? ⟨w.heap.size+1,3,none⟩=some (.int .i64 (kb:Int))/\w'.cell? ⟨w2.heap.size,0,none⟩=some (.string (atO xs j).s)/\w'.cell? ⟨w2.heap.size,1,none⟩=some (.int .i64 (atO xs j).k)/\w'.cell? ⟨w2.heap.size,2,none⟩=some (.int .i64 (atO xs j).l)/\w'.cell? ⟨w2.heap.size,3,none⟩=some (.int .i64 (atO xs j).sd)/\w'.cell? ⟨bn,H+kb*4,none⟩=some (.int .i64 (atN ns kb).k)/\w'.cell? ⟨bn,H+kb*4+1,none⟩=some (.string (atN ns kb).t)/\w'.cell? ⟨bn,H+kb*4+2,none⟩=some (.int .i64 (atN ns kb).a)/\w'.cell? ⟨bn,H+kb*4+3,none⟩=some (.int .i64 (atN ns kb).b)) (first | (go_keep; done) | exact ⟨(zA K) (w.heap.size,0,.slice (some ⟨b,Q,none⟩) xs.length cap) (by simp),(zA K) (w.heap.size+1,0,.int .i64 (atN ns i).k) (by simp),(zA K) (w.heap.size+1,3,.int .i64 (kb:Int)) (by simp),(zA K) (w2.heap.size,0,.string (atO xs j).s) (by simp),(zA K) (w2.heap.size,1,.int .i64 (atO xs j).k) (by simp),(zA K) (w2.heap.size,2,.int .i64 (atO xs j).l) (by simp),(zA K) (w2.heap.size,3,.int .i64 (atO xs j).sd) (by simp),(zA K) (bn,H+kb*4,.int .i64 (atN ns kb).k) (by simp),(zA K) (bn,H+kb*4+1,.string (atN ns kb).t) (by simp),(zA K) (bn,H+kb*4+2,.int .i64 (atN ns kb).a) (by simp),(zA K) (bn,H+kb*4+3,.int .i64 (atN ns kb).b) (by simp)⟩)
    (first | (go_at_call 94; refine (zP (zA C) 2 rfl _).mono ?_; rintro e w5 ⟨rfl,hx5⟩; obtain rfl:=hx5.symm) | (go_at_call 110; have HX:=zA8 b Q cap xs (atN ns kb) _ hm ((zA HW).below (zA q) hB) (yi hB (zA q).size) (zA n); refine HX.mono ?_; clear HX; rintro e w3 ⟨rfl,hb3⟩; replace K:=zB ((zA K).below hb3); replace q:=zB ((zA q).trans (hb3.mono (zA q).size)); clear hb3) | (go_at_call 109; refine (zAk (atO xs j).s (atO xs j).k (atO xs j).l (atO xs j).sd true _ (zA d)).mono ?_; rintro e w4 ⟨rfl,hb4⟩; replace K:=zB ((zA K).below hb4); replace q:=zB ((zA q).trans (hb4.mono (zA q).size)); clear hb4))
   all_goals go_wp2
   all_goals go_ret
   all_goals exact ⟨⟨_,rfl,(by unfold zDx; rw [zA N]; simp)⟩,zA q⟩
theorem zQJ {a b:List zD} {i:Nat} (h:i<a.length):atN (a++b) i=atN a i:=by
 simp [atN,List.getD,List.getElem?_append,h]
theorem zDu {a:List zD} {o:zD} {b:List zD} {i:Nat} (h:i=a.length):atN (a++o::b) i=o:=by
 subst h
 simp [atN,List.getD,List.getElem?_append]
theorem zQK (xs:List OpR) (b:Nat) (t:JZ) (l r:ET) (s:Nat):zAN xs (tN b t l r s)=sLv xs (b,t):=rfl
theorem zAh {T:ET} (hg:Zt xs T) (ns rest:List zD) (hV:V=ns++nd T ns.length) :
  1<=V.length/\zAN xs (atN (V++rest) (V.length-1))=lvT xs T/\(3<=(atN (V++rest) (V.length-1)).k->(atN (V++rest) (V.length-1)).k<=5->fnd xs (atN (V++rest) (V.length-1)).t ((atN (V++rest) (V.length-1)).k-2)≠none):=by
 cases T with
 | nil=>exact hg.elim
 | node b o t l r=>
  have e:V=(ns++nd l ns.length++nd r (ns.length+tsz l))++[tN b t l r ns.length]:=by
   rw [hV]; simp [nd]
  have hl:V.length=(ns++nd l ns.length++nd r (ns.length+tsz l)).length+1:=by rw [e]; simp; omega
  have H:atN (V++rest) (V.length-1)=tN b t l r ns.length:=by
   rw [zQJ (by omega)]
   have:V.length-1=(ns++nd l ns.length++nd r (ns.length+tsz l)).length:=by omega
   rw [this]
   conv=>lhs; rw [e]
   exact zDu rfl
  rw [H]
  refine ⟨by omega,zQK _ _ _ _ _ _,fun h3 h5=>?_⟩
  have hk:knB xs (b,t)=true:=by
   obtain ⟨rfl,h⟩:=hg
   simp only [tN] at h3 h5
   rcases h with ⟨K,rfl,rfl⟩ | ⟨rfl,rfl,hl,rfl⟩ | ⟨q,hk,hl,rfl,hh⟩ | ⟨rfl,hk,hl,hr,h1,h2⟩
   ·omega
   ·omega
   ·exact hk
   ·exact hk
  unfold knB at hk
  simp only [tN]
  intro e
  rw [e] at hk
  cases hk
theorem zJJ {q:Nat} {j:Nat} (h:fnd xs t ((q:Int)-2)=some j) (b:Bool):zD1 xs j b=sH xs (q,t) b:=by
 unfold sH ZM
 simp only [rt]
 rw [h]
theorem zMb {T:ET} {q:Nat} {j:Nat} (hg:Zt xs T) (hq:q=3\/q=5) (hf:fnd xs t ((q:Int)-2)=some j) (ns:List zD) (hV:V=ns++nd T ns.length) :
  zGg xs (V++[⟨(q:Int),t,(V.length:Int)-1,0⟩]) V.length↔zBP xs q t T .nil=true:=by
 obtain ⟨h1,h2,h3⟩:=zAh hg ns [⟨(q:Int),t,(V.length:Int)-1,0⟩] hV
 have h:atN (V++[(⟨(q:Int),t,(V.length:Int)-1,0⟩:zD)]) V.length=⟨(q:Int),t,(V.length:Int)-1,0⟩:=zDu rfl
 have ho:zA7 (atN (V++[(⟨(q:Int),t,(V.length:Int)-1,0⟩:zD)]) V.length):=by rw [h]; unfold zA7; simp only; omega
 rw [zGt ho (by rw [h]; exact hf),h]
 simp only
 have e:((V.length:Int)-1).toNat=V.length-1:=by omega
 rw [e,h2,zJJ hf]
 unfold zBP
 have hk:ze (q:Int)=1:=by rcases hq with rfl | rfl <;> rfl
 have h4:q≠4:=by omega
 simp [hk,h4]
theorem zQL {L R:ET} {j:Nat} (Q:Zt xs L) (K:Zt xs R) (hf:fnd xs t 2=some j) (ns:List zD) {V2:List zD} (hV:V=ns++nd L ns.length) (k:V2=V++nd R V.length) :
  zGg xs (V2++[⟨4,t,(V.length:Int)-1,(V2.length:Int)-1⟩]) V2.length↔zBP xs 4 t L R=true:=by
 obtain ⟨h1,h2,h3⟩:=zAh Q ns (nd R V.length++[⟨4,t,(V.length:Int)-1,(V2.length:Int)-1⟩]) hV
 obtain ⟨g1,g2,g3⟩:=zAh K V [⟨4,t,(V.length:Int)-1,(V2.length:Int)-1⟩] k
 rw [<- yx,<- k] at h2
 have H:atN (V2++[(⟨4,t,(V.length:Int)-1,(V2.length:Int)-1⟩:zD)]) V2.length=⟨4,t,(V.length:Int)-1,(V2.length:Int)-1⟩:=zDu rfl
 have ho:zA7 (atN (V2++[(⟨4,t,(V.length:Int)-1,(V2.length:Int)-1⟩:zD)]) V2.length):=by rw [H]; unfold zA7; simp only; omega
 have h:fnd xs t ((4:Int)-2)=some j:=hf
 rw [zGt ho (by rw [H]; exact h),H]
 simp only
 have e:((V.length:Int)-1).toNat=V.length-1:=by omega
 have e2:((V2.length:Int)-1).toNat=V2.length-1:=by omega
 rw [e,e2,h2,g2,zJJ (q:=4) h,zJJ (q:=4) h]
 unfold zBP
 have hk:ze (4:Int)=2:=rfl
 simp [hk]
open Go.Maps
open Go.Deep (BT)
theorem zC5 {u:Value} {us:List zD} (h:ZD w B u us) (h1:1<=us.length):∃ g c,u = .slice (some ⟨g,0,none⟩) us.length c/\B<=g/\ZL w g us us.length:=by
 have hh:=h
 unfold ZD at hh
 obtain ⟨_,⟨rfl,h0⟩ | ⟨g,cap,H,rfl,_⟩⟩:=h
 ·omega
 ·have:=zBJ hh
  exact ⟨g,cap,rfl,this.1,this.2⟩
end Go.Proofs.YtgbkgkdpdfdokaaGreatDoor
