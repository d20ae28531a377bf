import Derived.Test.YtgbkgkdpdfdokaaGreatDoorQ31
namespace Go.Proofs.YtgbkgkdpdfdokaaGreatDoor
set_option linter.all false
set_option maxHeartbeats 16000000
set_option maxRecDepth 100000
open Go.RowKit Go.Maps
theorem zO9 (bm:Nat) (w:JY):(binOp .eql 92 (.map (some bm)) (.map none)).run Tryz.prog w = .ok (.bool false) w:=by kernel_rfl
theorem zQX (w:JY):(binOp .eql 92 (.map none) (.map none)).run Tryz.prog w = .ok (.bool true) w:=by kernel_rfl
theorem zNB (t:OpR) (w:JY) (hs:zC6 t):(Instr.lookup 92 (.map none) (.agg #[.string t.s,.int .i64 t.k,.int .i64 t.l,.int .i64 t.sd]) true).run Tryz.prog w = .ok (.tuple #[.int .i64 0,.bool false]) w:=by
 have h:=Maps.look_nil (P:=Tryz.prog) (w:=w) true zO6 Tryz.underlying92 (zKk w) (zM9 hs)
 simpa using h
theorem zPA (b o B:Nat) (kv:Value) (pv:Option Nat) (ks:List OpR) (t:OpR) (w:JY) (h:zCW w b o B kv pv ks) (hs:zC6 t) :
  Calls Tryz.prog 86 #[.pointer (some ⟨b,o,none⟩),.agg #[.string t.s,.int .i64 t.k,.int .i64 t.l,.int .i64 t.sd]] w fun e w'=>zBs e (t∈ks)/\Below w.heap.size w w':=by
 have c1:=h.c1
 have K:=h.lt
 rcases h.mp with ⟨rfl,rfl⟩ | ⟨bm,rfl,q,hm⟩
 ·have H:=fun w=>zNB t w hs
  obtain ⟨W,hW⟩:∃ W,W=w.alloc (.cells #[.string t.s,.int .i64 t.k,.int .i64 t.l,.int .i64 t.sd] 57):=⟨_,rfl⟩
  have HB:=zB (show Below w.heap.size w W from (by rw [hW]; exact zC _ _))
  have c1':W.cell? ⟨b,o+1,none⟩=some (.map none):=((zA HB).cell (p:=⟨b,o+1,none⟩) K).trans c1
  have k0:W.cell? ⟨w.heap.size,0,none⟩=some (.string t.s):=by rw [hW]; simp [go_sem]
  have k1:W.cell? ⟨w.heap.size,1,none⟩=some (.int .i64 t.k):=by rw [hW]; simp [go_sem]
  have k2:W.cell? ⟨w.heap.size,2,none⟩=some (.int .i64 t.l):=by rw [hW]; simp [go_sem]
  have k3:W.cell? ⟨w.heap.size,3,none⟩=some (.int .i64 t.sd):=by rw [hW]; simp [go_sem]
  have HW:=zB hW
  clear h hW
  go_enter Tryz.func86,Tryz.ntmps86
  go_wp2_with fail
  rw [<- zA HW]
  go_region
  go_wp2_with fail
  go_ret
  exact ⟨⟨false,rfl,zc (by simp)⟩,(zA HB).drew⟩
 ·have HE:=zB (show ∀ v:Bool,v=(gQ ks t).isSome->zDx v (t∈ks) from fun v hv=>by
   unfold zDx
   rw [hv]
   unfold gQ
   rw [Option.isSome_map]
   exact zIj ks t)
  obtain ⟨W,hW⟩:∃ W,W=w.alloc (.cells #[.string t.s,.int .i64 t.k,.int .i64 t.l,.int .i64 t.sd] 57):=⟨_,rfl⟩
  have HB:=zB (show Below w.heap.size w W from (by rw [hW]; exact zC _ _))
  have H:=((hm.kept (zH (zA HB) none) (by simp)).kept (zH (show Below W.heap.size W W.drew from (yG _ _).drew) none) (by simp)).look (ty:=92) Tryz.underlying92 (zKk W.drew) hs
  obtain ⟨x,hx⟩:∃ x,x=(gQ ks t).getD (.int .i64 0):=⟨_,rfl⟩
  obtain ⟨y,hy⟩:∃ y,y=(gQ ks t).isSome:=⟨_,rfl⟩
  rw [<- hx,<- hy] at H
  have HY:=zB hy
  have c1':W.cell? ⟨b,o+1,none⟩=some (.map (some bm)):=((zA HB).cell (p:=⟨b,o+1,none⟩) K).trans c1
  have k0:W.cell? ⟨w.heap.size,0,none⟩=some (.string t.s):=by rw [hW]; simp [go_sem]
  have k1:W.cell? ⟨w.heap.size,1,none⟩=some (.int .i64 t.k):=by rw [hW]; simp [go_sem]
  have k2:W.cell? ⟨w.heap.size,2,none⟩=some (.int .i64 t.l):=by rw [hW]; simp [go_sem]
  have k3:W.cell? ⟨w.heap.size,3,none⟩=some (.int .i64 t.sd):=by rw [hW]; simp [go_sem]
  have HW:=zB hW
  clear h hW hx hy hm
  go_enter Tryz.func86,Tryz.ntmps86
  go_wp2_with fail
  rw [<- zA HW]
  go_region
  go_wp2_with fail
  go_ret
  exact ⟨⟨y,rfl,(zA HE) y (zA HY)⟩,(zA HB).drew⟩
theorem Eff.of_below {w w':JY} (h:Below w.heap.size w w') {b:Nat} (hb:b<w.heap.size) (o:Nat) (kv:Value) (pv:Option Nat):Eff w w' b o kv pv:=
 ⟨h.os,h.tape,h.output,h.size,fun i hi _ _ _=>h.block i hi,fun o' _ _=>⟨h.cell (p:=⟨b,o',none⟩) hb,h.frozen (p:=⟨b,o',none⟩) hb⟩⟩
theorem zx.step {w w1 w2:JY} {b o B:Nat} {kv kv1:Value} {pv pv1:Option Nat} {H:List OpR} (he:Eff w w1 b o kv pv) (hk:ZJ w.heap.size kv.ownBlock kv1.ownBlock) (hp:ZJ w.heap.size pv pv1) (h:zx w1 b o B kv1 pv1 H w2):zx w b o B kv pv H w2:=by
 obtain ⟨kv2,pv2,h1,h2,h3,h4⟩:=h
 exact ⟨kv2,pv2,h1,he.trans h2 hk hp,hk.trans h3 he.size,hp.trans h4 he.size⟩
theorem zKn {w1 W:JY} {b o B bm X:Nat} {kv:Value} {pv:Option Nat} {ks:List OpR} {t:OpR} (h:zCW w1 b o B kv pv ks) (hB:B<=w1.heap.size) (ht:t ∉ ks) (hs:zC6 t) (hl:ks.length<=1048576)
  (G:w1.heap.size<=W.heap.size) (q:∀ i,i<w1.heap.size->i≠b->W.heap[i]?=w1.heap[i]?) (d:W.os=w1.os/\W.tape=w1.tape/\W.output=w1.output) (v:∀ o',o'≠o+1->W.cell? ⟨b,o',none⟩=w1.cell? ⟨b,o',none⟩) (J:∀ o',W.frozen? ⟨b,o',none⟩=w1.frozen? ⟨b,o',none⟩) (A:W.cell? ⟨b,o+1,none⟩=some (.map (some bm))) (V:B<=bm) (H:bm≠b) (K:kv.ownBlock≠some bm) (y:ZJ w1.heap.size pv (some bm)) (hm:zBV W bm ks.length (gQ ks))
  (hX:X<w1.heap.size) (F:X≠b) (c:bm≠X) :
  ∃ w3,(Instr.mapUpdate 92 (.map (some bm)) (.agg #[.string t.s,.int .i64 t.k,.int .i64 t.l,.int .i64 t.sd]) (.int .i64 (ks.length:Int))).run Tryz.prog W.drew = .ok () w3/\W.heap.size<=w3.heap.size/\W.cell? ⟨b,o,none⟩=some kv/\w3.cell? ⟨b,o,none⟩=some kv/\w3.frozen? ⟨b,o,none⟩=false/\(∀ j,W.cell? ⟨X,j,none⟩=w1.cell? ⟨X,j,none⟩/\w3.cell? ⟨X,j,none⟩=w1.cell? ⟨X,j,none⟩)/\Zw w3 B kv ks /\
   ∀ (w4:JY) (g4 c4:Nat) (ob:Obj),w4.ownsRow B 57 4 (.slice (some ⟨g4,0,none⟩) (ks.length+1) c4) (ks.length+1) (zU ks++zU [t])->(w3.alloc ob).drew.grownBy w4 kv.ownBlock->(kv.ownBlock=some g4\/g4=w3.heap.size+1)->zx w1 b o B kv pv (ks++[t]) (w4.setCell ⟨b,o,none⟩ (.slice (some ⟨g4,0,none⟩) (ks.length+1) c4)):=by
 have C:=hm.lt
 have I:=h.lt
 obtain ⟨w3,p,U,u⟩:=(hm.kept (zH (show Below W.heap.size W W.drew from (yG _ _).drew) none) (by simp)).update (ty:=92) Tryz.underlying92 (by unfold maxLen; omega) (t:=t) hs (.int .i64 (ks.length:Int))
 have hk:zG W w3 bm:=(zG.of_below (show Below W.heap.size W W.drew from (yG _ _).drew)).trans u
 have Q:Zw W B kv ks:=by
  obtain ⟨a,⟨h1,h2⟩ | ⟨g,cap,E,h1,h2,h3,h4⟩⟩:=h.row
  ·exact ⟨a,yQ ⟨h1,h2⟩⟩
  ·have D:g≠b:=fun e=>h.nk (by rw [h1,e]; rfl)
   refine ⟨a,yR ⟨g,cap,E,h1,h2,(q g ?_ D).trans h3,h4⟩⟩
   exact (h.row.lt g (by rw [h1]; rfl)).2
 have c0:W.cell? ⟨b,o,none⟩=some kv:=(v o (by omega)).trans h.c0
 have Y:∀ j,W.cell? ⟨X,j,none⟩=w1.cell? ⟨X,j,none⟩:=fun j=>yp (q X hX F)
 refine ⟨w3,p,hk.size,c0,(hk.cell (by omega) (Ne.symm H) o).trans c0,(hk.frozen (by omega) (Ne.symm H) o).trans ((J o).trans h.f0),fun j=>⟨Y j,(hk.cell (by omega) (Ne.symm c) j).trans (Y j)⟩,Q.grown (zr hk) (fun k e x=>K (e.trans x.symm)),fun w4 g4 c4 ob P hg f=>?_⟩
 have hr:Zw w4 B (.slice (some ⟨g4,0,none⟩) (ks.length+1) c4) (ks++[t]):=by
  unfold Zw
  rw [ZT,ym]
  exact P
 exact zLp h hB ht G q d v J A Q V H K y U hk C (ob:=ob) ⟨hg.os,hg.tape,hg.output,hg.size,hg.block⟩ hr (f.imp (fun e=>e.symm) (fun e=>by rw [e]; rfl))
theorem zPB (b o B:Nat) (kv:Value) (pv:Option Nat) (ks:List OpR) (t:OpR) (w:JY) (h:zCW w b o B kv pv ks) (hs:zC6 t) (hl:ks.length<=1048576) (hB:B<=w.heap.size) :
  Calls Tryz.prog 66 #[.pointer (some ⟨b,o,none⟩),.agg #[.string t.s,.int .i64 t.k,.int .i64 t.l,.int .i64 t.sd]] w fun e w'=>zBs e (t ∉ ks)/\zx w b o B kv pv (zCS ks t) w':=by
 have hn:=h.lt
 obtain ⟨W0,F⟩:∃ W0,W0=w.alloc (.cells #[.string t.s,.int .i64 t.k,.int .i64 t.l,.int .i64 t.sd] 57):=⟨_,rfl⟩
 have hp:Below w.heap.size w W0:=by rw [F]; exact zC _ _
 have h0:W0.heap.size=w.heap.size+1:=by rw [F]; simp
 have HH:=zB (zPA b o B kv pv ks t W0 (h.below hp) hs)
 have k0:W0.cell? ⟨w.heap.size,0,none⟩=some (.string t.s):=by rw [F]; simp [go_sem]
 have k1:W0.cell? ⟨w.heap.size,1,none⟩=some (.int .i64 t.k):=by rw [F]; simp [go_sem]
 have k2:W0.cell? ⟨w.heap.size,2,none⟩=some (.int .i64 t.l):=by rw [F]; simp [go_sem]
 have k3:W0.cell? ⟨w.heap.size,3,none⟩=some (.int .i64 t.sd):=by rw [F]; simp [go_sem]
 have hm:=zB F
 have hq:=zB hp
 have I:=zB h0
 clear F hp h0
 by_cases O:t∈ks
 ·have HP:=zB (fun w' (hb:Below w.heap.size w w')=>show zx w b o B kv pv (zCS ks t) w' from (by rw [zB9 O]; exact ⟨kv,pv,h.below hb,Eff.of_below hb hn _ _ _,yQ rfl,yQ rfl⟩))
  have ht:=zB O
  clear h O
  go_enter Tryz.func66,Tryz.ntmps66
  go_wp2_with (first | (go_at_call 86; rw [<- zA hm]; (with_reducible refine (zA HH).mono ?_); rintro e w1 ⟨⟨v,rfl,hv⟩,hx⟩; have D:=zB hx; obtain rfl:v=true:=hv.2 (zA ht); clear hv hx))
  go_ret
  exact ⟨⟨false,rfl,zc (fun h=>h (zA ht))⟩,(zA HP) _ ((zA hq).trans ((zA D).mono (by rw [zA I]; omega)))⟩
 have N:=zB O
 obtain ⟨iO,h4,he,hg,hk⟩:=zN zCr
 have HI:=zB h4
 have HZ:=zB (yH he (yH hg hk))
 clear h4 he hg hk
 have HQ:=zB h
 have hf:=zB (zC1 O)
 clear h O
 obtain ⟨ak,ck,rfl⟩:∃ a c,kv = .slice a ks.length c:=zO (zA HQ).row
 have hc:=zB (show (Value.slice ak ks.length ck).ownBlock≠some w.heap.size from fun e=>by have:=((zA HQ).row.lt _ e).2; omega)
 rcases (zA HQ).mp with ⟨rfl,hw⟩ | ⟨bm,rfl,h9,Z⟩
 ·have h8:=fun w1=>zQX w1
  have hF:=@run_makeMap Tryz.prog
  have h6:=zB hw
  clear hw
  go_enter Tryz.func66,Tryz.ntmps66
  go_wp2_with (first | (go_at_call 86; rw [<- zA hm]; (with_reducible refine (zA HH).mono ?_); rintro e w1 ⟨⟨v,rfl,hv⟩,hx⟩; have D:=zB hx; obtain rfl:v=false:=(by cases v; rfl; exact yP (hv.1 rfl) (zA N)); clear hv hx; have hC:w.heap.size+1<=w1.heap.size:=(by have:=(zA D).size; rw [zA I] at this; exact this); have m:b<w1.heap.size:=(by omega); have M:=zB (show Below w.heap.size w w1 from (zA hq).trans ((zA D).mono (by rw [zA I]; omega))); have h1:=(zA HQ).below (zA M); have y:∀ j,w1.cell? ⟨w.heap.size,j,none⟩=W0.cell? ⟨w.heap.size,j,none⟩:=(fun j=>(zA D).cell (p:=⟨w.heap.size,j,none⟩) (by show w.heap.size<W0.heap.size; rw [zA I]; omega)); have j0:=(y 0).trans k0; have j1:=(y 1).trans k1; have j2:=(y 2).trans k2; have j3:=(y 3).trans k3; clear y k0 k1 k2 k3 HH; have c0:=h1.c0; have c1:=h1.c1; have f0:=h1.f0; have f1:=h1.f1; have hd:=zB h1; clear h1))
  obtain ⟨W,hW⟩:∃ W,W=(w1.setCell ⟨b,o+1,none⟩ (.map (some w1.heap.size))).alloc (.map #[] 0):=⟨_,rfl⟩
  have n:(w1.setCell ⟨b,o+1,none⟩ (.map (some w1.heap.size))).heap.size=w1.heap.size:=by simp [World.setCell]
  have hG:w1.heap.size+1<=W.heap.size:=by rw [hW]; simp [World.setCell]
  have hr:∀ i,i<w1.heap.size->i≠b->W.heap[i]?=w1.heap[i]?:=fun i hi h7=>by
   rw [hW,(zC (w1.setCell ⟨b,o+1,none⟩ (.map (some w1.heap.size))) (.map #[] 0)).block i (by rw [n]; exact hi)]
   exact yZ _ _ _ _ (by simpa using h7)
  have h3:∀ o',o'≠o+1->W.cell? ⟨b,o',none⟩=w1.cell? ⟨b,o',none⟩:=fun o' ho=>by
   rw [hW,(zC (w1.setCell ⟨b,o+1,none⟩ (.map (some w1.heap.size))) (.map #[] 0)).cell (p:=⟨b,o',none⟩) (by show b<_; rw [n]; exact m)]
   exact yg _ _ _ _ (by first | (simp; done) | (simp; omega) | (intro x; injection x with _ x; omega))
  have hy:∀ o',W.frozen? ⟨b,o',none⟩=w1.frozen? ⟨b,o',none⟩:=fun o'=>by
   rw [hW,(zC (w1.setCell ⟨b,o+1,none⟩ (.map (some w1.heap.size))) (.map #[] 0)).frozen (p:=⟨b,o',none⟩) (by show b<_; rw [n]; exact m)]
   exact yq _ _ _ _
  have h5:W.cell? ⟨b,o+1,none⟩=some (.map (some w1.heap.size)):=by
   rw [hW,(zC (w1.setCell ⟨b,o+1,none⟩ (.map (some w1.heap.size))) (.map #[] 0)).cell (p:=⟨b,o+1,none⟩) (by show b<_; rw [n]; exact m)]
   exact yo _ _ _ c1
  have R:zBV W w1.heap.size ks.length (gQ ks):=by
   have:=zBV.made (w1.setCell ⟨b,o+1,none⟩ (.map (some w1.heap.size)))
   rw [n,<- hW] at this
   rw [zA h6]
   exact this.congr (fun t=>rfl)
  obtain ⟨w3,T,hA,c0',m0,m1,Y,z,f⟩:=zKn (X:=w.heap.size) (zA hd) (by omega) (zA N) hs hl (by omega) hr (by rw [hW]; exact ⟨rfl,rfl,rfl⟩) h3 hy h5 (by omega) (by omega) (fun e=>by have:=((zA hd).row.lt _ e).2; omega) (yR ⟨_,rfl,yh _⟩) R (by omega) (by omega) (by omega)
  have hD:=zB hW
  clear R hW hr h3 hy n
  have x0:=(Y 0).1.trans j0
  have x1:=(Y 1).1.trans j1
  have x2:=(Y 2).1.trans j2
  have x3:=(Y 3).1.trans j3
  have y0:=(Y 0).2.trans j0
  have y1:=(Y 1).2.trans j1
  have y2:=(Y 2).2.trans j2
  have y3:=(Y 3).2.trans j3
  have ha:=zB z
  have g:=zB f
  clear Y z f j0 j1 j2 j3
  rw [<- zA hD]
  go_region
  go_wp2_with fail
  have d:b<w3.heap.size:=by omega
  have A:w.heap.size<w3.heap.size:=by omega
  have P:w.heap.size≠b:=by omega
  have k6:∀ o',(w3.alloc o').drew.cell? ⟨b,o,none⟩=some (.slice ak ks.length ck):=fun o'=>((zC w3 o').cell (p:=⟨b,o,none⟩) d).trans m0
  have V:(fun W:World=>W.cell? ⟨w.heap.size,0,none⟩=some (.string t.s)/\W.cell? ⟨w.heap.size,1,none⟩=some (.int .i64 t.k)/\W.cell? ⟨w.heap.size,2,none⟩=some (.int .i64 t.l)/\W.cell? ⟨w.heap.size,3,none⟩=some (.int .i64 t.sd)) w3.drew:=⟨y0,y1,y2,y3⟩
  have Q:=zB (show (fun W:World=>W.cell? ⟨w.heap.size,0,none⟩=some (.string t.s)/\W.cell? ⟨w.heap.size,1,none⟩=some (.int .i64 t.k)/\W.cell? ⟨w.heap.size,2,none⟩=some (.int .i64 t.l)/\W.cell? ⟨w.heap.size,3,none⟩=some (.int .i64 t.sd)) (w3.alloc (.cells #[.string t.s,.int .i64 t.k,.int .i64 t.l,.int .i64 t.sd] 57)).drew from ⟨((zC w3 _).cell (p:=⟨w.heap.size,0,none⟩) A).trans y0,((zC w3 _).cell (p:=⟨w.heap.size,1,none⟩) A).trans y1,((zC w3 _).cell (p:=⟨w.heap.size,2,none⟩) A).trans y2,((zC w3 _).cell (p:=⟨w.heap.size,3,none⟩) A).trans y3⟩)
  have E:=zB (zA HQ).nk
  have r:=zB (fun w' (hh:zx w1 b o B (.slice ak ks.length ck) none (ks++[t]) w')=>show zBs (.returned (.bool true)) (t ∉ ks)/\zx w b o B (.slice ak ks.length ck) none (zCS ks t) w' from ⟨⟨true,rfl,zAJ (zA N)⟩,by rw [zA hf]; exact zx.step (Eff.of_below (zA M) hn _ _ _) (yQ rfl) (yQ rfl) hh⟩)
  clear T x0 x1 x2 x3
  refine wp_region_held_drew (S:=fun W:World=>W.cell? ⟨w.heap.size,0,none⟩=some (.string t.s)/\W.cell? ⟨w.heap.size,1,none⟩=some (.int .i64 t.k)/\W.cell? ⟨w.heap.size,2,none⟩=some (.int .i64 t.l)/\W.cell? ⟨w.heap.size,3,none⟩=some (.int .i64 t.sd)) (by kernel_rfl) V (fun _=>?_)
  refine yI (i:=0) (v:=?_) rfl (by kernel_rfl) (by kernel_rfl) (by kernel_rfl) (fun _ _ _ h=>h) (yQ ⟨by rfl,?_⟩) V ?_
  rotate_left
  ·intro W hW; obtain ⟨s0,s1,s2,s3⟩:=hW; simp only [yc,ya,yb]; go_simp; first | done | (with_reducible rfl)
  simp only [yc,ya,yb]
  simp only [Act.put,yd,ye,yf]
  refine yI (i:=1) (v:=?_) rfl (by kernel_rfl) (by kernel_rfl) (by kernel_rfl) (fun _ _ _ h=>h) (yQ ⟨by rfl,?_⟩) V ?_
  rotate_left
  ·intro W hW; obtain ⟨s0,s1,s2,s3⟩:=hW; simp only [yc,ya,yb]; go_simp; first | done | (with_reducible rfl)
  simp only [yc,ya,yb]
  simp only [Act.put,yd,ye,yf]
  refine yI (i:=2) (v:=?_) rfl (by kernel_rfl) (by kernel_rfl) (by kernel_rfl) (fun _ _ _ h=>h) (yQ ⟨by rfl,?_⟩) V ?_
  rotate_left
  ·intro W hW; obtain ⟨s0,s1,s2,s3⟩:=hW; simp only [yc,ya,yb]; go_simp; first | done | (with_reducible rfl)
  simp only [yc,ya,yb]
  simp only [Act.put,yd,ye,yf]
  refine yI (i:=3) (v:=?_) rfl (by kernel_rfl) (by kernel_rfl) (by kernel_rfl) (fun _ _ _ h=>h) (yQ ⟨by rfl,?_⟩) V ?_
  rotate_left
  ·intro W hW; obtain ⟨s0,s1,s2,s3⟩:=hW; simp only [yc,ya,yb]; go_simp; first | done | (with_reducible rfl)
  simp only [yc,ya,yb]
  simp only [Act.put,yd,ye,yf]
  refine yI (i:=5) (v:=?_) rfl (by kernel_rfl) (by kernel_rfl) (by kernel_rfl) (fun _ _ _ h=>h) (yQ ⟨by rfl,?_⟩) V ?_
  rotate_left
  ·intro W hW; obtain ⟨s0,s1,s2,s3⟩:=hW; simp only [yc,ya,yb]; go_simp; first | done | (with_reducible rfl)
  simp only [yc,ya,yb]
  simp only [Act.put,yd,ye,yf]
  refine yL (rs:=[4,6]) (by kernel_rfl) (by simp) ?_
  refine yE rfl (fun K hK=>?_) (yE rfl (fun K hK=>?_) yF)
  ·simp only [yc,ya,yb]
   go_simp
   refine hK.out _ _ V (fun _=>?_)
   clear hK
   refine yL (rs:=[6]) (by kernel_rfl) (by simp) ?_
   refine yE rfl (fun K hK=>?_) yF
   simp only [yc,ya,yb]
   go_simp
   refine hK.out _ _ (zA Q) (fun _=>?_)
   clear hK
   refine yL (rs:=[7]) (by kernel_rfl) (by simp) ?_
   refine yE rfl (fun K hK=>?_) yF
   refine step_append_lies _ (by rfl) (.tmp 31) (.tmp 33) 31 (by rfl) B 57 iO _ 4 40 Tryz.underlying31 (zA HI) (zA HZ).1 (zA HZ).2.1 (zA HZ).2.2 rfl (by decide) _ ks.length (zU ks) (by rfl) ((zA ha).below ((zC _ _).drew)) ⟨w3.heap.size,0,none⟩ 1 1 (zU [t]) (by rfl) rfl (fun j u hj=>(by simpa using zAH w3 t j u hj)) (ZA _) (by decide) (by unfold maxLen; omega) (by omega) (by simp; omega) _ rfl ?_
   intro g4 c4 w4 q H J C
   have m2:w4.cell? ⟨b,o,none⟩=some (.slice ak ks.length ck):=(zE H (b:=b) (by simp; omega) (zA E) o).trans (k6 _)
   have m3:w4.frozen? ⟨b,o,none⟩=false:=(zv H (b:=b) (by simp; omega) (zA E) o).trans (((zC w3 _).frozen (p:=⟨b,o,none⟩) d).trans m1)
   have ec:=fun j=>zE H (b:=w.heap.size) (by simp; omega) (zA hc) j
   have e0:w4.cell? ⟨w.heap.size,0,none⟩=some (.string t.s):=(ec 0).trans (zA Q).1
   have e1:w4.cell? ⟨w.heap.size,1,none⟩=some (.int .i64 t.k):=(ec 1).trans (zA Q).2.1
   have e2:w4.cell? ⟨w.heap.size,2,none⟩=some (.int .i64 t.l):=(ec 2).trans (zA Q).2.2.1
   have e3:w4.cell? ⟨w.heap.size,3,none⟩=some (.int .i64 t.sd):=(ec 3).trans (zA Q).2.2.2
   have G:=zB ((zA r) _ ((zA g) _ _ _ _ q H (J.imp id (fun e=>e.trans (by simp)))))
   clear q H J C ec
   refine hK.out _ _ ⟨e0,e1,e2,e3⟩ (fun U=>?_)
   clear hK
   simp only [yc,ya,yb]
   simp only [Act.put,yd,ye,yf]
   refine yI (i:=8) (v:=?_) rfl (by kernel_rfl) (by kernel_rfl) (by kernel_rfl) (fun _ _ _ h=>h) (yQ ⟨by rfl,?_⟩) U ?_
   rotate_left
   ·intro W hW; obtain ⟨s0,s1,s2,s3⟩:=hW; simp only [yc,ya,yb]; go_simp; first | done | (with_reducible rfl)
   simp only [yc,ya,yb]
   simp only [Act.put,yd,ye,yf]
   refine yI (i:=9) (v:=?_) rfl (by kernel_rfl) (by kernel_rfl) (by kernel_rfl) (fun _ _ _ h=>h) (yQ ⟨by rfl,?_⟩) U ?_
   rotate_left
   ·intro W hW; obtain ⟨s0,s1,s2,s3⟩:=hW; simp only [yc,ya,yb]; go_simp; first | done | (with_reducible rfl)
   simp only [yc,ya,yb]
   simp only [Act.put,yd,ye,yf]
   refine yL (rs:=[10]) (by kernel_rfl) (by simp) ?_
   refine yE rfl (fun K hK=>?_) yF
   simp only [yc,ya,yb]
   go_simp
   refine hK.out _ _ ⟨by rw [yg _ _ _ _ (by simp [P])]; exact e0,by rw [yg _ _ _ _ (by simp [P])]; exact e1,by rw [yg _ _ _ _ (by simp [P])]; exact e2,by rw [yg _ _ _ _ (by simp [P])]; exact e3⟩ (fun L=>?_)
   clear hK
   refine wpAnyH_done (by kernel_rfl) ?_ _
   clear U L
   go_wp2_with fail
   go_ret
   exact zA G
  ·simp only [yc,ya,yb]
   go_simp
   refine hK.out _ _ (zA Q) (fun _=>?_)
   clear hK
   refine yL (rs:=[4]) (by kernel_rfl) (by simp) ?_
   refine yE rfl (fun K hK=>?_) yF
   simp only [yc,ya,yb]
   go_simp
   refine hK.out _ _ (zA Q) (fun _=>?_)
   clear hK
   refine yL (rs:=[7]) (by kernel_rfl) (by simp) ?_
   refine yE rfl (fun K hK=>?_) yF
   refine step_append_lies _ (by rfl) (.tmp 31) (.tmp 33) 31 (by rfl) B 57 iO _ 4 40 Tryz.underlying31 (zA HI) (zA HZ).1 (zA HZ).2.1 (zA HZ).2.2 rfl (by decide) _ ks.length (zU ks) (by rfl) ((zA ha).below ((zC _ _).drew)) ⟨w3.heap.size,0,none⟩ 1 1 (zU [t]) (by rfl) rfl (fun j u hj=>(by simpa using zAH w3 t j u hj)) (ZA _) (by decide) (by unfold maxLen; omega) (by omega) (by simp; omega) _ rfl ?_
   intro g4 c4 w4 q H J C
   have m2:w4.cell? ⟨b,o,none⟩=some (.slice ak ks.length ck):=(zE H (b:=b) (by simp; omega) (zA E) o).trans (k6 _)
   have m3:w4.frozen? ⟨b,o,none⟩=false:=(zv H (b:=b) (by simp; omega) (zA E) o).trans (((zC w3 _).frozen (p:=⟨b,o,none⟩) d).trans m1)
   have ec:=fun j=>zE H (b:=w.heap.size) (by simp; omega) (zA hc) j
   have e0:w4.cell? ⟨w.heap.size,0,none⟩=some (.string t.s):=(ec 0).trans (zA Q).1
   have e1:w4.cell? ⟨w.heap.size,1,none⟩=some (.int .i64 t.k):=(ec 1).trans (zA Q).2.1
   have e2:w4.cell? ⟨w.heap.size,2,none⟩=some (.int .i64 t.l):=(ec 2).trans (zA Q).2.2.1
   have e3:w4.cell? ⟨w.heap.size,3,none⟩=some (.int .i64 t.sd):=(ec 3).trans (zA Q).2.2.2
   have G:=zB ((zA r) _ ((zA g) _ _ _ _ q H (J.imp id (fun e=>e.trans (by simp)))))
   clear q H J C ec
   refine hK.out _ _ ⟨e0,e1,e2,e3⟩ (fun U=>?_)
   clear hK
   simp only [yc,ya,yb]
   simp only [Act.put,yd,ye,yf]
   refine yI (i:=8) (v:=?_) rfl (by kernel_rfl) (by kernel_rfl) (by kernel_rfl) (fun _ _ _ h=>h) (yQ ⟨by rfl,?_⟩) U ?_
   rotate_left
   ·intro W hW; obtain ⟨s0,s1,s2,s3⟩:=hW; simp only [yc,ya,yb]; go_simp; first | done | (with_reducible rfl)
   simp only [yc,ya,yb]
   simp only [Act.put,yd,ye,yf]
   refine yI (i:=9) (v:=?_) rfl (by kernel_rfl) (by kernel_rfl) (by kernel_rfl) (fun _ _ _ h=>h) (yQ ⟨by rfl,?_⟩) U ?_
   rotate_left
   ·intro W hW; obtain ⟨s0,s1,s2,s3⟩:=hW; simp only [yc,ya,yb]; go_simp; first | done | (with_reducible rfl)
   simp only [yc,ya,yb]
   simp only [Act.put,yd,ye,yf]
   refine yL (rs:=[10]) (by kernel_rfl) (by simp) ?_
   refine yE rfl (fun K hK=>?_) yF
   simp only [yc,ya,yb]
   go_simp
   refine hK.out _ _ ⟨by rw [yg _ _ _ _ (by simp [P])]; exact e0,by rw [yg _ _ _ _ (by simp [P])]; exact e1,by rw [yg _ _ _ _ (by simp [P])]; exact e2,by rw [yg _ _ _ _ (by simp [P])]; exact e3⟩ (fun L=>?_)
   clear hK
   refine wpAnyH_done (by kernel_rfl) ?_ _
   clear U L
   go_wp2_with fail
   go_ret
   exact zA G
 ·have h8:=fun w1=>zO9 bm w1
  have hz:bm≠b:=fun e=>(zA HQ).np (by rw [e])
  have hu:(Value.slice ak ks.length ck).ownBlock≠some bm:=fun e=>(zA HQ).nn bm e rfl
  have hE:=Z.lt
  have h2:=zB Z
  clear Z
  go_enter Tryz.func66,Tryz.ntmps66
  go_wp2_with (first | (go_at_call 86; rw [<- zA hm]; (with_reducible refine (zA HH).mono ?_); rintro e w1 ⟨⟨v,rfl,hv⟩,hx⟩; have D:=zB hx; obtain rfl:v=false:=(by cases v; rfl; exact yP (hv.1 rfl) (zA N)); clear hv hx; have hC:w.heap.size+1<=w1.heap.size:=(by have:=(zA D).size; rw [zA I] at this; exact this); have m:b<w1.heap.size:=(by omega); have M:=zB (show Below w.heap.size w w1 from (zA hq).trans ((zA D).mono (by rw [zA I]; omega))); have h1:=(zA HQ).below (zA M); have y:∀ j,w1.cell? ⟨w.heap.size,j,none⟩=W0.cell? ⟨w.heap.size,j,none⟩:=(fun j=>(zA D).cell (p:=⟨w.heap.size,j,none⟩) (by show w.heap.size<W0.heap.size; rw [zA I]; omega)); have j0:=(y 0).trans k0; have j1:=(y 1).trans k1; have j2:=(y 2).trans k2; have j3:=(y 3).trans k3; clear y k0 k1 k2 k3 HH; have c0:=h1.c0; have c1:=h1.c1; have f0:=h1.f0; have f1:=h1.f1; have hd:=zB h1; clear h1))
  have R:zBV w1 bm ks.length (gQ ks):=(zA h2).kept (zH (zA M) none) (by simp)
  obtain ⟨w3,T,hA,c0',m0,m1,Y,z,f⟩:=zKn (X:=w.heap.size) (zA hd) (by omega) (zA N) hs hl (yh _) (fun _ _ _=>rfl) ⟨rfl,rfl,rfl⟩ (fun _ _=>rfl) (fun _=>rfl) c1 h9 hz hu (yQ rfl) R (by omega) (by omega) (by omega)
  clear R
  have x0:=(Y 0).1.trans j0
  have x1:=(Y 1).1.trans j1
  have x2:=(Y 2).1.trans j2
  have x3:=(Y 3).1.trans j3
  have y0:=(Y 0).2.trans j0
  have y1:=(Y 1).2.trans j1
  have y2:=(Y 2).2.trans j2
  have y3:=(Y 3).2.trans j3
  have ha:=zB z
  have g:=zB f
  clear Y z f j0 j1 j2 j3
  go_region
  go_wp2_with fail
  have d:b<w3.heap.size:=by omega
  have A:w.heap.size<w3.heap.size:=by omega
  have P:w.heap.size≠b:=by omega
  have k6:∀ o',(w3.alloc o').drew.cell? ⟨b,o,none⟩=some (.slice ak ks.length ck):=fun o'=>((zC w3 o').cell (p:=⟨b,o,none⟩) d).trans m0
  have V:(fun W:World=>W.cell? ⟨w.heap.size,0,none⟩=some (.string t.s)/\W.cell? ⟨w.heap.size,1,none⟩=some (.int .i64 t.k)/\W.cell? ⟨w.heap.size,2,none⟩=some (.int .i64 t.l)/\W.cell? ⟨w.heap.size,3,none⟩=some (.int .i64 t.sd)) w3.drew:=⟨y0,y1,y2,y3⟩
  have Q:=zB (show (fun W:World=>W.cell? ⟨w.heap.size,0,none⟩=some (.string t.s)/\W.cell? ⟨w.heap.size,1,none⟩=some (.int .i64 t.k)/\W.cell? ⟨w.heap.size,2,none⟩=some (.int .i64 t.l)/\W.cell? ⟨w.heap.size,3,none⟩=some (.int .i64 t.sd)) (w3.alloc (.cells #[.string t.s,.int .i64 t.k,.int .i64 t.l,.int .i64 t.sd] 57)).drew from ⟨((zC w3 _).cell (p:=⟨w.heap.size,0,none⟩) A).trans y0,((zC w3 _).cell (p:=⟨w.heap.size,1,none⟩) A).trans y1,((zC w3 _).cell (p:=⟨w.heap.size,2,none⟩) A).trans y2,((zC w3 _).cell (p:=⟨w.heap.size,3,none⟩) A).trans y3⟩)
  have E:=zB (zA HQ).nk
  have r:=zB (fun w' (hh:zx w1 b o B (.slice ak ks.length ck) (some bm) (ks++[t]) w')=>show zBs (.returned (.bool true)) (t ∉ ks)/\zx w b o B (.slice ak ks.length ck) (some bm) (zCS ks t) w' from ⟨⟨true,rfl,zAJ (zA N)⟩,by rw [zA hf]; exact zx.step (Eff.of_below (zA M) hn _ _ _) (yQ rfl) (yQ rfl) hh⟩)
  clear T x0 x1 x2 x3
  refine wp_region_held_drew (S:=fun W:World=>W.cell? ⟨w.heap.size,0,none⟩=some (.string t.s)/\W.cell? ⟨w.heap.size,1,none⟩=some (.int .i64 t.k)/\W.cell? ⟨w.heap.size,2,none⟩=some (.int .i64 t.l)/\W.cell? ⟨w.heap.size,3,none⟩=some (.int .i64 t.sd)) (by kernel_rfl) V (fun _=>?_)
  refine yI (i:=0) (v:=?_) rfl (by kernel_rfl) (by kernel_rfl) (by kernel_rfl) (fun _ _ _ h=>h) (yQ ⟨by rfl,?_⟩) V ?_
  rotate_left
  ·intro W hW; obtain ⟨s0,s1,s2,s3⟩:=hW; simp only [yc,ya,yb]; go_simp; first | done | (with_reducible rfl)
  simp only [yc,ya,yb]
  simp only [Act.put,yd,ye,yf]
  refine yI (i:=1) (v:=?_) rfl (by kernel_rfl) (by kernel_rfl) (by kernel_rfl) (fun _ _ _ h=>h) (yQ ⟨by rfl,?_⟩) V ?_
  rotate_left
  ·intro W hW; obtain ⟨s0,s1,s2,s3⟩:=hW; simp only [yc,ya,yb]; go_simp; first | done | (with_reducible rfl)
  simp only [yc,ya,yb]
  simp only [Act.put,yd,ye,yf]
  refine yI (i:=2) (v:=?_) rfl (by kernel_rfl) (by kernel_rfl) (by kernel_rfl) (fun _ _ _ h=>h) (yQ ⟨by rfl,?_⟩) V ?_
  rotate_left
  ·intro W hW; obtain ⟨s0,s1,s2,s3⟩:=hW; simp only [yc,ya,yb]; go_simp; first | done | (with_reducible rfl)
  simp only [yc,ya,yb]
  simp only [Act.put,yd,ye,yf]
  refine yI (i:=3) (v:=?_) rfl (by kernel_rfl) (by kernel_rfl) (by kernel_rfl) (fun _ _ _ h=>h) (yQ ⟨by rfl,?_⟩) V ?_
  rotate_left
  ·intro W hW; obtain ⟨s0,s1,s2,s3⟩:=hW; simp only [yc,ya,yb]; go_simp; first | done | (with_reducible rfl)
  simp only [yc,ya,yb]
  simp only [Act.put,yd,ye,yf]
  refine yI (i:=5) (v:=?_) rfl (by kernel_rfl) (by kernel_rfl) (by kernel_rfl) (fun _ _ _ h=>h) (yQ ⟨by rfl,?_⟩) V ?_
  rotate_left
  ·intro W hW; obtain ⟨s0,s1,s2,s3⟩:=hW; simp only [yc,ya,yb]; go_simp; first | done | (with_reducible rfl)
  simp only [yc,ya,yb]
  simp only [Act.put,yd,ye,yf]
  refine yL (rs:=[4,6]) (by kernel_rfl) (by simp) ?_
  refine yE rfl (fun K hK=>?_) (yE rfl (fun K hK=>?_) yF)
  ·simp only [yc,ya,yb]
   go_simp
   refine hK.out _ _ V (fun _=>?_)
   clear hK
   refine yL (rs:=[6]) (by kernel_rfl) (by simp) ?_
   refine yE rfl (fun K hK=>?_) yF
   simp only [yc,ya,yb]
   go_simp
   refine hK.out _ _ (zA Q) (fun _=>?_)
   clear hK
   refine yL (rs:=[7]) (by kernel_rfl) (by simp) ?_
   refine yE rfl (fun K hK=>?_) yF
   refine step_append_lies _ (by rfl) (.tmp 31) (.tmp 33) 31 (by rfl) B 57 iO _ 4 40 Tryz.underlying31 (zA HI) (zA HZ).1 (zA HZ).2.1 (zA HZ).2.2 rfl (by decide) _ ks.length (zU ks) (by rfl) ((zA ha).below ((zC _ _).drew)) ⟨w3.heap.size,0,none⟩ 1 1 (zU [t]) (by rfl) rfl (fun j u hj=>(by simpa using zAH w3 t j u hj)) (ZA _) (by decide) (by unfold maxLen; omega) (by omega) (by simp; omega) _ rfl ?_
   intro g4 c4 w4 q H J C
   have m2:w4.cell? ⟨b,o,none⟩=some (.slice ak ks.length ck):=(zE H (b:=b) (by simp; omega) (zA E) o).trans (k6 _)
   have m3:w4.frozen? ⟨b,o,none⟩=false:=(zv H (b:=b) (by simp; omega) (zA E) o).trans (((zC w3 _).frozen (p:=⟨b,o,none⟩) d).trans m1)
   have ec:=fun j=>zE H (b:=w.heap.size) (by simp; omega) (zA hc) j
   have e0:w4.cell? ⟨w.heap.size,0,none⟩=some (.string t.s):=(ec 0).trans (zA Q).1
   have e1:w4.cell? ⟨w.heap.size,1,none⟩=some (.int .i64 t.k):=(ec 1).trans (zA Q).2.1
   have e2:w4.cell? ⟨w.heap.size,2,none⟩=some (.int .i64 t.l):=(ec 2).trans (zA Q).2.2.1
   have e3:w4.cell? ⟨w.heap.size,3,none⟩=some (.int .i64 t.sd):=(ec 3).trans (zA Q).2.2.2
   have G:=zB ((zA r) _ ((zA g) _ _ _ _ q H (J.imp id (fun e=>e.trans (by simp)))))
   clear q H J C ec
   refine hK.out _ _ ⟨e0,e1,e2,e3⟩ (fun U=>?_)
   clear hK
   simp only [yc,ya,yb]
   simp only [Act.put,yd,ye,yf]
   refine yI (i:=8) (v:=?_) rfl (by kernel_rfl) (by kernel_rfl) (by kernel_rfl) (fun _ _ _ h=>h) (yQ ⟨by rfl,?_⟩) U ?_
   rotate_left
   ·intro W hW; obtain ⟨s0,s1,s2,s3⟩:=hW; simp only [yc,ya,yb]; go_simp; first | done | (with_reducible rfl)
   simp only [yc,ya,yb]
   simp only [Act.put,yd,ye,yf]
   refine yI (i:=9) (v:=?_) rfl (by kernel_rfl) (by kernel_rfl) (by kernel_rfl) (fun _ _ _ h=>h) (yQ ⟨by rfl,?_⟩) U ?_
   rotate_left
   ·intro W hW; obtain ⟨s0,s1,s2,s3⟩:=hW; simp only [yc,ya,yb]; go_simp; first | done | (with_reducible rfl)
   simp only [yc,ya,yb]
   simp only [Act.put,yd,ye,yf]
   refine yL (rs:=[10]) (by kernel_rfl) (by simp) ?_
   refine yE rfl (fun K hK=>?_) yF
   simp only [yc,ya,yb]
   go_simp
   refine hK.out _ _ ⟨by rw [yg _ _ _ _ (by simp [P])]; exact e0,by rw [yg _ _ _ _ (by simp [P])]; exact e1,by rw [yg _ _ _ _ (by simp [P])]; exact e2,by rw [yg _ _ _ _ (by simp [P])]; exact e3⟩ (fun L=>?_)
   clear hK
   refine wpAnyH_done (by kernel_rfl) ?_ _
   clear U L
   go_wp2_with fail
   go_ret
   exact zA G
  ·simp only [yc,ya,yb]
   go_simp
   refine hK.out _ _ (zA Q) (fun _=>?_)
   clear hK
   refine yL (rs:=[4]) (by kernel_rfl) (by simp) ?_
   refine yE rfl (fun K hK=>?_) yF
   simp only [yc,ya,yb]
   go_simp
   refine hK.out _ _ (zA Q) (fun _=>?_)
   clear hK
   refine yL (rs:=[7]) (by kernel_rfl) (by simp) ?_
   refine yE rfl (fun K hK=>?_) yF
   refine step_append_lies _ (by rfl) (.tmp 31) (.tmp 33) 31 (by rfl) B 57 iO _ 4 40 Tryz.underlying31 (zA HI) (zA HZ).1 (zA HZ).2.1 (zA HZ).2.2 rfl (by decide) _ ks.length (zU ks) (by rfl) ((zA ha).below ((zC _ _).drew)) ⟨w3.heap.size,0,none⟩ 1 1 (zU [t]) (by rfl) rfl (fun j u hj=>(by simpa using zAH w3 t j u hj)) (ZA _) (by decide) (by unfold maxLen; omega) (by omega) (by simp; omega) _ rfl ?_
   intro g4 c4 w4 q H J C
   have m2:w4.cell? ⟨b,o,none⟩=some (.slice ak ks.length ck):=(zE H (b:=b) (by simp; omega) (zA E) o).trans (k6 _)
   have m3:w4.frozen? ⟨b,o,none⟩=false:=(zv H (b:=b) (by simp; omega) (zA E) o).trans (((zC w3 _).frozen (p:=⟨b,o,none⟩) d).trans m1)
   have ec:=fun j=>zE H (b:=w.heap.size) (by simp; omega) (zA hc) j
   have e0:w4.cell? ⟨w.heap.size,0,none⟩=some (.string t.s):=(ec 0).trans (zA Q).1
   have e1:w4.cell? ⟨w.heap.size,1,none⟩=some (.int .i64 t.k):=(ec 1).trans (zA Q).2.1
   have e2:w4.cell? ⟨w.heap.size,2,none⟩=some (.int .i64 t.l):=(ec 2).trans (zA Q).2.2.1
   have e3:w4.cell? ⟨w.heap.size,3,none⟩=some (.int .i64 t.sd):=(ec 3).trans (zA Q).2.2.2
   have G:=zB ((zA r) _ ((zA g) _ _ _ _ q H (J.imp id (fun e=>e.trans (by simp)))))
   clear q H J C ec
   refine hK.out _ _ ⟨e0,e1,e2,e3⟩ (fun U=>?_)
   clear hK
   simp only [yc,ya,yb]
   simp only [Act.put,yd,ye,yf]
   refine yI (i:=8) (v:=?_) rfl (by kernel_rfl) (by kernel_rfl) (by kernel_rfl) (fun _ _ _ h=>h) (yQ ⟨by rfl,?_⟩) U ?_
   rotate_left
   ·intro W hW; obtain ⟨s0,s1,s2,s3⟩:=hW; simp only [yc,ya,yb]; go_simp; first | done | (with_reducible rfl)
   simp only [yc,ya,yb]
   simp only [Act.put,yd,ye,yf]
   refine yI (i:=9) (v:=?_) rfl (by kernel_rfl) (by kernel_rfl) (by kernel_rfl) (fun _ _ _ h=>h) (yQ ⟨by rfl,?_⟩) U ?_
   rotate_left
   ·intro W hW; obtain ⟨s0,s1,s2,s3⟩:=hW; simp only [yc,ya,yb]; go_simp; first | done | (with_reducible rfl)
   simp only [yc,ya,yb]
   simp only [Act.put,yd,ye,yf]
   refine yL (rs:=[10]) (by kernel_rfl) (by simp) ?_
   refine yE rfl (fun K hK=>?_) yF
   simp only [yc,ya,yb]
   go_simp
   refine hK.out _ _ ⟨by rw [yg _ _ _ _ (by simp [P])]; exact e0,by rw [yg _ _ _ _ (by simp [P])]; exact e1,by rw [yg _ _ _ _ (by simp [P])]; exact e2,by rw [yg _ _ _ _ (by simp [P])]; exact e3⟩ (fun L=>?_)
   clear hK
   refine wpAnyH_done (by kernel_rfl) ?_ _
   clear U L
   go_wp2_with fail
   go_ret
   exact zA G
theorem zLq {us ks:List OpR} {k:Nat} (h:k<us.length):zV ks (us.take (k+1))=zCS (zV ks (us.take k)) (atO us k):=by
 rw [List.take_add_one,yn h,zCT]
 unfold zV atO
 simp [h]
theorem zD7:∀ (xs H:List OpR),(zV H xs).length<=H.length+xs.length
 | [],H=>by simp [zV]
 | x::r,H=>by
  show (zV (zCS H x) r).length<=_
  have h1:=zD7 r (zCS H x)
  have h2:(zCS H x).length<=H.length+1:=by
   by_cases h:x∈H
   ·rw [zB9 h]; omega
   ·rw [zC1 h]; simp
  simp; omega
theorem zFz (b o B:Nat) (kv:Value) (pv:Option Nat) (ks:List OpR) (v:Value) (us:List OpR) (w:JY) (h:zCW w b o B kv pv ks) (hs:∀ x∈us,zC6 x) (hl:ks.length+us.length<=1048576) (hB:B<=w.heap.size) (hr:zt w v us) (ha:Apt v b kv pv) :
  Calls Tryz.prog 38 #[.pointer (some ⟨b,o,none⟩),v] w fun e w'=>e = .returned (.tuple #[])/\zx w b o B kv pv (zV ks us) w':=by
 have u:=h.lt
 have HP:=zB (show zx w b o B kv pv (zV ks (us.take 0)) w from ⟨kv,pv,by simpa [zV] using h,Eff.refl _ _ _ _ _,yQ rfl,yQ rfl⟩)
 have HA:=zB ha
 have HS:=zB hs
 have HR:=zB hr
 obtain ⟨a,c,rfl,_⟩:=hr
 clear h ha hs
 go_enter Tryz.func38,Tryz.ntmps38
 go_wp2
 go_loopw [8] (fun i wr=>∃ (k:Nat),k<=us.length/\i = .int .i64 (k:Int)/\Hid (zx w b o B kv pv (zV ks (us.take k)) wr)) (fun i _=>us.length-(intOf i).toNat)
 case atStart=>exact ⟨0,yj _,rfl,HP⟩
 case round=>
  obtain ⟨k,hk,rfl,HQ⟩:=hrel
  by_cases H:k<us.length
  ·have V:(k:Int)<(us.length:Int):=by omega
   obtain ⟨kv1,pv1,h1,h2,h3,h4⟩:=zA HQ
   obtain ⟨a',c',Q,h5⟩:=zA HR
   obtain ⟨rfl,rfl⟩:a=a'/\c=c':=by injection Q with x _ y; exact ⟨x,y⟩
   rcases h5 with ⟨h5,_⟩ | ⟨g,rfl,J,Y⟩
   ·omega
   obtain ⟨a1,a2,a3⟩:=(zA HA) g rfl
   have ec:=fun j=>h2.cell J a1 a2 a3 j
   obtain ⟨q0,q1,q2,q3⟩:=Y k H
   have e0:=(ec _).trans q0
   have e1:=(ec _).trans q1
   have e2:=(ec _).trans q2
   have e3:=(ec _).trans q3
   simp only [yV] at e0 e1 e2 e3
   have q:=zD7 (us.take k) ks
   rw [List.length_take] at q
   have hz:=h2.size
   obtain ⟨t,ht⟩:∃ t,t=atO us k:=⟨_,rfl⟩
   have HT:=zB (zLq (ks:=ks) H)
   rw [<- ht] at e0 e1 e2 e3 HT
   have X:zC6 t:=(zA HS) t (by rw [ht]; unfold atO; simp [H])
   obtain ⟨W,hW⟩:∃ W,W=wr.alloc (.cells #[.string t.s,.int .i64 t.k,.int .i64 t.l,.int .i64 t.sd] 57):=⟨_,rfl⟩
   have K:Below wr.heap.size wr W:=by rw [hW]; exact zC _ _
   have p:wr.heap.size+1<=W.heap.size:=by rw [hW]; simp
   have HX:=zB (zPB b o B kv1 pv1 _ t W (h1.below K) X (by omega) (by omega))
   have HF:=zB (fun w2 (hh:zx W b o B kv1 pv1 (zCS (zV ks (us.take k)) t) w2)=>show zx w b o B kv pv (zV ks (us.take (k+1))) w2 from (by rw [zA HT]; exact zx.step (h2.trans (Eff.of_below K h1.lt _ kv1 pv1) h3 h4) h3 h4 hh))
   have P:=zB hW
   clear Q h1 h2 h3 h4 q HQ ec q0 q1 q2 q3 ht HT hW K p
   go_wp2_with (first | (go_at_call 66; rw [<- zA P]; (with_reducible refine (zA HX).mono ?_); rintro e w1 ⟨⟨y,rfl,_⟩,hpo⟩; have HN:=zB ((zA HF) w1 hpo); clear hpo))
   exact ⟨⟨k+1,by omega,by go_num,HN⟩,by simp [intOf]; omega⟩
  ·have HN:=zB (show zx w b o B kv pv (zV ks us) wr by have:=zA HQ; rwa [List.take_of_length_le (by omega)] at this)
   go_wp2
   go_end0
   exact ⟨rfl,zA HN⟩
end Go.Proofs.YtgbkgkdpdfdokaaGreatDoor
