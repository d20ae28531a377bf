import Derived.Test.YtgbkgkdpdfdokaaGreatDoorQ01
namespace Go.Proofs.YtgbkgkdpdfdokaaGreatDoor
set_option linter.all false
set_option maxHeartbeats 16000000
set_option maxRecDepth 100000
open Go.RowKit
variable {B cap g n rp size:Nat} {a:Option Addr} {e:TypeId} {o:zD} {us:List zD} {v:Value} {w w' w1:World} {xs:List Value}
theorem Z3 (c:UInt8) (w:JY) :
  Calls Tryz.prog 84 #[.int .u8 (c.toNat:Int)] w fun e w'=>e = .returned (.int .i64 (cls c:Int))/\w'=w:=by
 have h:=zIl c
 go_enter Tryz.func84,Tryz.ntmps84
 go_wp2_with (go_at_call 103; refine (zEC _ _).mono ?_; rintro e w' ⟨rfl,hx⟩; obtain rfl:=hx.symm)
 all_goals (go_ret; refine ⟨zJ ?_,rfl⟩; go_light; (try simp only [beq_iff_eq,yU,ne_eq] at *); unfold cls; (repeat' split) <;> (try simp_all) <;> (try omega))
def zBo (first:Nat) (c:UInt8):Bool:=decide (cls c=2\/(cls c=3/\first=3))
theorem zDy (first:Nat) (c:UInt8) (w:JY) :
  Calls Tryz.prog 85 #[.int .i64 (first:Int),.int .u8 (c.toNat:Int)] w fun e w'=>e = .returned (.bool (zBo first c))/\w'=w:=by
 by_cases h2:cls c=2
 ·have HR:=zB (show zBo first c=true by simp [zBo,h2])
  have HC:=zB (show (cls c:Int)=2 by omega)
  clear h2
  go_enter Tryz.func85,Tryz.ntmps85
  go_wp2_with (go_at_call 84; refine (Z3 _ _).mono ?_; rw [zA HC]; rintro e w' ⟨rfl,hx⟩; obtain rfl:=hx.symm)
  go_ret
  exact ⟨zj (zA HR).symm,rfl⟩
 by_cases h3:cls c=3
 ·have HC:=zB (show (cls c:Int)=3 by omega)
  by_cases hf:first=3
  ·have HR:=zB (show zBo first c=true by simp [zBo,h3,hf])
   subst hf
   clear h2 h3
   go_enter Tryz.func85,Tryz.ntmps85
   go_wp2_with (go_at_call 84; refine (Z3 _ _).mono ?_; rw [zA HC]; rintro e w' ⟨rfl,hx⟩; obtain rfl:=hx.symm)
   go_ret
   exact ⟨zj (zA HR).symm,rfl⟩
  ·have HR:=zB (show zBo first c=false by simp [zBo,h3,hf])
   have k:((first:Int)==3)=false:=by simp; omega
   clear h2 h3 hf
   go_enter Tryz.func85,Tryz.ntmps85
   go_wp2_with (go_at_call 84; refine (Z3 _ _).mono ?_; rw [zA HC]; rintro e w' ⟨rfl,hx⟩; obtain rfl:=hx.symm)
   go_ret
   exact ⟨zj (zA HR).symm,rfl⟩
 ·have HR:=zB (show zBo first c=false by simp [zBo,h2,h3])
  have H:((cls c:Int)==2)=false:=by simp; omega
  have h:((cls c:Int)==3)=false:=by simp; omega
  clear h2 h3
  go_enter Tryz.func85,Tryz.ntmps85
  go_wp2_with (go_at_call 84; refine (Z3 _ _).mono ?_; rintro e w' ⟨rfl,hx⟩; obtain rfl:=hx.symm)
  go_ret
  exact ⟨zj (zA HR).symm,rfl⟩
theorem zL4 (t:JZ):∀ (n i:Nat) (r:List UInt8),n=t.size-i->r≠[]->ByteArray.toList.loop t i r≠[]
 | 0,i,r,h,hr=>by
  unfold ByteArray.toList.loop
  rw [yN (by omega)]
  simpa using hr
 | n+1,i,r,h,hr=>by
  unfold ByteArray.toList.loop
  rw [yO (by omega)]
  exact zL4 t n (i+1) _ (by omega) (by simp)
theorem zFC {t:JZ} (h:t.size≠0):t.toList.isEmpty=false:=by
 rw [List.isEmpty_eq_false_iff]
 unfold ByteArray.toList ByteArray.toList.loop
 rw [yO (by omega)]
 exact zL4 t (t.size-1) 1 _ rfl (by simp)
theorem zFD {t:JZ} (h:t.size=0):t=⟨#[]⟩:=by
 obtain ⟨d⟩:=t
 congr 1
 exact Array.eq_empty_of_size_eq_zero h
theorem zc {p:Prop} (h:¬ p):zDx false p:=⟨fun e=>(by cases e),fun e=>yP e h⟩
theorem zAJ {p:Prop} (h:p):zDx true p:=⟨fun _=>h,fun _=>rfl⟩
theorem zMm (h:20000<o.t.size):¬ zBn o:=fun h'=>by have:=h'.1; omega
theorem zPW (h:o.t.size<=20000) (hk:o.k=1):zBn o↔zD9 o.t:=by
 unfold zBn; rw [hk]; simp [h]
theorem zPX (h:o.t.size<=20000) (hk:o.k=2):zBn o↔zA2 o.t:=by
 unfold zBn; rw [hk]; simp [h]
theorem zPY (hk:o.k=6):zBn o↔o.t.size=0:=by
 unfold zBn; rw [hk]
 refine ⟨fun h=>?_,fun h=>⟨by omega,yR (yR (yQ ⟨rfl,h⟩))⟩⟩
 rcases h.2 with h | h | h | h
 ·omega
 ·omega
 ·exact h.2
 ·omega
theorem zPZ (h:o.t.size<=20000) (hk:o.k=3\/o.k=4\/o.k=5):zBn o↔zD8 o.t=true:=by
 unfold zBn; rcases hk with hk | hk | hk <;> rw [hk] <;> simp [h]
theorem zL5 (hk:¬ (o.k=1\/o.k=2\/o.k=3\/o.k=4\/o.k=5\/o.k=6)):¬ zBn o:=by
 unfold zBn; rintro ⟨_,h | h | h | h⟩
 ·omega
 ·omega
 ·omega
 ·omega
theorem zIq (o:zD) (w:JY) (hs:o.t.size<=maxLen) :
  Calls Tryz.prog 128 #[.agg #[.int .i64 o.k,.string o.t,.int .i64 o.a,.int .i64 o.b]] w fun e w'=>zBs e (zBn o)/\Below w.heap.size w w':=by
 have HS:=zB hs
 unfold maxLen at hs
 by_cases H:20000<o.t.size
 ·have K:(20000:Int)<(o.t.size:Int):=by omega
  have HN:=zB (zMm H)
  clear H
  go_enter Tryz.func128,Tryz.ntmps128
  go_wp2_with fail
  go_ret
  exact ⟨⟨_,rfl,zc (zA HN)⟩,zC _ _⟩
 have K:¬ (20000:Int)<(o.t.size:Int):=by omega
 have q:o.t.size<=20000:=by omega
 clear H
 by_cases k1:o.k=1
 ·have HT:=zB (zPW q k1)
  rw [k1]
  clear k1
  go_enter Tryz.func128,Tryz.ntmps128
  go_wp2_with (go_at_call 79; refine (zAW _ _ (zA HS)).mono ?_; rintro e w' ⟨⟨v,rfl,hv⟩,rfl⟩)
  go_ret
  exact ⟨⟨_,rfl,hv.trans (zA HT).symm⟩,zC _ _⟩
 by_cases k2:o.k=2
 ·have HT:=zB (zPX q k2)
  rw [k2]
  clear k1 k2
  go_enter Tryz.func128,Tryz.ntmps128
  go_wp2_with (go_at_call 12; refine (zCo _ _ (zA HS)).mono ?_; rintro e w' ⟨⟨v,rfl,hv⟩,rfl⟩)
  go_ret
  exact ⟨⟨_,rfl,hv.trans (zA HT).symm⟩,zC _ _⟩
 by_cases k6:o.k=6
 ·have HT:=zB (zPY k6)
  rw [k6]
  clear k1 k2 k6
  by_cases h0:o.t.size=0
  ·rw [zFD h0]
   go_enter Tryz.func128,Tryz.ntmps128
   go_wp2_with fail
   go_ret
   exact ⟨⟨_,rfl,zAJ ((zA HT).2 h0)⟩,zC _ _⟩
  ·have Q:o.t.toList.isEmpty=false:=zFC h0
   go_enter Tryz.func128,Tryz.ntmps128
   go_wp2_with fail
   go_ret
   exact ⟨⟨_,rfl,zc (fun h=>h0 ((zA HT).1 h))⟩,zC _ _⟩
 have e1:(o.k==1)=false:=by simpa using k1
 have e2:(o.k==2)=false:=by simpa using k2
 have e6:(o.k==6)=false:=by simpa using k6
 by_cases k3:3<=o.k
 ·by_cases k5:o.k<=5
  ·have HT:=zB (zPZ q (by omega))
   clear k1 k2 k6
   go_enter Tryz.func128,Tryz.ntmps128
   go_wp2_with (go_at_call 58; refine (zDH _ _ (zA HS)).mono ?_; rintro e w' ⟨rfl,rfl⟩)
   go_ret
   exact ⟨⟨_,rfl,(zA HT).symm⟩,zC _ _⟩
  ·have HT:=zB (zL5 (o:=o) (by omega))
   clear k1 k2 k6
   go_enter Tryz.func128,Tryz.ntmps128
   go_wp2_with fail
   go_ret
   exact ⟨⟨_,rfl,zc (zA HT)⟩,zC _ _⟩
 ·have HT:=zB (zL5 (o:=o) (by omega))
  clear k1 k2 k6
  go_enter Tryz.func128,Tryz.ntmps128
  go_wp2_with fail
  go_ret
  exact ⟨⟨_,rfl,zc (zA HT)⟩,zC _ _⟩
theorem zDz (b K cap:Nat) (xs:List zD) (w:JY) (hm:xs.length<=1048576) (hw:zBC w b K xs) (hs:zFB xs) (hB:b<w.heap.size) :
  Calls Tryz.prog 104 #[.agg #[.slice (some ⟨b,K,none⟩) xs.length cap]] w fun e w'=>zBs e (zA6 xs)/\Below w.heap.size w w':=by
 have HW:=zB hw
 have HS:=zB hs
 clear hw hs
 by_cases h1:xs.length<1
 ·have Y:(xs.length:Int)<1:=by omega
  have HN:=zB (show ¬ zA6 xs from fun h=>by have:=h.1; omega)
  go_enter Tryz.func104,Tryz.ntmps104
  go_wp2_with fail
  go_ret
  exact ⟨⟨_,rfl,zc (zA HN)⟩,zC _ _⟩
 have Y:¬ (xs.length:Int)<1:=by omega
 by_cases h2:20000<xs.length
 ·have y:(20000:Int)<(xs.length:Int):=by omega
  have HN:=zB (show ¬ zA6 xs from fun h=>by have:=h.2.1; omega)
  go_enter Tryz.func104,Tryz.ntmps104
  go_wp2_with fail
  go_ret
  exact ⟨⟨_,rfl,zc (zA HN)⟩,zC _ _⟩
 have y:¬ (20000:Int)<(xs.length:Int):=by omega
 have ei:(xs.length:Int)-1=((xs.length-1:Nat):Int):=by omega
 by_cases h3:frS xs (xs.length-1)=some 0
 case neg=>
  have P:(frI xs (xs.length-1) != 0)=true:=by
   unfold frI
   cases hf:frS xs (xs.length-1) with
   | none=>rfl
   | some f=>
    simp only [bne_iff_ne,ne_eq]
    intro e
    have:f=0:=by omega
    subst this
    exact h3 hf
  have HN:=zB (show ¬ zA6 xs from fun h=>h3 h.2.2.1)
  clear h3
  go_enter Tryz.func104,Tryz.ntmps104
  go_wp2_with (go_at_call 127; refine (zED b K cap xs hm xs.length (xs.length-1) _ (by omega) (by omega) ((zA HW).below (zC _ _) hB) (by simp; omega)).mono ?_; rintro e w' ⟨rfl,hb1⟩)
  go_ret
  exact ⟨⟨_,rfl,zc (zA HN)⟩,(zC _ _).trans (hb1.mono (by simp))⟩
 have HI:=zB (zGY h3)
 have H3:=zB h3
 clear h3
 go_enter Tryz.func104,Tryz.ntmps104
 go_wp2_with fail
 refine (zED b K cap xs hm xs.length (xs.length-1) _ (by omega) (by omega) ((zA HW).below (zC _ _) hB) (by simp; omega)).mono ?_
 rw [zA HI]
 rintro e w1 ⟨rfl,hb1⟩
 have x:Below w.heap.size w w1:=(zC _ _).trans (hb1.mono (by simp))
 clear hb1
 go_wp2_with fail
 go_loopw [4] (fun i wr=>∃ k:Nat,k<=xs.length/\i = .int .i64 (k:Int)/\Hid (∀ j,j<k->zBn (atN xs j))/\Below w.heap.size w wr) (fun i _=>xs.length-(intOf i).toNat)
 case atStart=>exact ⟨0,yj _,rfl,zB (fun j hj=>yP hj (yt j)),x⟩
 case round=>
  obtain ⟨k,hk,rfl,X,H⟩:=hrel
  by_cases Q:k<xs.length
  ·obtain ⟨c0,c1,c2,c3⟩:=((zA HW) k Q).below H hB
   have J:(k:Int)<(xs.length:Int):=by omega
   go_wp2_with fail
   refine (zIq (atN xs k) _ ((zA HS) k Q)).mono ?_
   rintro e w2 ⟨⟨v,rfl,hv⟩,hb2⟩
   have q:=H.trans (hb2.mono H.size)
   have HV:=zB hv
   clear hv hb2
   cases v
   ·go_wp2_with fail
    go_ret
    exact ⟨⟨_,rfl,zc (fun h=>Bool.false_ne_true ((zA HV).2 (h.2.2.2 k Q)))⟩,q⟩
   ·go_wp2_with fail
    refine ⟨⟨k+1,by omega,by go_num,zB (fun j hj=>?_),q⟩,by simp [intOf]; omega⟩
    by_cases e:j=k
    ·subst e; exact (zA HV).1 rfl
    ·exact (zA X) j (by omega)
  ·have p:k=xs.length:=by omega
   go_wp2_with fail
   go_ret
   exact ⟨⟨_,rfl,zAJ ⟨by omega,by omega,zA H3,fun i hi=>(zA X) i (by omega)⟩⟩,H⟩
def zL (zs:List zD):List Value:=zs.flatMap fun o=>[.int .i64 o.k,.string o.t,.int .i64 o.a,.int .i64 o.b]
theorem zm (xs ys:List zD):zL (xs++ys)=zL xs++zL ys:=by simp [zL]
theorem zGa:∀ zs:List zD,(zL zs).length=zs.length*4
 | []=>rfl
 | o::r=>by
  have:=zGa r
  simp only [zL,List.flatMap_cons,ym,yv,yW] at *
  omega
theorem zH4:∀ (zs:List zD) (i:Nat),i<zs.length->(zL zs)[i*4]?=some (.int .i64 (atN zs i).k)/\(zL zs)[i*4+1]?=some (.string (atN zs i).t)/\(zL zs)[i*4+2]?=some (.int .i64 (atN zs i).a)/\(zL zs)[i*4+3]?=some (.int .i64 (atN zs i).b)
 | [],i,h=>yP h (yt i)
 | o::r,0,_=>⟨rfl,rfl,rfl,rfl⟩
 | o::r,i+1,h=>by
  have ih:=zH4 r i (by simpa using h)
  have e:∀ j,(zL (o::r))[(i+1)*4+j]?=(zL r)[i*4+j]?:=fun j=>by
   have:(i+1)*4+j=(i*4+j)+4:=by omega
   rw [this]
   rfl
  exact ⟨(e 0).trans ih.1,(e 1).trans ih.2.1,(e 2).trans ih.2.2.1,(e 3).trans ih.2.2.2⟩
theorem zS (zs:List zD):∀ u∈zL zs,u.oneCell'=true:=by
 intro u hu
 simp only [zL,List.mem_flatMap] at hu
 obtain ⟨o,_,ho⟩:=hu
 simp at ho
 rcases ho with rfl | rfl | rfl | rfl <;> rfl
theorem zBJ {base:Nat} {zs:List zD} (h:w.ownsRow base e 4 (.slice (some ⟨g,0,none⟩) zs.length cap) zs.length (zL zs)):base<=g/\ZL w g zs zs.length:=by
 have H:=h.lt g rfl
 refine ⟨H.1,H.2,fun j hj=>⟨?_,h.frozenAt _⟩,fun i hi=>?_⟩
 ·rw [h.cellAt (0+j) (by omega)]
  have:0+j<(zL zs).length:=by rw [zGa]; omega
  rw [yn this]
  rfl
 ·obtain ⟨c0,c1,c2,c3⟩:=zH4 zs i hi
  have e:=fun j (hj:j<4)=>h.cellAt (i*4+j) (by omega)
  exact ⟨by simpa using (e 0 (by omega)).trans c0,by simpa using (e 1 (by omega)).trans c1,by simpa using (e 2 (by omega)).trans c2,by simpa using (e 3 (by omega)).trans c3⟩
theorem zJm {base:Nat} (h:w.ownsRow base e size v n xs) (hv:v ≠ .slice none 0 0):∃ g cap,v = .slice (some ⟨g,0,none⟩) n cap:=by
 obtain ⟨_,h | ⟨g,cap,k,H,_⟩⟩:=h
 ·exact yP h.1 hv
 ·exact ⟨g,cap,H⟩
theorem zMn {base:Nat} (h:w.ownsRow base e size (.slice (some ⟨g,0,none⟩) n cap) n xs):n<=cap/\cap<=maxLen:=by
 obtain ⟨_,h | ⟨g',k,K,H,_,_,h1,h2,_⟩⟩:=h
 ·simp at h
 ·simp only [Value.slice.injEq,Option.some.injEq] at H
  obtain ⟨_,_,rfl⟩:=H
  exact ⟨h1,h2⟩
theorem ZN (w:JY) (o:zD):∀ j u,(zL [o])[j]?=some u->(w.alloc (.cells #[.int .i64 o.k,.string o.t,.int .i64 o.a,.int .i64 o.b] 144)).cell? ((⟨w.heap.size,0,none⟩:Addr).add j)=some u:=by
 intro j u hj
 rw [Addr.add_mid]
 have:=yz (w:=w.alloc (.cells #[.int .i64 o.k,.string o.t,.int .i64 o.a,.int .i64 o.b] 144)) (b:=w.heap.size) (heap_alloc_new w _) 0 4
 exact this j u (by simpa [zL] using hj)
def ZU (w:JY) (n:Nat) (a:Option Addr) (us:List zD):Prop:=(us.length=0/\a=none)\/∃ g,a=some ⟨g,0,none⟩/\n<=g/\ZL w g us us.length
theorem ZU.grown {w w':JY} {n:Nat} {a:Option Addr} {us:List zD} {row:Option Nat} (h:ZU w n a us) (hg:w.grownBy w' row) (hr:∀ k,row=some k->k<n):ZU w' n a us:=by
 rcases h with h | ⟨g,rfl,hn,hf⟩
 ·exact yQ h
 ·exact yR ⟨g,rfl,hn,hf.grown hg (fun e=>by have:=hr g e.symm; omega)⟩
theorem ZU.step (h:ZU w n a us) (hb:Below w.heap.size w w'):ZU w' n a us:=
 h.grown (zH hb none) (fun k hk=>by cases hk)
theorem ZU.lt (h:ZU w n a us):∀ k,a.map (·.block)=some k->n<=k/\k<w.heap.size:=by
 rcases h with ⟨_,rfl⟩ | ⟨g,rfl,hn,hf⟩
 ·intro k hk; cases hk
 ·intro k hk; injection hk with hk; subst hk; exact ⟨hn,hf.1⟩
theorem zG.grownRow {w2:JY} {row:Option Nat} (h:zG w w1 g) (hg:w1.grownBy w2 row) (hr:∀ k,row=some k->k=g\/w.heap.size<=k):zG w w2 g:=
 ⟨hg.os.trans h.os,hg.tape.trans h.tape,hg.output.trans h.output,yr h.size hg.size,fun i hi a=>(hg.block i (yi hi h.size) (fun e=>by rcases hr i e.symm with h | h; exact a h; omega)).trans (h.block i hi a)⟩
theorem zG.setRow (h:zG w w1 g) (b o:Nat) (v:Value) (hb:b=g\/w.heap.size<=b):zG w (w1.setCell ⟨b,o,none⟩ v) g:=
 h.grownRow (row:=some b) ⟨rfl,rfl,rfl,by simp [World.setCell],fun i _ hi=>yZ _ _ _ _ (fun e=>hi (by rw [e]))⟩ (fun k hk=>by injection hk with hk; subst hk; exact hb)
theorem zJn {e:Nat} (h:w.ownsRow B e size v n xs) (b o:Nat) (u:Value) (hb:v.ownBlock≠some b):(w.setCell ⟨b,o,none⟩ u).ownsRow B e size v n xs:=
 h.kept (row:=some b) ⟨rfl,rfl,rfl,by simp [World.setCell],fun i _ hi=>yZ _ _ _ _ (fun e=>hi (by rw [e]))⟩ (yR hb)
def Zn (w:JY) (B g c:Nat) (us:List zD):Prop:=w.ownsRow B 144 4 (.slice (some ⟨g,0,none⟩) us.length c) us.length (zL us)
theorem Zn.kept {w w':JY} {B g c g':Nat} {us:List zD} (h:Zn w B g c us) (hk:zG w w' g') (H:g'≠g):Zn w' B g c us:=
 World.ownsRow.kept h (zr hk) (yR (by simp [Value.ownBlock]; omega))
theorem Zn.below {c:Nat} (h:Zn w B g c us) (hb:Below w.heap.size w w'):Zn w' B g c us:=
 World.ownsRow.kept h (zH hb none) (yR (by simp [Value.ownBlock]))
theorem Zn.set {c:Nat} (h:Zn w B g c us) (b o:Nat) (u:Value) (hb:b≠g):Zn (w.setCell ⟨b,o,none⟩ u) B g c us:=
 zJn h b o u (by simp [Value.ownBlock]; omega)
theorem Zn.lt {w:JY} {B g c:Nat} {us:List zD} (h:Zn w B g c us):B<=g/\g<w.heap.size:=World.ownsRow.lt h g rfl
theorem Zn.snoc {vs:List zD} (h:w.ownsRow B 144 4 v (us.length+1) (zL us++zL [o])) (hv:v ≠ .slice none 0 0) (e:vs=us++[o]):∃ g c,v = .slice (some ⟨g,0,none⟩) vs.length c/\Zn w B g c vs:=by
 subst e
 obtain ⟨g,c,rfl⟩:=zJm h hv
 have hl:us.length+1=(us++[o]).length:=by simp
 rw [<- zm,hl] at h
 exact ⟨g,c,by rw [hl],h⟩
theorem Zl (w:JY) (n:Nat) (o:zD) (hn:w.heap.size=n):∀ j u,(zL [o])[j]?=some u->(w.alloc (.cells #[.int .i64 o.k,.string o.t,.int .i64 o.a,.int .i64 o.b] 144)).cell? ((⟨n,0,none⟩:Addr).add j)=some u:=by
 subst hn
 exact ZN w o
theorem zEc (b E cap:Nat) (xs:List zD) (hm:xs.length<=20000):∀ (n i f B g c:Nat) (us vs:List zD) (w:JY),i<n->i<xs.length->Hid (frS xs i=some f)->Hid (us=er xs f)->Hid (vs=er xs (i+1))->zBC w b E xs->b<B->B<=w.heap.size->Zn w B g c us ->
  Calls Tryz.prog 107 #[.slice (some ⟨b,E,none⟩) xs.length cap,.int .i64 (i:Int),.slice (some ⟨g,0,none⟩) us.length c] w fun e w'=>(∃ g' c',e = .returned (.slice (some ⟨g',0,none⟩) vs.length c')/\Hid (Zn w' B g' c' vs)/\(g'=g\/w.heap.size<=g'))/\Hid (zG w w' g)
 | 0,_,_,_,_,_,_,_,_,h,_,_,_,_,_,_,_,_=>yP h (yt _)
 | n+1,i,f,B,g,c,us,vs,w,hin,hi,hf,hus,hvs,hw,hb,hB,hrow=>by
  obtain ⟨i0,G,l,m,N⟩:=zN zC7
  have HI:=zB G
  have HZ:=zB (yH l (yH m N))
  clear G l m N
  obtain ⟨h0,h1,h2,h3⟩:=hw i hi
  have IH:=zB (zEc b E cap xs hm n)
  have HW:=zB hw
  have HR:=zB hrow
  have hg:=hrow.lt
  have hp:(i:Int)<(xs.length:Int):=by omega
  have hn:us.length<=20000:=by
   have a1:=zEB xs f
   have a2:=zAV (zA hf)
   rw [zA hus,zBj]; omega
  clear hw hrow
  rcases zB4 (zA hf) with ⟨hk,ha,y,M⟩ | ⟨hk,W,ha,y,C⟩ | ⟨hk,W,y,f2,O,hl,ha,C⟩
  ·have HK:=zB hk
   have h6:((atN xs i).k==6)=false:=by
    rw [yU]; intro e; rw [e] at hk; simp [ze] at hk
   have HV:=zB (show vs=us++[⟨(atN xs i).k,(atN xs i).t,0,0⟩] by
    rw [zA hvs,zA hus,M,zDG (by simpa using h6)]
    simp [erN,hk])
   clear hk ha y M
   go_enter Tryz.func107,Tryz.ntmps107
   go_wp2_with (first | (go_at_call 94; refine (zP (zA HK) 0 rfl _).mono ?_; rintro e w' ⟨rfl,rfl⟩) | (at_builtin; refine yJ _ rfl (.tmp 52) (.tmp 54) 123 rfl B 144 i0 _ 4 40 Tryz.underlying123 (zA HI) (zA HZ).1 (zA HZ).2.1 (zA HZ).2.2 rfl (by decide) _ us.length (zL us) rfl ((((zA HR).below (zC _ _)).below (zC _ _)).below (zC _ _)) ⟨w.heap.size+1+1,0,none⟩ 1 1 (zL [⟨(atN xs i).k,(atN xs i).t,0,0⟩]) rfl rfl (by simpa using ZN ((w.alloc _).alloc _) ⟨(atN xs i).k,(atN xs i).t,0,0⟩) (zS _) ?b1 ?b2 ?b3 ?next))
   case b1=>unfold maxLen; omega
   case b2=>omega
   case b3=>simp; omega
   case next=>
    intro v4 w4 q K Q x
    obtain ⟨g4,c4,rfl,J⟩:=Zn.snoc q (by simp [Q]) (zA HV)
    have v:=zB J
    have P:=zB (((zG.of_below (g:=g) (((zC _ _).alloc (by simp) _).alloc (by simp; omega) _))).grownRow K (fun k hk=>by simp [Value.ownBlock] at hk; omega))
    have V:g4=g\/w.heap.size<=g4:=by simp [Value.ownBlock] at x; omega
    clear q K Q J x
    go_wp2_with fail
    go_ret
    exact ⟨⟨g4,c4,rfl,v,V⟩,P⟩
  ·have HK:=zB hk
   have ei:(i:Int)-1=((i-1:Nat):Int):=by omega
   rw [ha,ei] at h2
   have d:i-1+1=i:=by omega
   by_cases h6:(atN xs i).k=6
   ·have U:=zB (show vs=er xs (i-1+1) by rw [zA hvs,zJk h6,d])
    rw [h6] at h0
    clear hk ha y h6
    go_enter Tryz.func107,Tryz.ntmps107
    go_wp2_with fail
    refine ((zA IH) (i-1) f B g c us vs _ (by omega) (by omega) (zB C) hus U ((zA HW).below (zC _ _) (by omega)) hb (by simp; omega) ((zA HR).below (zC _ _))).mono ?_
    rintro e w1 ⟨⟨g1,c1,rfl,hr1,hg1⟩,hk1⟩
    have r:=zB ((zG.of_below (g:=g) (zC _ _)).trans (zA hk1))
    have u:g1=g\/w.heap.size<=g1:=by simp at hg1; omega
    go_wp2_with fail
    go_ret
    exact ⟨⟨g1,c1,rfl,hr1,u⟩,r⟩
   ·have S:((atN xs i).k==6)=false:=by simpa using h6
    obtain ⟨H,Y⟩:∃ H,Hid (H=er xs (i-1+1)):=⟨_,zB rfl⟩
    have T:H.length<=20000:=by
     have:=zEB xs (i-1+1)
     rw [zA Y,zBj]; omega
    obtain ⟨nd,p⟩:∃ nd:zD,Hid (nd=⟨(atN xs i).k,(atN xs i).t,(H.length:Int)-1,0⟩):=⟨_,zB rfl⟩
    have U:=zB (show vs=H++[nd] by
     rw [zA hvs,zDG h6,zA p,zA Y,zBj,d]
     congr 2
     unfold erN mvd
     rw [hk,ha]
     have:((i:Int)-1).toNat+1=i:=by omega
     rw [this]
     simp)
    clear hk ha y h6
    go_enter Tryz.func107,Tryz.ntmps107
    go_wp2_with (go_at_call 94; refine (zP (zA HK) 1 rfl _).mono ?_; rintro e w' ⟨rfl,rfl⟩)
    refine ((zA IH) (i-1) f B g c us H _ (by omega) (by omega) (zB C) hus Y ((zA HW).below ((zC _ _).alloc (by simp) _) (by omega)) hb (by simp; omega) (((zA HR).below (zC _ _)).below (zC _ _))).mono ?_
    rintro e w1 ⟨⟨g1,c1,rfl,hr1,hg1⟩,hk1⟩
    have R:=(zA hr1).lt
    have I:w.heap.size+2<=w1.heap.size:=by have:=(zA hk1).size; simp at this; omega
    have u:g1=g\/w.heap.size+2<=g1:=by simp at hg1; omega
    have p0:w1.cell? ⟨w.heap.size,0,none⟩=some (.int .i64 (atN xs i).k):=((zA hk1).cell (b:=w.heap.size) (by simp; omega) (by omega) 0).trans (by simp [go_sem])
    have q0:w1.cell? ⟨w.heap.size+1,0,none⟩=some (.int .i64 (atN xs i).k):=((zA hk1).cell (b:=w.heap.size+1) (by simp) (by omega) 0).trans (by simp [go_sem])
    have q1:w1.cell? ⟨w.heap.size+1,1,none⟩=some (.string (atN xs i).t):=((zA hk1).cell (b:=w.heap.size+1) (by simp) (by omega) 1).trans (by simp [go_sem])
    have q2:w1.cell? ⟨w.heap.size+1,2,none⟩=some (.int .i64 0):=((zA hk1).cell (b:=w.heap.size+1) (by simp) (by omega) 2).trans (by simp [go_sem])
    have q3:w1.cell? ⟨w.heap.size+1,3,none⟩=some (.int .i64 0):=((zA hk1).cell (b:=w.heap.size+1) (by simp) (by omega) 3).trans (by simp [go_sem])
    have r2:w1.frozen? ⟨w.heap.size+1,2,none⟩=false:=((zA hk1).frozen (b:=w.heap.size+1) (by simp) (by omega) 2).trans (by simp [go_sem])
    have A:=zB ((zG.of_below (g:=g) ((zC w _).alloc (by simp) _)).trans (zA hk1))
    clear hk1
    have ST:=zB (show Zn ((w1.setCell ⟨w.heap.size+1,2,none⟩ (.int .i64 ((H.length:Int)-1))).alloc (.cells #[.int .i64 nd.k,.string nd.t,.int .i64 nd.a,.int .i64 nd.b] 144)) B g1 c1 H from ((zA hr1).set _ _ _ (by omega)).below (zC _ _))
    have NW:=zB (Zl (w1.setCell ⟨w.heap.size+1,2,none⟩ (.int .i64 ((H.length:Int)-1))) w1.heap.size nd (by simp [World.setCell]))
    rw [zA p] at ST NW
    simp only at ST NW
    go_wp2_with (first | (go_at_call 94; refine (zP (zA HK) 1 rfl _).mono ?_; rintro e w' ⟨rfl,rfl⟩) | (at_builtin; refine yJ _ rfl (.tmp 52) (.tmp 54) 123 rfl B 144 i0 _ 4 40 Tryz.underlying123 (zA HI) (zA HZ).1 (zA HZ).2.1 (zA HZ).2.2 rfl (by decide) _ H.length (zL H) rfl (zA ST) ⟨w1.heap.size,0,none⟩ 1 1 (zL [nd]) rfl rfl (by rw [zA p]; exact zA NW) (zS _) ?b1 ?b2 ?b3 ?next))
    case b1=>unfold maxLen; omega
    case b2=>omega
    case b3=>simp; omega
    case next=>
     intro v4 w4 q K Q x
     obtain ⟨g4,c4,rfl,J⟩:=Zn.snoc q (by simp [Q]) (zA U)
     have v:=zB J
     have P:=zB ((((zA A).setRow (w.heap.size+1) 2 (.int .i64 ((H.length:Int)-1)) (by omega)).trans (zG.of_below (zC _ _))).grownRow K (fun k hk=>by simp [Value.ownBlock] at hk; omega))
     have V:g4=g\/w.heap.size<=g4:=by simp [Value.ownBlock] at x; omega
     clear q K Q J x
     go_wp2_with fail
     go_ret
     exact ⟨⟨g4,c4,rfl,v,V⟩,P⟩
  ·have HK:=zB hk
   have ei:(i:Int)-1=((i-1:Nat):Int):=by omega
   have ef:(f2:Int)-1=((f2-1:Nat):Int):=by omega
   rw [ha,ef] at h2
   rw [y,ei] at h3
   have he:=zAV O
   have d:i-1+1=i:=by omega
   have s:f2-1+1=f2:=by omega
   have h6:(atN xs i).k≠6:=fun e=>by rw [e] at hk; simp [ze] at hk
   have S:((atN xs i).k==6)=false:=by simpa using h6
   obtain ⟨H,Y⟩:∃ H,Hid (H=er xs (f2-1+1)):=⟨_,zB rfl⟩
   obtain ⟨X,D⟩:∃ X,Hid (X=er xs (i-1+1)):=⟨_,zB rfl⟩
   have T:H.length<=20000:=by
    have:=zEB xs (f2-1+1)
    rw [zA Y,zBj]; omega
   have hh:X.length<=20000:=by
    have:=zEB xs (i-1+1)
    rw [zA D,zBj]; omega
   obtain ⟨nd,p⟩:∃ nd:zD,Hid (nd=⟨(atN xs i).k,(atN xs i).t,(H.length:Int)-1,(X.length:Int)-1⟩):=⟨_,zB rfl⟩
   have U:=zB (show vs=X++[nd] by
    rw [zA hvs,zDG h6,zA p,zA Y,zA D,zBj,zBj,d,s]
    congr 2
    unfold erN mvd
    rw [hk,ha,y]
    have e1:((i:Int)-1).toNat+1=i:=by omega
    have e2:((f2:Int)-1).toNat+1=f2:=by omega
    rw [e1,e2]
    simp)
   have L:=zB (show H=er xs f2 by rw [zA Y,s])
   clear hk ha y h6
   go_enter Tryz.func107,Tryz.ntmps107
   go_wp2_with (go_at_call 94; refine (zP (zA HK) 2 rfl _).mono ?_; rintro e w' ⟨rfl,rfl⟩)
   refine ((zA IH) (f2-1) f B g c us H _ (by omega) (by omega) (zB C) hus Y ((zA HW).below ((zC _ _).alloc (by simp) _) (by omega)) hb (by simp; omega) (((zA HR).below (zC _ _)).below (zC _ _))).mono ?_
   rintro e w1 ⟨⟨g1,c1,rfl,hr1,hg1⟩,hk1⟩
   have R:=(zA hr1).lt
   have I:w.heap.size+2<=w1.heap.size:=by have:=(zA hk1).size; simp at this; omega
   have u:g1=g\/w.heap.size+2<=g1:=by simp at hg1; omega
   have p0:w1.cell? ⟨w.heap.size,0,none⟩=some (.int .i64 (atN xs i).k):=((zA hk1).cell (b:=w.heap.size) (by simp; omega) (by omega) 0).trans (by simp [go_sem])
   have p3:w1.cell? ⟨w.heap.size,3,none⟩=some (.int .i64 ((i-1:Nat):Int)):=((zA hk1).cell (b:=w.heap.size) (by simp; omega) (by omega) 3).trans (by simp [go_sem])
   have q0:w1.cell? ⟨w.heap.size+1,0,none⟩=some (.int .i64 (atN xs i).k):=((zA hk1).cell (b:=w.heap.size+1) (by simp) (by omega) 0).trans (by simp [go_sem])
   have q1:w1.cell? ⟨w.heap.size+1,1,none⟩=some (.string (atN xs i).t):=((zA hk1).cell (b:=w.heap.size+1) (by simp) (by omega) 1).trans (by simp [go_sem])
   have q2:w1.cell? ⟨w.heap.size+1,2,none⟩=some (.int .i64 0):=((zA hk1).cell (b:=w.heap.size+1) (by simp) (by omega) 2).trans (by simp [go_sem])
   have q3:w1.cell? ⟨w.heap.size+1,3,none⟩=some (.int .i64 0):=((zA hk1).cell (b:=w.heap.size+1) (by simp) (by omega) 3).trans (by simp [go_sem])
   have r2:w1.frozen? ⟨w.heap.size+1,2,none⟩=false:=((zA hk1).frozen (b:=w.heap.size+1) (by simp) (by omega) 2).trans (by simp [go_sem])
   have r3:w1.frozen? ⟨w.heap.size+1,3,none⟩=false:=((zA hk1).frozen (b:=w.heap.size+1) (by simp) (by omega) 3).trans (by simp [go_sem])
   have A:=zB ((zG.of_below (g:=g) ((zC w _).alloc (by simp) _)).trans (zA hk1))
   clear hk1
   go_wp2_with (go_at_call 94; refine (zP (zA HK) 2 rfl _).mono ?_; rintro e w' ⟨rfl,rfl⟩)
   have F:=zB ((zA A).setRow (w.heap.size+1) 2 (.int .i64 ((H.length:Int)-1)) (yR (by omega)))
   refine ((zA IH) (i-1) f2 B g1 c1 H X _ (by omega) (by omega) (zB O) L D (fun j hj=>?_) hb (by simp [World.setCell]; omega) ((zA hr1).set _ _ _ (by omega))).mono ?_
   ·have e:=(zA F).cell (b:=b) (by omega) (by omega)
    obtain ⟨a0,a1,a2,a3⟩:=(zA HW) j hj
    exact ⟨(e _).trans a0,(e _).trans a1,(e _).trans a2,(e _).trans a3⟩
   rintro e w2 ⟨⟨g2,c2,rfl,hr2,hg2⟩,hk2⟩
   have hd:=(zA hr2).lt
   have Z:w1.heap.size<=w2.heap.size:=by have:=(zA hk2).size; simpa [World.setCell] using this
   have hc:g2=g1\/w1.heap.size<=g2:=by simpa [World.setCell] using hg2
   have sc:∀ o,(w1.setCell ⟨w.heap.size+1,2,none⟩ (.int .i64 ((H.length:Int)-1))).heap.size=w1.heap.size/\(o≠2->(w1.setCell ⟨w.heap.size+1,2,none⟩ (.int .i64 ((H.length:Int)-1))).cell? ⟨w.heap.size+1,o,none⟩=w1.cell? ⟨w.heap.size+1,o,none⟩):=fun o=>⟨by simp [World.setCell],fun ho=>yg _ _ _ _ (fun e=>ho (by injection e with _ e; exact e.symm))⟩
   have s0:w2.cell? ⟨w.heap.size+1,0,none⟩=some (.int .i64 (atN xs i).k):=((zA hk2).cell (b:=w.heap.size+1) (by rw [(sc 0).1]; omega) (by omega) 0).trans (((sc 0).2 (by omega)).trans q0)
   have s1:w2.cell? ⟨w.heap.size+1,1,none⟩=some (.string (atN xs i).t):=((zA hk2).cell (b:=w.heap.size+1) (by rw [(sc 0).1]; omega) (by omega) 1).trans (((sc 1).2 (by omega)).trans q1)
   have s2:w2.cell? ⟨w.heap.size+1,2,none⟩=some (.int .i64 ((H.length:Int)-1)):=((zA hk2).cell (b:=w.heap.size+1) (by rw [(sc 0).1]; omega) (by omega) 2).trans (yo _ _ _ q2)
   have s3:w2.cell? ⟨w.heap.size+1,3,none⟩=some (.int .i64 0):=((zA hk2).cell (b:=w.heap.size+1) (by rw [(sc 0).1]; omega) (by omega) 3).trans (((sc 3).2 (by omega)).trans q3)
   have t3:w2.frozen? ⟨w.heap.size+1,3,none⟩=false:=((zA hk2).frozen (b:=w.heap.size+1) (by rw [(sc 0).1]; omega) (by omega) 3).trans ((yq _ _ _ _).trans r3)
   have z:=zB ((zA F).grownRow (zr (zA hk2)) (fun k hk=>by injection hk with hk; subst hk; omega))
   clear hk2 sc p0 p3 q0 q1 q2 q3 r2 r3 A F hr1
   have ST:=zB (show Zn ((w2.setCell ⟨w.heap.size+1,3,none⟩ (.int .i64 ((X.length:Int)-1))).alloc (.cells #[.int .i64 nd.k,.string nd.t,.int .i64 nd.a,.int .i64 nd.b] 144)) B g2 c2 X from ((zA hr2).set _ _ _ (by omega)).below (zC _ _))
   have NW:=zB (Zl (w2.setCell ⟨w.heap.size+1,3,none⟩ (.int .i64 ((X.length:Int)-1))) w2.heap.size nd (by simp [World.setCell]))
   rw [zA p] at ST NW
   simp only at ST NW
   go_wp2_with (at_builtin; refine yJ _ rfl (.tmp 52) (.tmp 54) 123 rfl B 144 i0 _ 4 40 Tryz.underlying123 (zA HI) (zA HZ).1 (zA HZ).2.1 (zA HZ).2.2 rfl (by decide) _ X.length (zL X) rfl (zA ST) ⟨w2.heap.size,0,none⟩ 1 1 (zL [nd]) rfl rfl (by rw [zA p]; exact zA NW) (zS _) ?b1 ?b2 ?b3 ?next)
   case b1=>unfold maxLen; omega
   case b2=>omega
   case b3=>simp; omega
   case next=>
    intro v4 w4 q K Q x
    obtain ⟨g4,c4,rfl,J⟩:=Zn.snoc q (by simp [Q]) (zA U)
    have v:=zB J
    have P:=zB ((((zA z).setRow (w.heap.size+1) 3 (.int .i64 ((X.length:Int)-1)) (by omega)).trans (zG.of_below (zC _ _))).grownRow K (fun k hk=>by simp [Value.ownBlock] at hk; omega))
    have V:g4=g\/w.heap.size<=g4:=by simp [Value.ownBlock] at x; omega
    clear q K Q J x
    go_wp2_with fail
    go_ret
    exact ⟨⟨g4,c4,rfl,v,V⟩,P⟩
theorem zHm (b k cap:Nat) (xs:List zD) (w:JY) (hm:xs.length<=1048576) (hw:zBC w b k xs) (hs:zFB xs) (hB:b<w.heap.size) :
  Calls Tryz.prog 91 #[.agg #[.slice (some ⟨b,k,none⟩) xs.length cap]] w fun e w'=>(∃ (a:Option Addr) (c:Nat) (us:List zD) (v:Bool),e = .returned (.tuple #[.agg #[.slice a us.length c],.bool v])/\Hid (ZU w' w.heap.size a us)/\Hid (zPV xs us v))/\Below w.heap.size w w':=by
 have HW:=zB hw
 have HS:=zB hs
 clear hw hs
 go_enter Tryz.func91,Tryz.ntmps91
 go_wp2_with fail
 refine (zDz b k cap xs _ hm ((zA HW).below ((zC _ _).alloc (by simp) _) hB) (zA HS) (by simp; omega)).mono ?_
 rintro e w1 ⟨⟨v,rfl,hv⟩,hb1⟩
 have HV:=zB hv
 have H:Below w.heap.size w w1:=((zC _ _).alloc (by simp) _).trans (hb1.mono (by simp; omega))
 have z1:w.heap.size+2<=w1.heap.size:=by have:=hb1.size; simp at this; omega
 have c0:w1.cell? ⟨w.heap.size,0,none⟩=some (.slice (some ⟨b,k,none⟩) xs.length cap):=(hb1.cell (p:=⟨w.heap.size,0,none⟩) (by simp; omega)).trans (by simp [go_sem])
 have c1:w1.cell? ⟨w.heap.size+1,0,none⟩=some (.slice none 0 0):=(hb1.cell (p:=⟨w.heap.size+1,0,none⟩) (by simp)).trans (by simp [go_sem])
 have d1:w1.frozen? ⟨w.heap.size+1,0,none⟩=false:=(hb1.frozen (p:=⟨w.heap.size+1,0,none⟩) (by simp)).trans (by simp [go_sem])
 clear hv hb1
 cases v
 ·go_wp2_with fail
  refine yK (v:=.tuple #[.agg #[.slice none 0 0],.bool false]) ?res rfl ⟨⟨none,0,[],false,rfl,zB (yQ ⟨rfl,rfl⟩),zB (yR ⟨fun h=>Bool.false_ne_true ((zA HV).2 h),rfl,rfl⟩)⟩,?_⟩
  case res=>simp [results,Tryz.results91,go_sem,c1]
  exact H.setCell (by simp) _
 ·have HO:=zB ((zA HV).1 rfl)
  have X:=(zA HO).2.1
  have h1:=(zA HO).1
  have ei:(xs.length:Int)-1=((xs.length-1:Nat):Int):=by omega
  have x:xs.length-1+1=xs.length:=by omega
  obtain ⟨vs,q⟩:∃ vs,Hid (vs=er xs (xs.length-1+1)):=⟨_,zB rfl⟩
  have K:=zB (show Zn (w1.alloc (.cells #[] 144)) w1.heap.size w1.heap.size 0 [] by
   have:=yD (base:=w1.heap.size) (e:=144) (size:=4) w1 #[] 0 (yh _) (yj _) rfl
   simpa [Zn,zL] using this)
  go_wp2_with fail
  refine (zEc b k cap xs X xs.length (xs.length-1) 0 w1.heap.size w1.heap.size 0 [] vs _ (by omega) (by omega) (zB (zA HO).2.2.1) (zB rfl) q ((zA HW).below (H.trans ((zC _ _).mono H.size)) hB) (by omega) (by simp) (zA K)).mono ?_
  rintro e w2 ⟨⟨g2,c2,rfl,hr2,hg2⟩,hk2⟩
  have y:=(zA hr2).lt
  have z2:w1.heap.size<w2.heap.size:=by have:=(zA hk2).size; simp at this; omega
  have e1:w2.cell? ⟨w.heap.size+1,0,none⟩=some (.slice none 0 0):=((zA hk2).cell (b:=w.heap.size+1) (by simp; omega) (by omega) 0).trans (((zC _ _).cell (p:=⟨w.heap.size+1,0,none⟩) (show w.heap.size+1<w1.heap.size by omega)).trans c1)
  have f1:w2.frozen? ⟨w.heap.size+1,0,none⟩=false:=((zA hk2).frozen (b:=w.heap.size+1) (by simp; omega) (by omega) 0).trans (((zC _ _).frozen (p:=⟨w.heap.size+1,0,none⟩) (show w.heap.size+1<w1.heap.size by omega)).trans d1)
  have Q:Below w.heap.size w w2:=(H.trans ((zC _ _).mono H.size)).trans ((zA hk2).below (by simp; omega) (by omega))
  clear c0 c1 d1 hk2 K
  go_wp2_with fail
  refine yK (v:=.tuple #[.agg #[.slice (some ⟨g2,0,none⟩) vs.length c2],.bool true]) ?res rfl ⟨⟨some ⟨g2,0,none⟩,c2,vs,true,rfl,zB (yR ⟨g2,rfl,by omega,?_⟩),zB (yQ ⟨zA HO,rfl,by rw [zA q,x]⟩)⟩,?_⟩
  case res=>simp [results,Tryz.results91,go_sem,e1]
  ·exact (zBJ (zA hr2)).2.setCell _ _ _ (by omega)
  ·exact Q.setCell (by simp) _
structure K2 (w w':JY) (rp g:Nat):Prop where
 os:w'.os=w.os
 tape:w'.tape=w.tape
 output:w'.output=w.output
 size:w.heap.size<=w'.heap.size
 block:∀ i,i<w.heap.size->i≠rp->i≠g->w'.heap[i]?=w.heap[i]?
theorem K2.of1 (h:zG w w' rp):K2 w w' rp g:=⟨h.os,h.tape,h.output,h.size,fun i hi h1 _=>h.block i hi h1⟩
theorem K2.ofB (h:Below w.heap.size w w'):K2 w w' rp g:=⟨h.os,h.tape,h.output,h.size,fun i hi _ _=>h.block i hi⟩
theorem K2.trans {w w1 w2:JY} {rp g g1:Nat} (h:K2 w w1 rp g) (h':K2 w1 w2 rp g1) (hg:g1=g\/w.heap.size<=g1):K2 w w2 rp g:=
 ⟨h'.os.trans h.os,h'.tape.trans h.tape,h'.output.trans h.output,yr h.size h'.size,fun i hi a b=>(h'.block i (yi hi h.size) a (by rcases hg with rfl | hg; exact b; omega)).trans (h.block i hi a b)⟩
theorem K2.row {w2:JY} {g1:Nat} (h:K2 w w1 rp g) (h':w1.grownBy w2 (some g1)) (hg:g1=g\/w.heap.size<=g1):K2 w w2 rp g:=
 ⟨h'.os.trans h.os,h'.tape.trans h.tape,h'.output.trans h.output,yr h.size h'.size,fun i hi a b=>(h'.block i (yi hi h.size) (fun e=>by injection e with e; rcases hg with rfl | hg; exact b e; omega)).trans (h.block i hi a b)⟩
theorem K2.cell {w w':JY} {rp g:Nat} (h:K2 w w' rp g) {b:Nat} (hb:b<w.heap.size) (h1:b≠rp) (h2:b≠g) (o:Nat):w'.cell? ⟨b,o,none⟩=w.cell? ⟨b,o,none⟩:=yp (w:=w) (h.block b hb h1 h2)
theorem K2.frozen {w w':JY} {rp g:Nat} (h:K2 w w' rp g) {b:Nat} (hb:b<w.heap.size) (h1:b≠rp) (h2:b≠g) (o:Nat):w'.frozen? ⟨b,o,none⟩=w.frozen? ⟨b,o,none⟩:=yA (w:=w) (h.block b hb h1 h2)
theorem RdS.row {p:Nat} {bs:List UInt8} (h:RdS w rp a cap bs p) (hg:w.grownBy w' (some g)) (hr:rp<g):RdS w' rp a cap bs p:=
 h.kept (fun i hi=>hg.block i (by have:=h.lt; omega) (fun e=>by injection e with e; omega))
def zEd (k:Nat):zD:=if k%2=0 then ⟨2,(⟨#[97,98,99,100,95,57]⟩:JZ).extract (k/2%4) (k/2%4+1+k/8%3),0,0⟩ else ⟨1,(⟨#[48,49,55,50]⟩:JZ).extract (k/2%4) 4,0,0⟩
def zEe (w:JY) (rp cap:Nat) (a:Option Addr) (bs:List UInt8) (B g:Nat) (q:Nat) (vs:List zD) (e:Ending) (w':JY):Prop:=
 ∃ g' c',e = .returned (.slice (some ⟨g',0,none⟩) vs.length c')/\Hid (Zn w' B g' c' vs)/\(g'=g\/w.heap.size<=g')/\Hid (RdS w' rp a cap bs q)/\Hid (K2 w w' rp g)
theorem zGb (rp cap p B g c:Nat) (a:Option Addr) (bs:List UInt8) (us:List zD) (w:JY) (h:RdS w rp a cap bs p) (hl:bs.length<=1200) (hm:us.length<=100000) (hr:Zn w B g c us) (hB:B<=w.heap.size) (b:rp<B) :
  Calls Tryz.prog 111 #[.pointer (some ⟨rp,0,none⟩),.slice (some ⟨g,0,none⟩) us.length c] w (zEe w rp cap a bs B g (adv bs p) (us++[zEd (nxt bs p)])):=by
 obtain ⟨i0,V,u,A,v⟩:=zN zC7
 have HI:=zB V
 have HZ:=zB (yH u (yH A v))
 have HX:=zB (zAj rp cap p a bs w h hl)
 have HR:=zB hr
 have hg:=hr.lt
 obtain ⟨vs,J⟩:∃ vs,Hid (vs=us++[zEd (nxt bs p)]):=⟨_,zB rfl⟩
 rw [<- zA J]
 clear V u A v h hr
 go_enter Tryz.func111,Tryz.ntmps111
 go_wp2_with fail
 (with_reducible refine (zA HX).mono ?_)
 rintro e w1 ⟨⟨k,rfl,hk,HK⟩,H1,HP1⟩
 have z1:=(zA HP1).size
 have U:=zB ((zA HR).kept (zA HP1) (by omega))
 clear HX HR
 by_cases hp:k%2=0
 ·have e0:((k:Int)%2==0)=true:=by simp; omega
  have e1:(0:Int)<=(k:Int)/2%4:=by omega
  have e2:(k:Int)/2%4<=(k:Int)/2%4+1+(k:Int)/8%3:=by omega
  have e3:(k:Int)/2%4+1+(k:Int)/8%3<=6:=by omega
  have HV:=zB (show vs=us++[⟨2,(⟨#[97,98,99,100,95,57]⟩:JZ).extract (k/2%4) (k/2%4+1+k/8%3),0,0⟩] by rw [zA J,<- zA HK]; unfold zEd; rw [yO hp])
  clear hp
  go_wp2_with (at_builtin; refine yJ _ rfl (.tmp 11) (.tmp 25) 123 rfl B 144 i0 _ 4 40 Tryz.underlying123 (zA HI) (zA HZ).1 (zA HZ).2.1 (zA HZ).2.2 rfl (by decide) _ us.length (zL us) rfl ((zA U).below (zC _ _)) ⟨w1.heap.size,0,none⟩ 1 1 (zL [⟨2,(⟨#[97,98,99,100,95,57]⟩:JZ).extract (k/2%4) (k/2%4+1+k/8%3),0,0⟩]) rfl rfl (ZN w1 ⟨2,(⟨#[97,98,99,100,95,57]⟩:JZ).extract (k/2%4) (k/2%4+1+k/8%3),0,0⟩) (zS _) ?b1 ?b2 ?b3 ?next)
  case b1=>unfold maxLen; omega
  case b2=>omega
  case b3=>simp; omega
  case next=>
   intro v4 w4 K H q Q
   obtain ⟨g4,c4,rfl,X⟩:=Zn.snoc K (by simp [q]) (zA HV)
   have j:=zB X
   have x:World.grownBy _ w4 (some g):=H
   have Y:=zB (((zA H1).below (zC w1 (.cells #[.int .i64 (⟨2,(⟨#[97,98,99,100,95,57]⟩:JZ).extract (k/2%4) (k/2%4+1+k/8%3),0,0⟩:zD).k,.string (⟨2,(⟨#[97,98,99,100,95,57]⟩:JZ).extract (k/2%4) (k/2%4+1+k/8%3),0,0⟩:zD).t,.int .i64 0,.int .i64 0] 144))).row x (by omega))
   have y:=zB (((K2.of1 (g:=g) (zA HP1)).trans (K2.ofB (zC w1 _)) (yQ rfl)).row x (yQ rfl))
   have P:g4=g\/w.heap.size<=g4:=by simp [Value.ownBlock] at Q; omega
   clear K H x q X Q
   go_wp2_with fail
   go_ret
   exact ⟨g4,c4,rfl,j,P,Y,y⟩
 ·have e0:((k:Int)%2==0)=false:=by simp; omega
  have e1:(0:Int)<=(k:Int)/2%4:=by omega
  have e2:(k:Int)/2%4<=4:=by omega
  have HV:=zB (show vs=us++[⟨1,(⟨#[48,49,55,50]⟩:JZ).extract (k/2%4) 4,0,0⟩] by rw [zA J,<- zA HK]; unfold zEd; rw [yN hp])
  clear hp
  go_wp2_with (at_builtin; refine yJ _ rfl (.tmp 27) (.tmp 33) 123 rfl B 144 i0 _ 4 40 Tryz.underlying123 (zA HI) (zA HZ).1 (zA HZ).2.1 (zA HZ).2.2 rfl (by decide) _ us.length (zL us) rfl ((zA U).below (zC _ _)) ⟨w1.heap.size,0,none⟩ 1 1 (zL [⟨1,(⟨#[48,49,55,50]⟩:JZ).extract (k/2%4) 4,0,0⟩]) rfl rfl (ZN w1 ⟨1,(⟨#[48,49,55,50]⟩:JZ).extract (k/2%4) 4,0,0⟩) (zS _) ?b1 ?b2 ?b3 ?next)
  case b1=>unfold maxLen; omega
  case b2=>omega
  case b3=>simp; omega
  case next=>
   intro v4 w4 K H q Q
   obtain ⟨g4,c4,rfl,X⟩:=Zn.snoc K (by simp [q]) (zA HV)
   have j:=zB X
   have x:World.grownBy _ w4 (some g):=H
   have Y:=zB (((zA H1).below (zC w1 (.cells #[.int .i64 (⟨1,(⟨#[48,49,55,50]⟩:JZ).extract (k/2%4) 4,0,0⟩:zD).k,.string (⟨1,(⟨#[48,49,55,50]⟩:JZ).extract (k/2%4) 4,0,0⟩:zD).t,.int .i64 0,.int .i64 0] 144))).row x (by omega))
   have y:=zB (((K2.of1 (g:=g) (zA HP1)).trans (K2.ofB (zC w1 _)) (yQ rfl)).row x (yQ rfl))
   have P:g4=g\/w.heap.size<=g4:=by simp [Value.ownBlock] at Q; omega
   clear K H x q X Q
   go_wp2_with fail
   go_ret
   exact ⟨g4,c4,rfl,j,P,Y,y⟩
end Go.Proofs.YtgbkgkdpdfdokaaGreatDoor
