import Derived.Deep.DeepCutAuto
import Derived.Test.YtgbkgkdpdfdokaaGreatDoorQ07
namespace Go.Proofs.YtgbkgkdpdfdokaaGreatDoor
set_option linter.all false
set_option maxHeartbeats 16000000
set_option maxRecDepth 100000
open Go.RowKit
variable {B N b f g k off op p p0:Nat} {bh:Bool} {bs:List UInt8} {ns:List OpR} {o:zD} {w w':World} {ws:List ByteArray} {xs:List zD}
structure LnP (bs:List UInt8) (ns:List OpR) (p0:Nat) (ws:List JZ) (bh:Bool) (op p f:Nat):Prop where
 me:lnM bs bh op p<=f
 eq:lnF bs ns 3601 [] false 0 p0=lnF bs ns f ws bh op p
 one:bh=true->1<=ws.length
 nf:ws.length+f<=3601
 opn:op<=ws.length
theorem LnP.start (bs:List UInt8) (ns:List OpR) (p0:Nat) (hl:bs.length<=1200):LnP bs ns p0 [] false 0 p0 3601:=
 ⟨by unfold lnM; simp; omega,rfl,(fun h=>by cases h),by simp,yj _⟩
theorem LnP.len (h:LnP bs ns p0 ws bh op p f):ws.length<=3601/\op<=3601:=by have:=h.nf; have:=h.opn; omega
theorem LnP.fin (h:LnP bs ns p0 ws bh op p f) (hc:¬ ((ws.length<30/\p<bs.length)\/bh=false\/0<op)):lnF bs ns 3601 [] false 0 p0=(ws,p):=by
 rw [h.eq]
 cases f with
 | zero=>rfl
 | succ f=>simp only [lnF]; rw [yO hc]
theorem zJA (h:nxt bs p≠0):p<bs.length:=by
 by_cases hp:p<bs.length
 ·exact hp
 ·exact yP (by simp [nxt,hp]) h
theorem LnP.go (h:LnP bs ns p0 ws bh op p f) {ws':List JZ} {bh':Bool} {op' p':Nat}
  (hs:∀ f,lnF bs ns (f+1) ws bh op p=lnF bs ns f ws' bh' op' p') (hm:lnM bs bh' op' p'<lnM bs bh op p) (hn:ws'.length<=ws.length+1) (H:op'<=ws'.length) (ho:bh'=true->1<=ws'.length) :
  ∃ f',f'<f/\LnP bs ns p0 ws' bh' op' p' f':=by
 have h1:=h.me
 have h2:=h.nf
 cases f with
 | zero=>omega
 | succ f=>exact ⟨f,by omega,by omega,h.eq.trans (hs f),ho,by omega,H⟩
theorem LnP.stepA (h:LnP bs ns p0 ws false op p f) (hk:k=nxt bs p) (h1:k%8=1) (hn:ws.length<30) :
  ∃ f',f'<f/\LnP bs ns p0 (ws++[⟨#[40]⟩]) false (op+1) (adv bs p) f':=by
 subst hk
 have hp:p<bs.length:=zJA (by omega)
 have ha:adv bs p=p+1:=by simp [adv,hp]
 have ho:=h.opn
 refine h.go (fun f=>?_) ?_ (by simp) (by simp; omega) (fun h=>by cases h)
 ·simp only [lnF]
  rw [yN (by simp),yO trivial,yO ⟨h1,hn⟩]
 ·unfold lnM; rw [ha]; simp; omega
theorem LnP.stepB (h:LnP bs ns p0 ws false op p f) (hk:k=nxt bs p) (h1:¬ (k%8=1/\ws.length<30)) (h2:4<k%8) (h3:(atO ns (k/8%ns.length)).k=1) :
  ∃ f',f'<f/\LnP bs ns p0 (ws++[(atO ns (k/8%ns.length)).s]) false op (adv bs p) f':=by
 subst hk
 have hp:p<bs.length:=zJA (by omega)
 have ha:adv bs p=p+1:=by simp [adv,hp]
 have ho:=h.opn
 refine h.go (fun f=>?_) ?_ (by simp) (by simp; omega) (fun h=>by cases h)
 ·simp only [lnF]
  rw [yN (by simp),yO trivial,yN h1,yO ⟨h2,h3⟩]
 ·unfold lnM; rw [ha]; simp; omega
theorem LnP.stepC (h:LnP bs ns p0 ws false op p f) (hk:k=nxt bs p) (h1:¬ (k%8=1/\ws.length<30)) (h2:¬ (4<k%8/\(atO ns (k/8%ns.length)).k=1)) :
  ∃ f',f'<f/\LnP bs ns p0 (ws++[nmK k]) true op (adv bs p) f':=by
 subst hk
 have ha:p<=adv bs p:=by unfold adv; split <;> omega
 have ho:=h.opn
 refine h.go (fun f=>?_) ?_ (by simp) (by simp; omega) (fun _=>by simp)
 ·simp only [lnF]
  rw [yN (by simp),yO trivial,yN h1,yN h2]
 ·unfold lnM; simp; omega
theorem LnP.stepD (h:LnP bs ns p0 ws true op p f) (hk:k=nxt bs p) (h1:0<op) (h2:k%8=0\/30<=ws.length\/bs.length<=adv bs p) :
  ∃ f',f'<f/\LnP bs ns p0 (ws++[⟨#[41]⟩]) true (op-1) (adv bs p) f':=by
 subst hk
 have ha:p<=adv bs p:=by unfold adv; split <;> omega
 have ho:=h.opn
 refine h.go (fun f=>?_) ?_ (by simp) (by simp; omega) (fun _=>by simp)
 ·simp only [lnF]
  rw [yN (fun h=>h (yR (yR h1))),yN (by simp),yO ⟨h1,h2⟩]
 ·unfold lnM; simp; omega
theorem LnP.stepE (h:LnP bs ns p0 ws true op p f) (hk:k=nxt bs p) (hp:p<bs.length) (hn:ws.length<30) (h2:¬ (0<op/\(k%8=0\/30<=ws.length\/bs.length<=adv bs p))) :
  ((atO ns (k/8%ns.length)).k=3->∃ f',f'<f/\LnP bs ns p0 (ws++[(atO ns (k/8%ns.length)).s]) true op (adv bs p) f') /\
  ((atO ns (k/8%ns.length)).k=2->∃ f',f'<f/\LnP bs ns p0 (ws++[(atO ns (k/8%ns.length)).s]) false op (adv bs p) f') /\
  ((atO ns (k/8%ns.length)).k≠3->(atO ns (k/8%ns.length)).k≠2->¬ bs.length<=adv bs p->∃ f',f'<f/\LnP bs ns p0 ws true op (adv bs p) f') /\
  ((atO ns (k/8%ns.length)).k≠3->(atO ns (k/8%ns.length)).k≠2->bs.length<=adv bs p->lnF bs ns 3601 [] false 0 p0=(ws,adv bs p)):=by
 subst hk
 have ha:adv bs p=p+1:=by simp [adv,hp]
 have ho:=h.opn
 have h1:=h.one rfl
 have H:¬ ¬ ((ws.length<30/\p<bs.length)\/(true:Bool)=false\/0<op):=fun h=>h (yQ ⟨hn,hp⟩)
 have K:=h.me
 refine ⟨fun h3=>h.go (fun f=>?_) ?_ (by simp) (by simp; omega) (fun _=>by simp),fun h3=>h.go (fun f=>?_) ?_ (by simp) (by simp; omega) (fun h=>by cases h),fun h3 h4 h5=>h.go (fun f=>?_) ?_ (by omega) (by omega) (fun _=>h1),fun h3 h4 h5=>?_⟩
 ·simp only [lnF]
  rw [yN H,yN (by simp),yN h2,yO h3]
 ·unfold lnM; rw [ha]; simp; omega
 ·simp only [lnF]
  rw [yN H,yN (by simp),yN h2,yN (by rw [h3]; decide),yO h3]
 ·unfold lnM; rw [ha]; simp; omega
 ·simp only [lnF]
  rw [yN H,yN (by simp),yN h2,yN h3,yN h4,yN h5]
 ·unfold lnM; rw [ha]; simp; omega
 ·rw [h.eq]
  cases f with
  | zero=>unfold lnM at K; simp at K; omega
  | succ f=>
   simp only [lnF]
   rw [yN H,yN (by simp),yN h2,yN h3,yN h4,yO h5]
theorem zFS (b H cap:Nat) (xs:List OpR) (w:JY) (hm:xs.length<=1048576) (hw:Ops w b H xs) (hs:Zg xs) (hB:b<w.heap.size) (hc:zR xs 0) :
  Calls Tryz.prog 17 #[.agg #[.slice (some ⟨b,H,none⟩) xs.length cap]] w fun e w'=>e = .returned (.int .i64 0)/\Below w.heap.size w w':=by
 refine (ZY b H cap xs w hm hw hs hB).mono ?_
 rintro e w' ⟨⟨c,rfl,h⟩,hb⟩
 exact ⟨by rw [zAD h hc],hb⟩
theorem zFT (b Q cap bn q cn:Nat) (xs:List OpR) (ns:List zD) (w:JY) (hm:xs.length<=1048576) (f:ns.length<=1048576) (hw:Ops w b Q xs) (u:Zg xs) (hB:b<w.heap.size) (B:zBC w bn q ns) (d:zFB ns) (D:bn<w.heap.size) (hc:zR xs 0) :
  Calls Tryz.prog 90 #[.agg #[.slice (some ⟨b,Q,none⟩) xs.length cap],.agg #[.slice (some ⟨bn,q,none⟩) ns.length cn]] w fun e w'=>zBs e (zA6 ns/\zJq xs ns)/\Below w.heap.size w w':=by
 have HW:=zB hw
 have E:=zB B
 have HZ:=zB u
 have F:=zB d
 have HC:=zB hc
 clear hw B u d hc
 go_enter Tryz.func90,Tryz.ntmps90
 go_wp2_with fail
 refine (zFS b Q cap xs _ hm ((zA HW).below ((zC _ _).alloc (by simp) _) hB) (zA HZ) (by simp; omega) (zA HC)).mono ?_
 rintro e w1 ⟨rfl,hb1⟩
 have H:Below w.heap.size w w1:=((zC _ _).alloc (by simp) _).trans (hb1.mono (by simp; omega))
 have c0:w1.cell? ⟨w.heap.size,0,none⟩=some (.slice (some ⟨b,Q,none⟩) xs.length cap):=(hb1.cell (p:=⟨w.heap.size,0,none⟩) (by simp; omega)).trans (by simp [go_sem])
 have c1:w1.cell? ⟨w.heap.size+1,0,none⟩=some (.slice (some ⟨bn,q,none⟩) ns.length cn):=(hb1.cell (p:=⟨w.heap.size+1,0,none⟩) (by simp)).trans (by simp [go_sem])
 have z1:w.heap.size+2<=w1.heap.size:=by have:=hb1.size; simp at this; omega
 clear hb1
 go_wp2_with fail
 refine (zDz bn q cn ns _ f ((zA E).below H D) (zA F) (by omega)).mono ?_
 rintro e w2 ⟨⟨v,rfl,hv⟩,hb2⟩
 have HV:=zB hv
 have y:=H.trans (hb2.mono H.size)
 have e0:=(hb2.cell (p:=⟨w.heap.size,0,none⟩) (show w.heap.size<w1.heap.size by omega)).trans c0
 have e1:=(hb2.cell (p:=⟨w.heap.size+1,0,none⟩) (show w.heap.size+1<w1.heap.size by omega)).trans c1
 have z2:w.heap.size+2<=w2.heap.size:=yr z1 hb2.size
 clear hb2 hv c0 c1 H z1
 cases v
 ·go_wp2_with fail
  go_ret
  exact ⟨⟨_,rfl,zc (fun h=>Bool.false_ne_true ((zA HV).2 h.1))⟩,y⟩
 have HO:=zB ((zA HV).1 rfl)
 clear HV
 have c:=zB (show Cs [(w.heap.size,0,.slice (some ⟨b,Q,none⟩) xs.length cap),(w.heap.size+1,0,.slice (some ⟨bn,q,none⟩) ns.length cn)] w2 from fun p hp=>by
  simp only [List.mem_cons,List.not_mem_nil,or_false] at hp
  rcases hp with rfl | rfl
  ·exact e0
  ·exact e1)
 go_wp2_with fail
 go_loopw [5] (fun iv wr=>∃ k:Nat,k<=ns.length/\iv = .int .i64 (k:Int)/\Hid (∀ i,i<k->zA7 (atN ns i)->fnd xs (atN ns i).t ((atN ns i).k-2)≠none)/\Hid (Cs [(w.heap.size,0,.slice (some ⟨b,Q,none⟩) xs.length cap),(w.heap.size+1,0,.slice (some ⟨bn,q,none⟩) ns.length cn)] wr)/\Below w.heap.size w wr) (fun iv _=>ns.length-(intOf iv).toNat)
 case atStart=>exact ⟨0,yj _,rfl,zB (fun i hi=>yP hi (yt i)),c,y⟩
 case round=>
  clear c e0 e1 y z2
  obtain ⟨k,hk,rfl,P,J,x⟩:=hrel
  have c0:=(zA J) (w.heap.size,0,.slice (some ⟨b,Q,none⟩) xs.length cap) (by simp)
  have c1:=(zA J) (w.heap.size+1,0,.slice (some ⟨bn,q,none⟩) ns.length cn) (by simp)
  simp only at c0 c1
  by_cases C:k<ns.length
  ·have g:(k:Int)<(ns.length:Int):=by omega
   obtain ⟨a0,a1,a2,a3⟩:=((zA E) k C).below x D
   have U:=zB ((zA J).below (zC wr (.cells #[.int .i64 (atN ns k).k,.string (atN ns k).t,.int .i64 (atN ns k).a,.int .i64 (atN ns k).b] 144)))
   have H:Below w.heap.size w (wr.alloc (.cells #[.int .i64 (atN ns k).k,.string (atN ns k).t,.int .i64 (atN ns k).a,.int .i64 (atN ns k).b] 144)):=x.alloc x.size _
   by_cases ho:zA7 (atN ns k)
   ·have HD:=zB (show true=decide (3<=(atN ns k).k/\(atN ns k).k<=5) by rw [eq_comm,decide_eq_true_iff]; exact ho)
    have h3:=ho.1
    have h5:=ho.2
    have V:=zB ho
    clear ho
    go_wp2_with fail
    refine (zAf (atN ns k) _ true (zA HD)).mono ?_
    rintro e w3 ⟨rfl,hb3⟩
    have A:=zB ((zA U).below hb3)
    have K:=H.trans (hb3.mono H.size)
    have n0:w3.cell? ⟨wr.heap.size,0,none⟩=some (.int .i64 (atN ns k).k):=(hb3.cell (p:=⟨wr.heap.size,0,none⟩) (by simp)).trans (by simp [go_sem])
    have n1:w3.cell? ⟨wr.heap.size,1,none⟩=some (.string (atN ns k).t):=(hb3.cell (p:=⟨wr.heap.size,1,none⟩) (by simp)).trans (by simp [go_sem])
    have d0:=(zA A) (w.heap.size,0,.slice (some ⟨b,Q,none⟩) xs.length cap) (by simp)
    simp only at d0
    have l:IntKind.i64.wrap ((atN ns k).k-2)=(atN ns k).k-2:=by rw [IntKind.wrap_i64]; omega
    clear hb3 c0 c1
    cases hf:fnd xs (atN ns k).t ((atN ns k).k-2) with
    | none=>
     have HF:=zB hf
     have Y:=zB (show fI (fnd xs (atN ns k).t ((atN ns k).k-2)) = -1 by rw [hf]; rfl)
     clear hf
     go_wp2_with fail
     refine (zDq b Q cap xs (atN ns k).t ((atN ns k).k-2) _ hm ((zA HW).below K hB) (yi hB K.size)).mono ?_
     rw [zA Y]
     rintro e w4 ⟨rfl,hb4⟩
     go_wp2_with fail
     go_ret
     exact ⟨⟨_,rfl,zc (fun h=>h.2 k C (zA V) (zA HF))⟩,K.trans (hb4.mono K.size)⟩
    | some j=>
     have HF:=zB hf
     have Y:=zB (show fI (fnd xs (atN ns k).t ((atN ns k).k-2))=(j:Int) by rw [hf]; rfl)
     clear hf
     go_wp2_with fail
     refine (zDq b Q cap xs (atN ns k).t ((atN ns k).k-2) _ hm ((zA HW).below K hB) (yi hB K.size)).mono ?_
     rw [zA Y]
     rintro e w4 ⟨rfl,hb4⟩
     have G:¬ (j:Int)<0:=by omega
     go_wp2_with fail
     refine ⟨⟨k+1,by omega,by go_num,zB (fun i hi X=>?_),zB ((zA A).below hb4),K.trans (hb4.mono K.size)⟩,by simp [intOf]; omega⟩
     by_cases e:i=k
     ·subst e; rw [zA HF]; simp
     ·exact (zA P) i (by omega) X
   ·have HD:=zB (show false=decide (3<=(atN ns k).k/\(atN ns k).k<=5) by rw [eq_comm,yT]; exact ho)
    have V:=zB ho
    clear ho
    go_wp2_with fail
    refine (zAf (atN ns k) _ false (zA HD)).mono ?_
    rintro e w3 ⟨rfl,hb3⟩
    go_wp2_with fail
    refine ⟨⟨k+1,by omega,by go_num,zB (fun i hi X=>?_),zB ((zA U).below hb3),H.trans (hb3.mono H.size)⟩,by simp [intOf]; omega⟩
    by_cases e:i=k
    ·subst e; exact yP X (zA V)
    ·exact (zA P) i (by omega) X
  ·have I:k=ns.length:=by omega
   go_wp2_with fail
   go_ret
   exact ⟨⟨_,rfl,zAJ ⟨zA HO,fun i hi X=>(zA P) i (by omega) X⟩⟩,x⟩
def ZB (w:JY) (N:Nat) (o:zD):Prop:=w.cell? ⟨N,0,none⟩=some (.int .i64 o.k)/\w.cell? ⟨N,1,none⟩=some (.string o.t)/\w.cell? ⟨N,2,none⟩=some (.int .i64 o.a)/\w.cell? ⟨N,3,none⟩=some (.int .i64 o.b)/\w.frozen? ⟨N,2,none⟩=false/\w.frozen? ⟨N,3,none⟩=false
theorem ZB.grown {row:Option Nat} (h:ZB w N o) (hg:w.grownBy w' row) (H:row≠some N):ZB w' N o:=by
 obtain ⟨h0,h1,h2,h3,h4,h5⟩:=h
 have k:N<w.heap.size:=block_lt_of_cell h0
 have c:=zE hg k H
 have f:∀ o,w'.frozen? ⟨N,o,none⟩=w.frozen? ⟨N,o,none⟩:=fun o=>yA (w:=w) (hg.block N k (fun e=>H e.symm))
 exact ⟨(c 0).trans h0,(c 1).trans h1,(c 2).trans h2,(c 3).trans h3,(f 2).trans h4,(f 3).trans h5⟩
theorem ZB.below (h:ZB w N o) (hb:Below w.heap.size w w'):ZB w' N o:=h.grown (zH hb none) (by simp)
theorem ZB.set2 (h:ZB w N o) (v:Int):ZB (w.setCell ⟨N,2,none⟩ (.int .i64 v)) N ⟨o.k,o.t,v,o.b⟩:=by
 obtain ⟨h0,h1,h2,h3,h4,h5⟩:=h
 have c:∀ j,j≠2->(w.setCell ⟨N,2,none⟩ (.int .i64 v)).cell? ⟨N,j,none⟩=w.cell? ⟨N,j,none⟩:=fun j hj=>yg _ _ _ _ (fun x=>hj (by injection x with _ x; exact x.symm))
 exact ⟨(c 0 (by omega)).trans h0,(c 1 (by omega)).trans h1,yo _ _ _ h2,(c 3 (by omega)).trans h3,(yq _ _ _ _).trans h4,(yq _ _ _ _).trans h5⟩
theorem ZB.set3 (h:ZB w N o) (v:Int):ZB (w.setCell ⟨N,3,none⟩ (.int .i64 v)) N ⟨o.k,o.t,o.a,v⟩:=by
 obtain ⟨h0,h1,h2,h3,h4,h5⟩:=h
 have c:∀ j,j≠3->(w.setCell ⟨N,3,none⟩ (.int .i64 v)).cell? ⟨N,j,none⟩=w.cell? ⟨N,j,none⟩:=fun j hj=>yg _ _ _ _ (fun x=>hj (by injection x with _ x; exact x.symm))
 exact ⟨(c 0 (by omega)).trans h0,(c 1 (by omega)).trans h1,(c 2 (by omega)).trans h2,yo _ _ _ h3,(yq _ _ _ _).trans h4,(yq _ _ _ _).trans h5⟩
theorem ZB.other {j:Nat} (h:ZB w N o) (v:Value) (H:g≠N):ZB (w.setCell ⟨g,j,none⟩ v) N o:=
 h.grown (row:=some g) ⟨rfl,rfl,rfl,by simp [World.setCell],fun i _ hi=>yZ _ _ _ _ (fun e=>hi (by rw [e]))⟩ (by simpa using H)
def zCg (w:JY) (N:Nat) (p:OpR):Prop:=w.cell? ⟨N,0,none⟩=some (.string p.s)/\w.cell? ⟨N,1,none⟩=some (.int .i64 p.k)/\w.cell? ⟨N,2,none⟩=some (.int .i64 p.l)/\w.cell? ⟨N,3,none⟩=some (.int .i64 p.sd)
theorem zCg.grown {o:OpR} {row:Option Nat} (h:zCg w N o) (hg:w.grownBy w' row) (H:row≠some N):zCg w' N o:=by
 obtain ⟨h0,h1,h2,h3⟩:=h
 have k:N<w.heap.size:=block_lt_of_cell h0
 have c:=zE hg k H
 exact ⟨(c 0).trans h0,(c 1).trans h1,(c 2).trans h2,(c 3).trans h3⟩
theorem zCg.below {o:OpR} (h:zCg w N o) (hb:Below w.heap.size w w'):zCg w' N o:=h.grown (zH hb none) (by simp)
theorem zCg.other {j:Nat} {o:OpR} (h:zCg w N o) (v:Value) (H:g≠N):zCg (w.setCell ⟨g,j,none⟩ v) N o:=
 h.grown (row:=some g) ⟨rfl,rfl,rfl,by simp [World.setCell],fun i _ hi=>yZ _ _ _ _ (fun e=>hi (by rw [e]))⟩ (by simpa using H)
theorem zCh {xs:List OpR} {row:Option Nat} (h:Ops w b off xs) (hg:w.grownBy w' row) (hb:b<B) (hB:B<=w.heap.size) (hr:∀ k,row=some k->B<=k):Ops w' b off xs:=fun i hi=>by
 obtain ⟨a0,a1,a2,a3⟩:=h i hi
 have c:=zE hg (b:=b) (by omega) (fun e=>by have:=hr _ e; omega)
 exact ⟨(c _).trans a0,(c _).trans a1,(c _).trans a2,(c _).trans a3⟩
theorem zLS {row:Option Nat} (h:zBC w b off xs) (hg:w.grownBy w' row) (hb:b<B) (hB:B<=w.heap.size) (hr:∀ k,row=some k->B<=k):zBC w' b off xs:=fun i hi=>by
 obtain ⟨a0,a1,a2,a3⟩:=h i hi
 have c:=zE hg (b:=b) (by omega) (fun e=>by have:=hr _ e; omega)
 exact ⟨(c _).trans a0,(c _).trans a1,(c _).trans a2,(c _).trans a3⟩
theorem ZD.base {u:Value} {us:List zD} (h:ZD w B u us):∀ g,u.ownBlock=some g->B<=g:=fun g hg=>(World.ownsRow.lt h g hg).1
theorem ZD.other {j:Nat} {u:Value} {us:List zD} (h:ZD w B u us) (v:Value) (H:u.ownBlock≠some g):ZD (w.setCell ⟨g,j,none⟩ v) B u us:=zJn h g j v H
theorem zIY (xs:List zD):∀ m i,i<=m->∃ r,er xs m=er xs i++r
 | 0,i,h=>by
  obtain rfl:i=0:=by omega
  exact ⟨[],rfl⟩
 | m+1,i,h=>by
  by_cases e:i=m+1
  ·subst e; exact ⟨[],by simp⟩
  ·obtain ⟨r,hr⟩:=zIY xs m i (by omega)
   by_cases h6:(atN xs m).k=6
   ·rw [zJk h6]; exact ⟨r,hr⟩
   ·rw [zDG h6,hr]; exact ⟨r++[erN xs (atN xs m)],by simp⟩
theorem zOR {m i:Nat} (hi:i<m) (h6:(atN xs i).k≠6):cnt xs i<(er xs m).length/\atN (er xs m) (cnt xs i)=erN xs (atN xs i):=by
 obtain ⟨r,hr⟩:=zIY xs m (i+1) hi
 have hl:=zBj xs i
 rw [zDG h6] at hr
 rw [hr]
 refine ⟨by simp [hl],?_⟩
 unfold atN
 simp [List.getD,List.getElem?_append,hl]
theorem zFU {i:Nat} (h6:(atN xs i).k≠6):cnt xs (i+1)=cnt xs i+1:=by
 show (if (atN xs i).k=6 then cnt xs i else cnt xs i+1)=_
 rw [yN h6]
theorem zM1 {i:Nat} (h6:(atN xs i).k=6):cnt xs (i+1)=cnt xs i:=by
 show (if (atN xs i).k=6 then cnt xs i else cnt xs i+1)=_
 rw [yO h6]
theorem zHI (h:zBC w b off xs) (hb:w'.heap[b]?=w.heap[b]?):zBC w' b off xs:=fun i hi=>by
 obtain ⟨h0,h1,h2,h3⟩:=h i hi
 exact ⟨(yp (w:=w) hb).trans h0,(yp (w:=w) hb).trans h1,(yp (w:=w) hb).trans h2,(yp (w:=w) hb).trans h3⟩
theorem K2.nod {rp:Nat} (h:K2 w w' rp g) (hn:ZB w N o) (h1:N≠rp) (h2:N≠g):ZB w' N o:=by
 have H:N<w.heap.size:=block_lt_of_cell hn.1
 have c:=h.cell H h1 h2
 have f:=h.frozen H h1 h2
 obtain ⟨a0,a1,a2,a3,a4,a5⟩:=hn
 exact ⟨(c 0).trans a0,(c 1).trans a1,(c 2).trans a2,(c 3).trans a3,(f 2).trans a4,(f 3).trans a5⟩
theorem K2.set {rp o:Nat} (h:K2 w w' rp g) (v:Value) (hb:w.heap.size<=b):K2 w (w'.setCell ⟨b,o,none⟩ v) rp g:=
 ⟨h.os,h.tape,h.output,by simpa [World.setCell] using h.size,fun i hi h1 h2=>(yZ _ _ _ _ (by show i≠b; omega)).trans (h.block i hi h1 h2)⟩
def zOS (rp cap:Nat) (a:Option Addr) (bs:List UInt8) (bz cz:Nat) (zs:List zD) (B j p q:Nat) (us vs:List zD):Prop:=
 ∀ (g c:Nat) (W:JY),zBC W bz 0 zs->B<=W.heap.size->Zn W B g c us->RdS W rp a cap bs p ->
  Calls Tryz.prog 76 #[.pointer (some ⟨rp,0,none⟩),.slice (some ⟨bz,0,none⟩) zs.length cz,.int .i64 (j:Int),.slice (some ⟨g,0,none⟩) us.length c] W (zEe W rp cap a bs B g q vs)
def zRy (rp cap:Nat) (a:Option Addr) (bs:List UInt8) (bz cz:Nat) (zs:List zD) (B:Nat) (k:Int) (t:JZ) (ja jb p p2:Nat) (us h:List zD) (m:zD):Prop:=
 (ze k=0/\h=us/\p2=p/\m=⟨k,t,0,0⟩) \/
 (ze k=1/\zOS rp cap a bs bz cz zs B ja p p2 us h/\m=⟨k,t,(h.length:Int)-1,0⟩) \/
 (ze k=2/\∃ p1 us1,zOS rp cap a bs bz cz zs B ja p p1 us us1/\zOS rp cap a bs bz cz zs B jb p1 p2 us1 h/\m=⟨k,t,(us1.length:Int)-1,(h.length:Int)-1⟩/\us1.length<=90000)
theorem zLT (rp cap:Nat) (a:Option Addr) (bs:List UInt8) (hl:bs.length<=1200) (bz cz i:Nat) (zs:List zD) (k:Int) (t:JZ) (ja jb:Nat) (B p p2:Nat) (us X H vs:List zD) (m:zD) (hY:bz<B) (hU:rp<B) (hS:bz≠rp) (hi:i<zs.length) (hV:zs.length<=20000) (ho:atN zs i=⟨k,t,(ja:Int),(jb:Int)⟩) (hR:us.length<=90000) (hO:X.length<=90000) (hc:zRy rp cap a bs bz cz zs B k t ja jb p p2 us X m)
  (hx:H=X++[m]) (hJ:vs=if nxt bs p2%6=5 then H++[⟨6,ByteArray.empty,(H.length:Int)-1,0⟩] else H):zOS rp cap a bs bz cz zs B i p (adv bs p2) us vs:=by
 intro g c w hw hB hr hd
 obtain ⟨i0,hG,h9,hA,hK⟩:=zN zC7
 have HI:=zB hG
 have HZ:=zB (yH h9 (yH hA hK))
 have hg:=hr.lt
 have hZ:(i:Int)<(zs.length:Int):=by omega
 obtain ⟨h0,h1,h2,h3⟩:=hw i hi
 rw [ho] at h0 h1 h2 h3
 simp only [yV] at h0 h1 h2 h3
 have hW:H.length<=90001:=by rw [hx]; simp; omega
 have HR:=zB hr
 have HD:=zB hd
 have HC:=zB hc
 have h5:=zB hw
 have he:=zB hx
 have U:=zB hJ
 clear hG h9 hA hK hr hd hc hw ho hx hJ
 go_enter Tryz.func76,Tryz.ntmps76
 go_wp2_with fail
 have hj:=zB (show Below w.heap.size w ((w.alloc (.cells #[.int .i64 k,.string t,.int .i64 (ja:Int),.int .i64 (jb:Int)] 144)).alloc (.cells #[.int .i64 k,.string t,.int .i64 0,.int .i64 0] 144)) from (zC _ _).alloc (by simp) _)
 obtain ⟨W0,D⟩:∃ W0,W0=((w.alloc (.cells #[.int .i64 k,.string t,.int .i64 (ja:Int),.int .i64 (jb:Int)] 144)).alloc (.cells #[.int .i64 k,.string t,.int .i64 0,.int .i64 0] 144)):=⟨_,rfl⟩
 have hb:=zB (show ZB W0 w.heap.size ⟨k,t,(ja:Int),(jb:Int)⟩ by rw [D]; exact ⟨by simp [go_sem],by simp [go_sem],by simp [go_sem],by simp [go_sem],by simp [go_sem],by simp [go_sem]⟩)
 have s:=zB (show ZB W0 (w.heap.size+1) ⟨k,t,0,0⟩ by rw [D]; exact ⟨by simp [go_sem],by simp [go_sem],by simp [go_sem],by simp [go_sem],by simp [go_sem],by simp [go_sem]⟩)
 have ha:=zB (show K2 w W0 rp g by rw [D]; exact K2.ofB (zA hj))
 have z:=zB (show Zn W0 B g c us by rw [D]; exact (zA HR).below (zA hj))
 have hf:=zB (show RdS W0 rp a cap bs p by rw [D]; exact (zA HD).below (zA hj))
 have W:=zB (show zBC W0 bz 0 zs by rw [D]; exact (zA h5).below (zA hj) (by omega))
 have z0:w.heap.size+2=W0.heap.size:=by rw [D]; simp
 rw [<- D]
 obtain ⟨n0,n1,n2,n3,_,_⟩:=zA hb
 obtain ⟨m0,m1,m2,m3,f2,f3⟩:=zA s
 simp only at n0 n1 n2 n3 m0 m1 m2 m3
 clear HR HD h5 hj D h0 h1 h2 h3
 rcases zA HC with ⟨hk,hN,hM,M⟩ | ⟨hk,n,M⟩ | ⟨hk,p1,S,n,hn,M,hX⟩
 ·have HK:=zB hk
  have hp:=zB M
  subst hN
  subst hM
  clear hk M HC
  (with_reducible refine (zP (zA HK) 0 rfl _).mono ?_)
  rintro e w' ⟨rfl,h⟩
  subst h
  go_wp2_with fail
  (with_reducible refine (zP (zA HK) 0 rfl _).mono ?_)
  rintro e W2 ⟨rfl,h⟩
  have R:=zB (show ZB W2 (w.heap.size+1) m by rw [zA hp,h]; exact zA s)
  obtain ⟨g2,hq⟩:∃ g2,g2=g:=⟨_,rfl⟩
  obtain ⟨c2,hs⟩:∃ c2,c2=c:=⟨_,rfl⟩
  have d:=zB (show Zn W2 B g2 c2 X by rw [h,hq,hs]; exact zA z)
  have E:=zB (show RdS W2 rp a cap bs p2 by rw [h]; exact zA hf)
  have o:=zB (show K2 w W2 rp g by rw [h]; exact zA ha)
  have z2:w.heap.size+2<=W2.heap.size:=by rw [h]; omega
  have hI:g2=g\/w.heap.size+2<=g2:=yQ hq
  have PR:zEe w rp cap a bs B g (adv bs p2) vs=zEe w rp cap a bs B g (adv bs p2) vs:=rfl
  rw [<- hs]
  have h4:Value.slice (some ⟨g,0,none⟩) X.length c2=Value.slice (some ⟨g2,0,none⟩) X.length c2:=by rw [hq]
  rw [h4]
  clear hq hs h4 PR h s hb z hf W ha n0 n1 n2 n3 m0 m1 m2 m3 f2 f3
  obtain ⟨mk0,mk1,mk2,mk3,_,_⟩:=zA R
  have hy:=(zA d).lt
  go_wp2_with (at_builtin; refine yJ _ rfl (.tmp 48) (.tmp 50) 123 rfl B 144 i0 _ 4 40 Tryz.underlying123 (zA HI) (zA HZ).1 (zA HZ).2.1 (zA HZ).2.2 rfl (by decide) _ X.length (zL X) rfl ((zA d).below (zC _ _)) ⟨W2.heap.size,0,none⟩ 1 1 (zL [m]) rfl rfl (ZN W2 m) (zS _) ?b1 ?b2 ?b3 ?next)
  case b1=>unfold maxLen; omega
  case b2=>omega
  case b3=>simp; omega
  case next=>
   intro v4 w4 y x j V
   obtain ⟨g4,c4,rfl,C⟩:=Zn.snoc y (by simp [j]) (zA he)
   have I:=zB C
   have hC:=C.lt
   have q:World.grownBy _ w4 (some g2):=x
   have N:=zB (((zA E).below (zC W2 (.cells #[.int .i64 m.k,.string m.t,.int .i64 m.a,.int .i64 m.b] 144))).row q (by omega))
   have O:=zB (((zA o).trans (K2.ofB (zC W2 (.cells #[.int .i64 m.k,.string m.t,.int .i64 m.a,.int .i64 m.b] 144))) (yQ rfl)).row q (by omega))
   have f:g4=g\/w.heap.size<=g4:=by simp [Value.ownBlock] at V; omega
   clear y x q j C V mk0 mk1 mk2 mk3 R d E o
   go_wp2_with fail
   (with_reducible refine (zAj rp cap p2 a bs _ (zA N) hl).mono ?_)
   rintro e w5 ⟨⟨v,rfl,hv,HV⟩,H5,HP5⟩
   have z5:=(zA HP5).size
   have P:=zB ((zA I).kept (zA HP5) (by omega))
   have K:=zB ((zA O).trans (K2.of1 (g:=g) (zA HP5)) (yQ rfl))
   have z5':=(zA K).size
   clear I N O HP5
   by_cases h6:v%6=5
   ·have e6:((v:Int)%6==5)=true:=by simp; omega
    have hm:=zB (show vs=H++[⟨6,⟨#[]⟩,(H.length:Int)-1,0⟩] by rw [zA U,<- zA HV,yO h6]; rfl)
    clear h6 U
    go_wp2_with (at_builtin; refine yJ _ rfl (.tmp 56) (.tmp 61) 123 rfl B 144 i0 _ 4 40 Tryz.underlying123 (zA HI) (zA HZ).1 (zA HZ).2.1 (zA HZ).2.2 rfl (by decide) _ H.length (zL H) rfl ((zA P).below (zC _ _)) ⟨w5.heap.size,0,none⟩ 1 1 (zL [⟨6,⟨#[]⟩,(H.length:Int)-1,0⟩]) rfl rfl (ZN w5 ⟨6,⟨#[]⟩,(H.length:Int)-1,0⟩) (zS _) ?b1 ?b2 ?b3 ?next)
    case b1=>unfold maxLen; omega
    case b2=>omega
    case b3=>simp; omega
    case next=>
     intro v6 w6 Y Q J u
     obtain ⟨g6,c6,rfl,r⟩:=Zn.snoc Y (by simp [J]) (zA hm)
     have L:=zB r
     have q:World.grownBy _ w6 (some g4):=Q
     have F:=zB (((zA H5).below (zC w5 (.cells #[.int .i64 6,.string ⟨#[]⟩,.int .i64 ((H.length:Int)-1),.int .i64 0] 144))).row q (by omega))
     have A:=zB (((zA K).trans (K2.ofB (zC w5 _)) (yQ rfl)).row q (by omega))
     have G:g6=g\/w.heap.size<=g6:=by simp [Value.ownBlock] at u; omega
     clear Y Q q J r u
     go_wp2_with fail
     go_ret
     exact ⟨g6,c6,rfl,L,G,F,A⟩
   ·have e6:((v:Int)%6==5)=false:=by simp; omega
    obtain rfl:vs=H:=by rw [zA U,<- zA HV,yN h6]
    clear h6 U he
    go_wp2_with fail
    go_ret
    exact ⟨g4,c4,rfl,P,f,H5,K⟩
 ·have HK:=zB hk
  have hp:=zB M
  have hh:=zB n
  clear hk M HC n
  (with_reducible refine (zP (zA HK) 1 rfl _).mono ?_)
  rintro e w' ⟨rfl,h⟩
  subst h
  go_wp2_with fail
  have l:=(zA hh) g c _ (zA W) (by omega) (zA z) (zA hf)
  (with_reducible refine l.mono ?_)
  clear l
  rintro e w5 ⟨g2,c2,rfl,P,hg5,HD5,K⟩
  have z5:=(zA K).size
  have hP:=(zA P).lt
  have Z:=zB ((zA K).nod (zA hb) (by omega) (by omega))
  have T:=zB ((zA K).nod (zA s) (by omega) (by omega))
  have A:=zB ((zA ha).trans (zA K) (yQ rfl))
  clear n0 n1 n2 n3 m0 m1 m2 m3 f2 f3 hb s K ha z hf W
  obtain ⟨n0,n1,n2,n3,_,_⟩:=zA Z
  obtain ⟨m0,m1,m2,m3,f2,f3⟩:=zA T
  simp only at n0 n1 n2 n3 m0 m1 m2 m3
  go_wp2_with fail
  (with_reducible refine (zP (zA HK) 1 rfl _).mono ?_)
  rintro e W2 ⟨rfl,h⟩
  have R:=zB (show ZB W2 (w.heap.size+1) m by rw [zA hp,h]; exact (zA T).set2 _)
  have d:=zB (show Zn W2 B g2 c2 X by rw [h]; exact (zA P).set _ _ _ (by omega))
  have E:=zB (show RdS W2 rp a cap bs p2 by rw [h]; exact (zA HD5).set _ _ _ (by omega))
  have o:=zB (show K2 w W2 rp g by rw [h]; exact (zA A).set _ (by omega))
  have z2:w.heap.size+2<=W2.heap.size:=by rw [h]; simp [World.setCell]; omega
  have hI:g2=g\/w.heap.size+2<=g2:=by omega
  clear h T Z P HD5 A n0 n1 n2 n3 m0 m1 m2 m3 f2 f3
  obtain ⟨mk0,mk1,mk2,mk3,_,_⟩:=zA R
  have hy:=(zA d).lt
  go_wp2_with (at_builtin; refine yJ _ rfl (.tmp 48) (.tmp 50) 123 rfl B 144 i0 _ 4 40 Tryz.underlying123 (zA HI) (zA HZ).1 (zA HZ).2.1 (zA HZ).2.2 rfl (by decide) _ X.length (zL X) rfl ((zA d).below (zC _ _)) ⟨W2.heap.size,0,none⟩ 1 1 (zL [m]) rfl rfl (ZN W2 m) (zS _) ?b1 ?b2 ?b3 ?next)
  case b1=>unfold maxLen; omega
  case b2=>omega
  case b3=>simp; omega
  case next=>
   intro v4 w4 y x j V
   obtain ⟨g4,c4,rfl,C⟩:=Zn.snoc y (by simp [j]) (zA he)
   have I:=zB C
   have hC:=C.lt
   have q:World.grownBy _ w4 (some g2):=x
   have N:=zB (((zA E).below (zC W2 (.cells #[.int .i64 m.k,.string m.t,.int .i64 m.a,.int .i64 m.b] 144))).row q (by omega))
   have O:=zB (((zA o).trans (K2.ofB (zC W2 (.cells #[.int .i64 m.k,.string m.t,.int .i64 m.a,.int .i64 m.b] 144))) (yQ rfl)).row q (by omega))
   have f:g4=g\/w.heap.size<=g4:=by simp [Value.ownBlock] at V; omega
   clear y x q j C V mk0 mk1 mk2 mk3 R d E o
   go_wp2_with fail
   (with_reducible refine (zAj rp cap p2 a bs _ (zA N) hl).mono ?_)
   rintro e w5 ⟨⟨v,rfl,hv,HV⟩,H5,HP5⟩
   have z5:=(zA HP5).size
   have P:=zB ((zA I).kept (zA HP5) (by omega))
   have K:=zB ((zA O).trans (K2.of1 (g:=g) (zA HP5)) (yQ rfl))
   have z5':=(zA K).size
   clear I N O HP5
   by_cases h6:v%6=5
   ·have e6:((v:Int)%6==5)=true:=by simp; omega
    have hm:=zB (show vs=H++[⟨6,⟨#[]⟩,(H.length:Int)-1,0⟩] by rw [zA U,<- zA HV,yO h6]; rfl)
    clear h6 U
    go_wp2_with (at_builtin; refine yJ _ rfl (.tmp 56) (.tmp 61) 123 rfl B 144 i0 _ 4 40 Tryz.underlying123 (zA HI) (zA HZ).1 (zA HZ).2.1 (zA HZ).2.2 rfl (by decide) _ H.length (zL H) rfl ((zA P).below (zC _ _)) ⟨w5.heap.size,0,none⟩ 1 1 (zL [⟨6,⟨#[]⟩,(H.length:Int)-1,0⟩]) rfl rfl (ZN w5 ⟨6,⟨#[]⟩,(H.length:Int)-1,0⟩) (zS _) ?b1 ?b2 ?b3 ?next)
    case b1=>unfold maxLen; omega
    case b2=>omega
    case b3=>simp; omega
    case next=>
     intro v6 w6 Y Q J u
     obtain ⟨g6,c6,rfl,r⟩:=Zn.snoc Y (by simp [J]) (zA hm)
     have L:=zB r
     have q:World.grownBy _ w6 (some g4):=Q
     have F:=zB (((zA H5).below (zC w5 (.cells #[.int .i64 6,.string ⟨#[]⟩,.int .i64 ((H.length:Int)-1),.int .i64 0] 144))).row q (by omega))
     have A:=zB (((zA K).trans (K2.ofB (zC w5 _)) (yQ rfl)).row q (by omega))
     have G:g6=g\/w.heap.size<=g6:=by simp [Value.ownBlock] at u; omega
     clear Y Q q J r u
     go_wp2_with fail
     go_ret
     exact ⟨g6,c6,rfl,L,G,F,A⟩
   ·have e6:((v:Int)%6==5)=false:=by simp; omega
    obtain rfl:vs=H:=by rw [zA U,<- zA HV,yN h6]
    clear h6 U he
    go_wp2_with fail
    go_ret
    exact ⟨g4,c4,rfl,P,f,H5,K⟩
 ·have HK:=zB hk
  have hp:=zB M
  have hh:=zB n
  have ht:=zB hn
  subst M
  clear hp hk HC n hn
  (with_reducible refine (zP (zA HK) 2 rfl _).mono ?_)
  rintro e w' ⟨rfl,h⟩
  subst h
  go_wp2_with fail
  have l:=(zA hh) g c _ (zA W) (by omega) (zA z) (zA hf)
  (with_reducible refine l.mono ?_)
  clear l
  rintro e w5 ⟨g1,c1,rfl,P,hg5,HD5,K⟩
  have z5:=(zA K).size
  have hP:=(zA P).lt
  have Z:=zB ((zA K).nod (zA hb) (by omega) (by omega))
  have T:=zB ((zA K).nod (zA s) (by omega) (by omega))
  have hz:=zB (zHI (zA W) ((zA K).block bz (by omega) (by omega) (by omega)))
  have A:=zB ((zA ha).trans (zA K) (yQ rfl))
  clear n0 n1 n2 n3 m0 m1 m2 m3 f2 f3 hb s K ha z hf W
  obtain ⟨n0,n1,n2,n3,_,_⟩:=zA Z
  obtain ⟨m0,m1,m2,m3,f2,f3⟩:=zA T
  simp only at n0 n1 n2 n3 m0 m1 m2 m3
  go_wp2_with fail
  (with_reducible refine (zP (zA HK) 2 rfl _).mono ?_)
  rintro e W6 ⟨rfl,h⟩
  have h7:=zB (show ZB W6 (w.heap.size+1) ⟨k,t,(S.length:Int)-1,0⟩ by rw [h]; exact (zA T).set2 _)
  have hF:=zB (show ZB W6 w.heap.size ⟨k,t,(ja:Int),(jb:Int)⟩ by rw [h]; exact (zA Z).other _ (by omega))
  have L:=zB (show Zn W6 B g1 c1 S by rw [h]; exact (zA P).set _ _ _ (by omega))
  have F:=zB (show RdS W6 rp a cap bs p1 by rw [h]; exact (zA HD5).set _ _ _ (by omega))
  have hH:=zB (show K2 w W6 rp g by rw [h]; exact (zA A).set _ (by omega))
  have h8:=zB (show zBC W6 bz 0 zs by rw [h]; exact zHI (zA hz) (yZ _ _ _ _ (by show bz≠w.heap.size+1; omega)))
  have z6:w5.heap.size=W6.heap.size:=by rw [h]; simp [World.setCell]
  clear h T Z P HD5 A hz n0 n1 n2 n3 m0 m1 m2 m3 f2 f3
  obtain ⟨n0,n1,n2,n3,_,_⟩:=zA hF
  simp only at n0 n1 n2 n3
  go_wp2_with fail
  have l:=(zA ht) g1 c1 W6 (zA h8) (by omega) (zA L) (zA F)
  (with_reducible refine l.mono ?_)
  clear l
  rintro e w7 ⟨g2,c2,rfl,HR7,hg7,HD7,HK8⟩
  have z7:=(zA HK8).size
  have Ha:=(zA HR7).lt
  have hu:=zB ((zA HK8).nod (zA h7) (by omega) (by omega))
  have hD:=zB ((zA hH).trans (zA HK8) (by omega))
  obtain ⟨m0,m1,m2,m3,f2,f3⟩:=zA hu
  simp only at m0 m1 m2 m3
  obtain ⟨W2,h⟩:∃ W2,W2=w7.setCell ⟨w.heap.size+1,3,none⟩ (.int .i64 ((X.length:Int)-1)):=⟨_,rfl⟩
  have R:=zB (show ZB W2 (w.heap.size+1) ⟨k,t,(S.length:Int)-1,(X.length:Int)-1⟩ by rw [h]; exact (zA hu).set3 _)
  have d:=zB (show Zn W2 B g2 c2 X by rw [h]; exact (zA HR7).set _ _ _ (by omega))
  have E:=zB (show RdS W2 rp a cap bs p2 by rw [h]; exact (zA HD7).set _ _ _ (by omega))
  have o:=zB (show K2 w W2 rp g by rw [h]; exact (zA hD).set _ (by omega))
  have z2:w.heap.size+2<=W2.heap.size:=by rw [h]; simp [World.setCell]; omega
  have hI:g2=g\/w.heap.size+2<=g2:=by omega
  have hQ:w7.heap.size=W2.heap.size:=by rw [h]; simp [World.setCell]
  have hE:=zB h
  clear h hF h7 L F hH h8 HR7 HD7 HK8 hD n0 n1 n2 n3
  have hy:=(zA d).lt
  go_wp2_with (at_builtin; rw [<- zA hE]; refine yJ _ rfl (.tmp 48) (.tmp 50) 123 rfl B 144 i0 _ 4 40 Tryz.underlying123 (zA HI) (zA HZ).1 (zA HZ).2.1 (zA HZ).2.2 rfl (by decide) _ X.length (zL X) rfl ((zA d).below (zC _ _)) ⟨W2.heap.size,0,none⟩ 1 1 (zL [⟨k,t,(S.length:Int)-1,(X.length:Int)-1⟩]) rfl rfl (ZN W2 ⟨k,t,(S.length:Int)-1,(X.length:Int)-1⟩) (zS _) ?b1 ?b2 ?b3 ?next)
  case b1=>unfold maxLen; omega
  case b2=>omega
  case b3=>simp; omega
  case next=>
   intro v4 w4 y x j V
   obtain ⟨g4,c4,rfl,C⟩:=Zn.snoc y (by simp [j]) (zA he)
   have I:=zB C
   have hC:=C.lt
   have q:World.grownBy _ w4 (some g2):=x
   have N:=zB (((zA E).below (zC W2 (.cells #[.int .i64 k,.string t,.int .i64 ((S.length:Int)-1),.int .i64 ((X.length:Int)-1)] 144))).row q (by omega))
   have O:=zB (((zA o).trans (K2.ofB (zC W2 (.cells #[.int .i64 k,.string t,.int .i64 ((S.length:Int)-1),.int .i64 ((X.length:Int)-1)] 144))) (yQ rfl)).row q (by omega))
   have f:g4=g\/w.heap.size<=g4:=by simp [Value.ownBlock] at V; omega
   clear y x q j C V m0 m1 m2 m3 f2 f3 hu hE R d E o
   go_wp2_with fail
   (with_reducible refine (zAj rp cap p2 a bs _ (zA N) hl).mono ?_)
   rintro e w5 ⟨⟨v,rfl,hv,HV⟩,H5,HP5⟩
   have z5:=(zA HP5).size
   have P:=zB ((zA I).kept (zA HP5) (by omega))
   have K:=zB ((zA O).trans (K2.of1 (g:=g) (zA HP5)) (yQ rfl))
   have z5':=(zA K).size
   clear I N O HP5
   by_cases h6:v%6=5
   ·have e6:((v:Int)%6==5)=true:=by simp; omega
    have hm:=zB (show vs=H++[⟨6,⟨#[]⟩,(H.length:Int)-1,0⟩] by rw [zA U,<- zA HV,yO h6]; rfl)
    clear h6 U
    go_wp2_with (at_builtin; refine yJ _ rfl (.tmp 56) (.tmp 61) 123 rfl B 144 i0 _ 4 40 Tryz.underlying123 (zA HI) (zA HZ).1 (zA HZ).2.1 (zA HZ).2.2 rfl (by decide) _ H.length (zL H) rfl ((zA P).below (zC _ _)) ⟨w5.heap.size,0,none⟩ 1 1 (zL [⟨6,⟨#[]⟩,(H.length:Int)-1,0⟩]) rfl rfl (ZN w5 ⟨6,⟨#[]⟩,(H.length:Int)-1,0⟩) (zS _) ?b1 ?b2 ?b3 ?next)
    case b1=>unfold maxLen; omega
    case b2=>omega
    case b3=>simp; omega
    case next=>
     intro v6 w6 Y Q J u
     obtain ⟨g6,c6,rfl,r⟩:=Zn.snoc Y (by simp [J]) (zA hm)
     have L:=zB r
     have q:World.grownBy _ w6 (some g4):=Q
     have F:=zB (((zA H5).below (zC w5 (.cells #[.int .i64 6,.string ⟨#[]⟩,.int .i64 ((H.length:Int)-1),.int .i64 0] 144))).row q (by omega))
     have A:=zB (((zA K).trans (K2.ofB (zC w5 _)) (yQ rfl)).row q (by omega))
     have G:g6=g\/w.heap.size<=g6:=by simp [Value.ownBlock] at u; omega
     clear Y Q q J r u
     go_wp2_with fail
     go_ret
     exact ⟨g6,c6,rfl,L,G,F,A⟩
   ·have e6:((v:Int)%6==5)=false:=by simp; omega
    obtain rfl:vs=H:=by rw [zA U,<- zA HV,yN h6]
    clear h6 U he
    go_wp2_with fail
    go_ret
    exact ⟨g4,c4,rfl,P,f,H5,K⟩
open Go.Deep (BT)
theorem zLU (rp cap:Nat) (a:Option Addr) (bs:List UInt8) (hl:bs.length<=1200) (bz cz:Nat) (zs:List zD) (B:Nat) (c:bz<B) (U:rp<B) (v:bz≠rp) (C:zs.length<=20000):∀ (T:ET),Sh T->∀ (s:Nat) (us:List zD) (p:Nat),zFG zs T s->s+tsz T<=zs.length->us.length+2*tsz T<=80000 ->
  zOS rp cap a bs bz cz zs B (s+tsz T-1) p (moT bs T p).1 us (us++nd (moT bs T p).2 us.length):=by
 intro T
 induction T with
 | nil=>intro h; exact h.elim
 | node b o t l r ihl ihr=>
  rintro ⟨rfl,h⟩ s us p ⟨h1,h2,h3⟩ hz hlen
  simp only [tsz] at hz hlen
  have e:s+tsz (.node b 0 t l r)-1=s+tsz l+tsz r:=by simp only [tsz]; omega
  rw [e]
  have q:∀ ja jb:Nat,(if ze (b:Int)=0 then (0:Int) else ((s+tsz l:Nat):Int)-1)=(ja:Int)->(if ze (b:Int)=2 then ((s+tsz l+tsz r:Nat):Int)-1 else 0)=(jb:Int)->atN zs (s+tsz l+tsz r)=⟨(b:Int),t,(ja:Int),(jb:Int)⟩:=fun ja jb ha hb=>by
   rw [h3,tN,ha,hb]
  have z1:=zGx bs l p
  have z2:=zGx bs r (moT bs l p).1
  obtain ⟨L,hL⟩:∃ L,L=(moT bs l p).2:=⟨_,rfl⟩
  obtain ⟨p1,X⟩:∃ p1,p1=(moT bs l p).1:=⟨_,rfl⟩
  obtain ⟨R,hR⟩:∃ R,R=(moT bs r p1).2:=⟨_,rfl⟩
  obtain ⟨p2,J⟩:∃ p2,p2=(moT bs r p1).1:=⟨_,rfl⟩
  have em:moT bs (.node b 0 t l r) p=(adv bs p2,if nxt bs p2%6=5 then .node 6 0 ByteArray.empty (.node b 0 t L R) .nil else .node b 0 t L R):=by
   simp only [moT,<- X,<- hL,<- J,<- hR]
  rw [em]
  rw [<- X] at z2
  rw [<- hL] at z1
  rw [<- hR] at z2
  obtain ⟨K,x⟩:∃ K,K=us++nd L us.length:=⟨_,rfl⟩
  have V:K.length=us.length+tsz L:=by rw [x,ym,ZO]
  obtain ⟨k,y⟩:∃ k,k=K++nd R K.length:=⟨_,rfl⟩
  have j:k.length=us.length+tsz L+tsz R:=by rw [y,ym,ZO]; omega
  obtain ⟨H,Y⟩:∃ H,H=k++[tN b t L R us.length]:=⟨_,rfl⟩
  have f:H.length=us.length+tsz L+tsz R+1:=by rw [Y,ym,j]; rfl
  have D:us++nd (.node b 0 t L R) us.length=H:=by
   rw [Y,y,V,x]
   simp [nd]
  have A:us++nd (adv bs p2,if nxt bs p2%6=5 then .node 6 0 ByteArray.empty (.node b 0 t L R) .nil else .node b 0 t L R).2 us.length=if nxt bs p2%6=5 then H++[⟨6,ByteArray.empty,(H.length:Int)-1,0⟩] else H:=by
   simp only
   split
   ·have:us++nd (.node 6 0 ByteArray.empty (.node b 0 t L R) .nil) us.length=(us++nd (.node b 0 t L R) us.length)++[tN 6 ByteArray.empty (.node b 0 t L R) .nil us.length]:=by
     rw [yx]
     congr 1
     simp [nd]
    rw [this,D]
    have:tN 6 ByteArray.empty (.node b 0 t L R) .nil us.length=⟨6,ByteArray.empty,(H.length:Int)-1,0⟩:=by
     unfold tN
     rw [yN (by decide),yN (by decide),f]
     simp only [tsz]
     congr 1
     omega
    rw [this]
   ·exact D
  rcases h with ⟨hk,rfl,rfl⟩ | ⟨hk,Q,rfl⟩ | ⟨hk,Q,d⟩
  ·have F:L = .nil:=hL
   have E:p1=p:=X
   subst E
   have P:R = .nil:=hR
   have u:p2=p1:=J
   subst F P u
   have e1:K=us:=by rw [x]; simp [nd]
   have e2:k=us:=by rw [y,e1]; simp [nd]
   refine zLT rp cap a bs hl bz cz _ zs (b:Int) t 0 0 B p2 p2 us k H _ _ c U v (by simp only [tsz] at hz ⊢; omega) C (q 0 0 (by rw [yO hk]; rfl) (by rw [yN (by omega)]; rfl)) (by omega) (by simp only [tsz] at j; omega) (yQ ⟨hk,e2,rfl,?_⟩) Y A
   unfold tN
   rw [yO hk,yN (by omega)]
  ·have hp:=Q.pos
   have P:R = .nil:=hR
   have u:p2=p1:=J
   subst P u
   have e2:k=K:=by rw [y]; simp [nd]
   refine zLT rp cap a bs hl bz cz _ zs (b:Int) t (s+tsz l-1) 0 B p p2 us k H _ _ c U v (by simp only [tsz] at hz ⊢; omega) C (q _ 0 (by rw [yN (by omega)]; omega) (by rw [yN (by omega)]; rfl)) (by omega) (by simp only [tsz] at j; omega) (yR (yQ ⟨hk,?_,?_⟩)) Y A
   ·rw [e2,x,hL,X]
    exact ihl Q s us p h1 (by omega) (by omega)
   ·unfold tN
    rw [yN (by omega),yN (by omega),e2,V]
  ·have hp:=Q.pos
   have hq:=d.pos
   refine zLT rp cap a bs hl bz cz _ zs (b:Int) t (s+tsz l-1) (s+tsz l+tsz r-1) B p p2 us k H _ _ c U v (by omega) C (q _ _ (by rw [yN (by omega)]; omega) (by rw [yO hk]; omega)) (by omega) (by omega) (yR (yR ⟨hk,p1,K,?_,?_,?_,by omega⟩)) Y A
   ·rw [x,hL,X]
    exact ihl Q s us p h1 (by omega) (by omega)
   ·rw [y,hR,J]
    exact ihr d (s+tsz l) K p1 h2 (by omega) (by omega)
   ·unfold tN
    rw [yN (by omega),yO hk,V,j]
theorem zCN {row:Option Nat} (h:zBC w b off xs) (hg:w.grownBy w' row) (hb:b<w.heap.size) (H:row≠some b):zBC w' b off xs:=fun i hi=>by
 obtain ⟨h0,h1,h2,h3⟩:=h i hi
 have e:=fun o=>zE hg hb H o
 exact ⟨(e _).trans h0,(e _).trans h1,(e _).trans h2,(e _).trans h3⟩
end Go.Proofs.YtgbkgkdpdfdokaaGreatDoor
