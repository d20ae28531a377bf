import Derived.Test.YtfboipappaonhaaGreatF03
import Derived.Test.YtfboipappaonhaaGreatF11
import Derived.Test.YtfboipappaonhaaGreatF13
import Derived.Test.YtfboipappaonhaaGreatF16
namespace Go.Proofs.YtfboipappaonhaaGreat
set_option linter.unusedSimpArgs false
set_option linter.unusedVariables false
set_option maxHeartbeats 16000000
set_option maxRecDepth 100000
open Go.RowKit
structure LnP (bs:List UInt8) (ns:List OpR) (p0 n:Nat) (bh:Bool) (op p f:Nat):Prop where
 me:lnM bs bh op p<=f
 eq:lnF bs ns 3601 0 false 0 p0=lnF bs ns f n bh op p
 one:bh=true->1<=n
 nf:n+f<=3601
 opn:op<=n
theorem LnP.start (bs:List UInt8) (ns:List OpR) (p0:Nat) (hl:bs.length<=1200):LnP bs ns p0 0 false 0 p0 3601:=
 ⟨by unfold lnM; simp; omega,rfl,(fun h=>by cases h),by omega,Nat.le_refl _⟩
theorem LnP.len {bs:List UInt8} {ns:List OpR} {p0 n:Nat} {bh:Bool} {op p f:Nat} (h:LnP bs ns p0 n bh op p f):n<=3601/\op<=3601:=by have:=h.nf; have:=h.opn; omega
theorem LnP.fin {bs:List UInt8} {ns:List OpR} {p0 n:Nat} {bh:Bool} {op p f:Nat} (h:LnP bs ns p0 n bh op p f) (hc:¬ ((n<30/\p<bs.length)\/bh=false\/0<op)):lnF bs ns 3601 0 false 0 p0=(n,p):=by
 rw [h.eq]
 cases f with
 | zero=>rfl
 | succ f=>simp only [lnF]; rw [if_pos hc]
theorem zJO {bs:List UInt8} {p:Nat} (h:nxt bs p≠0):p<bs.length:=by
 by_cases hp:p<bs.length
 ·exact hp
 ·exact absurd (by simp [nxt,hp]) h
theorem LnP.go {bs:List UInt8} {ns:List OpR} {p0 n:Nat} {bh:Bool} {op p f:Nat} (h:LnP bs ns p0 n bh op p f) {n':Nat} {bh':Bool} {op' p':Nat}
  (hs:∀ f,lnF bs ns (f+1) n bh op p=lnF bs ns f n' bh' op' p') (hm:lnM bs bh' op' p'<lnM bs bh op p) (hn:n'<=n+1) (hop:op'<=n') (ho:bh'=true->1<=n') :
  ∃ f',f'<f/\LnP bs ns p0 n' bh' op' p' f':=by
 have h1:=h.me
 have h2:=h.nf
 cases f with
 | zero=>omega
 | succ f=>exact ⟨f,by omega,by omega,h.eq.trans (hs f),ho,by omega,hop⟩
theorem LnP.stepA {bs:List UInt8} {ns:List OpR} {p0 n:Nat} {op p f k:Nat} (h:LnP bs ns p0 n false op p f) (hk:k=nxt bs p) (h1:k%8=1) (hn:n<30) :
  ∃ f',f'<f/\LnP bs ns p0 (n+1) false (op+1) (adv bs p) f':=by
 subst hk
 have hp:p<bs.length:=zJO (by omega)
 have ha:adv bs p=p+1:=by simp [adv,hp]
 have ho:=h.opn
 refine h.go (fun f=>?_) ?_ (Nat.le_refl _) (by omega) (fun h=>by cases h)
 ·simp only [lnF]
  rw [if_neg (by simp),if_pos trivial,if_pos ⟨h1,hn⟩]
 ·unfold lnM; rw [ha]; simp; omega
theorem LnP.stepB {bs:List UInt8} {ns:List OpR} {p0 n:Nat} {op p f k:Nat} (h:LnP bs ns p0 n false op p f) (hk:k=nxt bs p) (h1:¬ (k%8=1/\n<30)) (h2:4<k%8) (h3:(atO ns (k/8%ns.length)).k=1) :
  ∃ f',f'<f/\LnP bs ns p0 (n+1) false op (adv bs p) f':=by
 subst hk
 have hp:p<bs.length:=zJO (by omega)
 have ha:adv bs p=p+1:=by simp [adv,hp]
 have ho:=h.opn
 refine h.go (fun f=>?_) ?_ (Nat.le_refl _) (by omega) (fun h=>by cases h)
 ·simp only [lnF]
  rw [if_neg (by simp),if_pos trivial,if_neg h1,if_pos ⟨h2,h3⟩]
 ·unfold lnM; rw [ha]; simp; omega
theorem LnP.stepC {bs:List UInt8} {ns:List OpR} {p0 n:Nat} {op p f k:Nat} (h:LnP bs ns p0 n false op p f) (hk:k=nxt bs p) (h1:¬ (k%8=1/\n<30)) (h2:¬ (4<k%8/\(atO ns (k/8%ns.length)).k=1)) :
  ∃ f',f'<f/\LnP bs ns p0 (n+1) true op (adv bs p) f':=by
 subst hk
 have ha:p<=adv bs p:=by unfold adv; split <;> omega
 have ho:=h.opn
 refine h.go (fun f=>?_) ?_ (Nat.le_refl _) (by omega) (fun _=>by omega)
 ·simp only [lnF]
  rw [if_neg (by simp),if_pos trivial,if_neg h1,if_neg h2]
 ·unfold lnM; simp; omega
theorem LnP.stepD {bs:List UInt8} {ns:List OpR} {p0 n:Nat} {op p f k:Nat} (h:LnP bs ns p0 n true op p f) (hk:k=nxt bs p) (h1:0<op) (h2:k%8=0\/30<=n\/bs.length<=adv bs p) :
  ∃ f',f'<f/\LnP bs ns p0 (n+1) true (op-1) (adv bs p) f':=by
 subst hk
 have ha:p<=adv bs p:=by unfold adv; split <;> omega
 have ho:=h.opn
 refine h.go (fun f=>?_) ?_ (Nat.le_refl _) (by omega) (fun _=>by omega)
 ·simp only [lnF]
  rw [if_neg (fun h=>h (Or.inr (Or.inr h1))),if_neg (by simp),if_pos ⟨h1,h2⟩]
 ·unfold lnM; simp; omega
theorem LnP.stepE {bs:List UInt8} {ns:List OpR} {p0 n:Nat} {op p f k:Nat} (h:LnP bs ns p0 n true op p f) (hk:k=nxt bs p) (hp:p<bs.length) (hn:n<30) (h2:¬ (0<op/\(k%8=0\/30<=n\/bs.length<=adv bs p))) :
  ((atO ns (k/8%ns.length)).k=3->∃ f',f'<f/\LnP bs ns p0 (n+1) true op (adv bs p) f') /\
  ((atO ns (k/8%ns.length)).k=2->∃ f',f'<f/\LnP bs ns p0 (n+1) false op (adv bs p) f') /\
  ((atO ns (k/8%ns.length)).k≠3->(atO ns (k/8%ns.length)).k≠2->¬ bs.length<=adv bs p->∃ f',f'<f/\LnP bs ns p0 n true op (adv bs p) f') /\
  ((atO ns (k/8%ns.length)).k≠3->(atO ns (k/8%ns.length)).k≠2->bs.length<=adv bs p->lnF bs ns 3601 0 false 0 p0=(n,adv bs p)):=by
 subst hk
 have ha:adv bs p=p+1:=by simp [adv,hp]
 have ho:=h.opn
 have h1:=h.one rfl
 have hcn:¬ ¬ ((n<30/\p<bs.length)\/(true:Bool)=false\/0<op):=fun h=>h (Or.inl ⟨hn,hp⟩)
 have hme:=h.me
 refine ⟨fun h3=>h.go (fun f=>?_) ?_ (Nat.le_refl _) (by omega) (fun _=>by omega),fun h3=>h.go (fun f=>?_) ?_ (Nat.le_refl _) (by omega) (fun h=>by cases h),fun h3 h4 h5=>h.go (fun f=>?_) ?_ (by omega) (by omega) (fun _=>h1),fun h3 h4 h5=>?_⟩
 ·simp only [lnF]
  rw [if_neg hcn,if_neg (by simp),if_neg h2,if_pos h3]
 ·unfold lnM; rw [ha]; simp; omega
 ·simp only [lnF]
  rw [if_neg hcn,if_neg (by simp),if_neg h2,if_neg (by rw [h3]; decide),if_pos h3]
 ·unfold lnM; rw [ha]; simp; omega
 ·simp only [lnF]
  rw [if_neg hcn,if_neg (by simp),if_neg h2,if_neg h3,if_neg h4,if_neg h5]
 ·unfold lnM; rw [ha]; simp; omega
 ·rw [h.eq]
  cases f with
  | zero=>unfold lnM at hme; simp at hme; omega
  | succ f=>
   simp only [lnF]
   rw [if_neg hcn,if_neg (by simp),if_neg h2,if_neg h3,if_neg h4,if_pos h5]
theorem zFp (b off cap:Nat) (xs:List OpR) (w:World) (hm:xs.length<=1048576) (hw:Ops w b off xs) (hs:ZV xs) (hB:b<w.heap.size) (hc:zM xs 0) :
  Calls Tryz.prog 53 #[.agg #[.slice (some ⟨b,off,none⟩) xs.length cap]] w fun e w'=>e = .returned (.int .i64 0)/\Below w.heap.size w w':=by
 refine (Zy b off cap xs w hm hw hs hB).mono ?_
 rintro e w' ⟨⟨c,rfl,h⟩,hb⟩
 exact ⟨by rw [zA0 h hc],hb⟩
theorem zFq (b off cap bn offn cn:Nat) (xs:List OpR) (ns:List zD) (w:World) (hm:xs.length<=1048576) (hmn:ns.length<=1048576) (hw:Ops w b off xs) (hsz:ZV xs) (hB:b<w.heap.size) (hwn:Zu w bn offn ns) (hsn:zAX ns) (hBn:bn<w.heap.size) (hc:zM xs 0) :
  Calls Tryz.prog 51 #[.agg #[.slice (some ⟨b,off,none⟩) xs.length cap],.agg #[.slice (some ⟨bn,offn,none⟩) ns.length cn]] w fun e w'=>zCw e (ZE ns/\zAt xs ns)/\Below w.heap.size w w':=by
 have HW:=zB hw
 have HWN:=zB hwn
 have HZ:=zB hsz
 have HZN:=zB hsn
 have HC:=zB hc
 clear hw hwn hsz hsn hc
 go_enter Tryz.func51,Tryz.ntmps51
 go_wp2_with fail
 refine (zFp b off cap xs _ hm ((zA HW).below ((zC _ _).alloc (by simp) _) hB) (zA HZ) (by simp; omega) (zA HC)).mono ?_
 rintro e w1 ⟨rfl,hb1⟩
 have bel1:Below w.heap.size w w1:=((zC _ _).alloc (by simp) _).trans (hb1.mono (by simp; omega))
 have c0:w1.cell? ⟨w.heap.size,0,none⟩=some (.slice (some ⟨b,off,none⟩) xs.length cap):=(hb1.cell (p:=⟨w.heap.size,0,none⟩) (by simp; omega)).trans (by simp [go_sem])
 have c1:w1.cell? ⟨w.heap.size+1,0,none⟩=some (.slice (some ⟨bn,offn,none⟩) ns.length cn):=(hb1.cell (p:=⟨w.heap.size+1,0,none⟩) (by simp)).trans (by simp [go_sem])
 have z1:w.heap.size+2<=w1.heap.size:=by have:=hb1.size; simp at this; omega
 clear hb1
 go_wp2_with fail
 refine (zEP bn offn cn ns _ hmn ((zA HWN).below bel1 hBn) (zA HZN) (by omega)).mono ?_
 rintro e w2 ⟨⟨v,rfl,hv⟩,hb2⟩
 have HV:=zB hv
 have bel2:=bel1.trans (hb2.mono bel1.size)
 have e0:=(hb2.cell (p:=⟨w.heap.size,0,none⟩) (show w.heap.size<w1.heap.size by omega)).trans c0
 have e1:=(hb2.cell (p:=⟨w.heap.size+1,0,none⟩) (show w.heap.size+1<w1.heap.size by omega)).trans c1
 have z2:w.heap.size+2<=w2.heap.size:=Nat.le_trans z1 hb2.size
 clear hb2 hv c0 c1 bel1 z1
 cases v
 ·go_wp2_with fail
  go_ret
  exact ⟨⟨_,rfl,zQ (fun h=>Bool.false_ne_true ((zA HV).2 h.1))⟩,bel2⟩
 have HO:=zB ((zA HV).1 rfl)
 clear HV
 have HCS:=zB (show Cs [(w.heap.size,0,.slice (some ⟨b,off,none⟩) xs.length cap),(w.heap.size+1,0,.slice (some ⟨bn,offn,none⟩) ns.length cn)] w2 from fun p hp=>by
  simp only [List.mem_cons,List.not_mem_nil,or_false] at hp
  rcases hp with rfl | rfl
  ·exact e0
  ·exact e1)
 go_wp2_with fail
 go_loopw [5] (fun iv wr=>∃ k:Nat,k<=ns.length/\iv = .int .i64 (k:Int)/\Hid (∀ i,i<k->ZF (atN ns i)->fnd xs (atN ns i).t ((atN ns i).k-2)≠none)/\Hid (Cs [(w.heap.size,0,.slice (some ⟨b,off,none⟩) xs.length cap),(w.heap.size+1,0,.slice (some ⟨bn,offn,none⟩) ns.length cn)] wr)/\Below w.heap.size w wr) (fun iv _=>ns.length-(intOf iv).toNat)
 case atStart=>exact ⟨0,Nat.zero_le _,rfl,zB (fun i hi=>absurd hi (Nat.not_lt_zero i)),HCS,bel2⟩
 case round=>
  clear HCS e0 e1 bel2 z2
  obtain ⟨k,hk,rfl,hkn,hcs,hbel⟩:=hrel
  have c0:=(zA hcs) (w.heap.size,0,.slice (some ⟨b,off,none⟩) xs.length cap) (by simp)
  have c1:=(zA hcs) (w.heap.size+1,0,.slice (some ⟨bn,offn,none⟩) ns.length cn) (by simp)
  simp only at c0 c1
  by_cases hlt:k<ns.length
  ·have hltI:(k:Int)<(ns.length:Int):=by omega
   obtain ⟨a0,a1,a2,a3⟩:=((zA HWN) k hlt).below hbel hBn
   have HC1:=zB ((zA hcs).below (zC wr (.cells #[.int .i64 (atN ns k).k,.string (atN ns k).t,.int .i64 (atN ns k).a,.int .i64 (atN ns k).b] 81)))
   have bel1:Below w.heap.size w (wr.alloc (.cells #[.int .i64 (atN ns k).k,.string (atN ns k).t,.int .i64 (atN ns k).a,.int .i64 (atN ns k).b] 81)):=hbel.alloc hbel.size _
   by_cases ho:ZF (atN ns k)
   ·have HD:=zB (show true=decide (3<=(atN ns k).k/\(atN ns k).k<=5) by rw [eq_comm,decide_eq_true_iff]; exact ho)
    have h3:=ho.1
    have h5:=ho.2
    have HOP:=zB ho
    clear ho
    go_wp2_with fail
    refine (zAP (atN ns k) _ true (zA HD)).mono ?_
    rintro e w3 ⟨rfl,hb3⟩
    have HC3:=zB ((zA HC1).below hb3)
    have bel3:=bel1.trans (hb3.mono bel1.size)
    have n0:w3.cell? ⟨wr.heap.size,0,none⟩=some (.int .i64 (atN ns k).k):=(hb3.cell (p:=⟨wr.heap.size,0,none⟩) (by simp)).trans (by simp [go_sem])
    have n1:w3.cell? ⟨wr.heap.size,1,none⟩=some (.string (atN ns k).t):=(hb3.cell (p:=⟨wr.heap.size,1,none⟩) (by simp)).trans (by simp [go_sem])
    have d0:=(zA HC3) (w.heap.size,0,.slice (some ⟨b,off,none⟩) xs.length cap) (by simp)
    simp only at d0
    have hwr:IntKind.i64.wrap ((atN ns k).k-2)=(atN ns k).k-2:=by rw [IntKind.wrap_i64]; omega
    clear hb3 c0 c1
    cases hf:fnd xs (atN ns k).t ((atN ns k).k-2) with
    | none=>
     have HF:=zB hf
     have HFI:=zB (show fI (fnd xs (atN ns k).t ((atN ns k).k-2)) = -1 by rw [hf]; rfl)
     clear hf
     go_wp2_with fail
     refine (zEI b off cap xs (atN ns k).t ((atN ns k).k-2) _ hm ((zA HW).below bel3 hB) (Nat.lt_of_lt_of_le hB bel3.size)).mono ?_
     rw [zA HFI]
     rintro e w4 ⟨rfl,hb4⟩
     go_wp2_with fail
     go_ret
     exact ⟨⟨_,rfl,zQ (fun h=>h.2 k hlt (zA HOP) (zA HF))⟩,bel3.trans (hb4.mono bel3.size)⟩
    | some j=>
     have HF:=zB hf
     have HFI:=zB (show fI (fnd xs (atN ns k).t ((atN ns k).k-2))=(j:Int) by rw [hf]; rfl)
     clear hf
     go_wp2_with fail
     refine (zEI b off cap xs (atN ns k).t ((atN ns k).k-2) _ hm ((zA HW).below bel3 hB) (Nat.lt_of_lt_of_le hB bel3.size)).mono ?_
     rw [zA HFI]
     rintro e w4 ⟨rfl,hb4⟩
     have hj0:¬ (j:Int)<0:=by omega
     go_wp2_with fail
     refine ⟨⟨k+1,by omega,by go_num,zB (fun i hi hop=>?_),zB ((zA HC3).below hb4),bel3.trans (hb4.mono bel3.size)⟩,by simp [intOf]; omega⟩
     by_cases e:i=k
     ·subst e; rw [zA HF]; simp
     ·exact (zA hkn) i (by omega) hop
   ·have HD:=zB (show false=decide (3<=(atN ns k).k/\(atN ns k).k<=5) by rw [eq_comm,decide_eq_false_iff_not]; exact ho)
    have HOP:=zB ho
    clear ho
    go_wp2_with fail
    refine (zAP (atN ns k) _ false (zA HD)).mono ?_
    rintro e w3 ⟨rfl,hb3⟩
    go_wp2_with fail
    refine ⟨⟨k+1,by omega,by go_num,zB (fun i hi hop=>?_),zB ((zA HC1).below hb3),bel1.trans (hb3.mono bel1.size)⟩,by simp [intOf]; omega⟩
    by_cases e:i=k
    ·subst e; exact absurd hop (zA HOP)
    ·exact (zA hkn) i (by omega) hop
  ·have hkx:k=ns.length:=by omega
   go_wp2_with fail
   go_ret
   exact ⟨⟨_,rfl,Zx ⟨zA HO,fun i hi hop=>(zA hkn) i (by omega) hop⟩⟩,hbel⟩
def ZC (w:World) (N:Nat) (o:zD):Prop:=w.cell? ⟨N,0,none⟩=some (.int .i64 o.k)/\w.cell? ⟨N,1,none⟩=some (.string o.t)/\w.cell? ⟨N,2,none⟩=some (.int .i64 o.a)/\w.cell? ⟨N,3,none⟩=some (.int .i64 o.b)/\w.frozen? ⟨N,2,none⟩=false/\w.frozen? ⟨N,3,none⟩=false
theorem ZC.grown {w w':World} {N:Nat} {o:zD} {row:Option Nat} (h:ZC w N o) (hg:w.grownBy w' row) (hne:row≠some N):ZC w' N o:=by
 obtain ⟨h0,h1,h2,h3,h4,h5⟩:=h
 have hlt:N<w.heap.size:=block_lt_of_cell h0
 have c:=zH hg hlt hne
 have f:∀ o,w'.frozen? ⟨N,o,none⟩=w.frozen? ⟨N,o,none⟩:=fun o=>World.frozen?_of_block (w:=w) (hg.block N hlt (fun e=>hne e.symm))
 exact ⟨(c 0).trans h0,(c 1).trans h1,(c 2).trans h2,(c 3).trans h3,(f 2).trans h4,(f 3).trans h5⟩
theorem ZC.below {w w':World} {N:Nat} {o:zD} (h:ZC w N o) (hb:Below w.heap.size w w'):ZC w' N o:=h.grown (zZ hb none) (by simp)
theorem ZC.set2 {w:World} {N:Nat} {o:zD} (h:ZC w N o) (v:Int):ZC (w.setCell ⟨N,2,none⟩ (.int .i64 v)) N ⟨o.k,o.t,v,o.b⟩:=by
 obtain ⟨h0,h1,h2,h3,h4,h5⟩:=h
 have c:∀ j,j≠2->(w.setCell ⟨N,2,none⟩ (.int .i64 v)).cell? ⟨N,j,none⟩=w.cell? ⟨N,j,none⟩:=fun j hj=>World.cell?_setCell_other _ _ _ _ (fun x=>hj (by injection x with _ x; exact x.symm))
 exact ⟨(c 0 (by omega)).trans h0,(c 1 (by omega)).trans h1,World.cell?_setCell_same _ _ _ h2,(c 3 (by omega)).trans h3,(World.frozen?_setCell _ _ _ _).trans h4,(World.frozen?_setCell _ _ _ _).trans h5⟩
theorem ZC.set3 {w:World} {N:Nat} {o:zD} (h:ZC w N o) (v:Int):ZC (w.setCell ⟨N,3,none⟩ (.int .i64 v)) N ⟨o.k,o.t,o.a,v⟩:=by
 obtain ⟨h0,h1,h2,h3,h4,h5⟩:=h
 have c:∀ j,j≠3->(w.setCell ⟨N,3,none⟩ (.int .i64 v)).cell? ⟨N,j,none⟩=w.cell? ⟨N,j,none⟩:=fun j hj=>World.cell?_setCell_other _ _ _ _ (fun x=>hj (by injection x with _ x; exact x.symm))
 exact ⟨(c 0 (by omega)).trans h0,(c 1 (by omega)).trans h1,(c 2 (by omega)).trans h2,World.cell?_setCell_same _ _ _ h3,(World.frozen?_setCell _ _ _ _).trans h4,(World.frozen?_setCell _ _ _ _).trans h5⟩
theorem ZC.other {w:World} {N g j:Nat} {o:zD} (h:ZC w N o) (v:Value) (hne:g≠N):ZC (w.setCell ⟨g,j,none⟩ v) N o:=
 h.grown (row:=some g) ⟨rfl,rfl,rfl,by simp [World.setCell],fun i _ hi=>Below.heap_setCell _ _ _ _ (fun e=>hi (by rw [e]))⟩ (by simpa using hne)
def zD0 (w:World) (N:Nat) (p:OpR):Prop:=w.cell? ⟨N,0,none⟩=some (.string p.s)/\w.cell? ⟨N,1,none⟩=some (.int .i64 p.k)/\w.cell? ⟨N,2,none⟩=some (.int .i64 p.l)/\w.cell? ⟨N,3,none⟩=some (.int .i64 p.sd)
theorem zD0.grown {w w':World} {N:Nat} {o:OpR} {row:Option Nat} (h:zD0 w N o) (hg:w.grownBy w' row) (hne:row≠some N):zD0 w' N o:=by
 obtain ⟨h0,h1,h2,h3⟩:=h
 have hlt:N<w.heap.size:=block_lt_of_cell h0
 have c:=zH hg hlt hne
 exact ⟨(c 0).trans h0,(c 1).trans h1,(c 2).trans h2,(c 3).trans h3⟩
theorem zD0.below {w w':World} {N:Nat} {o:OpR} (h:zD0 w N o) (hb:Below w.heap.size w w'):zD0 w' N o:=h.grown (zZ hb none) (by simp)
theorem zD0.other {w:World} {N g j:Nat} {o:OpR} (h:zD0 w N o) (v:Value) (hne:g≠N):zD0 (w.setCell ⟨g,j,none⟩ v) N o:=
 h.grown (row:=some g) ⟨rfl,rfl,rfl,by simp [World.setCell],fun i _ hi=>Below.heap_setCell _ _ _ _ (fun e=>hi (by rw [e]))⟩ (by simpa using hne)
theorem zC9 {w w':World} {b off B:Nat} {xs:List OpR} {row:Option Nat} (h:Ops w b off xs) (hg:w.grownBy w' row) (hb:b<B) (hB:B<=w.heap.size) (hr:∀ k,row=some k->B<=k):Ops w' b off xs:=fun i hi=>by
 obtain ⟨a0,a1,a2,a3⟩:=h i hi
 have c:=zH hg (b:=b) (by omega) (fun e=>by have:=hr _ e; omega)
 exact ⟨(c _).trans a0,(c _).trans a1,(c _).trans a2,(c _).trans a3⟩
theorem zLE {w w':World} {b off B:Nat} {xs:List zD} {row:Option Nat} (h:Zu w b off xs) (hg:w.grownBy w' row) (hb:b<B) (hB:B<=w.heap.size) (hr:∀ k,row=some k->B<=k):Zu w' b off xs:=fun i hi=>by
 obtain ⟨a0,a1,a2,a3⟩:=h i hi
 have c:=zH hg (b:=b) (by omega) (fun e=>by have:=hr _ e; omega)
 exact ⟨(c _).trans a0,(c _).trans a1,(c _).trans a2,(c _).trans a3⟩
theorem zx.base {w:World} {B:Nat} {u:Value} {us:List zD} (h:zx w B u us):∀ g,u.ownBlock=some g->B<=g:=fun g hg=>(World.ownsRow.lt h g hg).1
theorem zx.other {w:World} {B g j:Nat} {u:Value} {us:List zD} (h:zx w B u us) (v:Value) (hne:u.ownBlock≠some g):zx (w.setCell ⟨g,j,none⟩ v) B u us:=zEw h g j v hne
theorem zIR (xs:List zD):∀ m i,i<=m->∃ r,er xs m=er xs i++r
 | 0,i,h=>by
  obtain rfl:i=0:=by omega
  exact ⟨[],rfl⟩
 | m+1,i,h=>by
  by_cases e:i=m+1
  ·subst e; exact ⟨[],by simp⟩
  ·obtain ⟨r,hr⟩:=zIR xs m i (by omega)
   by_cases h6:(atN xs m).k=6
   ·rw [zGp h6]; exact ⟨r,hr⟩
   ·rw [zCv h6,hr]; exact ⟨r++[erN xs (atN xs m)],by simp⟩
theorem zN4 {xs:List zD} {m i:Nat} (hi:i<m) (h6:(atN xs i).k≠6):cnt xs i<(er xs m).length/\atN (er xs m) (cnt xs i)=erN xs (atN xs i):=by
 obtain ⟨r,hr⟩:=zIR xs m (i+1) hi
 have hl:=zBp xs i
 rw [zCv h6] at hr
 rw [hr]
 refine ⟨by simp [hl],?_⟩
 unfold atN
 simp [List.getD,List.getElem?_append,hl]
theorem zFr {xs:List zD} {i:Nat} (h6:(atN xs i).k≠6):cnt xs (i+1)=cnt xs i+1:=by
 show (if (atN xs i).k=6 then cnt xs i else cnt xs i+1)=_
 rw [if_neg h6]
theorem zMZ {xs:List zD} {i:Nat} (h6:(atN xs i).k=6):cnt xs (i+1)=cnt xs i:=by
 show (if (atN xs i).k=6 then cnt xs i else cnt xs i+1)=_
 rw [if_pos h6]
end Go.Proofs.YtfboipappaonhaaGreat
