import Derived.Deep.AppendLies
import Derived.Deep.RegionHeldLaw
import Derived.Test.YtfboipappaonhaaGreatF02
import Derived.Test.YtfboipappaonhaaGreatF12
import Derived.Test.YtfboipappaonhaaGreatF29
namespace Go.Proofs.YtfboipappaonhaaGreat
set_option maxHeartbeats 16000000
set_option maxRecDepth 100000
open Go.RowKit Go.Maps
theorem zHZ {l:Int} (h1:0<=l) (h2:l<=1000):(Lit.int .i64 l).wf=true:=by
 exact WalkArith.wf_i64 (by omega)
theorem zFO {o:OpR} (h:o.ok=true):(Lit.int .i64 o.l).wf=true:=by
 obtain ⟨⟨h1,h2⟩,_⟩:=zBe _ _ _ _ h
 exact zHZ (by omega) h2
theorem zFv {o:OpR} (h:o.ok=true):(Lit.int .i64 o.k).wf=true:=by
 obtain ⟨_,h⟩:=zBe _ _ _ _ h
 exact zHZ (by omega) (by omega)
theorem zQO {o:OpR} (h:o.ok=true):(Lit.int .i64 (srt o.k o.sd)).wf=true:=by
 obtain ⟨_,h⟩:=zBe _ _ _ _ h
 have:0<=srt o.k o.sd/\srt o.k o.sd<=1000:=by
  unfold srt
  split
  ·omega
  ·split <;> omega
 exact zHZ this.1 this.2
theorem zLO {xs:List OpR} {k:Nat} {c:Int} (hn:zGv 4 xs k) {j0:Nat} (h0:j0<k) (hl:(atO xs j0).l=(atO xs k).l) (hc:srt (atO xs j0).k (atO xs j0).sd=c) :
  (c≠srt (atO xs k).k (atO xs k).sd)↔∃ j,j<k/\cl 4 (atO xs k) (atO xs j):=by
 have hcl:∀ a b:OpR,cl 4 a b↔(a.l=b.l/\srt a.k a.sd≠srt b.k b.sd):=fun a b=>by simp [cl]
 constructor
 ·intro h
  exact ⟨j0,h0,(hcl _ _).2 ⟨hl.symm,by rw [hc]; exact h.symm⟩⟩
 ·rintro ⟨j,hj,hh⟩
  obtain ⟨e1,e2⟩:=(hcl _ _).1 hh
  rw [<- hc]
  intro e
  apply e2
  rw [<- e]
  by_cases e3:j<j0
  ·have:=hn j0 j e3 h0
   rw [hcl] at this
   exact Classical.byContradiction fun x=>this ⟨by rw [hl,e1],x⟩
  ·by_cases e4:j0<j
   ·have:=hn j j0 e4 hj
    rw [hcl] at this
    exact Classical.byContradiction fun x=>this ⟨by rw [hl,e1],fun y=>x y.symm⟩
   ·have e5:j=j0:=by omega
    rw [e5]
theorem zJY (bo bs k:Nat) (xs:List OpR) (w:World) (hi:Idx w bo bs xs k) (hok:zBF xs (k+1)) (hn:zGv 4 xs k) :
  Calls Tryz.prog 76 #[.agg #[.map (some bo),.map (some bs)],.agg #[.string (atO xs k).s,.int .i64 (atO xs k).k,.int .i64 (atO xs k).l,.int .i64 (atO xs k).sd]] w fun e w'=>(∃ v,e = .returned (.bool v)/\(v=true↔∃ j,j<k/\cl 4 (atO xs k) (atO xs j)))/\Below w.heap.size w w':=by
 obtain ⟨_,⟨D,hown,hD⟩,_⟩:=hi
 have hok1:=hok k (by omega)
 obtain ⟨h1,h2⟩:=hD _ (zFO hok1)
 have hkl:=zO7 (zFO hok1)
 have hso:=zB (show okB (atO xs k).s (atO xs k).k (atO xs k).l (atO xs k).sd=true from hok1)
 cases hh:Maps.has D (.int .i64 (atO xs k).l)
 ·have hno:=zB (show ¬ ∃ j,j<k/\cl 4 (atO xs k) (atO xs j) from fun ⟨j,hj,hc⟩=>by
   simp only [cl] at hc
   have:=h1.2 ⟨j,hj,hc.1.symm⟩
   rw [hh] at this
   cases this)
  have HK:=zB hkl
  clear h1 h2 hD hok hok1 hkl hn
  go_enter Tryz.func76,Tryz.ntmps76
  go_wp2_with (first | (at_lookup; refine wpList_lookup_own_ok_int _ rfl _ _ 67 rfl 3 3 .i64 zNn Tryz.underlying67 Tryz.underlying3 (zLw _) bs k D rfl ((hown.alloc _).alloc _) _ _ rfl (zA HK) ?_; intro c hat hwc; have HAT:=zB hat; clear hat))
  go_ret
  refine ⟨⟨_,rfl,?_⟩,(zC _ _).alloc (by simp) _⟩
  simp [zA hno]
 ·have hyes:=zB (show ∀ c:Int,D.atKey (.int .i64 (atO xs k).l) (.lit (.int .i64 0)) = .lit (.int .i64 c)->((c≠srt (atO xs k).k (atO xs k).sd)↔∃ j,j<k/\cl 4 (atO xs k) (atO xs j)) from fun c hc=>by
   obtain ⟨j0,hj0,hl0,hs0⟩:=h2 c hc hh
   exact zLO hn hj0 hl0 hs0)
  have HK:=zB hkl
  clear h1 h2 hD hok hok1 hkl hn
  go_enter Tryz.func76,Tryz.ntmps76
  go_wp2_with (first | (at_lookup; refine wpList_lookup_own_ok_int _ rfl _ _ 67 rfl 3 3 .i64 zNn Tryz.underlying67 Tryz.underlying3 (zLw _) bs k D rfl ((hown.alloc _).alloc _) _ _ rfl (zA HK) ?_; intro c hat hwc; have HAT:=zB hat; clear hat) | (go_at_call 124; refine (zGu _ _ _ _ _ (zA hso)).mono ?_; rintro e w1 ⟨rfl,hb1⟩))
  go_ret
  refine ⟨⟨_,rfl,?_⟩,((zC _ _).alloc (by simp) _).trans (hb1.mono (by simp; omega))⟩
  have:=(zA hyes) c (zA HAT)
  rw [<- this]
  simp
structure zAJ (w w':World) (bo bs:Nat):Prop where
 os:w'.os=w.os
 tape:w'.tape=w.tape
 output:w'.output=w.output
 size:w.heap.size<=w'.heap.size
 block:∀ i,i<w.heap.size->i≠bo->i≠bs->w'.heap[i]?=w.heap[i]?
theorem zAJ.trans {w w1 w2:World} {bo bs:Nat} (h:zAJ w w1 bo bs) (h':zAJ w1 w2 bo bs):zAJ w w2 bo bs:=
 ⟨h'.os.trans h.os,h'.tape.trans h.tape,h'.output.trans h.output,Nat.le_trans h.size h'.size,fun i hi a b=>(h'.block i (Nat.lt_of_lt_of_le hi h.size) a b).trans (h.block i hi a b)⟩
theorem zAJ.of_below {w w':World} {bo bs:Nat} (h:Below w.heap.size w w'):zAJ w w' bo bs:=⟨h.os,h.tape,h.output,h.size,fun i hi _ _=>h.block i hi⟩
theorem zAJ.of_grown1 {w w':World} {bo bs:Nat} (h:w.grownBy w' (some bo)):zAJ w w' bo bs:=⟨h.os,h.tape,h.output,h.size,fun i hi a _=>h.block i hi (fun e=>a (Option.some.inj e))⟩
theorem zAJ.of_grown2 {w w':World} {bo bs:Nat} (h:w.grownBy w' (some bs)):zAJ w w' bo bs:=⟨h.os,h.tape,h.output,h.size,fun i hi _ b=>h.block i hi (fun e=>b (Option.some.inj e))⟩
theorem zAJ.cell {w w':World} {bo bs:Nat} (h:zAJ w w' bo bs) {b:Nat} (hb:b<w.heap.size) (h1:b≠bo) (h2:b≠bs) (o:Nat):w'.cell? ⟨b,o,none⟩=w.cell? ⟨b,o,none⟩:=
 World.cell?_of_block (w:=w) (h.block b hb h1 h2)
theorem zAJ.below {w w':World} {bo bs B:Nat} (h:zAJ w w' bo bs) (hB:B<=w.heap.size) (h1:B<=bo) (h2:B<=bs):Below B w w':=
 ⟨h.os,h.tape,h.output,h.size,fun i hi=>h.block i (by omega) (by omega) (by omega)⟩
theorem zOM {xs:List OpR} {k:Nat} {D:DataW Unit} (hm:IsMap D) (hs:(atO xs k).s.size<=maxLen) (hk:(Lit.int .i64 (atO xs k).k).wf=true)
  (h:∀ (s:ByteArray) (kd:Int),s.size<=maxLen->(Lit.int .i64 kd).wf=true->(Maps.has D (klO s kd)=true↔∃ j,j<k/\(atO xs j).s=s/\(atO xs j).k=kd)/\(Maps.has D (klO s kd)=true->∃ j,j<k/\(atO xs j).s=s/\(atO xs j).k=kd/\D.atKey (klO s kd) (zAa ⟨#[]⟩ 0 0 0)=zAa (atO xs j).s (atO xs j).k (atO xs j).l (atO xs j).sd)) :
  ∀ (s:ByteArray) (kd:Int),s.size<=maxLen->(Lit.int .i64 kd).wf=true->(Maps.has (D.put (klO (atO xs k).s (atO xs k).k) (zAa (atO xs k).s (atO xs k).k (atO xs k).l (atO xs k).sd)) (klO s kd)=true↔∃ j,j<k+1/\(atO xs j).s=s/\(atO xs j).k=kd)/\(Maps.has (D.put (klO (atO xs k).s (atO xs k).k) (zAa (atO xs k).s (atO xs k).k (atO xs k).l (atO xs k).sd)) (klO s kd)=true->∃ j,j<k+1/\(atO xs j).s=s/\(atO xs j).k=kd/\(D.put (klO (atO xs k).s (atO xs k).k) (zAa (atO xs k).s (atO xs k).k (atO xs k).l (atO xs k).sd)).atKey (klO s kd) (zAa ⟨#[]⟩ 0 0 0)=zAa (atO xs j).s (atO xs j).k (atO xs j).l (atO xs j).sd):=by
 intro s kd hs' hk'
 by_cases e:klO s kd=klO (atO xs k).s (atO xs k).k
 ·obtain ⟨e1,e2⟩:=zJE hs' hs hk' hk e
  rw [e,has_put_same hm (zHt.key (zJD hs hk)),atKey_put_same hm (zHt.key (zJD hs hk))]
  exact ⟨⟨fun _=>⟨k,by omega,e1.symm,e2.symm⟩,fun _=>rfl⟩,fun _=>⟨k,by omega,e1.symm,e2.symm,rfl⟩⟩
 ·rw [has_put_other e,atKey_put_other e]
  obtain ⟨h1,h2⟩:=h s kd hs' hk'
  refine ⟨?_,fun hh=>?_⟩
  ·rw [h1]
   constructor
   ·rintro ⟨j,a,b,c⟩; exact ⟨j,by omega,b,c⟩
   ·rintro ⟨j,a,b,c⟩
    by_cases ej:j=k
    ·subst ej; exact absurd (by rw [b,c]) e
    ·exact ⟨j,by omega,b,c⟩
  ·obtain ⟨j,a,b,c,d⟩:=h2 hh
   exact ⟨j,by omega,b,c,d⟩
theorem zMj {xs:List OpR} {k:Nat} {D:DataW Unit} (hm:IsMap D) (hl:(Lit.int .i64 (atO xs k).l).wf=true)
  (h:∀ l:Int,(Lit.int .i64 l).wf=true->(Maps.has D (.int .i64 l)=true↔∃ j,j<k/\(atO xs j).l=l) /\
   ∀ c:Int,D.atKey (.int .i64 l) (.lit (.int .i64 0)) = .lit (.int .i64 c)->Maps.has D (.int .i64 l)=true->∃ j,j<k/\(atO xs j).l=l/\srt (atO xs j).k (atO xs j).sd=c) :
  ∀ l:Int,(Lit.int .i64 l).wf=true->(Maps.has (D.put (.int .i64 (atO xs k).l) (.lit (.int .i64 (srt (atO xs k).k (atO xs k).sd)))) (.int .i64 l)=true↔∃ j,j<k+1/\(atO xs j).l=l) /\
   ∀ c:Int,(D.put (.int .i64 (atO xs k).l) (.lit (.int .i64 (srt (atO xs k).k (atO xs k).sd)))).atKey (.int .i64 l) (.lit (.int .i64 0)) = .lit (.int .i64 c)->Maps.has (D.put (.int .i64 (atO xs k).l) (.lit (.int .i64 (srt (atO xs k).k (atO xs k).sd)))) (.int .i64 l)=true->∃ j,j<k+1/\(atO xs j).l=l/\srt (atO xs j).k (atO xs j).sd=c:=by
 intro l hl'
 by_cases e:l=(atO xs k).l
 ·subst e
  rw [has_put_same hm (zNn.key (zO7 hl)),atKey_put_same hm (zNn.key (zO7 hl))]
  refine ⟨⟨fun _=>⟨k,by omega,rfl⟩,fun _=>rfl⟩,fun c hc _=>⟨k,by omega,rfl,by simpa using hc⟩⟩
 ·have e':Lit.int .i64 l≠Lit.int .i64 (atO xs k).l:=fun x=>e (by simpa using x)
  rw [has_put_other e',atKey_put_other e']
  obtain ⟨h1,h2⟩:=h l hl'
  refine ⟨?_,fun c hc hh=>?_⟩
  ·rw [h1]
   constructor
   ·rintro ⟨j,a,b⟩; exact ⟨j,by omega,b⟩
   ·rintro ⟨j,a,b⟩
    by_cases ej:j=k
    ·subst ej; exact absurd b.symm e
    ·exact ⟨j,by omega,b⟩
  ·obtain ⟨j,a,b,d⟩:=h2 c hc hh
   exact ⟨j,by omega,b,d⟩
def zHa (w wr:World) (bo bs:Nat) (o:OpR):Prop:=
 (wr.cell? ⟨w.heap.size,0,none⟩=some (.map (some bo))/\wr.cell? ⟨w.heap.size,1,none⟩=some (.map (some bs))) /\
 wr.cell? ⟨w.heap.size+1,0,none⟩=some (.string o.s)/\wr.cell? ⟨w.heap.size+1,1,none⟩=some (.int .i64 o.k)/\wr.cell? ⟨w.heap.size+1,2,none⟩=some (.int .i64 o.l)/\wr.cell? ⟨w.heap.size+1,3,none⟩=some (.int .i64 o.sd)
theorem zHa.step {w wr wr':World} {bo bs:Nat} {o:OpR} (h:zHa w wr bo bs o) (hk:zAJ wr wr' bo bs) (hz:w.heap.size+1<wr.heap.size) (h1:bo<w.heap.size) (h2:bs<w.heap.size):zHa w wr' bo bs o:=by
 obtain ⟨⟨a,b⟩,c,d,e,f⟩:=h
 have e0:=hk.cell (b:=w.heap.size) (by omega) (by omega) (by omega)
 have e1:=hk.cell (b:=w.heap.size+1) (by omega) (by omega) (by omega)
 exact ⟨⟨(e0 _).trans a,(e0 _).trans b⟩,(e1 _).trans c,(e1 _).trans d,(e1 _).trans e,(e1 _).trans f⟩
theorem zHa.start (w:World) (bo bs:Nat) (o:OpR) (t t':TypeId) :
  zHa w ((w.alloc (.cells #[.map (some bo),.map (some bs)] t)).alloc (.cells #[.string o.s,.int .i64 o.k,.int .i64 o.l,.int .i64 o.sd] t')) bo bs o:=by
 refine ⟨⟨?_,?_⟩,?_,?_,?_,?_⟩ <;> simp [go_sem]
theorem zL5 (bo bs k:Nat) (xs:List OpR) (w:World) (hi:Idx w bo bs xs k) (hok:zBF xs (k+1)) (hs:(atO xs k).s.size<=maxLen) (hk:k<1048576) :
  Calls Tryz.prog 77 #[.agg #[.map (some bo),.map (some bs)],.agg #[.string (atO xs k).s,.int .i64 (atO xs k).k,.int .i64 (atO xs k).l,.int .i64 (atO xs k).sd]] w fun e w'=>e = .returned (.tuple #[])/\Idx w' bo bs xs (k+1)/\zAJ w w' bo bs:=by
 obtain ⟨⟨D,hown,hD⟩,⟨E,howns,hE⟩,hne⟩:=hi
 have hok1:=hok k (by omega)
 have hkm:k<maxLen:=by unfold maxLen; omega
 have HK:=zB (zJD hs (zFv hok1))
 have HL:=zB (zO7 (zFO hok1))
 have HS:=zB (zQO hok1)
 have hso:=zB (show okB (atO xs k).s (atO xs k).k (atO xs k).l (atO xs k).sd=true from hok1)
 have HD:=zB (zOM hown.isMap hs (zFv hok1) hD)
 have HE:=zB (zMj howns.isMap (zFO hok1) hE)
 have hlo:=hown.lt
 have hls:=howns.lt
 clear hD hE hok hok1
 go_enter Tryz.func77,Tryz.ntmps77
 go_wp2_with (first | (at_mapUpdate; refine wpList_mapUpdate_own _ rfl _ _ _ 66 rfl 161 123 zHt Tryz.underlying66 Z7 bo k D rfl ((hown.alloc _).alloc _) hkm _ _ _ rfl rfl (zA HK) (zAa (atO xs k).s (atO xs k).k (atO xs k).l (atO xs k).sd) [] (zC7 _ _ _ _) ?_; intro w1 hown1 hgrow1; go_frame))
 have hk01:=zAJ.of_grown1 (bs:=bs) hgrow1
 have hbx1:=(zHa.start w bo bs (atO xs k) 69 123).step hk01 (by simp) hlo hls
 have hz1:w.heap.size+1<w1.heap.size:=by have:=hk01.size; simp at this; omega
 have howns1:=((howns.alloc (.cells #[.map (some bo),.map (some bs)] 69)).alloc (.cells #[.string (atO xs k).s,.int .i64 (atO xs k).k,.int .i64 (atO xs k).l,.int .i64 (atO xs k).sd] 123)).kept hgrow1 (fun e=>hne (Option.some.inj e).symm)
 have HK0:=zB ((zAJ.of_below (bo:=bo) (bs:=bs) ((zC w (.cells #[.map (some bo),.map (some bs)] 69)).alloc (by simp) (.cells #[.string (atO xs k).s,.int .i64 (atO xs k).k,.int .i64 (atO xs k).l,.int .i64 (atO xs k).sd] 123))).trans hk01)
 obtain ⟨⟨m0,m1⟩,c0,c1,c2,c3⟩:=hbx1
 clear hgrow1 hk01 hown howns
 go_region_held (fun w'=>(w'.cell? ⟨w.heap.size,0,none⟩=some (.map (some bo))/\w'.cell? ⟨w.heap.size,1,none⟩=some (.map (some bs))) /\
  w'.cell? ⟨w.heap.size+1,0,none⟩=some (.string (atO xs k).s)/\w'.cell? ⟨w.heap.size+1,1,none⟩=some (.int .i64 (atO xs k).k)/\w'.cell? ⟨w.heap.size+1,2,none⟩=some (.int .i64 (atO xs k).l)/\w'.cell? ⟨w.heap.size+1,3,none⟩=some (.int .i64 (atO xs k).sd)) (go_keep)
  (first | (go_at_call 124; refine (zGu _ _ _ _ _ (zA hso)).mono ?_; rintro e w2 ⟨rfl,hb2⟩; have hbx2:=zHa.step (w:=w) (wr:=w1.drew) (bo:=bo) (bs:=bs) (o:=atO xs k) ⟨⟨m0,m1⟩,c0,c1,c2,c3⟩ (zAJ.of_below hb2) hz1 hlo hls; have howns2:=howns1.drew.kept (w':=w2) (row:=none) ⟨hb2.os,hb2.tape,hb2.output,hb2.size,fun i hi _=>hb2.block i hi⟩ (by simp); have hown2:=hown1.drew.kept (w':=w2) (row:=none) ⟨hb2.os,hb2.tape,hb2.output,hb2.size,fun i hi _=>hb2.block i hi⟩ (by simp); obtain ⟨w3,hrun3,howns3,hgr3⟩:=howns2.update zNn Tryz.underlying67 hkm (zA HL) (plainElem_int Tryz.underlying3 (zA HS)); have hbx3:=hbx2.step (zAJ.of_grown2 hgr3) (Nat.lt_of_lt_of_le hz1 hb2.size) hlo hls; have hown3:=hown2.kept hgr3 (fun e=>hne (Option.some.inj e)); have HK3:=zB (((zA HK0).trans (zAJ.of_below ((Below.refl _ _).drew.trans hb2))).trans (zAJ.of_grown2 hgr3)); obtain ⟨⟨n0,n1⟩,d0,d1,d2,d3⟩:=hbx2; obtain ⟨⟨o0,o1⟩,f0,f1,f2,f3⟩:=hbx3))
 go_wp2
 go_end0
 exact ⟨rfl,⟨⟨_,hown3,zA HD⟩,⟨_,howns3,zA HE⟩,hne⟩,zA HK3⟩
structure Lp (w:World) (b off cap:Nat) (xs:List OpR) (n1:Nat) (wr:World):Prop where
 box:wr.cell? ⟨w.heap.size,0,none⟩=some (.slice (some ⟨b,off,none⟩) xs.length cap)
 r0:wr.cell? ⟨w.heap.size+1,0,none⟩=some (.map none)
 r1:wr.cell? ⟨w.heap.size+1,1,none⟩=some (.map none)
 f0:wr.frozen? ⟨w.heap.size+1,0,none⟩=false
 f1:wr.frozen? ⟨w.heap.size+1,1,none⟩=false
 x0:wr.cell? ⟨n1+1+1,0,none⟩=some (.map (some n1))
 x1:wr.cell? ⟨n1+1+1,1,none⟩=some (.map (some (n1+1)))
 ops:Ops wr b off xs
 bel:Below w.heap.size w wr
 lt:n1+1+1<wr.heap.size
 ord:w.heap.size+1<n1
theorem zAJ.frozen {w w':World} {bo bs:Nat} (h:zAJ w w' bo bs) {b:Nat} (hb:b<w.heap.size) (h1:b≠bo) (h2:b≠bs) (o:Nat):w'.frozen? ⟨b,o,none⟩=w.frozen? ⟨b,o,none⟩:=
 World.frozen?_of_block (w:=w) (h.block b hb h1 h2)
theorem Lp.step {w:World} {b off cap n1:Nat} {xs:List OpR} {wr wr':World} (h:Lp w b off cap xs n1 wr) (hk:zAJ wr wr' n1 (n1+1)) (hB:b<w.heap.size):Lp w b off cap xs n1 wr':=by
 have hlt:=h.lt
 have hord:=h.ord
 have a:=hk.cell (b:=w.heap.size) (by omega) (by omega) (by omega)
 have c:=hk.cell (b:=w.heap.size+1) (by omega) (by omega) (by omega)
 have d:=hk.cell (b:=n1+1+1) (by omega) (by omega) (by omega)
 have e:=hk.cell (b:=b) (by omega) (by omega) (by omega)
 have f:=hk.frozen (b:=w.heap.size+1) (by omega) (by omega) (by omega)
 refine ⟨(a _).trans h.box,(c _).trans h.r0,(c _).trans h.r1,(f _).trans h.f0,(f _).trans h.f1,(d _).trans h.x0,(d _).trans h.x1,fun i hi=>?_,h.bel.trans (hk.below (by omega) (by omega) (by omega)),Nat.lt_of_lt_of_le hlt hk.size,hord⟩
 obtain ⟨q0,q1,q2,q3⟩:=h.ops i hi
 exact ⟨(e _).trans q0,(e _).trans q1,(e _).trans q2,(e _).trans q3⟩
theorem Lp.below {w:World} {b off cap n1:Nat} {xs:List OpR} {wr wr':World} (h:Lp w b off cap xs n1 wr) (hb:Below wr.heap.size wr wr') (hB:b<w.heap.size):Lp w b off cap xs n1 wr':=
 h.step (zAJ.of_below hb) hB
theorem Idx.set {w:World} {bo bs k b o:Nat} {xs:List OpR} {v:Value} (h:Idx w bo bs xs k) (h1:bo≠b) (h2:bs≠b):Idx (w.setCell ⟨b,o,none⟩ v) bo bs xs k:=by
 obtain ⟨⟨D,a1,a2⟩,⟨E,a3,a4⟩,a5⟩:=h
 have hg:w.grownBy (w.setCell ⟨b,o,none⟩ v) (some b):=⟨rfl,rfl,rfl,by simp [World.setCell],fun i _ hi=>Below.heap_setCell _ _ _ _ (fun e=>hi (by rw [e]))⟩
 exact ⟨⟨D,a1.kept hg (fun e=>h1 (Option.some.inj e)),a2⟩,⟨E,a3.kept hg (fun e=>h2 (Option.some.inj e)),a4⟩,a5⟩
theorem Idx.start (w:World) (xs:List OpR) (o:Obj):Idx (((w.alloc (.map #[] 0)).alloc (.map #[] 0)).alloc o) w.heap.size (w.heap.size+1) xs 0:=by
 have h1:=World.ownsMap_made (H:=Unit) w Tryz.prog 161 Z7
 have h2:=World.ownsMap_made (H:=Unit) (w.alloc (.map #[] 0)) Tryz.prog 3 (plainElem Tryz.prog 3)
 have e:(w.alloc (.map #[] 0)).heap.size=w.heap.size+1:=by simp
 rw [e] at h2
 refine ⟨⟨_,(h1.alloc _).alloc _,fun s kd _ _=>?_⟩,⟨_,h2.alloc _,fun l _=>?_⟩,by omega⟩
 ·simp [Maps.has]
 ·simp [Maps.has]
theorem zCd {w1:World} {b o:Nat} (h:b<w1.heap.size) (o1 o2 o3:Obj):(((w1.alloc o1).alloc o2).alloc o3).cell? ⟨b,o,none⟩=w1.cell? ⟨b,o,none⟩:=
 (((zC _ o1).alloc (by simp) o2).alloc (by simp; omega) o3).cell (p:=⟨b,o,none⟩) h
theorem zEU {w1:World} {b o:Nat} (h:b<w1.heap.size) (o1 o2 o3:Obj):(((w1.alloc o1).alloc o2).alloc o3).frozen? ⟨b,o,none⟩=w1.frozen? ⟨b,o,none⟩:=
 (((zC _ o1).alloc (by simp) o2).alloc (by simp; omega) o3).frozen (p:=⟨b,o,none⟩) h
theorem Lp.start {w w1:World} {b off cap:Nat} {xs:List OpR} (hw:Ops w b off xs) (hB:b<w.heap.size) (t t' t3:TypeId)
  (hb1:Below ((w.alloc (.cells #[.slice (some ⟨b,off,none⟩) xs.length cap] t)).alloc (.cells #[.map none,.map none] t')).heap.size ((w.alloc (.cells #[.slice (some ⟨b,off,none⟩) xs.length cap] t)).alloc (.cells #[.map none,.map none] t')) w1) :
  Lp w b off cap xs w1.heap.size (((w1.alloc (.map #[] 0)).alloc (.map #[] 0)).alloc (.cells #[.map (some w1.heap.size),.map (some (w1.heap.size+1))] t3)):=by
 obtain ⟨hc1,hf1⟩:=zFz hb1
 have hz1:w.heap.size+1<w1.heap.size:=by have:=hb1.size; simp at this; omega
 have hb01:Below w.heap.size w w1:=((zC _ _).alloc (by simp) _).trans (hb1.mono (by simp; omega))
 refine ⟨?_,?_,?_,?_,?_,?_,?_,?_,?_,?_,hz1⟩
 ·rw [zCd (by omega),hc1 _ _ (by simp; omega)]; simp [go_sem]
 ·rw [zCd (by omega),hc1 _ _ (by simp)]; simp [go_sem]
 ·rw [zCd (by omega),hc1 _ _ (by simp)]; simp [go_sem]
 ·rw [zEU (by omega),hf1 _ _ (by simp)]; simp [go_sem]
 ·rw [zEU (by omega),hf1 _ _ (by simp)]; simp [go_sem]
 ·simp [go_sem]
 ·simp [go_sem]
 ·exact (hw.below hb01 hB).below (((zC _ _).alloc (by simp) _).alloc (by simp; omega) _) (by omega)
 ·exact ((hb01.alloc (by omega) _).alloc (by simp; omega) _).alloc (by simp; omega) _
 ·simp
theorem zHy {wr w2:World} {o:OpR} {t:TypeId} (hb:Below (wr.alloc (.cells #[.string o.s,.int .i64 o.k,.int .i64 o.l,.int .i64 o.sd] t)).heap.size (wr.alloc (.cells #[.string o.s,.int .i64 o.k,.int .i64 o.l,.int .i64 o.sd] t)) w2) :
  w2.cell? ⟨wr.heap.size,0,none⟩=some (.string o.s)/\w2.cell? ⟨wr.heap.size,1,none⟩=some (.int .i64 o.k)/\w2.cell? ⟨wr.heap.size,2,none⟩=some (.int .i64 o.l)/\w2.cell? ⟨wr.heap.size,3,none⟩=some (.int .i64 o.sd):=by
 obtain ⟨hc,_⟩:=zFz hb
 refine ⟨?_,?_,?_,?_⟩ <;> (rw [hc _ _ (by simp)]; simp [go_sem])
theorem zHz {w2 w3:World} {n:Nat} {o:OpR} (hb:Below w2.heap.size w2 w3) (hn:n<w2.heap.size) (h0:w2.cell? ⟨n,0,none⟩=some (.string o.s)) (h1:w2.cell? ⟨n,1,none⟩=some (.int .i64 o.k)) (h2:w2.cell? ⟨n,2,none⟩=some (.int .i64 o.l)) (h3:w2.cell? ⟨n,3,none⟩=some (.int .i64 o.sd)) :
  w3.cell? ⟨n,0,none⟩=some (.string o.s)/\w3.cell? ⟨n,1,none⟩=some (.int .i64 o.k)/\w3.cell? ⟨n,2,none⟩=some (.int .i64 o.l)/\w3.cell? ⟨n,3,none⟩=some (.int .i64 o.sd):=by
 have e:=fun q=>hb.cell (p:=⟨n,q,none⟩) hn
 exact ⟨(e _).trans h0,(e _).trans h1,(e _).trans h2,(e _).trans h3⟩
theorem zD3 (b off cap:Nat) (xs:List OpR) (w:World) (hm:xs.length<=1048576) (hw:Ops w b off xs) (hs:ZV xs) (hB:b<w.heap.size) :
  Calls Tryz.prog 38 #[.agg #[.slice (some ⟨b,off,none⟩) xs.length cap]] w fun e w'=>(∃ (x y:Option Nat) (c:Int),e = .returned (.tuple #[.agg #[.map x,.map y],.int .i64 c])/\zM xs c/\(c=0->∃ bo bs,x=some bo/\y=some bs/\Idx w' bo bs xs xs.length))/\Below w.heap.size w w':=by
 have hmm:=@run_makeMap Tryz.prog
 by_cases h500:500<xs.length
 ·go_enter Tryz.func38,Tryz.ntmps38
  go_wp2
  exact bodyPost_ret (v:=.tuple #[.agg #[.map none,.map none],.int .i64 1]) (by simp [results,Tryz.results38,go_sem]) rfl ⟨⟨none,none,1,rfl,Or.inl ⟨rfl,h500⟩,fun h=>absurd h (by decide)⟩,(zC _ _).alloc (by simp) _⟩
 have h500':xs.length<=500:=by omega
 go_enter Tryz.func38,Tryz.ntmps38
 go_wp2_with fail
 refine (zMK b off cap xs _ hm ((hw.below (zC _ _) hB).below (zC _ _) (by simp; omega)) hs (by simp; omega)).mono ?_
 rintro e w1 ⟨⟨v,rfl,hv⟩,hb1⟩
 have HV:=zB hv
 clear hv
 obtain ⟨hc1,hf1⟩:=zFz hb1
 have hz1:w.heap.size+1<w1.heap.size:=by have:=hb1.size; simp at this; omega
 have hb01:Below w.heap.size w w1:=((zC _ _).alloc (by simp) _).trans (hb1.mono (by simp; omega))
 cases v
 ·go_wp2_with fail
  refine bodyPost_ret (v:=.tuple #[.agg #[.map none,.map none],.int .i64 2]) (by simp [results,Tryz.results38,go_sem,hc1]) rfl ⟨⟨none,none,2,rfl,Or.inr ⟨h500',Or.inl ⟨rfl,fun h=>?_⟩⟩,fun h=>absurd h (by decide)⟩,(hb01.setCell (by simp) _).setCell (by simp) _⟩
  exact Bool.false_ne_true ((zA HV).2 h)
 ·have hall:zBF xs xs.length:=(zA HV).1 rfl
  have hL:=zB (Lp.start (t3:=69) hw hB _ _ hb1)
  have hI:=zB (Idx.start w1 xs (.cells #[.map (some w1.heap.size),.map (some (w1.heap.size+1))] 69))
  have hbox:∀ o1 o2 o3,(((w1.alloc o1).alloc o2).alloc o3).cell? ⟨w.heap.size,0,none⟩=some (.slice (some ⟨b,off,none⟩) xs.length cap):=fun o1 o2 o3=>by
   rw [zCd (by omega),hc1 _ _ (by simp; omega)]; simp [go_sem]
  clear HV hc1 hf1 hb1
  go_wp2_with fail
  clear hbox
  go_loopw [24,5] (fun i mx wr=>∃ (k:Nat) (m:Bool),k<=xs.length/\i = .int .i64 k/\mx = .bool m/\Hid (zGv 3 xs k/\(m=true↔¬ zGv 4 xs k))/\Hid (Idx wr w1.heap.size (w1.heap.size+1) xs k)/\Hid (Lp w b off cap xs w1.heap.size wr)) (fun i _ _=>xs.length-(intOf i).toNat)
  case atStart=>exact ⟨0,false,Nat.zero_le _,rfl,rfl,zB ⟨fun i j _ h=>(by omega),⟨fun h=>(by cases h),fun h=>absurd (fun i j _ h=>(by omega)) h⟩⟩,hI,hL⟩
  case round=>
   clear hI hL
   obtain ⟨k,m,hk,rfl,rfl,hno,hI,hL⟩:=hrel
   by_cases hlt:k<xs.length
   ·have HO:=zB (show zBF xs (k+1) from fun j hj=>hall j (by omega))
    obtain ⟨a0,a1,a2,a3⟩:=(zA hL).ops k hlt
    have x0:=(zA hL).x0
    have x1:=(zA hL).x1
    have xlt:=(zA hL).lt
    have hI':=zB ((zA hI).kept (zC wr (.cells #[.string (atO xs k).s,.int .i64 (atO xs k).k,.int .i64 (atO xs k).l,.int .i64 (atO xs k).sd] 123)))
    have hL':=zB ((zA hL).below (zC wr (.cells #[.string (atO xs k).s,.int .i64 (atO xs k).k,.int .i64 (atO xs k).l,.int .i64 (atO xs k).sd] 123)) hB)
    clear hI hL
    go_wp2_with fail
    refine (zJX _ _ _ _ _ (zA hI') (zA HO) (hs k hlt)).mono ?_
    rintro e w2 ⟨⟨v,rfl,hv⟩,hb2⟩
    have HV:=zB hv
    clear hv
    have hL2:=(zA hL').below hb2 hB
    have hI2:=zB ((zA hI').kept hb2)
    have y0:=hL2.x0
    have y1:=hL2.x1
    have r0:=hL2.r0
    have r1:=hL2.r1
    have f0:=hL2.f0
    have f1:=hL2.f1
    have bel2:=hL2.bel
    have ylt:wr.heap.size<w2.heap.size:=by have:=hb2.size; simp at this; omega
    obtain ⟨o0,o1,o2,o3⟩:=zHy hb2
    have HL2:=zB hL2
    clear hL2 hI' hL' hb2 a0 a1 a2 a3 x0 x1 xlt
    cases v
    ·have hn3:=zB (zFc (zA hno).1 (fun j hj hc=>Bool.false_ne_true ((zA HV).2 ⟨j,hj,hc⟩)))
     cases m
     ·have hn4:zGv 4 xs k:=Classical.byContradiction fun x=>Bool.false_ne_true ((zA hno).2.2 x)
      have HN4:=zB hn4
      clear hn4 HV hno
      go_wp2_with fail
      refine (zJY _ _ _ _ _ (zA hI2) (zA HO) (zA HN4)).mono ?_
      rintro e w3 ⟨⟨v',rfl,hv'⟩,hb3⟩
      have HV':=zB hv'
      clear hv'
      have hL3:=(zA HL2).below hb3 hB
      have hI3:=zB ((zA hI2).kept hb3)
      have z0:=hL3.x0
      have z1:=hL3.x1
      have zlt:wr.heap.size<w3.heap.size:=Nat.lt_of_lt_of_le ylt hb3.size
      obtain ⟨p0,p1,p2,p3⟩:=zHz hb3 ylt o0 o1 o2 o3
      have HL3:=zB hL3
      clear hL3 hI2 HL2 hb3 y0 y1 r0 r1 f0 f1 o0 o1 o2 o3
      go_wp2_with fail
      refine (zL5 _ _ _ _ _ (zA hI3) (zA HO) (hs k hlt) (by omega)).mono ?_
      rintro e w4 ⟨rfl,hI4,hk4⟩
      have HI4:=zB hI4
      have HL4:=zB ((zA HL3).step hk4 hB)
      clear hI4 hk4
      go_wp2_with fail
      refine ⟨⟨k+1,v',by omega,by go_num,rfl,zB ⟨zA hn3,?_⟩,HI4,HL4⟩,by simp [intOf]; omega⟩
      rw [zA HV']
      constructor
      ·rintro ⟨j,hj,hc⟩ hn
       exact hn k j hj (by omega) hc
      ·intro hn
       exact Classical.byContradiction fun x=>hn (zFc (zA HN4) (fun j hj hc=>x ⟨j,hj,hc⟩))
     ·have hn4:=zB (show ¬ zGv 4 xs (k+1) from fun h=>(zA hno).2.1 rfl (fun i j hj hi=>h i j hj (by omega)))
      clear HV hno
      go_wp2_with fail
      refine (zL5 _ _ _ _ _ (zA hI2) (zA HO) (hs k hlt) (by omega)).mono ?_
      rintro e w4 ⟨rfl,hI4,hk4⟩
      have HI4:=zB hI4
      have HL4:=zB ((zA HL2).step hk4 hB)
      clear hI4 hk4
      go_wp2_with fail
      exact ⟨⟨k+1,true,by omega,by go_num,rfl,zB ⟨zA hn3,⟨fun _=>zA hn4,fun _=>rfl⟩⟩,HI4,HL4⟩,by simp [intOf]; omega⟩
    ·have hpr:=zB (show Pr 3 xs by
      obtain ⟨j,hj,hc⟩:=(zA HV).1 rfl
      exact ⟨k,j,hj,hlt,hc⟩)
     clear HV
     go_wp2_with fail
     exact bodyPost_ret (v:=.tuple #[.agg #[.map none,.map none],.int .i64 3]) (by simp [results,Tryz.results38,go_sem,r0,r1]) rfl ⟨⟨none,none,3,rfl,Or.inr ⟨h500',Or.inr ⟨hall,Or.inl ⟨rfl,zA hpr⟩⟩⟩,fun h=>absurd h (by decide)⟩,(bel2.setCell (by simp) _).setCell (by simp) _⟩
   ·have hkn:k=xs.length:=by omega
    have hn3:=zB (show ¬ Pr 3 xs from zGw (hkn ▸ (zA hno).1))
    have bel2:=(zA hL).bel
    have r0:=(zA hL).r0
    have r1:=(zA hL).r1
    have f0:=(zA hL).f0
    have f1:=(zA hL).f1
    have x0:=(zA hL).x0
    have x1:=(zA hL).x1
    have ord:=(zA hL).ord
    cases m
    ·have hn4:zGv 4 xs k:=Classical.byContradiction fun x=>Bool.false_ne_true ((zA hno).2.2 x)
     have HN4:=zB (show ¬ Pr 4 xs from zGw (hkn ▸ hn4))
     have HID:=zB (show Idx wr w1.heap.size (w1.heap.size+1) xs xs.length from hkn ▸ zA hI)
     clear hn4 hno hkn
     go_wp2_with fail
     exact bodyPost_ret (v:=.tuple #[.agg #[.map (some w1.heap.size),.map (some (w1.heap.size+1))],.int .i64 0]) (by simp [results,Tryz.results38,go_sem,r0,r1]) rfl ⟨⟨_,_,0,rfl,Or.inr ⟨h500',Or.inr ⟨hall,Or.inr ⟨zA hn3,Or.inr ⟨rfl,zA HN4⟩⟩⟩⟩,fun _=>⟨_,_,rfl,rfl,((zA HID).set (by omega) (by omega)).set (by omega) (by omega)⟩⟩,(bel2.setCell (by simp) _).setCell (by simp) _⟩
    ·have hp4:=zB (show Pr 4 xs by
      have h4:=(zA hno).2.1 rfl
      refine Classical.byContradiction fun x=>h4 (fun i j hj hi hc=>x ⟨i,j,hj,by omega,hc⟩))
     clear hno hkn
     go_wp2_with fail
     exact bodyPost_ret (v:=.tuple #[.agg #[.map none,.map none],.int .i64 4]) (by simp [results,Tryz.results38,go_sem,r0,r1]) rfl ⟨⟨none,none,4,rfl,Or.inr ⟨h500',Or.inr ⟨hall,Or.inr ⟨zA hn3,Or.inl ⟨rfl,zA hp4⟩⟩⟩⟩,fun h=>absurd h (by decide)⟩,(bel2.setCell (by simp) _).setCell (by simp) _⟩
structure Sc (w:World) (p bo bs L:Nat) (s:ByteArray) (gap start:Nat) (v:Value):Prop where
 c0:w.cell? ⟨p,0,none⟩=some (.map (some bo))
 c1:w.cell? ⟨p,1,none⟩=some (.map (some bs))
 c2:w.cell? ⟨p,2,none⟩=some (.int .i64 (L:Int))
 c3:w.cell? ⟨p,3,none⟩=some (.string s)
 c4:w.cell? ⟨p,4,none⟩=some (.int .i64 (gap:Int))
 c5:w.cell? ⟨p,5,none⟩=some (.int .i64 (start:Int))
 c6:w.cell? ⟨p,6,none⟩=some v
 fz:∀ o,w.frozen? ⟨p,o,none⟩=false
theorem zHb (p bo bs L:Nat) (s:ByteArray) (gap start:Nat) (v:Value) (first q:Nat) (w:World) (h:Sc w p bo bs L s gap start v) (hq:q<=s.size) (hf:first=2\/first=3) :
  Calls Tryz.prog 126 #[.pointer (some ⟨p,0,none⟩),.int .i64 (first:Int),.int .i64 (q:Int)] w fun e w'=>zCw e (q<s.size/\(cls (bt s q)=2\/(cls (bt s q)=3/\first=3)))/\w'=w:=by
 have c3:=h.c3
 clear h
 by_cases hlt:q<s.size
 ·have hltI:(q:Int)<(s.size:Int):=by omega
  have hb:=zB (ZS hlt)
  have HF:=zB hf
  clear hf
  go_enter Tryz.func126,Tryz.ntmps126
  go_wp2_with (go_at_call 159; refine (zCi first _ _).mono ?_; rintro e w' ⟨rfl,hx⟩; obtain rfl:=hx.symm)
  go_ret
  refine ⟨⟨_,rfl,?_⟩,rfl⟩
  unfold zJy zBh
  rw [zA hb]
  simp [hlt]
 ·have hltI:¬ (q:Int)<(s.size:Int):=by omega
  go_enter Tryz.func126,Tryz.ntmps126
  go_wp2_with fail
  go_ret
  exact ⟨⟨false,rfl,zQ (by simp)⟩,rfl⟩
end Go.Proofs.YtfboipappaonhaaGreat
