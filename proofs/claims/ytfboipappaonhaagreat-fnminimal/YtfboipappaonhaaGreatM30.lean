import Derived.Test.YtfboipappaonhaaGreatM25
namespace Go.Proofs.YtfboipappaonhaaGreat
set_option maxHeartbeats 16000000
set_option maxRecDepth 100000
open Go.RowKit Go.Maps
theorem zBq (bo bs n:Nat) (D:DataW Unit) (t:ByteArray) (kd:Int) (w:World) (hown:w.ownsMap Tryz.prog 161 Zp bo n D) (ht:t.size <= maxLen) (hk:(Lit.int .i64 kd).wf = true) :
  Calls Tryz.prog 123 #[.agg #[.map (some bo),.map (some bs)],.string t,.int .i64 kd] w fun e w'=>e = .returned (.bool (Maps.has D (klO t kd))) /\ Below w.heap.size w w':=by
 go_enter Tryz.func123,Tryz.ntmps123
 go_wp2_with (first | (at_lookup; refine wpList_lookup_own_ok _ rfl _ _ 66 rfl 161 123 zFx Tryz.underlying66 Zp (zLM _) (Z3 ⟨#[]⟩ 0 0 0) [] (zB8 _ _ _ _) bo n D rfl (hown.alloc _) _ _ rfl (zHA ht hk) ?_; intro v ps hv; obtain ⟨s',k',l',sd',rfl⟩:=zCT hv))
 go_ret
 exact ⟨rfl,(zC _ _).alloc (by simp) _⟩
structure Idx (w:World) (bo bs:Nat) (xs:List OpR) (k:Nat):Prop where
 ops:∃ D:DataW Unit,w.ownsMap Tryz.prog 161 Zp bo k D /\ ∀ (s:ByteArray) (kd:Int),s.size <= maxLen -> (Lit.int .i64 kd).wf = true -> (Maps.has D (klO s kd) = true ↔ ∃ j,j < k /\ (atO xs j).s = s /\ (atO xs j).k = kd) /\ (Maps.has D (klO s kd) = true -> ∃ j,j < k /\ (atO xs j).s = s /\ (atO xs j).k = kd /\ D.atKey (klO s kd) (Z3 ⟨#[]⟩ 0 0 0) = Z3 (atO xs j).s (atO xs j).k (atO xs j).l (atO xs j).sd)
 srts:∃ D:DataW Unit,w.ownsMap Tryz.prog 3 (plainElem Tryz.prog 3) bs k D /\ ∀ l:Int,(Lit.int .i64 l).wf = true -> (Maps.has D (.int .i64 l) = true ↔ ∃ j,j < k /\ (atO xs j).l = l) /\
  ∀ c:Int,D.atKey (.int .i64 l) (.lit (.int .i64 0)) = .lit (.int .i64 c) -> Maps.has D (.int .i64 l) = true -> ∃ j,j < k /\ (atO xs j).l = l /\ srt (atO xs j).k (atO xs j).sd = c
 ne:bo ≠ bs
theorem Idx.kept {w w':World} {bo bs k:Nat} {xs:List OpR} (h:Idx w bo bs xs k) (hb:Below w.heap.size w w'):Idx w' bo bs xs k:=by
 obtain ⟨⟨D,h1,h2⟩,⟨E,h3,h4⟩,h5⟩:=h
 have hg:w.grownBy w' none:=⟨hb.os,hb.tape,hb.output,hb.size,fun i hi _=>hb.block i hi⟩
 exact ⟨⟨D,h1.kept hg (by simp),h2⟩,⟨E,h3.kept hg (by simp),h4⟩,h5⟩
theorem zNm:(Lit.int .i64 1).wf = true:=by decide
theorem zNn:(Lit.int .i64 2).wf = true:=by decide
theorem zNo:(Lit.int .i64 3).wf = true:=by decide
theorem zEu {o:OpR} (h:o.ok = true):o.k = 1 \/ o.k = 2 \/ o.k = 3:=by
 obtain ⟨_,h⟩:=zAX _ _ _ _ h
 omega
theorem zHN (bo bs k:Nat) (xs:List OpR) (w:World) (hi:Idx w bo bs xs k) (hok:zAD xs (k + 1)) (hs:(atO xs k).s.size <= maxLen) :
  Calls Tryz.prog 75 #[.agg #[.map (some bo),.map (some bs)],.agg #[.string (atO xs k).s,.int .i64 (atO xs k).k,.int .i64 (atO xs k).l,.int .i64 (atO xs k).sd]] w fun e w'=>(∃ v,e = .returned (.bool v) /\ (v = true ↔ ∃ j,j < k /\ cl 3 (atO xs k) (atO xs j))) /\ Below w.heap.size w w':=by
 obtain ⟨⟨D,hown,hD⟩,_,_⟩:=hi
 have h1:=(hD _ _ hs zNm).1
 have h2:=(hD _ _ hs zNn).1
 have h3:=(hD _ _ hs zNo).1
 have hkk:=zEu (hok k (by omega))
 have key1:(atO xs k).k = 1 -> (Maps.has D (klO (atO xs k).s 1) = true ↔ ∃ j,j < k /\ cl 3 (atO xs k) (atO xs j)):=by
  intro hk
  rw [h1]
  simp only [cl,if_true,hk,true_iff]
  exact ⟨fun ⟨j,a,b,c⟩=>⟨j,a,b.symm,c⟩,fun ⟨j,a,b,c⟩=>⟨j,a,b.symm,c⟩⟩
 have key2:(atO xs k).k ≠ 1 -> ((Maps.has D (klO (atO xs k).s 2) = true \/ Maps.has D (klO (atO xs k).s 3) = true) ↔ ∃ j,j < k /\ cl 3 (atO xs k) (atO xs j)):=by
  intro hk
  rw [h2,h3]
  simp only [cl,if_true,hk,false_iff]
  constructor
  ·rintro (⟨j,a,b,c⟩ | ⟨j,a,b,c⟩)
   ·exact ⟨j,a,b.symm,by omega⟩
   ·exact ⟨j,a,b.symm,by omega⟩
  ·rintro ⟨j,a,b,c⟩
   have:=zEu (hok j (by omega))
   rcases this with e | e | e
   ·exact absurd e c
   ·exact Or.inl ⟨j,a,b.symm,e⟩
   ·exact Or.inr ⟨j,a,b.symm,e⟩
 have K1:=zB key1
 have K2:=zB key2
 clear key1 key2 h1 h2 h3 hD hok
 by_cases hk:(atO xs k).k = 1
 ·have hk':((atO xs k).k == 1) = true:=by simpa using hk
  have HK:=zB hk
  clear hk hkk
  go_enter Tryz.func75,Tryz.ntmps75
  go_wp2_with (first | (go_at_call 123; refine (zBq bo bs k D _ _ _ ((hown.alloc _).alloc _) hs (by decide)).mono ?_; rintro e w1 ⟨rfl,hb1⟩))
  go_ret
  exact ⟨⟨_,rfl,(zA K1) (zA HK)⟩,((zC _ _).alloc (by simp) _).trans (hb1.mono (by simp; omega))⟩
 ·have hk':((atO xs k).k == 1) = false:=by simpa using hk
  have HK:=zB hk
  clear hk hkk
  cases hh:Maps.has D (klO (atO xs k).s 2)
  ·have HH:=zB hh
   go_enter Tryz.func75,Tryz.ntmps75
   go_wp2_with fail
   refine (zBq bo bs k D _ _ _ ((hown.alloc _).alloc _) hs (by decide)).mono ?_
   rintro e w1 ⟨rfl,hb1⟩
   obtain ⟨hc1,hf1⟩:=zEN hb1
   have hown1:=((hown.alloc (.cells #[.map (some bo),.map (some bs)] 69)).alloc (.cells #[.string (atO xs k).s,.int .i64 (atO xs k).k,.int .i64 (atO xs k).l,.int .i64 (atO xs k).sd] 123)).kept (w':=w1) (row:=none) ⟨hb1.os,hb1.tape,hb1.output,hb1.size,fun i hi _=>hb1.block i hi⟩ (by simp)
   have HO:=zB hown1
   clear hown1
   go_wp2_with fail
   refine (zBq bo bs k D _ _ _ (zA HO) hs (by decide)).mono ?_
   rintro e w2 ⟨rfl,hb2⟩
   go_wp2_with fail
   go_ret
   refine ⟨⟨_,rfl,?_⟩,(((zC _ _).alloc (by simp) _).trans (hb1.mono (by simp; omega))).trans (hb2.mono (by have:=hb1.size; simp at this; omega))⟩
   have:=(zA K2) (zA HK)
   rw [zA HH] at this
   simpa using this
  ·have HH:=zB hh
   go_enter Tryz.func75,Tryz.ntmps75
   go_wp2_with fail
   refine (zBq bo bs k D _ _ _ ((hown.alloc _).alloc _) hs (by decide)).mono ?_
   rintro e w1 ⟨rfl,hb1⟩
   go_wp2_with fail
   go_ret
   refine ⟨⟨_,rfl,?_⟩,((zC _ _).alloc (by simp) _).trans (hb1.mono (by simp; omega))⟩
   have:=(zA K2) (zA HK)
   rw [zA HH] at this
   simpa using this
theorem zFa {l:Int} (h1:0 <= l) (h2:l <= 1000):(Lit.int .i64 l).wf = true:=by
 exact WalkArith.wf_i64 (by omega)
theorem zDt {o:OpR} (h:o.ok = true):(Lit.int .i64 o.l).wf = true:=by
 obtain ⟨⟨h1,h2⟩,_⟩:=zAX _ _ _ _ h
 exact zFa (by omega) h2
theorem zEJ {o:OpR} (h:o.ok = true):(Lit.int .i64 o.k).wf = true:=by
 obtain ⟨_,h⟩:=zAX _ _ _ _ h
 exact zFa (by omega) (by omega)
theorem zNW {o:OpR} (h:o.ok = true):(Lit.int .i64 (srt o.k o.sd)).wf = true:=by
 obtain ⟨_,h⟩:=zAX _ _ _ _ h
 have:0 <= srt o.k o.sd /\ srt o.k o.sd <= 1000:=by
  unfold srt
  split
  ·omega
  ·split <;> omega
 exact zFa this.1 this.2
theorem zIx {xs:List OpR} {k:Nat} {c:Int} (hn:zFA 4 xs k) {j0:Nat} (h0:j0 < k) (hl:(atO xs j0).l = (atO xs k).l) (hc:srt (atO xs j0).k (atO xs j0).sd = c) :
  (c ≠ srt (atO xs k).k (atO xs k).sd) ↔ ∃ j,j < k /\ cl 4 (atO xs k) (atO xs j):=by
 have hcl:∀ a b:OpR,cl 4 a b ↔ (a.l = b.l /\ srt a.k a.sd ≠ srt b.k b.sd):=fun a b=>by simp [cl]
 constructor
 ·intro h
  exact ⟨j0,h0,(hcl _ _).2 ⟨hl.symm,by rw [hc]; exact h.symm⟩⟩
 ·rintro ⟨j,hj,hh⟩
  obtain ⟨e1,e2⟩:=(hcl _ _).1 hh
  rw [<- hc]
  intro e
  apply e2
  rw [<- e]
  by_cases e3:j < j0
  ·have:=hn j0 j e3 h0
   rw [hcl] at this
   exact Classical.byContradiction fun x=>this ⟨by rw [hl,e1],x⟩
  ·by_cases e4:j0 < j
   ·have:=hn j j0 e4 hj
    rw [hcl] at this
    exact Classical.byContradiction fun x=>this ⟨by rw [hl,e1],fun y=>x y.symm⟩
   ·have e5:j = j0:=by omega
    rw [e5]
theorem zHO (bo bs k:Nat) (xs:List OpR) (w:World) (hi:Idx w bo bs xs k) (hok:zAD xs (k + 1)) (hn:zFA 4 xs k) :
  Calls Tryz.prog 76 #[.agg #[.map (some bo),.map (some bs)],.agg #[.string (atO xs k).s,.int .i64 (atO xs k).k,.int .i64 (atO xs k).l,.int .i64 (atO xs k).sd]] w fun e w'=>(∃ v,e = .returned (.bool v) /\ (v = true ↔ ∃ j,j < k /\ cl 4 (atO xs k) (atO xs j))) /\ Below w.heap.size w w':=by
 obtain ⟨_,⟨D,hown,hD⟩,_⟩:=hi
 have hok1:=hok k (by omega)
 obtain ⟨h1,h2⟩:=hD _ (zDt hok1)
 have hkl:=zMM (zDt hok1)
 have hso:=zB (show okB (atO xs k).s (atO xs k).k (atO xs k).l (atO xs k).sd = true from hok1)
 cases hh:Maps.has D (.int .i64 (atO xs k).l)
 ·have hno:=zB (show ¬ ∃ j,j < k /\ cl 4 (atO xs k) (atO xs j) from fun ⟨j,hj,hc⟩=>by
   simp only [cl] at hc
   have:=h1.2 ⟨j,hj,hc.1.symm⟩
   rw [hh] at this
   cases this)
  have HK:=zB hkl
  clear h1 h2 hD hok hok1 hkl hn
  go_enter Tryz.func76,Tryz.ntmps76
  go_wp2_with (first | (at_lookup; refine wpList_lookup_own_ok_int _ rfl _ _ 67 rfl 3 3 .i64 zLK Tryz.underlying67 Tryz.underlying3 (zJg _) bs k D rfl ((hown.alloc _).alloc _) _ _ rfl (zA HK) ?_; intro c hat hwc; have HAT:=zB hat; clear hat))
  go_ret
  refine ⟨⟨_,rfl,?_⟩,(zC _ _).alloc (by simp) _⟩
  simp [zA hno]
 ·have hyes:=zB (show ∀ c:Int,D.atKey (.int .i64 (atO xs k).l) (.lit (.int .i64 0)) = .lit (.int .i64 c) -> ((c ≠ srt (atO xs k).k (atO xs k).sd) ↔ ∃ j,j < k /\ cl 4 (atO xs k) (atO xs j)) from fun c hc=>by
   obtain ⟨j0,hj0,hl0,hs0⟩:=h2 c hc hh
   exact zIx hn hj0 hl0 hs0)
  have HK:=zB hkl
  clear h1 h2 hD hok hok1 hkl hn
  go_enter Tryz.func76,Tryz.ntmps76
  go_wp2_with (first | (at_lookup; refine wpList_lookup_own_ok_int _ rfl _ _ 67 rfl 3 3 .i64 zLK Tryz.underlying67 Tryz.underlying3 (zJg _) bs k D rfl ((hown.alloc _).alloc _) _ _ rfl (zA HK) ?_; intro c hat hwc; have HAT:=zB hat; clear hat) | (go_at_call 124; refine (zE9 _ _ _ _ _ (zA hso)).mono ?_; rintro e w1 ⟨rfl,hb1⟩))
  go_ret
  refine ⟨⟨_,rfl,?_⟩,((zC _ _).alloc (by simp) _).trans (hb1.mono (by simp; omega))⟩
  have:=(zA hyes) c (zA HAT)
  rw [<- this]
  simp
structure Zv (w w':World) (bo bs:Nat):Prop where
 os:w'.os = w.os
 tape:w'.tape = w.tape
 output:w'.output = w.output
 size:w.heap.size <= w'.heap.size
 block:∀ i,i < w.heap.size -> i ≠ bo -> i ≠ bs -> w'.heap[i]? = w.heap[i]?
theorem Zv.trans {w w1 w2:World} {bo bs:Nat} (h:Zv w w1 bo bs) (h':Zv w1 w2 bo bs):Zv w w2 bo bs:=
 ⟨h'.os.trans h.os,h'.tape.trans h.tape,h'.output.trans h.output,Nat.le_trans h.size h'.size,fun i hi a b=>(h'.block i (Nat.lt_of_lt_of_le hi h.size) a b).trans (h.block i hi a b)⟩
theorem Zv.of_below {w w':World} {bo bs:Nat} (h:Below w.heap.size w w'):Zv w w' bo bs:=⟨h.os,h.tape,h.output,h.size,fun i hi _ _=>h.block i hi⟩
theorem Zv.of_grown1 {w w':World} {bo bs:Nat} (h:w.grownBy w' (some bo)):Zv w w' bo bs:=⟨h.os,h.tape,h.output,h.size,fun i hi a _=>h.block i hi (fun e=>a (Option.some.inj e))⟩
theorem Zv.of_grown2 {w w':World} {bo bs:Nat} (h:w.grownBy w' (some bs)):Zv w w' bo bs:=⟨h.os,h.tape,h.output,h.size,fun i hi _ b=>h.block i hi (fun e=>b (Option.some.inj e))⟩
theorem Zv.cell {w w':World} {bo bs:Nat} (h:Zv w w' bo bs) {b:Nat} (hb:b < w.heap.size) (h1:b ≠ bo) (h2:b ≠ bs) (o:Nat):w'.cell? ⟨b,o,none⟩ = w.cell? ⟨b,o,none⟩:=
 World.cell?_of_block (w:=w) (h.block b hb h1 h2)
theorem Zv.below {w w':World} {bo bs B:Nat} (h:Zv w w' bo bs) (hB:B <= w.heap.size) (h1:B <= bo) (h2:B <= bs):Below B w w':=
 ⟨h.os,h.tape,h.output,h.size,fun i hi=>h.block i (by omega) (by omega) (by omega)⟩
theorem zLh {xs:List OpR} {k:Nat} {D:DataW Unit} (hm:IsMap D) (hs:(atO xs k).s.size <= maxLen) (hk:(Lit.int .i64 (atO xs k).k).wf = true)
  (h:∀ (s:ByteArray) (kd:Int),s.size <= maxLen -> (Lit.int .i64 kd).wf = true -> (Maps.has D (klO s kd) = true ↔ ∃ j,j < k /\ (atO xs j).s = s /\ (atO xs j).k = kd) /\ (Maps.has D (klO s kd) = true -> ∃ j,j < k /\ (atO xs j).s = s /\ (atO xs j).k = kd /\ D.atKey (klO s kd) (Z3 ⟨#[]⟩ 0 0 0) = Z3 (atO xs j).s (atO xs j).k (atO xs j).l (atO xs j).sd)) :
  ∀ (s:ByteArray) (kd:Int),s.size <= maxLen -> (Lit.int .i64 kd).wf = true -> (Maps.has (D.put (klO (atO xs k).s (atO xs k).k) (Z3 (atO xs k).s (atO xs k).k (atO xs k).l (atO xs k).sd)) (klO s kd) = true ↔ ∃ j,j < k + 1 /\ (atO xs j).s = s /\ (atO xs j).k = kd) /\ (Maps.has (D.put (klO (atO xs k).s (atO xs k).k) (Z3 (atO xs k).s (atO xs k).k (atO xs k).l (atO xs k).sd)) (klO s kd) = true -> ∃ j,j < k + 1 /\ (atO xs j).s = s /\ (atO xs j).k = kd /\ (D.put (klO (atO xs k).s (atO xs k).k) (Z3 (atO xs k).s (atO xs k).k (atO xs k).l (atO xs k).sd)).atKey (klO s kd) (Z3 ⟨#[]⟩ 0 0 0) = Z3 (atO xs j).s (atO xs j).k (atO xs j).l (atO xs j).sd):=by
 intro s kd hs' hk'
 by_cases e:klO s kd = klO (atO xs k).s (atO xs k).k
 ·obtain ⟨e1,e2⟩:=zHB hs' hs hk' hk e
  rw [e,has_put_same hm (zFx.key (zHA hs hk)),atKey_put_same hm (zFx.key (zHA hs hk))]
  exact ⟨⟨fun _=>⟨k,by omega,e1.symm,e2.symm⟩,fun _=>rfl⟩,fun _=>⟨k,by omega,e1.symm,e2.symm,rfl⟩⟩
 ·rw [has_put_other e,atKey_put_other e]
  obtain ⟨h1,h2⟩:=h s kd hs' hk'
  refine ⟨?_,fun hh=>?_⟩
  ·rw [h1]
   constructor
   ·rintro ⟨j,a,b,c⟩; exact ⟨j,by omega,b,c⟩
   ·rintro ⟨j,a,b,c⟩
    by_cases ej:j = k
    ·subst ej; exact absurd (by rw [b,c]) e
    ·exact ⟨j,by omega,b,c⟩
  ·obtain ⟨j,a,b,c,d⟩:=h2 hh
   exact ⟨j,by omega,b,c,d⟩
theorem zKN {xs:List OpR} {k:Nat} {D:DataW Unit} (hm:IsMap D) (hl:(Lit.int .i64 (atO xs k).l).wf = true)
  (h:∀ l:Int,(Lit.int .i64 l).wf = true -> (Maps.has D (.int .i64 l) = true ↔ ∃ j,j < k /\ (atO xs j).l = l) /\
   ∀ c:Int,D.atKey (.int .i64 l) (.lit (.int .i64 0)) = .lit (.int .i64 c) -> Maps.has D (.int .i64 l) = true -> ∃ j,j < k /\ (atO xs j).l = l /\ srt (atO xs j).k (atO xs j).sd = c) :
  ∀ l:Int,(Lit.int .i64 l).wf = true -> (Maps.has (D.put (.int .i64 (atO xs k).l) (.lit (.int .i64 (srt (atO xs k).k (atO xs k).sd)))) (.int .i64 l) = true ↔ ∃ j,j < k + 1 /\ (atO xs j).l = l) /\
   ∀ c:Int,(D.put (.int .i64 (atO xs k).l) (.lit (.int .i64 (srt (atO xs k).k (atO xs k).sd)))).atKey (.int .i64 l) (.lit (.int .i64 0)) = .lit (.int .i64 c) -> Maps.has (D.put (.int .i64 (atO xs k).l) (.lit (.int .i64 (srt (atO xs k).k (atO xs k).sd)))) (.int .i64 l) = true -> ∃ j,j < k + 1 /\ (atO xs j).l = l /\ srt (atO xs j).k (atO xs j).sd = c:=by
 intro l hl'
 by_cases e:l = (atO xs k).l
 ·subst e
  rw [has_put_same hm (zLK.key (zMM hl)),atKey_put_same hm (zLK.key (zMM hl))]
  refine ⟨⟨fun _=>⟨k,by omega,rfl⟩,fun _=>rfl⟩,fun c hc _=>⟨k,by omega,rfl,by simpa using hc⟩⟩
 ·have e':Lit.int .i64 l ≠ Lit.int .i64 (atO xs k).l:=fun x=>e (by simpa using x)
  rw [has_put_other e',atKey_put_other e']
  obtain ⟨h1,h2⟩:=h l hl'
  refine ⟨?_,fun c hc hh=>?_⟩
  ·rw [h1]
   constructor
   ·rintro ⟨j,a,b⟩; exact ⟨j,by omega,b⟩
   ·rintro ⟨j,a,b⟩
    by_cases ej:j = k
    ·subst ej; exact absurd b.symm e
    ·exact ⟨j,by omega,b⟩
  ·obtain ⟨j,a,b,d⟩:=h2 c hc hh
   exact ⟨j,by omega,b,d⟩
def zFb (w wr:World) (bo bs:Nat) (o:OpR):Prop:=
 (wr.cell? ⟨w.heap.size,0,none⟩ = some (.map (some bo)) /\ wr.cell? ⟨w.heap.size,1,none⟩ = some (.map (some bs))) /\
 wr.cell? ⟨w.heap.size + 1,0,none⟩ = some (.string o.s) /\ wr.cell? ⟨w.heap.size + 1,1,none⟩ = some (.int .i64 o.k) /\ wr.cell? ⟨w.heap.size + 1,2,none⟩ = some (.int .i64 o.l) /\ wr.cell? ⟨w.heap.size + 1,3,none⟩ = some (.int .i64 o.sd)
theorem zFb.step {w wr wr':World} {bo bs:Nat} {o:OpR} (h:zFb w wr bo bs o) (hk:Zv wr wr' bo bs) (hz:w.heap.size + 1 < wr.heap.size) (h1:bo < w.heap.size) (h2:bs < w.heap.size):zFb w wr' bo bs o:=by
 obtain ⟨⟨a,b⟩,c,d,e,f⟩:=h
 have e0:=hk.cell (b:=w.heap.size) (by omega) (by omega) (by omega)
 have e1:=hk.cell (b:=w.heap.size + 1) (by omega) (by omega) (by omega)
 exact ⟨⟨(e0 _).trans a,(e0 _).trans b⟩,(e1 _).trans c,(e1 _).trans d,(e1 _).trans e,(e1 _).trans f⟩
theorem zFb.start (w:World) (bo bs:Nat) (o:OpR) (t t':TypeId) :
  zFb w ((w.alloc (.cells #[.map (some bo),.map (some bs)] t)).alloc (.cells #[.string o.s,.int .i64 o.k,.int .i64 o.l,.int .i64 o.sd] t')) bo bs o:=by
 refine ⟨⟨?_,?_⟩,?_,?_,?_,?_⟩ <;> simp [go_sem]
theorem zJo (bo bs k:Nat) (xs:List OpR) (w:World) (hi:Idx w bo bs xs k) (hok:zAD xs (k + 1)) (hs:(atO xs k).s.size <= maxLen) (hk:k < 1048576) :
  Calls Tryz.prog 77 #[.agg #[.map (some bo),.map (some bs)],.agg #[.string (atO xs k).s,.int .i64 (atO xs k).k,.int .i64 (atO xs k).l,.int .i64 (atO xs k).sd]] w fun e w'=>e = .returned (.tuple #[]) /\ Idx w' bo bs xs (k + 1) /\ Zv w w' bo bs:=by
 obtain ⟨⟨D,hown,hD⟩,⟨E,howns,hE⟩,hne⟩:=hi
 have hok1:=hok k (by omega)
 have hkm:k < maxLen:=by unfold maxLen; omega
 have HK:=zB (zHA hs (zEJ hok1))
 have HL:=zB (zMM (zDt hok1))
 have HS:=zB (zNW hok1)
 have hso:=zB (show okB (atO xs k).s (atO xs k).k (atO xs k).l (atO xs k).sd = true from hok1)
 have HD:=zB (zLh hown.isMap hs (zEJ hok1) hD)
 have HE:=zB (zKN howns.isMap (zDt hok1) hE)
 have hlo:=hown.lt
 have hls:=howns.lt
 clear hD hE hok hok1
 go_enter Tryz.func77,Tryz.ntmps77
 go_wp2_with (first | (at_mapUpdate; refine wpList_mapUpdate_own _ rfl _ _ _ 66 rfl 161 123 zFx Tryz.underlying66 Zp bo k D rfl ((hown.alloc _).alloc _) hkm _ _ _ rfl rfl (zA HK) (Z3 (atO xs k).s (atO xs k).k (atO xs k).l (atO xs k).sd) [] (zB8 _ _ _ _) ?_; intro w1 hown1 hgrow1; go_frame))
 have hk01:=Zv.of_grown1 (bs:=bs) hgrow1
 have hbx1:=(zFb.start w bo bs (atO xs k) 69 123).step hk01 (by simp) hlo hls
 have hz1:w.heap.size + 1 < w1.heap.size:=by have:=hk01.size; simp at this; omega
 have howns1:=((howns.alloc (.cells #[.map (some bo),.map (some bs)] 69)).alloc (.cells #[.string (atO xs k).s,.int .i64 (atO xs k).k,.int .i64 (atO xs k).l,.int .i64 (atO xs k).sd] 123)).kept hgrow1 (fun e=>hne (Option.some.inj e).symm)
 have HK0:=zB ((Zv.of_below (bo:=bo) (bs:=bs) ((zC w (.cells #[.map (some bo),.map (some bs)] 69)).alloc (by simp) (.cells #[.string (atO xs k).s,.int .i64 (atO xs k).k,.int .i64 (atO xs k).l,.int .i64 (atO xs k).sd] 123))).trans hk01)
 obtain ⟨⟨m0,m1⟩,c0,c1,c2,c3⟩:=hbx1
 clear hgrow1 hk01 hown howns
 go_region_held (fun w'=>(w'.cell? ⟨w.heap.size,0,none⟩ = some (.map (some bo)) /\ w'.cell? ⟨w.heap.size,1,none⟩ = some (.map (some bs))) /\
  w'.cell? ⟨w.heap.size + 1,0,none⟩ = some (.string (atO xs k).s) /\ w'.cell? ⟨w.heap.size + 1,1,none⟩ = some (.int .i64 (atO xs k).k) /\ w'.cell? ⟨w.heap.size + 1,2,none⟩ = some (.int .i64 (atO xs k).l) /\ w'.cell? ⟨w.heap.size + 1,3,none⟩ = some (.int .i64 (atO xs k).sd)) (go_keep)
  (first | (go_at_call 124; refine (zE9 _ _ _ _ _ (zA hso)).mono ?_; rintro e w2 ⟨rfl,hb2⟩; have hbx2:=zFb.step (w:=w) (wr:=w1.drew) (bo:=bo) (bs:=bs) (o:=atO xs k) ⟨⟨m0,m1⟩,c0,c1,c2,c3⟩ (Zv.of_below hb2) hz1 hlo hls; have howns2:=howns1.drew.kept (w':=w2) (row:=none) ⟨hb2.os,hb2.tape,hb2.output,hb2.size,fun i hi _=>hb2.block i hi⟩ (by simp); have hown2:=hown1.drew.kept (w':=w2) (row:=none) ⟨hb2.os,hb2.tape,hb2.output,hb2.size,fun i hi _=>hb2.block i hi⟩ (by simp); obtain ⟨w3,hrun3,howns3,hgr3⟩:=howns2.update zLK Tryz.underlying67 hkm (zA HL) (plainElem_int Tryz.underlying3 (zA HS)); have hbx3:=hbx2.step (Zv.of_grown2 hgr3) (Nat.lt_of_lt_of_le hz1 hb2.size) hlo hls; have hown3:=hown2.kept hgr3 (fun e=>hne (Option.some.inj e)); have HK3:=zB (((zA HK0).trans (Zv.of_below ((Below.refl _ _).drew.trans hb2))).trans (Zv.of_grown2 hgr3)); obtain ⟨⟨n0,n1⟩,d0,d1,d2,d3⟩:=hbx2; obtain ⟨⟨o0,o1⟩,f0,f1,f2,f3⟩:=hbx3))
 go_wp2
 go_end0
 exact ⟨rfl,⟨⟨_,hown3,zA HD⟩,⟨_,howns3,zA HE⟩,hne⟩,zA HK3⟩
end Go.Proofs.YtfboipappaonhaaGreat
