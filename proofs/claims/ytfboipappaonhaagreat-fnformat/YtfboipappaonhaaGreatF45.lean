import Derived.Deep.RegionHeldLaw
import Derived.Defers
import Derived.Recover
import Derived.Laws.Pointers
import Derived.Test.YtfboipappaonhaaGreatF16
import Derived.Test.YtfboipappaonhaaGreatF32
import Derived.Test.YtfboipappaonhaaGreatF33
import Derived.Test.YtfboipappaonhaaGreatF44
namespace Go.Proofs.YtfboipappaonhaaGreat
set_option linter.unusedSimpArgs false
set_option linter.unusedVariables false
set_option maxHeartbeats 16000000
set_option maxRecDepth 100000
open Go.RowKit Go.Maps
theorem zIf {ns:List OpR} {left:Lit->Bool} {t:ByteArray} {k:Int} (h:zCa ns) (ha:(zn ns t 2=true/\k=3)\/(zn ns t 3=true/\k=2)):dnL ns left t k=false:=by
 unfold dnL
 rcases ha with ⟨h1,rfl⟩ | ⟨h1,rfl⟩
 ·cases e:zn ns t 3 with
  | false=>rfl
  | true=>exact absurd ⟨h1,e⟩ (h t)
 ·cases e:zn ns t 2 with
  | false=>rfl
  | true=>exact absurd ⟨e,h1⟩ (h t)
theorem zH2 (bo bs g o c:Nat) (ns:List OpR) (ts:List zK) (w:World) (hi:Idx w bo bs ns ns.length) (hcd:zM ns 0) (hsz:ZV ns) (hm:ns.length<=1048576) (ht:zCS w g o ts) (hg:g<w.heap.size) :
  Calls Tryz.prog 42 #[.agg #[.map (some bo),.map (some bs)],.slice (some ⟨g,o,none⟩) ts.length c] w fun x w'=>zPa w g o c ns ts x w'/\Below w.heap.size w w':=by
 have hmm:=@run_makeMap Tryz.prog
 obtain ⟨⟨D,hown,hD⟩,_,_⟩:=hi
 have hbl:=hown.lt
 have HOK:=zB (zBd hcd)
 have HV:=zB (zAL (zBd hcd))
 have HAP:=zB (zHh hcd)
 have HC:=zB hcd
 have HZ:=zB hsz
 have HD:=zB hD
 have HT:=zB ht
 obtain ⟨W3,hW3⟩:∃ W3,W3=(((w.alloc (.cells #[.map (some bo),.map (some bs)] 69)).alloc (.map #[] 0)).alloc (.map #[] 0)).alloc (.cells #[.slice (some ⟨g,o,none⟩) ts.length c,.int .i64 0,.map (some (w.heap.size+1)),.map (some (w.heap.size+1+1))] 157):=⟨_,rfl⟩
 have bel3:Below w.heap.size w W3:=by rw [hW3]; exact (((zC _ _).alloc (by simp) _).alloc (by simp; omega) _).alloc (by simp; omega) _
 have z3:W3.heap.size=w.heap.size+4:=by rw [hW3]; simp
 have own3:W3.ownsMap Tryz.prog 161 Z7 bo ns.length D:=hown.kept (row:=none) ⟨bel3.os,bel3.tape,bel3.output,bel3.size,fun i hi _=>bel3.block i hi⟩ (by simp)
 have s13:zCK W3 (w.heap.size+1) 0 (fun _=>none):=by
  rw [hW3]
  have:=zCK.made (w.alloc (.cells #[.map (some bo),.map (some bs)] 69))
  simp only [World.size_alloc] at this
  exact (this.kept (zZ (zC _ _) none) (by simp)).kept (zZ (zC _ _) none) (by simp)
 have s23:zCK W3 (w.heap.size+1+1) 0 (fun _=>none):=by
  rw [hW3]
  have:=zCK.made ((w.alloc (.cells #[.map (some bo),.map (some bs)] 69)).alloc (.map #[] 0))
  simp only [World.size_alloc] at this
  exact this.kept (zZ (zC _ _) none) (by simp)
 have pr3:Zi W3 (w.heap.size+1+1+1) g o ts.length c 0 (w.heap.size+1) (w.heap.size+1+1):=by
  rw [hW3]
  exact ⟨by simp [go_sem],by simp [go_sem],by simp [go_sem],by simp [go_sem],by simp [go_sem]⟩
 have x3:W3.cell? ⟨w.heap.size,0,none⟩=some (.map (some bo)):=by rw [hW3]; simp [go_sem]
 obtain ⟨w4,hrun,s14,k4⟩:=s13.update (ty:=154) Tryz.underlying154 (by unfold maxLen; omega) (t:=⟨#[40]⟩) (by decide) (.func (.func 82) #[.pointer (some ⟨w.heap.size+1+1+1,0,none⟩)] #[])
 have own4:=zB (own3.kept (ze k4) (fun e=>by injection e; omega))
 have s24:=s23.kept (ze k4) (fun e=>by injection e; omega)
 have pr4:=pr3.keptO k4 (by omega)
 have x4:w4.cell? ⟨w.heap.size,0,none⟩=some (.map (some bo)):=(k4.cell (by omega) (by omega) 0).trans x3
 have bel4:Below w.heap.size w w4:=bel3.trans (k4.below bel3.size (by omega))
 have z4:w.heap.size+4<=w4.heap.size:=by have:=k4.size; omega
 have HI4:=zB (And.intro s14 (And.intro s24 (And.intro pr4 bel4)))
 have HAT:=zB (show zIe w.heap.size bo (w.heap.size+1+1+1) (w.heap.size+1) (w.heap.size+1+1) w4.heap.size from ⟨by omega,by omega,by omega,by omega,by omega,by omega,by omega,by omega,by omega,by omega,hbl⟩)
 rw [hW3] at hrun
 clear s13 s23 pr3 x3 own3 bel3 s14 s24 pr4 bel4 k4 z3 hW3 hD hcd hsz ht
 go_enter Tryz.func42,Tryz.ntmps42
 go_wp2_with (at_range; refine wpList_range_own _ rfl _ 66 rfl 161 123 zHt Tryz.underlying66 Z7 bo ns.length D rfl (zA own4) ?_; intro w0 hrg0 hg0 hs0)
 have HI0:=zB (show zAT w w0 ns D bo (w.heap.size+1+1+1) (w.heap.size+1) (w.heap.size+1+1) w4.heap.size (Maps.size D+1) g o ts.length c (Maps.has D) (dnL ns (Maps.has D)) (Maps.size D) (0+1) 0 (fun t'=>if t'.data=(⟨#[40]⟩:ByteArray).data then some (.func (.func 82) #[.pointer (some ⟨w.heap.size+1+1+1,0,none⟩)] #[]) else none) (fun _=>none) by
  obtain ⟨h1,h2,h3,h4⟩:=zA HI4
  have hbb:Below w4.heap.size w4 w0:=⟨hg0.os,hg0.tape,hg0.output,hg0.size,fun i hi=>hg0.block i hi (by simp)⟩
  have hdn:∀ t k,dnL ns (Maps.has D) t k=false:=fun t k=>by
   unfold dnL
   cases e:zn ns t k with
   | false=>rfl
   | true=>
    obtain ⟨j,hj,e1,e2⟩:=(ZQ _ _ _).1 e
    have:=(((zA HD) t k (by rw [<- e1]; exact (zA HZ) j hj) (by rw [<- e2]; exact zFv ((zA HOK) j hj))).1).2 ⟨j,hj,e1,e2⟩
    rw [this]; rfl
  refine ⟨hrg0,fun kl h=>h,h1.kept (zZ hbb none) (by simp),h2.kept (zZ hbb none) (by simp),by omega,by omega,⟨rfl,fun t hto=>⟨fun _=>if_neg (fun e=>hto (zDE e)),fun e=>?_⟩⟩,fun t=>⟨fun _ _=>rfl,fun e=>?_,fun e=>?_⟩,h3.below hbb,by omega,h4.trans (hbb.mono h4.size)⟩
  ·rw [hdn] at e; cases e
  ·rw [hdn] at e; cases e
  ·rw [hdn] at e; cases e)
 have HSD:=zB (show Maps.size D<=1048576 from Nat.le_trans (zA own4).size_le hm)
 clear hrg0 hg0 HI4 own4 x4 hrun hown hmm
 go_loopw [7] (fun _ wr=>∃ (left:Lit->Bool) (cnt m1 m2:Nat) (G1 G2:ByteArray->Option Value),Hid (zAT w wr ns D bo (w.heap.size+1+1+1) (w.heap.size+1) (w.heap.size+1+1) w4.heap.size (Maps.size D+1) g o ts.length c left (dnL ns left) cnt m1 m2 G1 G2)) (fun _ wr=>wr.rangeLeft bo w4.heap.size)
 case atStart=>exact ⟨_,_,_,_,_,_,HI0⟩
 case round=>
  clear HI0 hs0
  obtain ⟨left,cnt,m1,m2,G1,G2,HIV⟩:=hrel
  go_wp2_with (at_next; refine wpList_next_ranges _ rfl _ rfl 161 zHt Z7 (fun x:ByteArray×Int=>.agg #[.string x.1,.int .i64 x.2]) (fun c:ByteArray×Int×Int×Int=>.agg #[.string c.1,.int .i64 c.2.1,.int .i64 c.2.2.1,.int .i64 c.2.2.2]) (fun key kl h=>zHk h) (fun v y h=>zFU h) bo w4.heap.size ns.length D left cnt rfl (zA HIV).rg ?_ ?_)
  ·intro hc0 hl0
   have HPC:=zB ((zA HIV).done (zA HAT) hl0 (zA HT) hg)
   have HBE:=zB (zA HIV).bel
   go_wp2
   go_ret
   exact ⟨⟨_,_,_,rfl,by omega,zB (zA HPC).1,zB (zA HPC).2⟩,zA HBE⟩
  ·intro s kd s2 k2 l2 sd2 kl yd yp w1 cnt1 hkey hlk hvv hat hrg1 hlt hg1 hs1 hen
   obtain ⟨s',kd',he,hss,hkw⟩:=zHj hkey
   simp only [Value.agg.injEq,Array.mk.injEq,List.cons.injEq,Value.string.injEq,Value.int.injEq,true_and,and_true] at he
   obtain ⟨rfl,rfl⟩:=he
   have hkl:kl=klO s kd:=by
    have:=zJD hss hkw
    rw [this] at hkey
    injection hkey with hkey
    exact hkey.symm
   subst hkl
   obtain ⟨q,j,hj,hq,rfl,rfl,rfl,rfl,rfl,rfl⟩:∃ q:OpR,∃ j,j<ns.length/\atO ns j=q/\s=q.s/\kd=q.k/\s2=q.s/\k2=q.k/\l2=q.l/\sd2=q.sd:=by
    obtain ⟨j,hj,e⟩:=zMr ((zA HD) s kd hss hkw).2 ((zA HIV).sub _ hlk) hvv hat
    exact ⟨_,j,hj,rfl,e⟩
   have HKD:=zB (show q.k=1\/q.k=2\/q.k=3 by rw [<- hq]; exact zGj ((zA HOK) j hj))
   have HSG:=zB (show q.s≠opn from fun e=>by have:=(zFj (t:=opn) (zA HV) ⟨j,hj,by rw [hq]; exact e⟩).1; revert this; decide)
   have HB:=zB (show zn ns q.s q.k=true by rw [<- hq]; exact zPZ hj)
   have HMO:=zB (zOZ (left:=left) (zA HZ) (zA HOK) hss hkw (zA HB))
   have HI1:=zB ((zA HIV).next (zA HAT) hrg1 (fun z h=>by simp only [Bool.and_eq_true] at h; exact h.1) hlt (zE.of_grown hg1))
   have HN1:=zB (show m1+1+cnt1<=Maps.size D+1 by have:=(zA HIV).n1; omega)
   have HN2:=zB (show m2+1+cnt1<=Maps.size D+1 by have:=(zA HIV).n2; omega)
   have HMs1:m1<maxLen:=by have:=zA HN1; have:=zA HSD; unfold maxLen; omega
   have HMs2:m2<maxLen:=by have:=zA HN2; have:=zA HSD; unfold maxLen; omega
   have HLF:=zB (zA HIV).rg.left_eq
   have HOA:=zB (show ∀ b:Nat,(b:Int)-2=q.k->opA ns (rt b q.s)=q from fun b h=>by rw [<- hq] at h ⊢; exact zQW (zA HC) hj h)
   have HQS:q.s.size<=maxLen:=hss
   have HLT:=zB hlt
   have HI2:=zB ((zA HI1).step (zC w1 (.cells #[.string q.s,.int .i64 q.k,.int .i64 q.l,.int .i64 q.sd] 123)))
   have HOC:=zB (show OpC (w1.alloc (.cells #[.string q.s,.int .i64 q.k,.int .i64 q.l,.int .i64 q.sd] 123)) w1.heap.size q from ⟨by simp [go_sem],by simp [go_sem],by simp [go_sem],by simp [go_sem]⟩)
   have belD:Below (w1.alloc (.cells #[.string q.s,.int .i64 q.k,.int .i64 q.l,.int .i64 q.sd] 123)).heap.size (w1.alloc (.cells #[.string q.s,.int .i64 q.k,.int .i64 q.l,.int .i64 q.sd] 123)) (w1.alloc (.cells #[.string q.s,.int .i64 q.k,.int .i64 q.l,.int .i64 q.sd] 123)).drew:=(Below.refl _ _).drew
   have hw1:w4.heap.size<w1.heap.size:=(zA HI1).sz
   have HNZ:w1.heap.size≠0:=by omega
   have hpA:=(zA HI2).pr.2.2.1
   have hpB:=(zA HI2).pr.2.2.2.1
   clear hkey hlk hvv hat HIV hg1 hlt hq hss hkw HI1 hrg1 hs1
   have HLO:w4.heap.size+1<=(w1.alloc (.cells #[.string q.s,.int .i64 q.k,.int .i64 q.l,.int .i64 q.sd] 123)).drew.heap.size:=by simp; omega
   rcases zA HKD with hk | hk | hk
   ·have e1:(q.k==1)=true:=by rw [hk]; rfl
    have HK:=zB hk
    have HNB:w1.heap.size≠w.heap.size+1:=by omega
    have HM1:=zB (show zFT (dnL ns left) (dnL ns fun z=>left z&&!z.sameKey (klO q.s q.k)) q.s 1 by have:=zA HMO; rw [hk] at this ⊢; exact this)
    have HQA:=zB ((zA HOA) 3 (by rw [hk]; decide))
    clear hk HKD HB
    go_wp2_with fail
    go_region_held (fun w'=>w'.cell? ⟨w.heap.size+1+1+1,2,none⟩=some (.map (some (w.heap.size+1)))/\w'.cell? ⟨w1.heap.size,0,none⟩=some (.string q.s)/\w'.cell? ⟨w1.heap.size,1,none⟩=some (.int .i64 q.k)/\w'.cell? ⟨w1.heap.size,2,none⟩=some (.int .i64 q.l)/\w'.cell? ⟨w1.heap.size,3,none⟩=some (.int .i64 q.sd)) (first | (go_keep; done) | exact ⟨(zA HI6).pr.2.2.1,(zA HO6).1,(zA HO6).2.1,(zA HO6).2.2.1,(zA HO6).2.2.2⟩ | exact ⟨(zA HI5).pr.2.2.1,(zA HO5).1,(zA HO5).2.1,(zA HO5).2.2.1,(zA HO5).2.2.2⟩ | exact ⟨(zA HI2).pr.2.2.1,(zA HOC).1,(zA HOC).2.1,(zA HOC).2.2.1,(zA HOC).2.2.2⟩)
     (first | (go_at_call 83; refine (zHi (w.heap.size+1+1+1) q _ HQS).mono ?_; rintro x w5 ⟨⟨v,rfl,HR⟩,hb5⟩; have HI5:=zB ((zA HI2).step (belD.trans hb5)); have HO5:=zB ((zA HOC).kept (zE.of_below (g:=0) (belD.trans hb5)) HNZ); obtain ⟨w6,hrun6,hs6,hk6⟩:=(zA HI5).s1.update (ty:=154) Tryz.underlying154 HMs1 (t:=q.s) HQS v; have HI6:=zB ((zA HI5).put1 (zA HAT) (zA HM1) (zA HSG) (by rw [zA HQA]; exact (show zCg _ w5 132 (w.heap.size+1+1+1) q v from zA HR).low HLO) (zA HN1) hs6 hk6); have HO6:=zB ((zA HO5).kept hk6 HNB); clear hb5))
    go_wp2_with fail
    refine ⟨⟨_,_,_,_,_,_,HI6⟩,?_⟩
    rw [zA HLF,(zA HI6).rg.left_eq]
    exact zA HLT
   ·have e1:(q.k==1)=false:=by rw [hk]; rfl
    have e2:(q.k==2)=true:=by rw [hk]; rfl
    have HK:=zB hk
    have HNB:w1.heap.size≠w.heap.size+1+1:=by omega
    have HM1:=zB (show zFT (dnL ns left) (dnL ns fun z=>left z&&!z.sameKey (klO q.s q.k)) q.s 2 by have:=zA HMO; rw [hk] at this ⊢; exact this)
    have HQA:=zB ((zA HOA) 4 (by rw [hk]; decide))
    have HAB:=zB (show dnL ns left q.s 3=false from zIf (zA HAP) (by have:=zA HB; rw [hk] at this; exact Or.inl ⟨this,rfl⟩))
    clear hk HKD HB
    go_wp2_with fail
    go_region_held (fun w'=>w'.cell? ⟨w.heap.size+1+1+1,3,none⟩=some (.map (some (w.heap.size+1+1)))/\w'.cell? ⟨w1.heap.size,0,none⟩=some (.string q.s)/\w'.cell? ⟨w1.heap.size,1,none⟩=some (.int .i64 q.k)/\w'.cell? ⟨w1.heap.size,2,none⟩=some (.int .i64 q.l)/\w'.cell? ⟨w1.heap.size,3,none⟩=some (.int .i64 q.sd)) (first | (go_keep; done) | exact ⟨(zA HI6).pr.2.2.2.1,(zA HO6).1,(zA HO6).2.1,(zA HO6).2.2.1,(zA HO6).2.2.2⟩ | exact ⟨(zA HI5).pr.2.2.2.1,(zA HO5).1,(zA HO5).2.1,(zA HO5).2.2.1,(zA HO5).2.2.2⟩ | exact ⟨(zA HI2).pr.2.2.2.1,(zA HOC).1,(zA HOC).2.1,(zA HOC).2.2.1,(zA HOC).2.2.2⟩)
     (first | (go_at_call 84; refine (zH1 (w.heap.size+1+1+1) q _ HQS).mono ?_; rintro x w5 ⟨⟨v,rfl,HR⟩,hb5⟩; have HI5:=zB ((zA HI2).step (belD.trans hb5)); have HO5:=zB ((zA HOC).kept (zE.of_below (g:=0) (belD.trans hb5)) HNZ); obtain ⟨w6,hrun6,hs6,hk6⟩:=(zA HI5).s2.update (ty:=155) Tryz.underlying155 HMs2 (t:=q.s) HQS v; have HI6:=zB ((zA HI5).put2 (zA HAT) (zA HM1) (zA HAB) (by rw [zA HQA]; exact (show zD4 _ w5 133 (w.heap.size+1+1+1) q v from zA HR).low HLO) (zA HN2) hs6 hk6); have HO6:=zB ((zA HO5).kept hk6 HNB); clear hb5))
    go_wp2_with fail
    refine ⟨⟨_,_,_,_,_,_,HI6⟩,?_⟩
    rw [zA HLF,(zA HI6).rg.left_eq]
    exact zA HLT
   ·have e1:(q.k==1)=false:=by rw [hk]; rfl
    have e2:(q.k==2)=false:=by rw [hk]; rfl
    have e3:(q.k==3)=true:=by rw [hk]; rfl
    have HK:=zB hk
    have HNB:w1.heap.size≠w.heap.size+1+1:=by omega
    have HM1:=zB (show zFT (dnL ns left) (dnL ns fun z=>left z&&!z.sameKey (klO q.s q.k)) q.s 3 by have:=zA HMO; rw [hk] at this ⊢; exact this)
    have HQA:=zB ((zA HOA) 5 (by rw [hk]; decide))
    have HAB:=zB (show dnL ns left q.s 2=false from zIf (zA HAP) (by have:=zA HB; rw [hk] at this; exact Or.inr ⟨this,rfl⟩))
    clear hk HKD HB
    go_wp2_with fail
    go_region_held (fun w'=>w'.cell? ⟨w.heap.size+1+1+1,3,none⟩=some (.map (some (w.heap.size+1+1)))/\w'.cell? ⟨w1.heap.size,0,none⟩=some (.string q.s)/\w'.cell? ⟨w1.heap.size,1,none⟩=some (.int .i64 q.k)/\w'.cell? ⟨w1.heap.size,2,none⟩=some (.int .i64 q.l)/\w'.cell? ⟨w1.heap.size,3,none⟩=some (.int .i64 q.sd)) (first | (go_keep; done) | exact ⟨(zA HI6).pr.2.2.2.1,(zA HO6).1,(zA HO6).2.1,(zA HO6).2.2.1,(zA HO6).2.2.2⟩ | exact ⟨(zA HI5).pr.2.2.2.1,(zA HO5).1,(zA HO5).2.1,(zA HO5).2.2.1,(zA HO5).2.2.2⟩ | exact ⟨(zA HI2).pr.2.2.2.1,(zA HOC).1,(zA HOC).2.1,(zA HOC).2.2.1,(zA HOC).2.2.2⟩)
     (first | (go_at_call 85; refine (zGN (w.heap.size+1+1+1) q _ HQS).mono ?_; rintro x w5 ⟨⟨v,rfl,HR⟩,hb5⟩; have HI5:=zB ((zA HI2).step (belD.trans hb5)); have HO5:=zB ((zA HOC).kept (zE.of_below (g:=0) (belD.trans hb5)) HNZ); obtain ⟨w6,hrun6,hs6,hk6⟩:=(zA HI5).s2.update (ty:=155) Tryz.underlying155 HMs2 (t:=q.s) HQS v; have HI6:=zB ((zA HI5).put3 (zA HAT) (zA HM1) (zA HAB) (by rw [zA HQA]; exact (show zCg _ w5 135 (w.heap.size+1+1+1) q v from zA HR).low HLO) (zA HN2) hs6 hk6); have HO6:=zB ((zA HO5).kept hk6 HNB); clear hb5))
    go_wp2_with fail
    refine ⟨⟨_,_,_,_,_,_,HI6⟩,?_⟩
    rw [zA HLF,(zA HI6).rg.left_eq]
    exact zA HLT
end Go.Proofs.YtfboipappaonhaaGreat
namespace Go.Proofs.YtfboipappaonhaaGreat
set_option linter.unusedSimpArgs false
set_option linter.unusedVariables false
set_option maxHeartbeats 16000000
set_option maxRecDepth 100000
open Go.RowKit
def zPy (code place:Int):Ending:=.panicked [{ v:=.iface 146 (.agg #[.int .i64 code,.int .i64 place]),recovered:=false }]
def zPb (ts:List zK) (x:Ending):Prop:=
 (∃ i,i<ts.length/\(atT ts i).k=6/\(∀ j,j<i->(atT ts j).k≠6)/\x=zPy 3 (zGJ ts i:Int))\/((∀ j,j<ts.length->(atT ts j).k≠6)/\x = .returned (.tuple #[]))
theorem zH3 (g o c:Nat) (ts:List zK) (w:World) (hm:ts.length+ZO ts ts.length<=1048576) (hc:ts.length<=c) (hc2:c<=maxLen) (hw:zCS w g o ts) (hB:g<w.heap.size) (hz:∀ i,i<ts.length->(atT ts i).g.size<=1048576) :
  Calls Tryz.prog 40 #[.slice (some ⟨g,o,none⟩) ts.length c] w fun x w'=>zPb ts x/\Below w.heap.size w w':=by
 have HW:=zB hw
 have HZ:=zB hz
 clear hw hz
 go_enter Tryz.func40,Tryz.ntmps40
 go_wp2_with fail
 go_loopw [6] (fun iv wr=>∃ k:Nat,k<=ts.length/\iv = .int .i64 (k:Int)/\Hid (∀ j,j<k->(atT ts j).k≠6)/\Below w.heap.size w wr) (fun iv _=>ts.length-(intOf iv).toNat)
 case atStart=>exact ⟨0,Nat.zero_le _,rfl,zB (fun j hj=>absurd hj (Nat.not_lt_zero j)),Below.refl _ _⟩
 case round=>
  obtain ⟨k,hk,rfl,hno,hbel⟩:=hrel
  by_cases hlt:k<ts.length
  ·have hltI:(k:Int)<(ts.length:Int):=by omega
   obtain ⟨a0,a1,a2⟩:=((zA HW) k hlt).below hbel hB
   have hgr:g<wr.heap.size:=by have:=hbel.size; omega
   have hgn:g≠wr.heap.size:=by omega
   have bel1:Below w.heap.size w (wr.alloc (.cells #[.int .i64 (atT ts k).k,.string (atT ts k).g,.string (atT ts k).t] 97)):=hbel.alloc hbel.size _
   by_cases h6:(atT ts k).k=6
   ·have hb:((atT ts k).k==6)=true:=by rw [h6]; rfl
    have H6:=zB h6
    have HX:=zFJ g o c k ts _ hm hlt hc hc2 (fun j hj=>((zA HW) j hj).below bel1 hB) (by simp; omega) ((zA HZ) k hlt)
    clear h6
    go_wp2_with fail
    refine HX.mono ?_
    rintro x w2 ⟨rfl,hb2⟩
    have bel2:=bel1.trans (hb2.mono bel1.size)
    clear HX hb2
    go_wp2_with fail
    exact ⟨rfl,Or.inl ⟨k,hlt,zA H6,zA hno,rfl⟩,bel2⟩
   ·have hb:((atT ts k).k==6)=false:=by simp [h6]
    have HN2:=zB (show ∀ j,j<k+1->(atT ts j).k≠6 from fun j hj=>by
     by_cases e:j=k
     ·rw [e]; exact h6
     ·exact (zA hno) j (by omega))
    clear h6
    go_wp2_with fail
    exact ⟨⟨k+1,by omega,by go_num,HN2,bel1⟩,by simp [intOf]; omega⟩
  ·have hke:k=ts.length:=by omega
   have HN2:=zB (show ∀ j,j<ts.length->(atT ts j).k≠6 from by rw [<- hke]; exact zA hno)
   have hnl:¬ ((k:Int)<(ts.length:Int)):=by omega
   clear hke
   go_wp2_with fail
   go_end0
   exact ⟨Or.inr ⟨zA HN2,rfl⟩,hbel⟩
theorem zJj (code place:Int) (w:World) :
  Calls Tryz.prog 37 #[.iface 146 (.agg #[.int .i64 code,.int .i64 place])] w fun x w'=>x = .returned (.tuple #[.int .i64 code,.int .i64 place])/\Below w.heap.size w w':=by
 go_enter Tryz.func37,Tryz.ntmps37
 have hta:∀ W:World,(Instr.typeAssert (.iface 146 (.agg #[.int .i64 code,.int .i64 place])) 20 146 true).run Tryz.prog W = .ok (.tuple #[.agg #[.int .i64 code,.int .i64 place],.bool true]) W:=fun W=>by kernel_rfl
 go_wp2_with fail
 go_region
 go_wp2_with fail
 refine bodyPost_ret (v:=.tuple #[.int .i64 code,.int .i64 place]) (by simp [results,Tryz.results37,go_sem]) rfl ⟨rfl,?_⟩
 first
  | exact (zC _ _).drew
  | exact zC _ _
theorem zLa (p q:Addr) (w:World) :
  CallsD Tryz.prog 36 #[.pointer (some p),.pointer (some q)] .returning w fun e u' w'=>e = .returned (.tuple #[])/\u' = .returning/\w'=w:=by
 refine callsD_of_wpS Tryz.func36 rfl fun c₀ cs hu=>?_
 apply wpS_seq
 apply wpS_region
 simp [wpOpsS,go_sem,recoverD,hu,Tryz.ntmps36,Exit.thenS]
 apply wpS_seq
 apply wpS_region
 simp [wpOpsS,go_sem,hu,Tryz.ntmps36,Exit.thenS]
 refine wpS_cond (t:=false) (by simp [Act.eval,Array.replicate]) ?_
 simp only [Bool.false_eq_true,if_false]
 refine wpS_of_wp (wp_skip ?_)
 cases c₀
 simp_all [bodyPostS,results,Tryz.results36]
theorem zGP (p q:Nat) (x y code place:Int) (w:World) (hp:w.cell? ⟨p,0,none⟩=some (.int .i64 x)) (hpz:w.frozen? ⟨p,0,none⟩=false) (hq:w.cell? ⟨q,0,none⟩=some (.int .i64 y)) (hqz:w.frozen? ⟨q,0,none⟩=false) (hne:p≠q) :
  CallsD Tryz.prog 36 #[.pointer (some ⟨p,0,none⟩),.pointer (some ⟨q,0,none⟩)] (.panicking [{ v:=.iface 146 (.agg #[.int .i64 code,.int .i64 place]),recovered:=false }]) w fun e u' w'=>
   e = .returned (.tuple #[])/\u' = .panicking [{ v:=.iface 146 (.agg #[.int .i64 code,.int .i64 place]),recovered:=true }]/\∃ w1,Below w.heap.size w w1/\w'=(w1.setCell ⟨p,0,none⟩ (.int .i64 code)).setCell ⟨q,0,none⟩ (.int .i64 place):=by
 have hpl:=block_lt_of_cell hp
 have hql:=block_lt_of_cell hq
 refine callsD_of_wpS Tryz.func36 rfl fun c₀ cs hu=>?_
 apply wpS_seq
 apply wpS_region
 simp [wpOpsS,go_sem,recoverD,hu,Tryz.ntmps36,Exit.thenS]
 apply wpS_seq
 apply wpS_region
 simp [wpOpsS,go_sem,hu,Tryz.ntmps36,Exit.thenS]
 refine wpS_cond (t:=true) (by simp [Act.eval,Array.replicate]) ?_
 simp only [if_true]
 refine wpS_of_wp ?_
 have HA:=zJj code place w
 go_wp2_with fail
 refine HA.mono ?_
 rintro x1 w1 ⟨rfl,hb1⟩
 have p1:=(hb1.cell (p:=⟨p,0,none⟩) hpl).trans hp
 have p2:=(hb1.frozen (p:=⟨p,0,none⟩) hpl).trans hpz
 have q1:=(hb1.cell (p:=⟨q,0,none⟩) hql).trans hq
 have q2:=(hb1.frozen (p:=⟨q,0,none⟩) hql).trans hqz
 have q3:(w1.setCell ⟨p,0,none⟩ (.int .i64 code)).cell? ⟨q,0,none⟩=some (.int .i64 y):=(World.cell?_setCell_other _ _ _ _ (fun e=>hne (by injection e))).trans q1
 go_wp2_with fail
 refine ⟨rfl,_,rfl,.tuple #[],by simp [results,Tryz.results36,go_sem],rfl,rfl,w1,hb1,rfl⟩
end Go.Proofs.YtfboipappaonhaaGreat
namespace Go.Proofs.YtfboipappaonhaaGreat
set_option linter.unusedSimpArgs false
set_option linter.unusedVariables false
set_option maxHeartbeats 16000000
set_option maxRecDepth 100000
open Go.RowKit Go.Maps
def zPc (ns:List OpR) (ts:List zK) (x:Ending):Prop:=
 (∃ i,i<ts.length/\zBB ns ts i/\zV ns ts i<0/\x=zPy 4 (zGJ ts i:Int))\/(zBB ns ts ts.length/\x = .returned (.tuple #[]))
theorem zFx (bo bs g o c:Nat) (ns:List OpR) (ts:List zK) (w:World) (hm:ts.length+ZO ts ts.length<=1048576) (hc:ts.length<=c) (hc2:c<=maxLen) (hidx:Idx w bo bs ns ns.length) (hcd:zM ns 0) (hw:zCS w g o ts) (hst:zM4 ts) (hB:g<w.heap.size) (hz:∀ i,i<ts.length->(atT ts i).g.size<=1048576)
  (hla:0<ts.length/\(atT ts (ts.length-1)).k=7) :
  Calls Tryz.prog 41 #[.agg #[.map (some bo),.map (some bs)],.slice (some ⟨g,o,none⟩) ts.length c] w fun x w'=>zPc ns ts x/\Below w.heap.size w w':=by
 have HW:=zB hw
 have HZ:=zB hz
 have HLA:=zB hla
 have HC:=zB hcd
 have hb0:=zC w (.cells #[.map (some bo),.map (some bs)] 69)
 have HX:=zLU bo bs g o c ns ts _ (by omega) (hidx.kept hb0) hcd (fun j hj=>(hw j hj).below hb0 hB) hst (by simp; omega)
 have HB0:=zB hb0
 clear hw hz hla hidx hst hcd hb0
 go_enter Tryz.func41,Tryz.ntmps41
 go_wp2_with fail
 refine HX.mono ?_
 rintro x w1 ⟨⟨a,c1,us,v,rfl,_,hr⟩,hb1⟩
 have bel1:Below w.heap.size w w1:=(zA HB0).trans (hb1.mono (by simp))
 clear HX HB0 hb1
 rcases hr with ⟨hn,_⟩ | ⟨_,⟨i,hi,hf,hro,rfl,rfl⟩ | ⟨hf,⟨_,rfl,rfl⟩ | ⟨hn,_⟩⟩⟩
 ·exact absurd (zA HC) hn
 ·have hb:((i:Int) != -1)=true:=by first | (simp; done) | (simp; omega)
  have HF:=zB (And.intro hf hro)
  have HX:=zFJ g o c i ts w1 hm hi hc hc2 (fun j hj=>((zA HW) j hj).below bel1 hB) (by have:=bel1.size; omega) ((zA HZ) i hi)
  clear hf hro
  go_wp2_with fail
  refine HX.mono ?_
  rintro x w2 ⟨rfl,hb2⟩
  have bel2:=bel1.trans (hb2.mono bel1.size)
  clear HX hb2
  go_wp2_with fail
  exact ⟨rfl,Or.inl ⟨i,hi,(zA HF).1,(zA HF).2,rfl⟩,bel2⟩
 ·have HF:=zB hf
  clear hf
  go_wp2_with fail
  go_end0
  exact ⟨Or.inr ⟨zA HF,rfl⟩,bel1⟩
 ·exact absurd (zA HLA) hn
end Go.Proofs.YtfboipappaonhaaGreat
namespace Go.Proofs.YtfboipappaonhaaGreat
set_option maxHeartbeats 16000000
set_option maxRecDepth 100000
open Go.RowKit Go.Maps
theorem zME {W:World} {p bo bs L:Nat} {xs:List OpR} {s:ByteArray} (hsc:Sc W p bo bs L s 0 0 (.slice none 0 0)) (hi:Idx W bo bs xs xs.length) (h1:bo<p) (h2:bs<p):zCM W W p bo bs L xs s 0 0 [] (.slice none 0 0):=
 ⟨hsc,World.ownsRow_nil _ _ _ _,by simp [Value.ownBlock],hi,Below.refl _ _,zG8.start xs s,fun q h1 h2=>by omega,Nat.le_refl _,Nat.zero_le _,h1,h2⟩
theorem zKi {w2:World} {bo bs L:Nat} {xs:List OpR} {s:ByteArray} (hi:Idx w2 bo bs xs xs.length) (h1:bo<w2.heap.size) (h2:bs<w2.heap.size) :
  zCM (w2.alloc (.cells #[.map (some bo),.map (some bs),.int .i64 (L:Int),.string s,.int .i64 0,.int .i64 0,.slice none 0 0] 152)) (w2.alloc (.cells #[.map (some bo),.map (some bs),.int .i64 (L:Int),.string s,.int .i64 0,.int .i64 0,.slice none 0 0] 152)) w2.heap.size bo bs L xs s 0 0 [] (.slice none 0 0):=by
 refine zME ⟨?_,?_,?_,?_,?_,?_,?_,fun o=>?_⟩ (hi.kept (zC _ _)) h1 h2
 all_goals simp [go_sem]
theorem zDn (g:Nat):∀ (vs:List Value) (o:Nat) (w:World) (q:Addr),(w.setCells g o vs).frozen? q=w.frozen? q
 | [],_,_,_=>rfl
 | v::r,o,w,q=>(zDn g r (o+1) (w.setCell ⟨g,o,none⟩ v) q).trans (World.frozen?_setCell _ _ _ _)
theorem zCr (g i:Nat) (hne:i≠g):∀ (vs:List Value) (o:Nat) (w:World),(w.setCells g o vs).heap[i]?=w.heap[i]?
 | [],_,_=>rfl
 | v::r,o,w=>(zCr g i hne r (o+1) (w.setCell ⟨g,o,none⟩ v)).trans (Below.heap_setCell _ _ _ _ hne)
theorem zKj {w2:World} {p bo bs L:Nat} {xs:List OpR} {s:ByteArray} (hi:Idx w2 bo bs xs xs.length) (h1:bo<p) (h2:bs<p) (hc:∀ j,j<7->(w2.cell? ⟨p,j,none⟩).isSome=true) (hf:∀ o,w2.frozen? ⟨p,o,none⟩=false) :
  zCM (w2.setCells p 0 [.map (some bo),.map (some bs),.int .i64 (L:Int),.string s,.int .i64 0,.int .i64 0,.slice none 0 0]) (w2.setCells p 0 [.map (some bo),.map (some bs),.int .i64 (L:Int),.string s,.int .i64 0,.int .i64 0,.slice none 0 0]) p bo bs L xs s 0 0 [] (.slice none 0 0):=by
 have hin:=World.cell?_setCells_in p [.map (some bo),.map (some bs),.int .i64 (L:Int),.string s,.int .i64 0,.int .i64 0,.slice none 0 0] 0 w2 (fun j hj=>by simpa using hc j (by simpa using hj))
 refine zME ⟨by simpa using hin 0 (by simp),by simpa using hin 1 (by simp),by simpa using hin 2 (by simp),by simpa using hin 3 (by simp),by simpa using hin 4 (by simp),by simpa using hin 5 (by simp),by simpa using hin 6 (by simp),fun o=>(zDn p _ _ _ _).trans (hf o)⟩ (hi.of_blocks (zCr p bo (by omega) _ _ _) (zCr p bs (by omega) _ _ _)) h1 h2
theorem zPd (bo bs:Nat) (xs:List OpR) (s:ByteArray) (w:World) (hi:Idx w bo bs xs xs.length) (hc:zM xs 0) (hsz:ZV xs) (h20:s.size<=20000) :
  Calls Tryz.prog 39 #[.agg #[.map (some bo),.map (some bs)],.string s] w fun e w'=>(∃ (g cp:Nat) (us:List zK),e = .returned (.slice (some ⟨g,0,none⟩) us.length cp)/\(w.heap.size<=g/\us.length<=cp/\cp<=maxLen)/\Hid (zGR w' g us us.length)/\Hid (ZR xs s 0 us))/\Below w.heap.size w w':=by
 have HS:=zB hsz
 have HOK:=zB (zBd hc)
 have HV:=zB (zAL (zBd hc))
 have HK:=zB (zKX (zBd hc))
 have hbo:bo<w.heap.size:=by obtain ⟨D,hD,_⟩:=hi.ops; exact hD.lt
 have hbs:bs<w.heap.size:=by obtain ⟨D,hD,_⟩:=hi.srts; exact hD.lt
 have belI:Below w.heap.size w (w.alloc (.cells #[.map (some bo),.map (some bs)] 69)):=zC _ _
 have k0:(w.alloc (.cells #[.map (some bo),.map (some bs)] 69)).cell? ⟨w.heap.size,0,none⟩=some (.map (some bo)):=by simp [go_sem]
 have k1:(w.alloc (.cells #[.map (some bo),.map (some bs)] 69)).cell? ⟨w.heap.size,1,none⟩=some (.map (some bs)):=by simp [go_sem]
 have HIJ:=zB (hi.kept (zC w (.cells #[.map (some bo),.map (some bs)] 69)))
 clear hi hsz hc
 go_enter Tryz.func39,Tryz.ntmps39
 go_wp2_with fail
 obtain ⟨W0,hW0⟩:∃ W0,W0=w.alloc (.cells #[.map (some bo),.map (some bs)] 69):=⟨_,rfl⟩
 have hz0:w.heap.size+1=W0.heap.size:=by rw [hW0]; simp
 rw [<- hW0] at belI k0 k1 HIJ ⊢
 clear hW0
 have n1:¬ W0.heap.size=w.heap.size:=by omega
 go_region_held (fun w'=>w'.cell? ⟨w.heap.size,0,none⟩=some (.map (some bo))/\w'.cell? ⟨w.heap.size,1,none⟩=some (.map (some bs))) (go_keep)
  (first | (go_at_call 78; refine (zGO bo bs xs _ (by first | exact (zA HIJ).kept (Below.refl _ _).drew | exact ((zA HIJ).kept (zC _ _)).kept (Below.refl _ _).drew) (zA HV) (zA HS) (zA HOK)).mono ?_; rintro e w2 ⟨⟨L,rfl,hL,hLx⟩,hb2⟩; have q0:=hb2.cell (p:=⟨w.heap.size,0,none⟩) (by first | (simp; omega)); have q1:=hb2.cell (p:=⟨w.heap.size,1,none⟩) (by first | (simp; omega)); have HLX:=zB hLx; have HB2:=zB hb2; obtain ⟨hc2,hf2⟩:=zFz hb2; clear hLx hb2))
 ·have hz2:W0.heap.size<=w2.heap.size:=(zA HB2).size
  have HSC:=zB (zKi (w2:=w2) (L:=L) (s:=s) ((zA HIJ).kept ((Below.refl _ _).drew.trans (zA HB2))) (by omega) (by omega))
  have HBEL:Below w.heap.size w (w2.alloc (.cells #[.map (some bo),.map (some bs),.int .i64 (L:Int),.string s,.int .i64 0,.int .i64 0,.slice none 0 0] 152)):=(belI.drew.trans ((zA HB2).mono belI.size)).alloc (by omega) _
  have hPW:w.heap.size<=w2.heap.size:=by omega
  have hsp:=(zA HSC).lt
  go_wp2_with fail
  refine (zKa _ bo bs L xs s _ (zA HSC) h20 hL (zA HLX) (zA HV) (zA HK)).mono ?_
  rintro e w4 ⟨rfl,g,cp,us,hcell,⟨hpg,hcp,hcpm⟩,hfil,hlex,hbel⟩
  have c6:=zA hcell
  have bel4:=HBEL.trans (hbel.mono hPW)
  go_wp2_with fail
  go_ret
  exact ⟨⟨g,cp,us,rfl,⟨by omega,hcp,hcpm⟩,hfil,hlex⟩,bel4⟩
 ·have hz2:W0.heap.size<w2.heap.size:=by have:=(zA HB2).size; simp at this; omega
  have HSC:=zB (zKj (w2:=w2) (p:=W0.heap.size) (L:=L) (s:=s) ((((zA HIJ).kept (zC _ _)).kept (Below.refl _ _).drew).kept (zA HB2)) (by omega) (by omega) (fun j hj=>by
   rw [hc2 _ _ (by simp)]
   match j,hj with
   | 0,_=>simp [go_sem]
   | 1,_=>simp [go_sem]
   | 2,_=>simp [go_sem]
   | 3,_=>simp [go_sem]
   | 4,_=>simp [go_sem]
   | 5,_=>simp [go_sem]
   | 6,_=>simp [go_sem]) (fun o=>by rw [hf2 _ _ (by simp)]; simp [go_sem]))
  have HBEL:Below w.heap.size w (w2.setCells W0.heap.size 0 [.map (some bo),.map (some bs),.int .i64 (L:Int),.string s,.int .i64 0,.int .i64 0,.slice none 0 0]):=zAc belI.size _ _ _ ((belI.alloc belI.size _).drew.trans ((zA HB2).mono (by have:=belI.size; simp; omega)))
  have hPW:w.heap.size<=W0.heap.size:=belI.size
  have hsp:=(zA HSC).lt
  go_wp2_with fail
  refine (zKa _ bo bs L xs s _ (zA HSC) h20 hL (zA HLX) (zA HV) (zA HK)).mono ?_
  rintro e w4 ⟨rfl,g,cp,us,hcell,⟨hpg,hcp,hcpm⟩,hfil,hlex,hbel⟩
  have c6:=zA hcell
  have bel4:=HBEL.trans (hbel.mono hPW)
  go_wp2_with fail
  go_ret
  exact ⟨⟨g,cp,us,rfl,⟨by omega,hcp,hcpm⟩,hfil,hlex⟩,bel4⟩
end Go.Proofs.YtfboipappaonhaaGreat
