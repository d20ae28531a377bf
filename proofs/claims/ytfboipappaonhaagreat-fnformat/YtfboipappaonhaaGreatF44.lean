import Derived.Maps.RangeWalk
import Derived.Test.YtfboipappaonhaaGreatF01
import Derived.Test.YtfboipappaonhaaGreatF30
import Derived.Test.YtfboipappaonhaaGreatF36
import Derived.Test.YtfboipappaonhaaGreatF43
namespace Go.Proofs.YtfboipappaonhaaGreat
set_option linter.unusedSimpArgs false
set_option linter.unusedVariables false
set_option maxHeartbeats 16000000
set_option maxRecDepth 100000
open Go.RowKit Go.Maps
theorem zH1 (p:Nat) (q:OpR) (w:World) (hs:q.s.size<=maxLen) :
  Calls Tryz.prog 84 #[.pointer (some ⟨p,0,none⟩),.agg #[.string q.s,.int .i64 q.k,.int .i64 q.l,.int .i64 q.sd]] w fun x w'=>(∃ v,x = .returned v/\Hid (zD4 w.heap.size w' 133 p q v))/\Below w.heap.size w w':=by
 obtain ⟨W,hW⟩:∃ W,W=(w.alloc (.cells #[.pointer (some ⟨p,0,none⟩)] 75)).alloc (.cells #[.string q.s,.int .i64 q.k,.int .i64 q.l,.int .i64 q.sd] 123):=⟨_,rfl⟩
 have hWz:w.heap.size+2<=W.heap.size:=by rw [hW]; simp
 have bel0:Below w.heap.size w W:=by rw [hW]; exact (zC _ _).alloc (by simp) _
 have g0:W.cell? ⟨w.heap.size,0,none⟩=some (.pointer (some ⟨p,0,none⟩)):=by rw [hW]; simp [go_sem]
 have g1:OpC W (w.heap.size+1) q:=by rw [hW]; exact ⟨by simp [go_sem],by simp [go_sem],by simp [go_sem],by simp [go_sem]⟩
 have HX:=fun b W'=>zAO q.s q.k q.l q.sd b W' hs
 obtain ⟨k0,k1,k2,k3⟩:=g1
 have HW:=zB hW
 clear hW
 have Dx00:W.heap.size≠w.heap.size:=(by omega)
 have Dy00:w.heap.size≠W.heap.size:=(by omega)
 have Dx01:W.heap.size≠w.heap.size+1:=(by omega)
 have Dy01:w.heap.size+1≠W.heap.size:=(by omega)
 have Dx10:W.heap.size+1≠w.heap.size:=(by omega)
 have Dy10:w.heap.size≠W.heap.size+1:=(by omega)
 have Dx11:W.heap.size+1≠w.heap.size+1:=(by omega)
 have Dy11:w.heap.size+1≠W.heap.size+1:=(by omega)
 go_enter Tryz.func84,Tryz.ntmps84
 go_wp2_with fail
 rw [<- zA HW]
 go_region_held (fun w'=>w'.cell? ⟨w.heap.size+1,0,none⟩=some (.string q.s)/\w'.cell? ⟨w.heap.size+1,1,none⟩=some (.int .i64 q.k)/\w'.cell? ⟨w.heap.size+1,2,none⟩=some (.int .i64 q.l)/\w'.cell? ⟨w.heap.size+1,3,none⟩=some (.int .i64 q.sd)) (first | (go_keep; done) | exact ⟨Bs0,Bs1,Bs2,Bs3⟩ | exact ⟨As0,As1,As2,As3⟩)
  (first | (go_at_call 90; with_reducible refine (HX false _).mono ?_; rintro e w1 ⟨rfl,hb1⟩; have hz1:=hb1.size; (try simp at hz1); have Ax00:w1.heap.size≠w.heap.size:=(by omega); have Ay00:w.heap.size≠w1.heap.size:=(by omega); have Ax01:w1.heap.size≠w.heap.size+1:=(by omega); have Ay01:w.heap.size+1≠w1.heap.size:=(by omega); have Ax10:w1.heap.size+1≠w.heap.size:=(by omega); have Ay10:w.heap.size≠w1.heap.size+1:=(by omega); have Ax11:w1.heap.size+1≠w.heap.size+1:=(by omega); have Ay11:w.heap.size+1≠w1.heap.size+1:=(by omega); (try (have Al0:W.heap.size<w1.heap.size:=by omega)); (try (have An0:W.heap.size≠w1.heap.size:=by omega)); (try (have Am0:W.heap.size≠w1.heap.size+1:=by omega)); (try (have Al1:W.heap.size+1<w1.heap.size:=by omega)); (try (have An1:W.heap.size+1≠w1.heap.size:=by omega)); (try (have Am1:W.heap.size+1≠w1.heap.size+1:=by omega)); have As0:w1.cell? ⟨w.heap.size+1,0,none⟩=some (.string q.s):=(hb1.cell (p:=⟨w.heap.size+1,0,none⟩) (by simp; omega)).trans (by simp [*,World.cell?_alloc_some,World.cell?_setCell_far]); have As1:w1.cell? ⟨w.heap.size+1,1,none⟩=some (.int .i64 q.k):=(hb1.cell (p:=⟨w.heap.size+1,1,none⟩) (by simp; omega)).trans (by simp [*,World.cell?_alloc_some,World.cell?_setCell_far]); have As2:w1.cell? ⟨w.heap.size+1,2,none⟩=some (.int .i64 q.l):=(hb1.cell (p:=⟨w.heap.size+1,2,none⟩) (by simp; omega)).trans (by simp [*,World.cell?_alloc_some,World.cell?_setCell_far]); have As3:w1.cell? ⟨w.heap.size+1,3,none⟩=some (.int .i64 q.sd):=(hb1.cell (p:=⟨w.heap.size+1,3,none⟩) (by simp; omega)).trans (by simp [*,World.cell?_alloc_some,World.cell?_setCell_far]); have As4:w1.cell? ⟨w.heap.size,0,none⟩=some (.pointer (some ⟨p,0,none⟩)):=(hb1.cell (p:=⟨w.heap.size,0,none⟩) (by simp; omega)).trans (by simp [*,World.cell?_alloc_some,World.cell?_setCell_far]); (try (have Aa0:w1.cell? ⟨W.heap.size,0,none⟩=some (.int .i64 0):=(hb1.cell (p:=⟨W.heap.size,0,none⟩) (by first | omega | (simp; done) | (simp; omega))).trans (by first | (simp [go_sem]; done) | (simp [*,World.cell?_alloc_some]; done) | (simp [*,go_sem]; done)))); (try (have Af0:w1.frozen? ⟨W.heap.size,0,none⟩=false:=(hb1.frozen (p:=⟨W.heap.size,0,none⟩) (by first | omega | (simp; done) | (simp; omega))).trans (by first | (simp [go_sem]; done) | (simp [*,go_sem]; done)))); (try (have Aa1:w1.cell? ⟨W.heap.size+1,0,none⟩=some (.int .i64 0):=(hb1.cell (p:=⟨W.heap.size+1,0,none⟩) (by first | omega | (simp; done) | (simp; omega))).trans (by first | (simp [go_sem]; done) | (simp [*,World.cell?_alloc_some]; done) | (simp [*,go_sem]; done)))); (try (have Af1:w1.frozen? ⟨W.heap.size+1,0,none⟩=false:=(hb1.frozen (p:=⟨W.heap.size+1,0,none⟩) (by first | omega | (simp; done) | (simp; omega))).trans (by first | (simp [go_sem]; done) | (simp [*,go_sem]; done)))); have bel1:Below w.heap.size w w1:=Below.trans (by repeat (first | exact bel0 | exact bel0 | refine Below.drew ?_ | refine Below.setCell ?_ (by first | omega | (simp; omega)) _ | refine Below.alloc ?_ (by first | omega | (simp; omega)) _)) (hb1.mono (by first | omega | (simp; omega))); clear hb1) | (go_at_call 90; with_reducible refine (HX true _).mono ?_; rintro e w2 ⟨rfl,hb2⟩; have hz2:=hb2.size; (try simp at hz2); have Bx00:w2.heap.size≠w.heap.size:=(by omega); have By00:w.heap.size≠w2.heap.size:=(by omega); have Bx01:w2.heap.size≠w.heap.size+1:=(by omega); have By01:w.heap.size+1≠w2.heap.size:=(by omega); have Bx10:w2.heap.size+1≠w.heap.size:=(by omega); have By10:w.heap.size≠w2.heap.size+1:=(by omega); have Bx11:w2.heap.size+1≠w.heap.size+1:=(by omega); have By11:w.heap.size+1≠w2.heap.size+1:=(by omega); (try (have Bl0:W.heap.size<w2.heap.size:=by omega)); (try (have Bn0:W.heap.size≠w2.heap.size:=by omega)); (try (have Bm0:W.heap.size≠w2.heap.size+1:=by omega)); (try (have Bl1:W.heap.size+1<w2.heap.size:=by omega)); (try (have Bn1:W.heap.size+1≠w2.heap.size:=by omega)); (try (have Bm1:W.heap.size+1≠w2.heap.size+1:=by omega)); (try (have Bl2:w1.heap.size<w2.heap.size:=by omega)); (try (have Bn2:w1.heap.size≠w2.heap.size:=by omega)); (try (have Bm2:w1.heap.size≠w2.heap.size+1:=by omega)); (try (have Bl3:w1.heap.size+1<w2.heap.size:=by omega)); (try (have Bn3:w1.heap.size+1≠w2.heap.size:=by omega)); (try (have Bm3:w1.heap.size+1≠w2.heap.size+1:=by omega)); have Bs0:w2.cell? ⟨w.heap.size+1,0,none⟩=some (.string q.s):=(hb2.cell (p:=⟨w.heap.size+1,0,none⟩) (by simp; omega)).trans (by simp [*,World.cell?_alloc_some,World.cell?_setCell_far]); have Bs1:w2.cell? ⟨w.heap.size+1,1,none⟩=some (.int .i64 q.k):=(hb2.cell (p:=⟨w.heap.size+1,1,none⟩) (by simp; omega)).trans (by simp [*,World.cell?_alloc_some,World.cell?_setCell_far]); have Bs2:w2.cell? ⟨w.heap.size+1,2,none⟩=some (.int .i64 q.l):=(hb2.cell (p:=⟨w.heap.size+1,2,none⟩) (by simp; omega)).trans (by simp [*,World.cell?_alloc_some,World.cell?_setCell_far]); have Bs3:w2.cell? ⟨w.heap.size+1,3,none⟩=some (.int .i64 q.sd):=(hb2.cell (p:=⟨w.heap.size+1,3,none⟩) (by simp; omega)).trans (by simp [*,World.cell?_alloc_some,World.cell?_setCell_far]); have Bs4:w2.cell? ⟨w.heap.size,0,none⟩=some (.pointer (some ⟨p,0,none⟩)):=(hb2.cell (p:=⟨w.heap.size,0,none⟩) (by simp; omega)).trans (by simp [*,World.cell?_alloc_some,World.cell?_setCell_far]); (try (have Ba0:w2.cell? ⟨W.heap.size,0,none⟩=some (.int .i64 0):=(hb2.cell (p:=⟨W.heap.size,0,none⟩) (by first | omega | (simp; done) | (simp; omega))).trans (by first | (simp [go_sem]; done) | (simp [*,World.cell?_alloc_some]; done) | (simp [*,go_sem]; done)))); (try (have Bf0:w2.frozen? ⟨W.heap.size,0,none⟩=false:=(hb2.frozen (p:=⟨W.heap.size,0,none⟩) (by first | omega | (simp; done) | (simp; omega))).trans (by first | (simp [go_sem]; done) | (simp [*,go_sem]; done)))); (try (have Ba1:w2.cell? ⟨W.heap.size+1,0,none⟩=some (.int .i64 0):=(hb2.cell (p:=⟨W.heap.size+1,0,none⟩) (by first | omega | (simp; done) | (simp; omega))).trans (by first | (simp [go_sem]; done) | (simp [*,World.cell?_alloc_some]; done) | (simp [*,go_sem]; done)))); (try (have Bf1:w2.frozen? ⟨W.heap.size+1,0,none⟩=false:=(hb2.frozen (p:=⟨W.heap.size+1,0,none⟩) (by first | omega | (simp; done) | (simp; omega))).trans (by first | (simp [go_sem]; done) | (simp [*,go_sem]; done)))); (try (have Ba2:w2.cell? ⟨w1.heap.size,0,none⟩=some (.int .i64 0):=(hb2.cell (p:=⟨w1.heap.size,0,none⟩) (by first | omega | (simp; done) | (simp; omega))).trans (by first | (simp [go_sem]; done) | (simp [*,World.cell?_alloc_some]; done) | (simp [*,go_sem]; done)))); (try (have Bf2:w2.frozen? ⟨w1.heap.size,0,none⟩=false:=(hb2.frozen (p:=⟨w1.heap.size,0,none⟩) (by first | omega | (simp; done) | (simp; omega))).trans (by first | (simp [go_sem]; done) | (simp [*,go_sem]; done)))); (try (have Ba3:w2.cell? ⟨w1.heap.size+1,0,none⟩=some (.int .i64 0):=(hb2.cell (p:=⟨w1.heap.size+1,0,none⟩) (by first | omega | (simp; done) | (simp; omega))).trans (by first | (simp [go_sem]; done) | (simp [*,World.cell?_alloc_some]; done) | (simp [*,go_sem]; done)))); (try (have Bf3:w2.frozen? ⟨w1.heap.size+1,0,none⟩=false:=(hb2.frozen (p:=⟨w1.heap.size+1,0,none⟩) (by first | omega | (simp; done) | (simp; omega))).trans (by first | (simp [go_sem]; done) | (simp [*,go_sem]; done)))); have bel2:Below w.heap.size w w2:=Below.trans (by repeat (first | exact bel0 | exact bel1 | refine Below.drew ?_ | refine Below.setCell ?_ (by first | omega | (simp; omega)) _ | refine Below.alloc ?_ (by first | omega | (simp; omega)) _)) (hb2.mono (by first | omega | (simp; omega))); clear hb2))
 all_goals go_wp2_with fail
 all_goals go_ret
 all_goals refine ⟨⟨_,rfl,zB ⟨_,_,_,_,rfl,?_,?_,?_,?_,⟨?_,?_,?_,?_⟩,?_,?_,?_⟩⟩,?_⟩
 all_goals first
  | omega
  | (simp [*,World.cell?_alloc_some,World.cell?_setCell_far]; done)
  | (simp [*,go_sem]; done)
  | (simp; omega)
  | repeat (first | exact bel0 | exact bel2 | refine Below.drew ?_ | refine Below.setCell ?_ (by first | omega | (simp; omega)) _ | refine Below.alloc ?_ (by first | omega | (simp; omega)) _)
end Go.Proofs.YtfboipappaonhaaGreat
namespace Go.Proofs.YtfboipappaonhaaGreat
set_option linter.unusedSimpArgs false
set_option linter.unusedVariables false
set_option maxHeartbeats 16000000
set_option maxRecDepth 100000
open Go.RowKit Go.Maps
theorem zMo {c:Value} {l:List Lit} {d:Nat} (h:Tryz.prog.keyLits (d+1) 9 [c]=some l):∃ s,c = .string s/\s.size<=maxLen:=by
 unfold Program.keyLits at h
 rw [Tryz.underlying9] at h
 cases c with
 | string s=>
  simp only at h
  split at h
  ·rename_i hs; exact ⟨s,rfl,hs⟩
  ·cases h
 | _=>simp at h
theorem zMp {c:Value} {l:List Lit} {d:Nat} (h:Tryz.prog.keyLits (d+1) 3 [c]=some l):∃ n,c = .int .i64 n/\(Lit.int .i64 n).wf=true:=by
 unfold Program.keyLits at h
 rw [Tryz.underlying3] at h
 cases c with
 | int q n=>
  simp only at h
  split at h
  ·rename_i hs; obtain ⟨rfl,hw⟩:=hs; exact ⟨n,rfl,hw⟩
  ·cases h
 | _=>simp at h
theorem zMq {c0 c1:Value} {ls:List Lit} {d:Nat} (h:Tryz.prog.keyLits (d+1+1) 161 [c0,c1]=some ls):∃ s kd,c0 = .string s/\c1 = .int .i64 kd/\s.size<=maxLen/\(Lit.int .i64 kd).wf=true:=by
 have e:Tryz.prog.keyLits (d+1+1) 161 [c0,c1]=(Tryz.prog.keyLits (d+1) 9 [c0]).bind fun a=>(Tryz.prog.keyLits (d+1) 3 [c1]).map fun b=>a++b:=by
  conv=>lhs; unfold Program.keyLits
  rw [Tryz.underlying161]
  cases h0:Tryz.prog.keyLits (d+1) 9 [c0] with
  | none=>simp [zFk,zJB,zJC,h0]
  | some l0=>
   cases h1:Tryz.prog.keyLits (d+1) 3 [c1] with
   | none=>simp [zFk,zJB,zJC,h0,h1]
   | some l1=>simp [zFk,zJB,zJC,h0,h1]
 rw [e] at h
 cases h0:Tryz.prog.keyLits (d+1) 9 [c0] with
 | none=>rw [h0] at h; cases h
 | some l0=>
  cases h1:Tryz.prog.keyLits (d+1) 3 [c1] with
  | none=>rw [h0,h1] at h; cases h
  | some l1=>
   obtain ⟨s,rfl,hs⟩:=zMo h0
   obtain ⟨kd,rfl,hw⟩:=zMp h1
   exact ⟨s,kd,rfl,rfl,hs,hw⟩
theorem zHj {key:Value} {kl:Lit} (h:keyOf Tryz.prog 161 key=some kl):∃ s kd,key = .agg #[.string s,.int .i64 kd]/\s.size<=maxLen/\(Lit.int .i64 kd).wf=true:=by
 unfold keyOf at h
 rw [Tryz.underlying161] at h
 simp only [zNo,Bool.true_and] at h
 split at h
 ·rename_i hf
  cases key with
  | agg cs=>
   simp only [Value.formed,Tryz.underlying161,zFk,beq_iff_eq] at hf
   obtain ⟨l⟩:=cs
   match l,hf with
   | [c0,c1],_=>
    obtain ⟨ls,hl,_⟩:=Option.map_eq_some_iff.1 h
    have hl':Tryz.prog.keyLits (Tryz.prog.types.size+1) 161 [c0,c1]=some ls:=hl
    rw [zIN] at hl'
    obtain ⟨s,kd,rfl,rfl,hs,hw⟩:=zMq hl'
    exact ⟨s,kd,rfl,hs,hw⟩
  | _=>simp [Value.formed,Tryz.underlying161] at hf
 ·cases h
theorem zFU {v:Value} {y:DataW Unit×List MemPlace} (h:Z7 v=some y):∃ c:ByteArray×Int×Int×Int,v = .agg #[.string c.1,.int .i64 c.2.1,.int .i64 c.2.2.1,.int .i64 c.2.2.2]:=by
 obtain ⟨s,k,l,sd,rfl⟩:=zDb h
 exact ⟨(s,k,l,sd),rfl⟩
theorem zHk {key:Value} {kl:Lit} (h:keyOf Tryz.prog 161 key=some kl):∃ x:ByteArray×Int,key = .agg #[.string x.1,.int .i64 x.2]:=by
 obtain ⟨s,kd,rfl,_⟩:=zHj h
 exact ⟨(s,kd),rfl⟩
theorem zGO (bo bs:Nat) (xs:List OpR) (w:World) (hi:Idx w bo bs xs xs.length) (hv:ZA xs) (hsz:ZV xs) (hok:zBF xs xs.length) :
  Calls Tryz.prog 78 #[.agg #[.map (some bo),.map (some bs)]] w fun e w'=>(∃ L:Nat,e = .returned (.int .i64 (L:Int))/\L<=16/\∀ j,j<xs.length->(atO xs j).s.size<=L)/\Below w.heap.size w w':=by
 obtain ⟨⟨D,hown,hD⟩,_,_⟩:=hi
 have HD:=zB hD
 have HV:=zB hv
 have HZ:=zB hsz
 have HOK:=zB hok
 have hbl:=hown.lt
 clear hD hv hsz hok
 have e1:(w.alloc (.cells #[.map (some bo),.map (some bs)] 69)).heap.size=w.heap.size+1:=by simp
 go_enter Tryz.func78,Tryz.ntmps78
 go_wp2_with (at_range; refine wpList_range_own _ rfl _ 66 rfl 161 123 zHt Tryz.underlying66 Z7 bo xs.length D rfl (hown.alloc _) ?_; intro w0 hrg0 hg0 hs0)
 go_frame
 rw [e1] at hrg0 hs0 ⊢
 have hb0:Below w.heap.size w w0:=(zC _ _).grown hg0 (by simp) (fun j hj=>by cases hj)
 go_loopw [3] (fun lv wr=>∃ (L:Nat) (left:Lit->Bool) (cnt:Nat),lv = .int .i64 (L:Int)/\L<=16/\Hid (wr.ranges Tryz.prog 161 Z7 bo (w.heap.size+1) xs.length D left cnt)/\Hid (∀ j,j<xs.length->left (klO (atO xs j).s (atO xs j).k)=false->(atO xs j).s.size<=L)/\Hid (∀ kl,left kl=true->Maps.has D kl=true)/\w.heap.size+1<wr.heap.size/\Hid (Below w.heap.size w wr)) (fun _ wr=>wr.rangeLeft bo (w.heap.size+1))
 case atStart=>
  refine ⟨0,_,_,rfl,by omega,zB hrg0,zB (fun j hj h=>?_),zB (fun kl h=>h),by omega,zB hb0⟩
  have:=(((zA HD) (atO xs j).s (atO xs j).k ((zA HZ) j hj) (zFv ((zA HOK) j hj))).1).2 ⟨j,hj,rfl,rfl⟩
  rw [this] at h
  cases h
 case round=>
  obtain ⟨L,left,cnt,rfl,hL,hrg,hle,hsub,hz,hbl2⟩:=hrel
  go_wp2_with (at_next; refine wpList_next_ranges _ rfl _ rfl 161 zHt Z7 (fun x:ByteArray×Int=>.agg #[.string x.1,.int .i64 x.2]) (fun c:ByteArray×Int×Int×Int=>.agg #[.string c.1,.int .i64 c.2.1,.int .i64 c.2.2.1,.int .i64 c.2.2.2]) (fun key kl h=>zHk h) (fun v y h=>zFU h) bo (w.heap.size+1) xs.length D left cnt rfl (zA hrg) ?_ ?_)
  ·intro hc0 hl0
   go_wp2
   go_ret
   exact ⟨⟨L,rfl,hL,fun j hj=>(zA hle) j hj (hl0 _)⟩,zA hbl2⟩
  ·intro s kd s2 k2 l2 sd2 kl yd yp w1 cnt1 hkey hlk hvv hat hrg1 hlt hg1 hs1 hen
   obtain ⟨s',kd',he,hss,hkw⟩:=zHj hkey
   simp only [Value.agg.injEq,Array.mk.injEq,List.cons.injEq,Value.string.injEq,Value.int.injEq,true_and,and_true] at he
   obtain ⟨rfl,rfl⟩:=he
   have hkl:kl=klO s kd:=by
    have:=zJD hss hkw
    rw [this] at hkey
    injection hkey with hkey
    exact hkey.symm
   subst hkl
   have hs16:s.size<=16:=by
    obtain ⟨j,hj,e,_⟩:=(((zA HD) s kd hss hkw).1).1 ((zA hsub) _ hlk)
    rw [<- e]
    exact ((zA HV) j hj).2.1
   obtain ⟨L',hL'⟩:∃ L':Nat,L'=max L s.size:=⟨_,rfl⟩
   have hmx:max (L:Int) (s.size:Int)=(L':Int):=by omega
   have HLE:=zB (show ∀ j,j<xs.length->((fun z=>left z&&!z.sameKey (klO s kd)) (klO (atO xs j).s (atO xs j).k))=false->(atO xs j).s.size<=L' from fun j hj h=>by
    simp only [Bool.and_eq_false_iff,Bool.not_eq_false'] at h
    rcases h with h | h
    ·have:=(zA hle) j hj h; omega
    ·have e:klO (atO xs j).s (atO xs j).k=klO s kd:=by simpa [Lit.sameKey,klO] using h
     have e':=(zJE ((zA HZ) j hj) hss (zFv ((zA HOK) j hj)) hkw e).1
     rw [e']; omega)
   have HSUB:=zB (show ∀ z,((fun z=>left z&&!z.sameKey (klO s kd)) z)=true->Maps.has D z=true from fun z h=>by
    simp only [Bool.and_eq_true] at h
    exact (zA hsub) z h.1)
   have HB1:=zB ((zA hbl2).grown hg1 (zA hbl2).size (fun j hj=>by injection hj with hj; omega))
   have HR1:=zB (hrg1.alloc (.cells #[.string s,.int .i64 kd] 161))
   have HRO:=zB (show cnt1<cnt from hlt)
   clear hkey hlk hvv hat hle hsub hbl2 hg1
   go_wp2
   refine ⟨⟨L',_,cnt1,?_,by omega,HR1,HLE,HSUB,by simp; omega,zB ((zA HB1).alloc (zA HB1).size _)⟩,?_⟩
   ·first | rfl | (congr 1; omega)
   ·rw [(zA HR1).left_eq,(zA hrg).left_eq]; exact zA HRO
end Go.Proofs.YtfboipappaonhaaGreat
namespace Go.Proofs.YtfboipappaonhaaGreat
set_option linter.unusedSimpArgs false
set_option linter.unusedVariables false
set_option maxHeartbeats 16000000
set_option maxRecDepth 100000
open Go.RowKit Go.Maps
theorem zMr {ns:List OpR} {D:DataW Unit} {s s2:ByteArray} {kd k2 l2 sd2:Int} {yd:DataW Unit} {yp:List MemPlace}
  (hD:Maps.has D (klO s kd)=true->∃ j,j<ns.length/\(atO ns j).s=s/\(atO ns j).k=kd/\D.atKey (klO s kd) (zAa ⟨#[]⟩ 0 0 0)=zAa (atO ns j).s (atO ns j).k (atO ns j).l (atO ns j).sd)
  (hh:Maps.has D (klO s kd)=true) (hv:Z7 (.agg #[.string s2,.int .i64 k2,.int .i64 l2,.int .i64 sd2])=some (yd,yp)) (hat:∀ zd,D.atKey (klO s kd) zd=yd) :
  ∃ j,j<ns.length/\s=(atO ns j).s/\kd=(atO ns j).k/\s2=(atO ns j).s/\k2=(atO ns j).k/\l2=(atO ns j).l/\sd2=(atO ns j).sd:=by
 obtain ⟨j,hj,e1,e2,e3⟩:=hD hh
 rw [hat] at e3
 rw [zC7] at hv
 have e4:zAa s2 k2 l2 sd2=zAa (atO ns j).s (atO ns j).k (atO ns j).l (atO ns j).sd:=by
  rw [<- e3]; injection hv with hv; exact congrArg Prod.fst hv
 unfold zAa at e4
 simp only [DataW.agg.injEq,List.cons.injEq,DataW.lit.injEq,Lit.string.injEq,Lit.int.injEq,true_and,and_true] at e4
 obtain ⟨a1,a2,a3,a4⟩:=e4
 exact ⟨j,hj,e1.symm,e2.symm,by
  apply zDE
  have:=congrArg List.toArray a1
  simpa using this,a2,a3,a4⟩
theorem zQW {ns:List OpR} (hc:zM ns 0) {j b:Nat} (hj:j<ns.length) (hb:(b:Int)-2=(atO ns j).k):opA ns (rt b (atO ns j).s)=atO ns j:=by
 unfold opA
 simp only [rt]
 rw [zLn hc hj ⟨rfl,hb.symm⟩]
theorem zPZ {ns:List OpR} {j:Nat} (hj:j<ns.length):zn ns (atO ns j).s (atO ns j).k=true:=(ZQ _ _ _).2 ⟨j,hj,rfl,rfl⟩
def zPa (w:World) (g o c:Nat) (ns:List OpR) (ts:List zK) (x:Ending) (w':World):Prop:=
 ∃ p bf bb,x = .returned (.pointer (some ⟨p,0,none⟩))/\w.heap.size<=p/\Hid (PC w' p g o bf bb ns ts)/\Hid (Zi w' p g o ts.length c 0 bf bb)
structure zAT (w wr:World) (ns:List OpR) (D:DataW Unit) (bo p bf bb r C:Nat) (g o n c:Nat) (left:Lit->Bool) (dn:ByteArray->Int->Bool) (cnt m1 m2:Nat) (G1 G2:ByteArray->Option Value):Prop where
 rg:wr.ranges Tryz.prog 161 Z7 bo r ns.length D left cnt
 sub:∀ kl,left kl=true->Maps.has D kl=true
 s1:zCK wr bf m1 G1
 s2:zCK wr bb m2 G2
 n1:m1+cnt<=C
 n2:m2+cnt<=C
 f1:BfD (r+1) wr p ns dn G1
 f2:BbD (r+1) wr p ns dn G2
 pr:Zi wr p g o n c 0 bf bb
 sz:r<wr.heap.size
 bel:Below w.heap.size w wr
theorem Zi.keptO {w w':World} {p g o n c i bf bb b:Nat} (h:Zi w p g o n c i bf bb) (hk:zE w w' b) (hne:p≠b):Zi w' p g o n c i bf bb:=by
 obtain ⟨h0,h1,h2,h3,h4⟩:=h
 have hlt:p<w.heap.size:=block_lt_of_cell h0
 exact ⟨(hk.cell hlt hne 0).trans h0,(hk.cell hlt hne 1).trans h1,(hk.cell hlt hne 2).trans h2,(hk.cell hlt hne 3).trans h3,(hk.frozen hlt hne 1).trans h4⟩
theorem zE.of_grown {w w':World} {b:Nat} (h:w.grownBy w' (some b)):zE w w' b:=⟨h.os,h.tape,h.output,h.size,fun i hi hne=>h.block i hi (fun x=>hne (by injection x))⟩
theorem zAT.step {w wr w':World} {ns:List OpR} {D:DataW Unit} {bo p bf bb r C:Nat} {g o n c:Nat} {left:Lit->Bool} {dn:ByteArray->Int->Bool} {cnt m1 m2:Nat} {G1 G2:ByteArray->Option Value}
  (h:zAT w wr ns D bo p bf bb r C g o n c left dn cnt m1 m2 G1 G2) (hb:Below wr.heap.size wr w'):zAT w w' ns D bo p bf bb r C g o n c left dn cnt m1 m2 G1 G2 where
 rg:=h.rg.kept (zZ hb none) (by simp) (by simp)
 sub:=h.sub
 s1:=h.s1.kept (zZ hb none) (by simp)
 s2:=h.s2.kept (zZ hb none) (by simp)
 n1:=h.n1
 n2:=h.n2
 f1:=h.f1.kept (zE.of_below hb) (Nat.lt_succ_self r)
 f2:=h.f2.kept (zE.of_below hb) (Nat.lt_succ_self r)
 pr:=h.pr.below hb
 sz:=Nat.lt_of_lt_of_le h.sz hb.size
 bel:=h.bel.trans (hb.mono h.bel.size)
def zIe (B bo p bf bb r:Nat):Prop:=B<=r/\B<=p/\B<=bf/\B<=bb/\p<r/\bf<r/\bb<r/\bf≠bb/\p≠bf/\p≠bb/\bo<B
theorem zAT.next {w wr w':World} {ns:List OpR} {D:DataW Unit} {bo p bf bb r C:Nat} {g o n c:Nat} {left left':Lit->Bool} {dn:ByteArray->Int->Bool} {cnt cnt' m1 m2:Nat} {G1 G2:ByteArray->Option Value}
  (h:zAT w wr ns D bo p bf bb r C g o n c left dn cnt m1 m2 G1 G2) (hat:zIe w.heap.size bo p bf bb r) (hrg:w'.ranges Tryz.prog 161 Z7 bo r ns.length D left' cnt') (hl:∀ z,left' z=true->left z=true) (hc:cnt'<cnt) (hk:zE wr w' r) :
  zAT w w' ns D bo p bf bb r C g o n c left' dn cnt' m1 m2 G1 G2:=by
 obtain ⟨a1,a2,a3,a4,a5,a6,a7,a8,a9,a10,a11⟩:=hat
 exact ⟨hrg,fun kl hl'=>h.sub kl (hl kl hl'),h.s1.kept (ze hk) (fun e=>by injection e; omega),h.s2.kept (ze hk) (fun e=>by injection e; omega),by have:=h.n1; omega,by have:=h.n2; omega,
  h.f1.kept hk (Nat.lt_succ_self r),h.f2.kept hk (Nat.lt_succ_self r),h.pr.keptO hk (by omega),Nat.lt_of_lt_of_le h.sz hk.size,h.bel.trans (hk.below h.bel.size a1)⟩
theorem zAT.put1 {w wr w':World} {ns:List OpR} {D:DataW Unit} {bo p bf bb r C:Nat} {g o n c:Nat} {left:Lit->Bool} {dn dn':ByteArray->Int->Bool} {cnt m1 m2:Nat} {G1 G2:ByteArray->Option Value} {s:ByteArray} {v:Value}
  (h:zAT w wr ns D bo p bf bb r C g o n c left dn cnt m1 m2 G1 G2) (hat:zIe w.heap.size bo p bf bb r) (hm:zFT dn dn' s 1) (hs:s≠opn) (hv:zCg (r+1) wr 132 p (opA ns (rt 3 s)) v)
  (hn:m1+1+cnt<=C) (hs':zCK w' bf (m1+1) (fun t'=>if t'.data=s.data then some v else G1 t')) (hk:zE wr w' bf) :
  zAT w w' ns D bo p bf bb r C g o n c left dn' cnt (m1+1) m2 (fun t'=>if t'.data=s.data then some v else G1 t') G2:=by
 obtain ⟨a1,a2,a3,a4,a5,a6,a7,a8,a9,a10,a11⟩:=hat
 exact ⟨h.rg.kept (ze hk) (fun e=>by injection e; omega) (fun e=>by injection e; omega),h.sub,hs',h.s2.kept (ze hk) (fun e=>by injection e; omega),by omega,h.n2,
  (h.f1.put hm hs hv).kept hk (by omega),(h.f2.keep hm rfl).kept hk (by omega),h.pr.keptO hk (by omega),Nat.lt_of_lt_of_le h.sz hk.size,h.bel.trans (hk.below h.bel.size a3)⟩
theorem zAT.put2 {w wr w':World} {ns:List OpR} {D:DataW Unit} {bo p bf bb r C:Nat} {g o n c:Nat} {left:Lit->Bool} {dn dn':ByteArray->Int->Bool} {cnt m1 m2:Nat} {G1 G2:ByteArray->Option Value} {s:ByteArray} {v:Value}
  (h:zAT w wr ns D bo p bf bb r C g o n c left dn cnt m1 m2 G1 G2) (hat:zIe w.heap.size bo p bf bb r) (hm:zFT dn dn' s 2) (h3:dn s 3=false) (hv:zD4 (r+1) wr 133 p (opA ns (rt 4 s)) v)
  (hn:m2+1+cnt<=C) (hs':zCK w' bb (m2+1) (fun t'=>if t'.data=s.data then some v else G2 t')) (hk:zE wr w' bb) :
  zAT w w' ns D bo p bf bb r C g o n c left dn' cnt m1 (m2+1) G1 (fun t'=>if t'.data=s.data then some v else G2 t'):=by
 obtain ⟨a1,a2,a3,a4,a5,a6,a7,a8,a9,a10,a11⟩:=hat
 exact ⟨h.rg.kept (ze hk) (fun e=>by injection e; omega) (fun e=>by injection e; omega),h.sub,h.s1.kept (ze hk) (fun e=>by injection e; omega),hs',h.n1,by omega,
  (h.f1.keep hm (by decide)).kept hk (by omega),(h.f2.put2 hm h3 hv).kept hk (by omega),h.pr.keptO hk (by omega),Nat.lt_of_lt_of_le h.sz hk.size,h.bel.trans (hk.below h.bel.size a4)⟩
theorem zAT.put3 {w wr w':World} {ns:List OpR} {D:DataW Unit} {bo p bf bb r C:Nat} {g o n c:Nat} {left:Lit->Bool} {dn dn':ByteArray->Int->Bool} {cnt m1 m2:Nat} {G1 G2:ByteArray->Option Value} {s:ByteArray} {v:Value}
  (h:zAT w wr ns D bo p bf bb r C g o n c left dn cnt m1 m2 G1 G2) (hat:zIe w.heap.size bo p bf bb r) (hm:zFT dn dn' s 3) (h2:dn s 2=false) (hv:zCg (r+1) wr 135 p (opA ns (rt 5 s)) v)
  (hn:m2+1+cnt<=C) (hs':zCK w' bb (m2+1) (fun t'=>if t'.data=s.data then some v else G2 t')) (hk:zE wr w' bb) :
  zAT w w' ns D bo p bf bb r C g o n c left dn' cnt m1 (m2+1) G1 (fun t'=>if t'.data=s.data then some v else G2 t'):=by
 obtain ⟨a1,a2,a3,a4,a5,a6,a7,a8,a9,a10,a11⟩:=hat
 exact ⟨h.rg.kept (ze hk) (fun e=>by injection e; omega) (fun e=>by injection e; omega),h.sub,h.s1.kept (ze hk) (fun e=>by injection e; omega),hs',h.n1,by omega,
  (h.f1.keep hm (by decide)).kept hk (by omega),(h.f2.put3 hm h2 hv).kept hk (by omega),h.pr.keptO hk (by omega),Nat.lt_of_lt_of_le h.sz hk.size,h.bel.trans (hk.below h.bel.size a4)⟩
theorem zAT.done {w wr:World} {ns:List OpR} {D:DataW Unit} {bo p bf bb r C:Nat} {g o c:Nat} {left:Lit->Bool} {cnt m1 m2:Nat} {G1 G2:ByteArray->Option Value} {ts:List zK}
  (h:zAT w wr ns D bo p bf bb r C g o ts.length c left (dnL ns left) cnt m1 m2 G1 G2) (hat:zIe w.heap.size bo p bf bb r) (hl:∀ kl,left kl=false) (ht:zCS w g o ts) (hg:g<w.heap.size) :
  PC wr p g o bf bb ns ts/\Zi wr p g o ts.length c 0 bf bb:=by
 obtain ⟨a1,a2,a3,a4,a5,a6,a7,a8,a9,a10,a11⟩:=hat
 have e:dnL ns left=zn ns:=by
  funext t k
  unfold dnL
  rw [hl]
  simp
 have f1:=h.f1
 have f2:=h.f2
 rw [e] at f1 f2
 exact ⟨⟨by omega,by omega,by omega,ht.below h.bel hg,⟨m1,G1,h.s1,f1.ok (by omega)⟩,⟨m2,G2,h.s2,f2.ok (by omega)⟩⟩,h.pr⟩
end Go.Proofs.YtfboipappaonhaaGreat
