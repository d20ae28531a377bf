import Derived.Test.YtfboipappaonhaaGreatP04
import Derived.Test.YtfboipappaonhaaGreatP12
import Derived.Test.YtfboipappaonhaaGreatP15
namespace Go.Proofs.YtfboipappaonhaaGreat
set_option linter.unusedSimpArgs false
set_option linter.unusedVariables false
set_option maxHeartbeats 16000000
set_option maxRecDepth 100000
open Go.RowKit
theorem zEu (b off cap:Nat) (xs:List OpR) (w:World) (hm:xs.length <= 1048576) (hw:Ops w b off xs) (hs:ZV xs) (hB:b < w.heap.size) (hc:zM xs 0) :
  Calls Tryz.prog 53 #[.agg #[.slice (some ⟨b,off,none⟩) xs.length cap]] w fun e w'=>e = .returned (.int .i64 0) /\ Below w.heap.size w w':=by
 refine (Zo b off cap xs w hm hw hs hB).mono ?_
 rintro e w' ⟨⟨c,rfl,h⟩,hb⟩
 exact ⟨by rw [zAk h hc],hb⟩
theorem zEv (b off cap bn offn cn:Nat) (xs:List OpR) (ns:List zD) (w:World) (hm:xs.length <= 1048576) (hmn:ns.length <= 1048576) (hw:Ops w b off xs) (hsz:ZV xs) (hB:b < w.heap.size) (hwn:Zw w bn offn ns) (hsn:zBc ns) (hBn:bn < w.heap.size) (hc:zM xs 0) :
  Calls Tryz.prog 51 #[.agg #[.slice (some ⟨b,off,none⟩) xs.length cap],.agg #[.slice (some ⟨bn,offn,none⟩) ns.length cn]] w fun e w'=>zCQ e (ZL ns /\ zDi xs ns) /\ Below w.heap.size w w':=by
 have HW:=zB hw
 have HWN:=zB hwn
 have HZ:=zB hsz
 have HZN:=zB hsn
 have HC:=zB hc
 clear hw hwn hsz hsn hc
 go_enter Tryz.func51,Tryz.ntmps51
 go_wp2_with fail
 refine (zEu b off cap xs _ hm ((zA HW).below ((zC _ _).alloc (by simp) _) hB) (zA HZ) (by simp; omega) (zA HC)).mono ?_
 rintro e w1 ⟨rfl,hb1⟩
 have bel1:Below w.heap.size w w1:=((zC _ _).alloc (by simp) _).trans (hb1.mono (by simp; omega))
 have c0:w1.cell? ⟨w.heap.size,0,none⟩ = some (.slice (some ⟨b,off,none⟩) xs.length cap):=(hb1.cell (p:=⟨w.heap.size,0,none⟩) (by simp; omega)).trans (by simp [go_sem])
 have c1:w1.cell? ⟨w.heap.size + 1,0,none⟩ = some (.slice (some ⟨bn,offn,none⟩) ns.length cn):=(hb1.cell (p:=⟨w.heap.size + 1,0,none⟩) (by simp)).trans (by simp [go_sem])
 have z1:w.heap.size + 2 <= w1.heap.size:=by have:=hb1.size; simp at this; omega
 clear hb1
 go_wp2_with fail
 refine (zDg bn offn cn ns _ hmn ((zA HWN).below bel1 hBn) (zA HZN) (by omega)).mono ?_
 rintro e w2 ⟨⟨v,rfl,hv⟩,hb2⟩
 have HV:=zB hv
 have bel2:=bel1.trans (hb2.mono bel1.size)
 have e0:=(hb2.cell (p:=⟨w.heap.size,0,none⟩) (show w.heap.size < w1.heap.size by omega)).trans c0
 have e1:=(hb2.cell (p:=⟨w.heap.size + 1,0,none⟩) (show w.heap.size + 1 < w1.heap.size by omega)).trans c1
 have z2:w.heap.size + 2 <= w2.heap.size:=Nat.le_trans z1 hb2.size
 clear hb2 hv c0 c1 bel1 z1
 cases v
 ·go_wp2_with fail
  go_ret
  exact ⟨⟨_,rfl,zL (fun h=>Bool.false_ne_true ((zA HV).2 h.1))⟩,bel2⟩
 have HO:=zB ((zA HV).1 rfl)
 clear HV
 have HCS:=zB (show Cs [(w.heap.size,0,.slice (some ⟨b,off,none⟩) xs.length cap),(w.heap.size + 1,0,.slice (some ⟨bn,offn,none⟩) ns.length cn)] w2 from fun p hp=>by
  simp only [List.mem_cons,List.not_mem_nil,or_false] at hp
  rcases hp with rfl | rfl
  ·exact e0
  ·exact e1)
 go_wp2_with fail
 go_loopw [5] (fun iv wr=>∃ k:Nat,k <= ns.length /\ iv = .int .i64 (k:Int) /\ Hid (∀ i,i < k -> ZD (atN ns i) -> fnd xs (atN ns i).t ((atN ns i).k - 2) ≠ none) /\ Hid (Cs [(w.heap.size,0,.slice (some ⟨b,off,none⟩) xs.length cap),(w.heap.size + 1,0,.slice (some ⟨bn,offn,none⟩) ns.length cn)] wr) /\ Below w.heap.size w wr) (fun iv _=>ns.length - (intOf iv).toNat)
 case atStart=>exact ⟨0,Nat.zero_le _,rfl,zB (fun i hi=>absurd hi (Nat.not_lt_zero i)),HCS,bel2⟩
 case round=>
  clear HCS e0 e1 bel2 z2
  obtain ⟨k,hk,rfl,hkn,hcs,hbel⟩:=hrel
  have c0:=(zA hcs) (w.heap.size,0,.slice (some ⟨b,off,none⟩) xs.length cap) (by simp)
  have c1:=(zA hcs) (w.heap.size + 1,0,.slice (some ⟨bn,offn,none⟩) ns.length cn) (by simp)
  simp only at c0 c1
  by_cases hlt:k < ns.length
  ·have hltI:(k:Int) < (ns.length:Int):=by omega
   obtain ⟨a0,a1,a2,a3⟩:=((zA HWN) k hlt).below hbel hBn
   have HC1:=zB ((zA hcs).below (zC wr (.cells #[.int .i64 (atN ns k).k,.string (atN ns k).t,.int .i64 (atN ns k).a,.int .i64 (atN ns k).b] 81)))
   have bel1:Below w.heap.size w (wr.alloc (.cells #[.int .i64 (atN ns k).k,.string (atN ns k).t,.int .i64 (atN ns k).a,.int .i64 (atN ns k).b] 81)):=hbel.alloc hbel.size _
   by_cases ho:ZD (atN ns k)
   ·have HD:=zB (show true = decide (3 <= (atN ns k).k /\ (atN ns k).k <= 5) by rw [eq_comm,decide_eq_true_iff]; exact ho)
    have h3:=ho.1
    have h5:=ho.2
    have HOP:=zB ho
    clear ho
    go_wp2_with fail
    refine (zAB (atN ns k) _ true (zA HD)).mono ?_
    rintro e w3 ⟨rfl,hb3⟩
    have HC3:=zB ((zA HC1).below hb3)
    have bel3:=bel1.trans (hb3.mono bel1.size)
    have n0:w3.cell? ⟨wr.heap.size,0,none⟩ = some (.int .i64 (atN ns k).k):=(hb3.cell (p:=⟨wr.heap.size,0,none⟩) (by simp)).trans (by simp [go_sem])
    have n1:w3.cell? ⟨wr.heap.size,1,none⟩ = some (.string (atN ns k).t):=(hb3.cell (p:=⟨wr.heap.size,1,none⟩) (by simp)).trans (by simp [go_sem])
    have d0:=(zA HC3) (w.heap.size,0,.slice (some ⟨b,off,none⟩) xs.length cap) (by simp)
    simp only at d0
    have hwr:IntKind.i64.wrap ((atN ns k).k - 2) = (atN ns k).k - 2:=by rw [IntKind.wrap_i64]; omega
    clear hb3 c0 c1
    cases hf:fnd xs (atN ns k).t ((atN ns k).k - 2) with
    | none=>
     have HF:=zB hf
     have HFI:=zB (show fI (fnd xs (atN ns k).t ((atN ns k).k - 2)) = -1 by rw [hf]; rfl)
     clear hf
     go_wp2_with fail
     refine (zDZ b off cap xs (atN ns k).t ((atN ns k).k - 2) _ hm ((zA HW).below bel3 hB) (Nat.lt_of_lt_of_le hB bel3.size)).mono ?_
     rw [zA HFI]
     rintro e w4 ⟨rfl,hb4⟩
     go_wp2_with fail
     go_ret
     exact ⟨⟨_,rfl,zL (fun h=>h.2 k hlt (zA HOP) (zA HF))⟩,bel3.trans (hb4.mono bel3.size)⟩
    | some j=>
     have HF:=zB hf
     have HFI:=zB (show fI (fnd xs (atN ns k).t ((atN ns k).k - 2)) = (j:Int) by rw [hf]; rfl)
     clear hf
     go_wp2_with fail
     refine (zDZ b off cap xs (atN ns k).t ((atN ns k).k - 2) _ hm ((zA HW).below bel3 hB) (Nat.lt_of_lt_of_le hB bel3.size)).mono ?_
     rw [zA HFI]
     rintro e w4 ⟨rfl,hb4⟩
     have hj0:¬ (j:Int) < 0:=by omega
     go_wp2_with fail
     refine ⟨⟨k + 1,by omega,by go_num,zB (fun i hi hop=>?_),zB ((zA HC3).below hb4),bel3.trans (hb4.mono bel3.size)⟩,by simp [intOf]; omega⟩
     by_cases e:i = k
     ·subst e; rw [zA HF]; simp
     ·exact (zA hkn) i (by omega) hop
   ·have HD:=zB (show false = decide (3 <= (atN ns k).k /\ (atN ns k).k <= 5) by rw [eq_comm,decide_eq_false_iff_not]; exact ho)
    have HOP:=zB ho
    clear ho
    go_wp2_with fail
    refine (zAB (atN ns k) _ false (zA HD)).mono ?_
    rintro e w3 ⟨rfl,hb3⟩
    go_wp2_with fail
    refine ⟨⟨k + 1,by omega,by go_num,zB (fun i hi hop=>?_),zB ((zA HC1).below hb3),bel1.trans (hb3.mono bel1.size)⟩,by simp [intOf]; omega⟩
    by_cases e:i = k
    ·subst e; exact absurd hop (zA HOP)
    ·exact (zA hkn) i (by omega) hop
  ·have hkx:k = ns.length:=by omega
   go_wp2_with fail
   go_ret
   exact ⟨⟨_,rfl,Ze ⟨zA HO,fun i hi hop=>(zA hkn) i (by omega) hop⟩⟩,hbel⟩
def zu (w:World) (N:Nat) (o:zD):Prop:=w.cell? ⟨N,0,none⟩ = some (.int .i64 o.k) /\ w.cell? ⟨N,1,none⟩ = some (.string o.t) /\ w.cell? ⟨N,2,none⟩ = some (.int .i64 o.a) /\ w.cell? ⟨N,3,none⟩ = some (.int .i64 o.b) /\ w.frozen? ⟨N,2,none⟩ = false /\ w.frozen? ⟨N,3,none⟩ = false
theorem zu.grown {w w':World} {N:Nat} {o:zD} {row:Option Nat} (h:zu w N o) (hg:w.grownBy w' row) (hne:row ≠ some N):zu w' N o:=by
 obtain ⟨h0,h1,h2,h3,h4,h5⟩:=h
 have hlt:N < w.heap.size:=block_lt_of_cell h0
 have c:=zG hg hlt hne
 have f:∀ o,w'.frozen? ⟨N,o,none⟩ = w.frozen? ⟨N,o,none⟩:=fun o=>World.frozen?_of_block (w:=w) (hg.block N hlt (fun e=>hne e.symm))
 exact ⟨(c 0).trans h0,(c 1).trans h1,(c 2).trans h2,(c 3).trans h3,(f 2).trans h4,(f 3).trans h5⟩
theorem zu.below {w w':World} {N:Nat} {o:zD} (h:zu w N o) (hb:Below w.heap.size w w'):zu w' N o:=h.grown (zS hb none) (by simp)
theorem zu.set2 {w:World} {N:Nat} {o:zD} (h:zu w N o) (v:Int):zu (w.setCell ⟨N,2,none⟩ (.int .i64 v)) N ⟨o.k,o.t,v,o.b⟩:=by
 obtain ⟨h0,h1,h2,h3,h4,h5⟩:=h
 have c:∀ j,j ≠ 2 -> (w.setCell ⟨N,2,none⟩ (.int .i64 v)).cell? ⟨N,j,none⟩ = w.cell? ⟨N,j,none⟩:=fun j hj=>World.cell?_setCell_other _ _ _ _ (fun x=>hj (by injection x with _ x; exact x.symm))
 exact ⟨(c 0 (by omega)).trans h0,(c 1 (by omega)).trans h1,World.cell?_setCell_same _ _ _ h2,(c 3 (by omega)).trans h3,(World.frozen?_setCell _ _ _ _).trans h4,(World.frozen?_setCell _ _ _ _).trans h5⟩
theorem zu.set3 {w:World} {N:Nat} {o:zD} (h:zu w N o) (v:Int):zu (w.setCell ⟨N,3,none⟩ (.int .i64 v)) N ⟨o.k,o.t,o.a,v⟩:=by
 obtain ⟨h0,h1,h2,h3,h4,h5⟩:=h
 have c:∀ j,j ≠ 3 -> (w.setCell ⟨N,3,none⟩ (.int .i64 v)).cell? ⟨N,j,none⟩ = w.cell? ⟨N,j,none⟩:=fun j hj=>World.cell?_setCell_other _ _ _ _ (fun x=>hj (by injection x with _ x; exact x.symm))
 exact ⟨(c 0 (by omega)).trans h0,(c 1 (by omega)).trans h1,(c 2 (by omega)).trans h2,World.cell?_setCell_same _ _ _ h3,(World.frozen?_setCell _ _ _ _).trans h4,(World.frozen?_setCell _ _ _ _).trans h5⟩
theorem zu.other {w:World} {N g j:Nat} {o:zD} (h:zu w N o) (v:Value) (hne:g ≠ N):zu (w.setCell ⟨g,j,none⟩ v) N o:=
 h.grown (row:=some g) ⟨rfl,rfl,rfl,by simp [World.setCell],fun i _ hi=>Below.heap_setCell _ _ _ _ (fun e=>hi (by rw [e]))⟩ (by simpa using hne)
def zCF (w:World) (N:Nat) (p:OpR):Prop:=w.cell? ⟨N,0,none⟩ = some (.string p.s) /\ w.cell? ⟨N,1,none⟩ = some (.int .i64 p.k) /\ w.cell? ⟨N,2,none⟩ = some (.int .i64 p.l) /\ w.cell? ⟨N,3,none⟩ = some (.int .i64 p.sd)
theorem zCF.grown {w w':World} {N:Nat} {o:OpR} {row:Option Nat} (h:zCF w N o) (hg:w.grownBy w' row) (hne:row ≠ some N):zCF w' N o:=by
 obtain ⟨h0,h1,h2,h3⟩:=h
 have hlt:N < w.heap.size:=block_lt_of_cell h0
 have c:=zG hg hlt hne
 exact ⟨(c 0).trans h0,(c 1).trans h1,(c 2).trans h2,(c 3).trans h3⟩
theorem zCF.below {w w':World} {N:Nat} {o:OpR} (h:zCF w N o) (hb:Below w.heap.size w w'):zCF w' N o:=h.grown (zS hb none) (by simp)
theorem zCF.other {w:World} {N g j:Nat} {o:OpR} (h:zCF w N o) (v:Value) (hne:g ≠ N):zCF (w.setCell ⟨g,j,none⟩ v) N o:=
 h.grown (row:=some g) ⟨rfl,rfl,rfl,by simp [World.setCell],fun i _ hi=>Below.heap_setCell _ _ _ _ (fun e=>hi (by rw [e]))⟩ (by simpa using hne)
theorem zCh {w w':World} {b off B:Nat} {xs:List OpR} {row:Option Nat} (h:Ops w b off xs) (hg:w.grownBy w' row) (hb:b < B) (hB:B <= w.heap.size) (hr:∀ k,row = some k -> B <= k):Ops w' b off xs:=fun i hi=>by
 obtain ⟨a0,a1,a2,a3⟩:=h i hi
 have c:=zG hg (b:=b) (by omega) (fun e=>by have:=hr _ e; omega)
 exact ⟨(c _).trans a0,(c _).trans a1,(c _).trans a2,(c _).trans a3⟩
theorem zJu {w w':World} {b off B:Nat} {xs:List zD} {row:Option Nat} (h:Zw w b off xs) (hg:w.grownBy w' row) (hb:b < B) (hB:B <= w.heap.size) (hr:∀ k,row = some k -> B <= k):Zw w' b off xs:=fun i hi=>by
 obtain ⟨a0,a1,a2,a3⟩:=h i hi
 have c:=zG hg (b:=b) (by omega) (fun e=>by have:=hr _ e; omega)
 exact ⟨(c _).trans a0,(c _).trans a1,(c _).trans a2,(c _).trans a3⟩
theorem zn.base {w:World} {B:Nat} {u:Value} {us:List zD} (h:zn w B u us):∀ g,u.ownBlock = some g -> B <= g:=fun g hg=>(World.ownsRow.lt h g hg).1
theorem zn.other {w:World} {B g j:Nat} {u:Value} {us:List zD} (h:zn w B u us) (v:Value) (hne:u.ownBlock ≠ some g):zn (w.setCell ⟨g,j,none⟩ v) B u us:=zD8 h g j v hne
theorem zHG (xs:List zD):∀ m i,i <= m -> ∃ r,er xs m = er xs i ++ r
 | 0,i,h=>by
  obtain rfl:i = 0:=by omega
  exact ⟨[],rfl⟩
 | m + 1,i,h=>by
  by_cases e:i = m + 1
  ·subst e; exact ⟨[],by simp⟩
  ·obtain ⟨r,hr⟩:=zHG xs m i (by omega)
   by_cases h6:(atN xs m).k = 6
   ·rw [zIf h6]; exact ⟨r,hr⟩
   ·rw [zDB h6,hr]; exact ⟨r ++ [erN xs (atN xs m)],by simp⟩
theorem zMc {xs:List zD} {m i:Nat} (hi:i < m) (h6:(atN xs i).k ≠ 6):cnt xs i < (er xs m).length /\ atN (er xs m) (cnt xs i) = erN xs (atN xs i):=by
 obtain ⟨r,hr⟩:=zHG xs m (i + 1) hi
 have hl:=zBd xs i
 rw [zDB h6] at hr
 rw [hr]
 refine ⟨by simp [hl],?_⟩
 unfold atN
 simp [List.getD,List.getElem?_append,hl]
theorem zEw {xs:List zD} {i:Nat} (h6:(atN xs i).k ≠ 6):cnt xs (i + 1) = cnt xs i + 1:=by
 show (if (atN xs i).k = 6 then cnt xs i else cnt xs i + 1) = _
 rw [if_neg h6]
theorem zLD {xs:List zD} {i:Nat} (h6:(atN xs i).k = 6):cnt xs (i + 1) = cnt xs i:=by
 show (if (atN xs i).k = 6 then cnt xs i else cnt xs i + 1) = _
 rw [if_pos h6]
end Go.Proofs.YtfboipappaonhaaGreat
