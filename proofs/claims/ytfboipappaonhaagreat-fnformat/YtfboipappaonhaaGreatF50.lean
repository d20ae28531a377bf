import Derived.Test.YtfboipappaonhaaGreatF02
import Derived.Test.YtfboipappaonhaaGreatF03
import Derived.Test.YtfboipappaonhaaGreatF49
namespace Go.Proofs.YtfboipappaonhaaGreat
set_option linter.unusedSimpArgs false
set_option linter.unusedVariables false
set_option maxHeartbeats 16000000
set_option maxRecDepth 100000
open Go.RowKit Go.Maps
theorem zJn (bo bs:Nat) (ns:List OpR) (o:zD) (T T':TypeId) (u u':Value) (w:World) (hi:Idx w bo bs ns ns.length) (hc:zM ns 0) (hok:zBF ns ns.length) (ht:o.t.size<=maxLen) (hk:zAA o) (hkn:ZF o->fnd ns o.t (o.k-2)≠none) :
  Calls Tryz.prog 116 #[.agg #[.map (some bo),.map (some bs)],.agg #[.int .i64 o.k,.string o.t,.int .i64 o.a,.int .i64 o.b],.iface T u,.iface T' u'] w fun x w'=>x = .returned (exN (opA ns o) o (.iface T u) (.iface T' u'))/\Below w.heap.size w w':=by
 rcases hk.2 with ⟨h,_⟩ | ⟨h,_⟩ | ⟨h,_⟩ | ⟨h | h | h,_⟩
 ·exact zCs bo bs ns o _ _ w hi hc hok ht (Or.inl h)
 ·exact zCs bo bs ns o _ _ w hi hc hok ht (Or.inr h)
 ·exact zDm bo bs ns o _ _ _ w hi hc hok ht (Or.inr (Or.inr h)) hkn
 ·exact zDm bo bs ns o _ _ _ w hi hc hok ht (Or.inl h) hkn
 ·exact zJm bo bs ns o _ _ _ _ w hi hc hok ht h hkn
 ·exact zDm bo bs ns o _ _ _ w hi hc hok ht (Or.inr (Or.inl h)) hkn
def ExS (w:World) (g:Nat) (ns:List OpR) (xs:List zD) (k:Nat):Prop:=g<w.heap.size/\∀ j,j<xs.length->w.cell? ⟨g,j,none⟩=some ((exL ns xs k).getD j .nilIface)/\w.frozen? ⟨g,j,none⟩=false
theorem ExS.below {w w':World} {g k:Nat} {ns:List OpR} {xs:List zD} (h:ExS w g ns xs k) (hb:Below w.heap.size w w'):ExS w' g ns xs k:=
 ⟨Nat.lt_of_lt_of_le h.1 hb.size,fun j hj=>⟨(hb.cell (p:=⟨g,j,none⟩) h.1).trans (h.2 j hj).1,(hb.frozen (p:=⟨g,j,none⟩) h.1).trans (h.2 j hj).2⟩⟩
theorem ExS.set {w:World} {g k:Nat} {ns:List OpR} {xs:List zD} (h:ExS w g ns xs k) (hk:k<xs.length) {v:Value} (hv:v=exS ns xs k):ExS (w.setCell ⟨g,k,none⟩ v) g ns xs (k+1):=by
 refine ⟨by simpa [World.setCell] using h.1,fun j hj=>⟨?_,(World.frozen?_setCell _ _ _ _).trans (h.2 j hj).2⟩⟩
 by_cases e:j=k
 ·subst e
  rw [World.cell?_setCell_same _ _ _ (h.2 j hj).1,hv]
  rfl
 ·rw [World.cell?_setCell_other _ _ _ _ (fun x=>e (by injection x with _ x; exact x.symm)),(h.2 j hj).1]
  have hl:=zGV ns xs k
  congr 1
  show _=(exL ns xs k++[_]).getD j .nilIface
  simp only [List.getD,List.getElem?_append,hl]
  by_cases h1:j<k
  ·rw [if_pos h1]
  ·rw [if_neg h1,List.getElem?_eq_none (by omega),List.getElem?_eq_none (by simp; omega)]
theorem zQ2:(Tryz.prog.info? 56).map (fun i=>(i.zero,i.size,i.bytes))=some (some .nilIface,1,16):=by kernel_rfl
theorem zPn (W:World) (n j:Nat) (hj:j<n):(W.alloc (.cells (madeCells #[.nilIface] n) 56)).cell? ⟨W.heap.size,j,none⟩=some .nilIface/\(W.alloc (.cells (madeCells #[.nilIface] n) 56)).frozen? ⟨W.heap.size,j,none⟩=false:=by
 have hb:(W.alloc (.cells (madeCells #[.nilIface] n) 56)).heap[W.heap.size]?=some (.cells (madeCells #[.nilIface] n) 56 (0,0)):=heap_alloc_new W _
 refine ⟨?_,frozen_of_row _ _ _ _ _ hb⟩
 rw [cell_of_row _ W.heap.size j _ 56 (0,0) hb]
 simp [madeCells,hj,Nat.mod_one]
theorem zLb {xs:List zD} (h:ZE xs) {k:Nat} (hk:k<xs.length) (h1:1<=k):∃ ja jb:Nat,(atN xs k).a=(ja:Int)/\(atN xs k).b=(jb:Int)/\ja<k/\jb<k:=by
 rcases h.kidsAt hk with ⟨h0,ha,hb⟩ | ⟨_,h2,ha,hb⟩ | ⟨_,h2,hb,ha0,ha1⟩
 ·exact ⟨0,0,ha,hb,h1,h1⟩
 ·exact ⟨k-1,0,by omega,hb,by omega,by omega⟩
 ·exact ⟨(atN xs k).a.toNat,k-1,by omega,by omega,by omega,by omega⟩
def EO (w:World) (X N g ja jb bo bs:Nat) (o:zD) (ea eb:Value):Prop:=
 w.cell? ⟨X,0,none⟩=some (.map (some bo))/\w.cell? ⟨X,1,none⟩=some (.map (some bs))/\w.cell? ⟨N,0,none⟩=some (.int .i64 o.k)/\w.cell? ⟨N,1,none⟩=some (.string o.t)/\w.cell? ⟨N,2,none⟩=some (.int .i64 o.a)/\w.cell? ⟨N,3,none⟩=some (.int .i64 o.b)/\w.cell? ⟨g,ja,none⟩=some ea/\w.cell? ⟨g,jb,none⟩=some eb
theorem EO.below {w w':World} {X N g ja jb bo bs:Nat} {o:zD} {ea eb:Value} (h:EO w X N g ja jb bo bs o ea eb) (hb:Below w.heap.size w w'):EO w' X N g ja jb bo bs o ea eb:=by
 have c:∀ {b o':Nat} {v:Value},w.cell? ⟨b,o',none⟩=some v->w'.cell? ⟨b,o',none⟩=some v:=fun h=>(hb.cell (p:=⟨_,_,none⟩) (block_lt_of_cell h)).trans h
 obtain ⟨h0,h1,h2,h3,h4,h5,h6,h7⟩:=h
 exact ⟨c h0,c h1,c h2,c h3,c h4,c h5,c h6,c h7⟩
theorem EO.set {w:World} {X N g ja jb bo bs k:Nat} {o:zD} {ea eb:Value} (h:EO w X N g ja jb bo bs o ea eb) (hX:X≠g) (hN:N≠g) (ha:ja≠k) (hb:jb≠k) (v:Value):EO (w.setCell ⟨g,k,none⟩ v) X N g ja jb bo bs o ea eb:=by
 have c:∀ {b o':Nat} {u:Value},(b≠g\/o'≠k)->w.cell? ⟨b,o',none⟩=some u->(w.setCell ⟨g,k,none⟩ v).cell? ⟨b,o',none⟩=some u:=fun hne h=>(World.cell?_setCell_other _ _ _ _ (fun x=>by
  injection x with x1 x2
  rcases hne with h | h
  ·exact h x1.symm
  ·exact h x2.symm)).trans h
 obtain ⟨h0,h1,h2,h3,h4,h5,h6,h7⟩:=h
 exact ⟨c (Or.inl hX) h0,c (Or.inl hX) h1,c (Or.inl hN) h2,c (Or.inl hN) h3,c (Or.inl hN) h4,c (Or.inl hN) h5,c (Or.inr ha) h6,c (Or.inr hb) h7⟩
theorem zLc (bo bs bn offn cn:Nat) (ns:List OpR) (xs:List zD) (w:World) (hi:Idx w bo bs ns ns.length) (hc:zM ns 0) (hok:zBF ns ns.length) (hwn:Zu w bn offn xs) (hsn:zAX xs) (hBn:bn<w.heap.size) (hord:ZE xs) (hkn:zAt ns xs) :
  Calls Tryz.prog 67 #[.agg #[.map (some bo),.map (some bs)],.agg #[.slice (some ⟨bn,offn,none⟩) xs.length cn]] w fun x w'=>x = .returned (exS ns xs (xs.length-1))/\Below w.heap.size w w':=by
 have HI:=zB hi
 have HC:=zB hc
 have HOK:=zB hok
 have HWN:=zB hwn
 have HZN:=zB hsn
 have HO:=zB hord
 have HKN:=zB hkn
 have hl1:=hord.1
 have hl2:=hord.2.1
 obtain ⟨iX,hiX,hzX0,hzX1,hzX2⟩:=zl zQ2
 have hmk:∀ W:World,(Instr.makeSlice 192 (.int .i64 (xs.length:Int)) (.int .i64 (xs.length:Int))).run Tryz.prog W = .ok (.slice (some ⟨W.heap.size,0,none⟩) xs.length xs.length) (W.alloc (.cells (madeCells #[.nilIface] xs.length) 56)):=by
  intro W
  have:=run_make (P:=Tryz.prog) W 192 56 iX _ Tryz.underlying192 hiX hzX0 .i64 .i64 xs.length xs.length (by omega) (Int.le_refl _) (by rw [hzX2]; omega) (by omega)
  simpa [hzX1,Value.cells] using this
 clear hi hc hok hwn hsn hord hkn hiX hzX0 hzX1 hzX2
 obtain ⟨W1,HW1⟩:∃ W1,Hid (W1=((w.alloc (.cells #[.map (some bo),.map (some bs)] 69)).alloc (.cells #[.slice (some ⟨bn,offn,none⟩) xs.length cn] 28)).alloc (.cells (madeCells #[.nilIface] xs.length) 56)):=⟨_,zB rfl⟩
 have hb1:Below w.heap.size w W1:=by rw [zA HW1]; exact ((zC _ _).alloc (by simp) _).alloc (by simp; omega) _
 have hs1:W1.heap.size=w.heap.size+3:=by rw [zA HW1]; simp
 have HEX:=zB (show ExS W1 (w.heap.size+1+1) ns xs 0 by
  rw [zA HW1]
  refine ⟨by simp,fun j hj=>?_⟩
  have:=zPn ((w.alloc (.cells #[.map (some bo),.map (some bs)] 69)).alloc (.cells #[.slice (some ⟨bn,offn,none⟩) xs.length cn] 28)) xs.length j hj
  simpa [exL] using this)
 have X0:W1.cell? ⟨w.heap.size,0,none⟩=some (.map (some bo)):=by rw [zA HW1]; simp [go_sem]
 have X1:W1.cell? ⟨w.heap.size,1,none⟩=some (.map (some bs)):=by rw [zA HW1]; simp [go_sem]
 have HX:=zB (And.intro X0 X1)
 have HT:W1.cell? ⟨w.heap.size+1,0,none⟩=some (.slice (some ⟨bn,offn,none⟩) xs.length cn):=by rw [zA HW1]; simp [go_sem]
 clear X0 X1
 go_enter Tryz.func67,Tryz.ntmps67
 go_wp2_with fail
 go_loopw [15] (fun iv wr=>∃ k:Nat,k<=xs.length/\iv = .int .i64 (k:Int)/\Hid (ExS wr (w.heap.size+1+1) ns xs k)/\Hid (wr.cell? ⟨w.heap.size,0,none⟩=some (.map (some bo))/\wr.cell? ⟨w.heap.size,1,none⟩=some (.map (some bs)))/\Below w.heap.size w wr/\w.heap.size+3<=wr.heap.size) (fun iv _=>xs.length-(intOf iv).toNat)
 case atStart=>
  rw [<- zA HW1]
  exact ⟨0,Nat.zero_le _,rfl,HEX,HX,hb1,by omega⟩
 case round=>
  clear HEX HX HT hs1 hb1 HW1 hmk
  obtain ⟨k,hk,rfl,hex,hx,hbel,hsz⟩:=hrel
  by_cases hlt:k<xs.length
  ·have hltI:(k:Int)<(xs.length:Int):=by omega
   obtain ⟨a0,a1,a2,a3⟩:=((zA HWN) k hlt).below hbel hBn
   obtain ⟨m0,m1⟩:=(zA hex).2 k hlt
   have bel1:Below w.heap.size w (wr.alloc (.cells #[.int .i64 (atN xs k).k,.string (atN xs k).t,.int .i64 (atN xs k).a,.int .i64 (atN xs k).b] 81)).drew:=(hbel.alloc hbel.size _).drew
   by_cases hk0:k=0
   ·subst hk0
    have hk0:=(zA HO).first
    obtain ⟨ha0,hb0⟩:(atN xs 0).a=0/\(atN xs 0).b=0:=by
     rcases (zA HO).kidsAt (k:=0) (by omega) with ⟨_,ha,hb⟩ | ⟨_,h,_⟩ | ⟨_,h,_⟩
     ·exact ⟨ha,hb⟩
     ·omega
     ·omega
    rw [ha0] at a2
    rw [hb0] at a3
    simp only [Nat.zero_mul,Nat.add_zero] at a0 a1 a2 a3
    have e0:((exL ns xs 0).getD 0 Value.nilIface) = .nilIface:=rfl
    rw [e0] at m0
    obtain ⟨T,u,hTu⟩:=zC3 (opA ns (atN xs 0)) (atN xs 0) .nilIface .nilIface
    have HRES:=zB (show (Value.iface T u)=exS ns xs 0 by
     rw [zEe,<- hTu]
     simp [exL])
    have hkk:(atN xs 0).k=1\/(atN xs 0).k=2:=by
     rcases ((zA HO).2.2.2 0 (by omega)).2 with ⟨h,_⟩ | ⟨h,_⟩ | ⟨h,_⟩ | ⟨h | h | h,_⟩
     ·exact Or.inl h
     ·exact Or.inr h
     all_goals (rw [h] at hk0; simp [zU] at hk0)
    have HCALL:=zB (fun (W:World) (h1:Idx W bo bs ns ns.length)=>zCs bo bs ns (atN xs 0) .nilIface .nilIface W h1 (zA HC) (zA HOK) ((zA HZN) 0 hlt) hkk)
    rw [hTu,ha0,hb0] at HCALL
    have HEO:=zB (show EO (wr.alloc (.cells #[.int .i64 (atN xs 0).k,.string (atN xs 0).t,.int .i64 0,.int .i64 0] 81)).drew w.heap.size wr.heap.size (w.heap.size+1+1) 0 0 bo bs ⟨(atN xs 0).k,(atN xs 0).t,0,0⟩ .nilIface .nilIface from by
     have hb0:=zC wr (.cells #[.int .i64 (atN xs 0).k,.string (atN xs 0).t,.int .i64 0,.int .i64 0] 81)
     refine EO.below (w:=wr.alloc (.cells #[.int .i64 (atN xs 0).k,.string (atN xs 0).t,.int .i64 0,.int .i64 0] 81)) ?_ (Below.refl _ _).drew
     refine ⟨?_,?_,by simp [go_sem],by simp [go_sem],by simp [go_sem],by simp [go_sem],?_,?_⟩
     ·exact (hb0.cell (p:=⟨w.heap.size,0,none⟩) (show w.heap.size<wr.heap.size by omega)).trans (zA hx).1
     ·exact (hb0.cell (p:=⟨w.heap.size,1,none⟩) (show w.heap.size<wr.heap.size by omega)).trans (zA hx).2
     ·exact (hb0.cell (p:=⟨w.heap.size+1+1,0,none⟩) (show w.heap.size+1+1<wr.heap.size by omega)).trans m0
     ·exact (hb0.cell (p:=⟨w.heap.size+1+1,0,none⟩) (show w.heap.size+1+1<wr.heap.size by omega)).trans m0)
    have HXC:=zB (((zA hex).below (zC wr (.cells #[.int .i64 (atN xs 0).k,.string (atN xs 0).t,.int .i64 0,.int .i64 0] 81))).below (Below.refl _ _).drew)
    have HBC:=zB (show Below w.heap.size w (wr.alloc (.cells #[.int .i64 (atN xs 0).k,.string (atN xs 0).t,.int .i64 0,.int .i64 0] 81)).drew from (hbel.alloc hbel.size _).drew)
    have HZC:=zB (show wr.heap.size+1<=(wr.alloc (.cells #[.int .i64 (atN xs 0).k,.string (atN xs 0).t,.int .i64 0,.int .i64 0] 81)).drew.heap.size by simp)
    obtain ⟨q0,q1,q2,q3,q4,q5,q6,q7⟩:=zA HEO
    clear hTu ha0 hb0 m0 m1 bel1 hkk hk0 e0
    go_wp2_with fail
    refine wp_region_held_drew (S:=fun w'=>w'.cell? ⟨w.heap.size,0,none⟩=some (.map (some bo))/\w'.cell? ⟨w.heap.size,1,none⟩=some (.map (some bs))/\w'.cell? ⟨wr.heap.size,0,none⟩=some (.int .i64 (atN xs 0).k)/\w'.cell? ⟨wr.heap.size,1,none⟩=some (.string (atN xs 0).t)/\w'.cell? ⟨wr.heap.size,2,none⟩=some (.int .i64 0)/\w'.cell? ⟨wr.heap.size,3,none⟩=some (.int .i64 0)) (by kernel_rfl) ⟨q0,q1,q2,q3,q4,q5⟩ (fun hHeld=>?_)
    refine wpAnyH_take (i:=0) (v:=?v0) rfl (by kernel_rfl) (by kernel_rfl) (by kernel_rfl) (fun _ _ _ h=>h) (Or.inl ⟨by rfl,?y0⟩) (by assumption) ?r0
    case y0=>(intro w hSw; (try dsimp only at hSw); go_simp; try (with_reducible rfl))
    simp only [List.getElem_toArray,List.getElem_cons_zero,List.getElem_cons_succ,Act.put,List.setIfInBounds_toArray,List.set_cons_zero,List.set_cons_succ]
    refine wpAnyH_take (i:=1) (v:=?v1) rfl (by kernel_rfl) (by kernel_rfl) (by kernel_rfl) (fun _ _ _ h=>h) (Or.inl ⟨by rfl,?y1⟩) (by assumption) ?r1
    case y1=>(intro w hSw; (try dsimp only at hSw); go_simp; try (with_reducible rfl))
    simp only [List.getElem_toArray,List.getElem_cons_zero,List.getElem_cons_succ,Act.put,List.setIfInBounds_toArray,List.set_cons_zero,List.set_cons_succ]
    refine wpAnyH_take (i:=2) (v:=?v2) rfl (by kernel_rfl) (by kernel_rfl) (by kernel_rfl) (fun _ _ _ h=>h) (Or.inl ⟨by rfl,?y2⟩) (by assumption) ?r2
    case y2=>(intro w hSw; (try dsimp only at hSw); go_simp; try (with_reducible rfl))
    simp only [List.getElem_toArray,List.getElem_cons_zero,List.getElem_cons_succ,Act.put,List.setIfInBounds_toArray,List.set_cons_zero,List.set_cons_succ]
    refine wpAnyH_take (i:=3) (v:=?v3) rfl (by kernel_rfl) (by kernel_rfl) (by kernel_rfl) (fun _ _ _ h=>h) (Or.inl ⟨by rfl,?y3⟩) (by assumption) ?r3
    case y3=>(intro w hSw; (try dsimp only at hSw); go_simp; try (with_reducible rfl))
    simp only [List.getElem_toArray,List.getElem_cons_zero,List.getElem_cons_succ,Act.put,List.setIfInBounds_toArray,List.set_cons_zero,List.set_cons_succ]
    refine wpAnyH_take (i:=4) (v:=?v4) rfl (by kernel_rfl) (by kernel_rfl) (by kernel_rfl) (fun _ _ _ h=>h) (Or.inl ⟨by rfl,?y4⟩) (by assumption) ?r4
    case y4=>(intro w hSw; (try dsimp only at hSw); go_simp; try (with_reducible rfl))
    simp only [List.getElem_toArray,List.getElem_cons_zero,List.getElem_cons_succ,Act.put,List.setIfInBounds_toArray,List.set_cons_zero,List.set_cons_succ]
    refine wpAnyH_take (i:=5) (v:=?v5) rfl (by kernel_rfl) (by kernel_rfl) (by kernel_rfl) (fun _ _ _ h=>h) (Or.inl ⟨by rfl,?y5⟩) (by assumption) ?r5
    case y5=>(intro w hSw; (try dsimp only at hSw); go_simp; try (with_reducible rfl))
    simp only [List.getElem_toArray,List.getElem_cons_zero,List.getElem_cons_succ,Act.put,List.setIfInBounds_toArray,List.set_cons_zero,List.set_cons_succ]
    refine wpAnyH_take (i:=6) (v:=?v6) rfl (by kernel_rfl) (by kernel_rfl) (by kernel_rfl) (fun _ _ _ h=>h) (Or.inl ⟨by rfl,?y6⟩) (by assumption) ?r6
    case y6=>(intro w hSw; (try dsimp only at hSw); go_simp; try (with_reducible rfl))
    simp only [List.getElem_toArray,List.getElem_cons_zero,List.getElem_cons_succ,Act.put,List.setIfInBounds_toArray,List.set_cons_zero,List.set_cons_succ]
    refine wpAnyH_take (i:=7) (v:=?v7) rfl (by kernel_rfl) (by kernel_rfl) (by kernel_rfl) (fun _ _ _ h=>h) (Or.inl ⟨by rfl,?y7⟩) (by assumption) ?r7
    case y7=>(intro w hSw; (try dsimp only at hSw); go_simp; try (with_reducible rfl))
    simp only [List.getElem_toArray,List.getElem_cons_zero,List.getElem_cons_succ,Act.put,List.setIfInBounds_toArray,List.set_cons_zero,List.set_cons_succ]
    refine wpAnyH_take (i:=9) (v:=?v9) rfl (by kernel_rfl) (by kernel_rfl) (by kernel_rfl) (fun _ _ _ h=>h) (Or.inl ⟨by rfl,?y9⟩) (by assumption) ?r9
    case y9=>(intro w hSw; (try dsimp only at hSw); go_simp; try (with_reducible rfl))
    simp only [List.getElem_toArray,List.getElem_cons_zero,List.getElem_cons_succ,Act.put,List.setIfInBounds_toArray,List.set_cons_zero,List.set_cons_succ]
    refine wpAnyH_take (i:=10) (v:=?v10) rfl (by kernel_rfl) (by kernel_rfl) (by kernel_rfl) (fun _ _ _ h=>h) (Or.inl ⟨by rfl,?y10⟩) (by assumption) ?r10
    case y10=>(intro w hSw; (try dsimp only at hSw); go_simp; try (with_reducible rfl))
    simp only [List.getElem_toArray,List.getElem_cons_zero,List.getElem_cons_succ,Act.put,List.setIfInBounds_toArray,List.set_cons_zero,List.set_cons_succ]
    refine wpAnyH_take (i:=11) (v:=?v11) rfl (by kernel_rfl) (by kernel_rfl) (by kernel_rfl) (fun _ _ _ h=>h) (Or.inl ⟨by rfl,?y11⟩) (by assumption) ?r11
    case y11=>(intro w hSw; (try dsimp only at hSw); go_simp; try (with_reducible rfl))
    simp only [List.getElem_toArray,List.getElem_cons_zero,List.getElem_cons_succ,Act.put,List.setIfInBounds_toArray,List.set_cons_zero,List.set_cons_succ]
    refine wpAnyH_take (i:=12) (v:=?v12) rfl (by kernel_rfl) (by kernel_rfl) (by kernel_rfl) (fun _ _ _ h=>h) (Or.inl ⟨by rfl,?y12⟩) (by assumption) ?r12
    case y12=>(intro w hSw; (try dsimp only at hSw); go_simp; try (with_reducible rfl))
    simp only [List.getElem_toArray,List.getElem_cons_zero,List.getElem_cons_succ,Act.put,List.setIfInBounds_toArray,List.set_cons_zero,List.set_cons_succ]
    refine wpAnyH_ready (rs:=[8,13]) (by kernel_rfl) (by simp) ?_
    refine AllReadyH.cons rfl (fun K hK=>?_) (AllReadyH.cons rfl (fun K hK=>?_) AllReadyH.nil)
    ·go_simp
     refine hK.out _ _ hHeld (fun _=>?_)
     clear hK K
     refine wpAnyH_ready (rs:=[13]) (by kernel_rfl) (by simp) ?_
     refine AllReadyH.cons rfl (fun K hK=>?_) AllReadyH.nil
     go_simp
     refine hK.out _ _ hHeld (fun _=>?_)
     clear hK K
     refine wpAnyH_ready (rs:=[14]) (by kernel_rfl) (by simp) ?_
     refine AllReadyH.cons rfl (fun K hK=>?_) AllReadyH.nil
     go_simp
     go_wp2_with ((go_at_call 116; refine ((zA HCALL) _ ((zA HI).kept (zA HBC))).mono ?_; rintro x w3 ⟨rfl,hb3⟩; replace HEO:=zB ((zA HEO).below hb3); replace HXC:=zB ((zA HXC).below hb3); replace HBC:=zB ((zA HBC).trans (hb3.mono (zA HBC).size)); replace HZC:=zB (Nat.le_trans (zA HZC) hb3.size); clear hb3))
     replace ⟨q0,q1,q2,q3,q4,q5,q6,q7⟩:=zA HEO
     refine hK.out _ _ ⟨q0,q1,q2,q3,q4,q5⟩ (fun hHeld=>?_)
     clear hK K
     obtain ⟨m0,m1⟩:=(zA HXC).2 0 hlt
     have e0:((exL ns xs 0).getD 0 Value.nilIface) = .nilIface:=rfl
     rw [e0] at m0
     clear e0
     refine wpAnyH_take (i:=15) (v:=?va15) rfl (by kernel_rfl) (by kernel_rfl) (by kernel_rfl) (fun _ _ _ h=>h) (Or.inl ⟨by rfl,?ya15⟩) (by assumption) ?ra15
     case ya15=>(intro w hSw; (try dsimp only at hSw); go_simp; try (with_reducible rfl))
     simp only [List.getElem_toArray,List.getElem_cons_zero,List.getElem_cons_succ,Act.put,List.setIfInBounds_toArray,List.set_cons_zero,List.set_cons_succ]
     refine wpAnyH_ready (rs:=[16]) (by kernel_rfl) (by simp) ?_
     refine AllReadyH.cons rfl (fun K hK=>?_) AllReadyH.nil
     go_simp
     have HX2:=zB (show (w3.setCell ⟨w.heap.size+1+1,0,none⟩ (.iface T u)).cell? ⟨w.heap.size,0,none⟩=some (.map (some bo))/\(w3.setCell ⟨w.heap.size+1+1,0,none⟩ (.iface T u)).cell? ⟨w.heap.size,1,none⟩=some (.map (some bs))/\(w3.setCell ⟨w.heap.size+1+1,0,none⟩ (.iface T u)).cell? ⟨wr.heap.size,0,none⟩=some (.int .i64 (atN xs 0).k)/\(w3.setCell ⟨w.heap.size+1+1,0,none⟩ (.iface T u)).cell? ⟨wr.heap.size,1,none⟩=some (.string (atN xs 0).t)/\(w3.setCell ⟨w.heap.size+1+1,0,none⟩ (.iface T u)).cell? ⟨wr.heap.size,2,none⟩=some (.int .i64 0)/\(w3.setCell ⟨w.heap.size+1+1,0,none⟩ (.iface T u)).cell? ⟨wr.heap.size,3,none⟩=some (.int .i64 0) from
      have c:∀ {b o':Nat} {x:Value},b≠w.heap.size+1+1->w3.cell? ⟨b,o',none⟩=some x->(w3.setCell ⟨w.heap.size+1+1,0,none⟩ (.iface T u)).cell? ⟨b,o',none⟩=some x:=fun hne h=>(World.cell?_setCell_other _ _ _ _ (fun x=>hne (by injection x with x1; exact x1.symm))).trans h
      ⟨c (by omega) q0,c (by omega) q1,c (by omega) q2,c (by omega) q3,c (by omega) q4,c (by omega) q5⟩)
     refine hK.out _ _ (zA HX2) (fun _=>?_)
     clear hK K
     refine wpAnyH_done (by kernel_rfl) ?_ _
     have HEX2:=zB ((zA HXC).set hlt (zA HRES))
     have HX3:=zB (And.intro (zA HX2).1 (zA HX2).2.1)
     have HB2:Below w.heap.size w (w3.setCell ⟨w.heap.size+1+1,0,none⟩ (.iface T u)):=(zA HBC).setCell (by simp; omega) _
     have HZ2:w.heap.size+3<=(w3.setCell ⟨w.heap.size+1+1,0,none⟩ (.iface T u)).heap.size:=by have:=zA HZC; simp [World.setCell]; omega
     clear HEO HXC HBC HZC m0 m1 HX2 q0 q1 q2 q3 q4 q5 q6 q7 hHeld
     go_wp2_with fail
     exact ⟨⟨1,by omega,by go_num,HEX2,HX3,HB2,HZ2⟩,by simp [intOf]; omega⟩
    ·go_simp
     refine hK.out _ _ hHeld (fun _=>?_)
     clear hK K
     refine wpAnyH_ready (rs:=[8]) (by kernel_rfl) (by simp) ?_
     refine AllReadyH.cons rfl (fun K hK=>?_) AllReadyH.nil
     go_simp
     refine hK.out _ _ hHeld (fun _=>?_)
     clear hK K
     refine wpAnyH_ready (rs:=[14]) (by kernel_rfl) (by simp) ?_
     refine AllReadyH.cons rfl (fun K hK=>?_) AllReadyH.nil
     go_simp
     go_wp2_with ((go_at_call 116; refine ((zA HCALL) _ ((zA HI).kept (zA HBC))).mono ?_; rintro x w3 ⟨rfl,hb3⟩; replace HEO:=zB ((zA HEO).below hb3); replace HXC:=zB ((zA HXC).below hb3); replace HBC:=zB ((zA HBC).trans (hb3.mono (zA HBC).size)); replace HZC:=zB (Nat.le_trans (zA HZC) hb3.size); clear hb3))
     replace ⟨q0,q1,q2,q3,q4,q5,q6,q7⟩:=zA HEO
     refine hK.out _ _ ⟨q0,q1,q2,q3,q4,q5⟩ (fun hHeld=>?_)
     clear hK K
     obtain ⟨m0,m1⟩:=(zA HXC).2 0 hlt
     have e0:((exL ns xs 0).getD 0 Value.nilIface) = .nilIface:=rfl
     rw [e0] at m0
     clear e0
     refine wpAnyH_take (i:=15) (v:=?vb15) rfl (by kernel_rfl) (by kernel_rfl) (by kernel_rfl) (fun _ _ _ h=>h) (Or.inl ⟨by rfl,?yb15⟩) (by assumption) ?rb15
     case yb15=>(intro w hSw; (try dsimp only at hSw); go_simp; try (with_reducible rfl))
     simp only [List.getElem_toArray,List.getElem_cons_zero,List.getElem_cons_succ,Act.put,List.setIfInBounds_toArray,List.set_cons_zero,List.set_cons_succ]
     refine wpAnyH_ready (rs:=[16]) (by kernel_rfl) (by simp) ?_
     refine AllReadyH.cons rfl (fun K hK=>?_) AllReadyH.nil
     go_simp
     have HX2:=zB (show (w3.setCell ⟨w.heap.size+1+1,0,none⟩ (.iface T u)).cell? ⟨w.heap.size,0,none⟩=some (.map (some bo))/\(w3.setCell ⟨w.heap.size+1+1,0,none⟩ (.iface T u)).cell? ⟨w.heap.size,1,none⟩=some (.map (some bs))/\(w3.setCell ⟨w.heap.size+1+1,0,none⟩ (.iface T u)).cell? ⟨wr.heap.size,0,none⟩=some (.int .i64 (atN xs 0).k)/\(w3.setCell ⟨w.heap.size+1+1,0,none⟩ (.iface T u)).cell? ⟨wr.heap.size,1,none⟩=some (.string (atN xs 0).t)/\(w3.setCell ⟨w.heap.size+1+1,0,none⟩ (.iface T u)).cell? ⟨wr.heap.size,2,none⟩=some (.int .i64 0)/\(w3.setCell ⟨w.heap.size+1+1,0,none⟩ (.iface T u)).cell? ⟨wr.heap.size,3,none⟩=some (.int .i64 0) from
      have c:∀ {b o':Nat} {x:Value},b≠w.heap.size+1+1->w3.cell? ⟨b,o',none⟩=some x->(w3.setCell ⟨w.heap.size+1+1,0,none⟩ (.iface T u)).cell? ⟨b,o',none⟩=some x:=fun hne h=>(World.cell?_setCell_other _ _ _ _ (fun x=>hne (by injection x with x1; exact x1.symm))).trans h
      ⟨c (by omega) q0,c (by omega) q1,c (by omega) q2,c (by omega) q3,c (by omega) q4,c (by omega) q5⟩)
     refine hK.out _ _ (zA HX2) (fun _=>?_)
     clear hK K
     refine wpAnyH_done (by kernel_rfl) ?_ _
     have HEX2:=zB ((zA HXC).set hlt (zA HRES))
     have HX3:=zB (And.intro (zA HX2).1 (zA HX2).2.1)
     have HB2:Below w.heap.size w (w3.setCell ⟨w.heap.size+1+1,0,none⟩ (.iface T u)):=(zA HBC).setCell (by simp; omega) _
     have HZ2:w.heap.size+3<=(w3.setCell ⟨w.heap.size+1+1,0,none⟩ (.iface T u)).heap.size:=by have:=zA HZC; simp [World.setCell]; omega
     clear HEO HXC HBC HZC m0 m1 HX2 q0 q1 q2 q3 q4 q5 q6 q7 hHeld
     go_wp2_with fail
     exact ⟨⟨1,by omega,by go_num,HEX2,HX3,HB2,HZ2⟩,by simp [intOf]; omega⟩
   ·obtain ⟨ja,jb,hja,hjb,hjak,hjbk⟩:=zLb (zA HO) hlt (by omega)
    obtain ⟨Ta,ua,hTa⟩:=zBW ns xs ja
    obtain ⟨Tb,ub,hTb⟩:=zBW ns xs jb
    have ca:=(zA hex).2 ja (by omega)
    have cb:=(zA hex).2 jb (by omega)
    rw [zBy ns xs k ja hjak,hTa] at ca
    rw [zBy ns xs k jb hjbk,hTb] at cb
    obtain ⟨T,u,hTu⟩:=zC3 (opA ns (atN xs k)) (atN xs k) (.iface Ta ua) (.iface Tb ub)
    have HRES:=zB (show (Value.iface T u)=exS ns xs k by
     rw [zEe,hja,hjb,Int.toNat_natCast,Int.toNat_natCast,zBy ns xs k ja hjak,zBy ns xs k jb hjbk,hTa,hTb,hTu])
    have HCALL:=zB (fun (W:World) (h1:Idx W bo bs ns ns.length)=>zJn bo bs ns (atN xs k) Ta Tb ua ub W h1 (zA HC) (zA HOK) ((zA HZN) k hlt) ((zA HO).2.2.2 k hlt) ((zA HKN) k hlt))
    rw [hTu,hja,hjb] at HCALL
    rw [hja] at a2
    rw [hjb] at a3
    have hjaI:(ja:Int)<(xs.length:Int):=by omega
    have hjbI:(jb:Int)<(xs.length:Int):=by omega
    have HEO:=zB (show EO (wr.alloc (.cells #[.int .i64 (atN xs k).k,.string (atN xs k).t,.int .i64 (ja:Int),.int .i64 (jb:Int)] 81)).drew w.heap.size wr.heap.size (w.heap.size+1+1) ja jb bo bs ⟨(atN xs k).k,(atN xs k).t,(ja:Int),(jb:Int)⟩ (.iface Ta ua) (.iface Tb ub) from by
     have hb0:=zC wr (.cells #[.int .i64 (atN xs k).k,.string (atN xs k).t,.int .i64 (ja:Int),.int .i64 (jb:Int)] 81)
     refine EO.below (w:=wr.alloc (.cells #[.int .i64 (atN xs k).k,.string (atN xs k).t,.int .i64 (ja:Int),.int .i64 (jb:Int)] 81)) ?_ (Below.refl _ _).drew
     refine ⟨?_,?_,by simp [go_sem],by simp [go_sem],by simp [go_sem],by simp [go_sem],?_,?_⟩
     ·exact (hb0.cell (p:=⟨w.heap.size,0,none⟩) (show w.heap.size<wr.heap.size by omega)).trans (zA hx).1
     ·exact (hb0.cell (p:=⟨w.heap.size,1,none⟩) (show w.heap.size<wr.heap.size by omega)).trans (zA hx).2
     ·exact (hb0.cell (p:=⟨w.heap.size+1+1,ja,none⟩) (show w.heap.size+1+1<wr.heap.size by omega)).trans ca.1
     ·exact (hb0.cell (p:=⟨w.heap.size+1+1,jb,none⟩) (show w.heap.size+1+1<wr.heap.size by omega)).trans cb.1)
    have HXC:=zB (((zA hex).below (zC wr (.cells #[.int .i64 (atN xs k).k,.string (atN xs k).t,.int .i64 (ja:Int),.int .i64 (jb:Int)] 81))).below (Below.refl _ _).drew)
    have HBC:=zB (show Below w.heap.size w (wr.alloc (.cells #[.int .i64 (atN xs k).k,.string (atN xs k).t,.int .i64 (ja:Int),.int .i64 (jb:Int)] 81)).drew from (hbel.alloc hbel.size _).drew)
    have HZC:wr.heap.size+1<=(wr.alloc (.cells #[.int .i64 (atN xs k).k,.string (atN xs k).t,.int .i64 (ja:Int),.int .i64 (jb:Int)] 81)).drew.heap.size:=by simp
    have HZC:=zB HZC
    clear ca cb hTa hTb hTu hja hjb m0 m1 bel1
    go_wp2_with fail
    go_region_held (fun w'=>w'.cell? ⟨w.heap.size,0,none⟩=some (.map (some bo))/\w'.cell? ⟨w.heap.size,1,none⟩=some (.map (some bs))/\w'.cell? ⟨wr.heap.size,0,none⟩=some (.int .i64 (atN xs k).k)/\w'.cell? ⟨wr.heap.size,1,none⟩=some (.string (atN xs k).t)/\w'.cell? ⟨wr.heap.size,2,none⟩=some (.int .i64 (ja:Int))/\w'.cell? ⟨wr.heap.size,3,none⟩=some (.int .i64 (jb:Int))/\w'.cell? ⟨w.heap.size+1+1,ja,none⟩=some (.iface Ta ua)/\w'.cell? ⟨w.heap.size+1+1,jb,none⟩=some (.iface Tb ub)) (first | exact zA HEO | exact (zA HEO).set (by omega) (by omega) (by omega) (by omega) _)
     ((go_at_call 116; refine ((zA HCALL) _ ((zA HI).kept (zA HBC))).mono ?_; rintro x w3 ⟨rfl,hb3⟩; replace HEO:=zB ((zA HEO).below hb3); replace HXC:=zB ((zA HXC).below hb3); replace HBC:=zB ((zA HBC).trans (hb3.mono (zA HBC).size)); replace HZC:=zB (Nat.le_trans (zA HZC) hb3.size); clear hb3; obtain ⟨m0,m1⟩:=(zA HXC).2 k hlt))
    have HEX2:=zB ((zA HXC).set hlt (zA HRES))
    have HX2:=zB (show (w3.setCell ⟨w.heap.size+1+1,k,none⟩ (.iface T u)).cell? ⟨w.heap.size,0,none⟩=some (.map (some bo))/\(w3.setCell ⟨w.heap.size+1+1,k,none⟩ (.iface T u)).cell? ⟨w.heap.size,1,none⟩=some (.map (some bs)) from
     have h:=(zA HEO).set (k:=k) (by omega) (by omega) (by omega) (by omega) (.iface T u)
     ⟨h.1,h.2.1⟩)
    have HB2:Below w.heap.size w (w3.setCell ⟨w.heap.size+1+1,k,none⟩ (.iface T u)):=(zA HBC).setCell (by simp; omega) _
    have HZ2:w.heap.size+3<=(w3.setCell ⟨w.heap.size+1+1,k,none⟩ (.iface T u)).heap.size:=by have:=zA HZC; simp [World.setCell]; omega
    clear HEO HXC HBC HZC m0 m1
    go_wp2_with fail
    exact ⟨⟨k+1,by omega,by go_num,HEX2,HX2,HB2,HZ2⟩,by simp [intOf]; omega⟩
  ·have hkx:k=xs.length:=by omega
   have HL:=zB ((zA hex).2 (xs.length-1) (by omega))
   rw [zBy ns xs k (xs.length-1) (by omega)] at HL
   obtain ⟨T,u,hTu⟩:=zBW ns xs (xs.length-1)
   rw [hTu] at HL
   have HTU:=zB hTu
   have c1:=(zA HL).1
   have ei:(xs.length:Int)-1=((xs.length-1:Nat):Int):=by omega
   have e2:((xs.length-1:Nat):Int)<(xs.length:Int):=by omega
   clear hTu HL
   go_wp2_with fail
   go_ret
   exact ⟨by rw [zA HTU]; rfl,hbel⟩
end Go.Proofs.YtfboipappaonhaaGreat
namespace Go.Proofs.YtfboipappaonhaaGreat
set_option maxHeartbeats 16000000
set_option maxRecDepth 100000
open Go.RowKit
def zHp (first:Nat) (s:ByteArray):Prop:=1<=s.size/\cls (bt s 0)=first/\∀ j,j<s.size->zBh first (bt s j)=true
theorem zHq (first:Nat) (s:ByteArray) (w:World) (hs:s.size<=maxLen) :
  Calls Tryz.prog 139 #[.int .i64 (first:Int),.string s] w fun e w'=>zCw e (zHp first s)/\w'=w:=by
 unfold maxLen at hs
 by_cases h0:s.size=0
 ·have HN:=zB (show ¬ zHp first s from fun h=>by have:=h.1; omega)
  obtain rfl:=zFb h0
  go_enter Tryz.func139,Tryz.ntmps139
  go_wp2_with fail
  go_ret
  exact ⟨⟨_,rfl,zQ (zA HN)⟩,rfl⟩
 have hne:=zFa h0
 have h0I:(0:Int)<(s.size:Int):=by omega
 have h0N:0<s.size:=by omega
 by_cases hc:cls (bt s 0)=first
 case neg=>
  have HN:=zB (show ¬ zHp first s from fun h=>hc h.2.1)
  have hb:=ZS h0N
  have hc':((cls s[0]:Int) != (first:Int))=true:=by rw [hb]; simp; omega
  clear hb
  go_enter Tryz.func139,Tryz.ntmps139
  go_wp2_with (go_at_call 125; refine (Zm _ _).mono ?_; rintro e w' ⟨rfl,hx⟩; obtain rfl:=hx.symm)
  go_ret
  exact ⟨⟨_,rfl,zQ (zA HN)⟩,rfl⟩
 have HC:=zB hc
 have hb:=ZS h0N
 have HX:=zB (show (cls s[0]:Int)=(first:Int) by rw [hb]; omega)
 clear hb hc
 go_enter Tryz.func139,Tryz.ntmps139
 go_wp2_with (go_at_call 125; refine (Zm _ _).mono ?_; rw [zA HX]; rintro e w' ⟨rfl,hx⟩; obtain rfl:=hx.symm)
 go_loop [17] (fun i=>∃ k:Nat,k<=s.size/\i = .int .i64 (k:Int)/\Hid (∀ j,j<k->zBh first (bt s j)=true)) (fun i=>s.size-(intOf i).toNat)
 case atStart=>exact ⟨0,Nat.zero_le _,rfl,zB (fun j h=>by omega)⟩
 case round=>
  obtain ⟨k,hk,rfl,hn⟩:=hrel
  by_cases hlt:k<s.size
  ·have hltI:(k:Int)<(s.size:Int):=by omega
   cases hb:zBh first s[k]
   ·have Hb:=zB (show zBh first (bt s k)=false by rw [<- ZS hlt]; exact hb)
    go_wp2_with (go_at_call 159; refine (zCi _ _ _).mono ?_; rintro e w' ⟨rfl,hx⟩; obtain rfl:=hx.symm)
    go_ret
    exact ⟨⟨_,rfl,zQ (fun h=>by have:=h.2.2 k hlt; rw [zA Hb] at this; cases this)⟩,rfl⟩
   ·have Hb:=zB (show zBh first (bt s k)=true by rw [<- ZS hlt]; exact hb)
    go_wp2_with (go_at_call 159; refine (zCi _ _ _).mono ?_; rintro e w' ⟨rfl,hx⟩; obtain rfl:=hx.symm)
    refine ⟨⟨k+1,by omega,by go_num,zB (fun j hj=>?_)⟩,by simp [intOf]; omega⟩
    by_cases e:j=k
    ·subst e; exact zA Hb
    ·exact (zA hn) j (by omega)
  ·go_wp2_with fail
   go_ret
   exact ⟨⟨_,rfl,Zx ⟨by omega,zA HC,fun j hj=>(zA hn) j (by omega)⟩⟩,rfl⟩
theorem zPo (s:ByteArray):zHp 2 s↔zDo s:=by
 unfold zHp zDo zBh
 constructor
 ·rintro ⟨h1,h2,h3⟩
  refine ⟨h1,fun j hj=>?_⟩
  have:=h3 j hj
  simpa using this
 ·rintro ⟨h1,h2⟩
  exact ⟨h1,h2 0 (by omega),fun j hj=>by simp [h2 j hj]⟩
theorem zPp (s:ByteArray):zHp 3 s↔zBR s:=by
 unfold zHp zBR zBh
 constructor
 ·rintro ⟨h1,h2,h3⟩
  refine ⟨h1,fun j hj=>?_⟩
  have:=h3 j hj
  simp at this
  by_cases e:j=0
  ·subst e; exact Or.inl h2
  ·omega
 ·rintro ⟨h1,h2⟩
  refine ⟨h1,?_,fun j hj=>?_⟩
  ·have:=h2 0 (by omega); omega
  ·have:=h2 j hj; simp; omega
end Go.Proofs.YtfboipappaonhaaGreat
