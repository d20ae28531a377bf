import Derived.Test.YtfboipappaonhaaGreatF30
namespace Go.Proofs.YtfboipappaonhaaGreat
set_option linter.unusedSimpArgs false
set_option maxHeartbeats 16000000
set_option maxRecDepth 100000
open Go.RowKit Go.Maps
structure zAB (w w':World) (p:Nat) (row:Option Nat):Prop where
 os:w'.os=w.os
 tape:w'.tape=w.tape
 output:w'.output=w.output
 size:w.heap.size<=w'.heap.size
 block:∀ i,i<w.heap.size->i≠p->some i≠row->w'.heap[i]?=w.heap[i]?
theorem zMk {W:World} {p:Nat} {V A B:Value} (h4:∃ u,W.cell? ⟨p,4,none⟩=some u) (h5:∃ u,W.cell? ⟨p,5,none⟩=some u) (h6:∃ u,W.cell? ⟨p,6,none⟩=some u) :
  (((W.setCell ⟨p,6,none⟩ V).setCell ⟨p,4,none⟩ A).setCell ⟨p,5,none⟩ B).cell? ⟨p,4,none⟩=some A/\(((W.setCell ⟨p,6,none⟩ V).setCell ⟨p,4,none⟩ A).setCell ⟨p,5,none⟩ B).cell? ⟨p,5,none⟩=some B /\
  (((W.setCell ⟨p,6,none⟩ V).setCell ⟨p,4,none⟩ A).setCell ⟨p,5,none⟩ B).cell? ⟨p,6,none⟩=some V/\∀ o,o<4->(((W.setCell ⟨p,6,none⟩ V).setCell ⟨p,4,none⟩ A).setCell ⟨p,5,none⟩ B).cell? ⟨p,o,none⟩=W.cell? ⟨p,o,none⟩:=by
 obtain ⟨u4,h4⟩:=h4
 obtain ⟨u5,h5⟩:=h5
 obtain ⟨u6,h6⟩:=h6
 have k4:(W.setCell ⟨p,6,none⟩ V).cell? ⟨p,4,none⟩=some u4:=by rw [World.cell?_setCell_other _ _ _ _ (by simp)]; exact h4
 have k5:((W.setCell ⟨p,6,none⟩ V).setCell ⟨p,4,none⟩ A).cell? ⟨p,5,none⟩=some u5:=by rw [World.cell?_setCell_other _ _ _ _ (by simp),World.cell?_setCell_other _ _ _ _ (by simp)]; exact h5
 refine ⟨?_,World.cell?_setCell_same _ _ _ k5,?_,fun o ho=>?_⟩
 ·rw [World.cell?_setCell_other _ _ _ _ (by simp)]
  exact World.cell?_setCell_same _ _ _ k4
 ·rw [World.cell?_setCell_other _ _ _ _ (by simp),World.cell?_setCell_other _ _ _ _ (by simp)]
  exact World.cell?_setCell_same _ _ _ h6
 ·rw [World.cell?_setCell_other _ _ _ _ (by simp),World.cell?_setCell_other _ _ _ _ (by simp),World.cell?_setCell_other _ _ _ _ (by simp)]
theorem zBZ (W:World) (p o:Nat) (V:Value):W.grownBy (W.setCell ⟨p,o,none⟩ V) (some p):=
 ⟨rfl,rfl,rfl,by simp [World.setCell],fun i _ hi=>Below.heap_setCell _ _ _ _ (fun e=>hi (by rw [e]))⟩
theorem zIa {w w4:World} {p bo bs L gap start q base g c n:Nat} {s:ByteArray} {row:Option Nat} {v:Value} {cs:List Value} {o:Obj}
  (hc:w.cell? ⟨p,0,none⟩=some (.map (some bo))/\w.cell? ⟨p,1,none⟩=some (.map (some bs))/\w.cell? ⟨p,2,none⟩=some (.int .i64 (L:Int))) (hfar:∀ o,w4.cell? ⟨p,o,none⟩=w.cell? ⟨p,o,none⟩)
  (q3:w4.cell? ⟨p,3,none⟩=some (.string s)) (q4:w4.cell? ⟨p,4,none⟩=some (.int .i64 (gap:Int))) (q5:w4.cell? ⟨p,5,none⟩=some (.int .i64 (start:Int))) (q6:w4.cell? ⟨p,6,none⟩=some v)
  (fz:∀ o,w4.frozen? ⟨p,o,none⟩=false) (hown:w4.ownsRow base 97 3 (.slice (some ⟨g,0,none⟩) n c) n cs) (hg:(w.alloc o).drew.grownBy w4 row) (hgp:¬ g=p) :
  Hid (Sc (((w4.setCell ⟨p,6,none⟩ (.slice (some ⟨g,0,none⟩) n c)).setCell ⟨p,4,none⟩ (.int .i64 (q:Int))).setCell ⟨p,5,none⟩ (.int .i64 (q:Int))) p bo bs L s q q (.slice (some ⟨g,0,none⟩) n c)) /\
  Hid ((((w4.setCell ⟨p,6,none⟩ (.slice (some ⟨g,0,none⟩) n c)).setCell ⟨p,4,none⟩ (.int .i64 (q:Int))).setCell ⟨p,5,none⟩ (.int .i64 (q:Int))).ownsRow base 97 3 (.slice (some ⟨g,0,none⟩) n c) n cs)/\g≠p /\
  zAB w (((w4.setCell ⟨p,6,none⟩ (.slice (some ⟨g,0,none⟩) n c)).setCell ⟨p,4,none⟩ (.int .i64 (q:Int))).setCell ⟨p,5,none⟩ (.int .i64 (q:Int))) p row:=by
 obtain ⟨a4,a5,a6,alo⟩:=zMk (V:=.slice (some ⟨g,0,none⟩) n c) (A:=.int .i64 (q:Int)) (B:=.int .i64 (q:Int)) ⟨_,q4⟩ ⟨_,q5⟩ ⟨_,q6⟩
 have hne:∀ b:Nat,¬ b=p->some b≠some p:=fun b h e=>h (Option.some.inj e)
 refine ⟨zB ⟨(alo 0 (by omega)).trans ((hfar 0).trans hc.1),(alo 1 (by omega)).trans ((hfar 1).trans hc.2.1),(alo 2 (by omega)).trans ((hfar 2).trans hc.2.2),(alo 3 (by omega)).trans q3,a4,a5,a6,fun o=>?_⟩,zB ?_,hgp,?_⟩
 ·rw [World.frozen?_setCell,World.frozen?_setCell,World.frozen?_setCell]
  exact fz o
 ·exact ((hown.kept (zBZ _ p 6 _) (Or.inr (by simp [Value.ownBlock]; exact hgp))).kept (zBZ _ p 4 _) (Or.inr (by simp [Value.ownBlock]; exact hgp))).kept (zBZ _ p 5 _) (Or.inr (by simp [Value.ownBlock]; exact hgp))
 ·have e1:=hg.size
  simp at e1
  refine ⟨hg.os,hg.tape,hg.output,by simp [World.setCell]; omega,fun i hi h1 h2=>?_⟩
  rw [Below.heap_setCell _ _ _ _ (by simpa using h1),Below.heap_setCell _ _ _ _ (by simpa using h1),Below.heap_setCell _ _ _ _ (by simpa using h1)]
  exact (hg.block i (by simp; omega) h2).trans ((zC w o).block i hi)
theorem zLP (p bo bs L:Nat) (s:ByteArray) (gap start:Nat) (v:Value) (kind q base:Nat) (acc:List zK) (w:World) (h:Sc w p bo bs L s gap start v) (h1:gap<=start) (h2:start<=q) (hq:q<=s.size)
  (hown:w.ownsRow base 97 3 v acc.length (zk acc)) (hne:v.ownBlock≠some p) (hacc:acc.length<=20000) (hbase:base<=w.heap.size) :
  Calls Tryz.prog 127 #[.pointer (some ⟨p,0,none⟩),.int .i64 (kind:Int),.int .i64 (q:Int)] w fun e w'=>e = .returned (.tuple #[])/\∃ g cap:Nat,Hid (Sc w' p bo bs L s q q (.slice (some ⟨g,0,none⟩) (acc.length+1) cap))/\Hid (w'.ownsRow base 97 3 (.slice (some ⟨g,0,none⟩) (acc.length+1) cap) (acc.length+1) (zk (acc++[⟨(kind:Int),s.extract gap start,s.extract start q⟩])))/\g≠p/\zAB w w' p v.ownBlock:=by
 have hp:p<w.heap.size:=block_lt_of_cell h.c0
 obtain ⟨c0,c1,c2,c3,c4,c5,c6,fz⟩:=h
 have hs1:(gap:Int)<=(start:Int):=by omega
 have hs2:(start:Int)<=(s.size:Int):=by omega
 have hs3:(start:Int)<=(q:Int):=by omega
 have hs4:(q:Int)<=(s.size:Int):=by omega
 have k6:∀ o,(w.alloc o).drew.cell? ⟨p,6,none⟩=some v:=fun o=>((zC w o).cell (p:=⟨p,6,none⟩) hp).trans c6
 have HO:=zB hown
 have HN:=zB hne
 have HC:=zB (And.intro c0 (And.intro c1 c2))
 clear hown hne c0 c1 c2
 obtain ⟨i0,hi,hz0,hz1,hz2⟩:=info_parts zPs
 have HI:=zB hi
 have HZ:=zB (And.intro hz0 (And.intro hz1 hz2))
 clear hi hz0 hz1 hz2
 have hnp:¬ w.heap.size=p:=by omega
 go_enter Tryz.func127,Tryz.ntmps127
 go_wp2_with fail
 have hS:(fun W:World=>W.cell? ⟨p,3,none⟩=some (.string s)/\W.cell? ⟨p,4,none⟩=some (.int .i64 (gap:Int))/\W.cell? ⟨p,5,none⟩=some (.int .i64 (start:Int))) w.drew:=⟨c3,c4,c5⟩
 have HS:=zB hS
 have HS1:=zB (show (fun W:World=>W.cell? ⟨p,3,none⟩=some (.string s)/\W.cell? ⟨p,4,none⟩=some (.int .i64 (gap:Int))/\W.cell? ⟨p,5,none⟩=some (.int .i64 (start:Int))) (w.alloc (.cells #[.int .i64 (kind:Int),.string (s.extract gap start),.string (s.extract start q)] 97)).drew from ⟨((zC w _).cell (p:=⟨p,3,none⟩) hp).trans c3,((zC w _).cell (p:=⟨p,4,none⟩) hp).trans c4,((zC w _).cell (p:=⟨p,5,none⟩) hp).trans c5⟩)
 refine wp_region_held_drew (S:=fun W:World=>W.cell? ⟨p,3,none⟩=some (.string s)/\W.cell? ⟨p,4,none⟩=some (.int .i64 (gap:Int))/\W.cell? ⟨p,5,none⟩=some (.int .i64 (start:Int))) (by kernel_rfl) hS (fun _=>?_)
 refine wpAnyH_take (i:=0) (v:=?_) rfl (by kernel_rfl) (by kernel_rfl) (by kernel_rfl) (fun _ _ _ h=>h) (Or.inl ⟨by rfl,?_⟩) hS ?_
 rotate_left
 ·intro W hW; obtain ⟨s3,s4,s5⟩:=hW; simp only [List.getElem_toArray,List.getElem_cons_succ,List.getElem_cons_zero]; go_simp; first | done | (with_reducible rfl)
 simp only [List.getElem_toArray,List.getElem_cons_succ,List.getElem_cons_zero]
 simp only [Act.put,List.setIfInBounds_toArray,List.set_cons_zero,List.set_cons_succ]
 refine wpAnyH_take (i:=1) (v:=?_) rfl (by kernel_rfl) (by kernel_rfl) (by kernel_rfl) (fun _ _ _ h=>h) (Or.inl ⟨by rfl,?_⟩) hS ?_
 rotate_left
 ·intro W hW; obtain ⟨s3,s4,s5⟩:=hW; simp only [List.getElem_toArray,List.getElem_cons_succ,List.getElem_cons_zero]; go_simp; first | done | (with_reducible rfl)
 simp only [List.getElem_toArray,List.getElem_cons_succ,List.getElem_cons_zero]
 simp only [Act.put,List.setIfInBounds_toArray,List.set_cons_zero,List.set_cons_succ]
 refine wpAnyH_take (i:=2) (v:=?_) rfl (by kernel_rfl) (by kernel_rfl) (by kernel_rfl) (fun _ _ _ h=>h) (Or.inl ⟨by rfl,?_⟩) hS ?_
 rotate_left
 ·intro W hW; obtain ⟨s3,s4,s5⟩:=hW; simp only [List.getElem_toArray,List.getElem_cons_succ,List.getElem_cons_zero]; go_simp; first | done | (with_reducible rfl)
 simp only [List.getElem_toArray,List.getElem_cons_succ,List.getElem_cons_zero]
 simp only [Act.put,List.setIfInBounds_toArray,List.set_cons_zero,List.set_cons_succ]
 refine wpAnyH_take (i:=3) (v:=?_) rfl (by kernel_rfl) (by kernel_rfl) (by kernel_rfl) (fun _ _ _ h=>h) (Or.inl ⟨by rfl,?_⟩) hS ?_
 rotate_left
 ·intro W hW; obtain ⟨s3,s4,s5⟩:=hW; simp only [List.getElem_toArray,List.getElem_cons_succ,List.getElem_cons_zero]; go_simp; first | done | (with_reducible rfl)
 simp only [List.getElem_toArray,List.getElem_cons_succ,List.getElem_cons_zero]
 simp only [Act.put,List.setIfInBounds_toArray,List.set_cons_zero,List.set_cons_succ]
 refine wpAnyH_take (i:=5) (v:=?_) rfl (by kernel_rfl) (by kernel_rfl) (by kernel_rfl) (fun _ _ _ h=>h) (Or.inl ⟨by rfl,?_⟩) hS ?_
 rotate_left
 ·intro W hW; obtain ⟨s3,s4,s5⟩:=hW; simp only [List.getElem_toArray,List.getElem_cons_succ,List.getElem_cons_zero]; go_simp; first | done | (with_reducible rfl)
 simp only [List.getElem_toArray,List.getElem_cons_succ,List.getElem_cons_zero]
 simp only [Act.put,List.setIfInBounds_toArray,List.set_cons_zero,List.set_cons_succ]
 refine wpAnyH_take (i:=6) (v:=?_) rfl (by kernel_rfl) (by kernel_rfl) (by kernel_rfl) (fun _ _ _ h=>h) (Or.inl ⟨by rfl,?_⟩) hS ?_
 rotate_left
 ·intro W hW; obtain ⟨s3,s4,s5⟩:=hW; simp only [List.getElem_toArray,List.getElem_cons_succ,List.getElem_cons_zero]; go_simp; first | done | (with_reducible rfl)
 simp only [List.getElem_toArray,List.getElem_cons_succ,List.getElem_cons_zero]
 simp only [Act.put,List.setIfInBounds_toArray,List.set_cons_zero,List.set_cons_succ]
 refine wpAnyH_take (i:=7) (v:=?_) rfl (by kernel_rfl) (by kernel_rfl) (by kernel_rfl) (fun _ _ _ h=>h) (Or.inl ⟨by rfl,?_⟩) hS ?_
 rotate_left
 ·intro W hW; obtain ⟨s3,s4,s5⟩:=hW; simp only [List.getElem_toArray,List.getElem_cons_succ,List.getElem_cons_zero]; go_simp; first | done | (with_reducible rfl)
 simp only [List.getElem_toArray,List.getElem_cons_succ,List.getElem_cons_zero]
 simp only [Act.put,List.setIfInBounds_toArray,List.set_cons_zero,List.set_cons_succ]
 refine wpAnyH_take (i:=8) (v:=?_) rfl (by kernel_rfl) (by kernel_rfl) (by kernel_rfl) (fun _ _ _ h=>h) (Or.inl ⟨by rfl,?_⟩) hS ?_
 rotate_left
 ·intro W hW; obtain ⟨s3,s4,s5⟩:=hW; simp only [List.getElem_toArray,List.getElem_cons_succ,List.getElem_cons_zero]; go_simp; first | done | (with_reducible rfl)
 simp only [List.getElem_toArray,List.getElem_cons_succ,List.getElem_cons_zero]
 simp only [Act.put,List.setIfInBounds_toArray,List.set_cons_zero,List.set_cons_succ]
 refine wpAnyH_take (i:=9) (v:=?_) rfl (by kernel_rfl) (by kernel_rfl) (by kernel_rfl) (fun _ _ _ h=>h) (Or.inl ⟨by rfl,?_⟩) hS ?_
 rotate_left
 ·intro W hW; obtain ⟨s3,s4,s5⟩:=hW; simp only [List.getElem_toArray,List.getElem_cons_succ,List.getElem_cons_zero]; go_simp; first | done | (with_reducible rfl)
 simp only [List.getElem_toArray,List.getElem_cons_succ,List.getElem_cons_zero]
 simp only [Act.put,List.setIfInBounds_toArray,List.set_cons_zero,List.set_cons_succ]
 refine wpAnyH_take (i:=10) (v:=?_) rfl (by kernel_rfl) (by kernel_rfl) (by kernel_rfl) (fun _ _ _ h=>h) (Or.inl ⟨by rfl,?_⟩) hS ?_
 rotate_left
 ·intro W hW; obtain ⟨s3,s4,s5⟩:=hW; simp only [List.getElem_toArray,List.getElem_cons_succ,List.getElem_cons_zero]; go_simp; first | done | (with_reducible rfl)
 simp only [List.getElem_toArray,List.getElem_cons_succ,List.getElem_cons_zero]
 simp only [Act.put,List.setIfInBounds_toArray,List.set_cons_zero,List.set_cons_succ]
 refine wpAnyH_take (i:=11) (v:=?_) rfl (by kernel_rfl) (by kernel_rfl) (by kernel_rfl) (fun _ _ _ h=>h) (Or.inl ⟨by rfl,?_⟩) hS ?_
 rotate_left
 ·intro W hW; obtain ⟨s3,s4,s5⟩:=hW; simp only [List.getElem_toArray,List.getElem_cons_succ,List.getElem_cons_zero]; go_simp; first | done | (with_reducible rfl)
 simp only [List.getElem_toArray,List.getElem_cons_succ,List.getElem_cons_zero]
 simp only [Act.put,List.setIfInBounds_toArray,List.set_cons_zero,List.set_cons_succ]
 refine wpAnyH_take (i:=12) (v:=?_) rfl (by kernel_rfl) (by kernel_rfl) (by kernel_rfl) (fun _ _ _ h=>h) (Or.inl ⟨by rfl,?_⟩) hS ?_
 rotate_left
 ·intro W hW; obtain ⟨s3,s4,s5⟩:=hW; simp only [List.getElem_toArray,List.getElem_cons_succ,List.getElem_cons_zero]; go_simp; first | done | (with_reducible rfl)
 simp only [List.getElem_toArray,List.getElem_cons_succ,List.getElem_cons_zero]
 simp only [Act.put,List.setIfInBounds_toArray,List.set_cons_zero,List.set_cons_succ]
 refine wpAnyH_take (i:=13) (v:=?_) rfl (by kernel_rfl) (by kernel_rfl) (by kernel_rfl) (fun _ _ _ h=>h) (Or.inl ⟨by rfl,?_⟩) hS ?_
 rotate_left
 ·intro W hW; obtain ⟨s3,s4,s5⟩:=hW; simp only [List.getElem_toArray,List.getElem_cons_succ,List.getElem_cons_zero]; go_simp; first | done | (with_reducible rfl)
 simp only [List.getElem_toArray,List.getElem_cons_succ,List.getElem_cons_zero]
 simp only [Act.put,List.setIfInBounds_toArray,List.set_cons_zero,List.set_cons_succ]
 refine wpAnyH_take (i:=14) (v:=?_) rfl (by kernel_rfl) (by kernel_rfl) (by kernel_rfl) (fun _ _ _ h=>h) (Or.inl ⟨by rfl,?_⟩) hS ?_
 rotate_left
 ·intro W hW; obtain ⟨s3,s4,s5⟩:=hW; simp only [List.getElem_toArray,List.getElem_cons_succ,List.getElem_cons_zero]; go_simp; first | done | (with_reducible rfl)
 simp only [List.getElem_toArray,List.getElem_cons_succ,List.getElem_cons_zero]
 simp only [Act.put,List.setIfInBounds_toArray,List.set_cons_zero,List.set_cons_succ]
 refine wpAnyH_take (i:=15) (v:=?_) rfl (by kernel_rfl) (by kernel_rfl) (by kernel_rfl) (fun _ _ _ h=>h) (Or.inl ⟨by rfl,?_⟩) hS ?_
 rotate_left
 ·intro W hW; obtain ⟨s3,s4,s5⟩:=hW; simp only [List.getElem_toArray,List.getElem_cons_succ,List.getElem_cons_zero]; go_simp; first | done | (with_reducible rfl)
 simp only [List.getElem_toArray,List.getElem_cons_succ,List.getElem_cons_zero]
 simp only [Act.put,List.setIfInBounds_toArray,List.set_cons_zero,List.set_cons_succ]
 refine wpAnyH_take (i:=16) (v:=?_) rfl (by kernel_rfl) (by kernel_rfl) (by kernel_rfl) (fun _ _ _ h=>h) (Or.inl ⟨by rfl,?_⟩) hS ?_
 rotate_left
 ·intro W hW; obtain ⟨s3,s4,s5⟩:=hW; simp only [List.getElem_toArray,List.getElem_cons_succ,List.getElem_cons_zero]; go_simp; first | done | (with_reducible rfl)
 simp only [List.getElem_toArray,List.getElem_cons_succ,List.getElem_cons_zero]
 simp only [Act.put,List.setIfInBounds_toArray,List.set_cons_zero,List.set_cons_succ]
 refine wpAnyH_take (i:=17) (v:=?_) rfl (by kernel_rfl) (by kernel_rfl) (by kernel_rfl) (fun _ _ _ h=>h) (Or.inl ⟨by rfl,?_⟩) hS ?_
 rotate_left
 ·intro W hW; obtain ⟨s3,s4,s5⟩:=hW; simp only [List.getElem_toArray,List.getElem_cons_succ,List.getElem_cons_zero]; go_simp; first | done | (with_reducible rfl)
 simp only [List.getElem_toArray,List.getElem_cons_succ,List.getElem_cons_zero]
 simp only [Act.put,List.setIfInBounds_toArray,List.set_cons_zero,List.set_cons_succ]
 refine wpAnyH_take (i:=18) (v:=?_) rfl (by kernel_rfl) (by kernel_rfl) (by kernel_rfl) (fun _ _ _ h=>h) (Or.inl ⟨by rfl,?_⟩) hS ?_
 rotate_left
 ·intro W hW; obtain ⟨s3,s4,s5⟩:=hW; simp only [List.getElem_toArray,List.getElem_cons_succ,List.getElem_cons_zero]; go_simp; first | done | (with_reducible rfl)
 simp only [List.getElem_toArray,List.getElem_cons_succ,List.getElem_cons_zero]
 simp only [Act.put,List.setIfInBounds_toArray,List.set_cons_zero,List.set_cons_succ]
 refine wpAnyH_take (i:=19) (v:=?_) rfl (by kernel_rfl) (by kernel_rfl) (by kernel_rfl) (fun _ _ _ h=>h) (Or.inl ⟨by rfl,?_⟩) hS ?_
 rotate_left
 ·intro W hW; obtain ⟨s3,s4,s5⟩:=hW; simp only [List.getElem_toArray,List.getElem_cons_succ,List.getElem_cons_zero]; go_simp; first | done | (with_reducible rfl)
 simp only [List.getElem_toArray,List.getElem_cons_succ,List.getElem_cons_zero]
 simp only [Act.put,List.setIfInBounds_toArray,List.set_cons_zero,List.set_cons_succ]
 refine wpAnyH_take (i:=20) (v:=?_) rfl (by kernel_rfl) (by kernel_rfl) (by kernel_rfl) (fun _ _ _ h=>h) (Or.inl ⟨by rfl,?_⟩) hS ?_
 rotate_left
 ·intro W hW; obtain ⟨s3,s4,s5⟩:=hW; simp only [List.getElem_toArray,List.getElem_cons_succ,List.getElem_cons_zero]; go_simp; first | done | (with_reducible rfl)
 simp only [List.getElem_toArray,List.getElem_cons_succ,List.getElem_cons_zero]
 simp only [Act.put,List.setIfInBounds_toArray,List.set_cons_zero,List.set_cons_succ]
 refine wpAnyH_take (i:=21) (v:=?_) rfl (by kernel_rfl) (by kernel_rfl) (by kernel_rfl) (fun _ _ _ h=>h) (Or.inl ⟨by rfl,?_⟩) hS ?_
 rotate_left
 ·intro W hW; obtain ⟨s3,s4,s5⟩:=hW; simp only [List.getElem_toArray,List.getElem_cons_succ,List.getElem_cons_zero]; go_simp; first | done | (with_reducible rfl)
 simp only [List.getElem_toArray,List.getElem_cons_succ,List.getElem_cons_zero]
 simp only [Act.put,List.setIfInBounds_toArray,List.set_cons_zero,List.set_cons_succ]
 refine wpAnyH_take (i:=22) (v:=?_) rfl (by kernel_rfl) (by kernel_rfl) (by kernel_rfl) (fun _ _ _ h=>h) (Or.inl ⟨by rfl,?_⟩) hS ?_
 rotate_left
 ·intro W hW; obtain ⟨s3,s4,s5⟩:=hW; simp only [List.getElem_toArray,List.getElem_cons_succ,List.getElem_cons_zero]; go_simp; first | done | (with_reducible rfl)
 simp only [List.getElem_toArray,List.getElem_cons_succ,List.getElem_cons_zero]
 simp only [Act.put,List.setIfInBounds_toArray,List.set_cons_zero,List.set_cons_succ]
 refine wpAnyH_take (i:=23) (v:=?_) rfl (by kernel_rfl) (by kernel_rfl) (by kernel_rfl) (fun _ _ _ h=>h) (Or.inl ⟨by rfl,?_⟩) hS ?_
 rotate_left
 ·intro W hW; obtain ⟨s3,s4,s5⟩:=hW; simp only [List.getElem_toArray,List.getElem_cons_succ,List.getElem_cons_zero]; go_simp; first | done | (with_reducible rfl)
 simp only [List.getElem_toArray,List.getElem_cons_succ,List.getElem_cons_zero]
 simp only [Act.put,List.setIfInBounds_toArray,List.set_cons_zero,List.set_cons_succ]
 refine wpAnyH_take (i:=24) (v:=?_) rfl (by kernel_rfl) (by kernel_rfl) (by kernel_rfl) (fun _ _ _ h=>h) (Or.inl ⟨by rfl,?_⟩) hS ?_
 rotate_left
 ·intro W hW; obtain ⟨s3,s4,s5⟩:=hW; simp only [List.getElem_toArray,List.getElem_cons_succ,List.getElem_cons_zero]; go_simp; first | done | (with_reducible rfl)
 simp only [List.getElem_toArray,List.getElem_cons_succ,List.getElem_cons_zero]
 simp only [Act.put,List.setIfInBounds_toArray,List.set_cons_zero,List.set_cons_succ]
 refine wpAnyH_take (i:=25) (v:=?_) rfl (by kernel_rfl) (by kernel_rfl) (by kernel_rfl) (fun _ _ _ h=>h) (Or.inl ⟨by rfl,?_⟩) hS ?_
 rotate_left
 ·intro W hW; obtain ⟨s3,s4,s5⟩:=hW; simp only [List.getElem_toArray,List.getElem_cons_succ,List.getElem_cons_zero]; go_simp; first | done | (with_reducible rfl)
 simp only [List.getElem_toArray,List.getElem_cons_succ,List.getElem_cons_zero]
 simp only [Act.put,List.setIfInBounds_toArray,List.set_cons_zero,List.set_cons_succ]
 refine wpAnyH_take (i:=26) (v:=?_) rfl (by kernel_rfl) (by kernel_rfl) (by kernel_rfl) (fun _ _ _ h=>h) (Or.inl ⟨by rfl,?_⟩) hS ?_
 rotate_left
 ·intro W hW; obtain ⟨s3,s4,s5⟩:=hW; simp only [List.getElem_toArray,List.getElem_cons_succ,List.getElem_cons_zero]; go_simp; first | done | (with_reducible rfl)
 simp only [List.getElem_toArray,List.getElem_cons_succ,List.getElem_cons_zero]
 simp only [Act.put,List.setIfInBounds_toArray,List.set_cons_zero,List.set_cons_succ]
 refine wpAnyH_take (i:=27) (v:=?_) rfl (by kernel_rfl) (by kernel_rfl) (by kernel_rfl) (fun _ _ _ h=>h) (Or.inl ⟨by rfl,?_⟩) hS ?_
 rotate_left
 ·intro W hW; obtain ⟨s3,s4,s5⟩:=hW; simp only [List.getElem_toArray,List.getElem_cons_succ,List.getElem_cons_zero]; go_simp; first | done | (with_reducible rfl)
 simp only [List.getElem_toArray,List.getElem_cons_succ,List.getElem_cons_zero]
 simp only [Act.put,List.setIfInBounds_toArray,List.set_cons_zero,List.set_cons_succ]
 refine wpAnyH_take (i:=28) (v:=?_) rfl (by kernel_rfl) (by kernel_rfl) (by kernel_rfl) (fun _ _ _ h=>h) (Or.inl ⟨by rfl,?_⟩) hS ?_
 rotate_left
 ·intro W hW; obtain ⟨s3,s4,s5⟩:=hW; simp only [List.getElem_toArray,List.getElem_cons_succ,List.getElem_cons_zero]; go_simp; first | done | (with_reducible rfl)
 simp only [List.getElem_toArray,List.getElem_cons_succ,List.getElem_cons_zero]
 simp only [Act.put,List.setIfInBounds_toArray,List.set_cons_zero,List.set_cons_succ]
 refine wpAnyH_take (i:=29) (v:=?_) rfl (by kernel_rfl) (by kernel_rfl) (by kernel_rfl) (fun _ _ _ h=>h) (Or.inl ⟨by rfl,?_⟩) hS ?_
 rotate_left
 ·intro W hW; obtain ⟨s3,s4,s5⟩:=hW; simp only [List.getElem_toArray,List.getElem_cons_succ,List.getElem_cons_zero]; go_simp; first | done | (with_reducible rfl)
 simp only [List.getElem_toArray,List.getElem_cons_succ,List.getElem_cons_zero]
 simp only [Act.put,List.setIfInBounds_toArray,List.set_cons_zero,List.set_cons_succ]
 refine wpAnyH_ready (rs:=[4,30]) (by kernel_rfl) (by simp) ?_
 refine AllReadyH.cons rfl (fun K hK=>?_) (AllReadyH.cons rfl (fun K hK=>?_) AllReadyH.nil)
 ·simp only [List.getElem_toArray,List.getElem_cons_succ,List.getElem_cons_zero]
  go_simp
  refine hK.out _ _ hS (fun _=>?_)
  clear hK
  refine wpAnyH_ready (rs:=[30]) (by kernel_rfl) (by simp) ?_
  refine AllReadyH.cons rfl (fun K hK=>?_) AllReadyH.nil
  simp only [List.getElem_toArray,List.getElem_cons_succ,List.getElem_cons_zero]
  go_simp
  refine hK.out _ _ (zA HS1) (fun _=>?_)
  clear hK
  refine wpAnyH_ready (rs:=[31]) (by kernel_rfl) (by simp) ?_
  refine AllReadyH.cons rfl (fun K hK=>?_) AllReadyH.nil
  refine step_append_lies _ (by rfl) (.tmp 10) (.tmp 36) 72 (by rfl) base 97 i0 _ 3 40 Tryz.underlying72 (zA HI) (zA HZ).1 (zA HZ).2.1 (zA HZ).2.2 rfl (by decide) _ acc.length (zk acc) (by rfl) ((zA HO).alloc _).drew ⟨w.heap.size,0,none⟩ 1 1 (zk [⟨(kind:Int),s.extract gap start,s.extract start q⟩]) (by rfl) rfl (fun j u hj=>zEH w ⟨(kind:Int),s.extract gap start,s.extract start q⟩ j u hj) (zB0 _) (by decide) (by unfold maxLen; omega) (by omega) (by simp; omega) _ rfl ?_
  intro g4 c4' w4 hown4 hgrow4 hor4 hlt4
  have hfar:=fun o=>(hgrow4.cell_far ⟨p,o,none⟩ (by simp; omega) (fun e=>(zA HN) e.symm)).trans ((zC w (.cells #[.int .i64 (kind:Int),.string (s.extract gap start),.string (s.extract start q)] 97)).cell (p:=⟨p,o,none⟩) hp)
  have f6:=fun o=>(hgrow4.frozen_far ⟨p,o,none⟩ (by simp; omega) (fun e=>(zA HN) e.symm)).trans (((zC w (.cells #[.int .i64 (kind:Int),.string (s.extract gap start),.string (s.extract start q)] 97)).frozen (p:=⟨p,o,none⟩) hp).trans (fz o))
  have q3:=(hfar 3).trans c3
  have q4:=(hfar 4).trans c4
  have q5:=(hfar 5).trans c5
  have q6:=(hfar 6).trans c6
  have HF:=zB hfar
  have HG4:=zB hgrow4
  have HO4:=zB hown4
  have hg4p:¬ g4=p:=fun e=>by
   subst e
   rcases hor4 with h | h
   ·exact (zA HN) h
   ·simp at h; omega
  clear hfar hgrow4 hown4 hor4
  refine hK.out _ _ ⟨q3,q4,q5⟩ (fun hS4=>?_)
  clear hK
  simp only [List.getElem_toArray,List.getElem_cons_succ,List.getElem_cons_zero]
  simp only [Act.put,List.setIfInBounds_toArray,List.set_cons_zero,List.set_cons_succ]
  refine wpAnyH_take (i:=32) (v:=?_) rfl (by kernel_rfl) (by kernel_rfl) (by kernel_rfl) (fun _ _ _ h=>h) (Or.inl ⟨by rfl,?_⟩) hS4 ?_
  rotate_left
  ·intro W hW; obtain ⟨s3,s4,s5⟩:=hW; simp only [List.getElem_toArray,List.getElem_cons_succ,List.getElem_cons_zero]; go_simp; first | done | (with_reducible rfl)
  simp only [List.getElem_toArray,List.getElem_cons_succ,List.getElem_cons_zero]
  simp only [Act.put,List.setIfInBounds_toArray,List.set_cons_zero,List.set_cons_succ]
  refine wpAnyH_take (i:=33) (v:=?_) rfl (by kernel_rfl) (by kernel_rfl) (by kernel_rfl) (fun _ _ _ h=>h) (Or.inl ⟨by rfl,?_⟩) hS4 ?_
  rotate_left
  ·intro W hW; obtain ⟨s3,s4,s5⟩:=hW; simp only [List.getElem_toArray,List.getElem_cons_succ,List.getElem_cons_zero]; go_simp; first | done | (with_reducible rfl)
  simp only [List.getElem_toArray,List.getElem_cons_succ,List.getElem_cons_zero]
  simp only [Act.put,List.setIfInBounds_toArray,List.set_cons_zero,List.set_cons_succ]
  refine wpAnyH_ready (rs:=[34]) (by kernel_rfl) (by simp) ?_
  refine AllReadyH.cons rfl (fun K hK=>?_) AllReadyH.nil
  simp only [List.getElem_toArray,List.getElem_cons_succ,List.getElem_cons_zero]
  go_simp
  refine hK.out _ _ ⟨by rw [World.cell?_setCell_other _ _ _ _ (by simp)]; exact q3,by rw [World.cell?_setCell_other _ _ _ _ (by simp)]; exact q4,by rw [World.cell?_setCell_other _ _ _ _ (by simp)]; exact q5⟩ (fun hS5=>?_)
  clear hK
  refine wpAnyH_done (by kernel_rfl) ?_ _
  have r4:(w4.setCell ⟨p,6,none⟩ (.slice (some ⟨g4,0,none⟩) (acc.length+1) c4')).cell? ⟨p,4,none⟩=some (.int .i64 (gap:Int)):=hS5.2.1
  have r5:(w4.setCell ⟨p,6,none⟩ (.slice (some ⟨g4,0,none⟩) (acc.length+1) c4')).cell? ⟨p,5,none⟩=some (.int .i64 (start:Int)):=hS5.2.2
  clear hS4 hS5
  go_wp2
  go_end0
  refine ⟨rfl,g4,c4',?_⟩
  rw [zBM]
  exact zIa (zA HC) (zA HF) q3 q4 q5 q6 f6 (zA HO4) (zA HG4) hg4p
 ·simp only [List.getElem_toArray,List.getElem_cons_succ,List.getElem_cons_zero]
  go_simp
  refine hK.out _ _ (zA HS1) (fun _=>?_)
  clear hK
  refine wpAnyH_ready (rs:=[4]) (by kernel_rfl) (by simp) ?_
  refine AllReadyH.cons rfl (fun K hK=>?_) AllReadyH.nil
  simp only [List.getElem_toArray,List.getElem_cons_succ,List.getElem_cons_zero]
  go_simp
  refine hK.out _ _ (zA HS1) (fun _=>?_)
  clear hK
  refine wpAnyH_ready (rs:=[31]) (by kernel_rfl) (by simp) ?_
  refine AllReadyH.cons rfl (fun K hK=>?_) AllReadyH.nil
  refine step_append_lies _ (by rfl) (.tmp 10) (.tmp 36) 72 (by rfl) base 97 i0 _ 3 40 Tryz.underlying72 (zA HI) (zA HZ).1 (zA HZ).2.1 (zA HZ).2.2 rfl (by decide) _ acc.length (zk acc) (by rfl) ((zA HO).alloc _).drew ⟨w.heap.size,0,none⟩ 1 1 (zk [⟨(kind:Int),s.extract gap start,s.extract start q⟩]) (by rfl) rfl (fun j u hj=>zEH w ⟨(kind:Int),s.extract gap start,s.extract start q⟩ j u hj) (zB0 _) (by decide) (by unfold maxLen; omega) (by omega) (by simp; omega) _ rfl ?_
  intro g4 c4' w4 hown4 hgrow4 hor4 hlt4
  have hfar:=fun o=>(hgrow4.cell_far ⟨p,o,none⟩ (by simp; omega) (fun e=>(zA HN) e.symm)).trans ((zC w (.cells #[.int .i64 (kind:Int),.string (s.extract gap start),.string (s.extract start q)] 97)).cell (p:=⟨p,o,none⟩) hp)
  have f6:=fun o=>(hgrow4.frozen_far ⟨p,o,none⟩ (by simp; omega) (fun e=>(zA HN) e.symm)).trans (((zC w (.cells #[.int .i64 (kind:Int),.string (s.extract gap start),.string (s.extract start q)] 97)).frozen (p:=⟨p,o,none⟩) hp).trans (fz o))
  have q3:=(hfar 3).trans c3
  have q4:=(hfar 4).trans c4
  have q5:=(hfar 5).trans c5
  have q6:=(hfar 6).trans c6
  have HF:=zB hfar
  have HG4:=zB hgrow4
  have HO4:=zB hown4
  have hg4p:¬ g4=p:=fun e=>by
   subst e
   rcases hor4 with h | h
   ·exact (zA HN) h
   ·simp at h; omega
  clear hfar hgrow4 hown4 hor4
  refine hK.out _ _ ⟨q3,q4,q5⟩ (fun hS4=>?_)
  clear hK
  simp only [List.getElem_toArray,List.getElem_cons_succ,List.getElem_cons_zero]
  simp only [Act.put,List.setIfInBounds_toArray,List.set_cons_zero,List.set_cons_succ]
  refine wpAnyH_take (i:=32) (v:=?_) rfl (by kernel_rfl) (by kernel_rfl) (by kernel_rfl) (fun _ _ _ h=>h) (Or.inl ⟨by rfl,?_⟩) hS4 ?_
  rotate_left
  ·intro W hW; obtain ⟨s3,s4,s5⟩:=hW; simp only [List.getElem_toArray,List.getElem_cons_succ,List.getElem_cons_zero]; go_simp; first | done | (with_reducible rfl)
  simp only [List.getElem_toArray,List.getElem_cons_succ,List.getElem_cons_zero]
  simp only [Act.put,List.setIfInBounds_toArray,List.set_cons_zero,List.set_cons_succ]
  refine wpAnyH_take (i:=33) (v:=?_) rfl (by kernel_rfl) (by kernel_rfl) (by kernel_rfl) (fun _ _ _ h=>h) (Or.inl ⟨by rfl,?_⟩) hS4 ?_
  rotate_left
  ·intro W hW; obtain ⟨s3,s4,s5⟩:=hW; simp only [List.getElem_toArray,List.getElem_cons_succ,List.getElem_cons_zero]; go_simp; first | done | (with_reducible rfl)
  simp only [List.getElem_toArray,List.getElem_cons_succ,List.getElem_cons_zero]
  simp only [Act.put,List.setIfInBounds_toArray,List.set_cons_zero,List.set_cons_succ]
  refine wpAnyH_ready (rs:=[34]) (by kernel_rfl) (by simp) ?_
  refine AllReadyH.cons rfl (fun K hK=>?_) AllReadyH.nil
  simp only [List.getElem_toArray,List.getElem_cons_succ,List.getElem_cons_zero]
  go_simp
  refine hK.out _ _ ⟨by rw [World.cell?_setCell_other _ _ _ _ (by simp)]; exact q3,by rw [World.cell?_setCell_other _ _ _ _ (by simp)]; exact q4,by rw [World.cell?_setCell_other _ _ _ _ (by simp)]; exact q5⟩ (fun hS5=>?_)
  clear hK
  refine wpAnyH_done (by kernel_rfl) ?_ _
  have r4:(w4.setCell ⟨p,6,none⟩ (.slice (some ⟨g4,0,none⟩) (acc.length+1) c4')).cell? ⟨p,4,none⟩=some (.int .i64 (gap:Int)):=hS5.2.1
  have r5:(w4.setCell ⟨p,6,none⟩ (.slice (some ⟨g4,0,none⟩) (acc.length+1) c4')).cell? ⟨p,5,none⟩=some (.int .i64 (start:Int)):=hS5.2.2
  clear hS4 hS5
  go_wp2
  go_end0
  refine ⟨rfl,g4,c4',?_⟩
  rw [zBM]
  exact zIa (zA HC) (zA HF) q3 q4 q5 q6 f6 (zA HO4) (zA HG4) hg4p
end Go.Proofs.YtfboipappaonhaaGreat
namespace Go.Proofs.YtfboipappaonhaaGreat
set_option maxHeartbeats 16000000
set_option maxRecDepth 100000
open Go.RowKit Go.Maps
theorem zKZ (bo bs n:Nat) (xs:List OpR) (t:ByteArray) (w:World) (hi:Idx w bo bs xs n) (hn:n=xs.length) (hk:zHX xs) (ht:t.size<=maxLen) :
  Calls Tryz.prog 129 #[.agg #[.map (some bo),.map (some bs)],.string t] w fun e w'=>zCw e (opT xs t)/\Below w.heap.size w w':=by
 subst hn
 obtain ⟨⟨D,hown,hD⟩,_,_⟩:=hi
 have H1:=zB (hD _ _ ht zQx).1
 have H2:=zB (hD _ _ ht zQy).1
 have H3:=zB (hD _ _ ht zQz).1
 have HK:=zB (zIZ (t:=t) hk)
 have HO:=zB hown
 clear hD hown hk
 go_enter Tryz.func129,Tryz.ntmps129
 go_wp2_with fail
 refine (zCc bo bs xs.length D t 1 _ ((zA HO).alloc _) ht (by decide)).mono ?_
 rintro e w1 ⟨rfl,hb1⟩
 have bel1:Below w.heap.size w w1:=(zC _ _).trans (hb1.mono (by simp))
 have z1:w.heap.size<w1.heap.size:=by have:=hb1.size; simp at this; omega
 have c0:w1.cell? ⟨w.heap.size,0,none⟩=some (.map (some bo)):=by rw [hb1.cell (p:=⟨w.heap.size,0,none⟩) (by simp)]; simp [go_sem]
 have c1:w1.cell? ⟨w.heap.size,1,none⟩=some (.map (some bs)):=by rw [hb1.cell (p:=⟨w.heap.size,1,none⟩) (by simp)]; simp [go_sem]
 have HO1:=zB (((zA HO).alloc (.cells #[.map (some bo),.map (some bs)] 69)).kept (w':=w1) (row:=none) ⟨hb1.os,hb1.tape,hb1.output,hb1.size,fun i hi _=>hb1.block i hi⟩ (by simp))
 clear HO hb1
 cases h1:Maps.has D (klO t 1)
 case true=>
  have G1:=zB h1
  go_wp2_with fail
  go_ret
  exact ⟨⟨true,rfl,⟨fun _=>(zA HK).2 (Or.inl ((zA H1).1 (zA G1))),fun _=>rfl⟩⟩,bel1⟩
 have G1:=zB h1
 go_wp2_with fail
 refine (zCc bo bs xs.length D t 2 _ (zA HO1) ht (by decide)).mono ?_
 rintro e w2 ⟨rfl,hb2⟩
 have bel2:=bel1.trans (hb2.mono bel1.size)
 have d0:w2.cell? ⟨w.heap.size,0,none⟩=some (.map (some bo)):=(hb2.cell (p:=⟨w.heap.size,0,none⟩) z1).trans c0
 have d1:w2.cell? ⟨w.heap.size,1,none⟩=some (.map (some bs)):=(hb2.cell (p:=⟨w.heap.size,1,none⟩) z1).trans c1
 have HO2:=zB ((zA HO1).kept (w':=w2) (row:=none) ⟨hb2.os,hb2.tape,hb2.output,hb2.size,fun i hi _=>hb2.block i hi⟩ (by simp))
 clear HO1 hb2 c0 c1
 cases h2:Maps.has D (klO t 2)
 case true=>
  have G2:=zB h2
  go_wp2_with fail
  go_ret
  exact ⟨⟨true,rfl,⟨fun _=>(zA HK).2 (Or.inr (Or.inl ((zA H2).1 (zA G2)))),fun _=>rfl⟩⟩,bel2⟩
 have G2:=zB h2
 go_wp2_with fail
 refine (zCc bo bs xs.length D t 3 _ (zA HO2) ht (by decide)).mono ?_
 rintro e w3 ⟨rfl,hb3⟩
 have bel3:=bel2.trans (hb3.mono bel2.size)
 clear h1 h2
 go_wp2_with fail
 go_ret
 refine ⟨⟨_,rfl,?_⟩,bel3⟩
 unfold zJy
 rw [zA HK,<- zA H1,<- zA H2,<- zA H3,zA G1,zA G2]
 simp
end Go.Proofs.YtfboipappaonhaaGreat
