import Derived.Deep.AppendLies
import Derived.Deep.RegionHeldLaw
import Derived.Test.YtokabkhnidlcnabGreatP00
import Derived.Test.YtokabkhnidlcnabGreatP07
import Derived.Test.YtokabkhnidlcnabGreatP08
import Derived.Test.YtokabkhnidlcnabGreatP09
import Derived.Test.YtokabkhnidlcnabGreatP10

/-
  Walks: the program's scanner, its parts.
-/
namespace Go.Proofs.YtokabkhnidlcnabGreat
set_option maxRecDepth 100000
open Go.RowKit Go.Maps

theorem wordKind_any (c : Nat) (w : World) (h : c = 2 ∨ c = 3) :
    Calls Tryz.prog 109 #[.int .i64 (c : Int)] w fun e w' => e = .returned (.int .i64 ((c : Int) - 1)) ∧ w' = w := by
  rcases h with rfl | rfl
  · go_enter Tryz.func109, Tryz.ntmps109
    go_wp2
    go_ret
    exact ⟨rfl, rfl⟩
  · go_enter Tryz.func109, Tryz.ntmps109
    go_wp2
    go_ret
    exact ⟨rfl, rfl⟩

/-- A scanner in memory. -/
structure Sc (w : World) (p bo bs L : Nat) (s : ByteArray) (gap start : Nat) (v : Value) : Prop where
  c0 : w.cell? ⟨p, 0, none⟩ = some (.map (some bo))
  c1 : w.cell? ⟨p, 1, none⟩ = some (.map (some bs))
  c2 : w.cell? ⟨p, 2, none⟩ = some (.int .i64 (L : Int))
  c3 : w.cell? ⟨p, 3, none⟩ = some (.string s)
  c4 : w.cell? ⟨p, 4, none⟩ = some (.int .i64 (gap : Int))
  c5 : w.cell? ⟨p, 5, none⟩ = some (.int .i64 (start : Int))
  c6 : w.cell? ⟨p, 6, none⟩ = some v
  fz : ∀ o, w.frozen? ⟨p, o, none⟩ = false

set_option maxHeartbeats 1000000 in
theorem goesOn_any (p bo bs L : Nat) (s : ByteArray) (gap start : Nat) (v : Value) (first q : Nat) (w : World) (h : Sc w p bo bs L s gap start v) (hq : q ≤ s.size) (hf : first = 2 ∨ first = 3) :
    Calls Tryz.prog 107 #[.pointer (some ⟨p, 0, none⟩), .int .i64 (first : Int), .int .i64 (q : Int)] w fun e w' => RetB e (q < s.size ∧ (cls (bt s q) = 2 ∨ (cls (bt s q) = 3 ∧ first = 3))) ∧ w' = w := by
  have c3 := h.c3
  clear h
  by_cases hlt : q < s.size
  · have hltI : (q : Int) < (s.size : Int) := by omega
    have hb := hide (bt_get hlt)
    have HF := hide hf
    clear hf
    go_enter Tryz.func107, Tryz.ntmps107
    go_wp2_with (go_at_call 134; refine (staysWord_any first _ _).mono ?_; rintro e w' ⟨rfl, hx⟩; obtain rfl := hx.symm)
    go_ret
    refine ⟨⟨_, rfl, ?_⟩, rfl⟩
    unfold Says stays
    rw [unhide hb]
    simp [hlt]
  · have hltI : ¬ (q : Int) < (s.size : Int) := by omega
    go_enter Tryz.func107, Tryz.ntmps107
    go_wp2_with fail
    go_ret
    exact ⟨⟨false, rfl, says_false (by simp)⟩, rfl⟩

end Go.Proofs.YtokabkhnidlcnabGreat

/-
  Walks: the program's scanner: a token is finished.
-/
namespace Go.Proofs.YtokabkhnidlcnabGreat
set_option maxRecDepth 100000
open Go.RowKit Go.Maps

set_option linter.unusedSimpArgs false

/-- Nothing but a scanner's block and its row has turned. -/
structure KeptS (w w' : World) (p : Nat) (row : Option Nat) : Prop where
  os : w'.os = w.os
  tape : w'.tape = w.tape
  output : w'.output = w.output
  size : w.heap.size ≤ w'.heap.size
  block : ∀ i, i < w.heap.size → i ≠ p → some i ≠ row → w'.heap[i]? = w.heap[i]?

theorem cell_set3 {W : World} {p : Nat} {V A B : Value} (h4 : ∃ u, W.cell? ⟨p, 4, none⟩ = some u) (h5 : ∃ u, W.cell? ⟨p, 5, none⟩ = some u) (h6 : ∃ u, W.cell? ⟨p, 6, none⟩ = some u) :
    (((W.setCell ⟨p, 6, none⟩ V).setCell ⟨p, 4, none⟩ A).setCell ⟨p, 5, none⟩ B).cell? ⟨p, 4, none⟩ = some A ∧ (((W.setCell ⟨p, 6, none⟩ V).setCell ⟨p, 4, none⟩ A).setCell ⟨p, 5, none⟩ B).cell? ⟨p, 5, none⟩ = some B ∧
    (((W.setCell ⟨p, 6, none⟩ V).setCell ⟨p, 4, none⟩ A).setCell ⟨p, 5, none⟩ B).cell? ⟨p, 6, none⟩ = some V ∧ ∀ o, o < 4 → (((W.setCell ⟨p, 6, none⟩ V).setCell ⟨p, 4, none⟩ A).setCell ⟨p, 5, none⟩ B).cell? ⟨p, o, none⟩ = W.cell? ⟨p, o, none⟩ := by
  obtain ⟨u4, h4⟩ := h4
  obtain ⟨u5, h5⟩ := h5
  obtain ⟨u6, h6⟩ := h6
  have k4 : (W.setCell ⟨p, 6, none⟩ V).cell? ⟨p, 4, none⟩ = some u4 := by rw [World.cell?_setCell_other _ _ _ _ (by simp)]; exact h4
  have k5 : ((W.setCell ⟨p, 6, none⟩ V).setCell ⟨p, 4, none⟩ A).cell? ⟨p, 5, none⟩ = some u5 := by rw [World.cell?_setCell_other _ _ _ _ (by simp), World.cell?_setCell_other _ _ _ _ (by simp)]; exact h5
  refine ⟨?_, World.cell?_setCell_same _ _ _ k5, ?_, fun o ho => ?_⟩
  · rw [World.cell?_setCell_other _ _ _ _ (by simp)]
    exact World.cell?_setCell_same _ _ _ k4
  · rw [World.cell?_setCell_other _ _ _ _ (by simp), World.cell?_setCell_other _ _ _ _ (by simp)]
    exact World.cell?_setCell_same _ _ _ h6
  · rw [World.cell?_setCell_other _ _ _ _ (by simp), World.cell?_setCell_other _ _ _ _ (by simp), World.cell?_setCell_other _ _ _ _ (by simp)]

theorem set1_grown (W : World) (p o : Nat) (V : Value) : W.grownBy (W.setCell ⟨p, o, none⟩ V) (some p) :=
  ⟨rfl, rfl, rfl, by simp [World.setCell], fun i _ hi => Below.heap_setCell _ _ _ _ (fun e => hi (by rw [e]))⟩

theorem fin_close {w w4 : World} {p bo bs L gap start q base g c n : Nat} {s : ByteArray} {row : Option Nat} {v : Value} {cs : List Value} {o : Obj}
    (hc : w.cell? ⟨p, 0, none⟩ = some (.map (some bo)) ∧ w.cell? ⟨p, 1, none⟩ = some (.map (some bs)) ∧ w.cell? ⟨p, 2, none⟩ = some (.int .i64 (L : Int))) (hfar : ∀ o, w4.cell? ⟨p, o, none⟩ = w.cell? ⟨p, o, none⟩)
    (q3 : w4.cell? ⟨p, 3, none⟩ = some (.string s)) (q4 : w4.cell? ⟨p, 4, none⟩ = some (.int .i64 (gap : Int))) (q5 : w4.cell? ⟨p, 5, none⟩ = some (.int .i64 (start : Int))) (q6 : w4.cell? ⟨p, 6, none⟩ = some v)
    (fz : ∀ o, w4.frozen? ⟨p, o, none⟩ = false) (hown : w4.ownsRow base 56 3 (.slice (some ⟨g, 0, none⟩) n c) n cs) (hg : (w.alloc o).drew.grownBy w4 row) (hgp : ¬ g = p) :
    Hid (Sc (((w4.setCell ⟨p, 6, none⟩ (.slice (some ⟨g, 0, none⟩) n c)).setCell ⟨p, 4, none⟩ (.int .i64 (q : Int))).setCell ⟨p, 5, none⟩ (.int .i64 (q : Int))) p bo bs L s q q (.slice (some ⟨g, 0, none⟩) n c)) ∧
    Hid ((((w4.setCell ⟨p, 6, none⟩ (.slice (some ⟨g, 0, none⟩) n c)).setCell ⟨p, 4, none⟩ (.int .i64 (q : Int))).setCell ⟨p, 5, none⟩ (.int .i64 (q : Int))).ownsRow base 56 3 (.slice (some ⟨g, 0, none⟩) n c) n cs) ∧ g ≠ p ∧
    KeptS w (((w4.setCell ⟨p, 6, none⟩ (.slice (some ⟨g, 0, none⟩) n c)).setCell ⟨p, 4, none⟩ (.int .i64 (q : Int))).setCell ⟨p, 5, none⟩ (.int .i64 (q : Int))) p row := by
  obtain ⟨a4, a5, a6, alo⟩ := cell_set3 (V := .slice (some ⟨g, 0, none⟩) n c) (A := .int .i64 (q : Int)) (B := .int .i64 (q : Int)) ⟨_, q4⟩ ⟨_, q5⟩ ⟨_, q6⟩
  have hne : ∀ b : Nat, ¬ b = p → some b ≠ some p := fun b h e => h (Option.some.inj e)
  refine ⟨hide ⟨(alo 0 (by omega)).trans ((hfar 0).trans hc.1), (alo 1 (by omega)).trans ((hfar 1).trans hc.2.1), (alo 2 (by omega)).trans ((hfar 2).trans hc.2.2), (alo 3 (by omega)).trans q3, a4, a5, a6, fun o => ?_⟩, hide ?_, hgp, ?_⟩
  · rw [World.frozen?_setCell, World.frozen?_setCell, World.frozen?_setCell]
    exact fz o
  · exact ((hown.kept (set1_grown _ p 6 _) (Or.inr (by simp [Value.ownBlock]; exact hgp))).kept (set1_grown _ p 4 _) (Or.inr (by simp [Value.ownBlock]; exact hgp))).kept (set1_grown _ p 5 _) (Or.inr (by simp [Value.ownBlock]; exact hgp))
  · have e1 := hg.size
    simp at e1
    refine ⟨hg.os, hg.tape, hg.output, by simp [World.setCell]; omega, fun i hi h1 h2 => ?_⟩
    rw [Below.heap_setCell _ _ _ _ (by simpa using h1), Below.heap_setCell _ _ _ _ (by simpa using h1), Below.heap_setCell _ _ _ _ (by simpa using h1)]
    exact (hg.block i (by simp; omega) h2).trans ((below1 w o).block i hi)

set_option maxHeartbeats 8000000 in
theorem finish_any (p bo bs L : Nat) (s : ByteArray) (gap start : Nat) (v : Value) (kind q base : Nat) (acc : List TokR) (w : World) (h : Sc w p bo bs L s gap start v) (h1 : gap ≤ start) (h2 : start ≤ q) (hq : q ≤ s.size)
    (hown : w.ownsRow base 56 3 v acc.length (cellsTk acc)) (hne : v.ownBlock ≠ some p) (hacc : acc.length ≤ 20000) (hbase : base ≤ w.heap.size) :
    Calls Tryz.prog 108 #[.pointer (some ⟨p, 0, none⟩), .int .i64 (kind : Int), .int .i64 (q : Int)] w fun e w' => e = .returned (.tuple #[]) ∧ ∃ g cap : Nat, Hid (Sc w' p bo bs L s q q (.slice (some ⟨g, 0, none⟩) (acc.length + 1) cap)) ∧ Hid (w'.ownsRow base 56 3 (.slice (some ⟨g, 0, none⟩) (acc.length + 1) cap) (acc.length + 1) (cellsTk (acc ++ [⟨(kind : Int), s.extract gap start, s.extract start q⟩]))) ∧ g ≠ p ∧ KeptS w w' p v.ownBlock := by
  have hp : p < w.heap.size := block_lt_of_cell h.c0
  obtain ⟨c0, c1, c2, c3, c4, c5, c6, fz⟩ := h
  have hs1 : (gap : Int) ≤ (start : Int) := by omega
  have hs2 : (start : Int) ≤ (s.size : Int) := by omega
  have hs3 : (start : Int) ≤ (q : Int) := by omega
  have hs4 : (q : Int) ≤ (s.size : Int) := by omega
  have k6 : ∀ o, (w.alloc o).drew.cell? ⟨p, 6, none⟩ = some v := fun o => ((below1 w o).cell (p := ⟨p, 6, none⟩) hp).trans c6
  have HO := hide hown
  have HN := hide hne
  have HC := hide (And.intro c0 (And.intro c1 c2))
  clear hown hne c0 c1 c2
  obtain ⟨i0, hi, hz0, hz1, hz2⟩ := info_parts infoT
  have HI := hide hi
  have HZ := hide (And.intro hz0 (And.intro hz1 hz2))
  clear hi hz0 hz1 hz2
  have hnp : ¬ w.heap.size = p := by omega
  go_enter Tryz.func108, Tryz.ntmps108
  go_wp2_with fail
  have hS : (fun W : World => W.cell? ⟨p, 3, none⟩ = some (.string s) ∧ W.cell? ⟨p, 4, none⟩ = some (.int .i64 (gap : Int)) ∧ W.cell? ⟨p, 5, none⟩ = some (.int .i64 (start : Int))) w.drew := ⟨c3, c4, c5⟩
  have HS := hide hS
  have HS1 := hide (show (fun W : World => W.cell? ⟨p, 3, none⟩ = some (.string s) ∧ W.cell? ⟨p, 4, none⟩ = some (.int .i64 (gap : Int)) ∧ W.cell? ⟨p, 5, none⟩ = some (.int .i64 (start : Int))) (w.alloc (.cells #[.int .i64 (kind : Int), .string (s.extract gap start), .string (s.extract start q)] 56)).drew from ⟨((below1 w _).cell (p := ⟨p, 3, none⟩) hp).trans c3, ((below1 w _).cell (p := ⟨p, 4, none⟩) hp).trans c4, ((below1 w _).cell (p := ⟨p, 5, none⟩) hp).trans c5⟩)
  refine wp_region_held_drew (S := fun W : World => W.cell? ⟨p, 3, none⟩ = some (.string s) ∧ W.cell? ⟨p, 4, none⟩ = some (.int .i64 (gap : Int)) ∧ W.cell? ⟨p, 5, none⟩ = some (.int .i64 (start : Int))) (by kernel_rfl) hS (fun _ => ?_)
  refine wpAnyH_take (i := 0) (v := ?_) rfl (by kernel_rfl) (by kernel_rfl) (by kernel_rfl) (fun _ _ _ h => h) (Or.inl ⟨by rfl, ?_⟩) hS ?_
  rotate_left
  · intro W hW; obtain ⟨s3, s4, s5⟩ := hW; simp only [List.getElem_toArray, List.getElem_cons_succ, List.getElem_cons_zero]; go_simp; first | done | (with_reducible rfl)
  simp only [List.getElem_toArray, List.getElem_cons_succ, List.getElem_cons_zero]
  simp only [Act.put, List.setIfInBounds_toArray, List.set_cons_zero, List.set_cons_succ]
  refine wpAnyH_take (i := 1) (v := ?_) rfl (by kernel_rfl) (by kernel_rfl) (by kernel_rfl) (fun _ _ _ h => h) (Or.inl ⟨by rfl, ?_⟩) hS ?_
  rotate_left
  · intro W hW; obtain ⟨s3, s4, s5⟩ := hW; simp only [List.getElem_toArray, List.getElem_cons_succ, List.getElem_cons_zero]; go_simp; first | done | (with_reducible rfl)
  simp only [List.getElem_toArray, List.getElem_cons_succ, List.getElem_cons_zero]
  simp only [Act.put, List.setIfInBounds_toArray, List.set_cons_zero, List.set_cons_succ]
  refine wpAnyH_take (i := 2) (v := ?_) rfl (by kernel_rfl) (by kernel_rfl) (by kernel_rfl) (fun _ _ _ h => h) (Or.inl ⟨by rfl, ?_⟩) hS ?_
  rotate_left
  · intro W hW; obtain ⟨s3, s4, s5⟩ := hW; simp only [List.getElem_toArray, List.getElem_cons_succ, List.getElem_cons_zero]; go_simp; first | done | (with_reducible rfl)
  simp only [List.getElem_toArray, List.getElem_cons_succ, List.getElem_cons_zero]
  simp only [Act.put, List.setIfInBounds_toArray, List.set_cons_zero, List.set_cons_succ]
  refine wpAnyH_take (i := 3) (v := ?_) rfl (by kernel_rfl) (by kernel_rfl) (by kernel_rfl) (fun _ _ _ h => h) (Or.inl ⟨by rfl, ?_⟩) hS ?_
  rotate_left
  · intro W hW; obtain ⟨s3, s4, s5⟩ := hW; simp only [List.getElem_toArray, List.getElem_cons_succ, List.getElem_cons_zero]; go_simp; first | done | (with_reducible rfl)
  simp only [List.getElem_toArray, List.getElem_cons_succ, List.getElem_cons_zero]
  simp only [Act.put, List.setIfInBounds_toArray, List.set_cons_zero, List.set_cons_succ]
  refine wpAnyH_take (i := 5) (v := ?_) rfl (by kernel_rfl) (by kernel_rfl) (by kernel_rfl) (fun _ _ _ h => h) (Or.inl ⟨by rfl, ?_⟩) hS ?_
  rotate_left
  · intro W hW; obtain ⟨s3, s4, s5⟩ := hW; simp only [List.getElem_toArray, List.getElem_cons_succ, List.getElem_cons_zero]; go_simp; first | done | (with_reducible rfl)
  simp only [List.getElem_toArray, List.getElem_cons_succ, List.getElem_cons_zero]
  simp only [Act.put, List.setIfInBounds_toArray, List.set_cons_zero, List.set_cons_succ]
  refine wpAnyH_take (i := 6) (v := ?_) rfl (by kernel_rfl) (by kernel_rfl) (by kernel_rfl) (fun _ _ _ h => h) (Or.inl ⟨by rfl, ?_⟩) hS ?_
  rotate_left
  · intro W hW; obtain ⟨s3, s4, s5⟩ := hW; simp only [List.getElem_toArray, List.getElem_cons_succ, List.getElem_cons_zero]; go_simp; first | done | (with_reducible rfl)
  simp only [List.getElem_toArray, List.getElem_cons_succ, List.getElem_cons_zero]
  simp only [Act.put, List.setIfInBounds_toArray, List.set_cons_zero, List.set_cons_succ]
  refine wpAnyH_take (i := 7) (v := ?_) rfl (by kernel_rfl) (by kernel_rfl) (by kernel_rfl) (fun _ _ _ h => h) (Or.inl ⟨by rfl, ?_⟩) hS ?_
  rotate_left
  · intro W hW; obtain ⟨s3, s4, s5⟩ := hW; simp only [List.getElem_toArray, List.getElem_cons_succ, List.getElem_cons_zero]; go_simp; first | done | (with_reducible rfl)
  simp only [List.getElem_toArray, List.getElem_cons_succ, List.getElem_cons_zero]
  simp only [Act.put, List.setIfInBounds_toArray, List.set_cons_zero, List.set_cons_succ]
  refine wpAnyH_take (i := 8) (v := ?_) rfl (by kernel_rfl) (by kernel_rfl) (by kernel_rfl) (fun _ _ _ h => h) (Or.inl ⟨by rfl, ?_⟩) hS ?_
  rotate_left
  · intro W hW; obtain ⟨s3, s4, s5⟩ := hW; simp only [List.getElem_toArray, List.getElem_cons_succ, List.getElem_cons_zero]; go_simp; first | done | (with_reducible rfl)
  simp only [List.getElem_toArray, List.getElem_cons_succ, List.getElem_cons_zero]
  simp only [Act.put, List.setIfInBounds_toArray, List.set_cons_zero, List.set_cons_succ]
  refine wpAnyH_take (i := 9) (v := ?_) rfl (by kernel_rfl) (by kernel_rfl) (by kernel_rfl) (fun _ _ _ h => h) (Or.inl ⟨by rfl, ?_⟩) hS ?_
  rotate_left
  · intro W hW; obtain ⟨s3, s4, s5⟩ := hW; simp only [List.getElem_toArray, List.getElem_cons_succ, List.getElem_cons_zero]; go_simp; first | done | (with_reducible rfl)
  simp only [List.getElem_toArray, List.getElem_cons_succ, List.getElem_cons_zero]
  simp only [Act.put, List.setIfInBounds_toArray, List.set_cons_zero, List.set_cons_succ]
  refine wpAnyH_take (i := 10) (v := ?_) rfl (by kernel_rfl) (by kernel_rfl) (by kernel_rfl) (fun _ _ _ h => h) (Or.inl ⟨by rfl, ?_⟩) hS ?_
  rotate_left
  · intro W hW; obtain ⟨s3, s4, s5⟩ := hW; simp only [List.getElem_toArray, List.getElem_cons_succ, List.getElem_cons_zero]; go_simp; first | done | (with_reducible rfl)
  simp only [List.getElem_toArray, List.getElem_cons_succ, List.getElem_cons_zero]
  simp only [Act.put, List.setIfInBounds_toArray, List.set_cons_zero, List.set_cons_succ]
  refine wpAnyH_take (i := 11) (v := ?_) rfl (by kernel_rfl) (by kernel_rfl) (by kernel_rfl) (fun _ _ _ h => h) (Or.inl ⟨by rfl, ?_⟩) hS ?_
  rotate_left
  · intro W hW; obtain ⟨s3, s4, s5⟩ := hW; simp only [List.getElem_toArray, List.getElem_cons_succ, List.getElem_cons_zero]; go_simp; first | done | (with_reducible rfl)
  simp only [List.getElem_toArray, List.getElem_cons_succ, List.getElem_cons_zero]
  simp only [Act.put, List.setIfInBounds_toArray, List.set_cons_zero, List.set_cons_succ]
  refine wpAnyH_take (i := 12) (v := ?_) rfl (by kernel_rfl) (by kernel_rfl) (by kernel_rfl) (fun _ _ _ h => h) (Or.inl ⟨by rfl, ?_⟩) hS ?_
  rotate_left
  · intro W hW; obtain ⟨s3, s4, s5⟩ := hW; simp only [List.getElem_toArray, List.getElem_cons_succ, List.getElem_cons_zero]; go_simp; first | done | (with_reducible rfl)
  simp only [List.getElem_toArray, List.getElem_cons_succ, List.getElem_cons_zero]
  simp only [Act.put, List.setIfInBounds_toArray, List.set_cons_zero, List.set_cons_succ]
  refine wpAnyH_take (i := 13) (v := ?_) rfl (by kernel_rfl) (by kernel_rfl) (by kernel_rfl) (fun _ _ _ h => h) (Or.inl ⟨by rfl, ?_⟩) hS ?_
  rotate_left
  · intro W hW; obtain ⟨s3, s4, s5⟩ := hW; simp only [List.getElem_toArray, List.getElem_cons_succ, List.getElem_cons_zero]; go_simp; first | done | (with_reducible rfl)
  simp only [List.getElem_toArray, List.getElem_cons_succ, List.getElem_cons_zero]
  simp only [Act.put, List.setIfInBounds_toArray, List.set_cons_zero, List.set_cons_succ]
  refine wpAnyH_take (i := 14) (v := ?_) rfl (by kernel_rfl) (by kernel_rfl) (by kernel_rfl) (fun _ _ _ h => h) (Or.inl ⟨by rfl, ?_⟩) hS ?_
  rotate_left
  · intro W hW; obtain ⟨s3, s4, s5⟩ := hW; simp only [List.getElem_toArray, List.getElem_cons_succ, List.getElem_cons_zero]; go_simp; first | done | (with_reducible rfl)
  simp only [List.getElem_toArray, List.getElem_cons_succ, List.getElem_cons_zero]
  simp only [Act.put, List.setIfInBounds_toArray, List.set_cons_zero, List.set_cons_succ]
  refine wpAnyH_take (i := 15) (v := ?_) rfl (by kernel_rfl) (by kernel_rfl) (by kernel_rfl) (fun _ _ _ h => h) (Or.inl ⟨by rfl, ?_⟩) hS ?_
  rotate_left
  · intro W hW; obtain ⟨s3, s4, s5⟩ := hW; simp only [List.getElem_toArray, List.getElem_cons_succ, List.getElem_cons_zero]; go_simp; first | done | (with_reducible rfl)
  simp only [List.getElem_toArray, List.getElem_cons_succ, List.getElem_cons_zero]
  simp only [Act.put, List.setIfInBounds_toArray, List.set_cons_zero, List.set_cons_succ]
  refine wpAnyH_take (i := 16) (v := ?_) rfl (by kernel_rfl) (by kernel_rfl) (by kernel_rfl) (fun _ _ _ h => h) (Or.inl ⟨by rfl, ?_⟩) hS ?_
  rotate_left
  · intro W hW; obtain ⟨s3, s4, s5⟩ := hW; simp only [List.getElem_toArray, List.getElem_cons_succ, List.getElem_cons_zero]; go_simp; first | done | (with_reducible rfl)
  simp only [List.getElem_toArray, List.getElem_cons_succ, List.getElem_cons_zero]
  simp only [Act.put, List.setIfInBounds_toArray, List.set_cons_zero, List.set_cons_succ]
  refine wpAnyH_take (i := 17) (v := ?_) rfl (by kernel_rfl) (by kernel_rfl) (by kernel_rfl) (fun _ _ _ h => h) (Or.inl ⟨by rfl, ?_⟩) hS ?_
  rotate_left
  · intro W hW; obtain ⟨s3, s4, s5⟩ := hW; simp only [List.getElem_toArray, List.getElem_cons_succ, List.getElem_cons_zero]; go_simp; first | done | (with_reducible rfl)
  simp only [List.getElem_toArray, List.getElem_cons_succ, List.getElem_cons_zero]
  simp only [Act.put, List.setIfInBounds_toArray, List.set_cons_zero, List.set_cons_succ]
  refine wpAnyH_take (i := 18) (v := ?_) rfl (by kernel_rfl) (by kernel_rfl) (by kernel_rfl) (fun _ _ _ h => h) (Or.inl ⟨by rfl, ?_⟩) hS ?_
  rotate_left
  · intro W hW; obtain ⟨s3, s4, s5⟩ := hW; simp only [List.getElem_toArray, List.getElem_cons_succ, List.getElem_cons_zero]; go_simp; first | done | (with_reducible rfl)
  simp only [List.getElem_toArray, List.getElem_cons_succ, List.getElem_cons_zero]
  simp only [Act.put, List.setIfInBounds_toArray, List.set_cons_zero, List.set_cons_succ]
  refine wpAnyH_take (i := 19) (v := ?_) rfl (by kernel_rfl) (by kernel_rfl) (by kernel_rfl) (fun _ _ _ h => h) (Or.inl ⟨by rfl, ?_⟩) hS ?_
  rotate_left
  · intro W hW; obtain ⟨s3, s4, s5⟩ := hW; simp only [List.getElem_toArray, List.getElem_cons_succ, List.getElem_cons_zero]; go_simp; first | done | (with_reducible rfl)
  simp only [List.getElem_toArray, List.getElem_cons_succ, List.getElem_cons_zero]
  simp only [Act.put, List.setIfInBounds_toArray, List.set_cons_zero, List.set_cons_succ]
  refine wpAnyH_take (i := 20) (v := ?_) rfl (by kernel_rfl) (by kernel_rfl) (by kernel_rfl) (fun _ _ _ h => h) (Or.inl ⟨by rfl, ?_⟩) hS ?_
  rotate_left
  · intro W hW; obtain ⟨s3, s4, s5⟩ := hW; simp only [List.getElem_toArray, List.getElem_cons_succ, List.getElem_cons_zero]; go_simp; first | done | (with_reducible rfl)
  simp only [List.getElem_toArray, List.getElem_cons_succ, List.getElem_cons_zero]
  simp only [Act.put, List.setIfInBounds_toArray, List.set_cons_zero, List.set_cons_succ]
  refine wpAnyH_take (i := 21) (v := ?_) rfl (by kernel_rfl) (by kernel_rfl) (by kernel_rfl) (fun _ _ _ h => h) (Or.inl ⟨by rfl, ?_⟩) hS ?_
  rotate_left
  · intro W hW; obtain ⟨s3, s4, s5⟩ := hW; simp only [List.getElem_toArray, List.getElem_cons_succ, List.getElem_cons_zero]; go_simp; first | done | (with_reducible rfl)
  simp only [List.getElem_toArray, List.getElem_cons_succ, List.getElem_cons_zero]
  simp only [Act.put, List.setIfInBounds_toArray, List.set_cons_zero, List.set_cons_succ]
  refine wpAnyH_take (i := 22) (v := ?_) rfl (by kernel_rfl) (by kernel_rfl) (by kernel_rfl) (fun _ _ _ h => h) (Or.inl ⟨by rfl, ?_⟩) hS ?_
  rotate_left
  · intro W hW; obtain ⟨s3, s4, s5⟩ := hW; simp only [List.getElem_toArray, List.getElem_cons_succ, List.getElem_cons_zero]; go_simp; first | done | (with_reducible rfl)
  simp only [List.getElem_toArray, List.getElem_cons_succ, List.getElem_cons_zero]
  simp only [Act.put, List.setIfInBounds_toArray, List.set_cons_zero, List.set_cons_succ]
  refine wpAnyH_take (i := 23) (v := ?_) rfl (by kernel_rfl) (by kernel_rfl) (by kernel_rfl) (fun _ _ _ h => h) (Or.inl ⟨by rfl, ?_⟩) hS ?_
  rotate_left
  · intro W hW; obtain ⟨s3, s4, s5⟩ := hW; simp only [List.getElem_toArray, List.getElem_cons_succ, List.getElem_cons_zero]; go_simp; first | done | (with_reducible rfl)
  simp only [List.getElem_toArray, List.getElem_cons_succ, List.getElem_cons_zero]
  simp only [Act.put, List.setIfInBounds_toArray, List.set_cons_zero, List.set_cons_succ]
  refine wpAnyH_take (i := 24) (v := ?_) rfl (by kernel_rfl) (by kernel_rfl) (by kernel_rfl) (fun _ _ _ h => h) (Or.inl ⟨by rfl, ?_⟩) hS ?_
  rotate_left
  · intro W hW; obtain ⟨s3, s4, s5⟩ := hW; simp only [List.getElem_toArray, List.getElem_cons_succ, List.getElem_cons_zero]; go_simp; first | done | (with_reducible rfl)
  simp only [List.getElem_toArray, List.getElem_cons_succ, List.getElem_cons_zero]
  simp only [Act.put, List.setIfInBounds_toArray, List.set_cons_zero, List.set_cons_succ]
  refine wpAnyH_take (i := 25) (v := ?_) rfl (by kernel_rfl) (by kernel_rfl) (by kernel_rfl) (fun _ _ _ h => h) (Or.inl ⟨by rfl, ?_⟩) hS ?_
  rotate_left
  · intro W hW; obtain ⟨s3, s4, s5⟩ := hW; simp only [List.getElem_toArray, List.getElem_cons_succ, List.getElem_cons_zero]; go_simp; first | done | (with_reducible rfl)
  simp only [List.getElem_toArray, List.getElem_cons_succ, List.getElem_cons_zero]
  simp only [Act.put, List.setIfInBounds_toArray, List.set_cons_zero, List.set_cons_succ]
  refine wpAnyH_take (i := 26) (v := ?_) rfl (by kernel_rfl) (by kernel_rfl) (by kernel_rfl) (fun _ _ _ h => h) (Or.inl ⟨by rfl, ?_⟩) hS ?_
  rotate_left
  · intro W hW; obtain ⟨s3, s4, s5⟩ := hW; simp only [List.getElem_toArray, List.getElem_cons_succ, List.getElem_cons_zero]; go_simp; first | done | (with_reducible rfl)
  simp only [List.getElem_toArray, List.getElem_cons_succ, List.getElem_cons_zero]
  simp only [Act.put, List.setIfInBounds_toArray, List.set_cons_zero, List.set_cons_succ]
  refine wpAnyH_take (i := 27) (v := ?_) rfl (by kernel_rfl) (by kernel_rfl) (by kernel_rfl) (fun _ _ _ h => h) (Or.inl ⟨by rfl, ?_⟩) hS ?_
  rotate_left
  · intro W hW; obtain ⟨s3, s4, s5⟩ := hW; simp only [List.getElem_toArray, List.getElem_cons_succ, List.getElem_cons_zero]; go_simp; first | done | (with_reducible rfl)
  simp only [List.getElem_toArray, List.getElem_cons_succ, List.getElem_cons_zero]
  simp only [Act.put, List.setIfInBounds_toArray, List.set_cons_zero, List.set_cons_succ]
  refine wpAnyH_take (i := 28) (v := ?_) rfl (by kernel_rfl) (by kernel_rfl) (by kernel_rfl) (fun _ _ _ h => h) (Or.inl ⟨by rfl, ?_⟩) hS ?_
  rotate_left
  · intro W hW; obtain ⟨s3, s4, s5⟩ := hW; simp only [List.getElem_toArray, List.getElem_cons_succ, List.getElem_cons_zero]; go_simp; first | done | (with_reducible rfl)
  simp only [List.getElem_toArray, List.getElem_cons_succ, List.getElem_cons_zero]
  simp only [Act.put, List.setIfInBounds_toArray, List.set_cons_zero, List.set_cons_succ]
  refine wpAnyH_take (i := 29) (v := ?_) rfl (by kernel_rfl) (by kernel_rfl) (by kernel_rfl) (fun _ _ _ h => h) (Or.inl ⟨by rfl, ?_⟩) hS ?_
  rotate_left
  · intro W hW; obtain ⟨s3, s4, s5⟩ := hW; simp only [List.getElem_toArray, List.getElem_cons_succ, List.getElem_cons_zero]; go_simp; first | done | (with_reducible rfl)
  simp only [List.getElem_toArray, List.getElem_cons_succ, List.getElem_cons_zero]
  simp only [Act.put, List.setIfInBounds_toArray, List.set_cons_zero, List.set_cons_succ]
  refine wpAnyH_ready (rs := [4, 30]) (by kernel_rfl) (by simp) ?_
  refine AllReadyH.cons rfl (fun K hK => ?_) (AllReadyH.cons rfl (fun K hK => ?_) AllReadyH.nil)
  · simp only [List.getElem_toArray, List.getElem_cons_succ, List.getElem_cons_zero]
    go_simp
    refine hK.out _ _ hS (fun _ => ?_)
    clear hK
    refine wpAnyH_ready (rs := [30]) (by kernel_rfl) (by simp) ?_
    refine AllReadyH.cons rfl (fun K hK => ?_) AllReadyH.nil
    simp only [List.getElem_toArray, List.getElem_cons_succ, List.getElem_cons_zero]
    go_simp
    refine hK.out _ _ (unhide HS1) (fun _ => ?_)
    clear hK
    refine wpAnyH_ready (rs := [31]) (by kernel_rfl) (by simp) ?_
    refine AllReadyH.cons rfl (fun K hK => ?_) AllReadyH.nil
    refine step_append_lies _ (by rfl) (.tmp 10) (.tmp 36) 52 (by rfl) base 56 i0 _ 3 40 Tryz.underlying52 (unhide HI) (unhide HZ).1 (unhide HZ).2.1 (unhide HZ).2.2 rfl (by decide) _ acc.length (cellsTk acc) (by rfl) ((unhide HO).alloc _).drew ⟨w.heap.size, 0, none⟩ 1 1 (cellsTk [⟨(kind : Int), s.extract gap start, s.extract start q⟩]) (by rfl) rfl (fun j u hj => new_newsT w ⟨(kind : Int), s.extract gap start, s.extract start q⟩ j u hj) (cellsTk_one' _) (by decide) (by unfold maxLen; omega) (by omega) (by simp; omega) _ rfl ?_
    intro g4 c4' w4 hown4 hgrow4 hor4 hlt4
    have hfar := fun o => (hgrow4.cell_far ⟨p, o, none⟩ (by simp; omega) (fun e => (unhide HN) e.symm)).trans ((below1 w (.cells #[.int .i64 (kind : Int), .string (s.extract gap start), .string (s.extract start q)] 56)).cell (p := ⟨p, o, none⟩) hp)
    have f6 := fun o => (hgrow4.frozen_far ⟨p, o, none⟩ (by simp; omega) (fun e => (unhide HN) e.symm)).trans (((below1 w (.cells #[.int .i64 (kind : Int), .string (s.extract gap start), .string (s.extract start q)] 56)).frozen (p := ⟨p, o, none⟩) hp).trans (fz o))
    have q3 := (hfar 3).trans c3
    have q4 := (hfar 4).trans c4
    have q5 := (hfar 5).trans c5
    have q6 := (hfar 6).trans c6
    have HF := hide hfar
    have HG4 := hide hgrow4
    have HO4 := hide hown4
    have hg4p : ¬ g4 = p := fun e => by
      subst e
      rcases hor4 with h | h
      · exact (unhide HN) h
      · simp at h; omega
    clear hfar hgrow4 hown4 hor4
    refine hK.out _ _ ⟨q3, q4, q5⟩ (fun hS4 => ?_)
    clear hK
    simp only [List.getElem_toArray, List.getElem_cons_succ, List.getElem_cons_zero]
    simp only [Act.put, List.setIfInBounds_toArray, List.set_cons_zero, List.set_cons_succ]
    refine wpAnyH_take (i := 32) (v := ?_) rfl (by kernel_rfl) (by kernel_rfl) (by kernel_rfl) (fun _ _ _ h => h) (Or.inl ⟨by rfl, ?_⟩) hS4 ?_
    rotate_left
    · intro W hW; obtain ⟨s3, s4, s5⟩ := hW; simp only [List.getElem_toArray, List.getElem_cons_succ, List.getElem_cons_zero]; go_simp; first | done | (with_reducible rfl)
    simp only [List.getElem_toArray, List.getElem_cons_succ, List.getElem_cons_zero]
    simp only [Act.put, List.setIfInBounds_toArray, List.set_cons_zero, List.set_cons_succ]
    refine wpAnyH_take (i := 33) (v := ?_) rfl (by kernel_rfl) (by kernel_rfl) (by kernel_rfl) (fun _ _ _ h => h) (Or.inl ⟨by rfl, ?_⟩) hS4 ?_
    rotate_left
    · intro W hW; obtain ⟨s3, s4, s5⟩ := hW; simp only [List.getElem_toArray, List.getElem_cons_succ, List.getElem_cons_zero]; go_simp; first | done | (with_reducible rfl)
    simp only [List.getElem_toArray, List.getElem_cons_succ, List.getElem_cons_zero]
    simp only [Act.put, List.setIfInBounds_toArray, List.set_cons_zero, List.set_cons_succ]
    refine wpAnyH_ready (rs := [34]) (by kernel_rfl) (by simp) ?_
    refine AllReadyH.cons rfl (fun K hK => ?_) AllReadyH.nil
    simp only [List.getElem_toArray, List.getElem_cons_succ, List.getElem_cons_zero]
    go_simp
    refine hK.out _ _ ⟨by rw [World.cell?_setCell_other _ _ _ _ (by simp)]; exact q3, by rw [World.cell?_setCell_other _ _ _ _ (by simp)]; exact q4, by rw [World.cell?_setCell_other _ _ _ _ (by simp)]; exact q5⟩ (fun hS5 => ?_)
    clear hK
    refine wpAnyH_done (by kernel_rfl) ?_ _
    have r4 : (w4.setCell ⟨p, 6, none⟩ (.slice (some ⟨g4, 0, none⟩) (acc.length + 1) c4')).cell? ⟨p, 4, none⟩ = some (.int .i64 (gap : Int)) := hS5.2.1
    have r5 : (w4.setCell ⟨p, 6, none⟩ (.slice (some ⟨g4, 0, none⟩) (acc.length + 1) c4')).cell? ⟨p, 5, none⟩ = some (.int .i64 (start : Int)) := hS5.2.2
    clear hS4 hS5
    go_wp2
    go_end0
    refine ⟨rfl, g4, c4', ?_⟩
    rw [cellsTk_append]
    exact fin_close (unhide HC) (unhide HF) q3 q4 q5 q6 f6 (unhide HO4) (unhide HG4) hg4p
  · simp only [List.getElem_toArray, List.getElem_cons_succ, List.getElem_cons_zero]
    go_simp
    refine hK.out _ _ (unhide HS1) (fun _ => ?_)
    clear hK
    refine wpAnyH_ready (rs := [4]) (by kernel_rfl) (by simp) ?_
    refine AllReadyH.cons rfl (fun K hK => ?_) AllReadyH.nil
    simp only [List.getElem_toArray, List.getElem_cons_succ, List.getElem_cons_zero]
    go_simp
    refine hK.out _ _ (unhide HS1) (fun _ => ?_)
    clear hK
    refine wpAnyH_ready (rs := [31]) (by kernel_rfl) (by simp) ?_
    refine AllReadyH.cons rfl (fun K hK => ?_) AllReadyH.nil
    refine step_append_lies _ (by rfl) (.tmp 10) (.tmp 36) 52 (by rfl) base 56 i0 _ 3 40 Tryz.underlying52 (unhide HI) (unhide HZ).1 (unhide HZ).2.1 (unhide HZ).2.2 rfl (by decide) _ acc.length (cellsTk acc) (by rfl) ((unhide HO).alloc _).drew ⟨w.heap.size, 0, none⟩ 1 1 (cellsTk [⟨(kind : Int), s.extract gap start, s.extract start q⟩]) (by rfl) rfl (fun j u hj => new_newsT w ⟨(kind : Int), s.extract gap start, s.extract start q⟩ j u hj) (cellsTk_one' _) (by decide) (by unfold maxLen; omega) (by omega) (by simp; omega) _ rfl ?_
    intro g4 c4' w4 hown4 hgrow4 hor4 hlt4
    have hfar := fun o => (hgrow4.cell_far ⟨p, o, none⟩ (by simp; omega) (fun e => (unhide HN) e.symm)).trans ((below1 w (.cells #[.int .i64 (kind : Int), .string (s.extract gap start), .string (s.extract start q)] 56)).cell (p := ⟨p, o, none⟩) hp)
    have f6 := fun o => (hgrow4.frozen_far ⟨p, o, none⟩ (by simp; omega) (fun e => (unhide HN) e.symm)).trans (((below1 w (.cells #[.int .i64 (kind : Int), .string (s.extract gap start), .string (s.extract start q)] 56)).frozen (p := ⟨p, o, none⟩) hp).trans (fz o))
    have q3 := (hfar 3).trans c3
    have q4 := (hfar 4).trans c4
    have q5 := (hfar 5).trans c5
    have q6 := (hfar 6).trans c6
    have HF := hide hfar
    have HG4 := hide hgrow4
    have HO4 := hide hown4
    have hg4p : ¬ g4 = p := fun e => by
      subst e
      rcases hor4 with h | h
      · exact (unhide HN) h
      · simp at h; omega
    clear hfar hgrow4 hown4 hor4
    refine hK.out _ _ ⟨q3, q4, q5⟩ (fun hS4 => ?_)
    clear hK
    simp only [List.getElem_toArray, List.getElem_cons_succ, List.getElem_cons_zero]
    simp only [Act.put, List.setIfInBounds_toArray, List.set_cons_zero, List.set_cons_succ]
    refine wpAnyH_take (i := 32) (v := ?_) rfl (by kernel_rfl) (by kernel_rfl) (by kernel_rfl) (fun _ _ _ h => h) (Or.inl ⟨by rfl, ?_⟩) hS4 ?_
    rotate_left
    · intro W hW; obtain ⟨s3, s4, s5⟩ := hW; simp only [List.getElem_toArray, List.getElem_cons_succ, List.getElem_cons_zero]; go_simp; first | done | (with_reducible rfl)
    simp only [List.getElem_toArray, List.getElem_cons_succ, List.getElem_cons_zero]
    simp only [Act.put, List.setIfInBounds_toArray, List.set_cons_zero, List.set_cons_succ]
    refine wpAnyH_take (i := 33) (v := ?_) rfl (by kernel_rfl) (by kernel_rfl) (by kernel_rfl) (fun _ _ _ h => h) (Or.inl ⟨by rfl, ?_⟩) hS4 ?_
    rotate_left
    · intro W hW; obtain ⟨s3, s4, s5⟩ := hW; simp only [List.getElem_toArray, List.getElem_cons_succ, List.getElem_cons_zero]; go_simp; first | done | (with_reducible rfl)
    simp only [List.getElem_toArray, List.getElem_cons_succ, List.getElem_cons_zero]
    simp only [Act.put, List.setIfInBounds_toArray, List.set_cons_zero, List.set_cons_succ]
    refine wpAnyH_ready (rs := [34]) (by kernel_rfl) (by simp) ?_
    refine AllReadyH.cons rfl (fun K hK => ?_) AllReadyH.nil
    simp only [List.getElem_toArray, List.getElem_cons_succ, List.getElem_cons_zero]
    go_simp
    refine hK.out _ _ ⟨by rw [World.cell?_setCell_other _ _ _ _ (by simp)]; exact q3, by rw [World.cell?_setCell_other _ _ _ _ (by simp)]; exact q4, by rw [World.cell?_setCell_other _ _ _ _ (by simp)]; exact q5⟩ (fun hS5 => ?_)
    clear hK
    refine wpAnyH_done (by kernel_rfl) ?_ _
    have r4 : (w4.setCell ⟨p, 6, none⟩ (.slice (some ⟨g4, 0, none⟩) (acc.length + 1) c4')).cell? ⟨p, 4, none⟩ = some (.int .i64 (gap : Int)) := hS5.2.1
    have r5 : (w4.setCell ⟨p, 6, none⟩ (.slice (some ⟨g4, 0, none⟩) (acc.length + 1) c4')).cell? ⟨p, 5, none⟩ = some (.int .i64 (start : Int)) := hS5.2.2
    clear hS4 hS5
    go_wp2
    go_end0
    refine ⟨rfl, g4, c4', ?_⟩
    rw [cellsTk_append]
    exact fin_close (unhide HC) (unhide HF) q3 q4 q5 q6 f6 (unhide HO4) (unhide HG4) hg4p
end Go.Proofs.YtokabkhnidlcnabGreat

/-
  Walks: the program's printer: one word more.
-/
namespace Go.Proofs.YtokabkhnidlcnabGreat
set_option maxRecDepth 100000
set_option linter.unusedSimpArgs false
set_option linter.unusedVariables false
open Go.RowKit Go.Maps

set_option maxHeartbeats 1000000 in
theorem blankBetween_any (a c : Int) (w : World) : Calls Tryz.prog 125 #[.int .i64 a, .int .i64 c] w fun e w' => e = .returned (.bool (blankB a c)) ∧ w' = w := by
  have hb : blankB a c = (a == 3 || c == 3 || (a == 2 && c == 2)) := by
    unfold blankB
    rw [Bool.eq_iff_iff]
    simp only [decide_eq_true_eq, Bool.or_eq_true, Bool.and_eq_true, beq_iff_eq]
    omega
  have HB := hide hb
  clear hb
  by_cases h1 : a = 3
  · have h1' : (a == 3) = true := by simpa using h1
    rw [h1'] at HB
    go_enter Tryz.func125, Tryz.ntmps125
    go_wp2
    go_ret
    exact ⟨ret_bool (by rw [unhide HB]; rfl), rfl⟩
  · have h1' : (a == 3) = false := by simpa using h1
    rw [h1'] at HB
    by_cases h2 : c = 3
    · have h2' : (c == 3) = true := by simpa using h2
      rw [h2'] at HB
      go_enter Tryz.func125, Tryz.ntmps125
      go_wp2
      go_ret
      exact ⟨ret_bool (by rw [unhide HB]; rfl), rfl⟩
    · have h2' : (c == 3) = false := by simpa using h2
      rw [h2'] at HB
      by_cases h3 : a = 2
      · have h3' : (a == 2) = true := by simpa using h3
        rw [h3'] at HB
        go_enter Tryz.func125, Tryz.ntmps125
        go_wp2
        go_ret
        exact ⟨ret_bool (by rw [unhide HB]; rfl), rfl⟩
      · have h3' : (a == 2) = false := by simpa using h3
        rw [h3'] at HB
        go_enter Tryz.func125, Tryz.ntmps125
        go_wp2
        go_ret
        exact ⟨ret_bool (by rw [unhide HB]; rfl), rfl⟩

/-- The printer in memory: its pieces, the kind of the last word. -/
structure PrAt (w : World) (b : Nat) (v : Value) (ps : List ByteArray) (last : Int) : Prop where
  c0 : w.cell? ⟨b, 0, none⟩ = some v
  c1 : w.cell? ⟨b, 1, none⟩ = some (.int .i64 last)
  fz : ∀ o, w.frozen? ⟨b, o, none⟩ = false
  row : RowS w (b + 1) v ps

theorem PrAt.ne {w : World} {b : Nat} {v : Value} {ps : List ByteArray} {last : Int} (h : PrAt w b v ps last) : v.ownBlock ≠ some b := fun e => by
  have := (h.row.lt _ e).1
  omega

theorem PrAt.below {w w' : World} {b : Nat} {v : Value} {ps : List ByteArray} {last : Int} (h : PrAt w b v ps last) (hb : Below w.heap.size w w') : PrAt w' b v ps last :=
  have hlt : b < w.heap.size := block_lt_of_cell h.c0
  ⟨(hb.cell (p := ⟨b, 0, none⟩) hlt).trans h.c0, (hb.cell (p := ⟨b, 1, none⟩) hlt).trans h.c1, fun o => (hb.frozen (p := ⟨b, o, none⟩) hlt).trans (h.fz o), h.row.below hb⟩

theorem PrAt.keep {w w2 : World} {o : Obj} {b : Nat} {v : Value} {ps : List ByteArray} {last : Int} (h : PrAt w b v ps last) (hg : (w.alloc o).grownBy w2 v.ownBlock) :
    (∀ q, w2.cell? ⟨b, q, none⟩ = w.cell? ⟨b, q, none⟩) ∧ ∀ q, w2.frozen? ⟨b, q, none⟩ = w.frozen? ⟨b, q, none⟩ := by
  have hlt : b < w.heap.size := block_lt_of_cell h.c0
  have hbk : w2.heap[b]? = (w.alloc o).heap[b]? := hg.block b (by simp; omega) (fun e => h.ne e.symm)
  exact ⟨fun q => (World.cell?_of_block (w := w.alloc o) hbk).trans ((below1 w o).cell (p := ⟨b, q, none⟩) hlt), fun q => (World.frozen?_of_block (w := w.alloc o) hbk).trans ((below1 w o).frozen (p := ⟨b, q, none⟩) hlt)⟩

/-- Its pieces have turned, and lie in it. -/
theorem PrAt.put {w w2 : World} {o : Obj} {b : Nat} {v v2 : Value} {ps ps2 : List ByteArray} {last : Int} (h : PrAt w b v ps last) (hg : (w.alloc o).grownBy w2 v.ownBlock) (hr : RowS w2 (b + 1) v2 ps2) :
    PrAt (w2.setCell ⟨b, 0, none⟩ v2) b v2 ps2 last ∧ KeptS w (w2.setCell ⟨b, 0, none⟩ v2) b v.ownBlock := by
  have hlt : b < w.heap.size := block_lt_of_cell h.c0
  have hbk : w2.heap[b]? = (w.alloc o).heap[b]? := hg.block b (by simp; omega) (fun e => h.ne e.symm)
  have e : ∀ q, w2.cell? ⟨b, q, none⟩ = w.cell? ⟨b, q, none⟩ := fun q => (World.cell?_of_block (w := w.alloc o) hbk).trans ((below1 w o).cell (p := ⟨b, q, none⟩) hlt)
  have f : ∀ q, w2.frozen? ⟨b, q, none⟩ = w.frozen? ⟨b, q, none⟩ := fun q => (World.frozen?_of_block (w := w.alloc o) hbk).trans ((below1 w o).frozen (p := ⟨b, q, none⟩) hlt)
  refine ⟨⟨World.cell?_setCell_same _ _ _ ((e 0).trans h.c0), (World.cell?_setCell_other _ _ _ _ (by simp)).trans ((e 1).trans h.c1), fun q => (World.frozen?_setCell _ _ _ _).trans ((f q).trans (h.fz q)), hr.grown (set1_grown _ b 0 _) (fun k hk => fun x => ?_)⟩, ?_⟩
  · injection x with x
    have := (hr.lt k hk).1
    omega
  · have e1 := hg.size
    simp at e1
    refine ⟨hg.os, hg.tape, hg.output, by simp [World.setCell]; omega, fun i hi h1 h2 => ?_⟩
    rw [Below.heap_setCell _ _ _ _ (by simpa using h1)]
    exact (hg.block i (by simp; omega) h2).trans ((below1 w o).block i hi)

theorem PrAt.last {w : World} {b : Nat} {v : Value} {ps : List ByteArray} {last : Int} (h : PrAt w b v ps last) (k : Int) : PrAt (w.setCell ⟨b, 1, none⟩ (.int .i64 k)) b v ps k :=
  ⟨(World.cell?_setCell_other _ _ _ _ (by simp)).trans h.c0, World.cell?_setCell_same _ _ _ h.c1, fun q => (World.frozen?_setCell _ _ _ _).trans (h.fz q), h.row.grown (set1_grown _ b 1 _) (fun k hk => fun x => by
    injection x with x
    have := (h.row.lt k hk).1
    omega)⟩

theorem KeptS.refl (w : World) (p : Nat) (row : Option Nat) : KeptS w w p row := ⟨rfl, rfl, rfl, Nat.le_refl _, fun _ _ _ _ => rfl⟩
theorem KeptS.trans {w w1 w2 : World} {p : Nat} {row row' : Option Nat} (h : KeptS w w1 p row) (h2 : KeptS w1 w2 p row') (hr : row' = row ∨ ∃ k, row' = some k ∧ w.heap.size ≤ k) : KeptS w w2 p row :=
  ⟨h2.os.trans h.os, h2.tape.trans h.tape, h2.output.trans h.output, Nat.le_trans h.size h2.size, fun i hi h1 hne => (h2.block i (Nat.lt_of_lt_of_le hi h.size) h1 (fun e => by
    rcases hr with rfl | ⟨k, rfl, hk⟩
    · exact hne e
    · injection e with e; omega)).trans (h.block i hi h1 hne)⟩
theorem KeptS.of_below {w w' : World} {p : Nat} {row : Option Nat} (h : Below w.heap.size w w') : KeptS w w' p row := ⟨h.os, h.tape, h.output, h.size, fun i hi _ _ => h.block i hi⟩
theorem KeptS.below {w w1 w2 : World} {p : Nat} {row : Option Nat} (h : Below w.heap.size w w1) (h2 : KeptS w1 w2 p row) : KeptS w w2 p row :=
  ⟨h2.os.trans h.os, h2.tape.trans h.tape, h2.output.trans h.output, Nat.le_trans h.size h2.size, fun i hi h1 hne => (h2.block i (Nat.lt_of_lt_of_le hi h.size) h1 hne).trans (h.block i hi)⟩
theorem KeptS.set {w : World} {p o : Nat} {v : Value} {row : Option Nat} : KeptS w (w.setCell ⟨p, o, none⟩ v) p row :=
  ⟨rfl, rfl, rfl, by simp [World.setCell], fun i _ h1 _ => Below.heap_setCell _ _ _ _ (by simpa using h1)⟩
theorem KeptS.at {w w' : World} {p : Nat} {row row' : Option Nat} (h : KeptS w w' p row) (hr : row' = row ∨ ∃ k, row' = some k ∧ w.heap.size ≤ k) (r : Option Nat) (hr2 : r = row' ∨ ∃ k, r = some k ∧ w'.heap.size ≤ k) : r = row ∨ ∃ k, r = some k ∧ w.heap.size ≤ k := by
  have := h.size
  rcases hr2 with rfl | ⟨k, rfl, hk⟩
  · exact hr
  · exact Or.inr ⟨k, rfl, by omega⟩
theorem KeptS.cell {w w' : World} {p : Nat} {row : Option Nat} (h : KeptS w w' p row) {b : Nat} (hb : b < w.heap.size) (h1 : b ≠ p) (h2 : row ≠ some b) (o : Nat) : w'.cell? ⟨b, o, none⟩ = w.cell? ⟨b, o, none⟩ :=
  World.cell?_of_block (w := w) (h.block b hb h1 (fun e => h2 e.symm))

/-- What a step of the printer leaves. -/
def PrPost (w : World) (b : Nat) (v : Value) (st : List ByteArray × Int) (x : Ending) (w' : World) : Prop :=
  x = .returned (.tuple #[]) ∧ ∃ v', Hid (PrAt w' b v' st.1 st.2) ∧ Hid (KeptS w w' b v.ownBlock) ∧ Hid (v'.ownBlock = v.ownBlock ∨ ∃ k, v'.ownBlock = some k ∧ w.heap.size ≤ k)

set_option maxHeartbeats 2000000 in
theorem put_any (b : Nat) (v : Value) (ps : List ByteArray) (last kind : Int) (t : ByteArray) (w : World) (h : PrAt w b v ps last) (hl : ps.length + 2 ≤ 200000) :
    Calls Tryz.prog 87 #[.pointer (some ⟨b, 0, none⟩), .string t, .int .i64 kind] w (PrPost w b v (ps ++ ((if blankB last kind then [blk] else []) ++ [t]), kind)) := by
  obtain ⟨i0, hi0, hz0, hz1, hz2⟩ : ∃ i, Tryz.prog.info? 9 = some i ∧ i.zero = some (.string ⟨#[]⟩) ∧ i.size = 1 ∧ i.bytes = 16 := by
    obtain ⟨i, hi, hz⟩ := Option.map_eq_some_iff.1 infoStr
    simp only [Prod.mk.injEq] at hz
    exact ⟨i, hi, hz.1, hz.2.1, hz.2.2⟩
  have HI := hide hi0
  have HZ := hide (And.intro hz0 (And.intro hz1 hz2))
  clear hi0 hz0 hz1 hz2
  obtain ⟨a, c, rfl⟩ := rowS_slice h.row
  have HP := hide h
  have hlt : b < w.heap.size := block_lt_of_cell h.c0
  have c0 := h.c0
  have c1 := h.c1
  have f0 := h.fz 0
  clear h
  have last2 : ∀ (v1 : Value) (ps1 : List ByteArray) (w1 : World), Hid (PrAt w1 b v1 ps1 last) → Hid (KeptS w w1 b (Value.slice a ps.length c).ownBlock) → Hid (v1.ownBlock = (Value.slice a ps.length c).ownBlock ∨ ∃ k, v1.ownBlock = some k ∧ w.heap.size ≤ k) →
      Hid (PrAt (w1.setCell ⟨b, 1, none⟩ (.int .i64 kind)) b v1 ps1 kind) ∧ Hid (KeptS w (w1.setCell ⟨b, 1, none⟩ (.int .i64 kind)) b (Value.slice a ps.length c).ownBlock) :=
    fun v1 ps1 w1 hp hk ho => ⟨hide ((unhide hp).last kind), hide ((unhide hk).trans KeptS.set (Or.inl rfl))⟩
  have HL := hide last2
  clear last2
  obtain ⟨ps2, HS2⟩ : ∃ ps2, Hid (ps ++ ((if blankB last kind then [blk] else []) ++ [t]) = ps2) := ⟨_, hide rfl⟩
  rw [unhide HS2]
  cases hbl : blankB last kind
  · have HS3 := hide (show ps2 = ps ++ [t] by rw [← unhide HS2, hbl]; simp)
    clear HS2
    go_enter Tryz.func87, Tryz.ntmps87
    go_wp2_with fail
    refine (blankBetween_any last kind _).mono ?_
    rintro e w' ⟨rfl, hw'⟩
    have hw2 := hw'.symm
    subst hw2
    rw [hbl]
    go_wp2_with (at_builtin; go_loud (refine wpList_append_own_at _ rfl (.tmp 25) (.tmp 27) 95 rfl (b + 1) 9 i0 _ 1 16 Tryz.underlying95 (unhide HI) (unhide HZ).1 (unhide HZ).2.1 (unhide HZ).2.2 rfl (by decide) _ ps.length (cellsS ps) rfl ((unhide HP).row.below (below1 _ _)) ⟨w.heap.size, 0, none⟩ 1 1 (cellsS [t]) rfl rfl (by simpa using new_newsS w t) (cellsS_one' _) ?b1 ?b2 ?b3 ?next))
    case b1 => unfold maxLen; omega
    case b2 => omega
    case b3 => first | omega | (simp; omega)
    case next =>
      intro v4 w4 hown4 hgrow4 hnil4 hat4
      have hr4 : RowS w4 (b + 1) v4 ps2 := by
        unfold RowS
        rw [unhide HS3, cellsS_append, List.length_append]
        exact hown4
      obtain ⟨p5, k5⟩ := (unhide HP).put hgrow4 hr4
      have HA := hide (show v4.ownBlock = (Value.slice a ps.length c).ownBlock ∨ ∃ k, v4.ownBlock = some k ∧ w.heap.size ≤ k from hat4.imp id (fun h => ⟨_, h, by first | omega | (simp; omega)⟩))
      obtain ⟨a4, c4, rfl⟩ := rowS_slice hr4
      have HP5 := hide p5
      have HK5 := hide k5
      obtain ⟨HP6, HK6⟩ := (unhide HL) _ _ _ HP5 HK5 HA
      obtain ⟨qe, ge⟩ := (unhide HP).keep hgrow4
      have q0 := (qe 0).trans c0
      have q1 := (qe 1).trans c1
      have g0 := (ge 0).trans f0
      have g1 := (ge 1).trans ((unhide HP).fz 1)
      clear hown4 hgrow4 hnil4 hat4 hr4 p5 k5 c0 c1 f0 qe ge
      go_wp2_with fail
      go_end0
      exact ⟨rfl, _, HP6, HK6, HA⟩
  · obtain ⟨ps1, HS1⟩ : ∃ ps1, Hid (ps1 = ps ++ [blk]) := ⟨_, hide rfl⟩
    have hl1 : ps1.length + 1 ≤ 200000 := by rw [unhide HS1]; simp; omega
    have HS3 := hide (show ps2 = ps1 ++ [t] by rw [← unhide HS2, unhide HS1, hbl]; simp)
    clear HS2
    go_enter Tryz.func87, Tryz.ntmps87
    go_wp2_with fail
    refine (blankBetween_any last kind _).mono ?_
    rintro e w' ⟨rfl, hw'⟩
    have hw2 := hw'.symm
    subst hw2
    rw [hbl]
    go_wp2_with (at_builtin; refine wpList_append_own_at _ rfl (.tmp 16) (.tmp 17) 95 rfl (b + 1) 9 i0 _ 1 16 Tryz.underlying95 (unhide HI) (unhide HZ).1 (unhide HZ).2.1 (unhide HZ).2.2 rfl (by decide) _ ps.length (cellsS ps) rfl ((unhide HP).row.below (below1 _ _)) ⟨w.heap.size, 0, none⟩ 1 1 (cellsS [⟨#[32]⟩]) rfl rfl (by simpa using new_newsS w ⟨#[32]⟩) (cellsS_one' _) ?b1 ?b2 ?b3 ?next)
    case b1 => unfold maxLen; omega
    case b2 => omega
    case b3 => first | omega | (simp; omega)
    case next =>
      intro v4 w4 hown4 hgrow4 hnil4 hat4
      have hr4 : RowS w4 (b + 1) v4 ps1 := by
        unfold RowS
        rw [unhide HS1, cellsS_append, List.length_append]
        exact hown4
      obtain ⟨p5, k5⟩ := (unhide HP).put hgrow4 hr4
      have HA := hide (show v4.ownBlock = (Value.slice a ps.length c).ownBlock ∨ ∃ k, v4.ownBlock = some k ∧ w.heap.size ≤ k from hat4.imp id (fun h => ⟨_, h, by first | omega | (simp; omega)⟩))
      obtain ⟨a4, c4, rfl⟩ := rowS_slice hr4
      have HP5 := hide p5
      have HK5 := hide k5
      obtain ⟨qe, ge⟩ := (unhide HP).keep hgrow4
      have q0 := (qe 0).trans c0
      have q1 := (qe 1).trans c1
      have g0 := (ge 0).trans f0
      have g1 := (ge 1).trans ((unhide HP).fz 1)
      have d0 := p5.c0
      have e0 := p5.fz 0
      have hlt4 : b < (w4.setCell ⟨b, 0, none⟩ (.slice a4 ps1.length c4)).heap.size := block_lt_of_cell d0
      obtain ⟨W4, HW4⟩ : ∃ W4, Hid (W4 = w4.setCell ⟨b, 0, none⟩ (.slice a4 ps1.length c4)) := ⟨_, hide rfl⟩
      clear hown4 hgrow4 hnil4 hat4 hr4 p5 k5 c0 c1 f0 qe ge
      go_wp2_with (at_builtin; refine wpList_append_own_at _ rfl (.tmp 25) (.tmp 27) 95 rfl (b + 1) 9 i0 _ 1 16 Tryz.underlying95 (unhide HI) (unhide HZ).1 (unhide HZ).2.1 (unhide HZ).2.2 rfl (by decide) _ ps1.length (cellsS ps1) rfl ((unhide HP5).row.below (below1 _ _)) ⟨w4.heap.size, 0, none⟩ 1 1 (cellsS [t]) rfl rfl (by simpa [World.setCell] using new_newsS (w4.setCell ⟨b, 0, none⟩ (.slice a4 ps1.length c4)) t) (cellsS_one' _) ?b1 ?b2 ?b3 ?next)
      case b1 => unfold maxLen; omega
      case b2 => omega
      case b3 => first | omega | (simp at hlt4 ⊢; omega)
      case next =>
        intro v6 w6 hown6 hgrow6 hnil6 hat6
        have hr6 : RowS w6 (b + 1) v6 ps2 := by
          unfold RowS
          rw [unhide HS3, cellsS_append, List.length_append]
          exact hown6
        obtain ⟨p7, k7⟩ := (unhide HP5).put hgrow6 hr6
        have HK7 := hide ((unhide HK5).trans k7 (unhide HA))
        have HA7 := hide ((unhide HK5).at (unhide HA) v6.ownBlock (hat6.imp id (fun h => ⟨_, h, by first | omega | (simp; done) | (simp; omega)⟩)))
        obtain ⟨a6, c6, rfl⟩ := rowS_slice hr6
        have HP7 := hide p7
        obtain ⟨HP8, HK8⟩ := (unhide HL) _ _ _ HP7 HK7 HA7
        obtain ⟨qe, ge⟩ := (unhide HP5).keep hgrow6
        have r0 := (qe 0).trans d0
        have r1 := (qe 1).trans (unhide HP5).c1
        have t0 := (ge 0).trans e0
        have t1 := (ge 1).trans ((unhide HP5).fz 1)
        clear hown6 hgrow6 hnil6 hat6 hr6 p7 k7 qe ge q0 q1 g0 g1 d0 e0
        go_wp2_with fail
        go_end0
        exact ⟨rfl, _, HP8, HK8, HA7⟩
end Go.Proofs.YtokabkhnidlcnabGreat
