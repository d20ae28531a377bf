import Derived.WalkMore
import Derived.Deep.LoopGhost
import Derived.Test.YtokabkhnidlcnabGreatR08
import Derived.Test.YtokabkhnidlcnabGreatR09
import Derived.Test.YtokabkhnidlcnabGreatR13
import Derived.Test.YtokabkhnidlcnabGreatR25

/-
  Walks: the program's scanner: texts of operators.
-/
namespace Go.Proofs.YtokabkhnidlcnabGreat
set_option maxRecDepth 100000
open Go.RowKit Go.Maps

set_option maxHeartbeats 1000000 in
theorem hasText_any (bo bs n : Nat) (xs : List OpR) (t : ByteArray) (w : World) (hi : Idx w bo bs xs n) (hn : n = xs.length) (hk : Kinds xs) (ht : t.size ≤ maxLen) :
    Calls Tryz.prog 110 #[.agg #[.map (some bo), .map (some bs)], .string t] w fun e w' => RetB e (opT xs t) ∧ Below w.heap.size w w' := by
  subst hn
  obtain ⟨⟨D, hown, hD⟩, _, _⟩ := hi
  have H1 := hide (hD _ _ ht wfK1).1
  have H2 := hide (hD _ _ ht wfK2).1
  have H3 := hide (hD _ _ ht wfK3).1
  have HK := hide (opT_kinds (t := t) hk)
  have HO := hide hown
  clear hD hown hk
  go_enter Tryz.func110, Tryz.ntmps110
  go_wp2_with fail
  refine (has_any bo bs xs.length D t 1 _ ((unhide HO).alloc _) ht (by decide)).mono ?_
  rintro e w1 ⟨rfl, hb1⟩
  have bel1 : Below w.heap.size w w1 := (below1 _ _).trans (hb1.mono (by simp))
  have z1 : w.heap.size < w1.heap.size := by have := hb1.size; simp at this; omega
  have c0 : w1.cell? ⟨w.heap.size, 0, none⟩ = some (.map (some bo)) := by rw [hb1.cell (p := ⟨w.heap.size, 0, none⟩) (by simp)]; simp [go_sem]
  have c1 : w1.cell? ⟨w.heap.size, 1, none⟩ = some (.map (some bs)) := by rw [hb1.cell (p := ⟨w.heap.size, 1, none⟩) (by simp)]; simp [go_sem]
  have HO1 := hide (((unhide HO).alloc (.cells #[.map (some bo), .map (some bs)] 70)).kept (w' := w1) (row := none) ⟨hb1.os, hb1.tape, hb1.output, hb1.size, fun i hi _ => hb1.block i hi⟩ (by simp))
  clear HO hb1
  cases h1 : Maps.has D (klO t 1)
  case true =>
    have G1 := hide h1
    go_wp2_with fail
    go_ret
    exact ⟨⟨true, rfl, ⟨fun _ => (unhide HK).2 (Or.inl ((unhide H1).1 (unhide G1))), fun _ => rfl⟩⟩, bel1⟩
  have G1 := hide h1
  go_wp2_with fail
  refine (has_any bo bs xs.length D t 2 _ (unhide HO1) ht (by decide)).mono ?_
  rintro e w2 ⟨rfl, hb2⟩
  have bel2 := bel1.trans (hb2.mono bel1.size)
  have d0 : w2.cell? ⟨w.heap.size, 0, none⟩ = some (.map (some bo)) := (hb2.cell (p := ⟨w.heap.size, 0, none⟩) z1).trans c0
  have d1 : w2.cell? ⟨w.heap.size, 1, none⟩ = some (.map (some bs)) := (hb2.cell (p := ⟨w.heap.size, 1, none⟩) z1).trans c1
  have HO2 := hide ((unhide HO1).kept (w' := w2) (row := none) ⟨hb2.os, hb2.tape, hb2.output, hb2.size, fun i hi _ => hb2.block i hi⟩ (by simp))
  clear HO1 hb2 c0 c1
  cases h2 : Maps.has D (klO t 2)
  case true =>
    have G2 := hide h2
    go_wp2_with fail
    go_ret
    exact ⟨⟨true, rfl, ⟨fun _ => (unhide HK).2 (Or.inr (Or.inl ((unhide H2).1 (unhide G2)))), fun _ => rfl⟩⟩, bel2⟩
  have G2 := hide h2
  go_wp2_with fail
  refine (has_any bo bs xs.length D t 3 _ (unhide HO2) ht (by decide)).mono ?_
  rintro e w3 ⟨rfl, hb3⟩
  have bel3 := bel2.trans (hb3.mono bel2.size)
  clear h1 h2
  go_wp2_with fail
  go_ret
  refine ⟨⟨_, rfl, ?_⟩, bel3⟩
  unfold Says
  rw [unhide HK, ← unhide H1, ← unhide H2, ← unhide H3, unhide G1, unhide G2]
  simp
end Go.Proofs.YtokabkhnidlcnabGreat

/-
  Walks: the program's fitter.
-/
namespace Go.Proofs.YtokabkhnidlcnabGreat
set_option maxRecDepth 100000
set_option linter.unusedSimpArgs false
open Go.RowKit Go.Maps

/-- A fitter in memory. -/
structure Ft (w : World) (p bo bs : Nat) (bh : Bool) (op : Nat) : Prop where
  c0 : w.cell? ⟨p, 0, none⟩ = some (.map (some bo))
  c1 : w.cell? ⟨p, 1, none⟩ = some (.map (some bs))
  c2 : w.cell? ⟨p, 2, none⟩ = some (.bool bh)
  c3 : w.cell? ⟨p, 3, none⟩ = some (.int .i64 (op : Int))
  fz : ∀ o, w.frozen? ⟨p, o, none⟩ = false

theorem has_says (bo bs n : Nat) (xs : List OpR) (t : ByteArray) (kd : Int) (w : World) (hi : Idx w bo bs xs n) (hn : n = xs.length) (ht : t.size ≤ maxLen) (hk : (Lit.int .i64 kd).wf = true) :
    Calls Tryz.prog 104 #[.agg #[.map (some bo), .map (some bs)], .string t, .int .i64 kd] w fun e w' => e = .returned (.bool (hasB xs t kd)) ∧ Below w.heap.size w w' := by
  subst hn
  obtain ⟨⟨D, hown, hD⟩, _, _⟩ := hi
  refine (has_any bo bs xs.length D t kd w hown ht hk).mono ?_
  rintro e w' ⟨rfl, hb⟩
  refine ⟨?_, hb⟩
  have h := (hD t kd ht hk).1
  have : Maps.has D (klO t kd) = hasB xs t kd := by
    rw [Bool.eq_iff_iff, h, hasB_iff]
    rfl
  rw [this]

theorem Ft.kept {w w' : World} {p bo bs op : Nat} {bh : Bool} (h : Ft w p bo bs bh op) (hb : Below w.heap.size w w') : Ft w' p bo bs bh op := by
  have hp : p < w.heap.size := block_lt_of_cell h.c0
  have e := fun o => hb.cell (p := ⟨p, o, none⟩) hp
  exact ⟨(e _).trans h.c0, (e _).trans h.c1, (e _).trans h.c2, (e _).trans h.c3, fun o => (hb.frozen (p := ⟨p, o, none⟩) hp).trans (h.fz o)⟩
theorem Ft.set2 {w : World} {p bo bs op : Nat} {bh : Bool} (h : Ft w p bo bs bh op) (b' : Bool) : Ft (w.setCell ⟨p, 2, none⟩ (.bool b')) p bo bs b' op :=
  ⟨(World.cell?_setCell_other _ _ _ _ (by simp)).trans h.c0, (World.cell?_setCell_other _ _ _ _ (by simp)).trans h.c1, World.cell?_setCell_same _ _ _ h.c2, (World.cell?_setCell_other _ _ _ _ (by simp)).trans h.c3, fun o => (World.frozen?_setCell _ _ _ _).trans (h.fz o)⟩
theorem Ft.set3 {w : World} {p bo bs op : Nat} {bh : Bool} (h : Ft w p bo bs bh op) (op' : Nat) (n : Int) (hn : n = (op' : Int)) : Ft (w.setCell ⟨p, 3, none⟩ (.int .i64 n)) p bo bs bh op' := by
  subst hn
  exact ⟨(World.cell?_setCell_other _ _ _ _ (by simp)).trans h.c0, (World.cell?_setCell_other _ _ _ _ (by simp)).trans h.c1, (World.cell?_setCell_other _ _ _ _ (by simp)).trans h.c2, World.cell?_setCell_same _ _ _ h.c3, fun o => (World.frozen?_setCell _ _ _ _).trans (h.fz o)⟩
theorem kept_set (w : World) (p o : Nat) (v : Value) : Kept1 w (w.setCell ⟨p, o, none⟩ v) p := kept1_setCells [v] o w

/-- What a step leaves. -/
def Stepped (xs : List OpR) (t : TokR) (bh : Bool) (op : Nat) (role : Int) (w w' : World) (p bo bs : Nat) : Prop :=
  (0 ≤ role → Ft w' p bo bs (bhOf xs t bh) (opOf t op)) ∧ Kept1 w w' p

set_option maxHeartbeats 4000000 in
theorem stepBefore_any (p bo bs op : Nat) (last : Bool) (xs : List OpR) (t : TokR) (w : World) (h : Ft w p bo bs false op) (hi : Idx w bo bs xs xs.length) (ht : t.t.size ≤ maxLen) (hop : op ≤ 1048576) :
    Calls Tryz.prog 136 #[.pointer (some ⟨p, 0, none⟩), .agg #[.int .i64 t.k, .string t.g, .string t.t]] w fun e w' => e = .returned (.int .i64 (roleOf xs last t false op)) ∧ Stepped xs t false op (roleOf xs last t false op) w w' p bo bs := by
  have HI := hide (hi.kept (below1 w (.cells #[.int .i64 t.k, .string t.g, .string t.t] 56)))
  have HF := hide h
  clear hi
  obtain ⟨c0, c1, c2, c3, fz⟩ := h
  have f2 := fz 2
  have f3 := fz 3
  have hp : p < w.heap.size := block_lt_of_cell c0
  have hk : t.k = 1 ∨ t.k = 2 ∨ t.k = 4 ∨ t.k = 3 ∨ (t.k ≠ 1 ∧ t.k ≠ 2 ∧ t.k ≠ 4 ∧ t.k ≠ 3) := by omega
  rcases hk with hk | hk | hk | hk | hk
  · have hk' := hide hk
    have g1 : (t.k == 1) = true := by simp; omega
    have g2 : (t.k == 2) = false := by simp; omega
    have g4 : (t.k == 4) = false := by simp; omega
    have g3 : (t.k == 3) = false := by simp; omega
    clear hk
    go_enter Tryz.func136, Tryz.ntmps136
    go_wp2_with fail
    go_ret
    refine ⟨ret_int (by simp [roleOf, unhide hk']), fun _ => ?_, (kept_set w p 2 _).trans (Kept1.of_below (below1 _ _))⟩
    rw [show bhOf xs t false = true by simp [bhOf, unhide hk'], show opOf t op = op by simp [opOf, unhide hk']]
    exact ((unhide HF).set2 true).kept (below1 _ _)
  · have hk' := hide hk
    have g1 : (t.k == 1) = false := by simp; omega
    have g2 : (t.k == 2) = true := by simp; omega
    have g4 : (t.k == 4) = false := by simp; omega
    have g3 : (t.k == 3) = false := by simp; omega
    clear hk
    go_enter Tryz.func136, Tryz.ntmps136
    go_wp2_with fail
    go_ret
    refine ⟨ret_int (by simp [roleOf, unhide hk']), fun _ => ?_, (kept_set w p 2 _).trans (Kept1.of_below (below1 _ _))⟩
    rw [show bhOf xs t false = true by simp [bhOf, unhide hk'], show opOf t op = op by simp [opOf, unhide hk']]
    exact ((unhide HF).set2 true).kept (below1 _ _)
  · have hk' := hide hk
    have g1 : (t.k == 1) = false := by simp; omega
    have g2 : (t.k == 2) = false := by simp; omega
    have g4 : (t.k == 4) = true := by simp; omega
    have g3 : (t.k == 3) = false := by simp; omega
    clear hk
    go_enter Tryz.func136, Tryz.ntmps136
    go_wp2_with fail
    go_ret
    refine ⟨ret_int (by simp [roleOf, unhide hk']), fun _ => ?_, (kept_set w p 3 _).trans (Kept1.of_below (below1 _ _))⟩
    rw [show bhOf xs t false = false by simp [bhOf, unhide hk'], show opOf t op = op + 1 by simp [opOf, unhide hk']]
    exact ((unhide HF).set3 (op + 1) _ (by omega)).kept (below1 _ _)
  · have hk' := hide hk
    have g1 : (t.k == 1) = false := by simp; omega
    have g2 : (t.k == 2) = false := by simp; omega
    have g4 : (t.k == 4) = false := by simp; omega
    have g3 : (t.k == 3) = true := by simp; omega
    clear hk
    have d0 := ((below1 w (.cells #[.int .i64 t.k, .string t.g, .string t.t] 56)).cell (p := ⟨p, 0, none⟩) hp).trans c0
    have d1 := ((below1 w (.cells #[.int .i64 t.k, .string t.g, .string t.t] 56)).cell (p := ⟨p, 1, none⟩) hp).trans c1
    have e2 : (w.alloc (.cells #[.int .i64 t.k, .string t.g, .string t.t] 56)).cell? ⟨w.heap.size, 2, none⟩ = some (.string t.t) := by simp [go_sem]
    have hz : p < (w.alloc (.cells #[.int .i64 t.k, .string t.g, .string t.t] 56)).heap.size := by simp; omega
    have hz' : w.heap.size < (w.alloc (.cells #[.int .i64 t.k, .string t.g, .string t.t] 56)).heap.size := by simp
    go_enter Tryz.func136, Tryz.ntmps136
    go_wp2_with fail
    go_region_held (fun w' => w'.cell? ⟨p, 0, none⟩ = some (.map (some bo)) ∧ w'.cell? ⟨p, 1, none⟩ = some (.map (some bs)) ∧ w'.cell? ⟨w.heap.size, 2, none⟩ = some (.string t.t)) (go_keep) (first | (go_at_call 104; refine (has_says bo bs xs.length xs t.t 1 _ ((unhide HI).kept (Below.refl _ _).drew) rfl ht (by decide)).mono ?_; rintro e w2 ⟨rfl, hb2⟩; have q0 := (hb2.cell (p := ⟨p, 0, none⟩) hz).trans (show (w.alloc (.cells #[.int .i64 t.k, .string t.g, .string t.t] 56)).drew.cell? ⟨p, 0, none⟩ = _ from d0); have q1 := (hb2.cell (p := ⟨p, 1, none⟩) hz).trans (show (w.alloc (.cells #[.int .i64 t.k, .string t.g, .string t.t] 56)).drew.cell? ⟨p, 1, none⟩ = _ from d1); have q2 := (hb2.cell (p := ⟨w.heap.size, 2, none⟩) hz').trans (show (w.alloc (.cells #[.int .i64 t.k, .string t.g, .string t.t] 56)).drew.cell? ⟨w.heap.size, 2, none⟩ = _ from e2); have HB2 := hide hb2; clear hb2))
    have hbel : Below w.heap.size w w2 := (below1 w (.cells #[.int .i64 t.k, .string t.g, .string t.t] 56)).trans (((Below.refl _ _).drew.trans (unhide HB2)).mono (Nat.le_of_lt hz'))
    cases hh : hasB xs t.t 1
    · have HH := hide hh
      go_wp2_with fail
      go_ret
      have hr : roleOf xs last t false op = -1 := by simp [roleOf, unhide hk', unhide HH]
      exact ⟨ret_int hr.symm, fun h0 => absurd h0 (by rw [hr]; decide), Kept1.of_below hbel⟩
    · have HH := hide hh
      go_wp2_with fail
      go_ret
      refine ⟨ret_int (by simp [roleOf, unhide hk', unhide HH]), fun _ => ?_, Kept1.of_below hbel⟩
      rw [show bhOf xs t false = false by simp [bhOf, unhide hk'], show opOf t op = op by simp [opOf, unhide hk']]
      exact (unhide HF).kept hbel
  · have hk' := hide hk
    have g1 : (t.k == 1) = false := by simp; omega
    have g2 : (t.k == 2) = false := by simp; omega
    have g4 : (t.k == 4) = false := by simp; omega
    have g3 : (t.k == 3) = false := by simp; omega
    clear hk
    go_enter Tryz.func136, Tryz.ntmps136
    go_wp2_with fail
    go_ret
    have hr : roleOf xs last t false op = -1 := by have := unhide hk'; simp [roleOf, this]
    exact ⟨ret_int hr.symm, fun h0 => absurd h0 (by rw [hr]; decide), Kept1.of_below (below1 _ _)⟩

/-- The role of an operator behind an operand. -/
def opRole (xs : List OpR) (s : ByteArray) : Int := if hasB xs s 2 = true then 2 else if hasB xs s 3 = true then 3 else -1

set_option maxHeartbeats 4000000 in
theorem stepOp_any (p bo bs op : Nat) (xs : List OpR) (s : ByteArray) (w : World) (h : Ft w p bo bs true op) (hi : Idx w bo bs xs xs.length) (ht : s.size ≤ maxLen) :
    Calls Tryz.prog 148 #[.pointer (some ⟨p, 0, none⟩), .string s] w fun e w' => e = .returned (.int .i64 (opRole xs s)) ∧ Hid (Ft w' p bo bs (!hasB xs s 2) op) ∧ Hid (Kept1 w w' p) := by
  have HI := hide hi
  have HF := hide h
  clear hi
  obtain ⟨c0, c1, c2, c3, fz⟩ := h
  have hp : p < w.heap.size := block_lt_of_cell c0
  go_enter Tryz.func148, Tryz.ntmps148
  go_wp2_with fail
  refine (has_says bo bs xs.length xs s 2 _ (unhide HI) rfl ht (by decide)).mono ?_
  rintro e w1 ⟨rfl, hb1⟩
  have HF1 := hide ((unhide HF).kept hb1)
  have HI1 := hide ((unhide HI).kept hb1)
  have HB1 := hide hb1
  have d0 := (unhide HF1).c0
  have d1 := (unhide HF1).c1
  have d2 := (unhide HF1).c2
  have g2 := (unhide HF1).fz 2
  clear hb1 HF HI
  cases hh : hasB xs s 2
  · have HH := hide hh
    go_wp2_with fail
    refine (has_says bo bs xs.length xs s 3 _ (unhide HI1) rfl ht (by decide)).mono ?_
    rintro e w2 ⟨rfl, hb2⟩
    have HF2 := hide ((unhide HF1).kept hb2)
    have bel2 := (unhide HB1).trans (hb2.mono (unhide HB1).size)
    cases hh3 : hasB xs s 3
    · have HH3 := hide hh3
      go_wp2_with fail
      go_ret
      exact ⟨ret_int (by simp [opRole, unhide HH, unhide HH3]), by simpa [unhide HH] using HF2, hide (Kept1.of_below bel2)⟩
    · have HH3 := hide hh3
      go_wp2_with fail
      go_ret
      exact ⟨ret_int (by simp [opRole, unhide HH, unhide HH3]), by simpa [unhide HH] using HF2, hide (Kept1.of_below bel2)⟩
  · have HH := hide hh
    go_wp2_with fail
    go_ret
    exact ⟨ret_int (by simp [opRole, unhide HH]), hide (by rw [unhide HH]; exact (unhide HF1).set2 false), hide ((Kept1.of_below (unhide HB1)).trans (kept_set _ p 2 _))⟩

set_option maxHeartbeats 4000000 in
theorem stepBehind_any (p bo bs op : Nat) (last : Bool) (xs : List OpR) (t : TokR) (w : World) (h : Ft w p bo bs true op) (hi : Idx w bo bs xs xs.length) (ht : t.t.size ≤ maxLen) (hop : op ≤ 1048576) :
    Calls Tryz.prog 135 #[.pointer (some ⟨p, 0, none⟩), .agg #[.int .i64 t.k, .string t.g, .string t.t], .bool last] w fun e w' => e = .returned (.int .i64 (roleOf xs last t true op)) ∧ Stepped xs t true op (roleOf xs last t true op) w w' p bo bs := by
  have HI := hide (hi.kept (below1 w (.cells #[.int .i64 t.k, .string t.g, .string t.t] 56)))
  have HF := hide (h.kept (below1 w (.cells #[.int .i64 t.k, .string t.g, .string t.t] 56)))
  clear hi
  have hp : p < w.heap.size := block_lt_of_cell h.c0
  have d0 := (unhide HF).c0
  have d3 := (unhide HF).c3
  have g3 := (unhide HF).fz 3
  have hc3 := h.c3
  have hf3 := h.fz 3
  have H0 := hide h
  clear h
  have hk : t.k = 3 ∨ t.k = 5 ∨ t.k = 7 ∨ (t.k ≠ 3 ∧ t.k ≠ 5 ∧ t.k ≠ 7) := by omega
  rcases hk with hk | hk | hk | hk
  · have hk' := hide hk
    have k3 : (t.k == 3) = true := by simp; omega
    clear hk
    go_enter Tryz.func135, Tryz.ntmps135
    go_wp2_with fail
    refine (stepOp_any p bo bs op xs t.t _ (unhide HF) (unhide HI) ht).mono ?_
    rintro e w1 ⟨rfl, hf1, hk1⟩
    go_wp2_with fail
    go_ret
    refine ⟨ret_int (by simp [roleOf, opRole, unhide hk']), fun _ => ?_, (Kept1.of_below (below1 _ _)).trans (unhide hk1)⟩
    rw [show bhOf xs t true = (!hasB xs t.t 2) by cases hb : hasB xs t.t 2 <;> simp [bhOf, unhide hk', hb], show opOf t op = op by simp [opOf, unhide hk']]
    exact unhide hf1
  · have hk' := hide hk
    have k3 : (t.k == 3) = false := by simp; omega
    have k5 : (t.k == 5) = true := by simp; omega
    clear hk
    by_cases ho : 0 < op
    · have HO := hide ho
      have ho' : (0 : Int) < (op : Int) := by omega
      go_enter Tryz.func135, Tryz.ntmps135
      go_wp2_with fail
      go_ret
      refine ⟨ret_int (by simp [roleOf, unhide hk', unhide HO]), fun _ => ?_, ?_⟩
      · rw [show bhOf xs t true = true by simp [bhOf, unhide hk'], show opOf t op = op - 1 by simp [opOf, unhide hk']]
        first
          | exact ((unhide H0).set3 (op - 1) _ (by omega)).kept (below1 _ _)
          | exact (unhide HF).set3 (op - 1) _ (by omega)
      · first
          | exact (kept_set w p 3 _).trans (Kept1.of_below (below1 _ _))
          | exact (Kept1.of_below (below1 _ _)).trans (kept_set _ p 3 _)
    · have HO := hide ho
      have ho' : ¬ (0 : Int) < (op : Int) := by omega
      go_enter Tryz.func135, Tryz.ntmps135
      go_wp2_with fail
      go_ret
      have hr : roleOf xs last t true op = -1 := by simp [roleOf, unhide hk', unhide HO]
      exact ⟨ret_int hr.symm, fun h0 => absurd h0 (by rw [hr]; decide), Kept1.of_below (below1 _ _)⟩
  · have hk' := hide hk
    have k3 : (t.k == 3) = false := by simp; omega
    have k5 : (t.k == 5) = false := by simp; omega
    have k7 : (t.k == 7) = true := by simp; omega
    clear hk
    by_cases ho : op = 0
    · subst ho
      cases last
      · go_enter Tryz.func135, Tryz.ntmps135
        go_wp2_with fail
        go_ret
        have hr : roleOf xs false t true 0 = -1 := by simp [roleOf, unhide hk']
        exact ⟨ret_int hr.symm, fun h0 => absurd h0 (by rw [hr]; decide), Kept1.of_below (below1 _ _)⟩
      · go_enter Tryz.func135, Tryz.ntmps135
        go_wp2_with fail
        go_ret
        refine ⟨ret_int (by simp [roleOf, unhide hk']), fun _ => ?_, Kept1.of_below (below1 _ _)⟩
        rw [show bhOf xs t true = true by simp [bhOf, unhide hk'], show opOf t 0 = 0 by simp [opOf, unhide hk']]
        exact unhide HF
    · have HO := hide ho
      have ho' : ((op : Int) == 0) = false := by simp; omega
      go_enter Tryz.func135, Tryz.ntmps135
      go_wp2_with fail
      go_ret
      have hr : roleOf xs last t true op = -1 := by simp [roleOf, unhide hk', unhide HO]
      exact ⟨ret_int hr.symm, fun h0 => absurd h0 (by rw [hr]; decide), Kept1.of_below (below1 _ _)⟩
  · have hk' := hide hk
    have k3 : (t.k == 3) = false := by simp; omega
    have k5 : (t.k == 5) = false := by simp; omega
    have k7 : (t.k == 7) = false := by simp; omega
    clear hk
    go_enter Tryz.func135, Tryz.ntmps135
    go_wp2_with fail
    go_ret
    have hr : roleOf xs last t true op = -1 := by have := unhide hk'; simp [roleOf, this]
    exact ⟨ret_int hr.symm, fun h0 => absurd h0 (by rw [hr]; decide), Kept1.of_below (below1 _ _)⟩

set_option maxHeartbeats 4000000 in
theorem step_any (p bo bs op : Nat) (bh last : Bool) (xs : List OpR) (t : TokR) (w : World) (h : Ft w p bo bs bh op) (hi : Idx w bo bs xs xs.length) (ht : t.t.size ≤ maxLen) (hop : op ≤ 1048576) :
    Calls Tryz.prog 112 #[.pointer (some ⟨p, 0, none⟩), .agg #[.int .i64 t.k, .string t.g, .string t.t], .bool last] w fun e w' => e = .returned (.int .i64 (roleOf xs last t bh op)) ∧ Stepped xs t bh op (roleOf xs last t bh op) w w' p bo bs := by
  have HI := hide (hi.kept (below1 w (.cells #[.int .i64 t.k, .string t.g, .string t.t] 56)))
  have HF := hide (h.kept (below1 w (.cells #[.int .i64 t.k, .string t.g, .string t.t] 56)))
  have hp : p < w.heap.size := block_lt_of_cell h.c0
  have d2 := (unhide HF).c2
  clear hi h
  cases bh
  · go_enter Tryz.func112, Tryz.ntmps112
    go_wp2_with fail
    refine (stepBefore_any p bo bs op last xs t _ (unhide HF) (unhide HI) ht hop).mono ?_
    rintro e w1 ⟨rfl, hs1, hk1⟩
    have HS1 := hide hs1
    have HK1 := hide hk1
    clear hs1 hk1
    go_wp2_with fail
    go_ret
    exact ⟨rfl, unhide HS1, (Kept1.of_below (below1 _ _)).trans (unhide HK1)⟩
  · go_enter Tryz.func112, Tryz.ntmps112
    go_wp2_with fail
    refine (stepBehind_any p bo bs op last xs t _ (unhide HF) (unhide HI) ht hop).mono ?_
    rintro e w1 ⟨rfl, hs1, hk1⟩
    have HS1 := hide hs1
    have HK1 := hide hk1
    clear hs1 hk1
    go_wp2_with fail
    go_ret
    exact ⟨rfl, unhide HS1, (Kept1.of_below (below1 _ _)).trans (unhide HK1)⟩
end Go.Proofs.YtokabkhnidlcnabGreat

/-
  Walk: the program's scanner.
-/
namespace Go.Proofs.YtokabkhnidlcnabGreat
set_option maxRecDepth 100000
open Go.RowKit Go.Maps

theorem kindOfByte_is (c : UInt8) (k : Int) (w : World) (h : (cls c : Int) = k) :
    Calls Tryz.prog 106 #[.int .u8 (c.toNat : Int)] w fun e w' => e = .returned (.int .i64 k) ∧ w' = w := by
  subst h
  exact kindOfByte_any c w

theorem Idx.of_blocks {w w' : World} {bo bs n : Nat} {xs : List OpR} (h : Idx w bo bs xs n) (h1 : w'.heap[bo]? = w.heap[bo]?) (h2 : w'.heap[bs]? = w.heap[bs]?) : Idx w' bo bs xs n := by
  obtain ⟨⟨D, ⟨es, clock, hb, F, hs, hD⟩, a2⟩, ⟨E, ⟨es', clock', hb', F', hs', hD'⟩, a4⟩, a5⟩ := h
  exact ⟨⟨D, ⟨es, clock, h1.trans hb, F, hs, hD⟩, a2⟩, ⟨E, ⟨es', clock', h2.trans hb', F', hs', hD'⟩, a4⟩, a5⟩

/-- What holds of a scanner that is at work. -/
structure Scan (w wr : World) (p bo bs L : Nat) (xs : List OpR) (s : ByteArray) (gap start : Nat) (acc : List TokR) (v : Value) : Prop where
  sc : Sc wr p bo bs L s gap start v
  own : wr.ownsRow p 56 3 v acc.length (cellsTk acc)
  ne : v.ownBlock ≠ some p
  idx : Idx wr bo bs xs xs.length
  bel : Below p w wr
  rd : Read xs s gap acc
  bl : Blanks s gap start
  le1 : gap ≤ start
  le2 : start ≤ s.size
  hbo : bo < p
  hbs : bs < p

theorem Scan.lt {w wr : World} {p bo bs L gap start : Nat} {xs : List OpR} {s : ByteArray} {acc : List TokR} {v : Value} (h : Scan w wr p bo bs L xs s gap start acc v) : p < wr.heap.size := block_lt_of_cell h.sc.c0

theorem Scan.below {w wr w' : World} {p bo bs L gap start : Nat} {xs : List OpR} {s : ByteArray} {acc : List TokR} {v : Value} (h : Scan w wr p bo bs L xs s gap start acc v) (hb : Below wr.heap.size wr w') : Scan w w' p bo bs L xs s gap start acc v := by
  have hp := h.lt
  obtain ⟨⟨c0, c1, c2, c3, c4, c5, c6, fz⟩, own, ne, idx, bel, rd, bl, le1, le2, hbo, hbs⟩ := h
  have e := fun o => hb.cell (p := ⟨p, o, none⟩) hp
  exact ⟨⟨(e _).trans c0, (e _).trans c1, (e _).trans c2, (e _).trans c3, (e _).trans c4, (e _).trans c5, (e _).trans c6, fun o => (hb.frozen (p := ⟨p, o, none⟩) hp).trans (fz o)⟩,
    own.kept (grown_bel hb none) (Classical.em _), ne, idx.kept hb, bel.trans (hb.mono (Nat.le_of_lt hp)), rd, bl, le1, le2, hbo, hbs⟩

theorem Scan.drew {w wr : World} {p bo bs L gap start : Nat} {xs : List OpR} {s : ByteArray} {acc : List TokR} {v : Value} (h : Scan w wr p bo bs L xs s gap start acc v) : Scan w wr.drew p bo bs L xs s gap start acc v :=
  h.below (Below.refl _ _).drew

theorem Scan.blank {w wr : World} {p bo bs L gap start : Nat} {xs : List OpR} {s : ByteArray} {acc : List TokR} {v : Value} (h : Scan w wr p bo bs L xs s gap start acc v) (hlt : start < s.size) (hc : cls (bt s start) = 1) (n : Int) (hn : n = ((start + 1 : Nat) : Int)) :
    Scan w (wr.setCell ⟨p, 5, none⟩ (.int .i64 n)) p bo bs L xs s gap (start + 1) acc v := by
  subst hn
  obtain ⟨⟨c0, c1, c2, c3, c4, c5, c6, fz⟩, own, ne, idx, bel, rd, bl, le1, le2, hbo, hbs⟩ := h
  have e : ∀ o, o ≠ 5 → (wr.setCell ⟨p, 5, none⟩ (.int .i64 ((start + 1 : Nat) : Int))).cell? ⟨p, o, none⟩ = wr.cell? ⟨p, o, none⟩ := fun o ho => World.cell?_setCell_other _ _ _ _ (by simp)
  refine ⟨⟨(e _ (by omega)).trans c0, (e _ (by omega)).trans c1, (e _ (by omega)).trans c2, (e _ (by omega)).trans c3, (e _ (by omega)).trans c4, World.cell?_setCell_same _ _ _ c5, (e _ (by omega)).trans c6, fun o => by rw [World.frozen?_setCell]; exact fz o⟩,
    own.kept (set1_grown _ p 5 _) (Or.inr ne), ne, idx.set (by omega) (by omega), bel.setCell (Nat.le_refl _) _, rd, fun q h1 h2 => ?_, by omega, by omega, hbo, hbs⟩
  by_cases e : q = start
  · subst e; exact hc
  · exact bl q h1 (by omega)

/-- Behind 'finish'. -/
theorem Scan.fin {w wr w' : World} {p bo bs L gap start q kind g cap : Nat} {xs : List OpR} {s : ByteArray} {acc : List TokR} {v : Value} (h : Scan w wr p bo bs L xs s gap start acc v)
    (hsc : Sc w' p bo bs L s q q (.slice (some ⟨g, 0, none⟩) (acc.length + 1) cap)) (hown : w'.ownsRow p 56 3 (.slice (some ⟨g, 0, none⟩) (acc.length + 1) cap) (acc.length + 1) (cellsTk (acc ++ [⟨(kind : Int), s.extract gap start, s.extract start q⟩])))
    (hg : g ≠ p) (hk : KeptS wr w' p v.ownBlock) (hlt : start < s.size) (hnb : cls (bt s start) ≠ 1) (htok : IsTok xs s start (q - start) kind) (hq : start ≤ q) :
    Scan w w' p bo bs L xs s q q (acc ++ [⟨(kind : Int), s.extract gap start, s.extract start q⟩]) (.slice (some ⟨g, 0, none⟩) (acc.length + 1) cap) := by
  have hp := h.lt
  have hrow : ∀ b : Nat, b < p → some b ≠ v.ownBlock := fun b hb e => by
    have := (h.own.lt b e.symm).1
    omega
  have hqe : start + (q - start) = q := by omega
  have hrd := h.rd.step h.le1 hlt h.bl hnb htok
  rw [hqe] at hrd
  refine ⟨hsc, ?_, by simp [Value.ownBlock]; exact hg, h.idx.of_blocks (hk.block bo (by have := h.hbo; omega) (by have := h.hbo; omega) (hrow _ h.hbo)) (hk.block bs (by have := h.hbs; omega) (by have := h.hbs; omega) (hrow _ h.hbs)), ?_, hrd, fun q' h1 h2 => by omega, Nat.le_refl _, ?_, h.hbo, h.hbs⟩
  · rw [List.length_append]
    exact hown
  · exact h.bel.trans ⟨hk.os, hk.tape, hk.output, hk.size, fun i hi => hk.block i (by omega) (by omega) (hrow i hi)⟩
  · have := htok.2.1
    omega

theorem finish_at (p bo bs L : Nat) (xs : List OpR) (s : ByteArray) (gap start : Nat) (v : Value) (kind q : Nat) (kz qz : Int) (acc : List TokR) (w W : World) (h : Scan w W p bo bs L xs s gap start acc v) (hs : s.size ≤ 20000) (h2 : start ≤ q) (hq : q ≤ s.size) (hkz : kz = (kind : Int)) (hqz : qz = (q : Int)) :
    Calls Tryz.prog 108 #[.pointer (some ⟨p, 0, none⟩), .int .i64 kz, .int .i64 qz] W fun e w' => e = .returned (.tuple #[]) ∧ ∃ g cap : Nat, Hid (Sc w' p bo bs L s q q (.slice (some ⟨g, 0, none⟩) (acc.length + 1) cap)) ∧ Hid (w'.ownsRow p 56 3 (.slice (some ⟨g, 0, none⟩) (acc.length + 1) cap) (acc.length + 1) (cellsTk (acc ++ [⟨(kind : Int), s.extract gap start, s.extract start q⟩]))) ∧ g ≠ p ∧ KeptS W w' p v.ownBlock := by
  subst hkz hqz
  have h1 := h.rd.1
  have h3 := h.le1
  have h4 := h.le2
  exact finish_any p bo bs L s gap start v kind q p acc W h.sc h.le1 h2 hq h.own h.ne (by omega) (Nat.le_of_lt h.lt)

/-- A token ends here. -/
theorem finish_tok (p bo bs L : Nat) (xs : List OpR) (s : ByteArray) (gap start : Nat) (v : Value) (kind q : Nat) (kz qz : Int) (acc : List TokR) (w W : World) (h : Scan w W p bo bs L xs s gap start acc v) (hs : s.size ≤ 20000) (h2 : start ≤ q) (hq : q ≤ s.size) (hkz : kz = (kind : Int)) (hqz : qz = (q : Int)) (hlt : start < s.size) (hnb : cls (bt s start) ≠ 1) (htok : IsTok xs s start (q - start) kind) :
    Calls Tryz.prog 108 #[.pointer (some ⟨p, 0, none⟩), .int .i64 kz, .int .i64 qz] W fun e w' => e = .returned (.tuple #[]) ∧ ∃ (acc' : List TokR) (v' : Value), Hid (Scan w w' p bo bs L xs s q q acc' v') := by
  refine (finish_at p bo bs L xs s gap start v kind q kz qz acc w W h hs h2 hq hkz hqz).mono ?_
  rintro e w' ⟨rfl, g, cap, a, b, c, d⟩
  exact ⟨rfl, _, _, hide (h.fin (unhide a) (unhide b) c d hlt hnb htok h2)⟩

theorem extract_none (s : ByteArray) (i : Nat) : s.extract i i = ⟨#[]⟩ := by
  apply ByteArray.ext
  rw [ByteArray.data_extract]
  simp
  omega

theorem sub_eq {s : ByteArray} {i q : Nat} (h : i ≤ q) : s.extract i q = sub s i (q - i) := by
  unfold sub
  rw [show i + (q - i) = q by omega]

theorem wordKind_2 (w : World) : Calls Tryz.prog 109 #[.int .i64 2] w fun e w' => e = .returned (.int .i64 1) ∧ w' = w := by
  go_enter Tryz.func109, Tryz.ntmps109
  go_wp2
  go_ret
  exact ⟨rfl, rfl⟩
theorem wordKind_3 (w : World) : Calls Tryz.prog 109 #[.int .i64 3] w fun e w' => e = .returned (.int .i64 2) ∧ w' = w := by
  go_enter Tryz.func109, Tryz.ntmps109
  go_wp2
  go_ret
  exact ⟨rfl, rfl⟩

set_option maxHeartbeats 8000000 in
theorem scan_any (p bo bs L : Nat) (xs : List OpR) (s : ByteArray) (w : World) (h : Scan w w p bo bs L xs s 0 0 [] (.slice none 0 0)) (hs : s.size ≤ 20000) (hL : L ≤ 16) (hLx : ∀ j, j < xs.length → (atO xs j).s.size ≤ L) (hv : SignTexts xs) (hk : Kinds xs) :
    Calls Tryz.prog 67 #[.pointer (some ⟨p, 0, none⟩)] w fun e w' => e = .returned (.tuple #[]) ∧ ∃ (g cap : Nat) (us : List TokR), Hid (w'.cell? ⟨p, 6, none⟩ = some (.slice (some ⟨g, 0, none⟩) us.length cap)) ∧ (p ≤ g ∧ us.length ≤ cap ∧ cap ≤ maxLen) ∧ Hid (FilledT w' g us us.length) ∧ Hid (Lexed xs s 0 us) ∧ Below p w w' := by
  have HS := hide h
  have HLX := hide hLx
  have HV := hide hv
  have HK := hide hk
  clear h hLx hv hk
  go_enter Tryz.func67, Tryz.ntmps67
  go_wp2_with fail
  go_step3
  go_wp2_with fail
  go_step3
  go_wp2_with fail
  go_loopg [2] (s.size) (fun k _ wr => ∃ (gap start : Nat) (acc : List TokR) (v : Value), k = s.size - start ∧ Hid (Scan w wr p bo bs L xs s gap start acc v))
  case atStart => exact ⟨0, 0, [], _, by omega, HS⟩
  case round =>
    clear HS
    obtain ⟨gap, start, acc, v, hgk, hsn⟩ := hrel
    have c3 := (unhide hsn).sc.c3
    have c5 := (unhide hsn).sc.c5
    have le2 := (unhide hsn).le2
    by_cases hlt : start < s.size
    · have hltI : (start : Int) < (s.size : Int) := by omega
      go_wp2_with fail
      go_region_held (fun w' => w'.cell? ⟨p, 3, none⟩ = some (.string s) ∧ w'.cell? ⟨p, 5, none⟩ = some (.int .i64 (start : Int))) (go_keep) (fail)
      go_wp2_with fail
      have hc7 := cls_lt (bt s start)
      have hc : cls (bt s start) = 1 ∨ cls (bt s start) = 2 ∨ cls (bt s start) = 3 ∨ cls (bt s start) = 6 ∨ cls (bt s start) = 4 ∨ cls (bt s start) = 5 ∨ cls (bt s start) = 0 := by omega
      have hfz := (unhide hsn).sc.fz 5
      have hst0 : (0 : Int) ≤ (start : Int) := by omega
      clear hc7
      rcases hc with hc | hc | hc | hc | hc | hc | hc
      · have hkb : (cls s[start] : Int) = 1 := by rw [bt_get hlt, hc]; rfl
        have HC := hide hc
        clear hc
        go_region_held (fun w' => w'.cell? ⟨p, 3, none⟩ = some (.string s) ∧ w'.cell? ⟨p, 5, none⟩ = some (.int .i64 (start : Int))) (go_keep) (first | (go_at_call 106; refine (kindOfByte_is _ 1 _ hkb).mono ?_; rintro e w2 ⟨rfl, hx⟩; obtain rfl := hx.symm))
        go_wp2_with fail
        go_roundg (s.size - (start + 1))
        case measure => omega
        case rel => exact ⟨gap, start + 1, acc, v, rfl, hide ((unhide hsn).drew.drew.blank hlt (unhide HC) _ (by omega))⟩
      · have hkb : (cls s[start] : Int) = 2 := by rw [bt_get hlt, hc]; rfl
        have HC := hide hc
        have HSN := hide (unhide hsn).drew.drew
        clear hc hsn
        go_region_held (fun w' => w'.cell? ⟨p, 3, none⟩ = some (.string s) ∧ w'.cell? ⟨p, 5, none⟩ = some (.int .i64 (start : Int))) (go_keep) (first | (go_at_call 106; refine (kindOfByte_is _ 2 _ hkb).mono ?_; rintro e w2 ⟨rfl, hx⟩; obtain rfl := hx.symm))
        go_wp2_with fail
        go_loop [4] (fun ev => ∃ q : Nat, start + 1 ≤ q ∧ q ≤ s.size ∧ ev = .int .i64 (q : Int) ∧ Hid (∀ j, start ≤ j → j < q → cls (bt s j) = 2)) (fun ev => s.size - (intOf ev).toNat)
        case atStart =>
          refine ⟨start + 1, Nat.le_refl _, by omega, by go_num, hide (fun j h1 h2 => ?_)⟩
          have : j = start := by omega
          subst this
          exact unhide HC
        case round =>
          obtain ⟨q, hq1, hq2, rfl, hn⟩ := hrel
          go_wp2_with fail
          refine (goesOn_any p bo bs L s gap start v 2 q _ (unhide HSN).sc hq2 (by omega)).mono ?_
          rintro e w3 ⟨⟨y, rfl, hy⟩, hx⟩
          obtain rfl := hx.symm
          have HY := hide hy
          clear hy
          cases y
          · have HT := hide (show IsTok xs s start (q - start) 1 by
              have no : ¬ (q < s.size ∧ (cls (bt s q) = 2 ∨ (cls (bt s q) = 3 ∧ 2 = 3))) := fun hh => Bool.false_ne_true ((unhide HY).2 hh)
              have hqe : start + (q - start) = q := by omega
              exact ⟨by omega, by omega, Or.inl ⟨unhide HC, rfl, fun j hj => (unhide hn) (start + j) (by omega) (by omega), fun hx hd => no ⟨by omega, Or.inl (by rw [hqe] at hd; exact hd)⟩⟩⟩)
            go_wp2_with (first | (go_at_call 109; refine (wordKind_2 _).mono ?_; rintro e w3 ⟨rfl, hx⟩; obtain rfl := hx.symm))
            refine (finish_tok p bo bs L xs s gap start v 1 q _ _ acc w _ (unhide HSN) hs (by omega) hq2 rfl rfl hlt (by have := unhide HC; omega) (unhide HT)).mono ?_
            rintro e w4 ⟨rfl, acc', v', hsn'⟩
            go_wp2_with fail
            go_roundg (s.size - q)
            case measure => omega
            case rel => exact ⟨q, q, acc', v', rfl, hsn'⟩
          · have HY' := hide (show q < s.size ∧ ∀ j, start ≤ j → j < q + 1 → cls (bt s j) = 2 from by
              have hy := (unhide HY).1 rfl
              refine ⟨hy.1, fun j h1 h2 => ?_⟩
              by_cases e : j = q
              · subst e
                exact hy.2.elim (fun x => x) (fun x => absurd x.2 (by decide))
              · exact (unhide hn) j h1 (by omega))
            have hqlt := (unhide HY').1
            go_wp2_with fail
            exact ⟨⟨q + 1, by omega, by omega, by go_num, hide (unhide HY').2⟩, by simp [intOf]; omega⟩
      · have hkb : (cls s[start] : Int) = 3 := by rw [bt_get hlt, hc]; rfl
        have HC := hide hc
        have HSN := hide (unhide hsn).drew.drew
        clear hc hsn
        go_region_held (fun w' => w'.cell? ⟨p, 3, none⟩ = some (.string s) ∧ w'.cell? ⟨p, 5, none⟩ = some (.int .i64 (start : Int))) (go_keep) (first | (go_at_call 106; refine (kindOfByte_is _ 3 _ hkb).mono ?_; rintro e w2 ⟨rfl, hx⟩; obtain rfl := hx.symm))
        go_wp2_with fail
        go_loop [4] (fun ev => ∃ q : Nat, start + 1 ≤ q ∧ q ≤ s.size ∧ ev = .int .i64 (q : Int) ∧ Hid (∀ j, start ≤ j → j < q → (cls (bt s j) = 2 ∨ cls (bt s j) = 3))) (fun ev => s.size - (intOf ev).toNat)
        case atStart =>
          refine ⟨start + 1, Nat.le_refl _, by omega, by go_num, hide (fun j h1 h2 => ?_)⟩
          have : j = start := by omega
          subst this
          exact Or.inr (unhide HC)
        case round =>
          obtain ⟨q, hq1, hq2, rfl, hn⟩ := hrel
          go_wp2_with fail
          refine (goesOn_any p bo bs L s gap start v 3 q _ (unhide HSN).sc hq2 (by omega)).mono ?_
          rintro e w3 ⟨⟨y, rfl, hy⟩, hx⟩
          obtain rfl := hx.symm
          have HY := hide hy
          clear hy
          cases y
          · have HT := hide (show IsTok xs s start (q - start) 2 by
              have no : ¬ (q < s.size ∧ (cls (bt s q) = 2 ∨ (cls (bt s q) = 3 ∧ 3 = 3))) := fun hh => Bool.false_ne_true ((unhide HY).2 hh)
              have hqe : start + (q - start) = q := by omega
              exact ⟨by omega, by omega, Or.inr (Or.inl ⟨unhide HC, rfl, fun j hj => (unhide hn) (start + j) (by omega) (by omega), fun hx hd => no ⟨by omega, by rw [hqe] at hd; exact hd.elim Or.inl (fun x => Or.inr ⟨x, rfl⟩)⟩⟩)⟩)
            go_wp2_with (first | (go_at_call 109; refine (wordKind_3 _).mono ?_; rintro e w3 ⟨rfl, hx⟩; obtain rfl := hx.symm))
            refine (finish_tok p bo bs L xs s gap start v 2 q _ _ acc w _ (unhide HSN) hs (by omega) hq2 rfl rfl hlt (by have := unhide HC; omega) (unhide HT)).mono ?_
            rintro e w4 ⟨rfl, acc', v', hsn'⟩
            go_wp2_with fail
            go_roundg (s.size - q)
            case measure => omega
            case rel => exact ⟨q, q, acc', v', rfl, hsn'⟩
          · have HY' := hide (show q < s.size ∧ ∀ j, start ≤ j → j < q + 1 → (cls (bt s j) = 2 ∨ cls (bt s j) = 3) from by
              have hy := (unhide HY).1 rfl
              refine ⟨hy.1, fun j h1 h2 => ?_⟩
              by_cases e : j = q
              · subst e
                exact hy.2.elim (fun x => Or.inl x) (fun x => Or.inr x.1)
              · exact (unhide hn) j h1 (by omega))
            have hqlt := (unhide HY').1
            go_wp2_with fail
            exact ⟨⟨q + 1, by omega, by omega, by go_num, hide (unhide HY').2⟩, by simp [intOf]; omega⟩
      · have hkb : (cls s[start] : Int) = 6 := by rw [bt_get hlt, hc]; rfl
        have HC := hide hc
        have HSN := hide (unhide hsn).drew.drew
        have c2 := (unhide hsn).sc.c2
        clear hc hsn
        go_region_held (fun w' => w'.cell? ⟨p, 3, none⟩ = some (.string s) ∧ w'.cell? ⟨p, 5, none⟩ = some (.int .i64 (start : Int))) (go_keep) (first | (go_at_call 106; refine (kindOfByte_is _ 6 _ hkb).mono ?_; rintro e w2 ⟨rfl, hx⟩; obtain rfl := hx.symm))
        have hwr : IntKind.i64.wrap ((start : Int) + (L : Int)) = (start : Int) + (L : Int) := by rw [IntKind.wrap_i64]; omega
        have hmin : min ((start : Int) + (L : Int)) (s.size : Int) = ((min (start + L) s.size : Nat) : Int) := by omega
        go_wp2_with fail
        go_region_held (fun w' => w'.cell? ⟨p, 2, none⟩ = some (.int .i64 (L : Int)) ∧ w'.cell? ⟨p, 3, none⟩ = some (.string s) ∧ w'.cell? ⟨p, 5, none⟩ = some (.int .i64 (start : Int))) (go_keep) (fail)
        go_wp2_with fail
        have HS2 := hide (unhide HSN).drew
        clear HSN c2
        go_loopw [5] (fun ev wq => ∃ q : Nat, start ≤ q ∧ q ≤ s.size ∧ ev = .int .i64 (q : Int) ∧ Hid (∀ m, q < start + m → start + m ≤ s.size → ¬ opT xs (sub s start m)) ∧ Hid (Scan w wq p bo bs L xs s gap start acc v)) (fun ev _ => (intOf ev).toNat)
        case atStart =>
          refine ⟨min (start + L) s.size, by omega, by omega, rfl, hide (fun m h1 h2 ho => ?_), HS2⟩
          obtain ⟨j, hj, e⟩ := ho
          have h3 := (unhide HLX) j hj
          rw [e, sub_size h2] at h3
          omega
        case round =>
          clear HS2
          obtain ⟨q, hq1, hq2, rfl, hn, hsn⟩ := hrel
          have d0 := (unhide hsn).sc.c0
          have d1 := (unhide hsn).sc.c1
          have d3 := (unhide hsn).sc.c3
          have d5 := (unhide hsn).sc.c5
          by_cases hqs : start < q
          · have hqsI : (start : Int) < (q : Int) := by omega
            have hs1 : (start : Int) ≤ (q : Int) := by omega
            have hs2 : (q : Int) ≤ (s.size : Int) := by omega
            have hxe := hide (sub_eq (s := s) hq1)
            have hzp := (unhide hsn).lt
            go_wp2_with fail
            go_region_held (fun w' => w'.cell? ⟨p, 0, none⟩ = some (.map (some bo)) ∧ w'.cell? ⟨p, 1, none⟩ = some (.map (some bs)) ∧ w'.cell? ⟨p, 3, none⟩ = some (.string s) ∧ w'.cell? ⟨p, 5, none⟩ = some (.int .i64 (start : Int))) (go_keep) (first | (go_at_call 110; refine (hasText_any bo bs xs.length xs (s.extract start q) _ (unhide hsn).drew.idx rfl (unhide HK) (by rw [unhide hxe, sub_size (by omega)]; unfold maxLen; omega)).mono ?_; rintro e w5 ⟨⟨y, rfl, hy⟩, hb5⟩; have HY := hide hy; have HS5 := hide ((unhide hsn).drew.below hb5); have e0 := (unhide HS5).sc.c0; have e1 := (unhide HS5).sc.c1; have e3 := (unhide HS5).sc.c3; have e5 := (unhide HS5).sc.c5; clear hy hb5))
            cases y
            · have HN := hide (show ∀ m, q - 1 < start + m → start + m ≤ s.size → ¬ opT xs (sub s start m) from fun m h1 h2 ho => by
                by_cases e : q < start + m
                · exact (unhide hn) m e h2 ho
                · have e2 : m = q - start := by omega
                  subst e2
                  rw [← unhide hxe] at ho
                  exact Bool.false_ne_true ((unhide HY).2 ho))
              go_wp2_with fail
              exact ⟨⟨q - 1, by omega, by omega, by first | (go_num; done) | (congr 1; omega), HN, HS5⟩, by simp [intOf]; omega⟩
            · have HT := hide (show IsTok xs s start (q - start) 3 by
                refine ⟨by omega, by omega, Or.inr (Or.inr (Or.inr (Or.inr (Or.inl ⟨unhide HC, Or.inl ⟨rfl, ?_, fun m h1 h2 => (unhide hn) m (by omega) h2⟩⟩))))⟩
                rw [← unhide hxe]
                exact (unhide HY).1 rfl)
              go_wp2_with fail
              refine (finish_tok p bo bs L xs s gap start v 3 q _ _ acc w _ (unhide HS5) hs (by omega) hq2 rfl rfl hlt (by have := unhide HC; omega) (unhide HT)).mono ?_
              rintro e w6 ⟨rfl, acc', v', hsn'⟩
              go_wp2_with fail
              go_roundg (s.size - q)
              case measure => omega
              case rel => exact ⟨q, q, acc', v', rfl, hsn'⟩
          · have HT := hide (show IsTok xs s start (start + 1 - start) 6 by
              rw [show start + 1 - start = 1 by omega]
              exact ⟨Nat.le_refl _, by omega, Or.inr (Or.inr (Or.inr (Or.inr (Or.inl ⟨unhide HC, Or.inr ⟨rfl, rfl, fun m h1 h2 => (unhide hn) m (by omega) h2⟩⟩))))⟩)
            have hqsI : ¬ (start : Int) < (q : Int) := by omega
            go_wp2_with fail
            refine (finish_tok p bo bs L xs s gap start v 6 (start + 1) _ _ acc w _ (unhide hsn) hs (by omega) (by omega) rfl (by omega) hlt (by have := unhide HC; omega) (unhide HT)).mono ?_
            rintro e w6 ⟨rfl, acc', v', hsn'⟩
            go_wp2_with fail
            go_roundg (s.size - (start + 1))
            case measure => omega
            case rel => exact ⟨start + 1, start + 1, acc', v', rfl, hsn'⟩
      · have hkb : (cls s[start] : Int) = 4 := by rw [bt_get hlt, hc]; rfl
        have HT := hide (show IsTok xs s start (start + 1 - start) 4 by rw [show start + 1 - start = 1 by omega]; exact ⟨Nat.le_refl _, by omega, Or.inr (Or.inr (Or.inl ⟨hc, rfl, rfl⟩))⟩)
        have HC := hide hc
        have HSN := hide (unhide hsn).drew.drew
        clear hc hsn
        go_region_held (fun w' => w'.cell? ⟨p, 3, none⟩ = some (.string s) ∧ w'.cell? ⟨p, 5, none⟩ = some (.int .i64 (start : Int))) (go_keep) (first | (go_at_call 106; refine (kindOfByte_is _ 4 _ hkb).mono ?_; rintro e w2 ⟨rfl, hx⟩; obtain rfl := hx.symm))
        go_wp2_with fail
        refine (finish_tok p bo bs L xs s gap start v 4 (start + 1) _ _ acc w _ (unhide HSN) hs (by omega) (by omega) rfl (by omega) hlt (by have := unhide HC; omega) (unhide HT)).mono ?_
        rintro e w4 ⟨rfl, acc', v', hsn'⟩
        go_wp2_with fail
        go_roundg (s.size - (start + 1))
        case measure => omega
        case rel => exact ⟨start + 1, start + 1, acc', v', rfl, hsn'⟩
      · have hkb : (cls s[start] : Int) = 5 := by rw [bt_get hlt, hc]; rfl
        have HT := hide (show IsTok xs s start (start + 1 - start) 5 by rw [show start + 1 - start = 1 by omega]; exact ⟨Nat.le_refl _, by omega, Or.inr (Or.inr (Or.inr (Or.inl ⟨hc, rfl, rfl⟩)))⟩)
        have HC := hide hc
        have HSN := hide (unhide hsn).drew.drew
        clear hc hsn
        go_region_held (fun w' => w'.cell? ⟨p, 3, none⟩ = some (.string s) ∧ w'.cell? ⟨p, 5, none⟩ = some (.int .i64 (start : Int))) (go_keep) (first | (go_at_call 106; refine (kindOfByte_is _ 5 _ hkb).mono ?_; rintro e w2 ⟨rfl, hx⟩; obtain rfl := hx.symm))
        go_wp2_with fail
        refine (finish_tok p bo bs L xs s gap start v 5 (start + 1) _ _ acc w _ (unhide HSN) hs (by omega) (by omega) rfl (by omega) hlt (by have := unhide HC; omega) (unhide HT)).mono ?_
        rintro e w4 ⟨rfl, acc', v', hsn'⟩
        go_wp2_with fail
        go_roundg (s.size - (start + 1))
        case measure => omega
        case rel => exact ⟨start + 1, start + 1, acc', v', rfl, hsn'⟩
      · have hkb : (cls s[start] : Int) = 0 := by rw [bt_get hlt, hc]; rfl
        have HT := hide (show IsTok xs s start (start + 1 - start) 6 by rw [show start + 1 - start = 1 by omega]; exact ⟨Nat.le_refl _, by omega, Or.inr (Or.inr (Or.inr (Or.inr (Or.inr ⟨hc, rfl, rfl⟩))))⟩)
        have HC := hide hc
        have HSN := hide (unhide hsn).drew.drew
        clear hc hsn
        go_region_held (fun w' => w'.cell? ⟨p, 3, none⟩ = some (.string s) ∧ w'.cell? ⟨p, 5, none⟩ = some (.int .i64 (start : Int))) (go_keep) (first | (go_at_call 106; refine (kindOfByte_is _ 0 _ hkb).mono ?_; rintro e w2 ⟨rfl, hx⟩; obtain rfl := hx.symm))
        go_wp2_with fail
        refine (finish_tok p bo bs L xs s gap start v 6 (start + 1) _ _ acc w _ (unhide HSN) hs (by omega) (by omega) rfl (by omega) hlt (by have := unhide HC; omega) (unhide HT)).mono ?_
        rintro e w4 ⟨rfl, acc', v', hsn'⟩
        go_wp2_with fail
        go_roundg (s.size - (start + 1))
        case measure => omega
        case rel => exact ⟨start + 1, start + 1, acc', v', rfl, hsn'⟩
    · go_wp2_with fail
      go_region_held (fun w' => w'.cell? ⟨p, 3, none⟩ = some (.string s) ∧ w'.cell? ⟨p, 5, none⟩ = some (.int .i64 (start : Int))) (go_keep) (fail)
      go_wp2_with fail
      have HSN := hide (unhide hsn).drew
      have HE := hide (show start = s.size by omega)
      clear hsn
      refine (finish_at p bo bs L xs s gap start v 7 start _ _ acc w _ (unhide HSN) hs (Nat.le_refl _) le2 rfl rfl).mono ?_
      rintro e w4 ⟨rfl, g, cap, hsc, hown, hgp, hkp⟩
      have HKP := hide hkp
      clear hkp
      go_wp2_with fail
      rw [Exit.noGoto_normal]
      go_end0
      refine ⟨rfl, g, cap, acc ++ [⟨7, s.extract gap start, s.extract start start⟩], hide ?_, ?_, hide ?_, hide ?_, ?_⟩
      · rw [List.length_append]; exact (unhide hsc).c6
      · refine ⟨((unhide hown).lt g rfl).1, ?_⟩
        rw [List.length_append]
        obtain ⟨_, ⟨h, _⟩ | ⟨g', cap', cur, h, _, _, h1, h2, _⟩⟩ := unhide hown
        · cases h
        · injection h with _ _ h
          subst h
          exact ⟨h1, h2⟩
      · have ho : w4.ownsRow p 56 3 (.slice (some ⟨g, 0, none⟩) (acc ++ [(⟨7, s.extract gap start, s.extract start start⟩ : TokR)]).length cap) (acc ++ [(⟨7, s.extract gap start, s.extract start start⟩ : TokR)]).length (cellsTk (acc ++ [(⟨7, s.extract gap start, s.extract start start⟩ : TokR)])) := by
          rw [List.length_append]; exact unhide hown
        exact (owns_filledT ho).2
      · have h1 := (unhide HSN)
        have h2 := h1.rd.done (by have := h1.le1; have := h1.le2; omega) (unhide HE ▸ h1.bl)
        rw [extract_none, unhide HE]
        exact h2
      · have h1 := (unhide HSN)
        refine h1.bel.trans ⟨(unhide HKP).os, (unhide HKP).tape, (unhide HKP).output, (unhide HKP).size, fun i hi => (unhide HKP).block i (by have := h1.lt; omega) (by omega) (fun e => ?_)⟩
        have := (h1.own.lt i e.symm).1
        omega
end Go.Proofs.YtokabkhnidlcnabGreat
