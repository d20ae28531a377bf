import Derived.Deep.AppendLies
import Derived.Deep.RegionHeldLaw
import Derived.Test.YtfboipappaonhaaGreatU02
import Derived.Test.YtfboipappaonhaaGreatU10
import Derived.Test.YtfboipappaonhaaGreatU21
import Derived.Test.YtfboipappaonhaaGreatU22
import Derived.Test.YtfboipappaonhaaGreatU24

/-
  Walks: the program's scanner: texts of operators.
-/
namespace Go.Proofs.YtfboipappaonhaaGreat
set_option maxRecDepth 100000
open Go.RowKit Go.Maps

set_option maxHeartbeats 1000000 in
theorem hasText_any (bo bs n : Nat) (xs : List OpR) (t : ByteArray) (w : World) (hi : Idx w bo bs xs n) (hn : n = xs.length) (hk : Kinds xs) (ht : t.size ≤ maxLen) :
    Calls Tryz.prog 129 #[.agg #[.map (some bo), .map (some bs)], .string t] w fun e w' => RetB e (opT xs t) ∧ Below w.heap.size w w' := by
  subst hn
  obtain ⟨⟨D, hown, hD⟩, _, _⟩ := hi
  have H1 := hide (hD _ _ ht wfK1).1
  have H2 := hide (hD _ _ ht wfK2).1
  have H3 := hide (hD _ _ ht wfK3).1
  have HK := hide (opT_kinds (t := t) hk)
  have HO := hide hown
  clear hD hown hk
  go_enter Tryz.func129, Tryz.ntmps129
  go_wp2_with fail
  refine (has_any bo bs xs.length D t 1 _ ((unhide HO).alloc _) ht (by decide)).mono ?_
  rintro e w1 ⟨rfl, hb1⟩
  have bel1 : Below w.heap.size w w1 := (below1 _ _).trans (hb1.mono (by simp))
  have z1 : w.heap.size < w1.heap.size := by have := hb1.size; simp at this; omega
  have c0 : w1.cell? ⟨w.heap.size, 0, none⟩ = some (.map (some bo)) := by rw [hb1.cell (p := ⟨w.heap.size, 0, none⟩) (by simp)]; simp [go_sem]
  have c1 : w1.cell? ⟨w.heap.size, 1, none⟩ = some (.map (some bs)) := by rw [hb1.cell (p := ⟨w.heap.size, 1, none⟩) (by simp)]; simp [go_sem]
  have HO1 := hide (((unhide HO).alloc (.cells #[.map (some bo), .map (some bs)] 69)).kept (w' := w1) (row := none) ⟨hb1.os, hb1.tape, hb1.output, hb1.size, fun i hi _ => hb1.block i hi⟩ (by simp))
  clear HO hb1
  cases h1 : Maps.has D (klO t 1)
  case true =>
    have G1 := hide h1
    go_wp2_with fail
    go_ret
    exact ⟨⟨true, rfl, ⟨fun _ => (unhide HK).2 (Or.inl ((unhide H1).1 (unhide G1))), fun _ => rfl⟩⟩, bel1⟩
  have G1 := hide h1
  go_wp2_with fail
  refine (has_any bo bs xs.length D t 2 _ (unhide HO1) ht (by decide)).mono ?_
  rintro e w2 ⟨rfl, hb2⟩
  have bel2 := bel1.trans (hb2.mono bel1.size)
  have d0 : w2.cell? ⟨w.heap.size, 0, none⟩ = some (.map (some bo)) := (hb2.cell (p := ⟨w.heap.size, 0, none⟩) z1).trans c0
  have d1 : w2.cell? ⟨w.heap.size, 1, none⟩ = some (.map (some bs)) := (hb2.cell (p := ⟨w.heap.size, 1, none⟩) z1).trans c1
  have HO2 := hide ((unhide HO1).kept (w' := w2) (row := none) ⟨hb2.os, hb2.tape, hb2.output, hb2.size, fun i hi _ => hb2.block i hi⟩ (by simp))
  clear HO1 hb2 c0 c1
  cases h2 : Maps.has D (klO t 2)
  case true =>
    have G2 := hide h2
    go_wp2_with fail
    go_ret
    exact ⟨⟨true, rfl, ⟨fun _ => (unhide HK).2 (Or.inr (Or.inl ((unhide H2).1 (unhide G2)))), fun _ => rfl⟩⟩, bel2⟩
  have G2 := hide h2
  go_wp2_with fail
  refine (has_any bo bs xs.length D t 3 _ (unhide HO2) ht (by decide)).mono ?_
  rintro e w3 ⟨rfl, hb3⟩
  have bel3 := bel2.trans (hb3.mono bel2.size)
  clear h1 h2
  go_wp2_with fail
  go_ret
  refine ⟨⟨_, rfl, ?_⟩, bel3⟩
  unfold Says
  rw [unhide HK, ← unhide H1, ← unhide H2, ← unhide H3, unhide G1, unhide G2]
  simp
end Go.Proofs.YtfboipappaonhaaGreat

/-
  Walks: the program's fitter.
-/
namespace Go.Proofs.YtfboipappaonhaaGreat
set_option maxRecDepth 100000
set_option linter.unusedSimpArgs false
open Go.RowKit Go.Maps

/-- A fitter in memory. -/
structure Ft (w : World) (p bo bs : Nat) (bh : Bool) (op : Nat) : Prop where
  c0 : w.cell? ⟨p, 0, none⟩ = some (.map (some bo))
  c1 : w.cell? ⟨p, 1, none⟩ = some (.map (some bs))
  c2 : w.cell? ⟨p, 2, none⟩ = some (.bool bh)
  c3 : w.cell? ⟨p, 3, none⟩ = some (.int .i64 (op : Int))
  fz : ∀ o, w.frozen? ⟨p, o, none⟩ = false

theorem has_says (bo bs n : Nat) (xs : List OpR) (t : ByteArray) (kd : Int) (w : World) (hi : Idx w bo bs xs n) (hn : n = xs.length) (ht : t.size ≤ maxLen) (hk : (Lit.int .i64 kd).wf = true) :
    Calls Tryz.prog 123 #[.agg #[.map (some bo), .map (some bs)], .string t, .int .i64 kd] w fun e w' => e = .returned (.bool (hasB xs t kd)) ∧ Below w.heap.size w w' := by
  subst hn
  obtain ⟨⟨D, hown, hD⟩, _, _⟩ := hi
  refine (has_any bo bs xs.length D t kd w hown ht hk).mono ?_
  rintro e w' ⟨rfl, hb⟩
  refine ⟨?_, hb⟩
  have h := (hD t kd ht hk).1
  have : Maps.has D (klO t kd) = hasB xs t kd := by
    rw [Bool.eq_iff_iff, h, hasB_iff]
    rfl
  rw [this]

theorem Ft.kept {w w' : World} {p bo bs op : Nat} {bh : Bool} (h : Ft w p bo bs bh op) (hb : Below w.heap.size w w') : Ft w' p bo bs bh op := by
  have hp : p < w.heap.size := block_lt_of_cell h.c0
  have e := fun o => hb.cell (p := ⟨p, o, none⟩) hp
  exact ⟨(e _).trans h.c0, (e _).trans h.c1, (e _).trans h.c2, (e _).trans h.c3, fun o => (hb.frozen (p := ⟨p, o, none⟩) hp).trans (h.fz o)⟩
theorem Ft.set2 {w : World} {p bo bs op : Nat} {bh : Bool} (h : Ft w p bo bs bh op) (b' : Bool) : Ft (w.setCell ⟨p, 2, none⟩ (.bool b')) p bo bs b' op :=
  ⟨(World.cell?_setCell_other _ _ _ _ (by simp)).trans h.c0, (World.cell?_setCell_other _ _ _ _ (by simp)).trans h.c1, World.cell?_setCell_same _ _ _ h.c2, (World.cell?_setCell_other _ _ _ _ (by simp)).trans h.c3, fun o => (World.frozen?_setCell _ _ _ _).trans (h.fz o)⟩
theorem Ft.set3 {w : World} {p bo bs op : Nat} {bh : Bool} (h : Ft w p bo bs bh op) (op' : Nat) (n : Int) (hn : n = (op' : Int)) : Ft (w.setCell ⟨p, 3, none⟩ (.int .i64 n)) p bo bs bh op' := by
  subst hn
  exact ⟨(World.cell?_setCell_other _ _ _ _ (by simp)).trans h.c0, (World.cell?_setCell_other _ _ _ _ (by simp)).trans h.c1, (World.cell?_setCell_other _ _ _ _ (by simp)).trans h.c2, World.cell?_setCell_same _ _ _ h.c3, fun o => (World.frozen?_setCell _ _ _ _).trans (h.fz o)⟩
theorem kept_set (w : World) (p o : Nat) (v : Value) : Kept1 w (w.setCell ⟨p, o, none⟩ v) p := kept1_setCells [v] o w

/-- What a step leaves. -/
def Stepped (xs : List OpR) (t : TokR) (bh : Bool) (op : Nat) (role : Int) (w w' : World) (p bo bs : Nat) : Prop :=
  (0 ≤ role → Ft w' p bo bs (bhOf xs t bh) (opOf t op)) ∧ Kept1 w w' p

set_option maxHeartbeats 4000000 in
theorem stepBefore_any (p bo bs op : Nat) (last : Bool) (xs : List OpR) (t : TokR) (w : World) (h : Ft w p bo bs false op) (hi : Idx w bo bs xs xs.length) (ht : t.t.size ≤ maxLen) (hop : op ≤ 1048576) :
    Calls Tryz.prog 161 #[.pointer (some ⟨p, 0, none⟩), .agg #[.int .i64 t.k, .string t.g, .string t.t]] w fun e w' => e = .returned (.int .i64 (roleOf xs last t false op)) ∧ Stepped xs t false op (roleOf xs last t false op) w w' p bo bs := by
  have HI := hide (hi.kept (below1 w (.cells #[.int .i64 t.k, .string t.g, .string t.t] 97)))
  have HF := hide h
  clear hi
  obtain ⟨c0, c1, c2, c3, fz⟩ := h
  have f2 := fz 2
  have f3 := fz 3
  have hp : p < w.heap.size := block_lt_of_cell c0
  have hk : t.k = 1 ∨ t.k = 2 ∨ t.k = 4 ∨ t.k = 3 ∨ (t.k ≠ 1 ∧ t.k ≠ 2 ∧ t.k ≠ 4 ∧ t.k ≠ 3) := by omega
  rcases hk with hk | hk | hk | hk | hk
  · have hk' := hide hk
    have g1 : (t.k == 1) = true := by simp; omega
    have g2 : (t.k == 2) = false := by simp; omega
    have g4 : (t.k == 4) = false := by simp; omega
    have g3 : (t.k == 3) = false := by simp; omega
    clear hk
    go_enter Tryz.func161, Tryz.ntmps161
    go_wp2_with fail
    go_ret
    refine ⟨ret_int (by simp [roleOf, unhide hk']), fun _ => ?_, (kept_set w p 2 _).trans (Kept1.of_below (below1 _ _))⟩
    rw [show bhOf xs t false = true by simp [bhOf, unhide hk'], show opOf t op = op by simp [opOf, unhide hk']]
    exact ((unhide HF).set2 true).kept (below1 _ _)
  · have hk' := hide hk
    have g1 : (t.k == 1) = false := by simp; omega
    have g2 : (t.k == 2) = true := by simp; omega
    have g4 : (t.k == 4) = false := by simp; omega
    have g3 : (t.k == 3) = false := by simp; omega
    clear hk
    go_enter Tryz.func161, Tryz.ntmps161
    go_wp2_with fail
    go_ret
    refine ⟨ret_int (by simp [roleOf, unhide hk']), fun _ => ?_, (kept_set w p 2 _).trans (Kept1.of_below (below1 _ _))⟩
    rw [show bhOf xs t false = true by simp [bhOf, unhide hk'], show opOf t op = op by simp [opOf, unhide hk']]
    exact ((unhide HF).set2 true).kept (below1 _ _)
  · have hk' := hide hk
    have g1 : (t.k == 1) = false := by simp; omega
    have g2 : (t.k == 2) = false := by simp; omega
    have g4 : (t.k == 4) = true := by simp; omega
    have g3 : (t.k == 3) = false := by simp; omega
    clear hk
    go_enter Tryz.func161, Tryz.ntmps161
    go_wp2_with fail
    go_ret
    refine ⟨ret_int (by simp [roleOf, unhide hk']), fun _ => ?_, (kept_set w p 3 _).trans (Kept1.of_below (below1 _ _))⟩
    rw [show bhOf xs t false = false by simp [bhOf, unhide hk'], show opOf t op = op + 1 by simp [opOf, unhide hk']]
    exact ((unhide HF).set3 (op + 1) _ (by omega)).kept (below1 _ _)
  · have hk' := hide hk
    have g1 : (t.k == 1) = false := by simp; omega
    have g2 : (t.k == 2) = false := by simp; omega
    have g4 : (t.k == 4) = false := by simp; omega
    have g3 : (t.k == 3) = true := by simp; omega
    clear hk
    have d0 := ((below1 w (.cells #[.int .i64 t.k, .string t.g, .string t.t] 97)).cell (p := ⟨p, 0, none⟩) hp).trans c0
    have d1 := ((below1 w (.cells #[.int .i64 t.k, .string t.g, .string t.t] 97)).cell (p := ⟨p, 1, none⟩) hp).trans c1
    have e2 : (w.alloc (.cells #[.int .i64 t.k, .string t.g, .string t.t] 97)).cell? ⟨w.heap.size, 2, none⟩ = some (.string t.t) := by simp [go_sem]
    have hz : p < (w.alloc (.cells #[.int .i64 t.k, .string t.g, .string t.t] 97)).heap.size := by simp; omega
    have hz' : w.heap.size < (w.alloc (.cells #[.int .i64 t.k, .string t.g, .string t.t] 97)).heap.size := by simp
    go_enter Tryz.func161, Tryz.ntmps161
    go_wp2_with fail
    go_region_held (fun w' => w'.cell? ⟨p, 0, none⟩ = some (.map (some bo)) ∧ w'.cell? ⟨p, 1, none⟩ = some (.map (some bs)) ∧ w'.cell? ⟨w.heap.size, 2, none⟩ = some (.string t.t)) (go_keep) (first | (go_at_call 123; refine (has_says bo bs xs.length xs t.t 1 _ ((unhide HI).kept (Below.refl _ _).drew) rfl ht (by decide)).mono ?_; rintro e w2 ⟨rfl, hb2⟩; have q0 := (hb2.cell (p := ⟨p, 0, none⟩) hz).trans (show (w.alloc (.cells #[.int .i64 t.k, .string t.g, .string t.t] 97)).drew.cell? ⟨p, 0, none⟩ = _ from d0); have q1 := (hb2.cell (p := ⟨p, 1, none⟩) hz).trans (show (w.alloc (.cells #[.int .i64 t.k, .string t.g, .string t.t] 97)).drew.cell? ⟨p, 1, none⟩ = _ from d1); have q2 := (hb2.cell (p := ⟨w.heap.size, 2, none⟩) hz').trans (show (w.alloc (.cells #[.int .i64 t.k, .string t.g, .string t.t] 97)).drew.cell? ⟨w.heap.size, 2, none⟩ = _ from e2); have HB2 := hide hb2; clear hb2))
    have hbel : Below w.heap.size w w2 := (below1 w (.cells #[.int .i64 t.k, .string t.g, .string t.t] 97)).trans (((Below.refl _ _).drew.trans (unhide HB2)).mono (Nat.le_of_lt hz'))
    cases hh : hasB xs t.t 1
    · have HH := hide hh
      go_wp2_with fail
      go_ret
      have hr : roleOf xs last t false op = -1 := by simp [roleOf, unhide hk', unhide HH]
      exact ⟨ret_int hr.symm, fun h0 => absurd h0 (by rw [hr]; decide), Kept1.of_below hbel⟩
    · have HH := hide hh
      go_wp2_with fail
      go_ret
      refine ⟨ret_int (by simp [roleOf, unhide hk', unhide HH]), fun _ => ?_, Kept1.of_below hbel⟩
      rw [show bhOf xs t false = false by simp [bhOf, unhide hk'], show opOf t op = op by simp [opOf, unhide hk']]
      exact (unhide HF).kept hbel
  · have hk' := hide hk
    have g1 : (t.k == 1) = false := by simp; omega
    have g2 : (t.k == 2) = false := by simp; omega
    have g4 : (t.k == 4) = false := by simp; omega
    have g3 : (t.k == 3) = false := by simp; omega
    clear hk
    go_enter Tryz.func161, Tryz.ntmps161
    go_wp2_with fail
    go_ret
    have hr : roleOf xs last t false op = -1 := by have := unhide hk'; simp [roleOf, this]
    exact ⟨ret_int hr.symm, fun h0 => absurd h0 (by rw [hr]; decide), Kept1.of_below (below1 _ _)⟩

/-- The role of an operator behind an operand. -/
def opRole (xs : List OpR) (s : ByteArray) : Int := if hasB xs s 2 = true then 2 else if hasB xs s 3 = true then 3 else -1

set_option maxHeartbeats 4000000 in
theorem stepOp_any (p bo bs op : Nat) (xs : List OpR) (s : ByteArray) (w : World) (h : Ft w p bo bs true op) (hi : Idx w bo bs xs xs.length) (ht : s.size ≤ maxLen) :
    Calls Tryz.prog 167 #[.pointer (some ⟨p, 0, none⟩), .string s] w fun e w' => e = .returned (.int .i64 (opRole xs s)) ∧ Hid (Ft w' p bo bs (!hasB xs s 2) op) ∧ Hid (Kept1 w w' p) := by
  have HI := hide hi
  have HF := hide h
  clear hi
  obtain ⟨c0, c1, c2, c3, fz⟩ := h
  have hp : p < w.heap.size := block_lt_of_cell c0
  go_enter Tryz.func167, Tryz.ntmps167
  go_wp2_with fail
  refine (has_says bo bs xs.length xs s 2 _ (unhide HI) rfl ht (by decide)).mono ?_
  rintro e w1 ⟨rfl, hb1⟩
  have HF1 := hide ((unhide HF).kept hb1)
  have HI1 := hide ((unhide HI).kept hb1)
  have HB1 := hide hb1
  have d0 := (unhide HF1).c0
  have d1 := (unhide HF1).c1
  have d2 := (unhide HF1).c2
  have g2 := (unhide HF1).fz 2
  clear hb1 HF HI
  cases hh : hasB xs s 2
  · have HH := hide hh
    go_wp2_with fail
    refine (has_says bo bs xs.length xs s 3 _ (unhide HI1) rfl ht (by decide)).mono ?_
    rintro e w2 ⟨rfl, hb2⟩
    have HF2 := hide ((unhide HF1).kept hb2)
    have bel2 := (unhide HB1).trans (hb2.mono (unhide HB1).size)
    cases hh3 : hasB xs s 3
    · have HH3 := hide hh3
      go_wp2_with fail
      go_ret
      exact ⟨ret_int (by simp [opRole, unhide HH, unhide HH3]), by simpa [unhide HH] using HF2, hide (Kept1.of_below bel2)⟩
    · have HH3 := hide hh3
      go_wp2_with fail
      go_ret
      exact ⟨ret_int (by simp [opRole, unhide HH, unhide HH3]), by simpa [unhide HH] using HF2, hide (Kept1.of_below bel2)⟩
  · have HH := hide hh
    go_wp2_with fail
    go_ret
    exact ⟨ret_int (by simp [opRole, unhide HH]), hide (by rw [unhide HH]; exact (unhide HF1).set2 false), hide ((Kept1.of_below (unhide HB1)).trans (kept_set _ p 2 _))⟩

set_option maxHeartbeats 4000000 in
theorem stepBehind_any (p bo bs op : Nat) (last : Bool) (xs : List OpR) (t : TokR) (w : World) (h : Ft w p bo bs true op) (hi : Idx w bo bs xs xs.length) (ht : t.t.size ≤ maxLen) (hop : op ≤ 1048576) :
    Calls Tryz.prog 160 #[.pointer (some ⟨p, 0, none⟩), .agg #[.int .i64 t.k, .string t.g, .string t.t], .bool last] w fun e w' => e = .returned (.int .i64 (roleOf xs last t true op)) ∧ Stepped xs t true op (roleOf xs last t true op) w w' p bo bs := by
  have HI := hide (hi.kept (below1 w (.cells #[.int .i64 t.k, .string t.g, .string t.t] 97)))
  have HF := hide (h.kept (below1 w (.cells #[.int .i64 t.k, .string t.g, .string t.t] 97)))
  clear hi
  have hp : p < w.heap.size := block_lt_of_cell h.c0
  have d0 := (unhide HF).c0
  have d3 := (unhide HF).c3
  have g3 := (unhide HF).fz 3
  have hc3 := h.c3
  have hf3 := h.fz 3
  have H0 := hide h
  clear h
  have hk : t.k = 3 ∨ t.k = 5 ∨ t.k = 7 ∨ (t.k ≠ 3 ∧ t.k ≠ 5 ∧ t.k ≠ 7) := by omega
  rcases hk with hk | hk | hk | hk
  · have hk' := hide hk
    have k3 : (t.k == 3) = true := by simp; omega
    clear hk
    go_enter Tryz.func160, Tryz.ntmps160
    go_wp2_with fail
    refine (stepOp_any p bo bs op xs t.t _ (unhide HF) (unhide HI) ht).mono ?_
    rintro e w1 ⟨rfl, hf1, hk1⟩
    go_wp2_with fail
    go_ret
    refine ⟨ret_int (by simp [roleOf, opRole, unhide hk']), fun _ => ?_, (Kept1.of_below (below1 _ _)).trans (unhide hk1)⟩
    rw [show bhOf xs t true = (!hasB xs t.t 2) by cases hb : hasB xs t.t 2 <;> simp [bhOf, unhide hk', hb], show opOf t op = op by simp [opOf, unhide hk']]
    exact unhide hf1
  · have hk' := hide hk
    have k3 : (t.k == 3) = false := by simp; omega
    have k5 : (t.k == 5) = true := by simp; omega
    clear hk
    by_cases ho : 0 < op
    · have HO := hide ho
      have ho' : (0 : Int) < (op : Int) := by omega
      go_enter Tryz.func160, Tryz.ntmps160
      go_wp2_with fail
      go_ret
      refine ⟨ret_int (by simp [roleOf, unhide hk', unhide HO]), fun _ => ?_, ?_⟩
      · rw [show bhOf xs t true = true by simp [bhOf, unhide hk'], show opOf t op = op - 1 by simp [opOf, unhide hk']]
        first
          | exact ((unhide H0).set3 (op - 1) _ (by omega)).kept (below1 _ _)
          | exact (unhide HF).set3 (op - 1) _ (by omega)
      · first
          | exact (kept_set w p 3 _).trans (Kept1.of_below (below1 _ _))
          | exact (Kept1.of_below (below1 _ _)).trans (kept_set _ p 3 _)
    · have HO := hide ho
      have ho' : ¬ (0 : Int) < (op : Int) := by omega
      go_enter Tryz.func160, Tryz.ntmps160
      go_wp2_with fail
      go_ret
      have hr : roleOf xs last t true op = -1 := by simp [roleOf, unhide hk', unhide HO]
      exact ⟨ret_int hr.symm, fun h0 => absurd h0 (by rw [hr]; decide), Kept1.of_below (below1 _ _)⟩
  · have hk' := hide hk
    have k3 : (t.k == 3) = false := by simp; omega
    have k5 : (t.k == 5) = false := by simp; omega
    have k7 : (t.k == 7) = true := by simp; omega
    clear hk
    by_cases ho : op = 0
    · subst ho
      cases last
      · go_enter Tryz.func160, Tryz.ntmps160
        go_wp2_with fail
        go_ret
        have hr : roleOf xs false t true 0 = -1 := by simp [roleOf, unhide hk']
        exact ⟨ret_int hr.symm, fun h0 => absurd h0 (by rw [hr]; decide), Kept1.of_below (below1 _ _)⟩
      · go_enter Tryz.func160, Tryz.ntmps160
        go_wp2_with fail
        go_ret
        refine ⟨ret_int (by simp [roleOf, unhide hk']), fun _ => ?_, Kept1.of_below (below1 _ _)⟩
        rw [show bhOf xs t true = true by simp [bhOf, unhide hk'], show opOf t 0 = 0 by simp [opOf, unhide hk']]
        exact unhide HF
    · have HO := hide ho
      have ho' : ((op : Int) == 0) = false := by simp; omega
      go_enter Tryz.func160, Tryz.ntmps160
      go_wp2_with fail
      go_ret
      have hr : roleOf xs last t true op = -1 := by simp [roleOf, unhide hk', unhide HO]
      exact ⟨ret_int hr.symm, fun h0 => absurd h0 (by rw [hr]; decide), Kept1.of_below (below1 _ _)⟩
  · have hk' := hide hk
    have k3 : (t.k == 3) = false := by simp; omega
    have k5 : (t.k == 5) = false := by simp; omega
    have k7 : (t.k == 7) = false := by simp; omega
    clear hk
    go_enter Tryz.func160, Tryz.ntmps160
    go_wp2_with fail
    go_ret
    have hr : roleOf xs last t true op = -1 := by have := unhide hk'; simp [roleOf, this]
    exact ⟨ret_int hr.symm, fun h0 => absurd h0 (by rw [hr]; decide), Kept1.of_below (below1 _ _)⟩

set_option maxHeartbeats 4000000 in
theorem step_any (p bo bs op : Nat) (bh last : Bool) (xs : List OpR) (t : TokR) (w : World) (h : Ft w p bo bs bh op) (hi : Idx w bo bs xs xs.length) (ht : t.t.size ≤ maxLen) (hop : op ≤ 1048576) :
    Calls Tryz.prog 131 #[.pointer (some ⟨p, 0, none⟩), .agg #[.int .i64 t.k, .string t.g, .string t.t], .bool last] w fun e w' => e = .returned (.int .i64 (roleOf xs last t bh op)) ∧ Stepped xs t bh op (roleOf xs last t bh op) w w' p bo bs := by
  have HI := hide (hi.kept (below1 w (.cells #[.int .i64 t.k, .string t.g, .string t.t] 97)))
  have HF := hide (h.kept (below1 w (.cells #[.int .i64 t.k, .string t.g, .string t.t] 97)))
  have hp : p < w.heap.size := block_lt_of_cell h.c0
  have d2 := (unhide HF).c2
  clear hi h
  cases bh
  · go_enter Tryz.func131, Tryz.ntmps131
    go_wp2_with fail
    refine (stepBefore_any p bo bs op last xs t _ (unhide HF) (unhide HI) ht hop).mono ?_
    rintro e w1 ⟨rfl, hs1, hk1⟩
    have HS1 := hide hs1
    have HK1 := hide hk1
    clear hs1 hk1
    go_wp2_with fail
    go_ret
    exact ⟨rfl, unhide HS1, (Kept1.of_below (below1 _ _)).trans (unhide HK1)⟩
  · go_enter Tryz.func131, Tryz.ntmps131
    go_wp2_with fail
    refine (stepBehind_any p bo bs op last xs t _ (unhide HF) (unhide HI) ht hop).mono ?_
    rintro e w1 ⟨rfl, hs1, hk1⟩
    have HS1 := hide hs1
    have HK1 := hide hk1
    clear hs1 hk1
    go_wp2_with fail
    go_ret
    exact ⟨rfl, unhide HS1, (Kept1.of_below (below1 _ _)).trans (unhide HK1)⟩
end Go.Proofs.YtfboipappaonhaaGreat

/-
  Walk: the specification's Lex.
-/
namespace Go.Proofs.YtfboipappaonhaaGreat
set_option maxRecDepth 100000
open Go.RowKit

theorem code_ok {xs : List OpR} (h : IsCode xs 0) : okTo xs xs.length := by
  rcases h with ⟨h, _⟩ | ⟨_, ⟨h, _⟩ | ⟨h, _⟩⟩
  · exact absurd h (by decide)
  · exact absurd h (by decide)
  · exact h

theorem owns_capT {w : World} {base e size g n cap : Nat} {xs : List Value} (h : w.ownsRow base e size (.slice (some ⟨g, 0, none⟩) n cap) n xs) : n ≤ cap ∧ cap ≤ maxLen := by
  obtain ⟨_, ⟨h, _⟩ | ⟨g', cap', cur, h, _, _, h1, h2, _⟩⟩ := h
  · cases h
  · injection h with _ _ h
    subst h
    exact ⟨h1, h2⟩

set_option maxHeartbeats 4000000 in
theorem specLexC_any (b off cap : Nat) (xs : List OpR) (s : ByteArray) (w : World) (hm : xs.length ≤ 1048576) (hw : Ops w b off xs) (hsz : Sized xs) (hB : b < w.heap.size) (hs : s.size ≤ maxLen) :
    Calls Tryz.prog 56 #[.agg #[.slice (some ⟨b, off, none⟩) xs.length cap], .string s] w fun e w' => (∃ (g c : Nat) (us : List TokR) (v : Bool), e = .returned (.tuple #[.slice (some ⟨g, 0, none⟩) us.length c, .bool v]) ∧ (w.heap.size ≤ g ∧ us.length ≤ c ∧ c ≤ maxLen) ∧ FilledT w' g us us.length ∧ LexIs xs (IsCode xs 0) s us v) ∧ Below w.heap.size w w' := by
  unfold maxLen at hs
  have HW := hide hw
  have HS := hide hsz
  clear hw hsz
  go_enter Tryz.func56, Tryz.ntmps56
  go_wp2_with fail
  refine (specTableOk_any b off cap xs _ hm ((unhide HW).below ((below1 _ _).alloc (by simp) _) hB) (unhide HS) (by simp; omega)).mono ?_
  rintro e w1 ⟨⟨c, rfl, hc⟩, hb1⟩
  have HC := hide hc
  have z1 : w.heap.size + 2 ≤ w1.heap.size := by have := hb1.size; simp at this; omega
  have bel1 : Below w.heap.size w w1 := ((below1 _ _).alloc (by simp) _).trans (hb1.mono (by simp; omega))
  have c1 : w1.cell? ⟨w.heap.size, 0, none⟩ = some (.slice (some ⟨b, off, none⟩) xs.length cap) := by rw [hb1.cell (p := ⟨w.heap.size, 0, none⟩) (by simp; omega)]; simp [go_sem]
  have HO := hide (show w1.ownsRow (w.heap.size + 1) 97 3 (.slice (some ⟨w.heap.size + 1, 0, none⟩) 0 0) 0 (cellsTk []) by
    have h0 := World.ownsRow_lit (base := w.heap.size + 1) (e := 97) (size := 3) (w.alloc (.cells #[.slice (some ⟨b, off, none⟩) xs.length cap] 25)) #[] 0 (by simp) (Nat.zero_le _) rfl
    have h1 := h0.kept (grown_bel hb1 none) (Or.inr (by simp [Value.ownBlock]))
    simpa [cellsTk] using h1)
  have bel1' : Below (w.heap.size + 1) (w.alloc (.cells #[.slice (some ⟨b, off, none⟩) xs.length cap] 25)) w1 := ((below1 _ _).mono (by simp)).trans (hb1.mono (by simp))
  clear hb1 hc
  by_cases hc0 : c = 0
  case neg =>
    have hc0' : (c != 0) = true := by simpa using hc0
    have HN := hide (show ¬ (IsCode xs 0 ∧ s.size ≤ 20000) from fun h => hc0 (IsCode_one (unhide HC) h.1))
    clear hc0
    go_wp2_with fail
    go_ret2
    obtain ⟨hg, hf⟩ := owns_filledT (zs := []) (unhide HO)
    exact ⟨⟨w.heap.size + 1, 0, [], false, rfl, ⟨by omega, Nat.le_refl _, Nat.zero_le _⟩, hf, Or.inr ⟨unhide HN, rfl, rfl⟩⟩, bel1⟩
  subst hc0
  by_cases h2 : 20000 < s.size
  · have HN := hide (show ¬ (IsCode xs 0 ∧ s.size ≤ 20000) from fun h => by omega)
    have h2' : (20000 : Int) < (s.size : Int) := by omega
    go_wp2_with fail
    go_ret2
    obtain ⟨hg, hf⟩ := owns_filledT (zs := []) (unhide HO)
    exact ⟨⟨w.heap.size + 1, 0, [], false, rfl, ⟨by omega, Nat.le_refl _, Nat.zero_le _⟩, hf, Or.inr ⟨unhide HN, rfl, rfl⟩⟩, bel1⟩
  have HV := hide (signTexts_of (code_ok (unhide HC)))
  have HK := hide (kinds_of (code_ok (unhide HC)))
  have h20 : s.size ≤ 20000 := by omega
  clear hs h2
  go_wp2_with fail
  obtain ⟨i0, hi, hz0, hz1, hz2⟩ := info_parts infoT
  have HI := hide hi
  have HZ := hide (And.intro hz0 (And.intro hz1 hz2))
  clear hi hz0 hz1 hz2 c1
  go_loopw [6, 7] (fun out i wr => ∃ (p go co : Nat) (acc : List TokR), p ≤ s.size ∧ i = .int .i64 (p : Int) ∧ out = .slice (some ⟨go, 0, none⟩) acc.length co ∧ Hid (Read xs s p acc) ∧ Hid (wr.ownsRow (w.heap.size + 1) 97 3 (.slice (some ⟨go, 0, none⟩) acc.length co) acc.length (cellsTk acc)) ∧ Below (w.heap.size + 1) (w.alloc (.cells #[.slice (some ⟨b, off, none⟩) xs.length cap] 25)) wr) (fun _ i _ => s.size - (intOf i).toNat)
  case atStart => exact ⟨0, w.heap.size + 1, 0, [], Nat.zero_le _, rfl, rfl, hide (Read.start xs s), HO, bel1'⟩
  case round =>
    clear HO bel1'
    obtain ⟨p, go, co, acc, hp, rfl, rfl, hrd, hown, hbel⟩ := hrel
    have hbw : Below w.heap.size w wr := (below1 _ _).trans (hbel.mono (by omega))
    have zw : w.heap.size < wr.heap.size := by have := hbel.size; simp at this; omega
    have c0 : wr.cell? ⟨w.heap.size, 0, none⟩ = some (.slice (some ⟨b, off, none⟩) xs.length cap) := by
      rw [hbel.cell (p := ⟨w.heap.size, 0, none⟩) (show w.heap.size < _ by omega)]; simp [go_sem]
    go_wp2_with fail
    go_loop [7] (fun iv => ∃ j : Nat, p ≤ j ∧ j ≤ s.size ∧ iv = .int .i64 (j : Int) ∧ Hid (Blanks s p j)) (fun iv => s.size - (intOf iv).toNat)
    case atStart => exact ⟨p, Nat.le_refl _, hp, rfl, hide (fun q h1 h2 => by omega)⟩
    case round =>
      obtain ⟨j, hpj, hj, rfl, hbl⟩ := hrel
      by_cases hlt : j < s.size
      · cases hb : decide (cls s[j] = 1)
        · have hnb := hide (show cls (bt s j) ≠ 1 by rw [bt_get hlt] at hb; simpa using hb)
          have hj' : ((j : Int) == (s.size : Int)) = false := by simp; omega
          have hal : acc.length ≤ 20000 := by have := (unhide hrd).1; omega
          go_wp2_with (go_at_call 103; refine (l2Blank_any _ _).mono ?_; rintro e w2 ⟨rfl, hx⟩; obtain rfl := hx.symm)
          refine (l2Longest_any b off cap xs s j _ hm ((unhide HW).below hbw hB) (by omega) (unhide HK) (by omega) hlt).mono ?_
          rintro e w2 ⟨⟨n, rfl, hn⟩, hb2⟩
          have htok := longest_tok (unhide HV) hn (unhide hnb)
          have hjn : j + n ≤ s.size := htok.2.1
          have hn1 : 1 ≤ n := htok.1
          have HT := hide htok
          have hbel2 := hbel.trans (hb2.mono zw)
          have hbw2 : Below w.heap.size w w2 := (below1 _ _).trans (hbel2.mono (by omega))
          have z2 : w.heap.size < w2.heap.size := Nat.lt_of_lt_of_le zw hb2.size
          have hown2 := hide ((unhide hown).kept (grown_bel hb2 none) (Or.inr (by simp [Value.ownBlock])))
          have d0 : w2.cell? ⟨w.heap.size, 0, none⟩ = some (.slice (some ⟨b, off, none⟩) xs.length cap) := (hb2.cell (p := ⟨w.heap.size, 0, none⟩) zw).trans c0
          have hwr : IntKind.i64.wrap ((j : Int) + (n : Int)) = (j : Int) + (n : Int) := by rw [IntKind.wrap_i64]; omega
          have hs1 : (j : Int) ≤ (j : Int) + (n : Int) := by omega
          have hs2 : (j : Int) + (n : Int) ≤ (s.size : Int) := by omega
          have hs3 : (0 : Int) ≤ (j : Int) + (n : Int) := by omega
          have htn : ((j : Int) + (n : Int)).toNat = j + n := by omega
          have hs4 : (p : Int) ≤ (j : Int) := by omega
          have hs5 : (j : Int) ≤ (s.size : Int) := by omega
          have zb : b < w2.heap.size := by omega
          clear hn htok hb2 hown hbel hbw c0
          go_wp2_with fail
          go_region_held_law (fun w' => w'.cell? ⟨w.heap.size, 0, none⟩ = some (.slice (some ⟨b, off, none⟩) xs.length cap)) (go_keep)
            (first | (go_at_call 105; refine (l2Kind_any b off cap xs (sub s j n) _ hm ((unhide HW).below hbw2.drew hB) zb (unhide HK) (by rw [sub_size hjn]; unfold maxLen; omega)).mono ?_; rintro e w3 ⟨rfl, hb3⟩; have c3 := (hb3.cell (p := ⟨w.heap.size, 0, none⟩) z2).trans (show w2.drew.cell? ⟨w.heap.size, 0, none⟩ = _ from d0); have hbel3 := hbel2.drew.trans (hb3.mono z2); have hown3 := hide ((unhide hown2).drew.kept (grown_bel hb3 none) (Or.inr (by simp [Value.ownBlock]))); have z3 := Nat.lt_of_lt_of_le z2 hb3.size; have hgo := hide ((unhide hown3).lt go rfl)) | (refine step_append_lies _ (by rfl) (.tmp 49) (.tmp 69) 72 (by rfl) (w.heap.size + 1) 97 i0 _ 3 40 Tryz.underlying72 (unhide HI) (unhide HZ).1 (unhide HZ).2.1 (unhide HZ).2.2 rfl (by decide) _ acc.length (cellsTk acc) (by rfl) ((unhide hown3).alloc _) ⟨w3.heap.size, 0, none⟩ 1 1 (cellsTk [⟨(kindT xs (sub s j n) : Int), s.extract p j, s.extract j (j + n)⟩]) (by rfl) rfl (new_newsT w3 ⟨(kindT xs (sub s j n) : Int), s.extract p j, s.extract j (j + n)⟩) (cellsTk_one' _) (by decide) (by unfold maxLen; omega) (by omega) (by simp; omega) _ rfl ?_; intro g4 c4 w4 hown4 hgrow4 _ hlt4; have q4 := (hgrow4.cell_far ⟨w.heap.size, 0, none⟩ (by simp; omega) (by have := unhide hgo; simp [Value.ownBlock]; omega)).trans (((below1 w3 _).cell (p := ⟨w.heap.size, 0, none⟩) z3).trans c3); simp only [List.getElem_toArray, List.getElem_cons_succ, List.getElem_cons_zero]; simp only [Act.put, List.setIfInBounds_toArray, List.set_cons_zero, List.set_cons_succ]))
          have hbel4 : Below (w.heap.size + 1) _ w4 := (hbel3.alloc z3 _).grown hgrow4 (by simp; omega) (fun q hq => by have := unhide hgo; simp [Value.ownBlock] at hq; omega)
          rw [← cellsTk_append] at hown4
          have hl4 : acc.length + 1 = (acc ++ [(⟨(kindT xs (sub s j n) : Int), s.extract p j, s.extract j (j + n)⟩ : TokR)]).length := by simp
          rw [hl4] at hown4 ⊢
          have HW4 := hide hown4
          clear hown4 hgrow4 hown3 hown2 hbel3 hbel2 c3 q4
          go_wp2
          refine ⟨⟨j + n, g4, c4, _, hjn, by go_num, rfl, hide ((unhide hrd).step hpj hlt (unhide hbl) (unhide hnb) (unhide HT)), HW4, hbel4⟩, by simp [intOf]; omega⟩
        · have Hb := hide (show Blanks s p (j + 1) from fun q h1 h2 => by
            by_cases e : q = j
            · subst e
              rw [bt_get hlt] at hb
              simpa using hb
            · exact (unhide hbl) q h1 (by omega))
          go_wp2_with (go_at_call 103; refine (l2Blank_any _ _).mono ?_; rintro e w' ⟨rfl, rfl⟩)
          exact ⟨⟨j + 1, by omega, by omega, by go_num, Hb⟩, by simp [intOf]; omega⟩
      · have HJ := hide (show j = s.size by omega)
        have hj' : ((j : Int) == (s.size : Int)) = true := by simp; omega
        have hal : acc.length ≤ 20000 := by have := (unhide hrd).1; omega
        go_wp2_with (at_builtin; refine wpList_append_own _ rfl (.tmp 37) (.tmp 43) 72 rfl (w.heap.size + 1) 97 i0 _ 3 40 Tryz.underlying72 (unhide HI) (unhide HZ).1 (unhide HZ).2.1 (unhide HZ).2.2 rfl (by decide) _ acc.length (cellsTk acc) rfl ((unhide hown).alloc _) ⟨wr.heap.size, 0, none⟩ 1 1 (cellsTk [⟨7, s.extract p j, ⟨#[]⟩⟩]) rfl rfl (new_newsT wr ⟨7, s.extract p j, ⟨#[]⟩⟩) (cellsTk_one' _) ?b1 ?b2 ?b3 ?next)
        case b1 => unfold maxLen; omega
        case b2 => omega
        case b3 => have := hbel.size; simp; omega
        case next =>
          intro v4 w4 hown4 hgrow4 hnil4
          have hgo := (unhide hown).lt go rfl
          have hbel4 : Below w.heap.size w w4 := (hbw.alloc hbw.size _).grown hgrow4 (by have := hbw.size; simp; omega) (fun q hq => by simp [Value.ownBlock] at hq; omega)
          obtain ⟨g4, c4, rfl⟩ := owns_bval hown4 (by simp [hnil4])
          rw [← cellsTk_append] at hown4
          have hl4 : acc.length + 1 = (acc ++ [(⟨7, s.extract p j, ⟨#[]⟩⟩ : TokR)]).length := by simp
          rw [hl4] at hown4 ⊢
          have HW4 := hide hown4
          clear hown4 hgrow4 hnil4
          go_wp2
          go_ret2
          obtain ⟨hg, hf⟩ := owns_filledT (unhide HW4)
          have hdn := (unhide hrd).done hp (unhide HJ ▸ unhide hbl)
          rw [← unhide HJ] at hdn
          exact ⟨⟨g4, c4, _, true, rfl, ⟨by omega, owns_capT (unhide HW4)⟩, hf, Or.inl ⟨⟨unhide HC, h20⟩, rfl, hdn⟩⟩, hbel4⟩

theorem specLex_any (b off cap : Nat) (xs : List OpR) (s : ByteArray) (w : World) (hm : xs.length ≤ 1048576) (hw : Ops w b off xs) (hsz : Sized xs) (hB : b < w.heap.size) (hs : s.size ≤ maxLen) :
    Calls Tryz.prog 56 #[.agg #[.slice (some ⟨b, off, none⟩) xs.length cap], .string s] w fun e w' => (∃ (g c : Nat) (us : List TokR) (v : Bool), e = .returned (.tuple #[.slice (some ⟨g, 0, none⟩) us.length c, .bool v]) ∧ w.heap.size ≤ g ∧ FilledT w' g us us.length ∧ LexIs xs (IsCode xs 0) s us v) ∧ Below w.heap.size w w' :=
  (specLexC_any b off cap xs s w hm hw hsz hB hs).mono (fun _ _ ⟨⟨g, c, us, v, h0, ⟨h1, _, _⟩, h2, h3⟩, hb⟩ => ⟨⟨g, c, us, v, h0, h1, h2, h3⟩, hb⟩)
end Go.Proofs.YtfboipappaonhaaGreat
