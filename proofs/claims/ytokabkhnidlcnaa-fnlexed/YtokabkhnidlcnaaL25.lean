import Derived.Test.YtokabkhnidlcnaaL02
import Derived.Test.YtokabkhnidlcnaaL19
import Derived.Test.YtokabkhnidlcnaaL20
import Derived.Test.YtokabkhnidlcnaaL22
import Derived.Test.YtokabkhnidlcnaaL23

/-
  Walks: the program's fitter.
-/
namespace Go.Proofs.Ytokabkhnidlcnaa
set_option maxRecDepth 100000
set_option linter.unusedSimpArgs false
open Go.RowKit Go.Maps

/-- A fitter in memory. -/
structure Ft (w : World) (p bo bs : Nat) (bh : Bool) (op : Nat) : Prop where
  c0 : w.cell? ⟨p, 0, none⟩ = some (.map (some bo))
  c1 : w.cell? ⟨p, 1, none⟩ = some (.map (some bs))
  c2 : w.cell? ⟨p, 2, none⟩ = some (.bool bh)
  c3 : w.cell? ⟨p, 3, none⟩ = some (.int .i64 (op : Int))
  fz : ∀ o, w.frozen? ⟨p, o, none⟩ = false

theorem has_says (bo bs n : Nat) (xs : List OpR) (t : ByteArray) (kd : Int) (w : World) (hi : Idx w bo bs xs n) (hn : n = xs.length) (ht : t.size ≤ maxLen) (hk : (Lit.int .i64 kd).wf = true) :
    Calls Try.prog 69 #[.agg #[.map (some bo), .map (some bs)], .string t, .int .i64 kd] w fun e w' => e = .returned (.bool (hasB xs t kd)) ∧ Below w.heap.size w w' := by
  subst hn
  obtain ⟨⟨D, hown, hD⟩, _, _⟩ := hi
  refine (has_any bo bs xs.length D t kd w hown ht hk).mono ?_
  rintro e w' ⟨rfl, hb⟩
  refine ⟨?_, hb⟩
  have h := (hD t kd ht hk).1
  have : Maps.has D (klO t kd) = hasB xs t kd := by
    rw [Bool.eq_iff_iff, h, hasB_iff]
    rfl
  rw [this]

theorem Ft.kept {w w' : World} {p bo bs op : Nat} {bh : Bool} (h : Ft w p bo bs bh op) (hb : Below w.heap.size w w') : Ft w' p bo bs bh op := by
  have hp : p < w.heap.size := block_lt_of_cell h.c0
  have e := fun o => hb.cell (p := ⟨p, o, none⟩) hp
  exact ⟨(e _).trans h.c0, (e _).trans h.c1, (e _).trans h.c2, (e _).trans h.c3, fun o => (hb.frozen (p := ⟨p, o, none⟩) hp).trans (h.fz o)⟩
theorem Ft.set2 {w : World} {p bo bs op : Nat} {bh : Bool} (h : Ft w p bo bs bh op) (b' : Bool) : Ft (w.setCell ⟨p, 2, none⟩ (.bool b')) p bo bs b' op :=
  ⟨(World.cell?_setCell_other _ _ _ _ (by simp)).trans h.c0, (World.cell?_setCell_other _ _ _ _ (by simp)).trans h.c1, World.cell?_setCell_same _ _ _ h.c2, (World.cell?_setCell_other _ _ _ _ (by simp)).trans h.c3, fun o => (World.frozen?_setCell _ _ _ _).trans (h.fz o)⟩
theorem Ft.set3 {w : World} {p bo bs op : Nat} {bh : Bool} (h : Ft w p bo bs bh op) (op' : Nat) (n : Int) (hn : n = (op' : Int)) : Ft (w.setCell ⟨p, 3, none⟩ (.int .i64 n)) p bo bs bh op' := by
  subst hn
  exact ⟨(World.cell?_setCell_other _ _ _ _ (by simp)).trans h.c0, (World.cell?_setCell_other _ _ _ _ (by simp)).trans h.c1, (World.cell?_setCell_other _ _ _ _ (by simp)).trans h.c2, World.cell?_setCell_same _ _ _ h.c3, fun o => (World.frozen?_setCell _ _ _ _).trans (h.fz o)⟩
theorem kept_set (w : World) (p o : Nat) (v : Value) : Kept1 w (w.setCell ⟨p, o, none⟩ v) p := kept1_setCells [v] o w

/-- What a step leaves. -/
def Stepped (xs : List OpR) (t : TokR) (bh : Bool) (op : Nat) (role : Int) (w w' : World) (p bo bs : Nat) : Prop :=
  (0 ≤ role → Ft w' p bo bs (bhOf xs t bh) (opOf t op)) ∧ Kept1 w w' p

set_option maxHeartbeats 4000000 in
theorem stepBefore_any (p bo bs op : Nat) (last : Bool) (xs : List OpR) (t : TokR) (w : World) (h : Ft w p bo bs false op) (hi : Idx w bo bs xs xs.length) (ht : t.t.size ≤ maxLen) (hop : op ≤ 1048576) :
    Calls Try.prog 77 #[.pointer (some ⟨p, 0, none⟩), .agg #[.int .i64 t.k, .string t.g, .string t.t]] w fun e w' => e = .returned (.int .i64 (roleOf xs last t false op)) ∧ Stepped xs t false op (roleOf xs last t false op) w w' p bo bs := by
  have HI := hide (hi.kept (below1 w (.cells #[.int .i64 t.k, .string t.g, .string t.t] 60)))
  have HF := hide h
  clear hi
  obtain ⟨c0, c1, c2, c3, fz⟩ := h
  have f2 := fz 2
  have f3 := fz 3
  have hp : p < w.heap.size := block_lt_of_cell c0
  have hk : t.k = 1 ∨ t.k = 2 ∨ t.k = 4 ∨ t.k = 3 ∨ (t.k ≠ 1 ∧ t.k ≠ 2 ∧ t.k ≠ 4 ∧ t.k ≠ 3) := by omega
  rcases hk with hk | hk | hk | hk | hk
  · have hk' := hide hk
    have g1 : (t.k == 1) = true := by simp; omega
    have g2 : (t.k == 2) = false := by simp; omega
    have g4 : (t.k == 4) = false := by simp; omega
    have g3 : (t.k == 3) = false := by simp; omega
    clear hk
    go_enter Try.func77, Try.ntmps77
    go_wp2_with fail
    go_ret
    refine ⟨ret_int (by simp [roleOf, unhide hk']), fun _ => ?_, (kept_set w p 2 _).trans (Kept1.of_below (below1 _ _))⟩
    rw [show bhOf xs t false = true by simp [bhOf, unhide hk'], show opOf t op = op by simp [opOf, unhide hk']]
    exact ((unhide HF).set2 true).kept (below1 _ _)
  · have hk' := hide hk
    have g1 : (t.k == 1) = false := by simp; omega
    have g2 : (t.k == 2) = true := by simp; omega
    have g4 : (t.k == 4) = false := by simp; omega
    have g3 : (t.k == 3) = false := by simp; omega
    clear hk
    go_enter Try.func77, Try.ntmps77
    go_wp2_with fail
    go_ret
    refine ⟨ret_int (by simp [roleOf, unhide hk']), fun _ => ?_, (kept_set w p 2 _).trans (Kept1.of_below (below1 _ _))⟩
    rw [show bhOf xs t false = true by simp [bhOf, unhide hk'], show opOf t op = op by simp [opOf, unhide hk']]
    exact ((unhide HF).set2 true).kept (below1 _ _)
  · have hk' := hide hk
    have g1 : (t.k == 1) = false := by simp; omega
    have g2 : (t.k == 2) = false := by simp; omega
    have g4 : (t.k == 4) = true := by simp; omega
    have g3 : (t.k == 3) = false := by simp; omega
    clear hk
    go_enter Try.func77, Try.ntmps77
    go_wp2_with fail
    go_ret
    refine ⟨ret_int (by simp [roleOf, unhide hk']), fun _ => ?_, (kept_set w p 3 _).trans (Kept1.of_below (below1 _ _))⟩
    rw [show bhOf xs t false = false by simp [bhOf, unhide hk'], show opOf t op = op + 1 by simp [opOf, unhide hk']]
    exact ((unhide HF).set3 (op + 1) _ (by omega)).kept (below1 _ _)
  · have hk' := hide hk
    have g1 : (t.k == 1) = false := by simp; omega
    have g2 : (t.k == 2) = false := by simp; omega
    have g4 : (t.k == 4) = false := by simp; omega
    have g3 : (t.k == 3) = true := by simp; omega
    clear hk
    have d0 := ((below1 w (.cells #[.int .i64 t.k, .string t.g, .string t.t] 60)).cell (p := ⟨p, 0, none⟩) hp).trans c0
    have d1 := ((below1 w (.cells #[.int .i64 t.k, .string t.g, .string t.t] 60)).cell (p := ⟨p, 1, none⟩) hp).trans c1
    have e2 : (w.alloc (.cells #[.int .i64 t.k, .string t.g, .string t.t] 60)).cell? ⟨w.heap.size, 2, none⟩ = some (.string t.t) := by simp [go_sem]
    have hz : p < (w.alloc (.cells #[.int .i64 t.k, .string t.g, .string t.t] 60)).heap.size := by simp; omega
    have hz' : w.heap.size < (w.alloc (.cells #[.int .i64 t.k, .string t.g, .string t.t] 60)).heap.size := by simp
    go_enter Try.func77, Try.ntmps77
    go_wp2_with fail
    go_region_held (fun w' => w'.cell? ⟨p, 0, none⟩ = some (.map (some bo)) ∧ w'.cell? ⟨p, 1, none⟩ = some (.map (some bs)) ∧ w'.cell? ⟨w.heap.size, 2, none⟩ = some (.string t.t)) (go_keep) (first | (go_at_call 69; refine (has_says bo bs xs.length xs t.t 1 _ ((unhide HI).kept (Below.refl _ _).drew) rfl ht (by decide)).mono ?_; rintro e w2 ⟨rfl, hb2⟩; have q0 := (hb2.cell (p := ⟨p, 0, none⟩) hz).trans (show (w.alloc (.cells #[.int .i64 t.k, .string t.g, .string t.t] 60)).drew.cell? ⟨p, 0, none⟩ = _ from d0); have q1 := (hb2.cell (p := ⟨p, 1, none⟩) hz).trans (show (w.alloc (.cells #[.int .i64 t.k, .string t.g, .string t.t] 60)).drew.cell? ⟨p, 1, none⟩ = _ from d1); have q2 := (hb2.cell (p := ⟨w.heap.size, 2, none⟩) hz').trans (show (w.alloc (.cells #[.int .i64 t.k, .string t.g, .string t.t] 60)).drew.cell? ⟨w.heap.size, 2, none⟩ = _ from e2); have HB2 := hide hb2; clear hb2))
    have hbel : Below w.heap.size w w2 := (below1 w (.cells #[.int .i64 t.k, .string t.g, .string t.t] 60)).trans (((Below.refl _ _).drew.trans (unhide HB2)).mono (Nat.le_of_lt hz'))
    cases hh : hasB xs t.t 1
    · have HH := hide hh
      go_wp2_with fail
      go_ret
      have hr : roleOf xs last t false op = -1 := by simp [roleOf, unhide hk', unhide HH]
      exact ⟨ret_int hr.symm, fun h0 => absurd h0 (by rw [hr]; decide), Kept1.of_below hbel⟩
    · have HH := hide hh
      go_wp2_with fail
      go_ret
      refine ⟨ret_int (by simp [roleOf, unhide hk', unhide HH]), fun _ => ?_, Kept1.of_below hbel⟩
      rw [show bhOf xs t false = false by simp [bhOf, unhide hk'], show opOf t op = op by simp [opOf, unhide hk']]
      exact (unhide HF).kept hbel
  · have hk' := hide hk
    have g1 : (t.k == 1) = false := by simp; omega
    have g2 : (t.k == 2) = false := by simp; omega
    have g4 : (t.k == 4) = false := by simp; omega
    have g3 : (t.k == 3) = false := by simp; omega
    clear hk
    go_enter Try.func77, Try.ntmps77
    go_wp2_with fail
    go_ret
    have hr : roleOf xs last t false op = -1 := by have := unhide hk'; simp [roleOf, this]
    exact ⟨ret_int hr.symm, fun h0 => absurd h0 (by rw [hr]; decide), Kept1.of_below (below1 _ _)⟩

/-- The role of an operator behind an operand. -/
def opRole (xs : List OpR) (s : ByteArray) : Int := if hasB xs s 2 = true then 2 else if hasB xs s 3 = true then 3 else -1

set_option maxHeartbeats 4000000 in
theorem stepOp_any (p bo bs op : Nat) (xs : List OpR) (s : ByteArray) (w : World) (h : Ft w p bo bs true op) (hi : Idx w bo bs xs xs.length) (ht : s.size ≤ maxLen) :
    Calls Try.prog 81 #[.pointer (some ⟨p, 0, none⟩), .string s] w fun e w' => e = .returned (.int .i64 (opRole xs s)) ∧ Hid (Ft w' p bo bs (!hasB xs s 2) op) ∧ Hid (Kept1 w w' p) := by
  have HI := hide hi
  have HF := hide h
  clear hi
  obtain ⟨c0, c1, c2, c3, fz⟩ := h
  have hp : p < w.heap.size := block_lt_of_cell c0
  go_enter Try.func81, Try.ntmps81
  go_wp2_with fail
  refine (has_says bo bs xs.length xs s 2 _ (unhide HI) rfl ht (by decide)).mono ?_
  rintro e w1 ⟨rfl, hb1⟩
  have HF1 := hide ((unhide HF).kept hb1)
  have HI1 := hide ((unhide HI).kept hb1)
  have HB1 := hide hb1
  have d0 := (unhide HF1).c0
  have d1 := (unhide HF1).c1
  have d2 := (unhide HF1).c2
  have g2 := (unhide HF1).fz 2
  clear hb1 HF HI
  cases hh : hasB xs s 2
  · have HH := hide hh
    go_wp2_with fail
    refine (has_says bo bs xs.length xs s 3 _ (unhide HI1) rfl ht (by decide)).mono ?_
    rintro e w2 ⟨rfl, hb2⟩
    have HF2 := hide ((unhide HF1).kept hb2)
    have bel2 := (unhide HB1).trans (hb2.mono (unhide HB1).size)
    cases hh3 : hasB xs s 3
    · have HH3 := hide hh3
      go_wp2_with fail
      go_ret
      exact ⟨ret_int (by simp [opRole, unhide HH, unhide HH3]), by simpa [unhide HH] using HF2, hide (Kept1.of_below bel2)⟩
    · have HH3 := hide hh3
      go_wp2_with fail
      go_ret
      exact ⟨ret_int (by simp [opRole, unhide HH, unhide HH3]), by simpa [unhide HH] using HF2, hide (Kept1.of_below bel2)⟩
  · have HH := hide hh
    go_wp2_with fail
    go_ret
    exact ⟨ret_int (by simp [opRole, unhide HH]), hide (by rw [unhide HH]; exact (unhide HF1).set2 false), hide ((Kept1.of_below (unhide HB1)).trans (kept_set _ p 2 _))⟩

set_option maxHeartbeats 4000000 in
theorem stepBehind_any (p bo bs op : Nat) (last : Bool) (xs : List OpR) (t : TokR) (w : World) (h : Ft w p bo bs true op) (hi : Idx w bo bs xs xs.length) (ht : t.t.size ≤ maxLen) (hop : op ≤ 1048576) :
    Calls Try.prog 76 #[.pointer (some ⟨p, 0, none⟩), .agg #[.int .i64 t.k, .string t.g, .string t.t], .bool last] w fun e w' => e = .returned (.int .i64 (roleOf xs last t true op)) ∧ Stepped xs t true op (roleOf xs last t true op) w w' p bo bs := by
  have HI := hide (hi.kept (below1 w (.cells #[.int .i64 t.k, .string t.g, .string t.t] 60)))
  have HF := hide (h.kept (below1 w (.cells #[.int .i64 t.k, .string t.g, .string t.t] 60)))
  clear hi
  have hp : p < w.heap.size := block_lt_of_cell h.c0
  have d0 := (unhide HF).c0
  have d3 := (unhide HF).c3
  have g3 := (unhide HF).fz 3
  have hc3 := h.c3
  have hf3 := h.fz 3
  have H0 := hide h
  clear h
  have hk : t.k = 3 ∨ t.k = 5 ∨ t.k = 7 ∨ (t.k ≠ 3 ∧ t.k ≠ 5 ∧ t.k ≠ 7) := by omega
  rcases hk with hk | hk | hk | hk
  · have hk' := hide hk
    have k3 : (t.k == 3) = true := by simp; omega
    clear hk
    go_enter Try.func76, Try.ntmps76
    go_wp2_with fail
    refine (stepOp_any p bo bs op xs t.t _ (unhide HF) (unhide HI) ht).mono ?_
    rintro e w1 ⟨rfl, hf1, hk1⟩
    go_wp2_with fail
    go_ret
    refine ⟨ret_int (by simp [roleOf, opRole, unhide hk']), fun _ => ?_, (Kept1.of_below (below1 _ _)).trans (unhide hk1)⟩
    rw [show bhOf xs t true = (!hasB xs t.t 2) by cases hb : hasB xs t.t 2 <;> simp [bhOf, unhide hk', hb], show opOf t op = op by simp [opOf, unhide hk']]
    exact unhide hf1
  · have hk' := hide hk
    have k3 : (t.k == 3) = false := by simp; omega
    have k5 : (t.k == 5) = true := by simp; omega
    clear hk
    by_cases ho : 0 < op
    · have HO := hide ho
      have ho' : (0 : Int) < (op : Int) := by omega
      go_enter Try.func76, Try.ntmps76
      go_wp2_with fail
      go_ret
      refine ⟨ret_int (by simp [roleOf, unhide hk', unhide HO]), fun _ => ?_, ?_⟩
      · rw [show bhOf xs t true = true by simp [bhOf, unhide hk'], show opOf t op = op - 1 by simp [opOf, unhide hk']]
        first
          | exact ((unhide H0).set3 (op - 1) _ (by omega)).kept (below1 _ _)
          | exact (unhide HF).set3 (op - 1) _ (by omega)
      · first
          | exact (kept_set w p 3 _).trans (Kept1.of_below (below1 _ _))
          | exact (Kept1.of_below (below1 _ _)).trans (kept_set _ p 3 _)
    · have HO := hide ho
      have ho' : ¬ (0 : Int) < (op : Int) := by omega
      go_enter Try.func76, Try.ntmps76
      go_wp2_with fail
      go_ret
      have hr : roleOf xs last t true op = -1 := by simp [roleOf, unhide hk', unhide HO]
      exact ⟨ret_int hr.symm, fun h0 => absurd h0 (by rw [hr]; decide), Kept1.of_below (below1 _ _)⟩
  · have hk' := hide hk
    have k3 : (t.k == 3) = false := by simp; omega
    have k5 : (t.k == 5) = false := by simp; omega
    have k7 : (t.k == 7) = true := by simp; omega
    clear hk
    by_cases ho : op = 0
    · subst ho
      cases last
      · go_enter Try.func76, Try.ntmps76
        go_wp2_with fail
        go_ret
        have hr : roleOf xs false t true 0 = -1 := by simp [roleOf, unhide hk']
        exact ⟨ret_int hr.symm, fun h0 => absurd h0 (by rw [hr]; decide), Kept1.of_below (below1 _ _)⟩
      · go_enter Try.func76, Try.ntmps76
        go_wp2_with fail
        go_ret
        refine ⟨ret_int (by simp [roleOf, unhide hk']), fun _ => ?_, Kept1.of_below (below1 _ _)⟩
        rw [show bhOf xs t true = true by simp [bhOf, unhide hk'], show opOf t 0 = 0 by simp [opOf, unhide hk']]
        exact unhide HF
    · have HO := hide ho
      have ho' : ((op : Int) == 0) = false := by simp; omega
      go_enter Try.func76, Try.ntmps76
      go_wp2_with fail
      go_ret
      have hr : roleOf xs last t true op = -1 := by simp [roleOf, unhide hk', unhide HO]
      exact ⟨ret_int hr.symm, fun h0 => absurd h0 (by rw [hr]; decide), Kept1.of_below (below1 _ _)⟩
  · have hk' := hide hk
    have k3 : (t.k == 3) = false := by simp; omega
    have k5 : (t.k == 5) = false := by simp; omega
    have k7 : (t.k == 7) = false := by simp; omega
    clear hk
    go_enter Try.func76, Try.ntmps76
    go_wp2_with fail
    go_ret
    have hr : roleOf xs last t true op = -1 := by have := unhide hk'; simp [roleOf, this]
    exact ⟨ret_int hr.symm, fun h0 => absurd h0 (by rw [hr]; decide), Kept1.of_below (below1 _ _)⟩

set_option maxHeartbeats 4000000 in
theorem step_any (p bo bs op : Nat) (bh last : Bool) (xs : List OpR) (t : TokR) (w : World) (h : Ft w p bo bs bh op) (hi : Idx w bo bs xs xs.length) (ht : t.t.size ≤ maxLen) (hop : op ≤ 1048576) :
    Calls Try.prog 59 #[.pointer (some ⟨p, 0, none⟩), .agg #[.int .i64 t.k, .string t.g, .string t.t], .bool last] w fun e w' => e = .returned (.int .i64 (roleOf xs last t bh op)) ∧ Stepped xs t bh op (roleOf xs last t bh op) w w' p bo bs := by
  have HI := hide (hi.kept (below1 w (.cells #[.int .i64 t.k, .string t.g, .string t.t] 60)))
  have HF := hide (h.kept (below1 w (.cells #[.int .i64 t.k, .string t.g, .string t.t] 60)))
  have hp : p < w.heap.size := block_lt_of_cell h.c0
  have d2 := (unhide HF).c2
  clear hi h
  cases bh
  · go_enter Try.func59, Try.ntmps59
    go_wp2_with fail
    refine (stepBefore_any p bo bs op last xs t _ (unhide HF) (unhide HI) ht hop).mono ?_
    rintro e w1 ⟨rfl, hs1, hk1⟩
    have HS1 := hide hs1
    have HK1 := hide hk1
    clear hs1 hk1
    go_wp2_with fail
    go_ret
    exact ⟨rfl, unhide HS1, (Kept1.of_below (below1 _ _)).trans (unhide HK1)⟩
  · go_enter Try.func59, Try.ntmps59
    go_wp2_with fail
    refine (stepBehind_any p bo bs op last xs t _ (unhide HF) (unhide HI) ht hop).mono ?_
    rintro e w1 ⟨rfl, hs1, hk1⟩
    have HS1 := hide hs1
    have HK1 := hide hk1
    clear hs1 hk1
    go_wp2_with fail
    go_ret
    exact ⟨rfl, unhide HS1, (Kept1.of_below (below1 _ _)).trans (unhide HK1)⟩
end Go.Proofs.Ytokabkhnidlcnaa

/-
  Walk: the program's Roles.
-/
namespace Go.Proofs.Ytokabkhnidlcnaa
set_option maxRecDepth 100000
set_option linter.unusedSimpArgs false
open Go.RowKit Go.Maps

theorem infoInt : (Try.prog.info? 3).map (fun i => (i.zero, i.size, i.bytes)) = some (some (.int .i64 0), 1, 8) := by kernel_rfl

theorem new_newsI (w : World) (v : Int) : ∀ j u, (cellsI [v])[j]? = some u → (w.alloc (.cells #[.int .i64 v] 3)).cell? ((⟨w.heap.size, 0, none⟩ : Addr).add j) = some u := by
  intro j u hj
  rw [Addr.add_mid]
  have := World.rangeAt_of_block (w := w.alloc (.cells #[.int .i64 v] 3)) (b := w.heap.size) (heap_alloc_new w _) 0 1
  exact this j u (by simpa [cellsI] using hj)

theorem opTo_le (ts : List TokR) : ∀ k, opTo ts k ≤ k
  | 0 => Nat.le_refl _
  | k + 1 => by
    have := opTo_le ts k
    simp only [opTo, opOf]
    split
    · omega
    · split <;> omega

theorem role_range (xs : List OpR) (ts : List TokR) (k : Nat) : roleTo xs ts k = -1 ∨ 0 ≤ roleTo xs ts k := by
  unfold roleTo roleOf
  (repeat' split) <;> omega

set_option maxHeartbeats 4000000 in
theorem rolesM_any (bo bs b' off' cap' : Nat) (xs : List OpR) (ts : List TokR) (w : World) (hm : ts.length ≤ 1048576) (hidx : Idx w bo bs xs xs.length) (hc : IsCode xs 0) (hw' : OpsT w b' off' ts) (hst : SizedT ts) (hB' : b' < w.heap.size) :
    Calls Try.prog 35 #[.agg #[.map (some bo), .map (some bs)], .slice (some ⟨b', off', none⟩) ts.length cap'] w fun e w' => (∃ (a : Option Addr) (c : Nat) (us : List Int) (v : Int), e = .returned (.tuple #[.slice a us.length c, .int .i64 v]) ∧ OwnedI w' w.heap.size a us ∧ RolesIs xs (IsCode xs 0) ts us v) ∧ Below w.heap.size w w' := by
  have HT := hide hw'
  have HST := hide hst
  have HC := hide hc
  have HID := hide hidx
  clear hw' hst hc hidx
  have hmk : ∀ W : World, (Instr.makeSlice 31 (.int .i64 0) (.int .i64 (ts.length : Int))).run Try.prog W = .ok (.slice (some ⟨W.heap.size, 0, none⟩) 0 ts.length) (W.alloc (.cells (madeCells #[.int .i64 0] ts.length) 3)) := by
    obtain ⟨inf, hi, hz⟩ := Option.map_eq_some_iff.1 infoInt
    simp only [Prod.mk.injEq] at hz
    obtain ⟨hz, hsz, hby⟩ := hz
    intro W
    have := run_make (P := Try.prog) W 31 3 inf _ Try.underlying31 hi hz .i64 .i64 0 ts.length (by omega) (by omega) (by rw [hby]; omega) (by omega)
    simpa [hsz, Value.cells] using this
  have hbo : bo < w.heap.size := by obtain ⟨D, hD, _⟩ := (unhide HID).ops; exact hD.lt
  have hbs : bs < w.heap.size := by obtain ⟨D, hD, _⟩ := (unhide HID).srts; exact hD.lt
  obtain ⟨i0, hi0, hz0, hz1, hz2⟩ := info_parts infoInt
  have HI0 := hide hi0
  have HZ0 := hide (And.intro hz0 (And.intro hz1 hz2))
  clear hi0 hz0 hz1 hz2
  go_enter Try.func35, Try.ntmps35
  go_wp2_with fail
  clear hmk
  obtain ⟨W0, hW0⟩ : ∃ W0, W0 = ((w.alloc (.cells #[.map (some bo), .map (some bs)] 66)).alloc (.cells #[.map (some bo), .map (some bs), .bool false, .int .i64 0] 100)).alloc (.cells (madeCells #[.int .i64 0] ts.length) 3) := ⟨_, rfl⟩
  have HF0 := hide (show Ft W0 (w.heap.size + 1) bo bs false 0 by
    rw [hW0]
    refine ⟨?_, ?_, ?_, ?_, fun o => ?_⟩ <;> simp [go_sem])
  have HX0 := hide (show Idx W0 bo bs xs xs.length by
    rw [hW0]
    exact (((unhide HID).kept (below1 _ _)).kept (below1 _ _)).kept (below1 _ _))
  have HO0 := hide (show W0.ownsRow (w.heap.size + 2) 3 1 (.slice (some ⟨w.heap.size + 1 + 1, 0, none⟩) 0 ts.length) 0 (cellsI []) by
    rw [hW0]
    have h0 := World.ownsRow_made (base := w.heap.size + 2) (e := 3) (size := 1) ((w.alloc (.cells #[.map (some bo), .map (some bs)] 66)).alloc (.cells #[.map (some bo), .map (some bs), .bool false, .int .i64 0] 100)) (madeCells #[.int .i64 0] ts.length) ts.length (by simp) (by unfold maxLen; omega) (by rw [size_madeCells]; omega)
    simpa [cellsI] using h0)
  have HB0 := hide (show Below w.heap.size w W0 by
    rw [hW0]
    exact ((below1 _ _).alloc (by simp) _).alloc (by simp; omega) _)
  rw [← hW0]
  clear hW0 HID
  go_loopw [7, 19] (fun rv iv wr => ∃ (k g c : Nat), k ≤ ts.length ∧ iv = .int .i64 (k : Int) ∧ rv = .slice (some ⟨g, 0, none⟩) k c ∧ Hid (FitTo xs ts k) ∧ Hid (Ft wr (w.heap.size + 1) bo bs (bhTo xs ts k) (opTo ts k)) ∧ Hid (Idx wr bo bs xs xs.length) ∧ Hid (wr.ownsRow (w.heap.size + 2) 3 1 (.slice (some ⟨g, 0, none⟩) k c) k (cellsI (rolesTo xs ts k))) ∧ Hid (Below w.heap.size w wr) ∧ Hid (k = ts.length → ¬ (0 < ts.length ∧ (atT ts (ts.length - 1)).k = 7))) (fun _ iv _ => ts.length - (intOf iv).toNat)
  case atStart => exact ⟨0, w.heap.size + 1 + 1, ts.length, Nat.zero_le _, rfl, rfl, hide (fun i hi => by omega), HF0, HX0, HO0, HB0, hide (fun h => by omega)⟩
  case round =>
    clear HF0 HX0 HO0 HB0
    obtain ⟨k, g, c, hk, rfl, rfl, hfit, hft, hix, hown, hbl, hend⟩ := hrel
    by_cases hlt : k < ts.length
    · obtain ⟨a0, a1, a2⟩ := ((unhide HT) k hlt).below (unhide hbl) hB'
      have hzp := block_lt_of_cell (unhide hft).c0
      have HF1 := hide ((unhide hft).kept (below1 wr (.cells #[.int .i64 (atT ts k).k, .string (atT ts k).g, .string (atT ts k).t] 60)))
      have HX1 := hide ((unhide hix).kept (below1 wr (.cells #[.int .i64 (atT ts k).k, .string (atT ts k).g, .string (atT ts k).t] 60)))
      have hop : opTo ts k ≤ 1048576 := by
        have := opTo_le ts k
        omega
      have hgl := (unhide hown).lt g rfl
      have hlast : (((k : Int) == (ts.length : Int) - 1)) = decide (k + 1 = ts.length) := by
        rw [Bool.eq_iff_iff]; simp; omega
      go_wp2_with fail
      refine (step_any (w.heap.size + 1) bo bs (opTo ts k) (bhTo xs ts k) (decide (k + 1 = ts.length)) xs (atT ts k) _ (unhide HF1) (unhide HX1) ((unhide HST) k hlt).2 hop).mono ?_
      rintro e w2 ⟨rfl, hs2, hk2⟩
      have HR := hide (show roleOf xs (decide (k + 1 = ts.length)) (atT ts k) (bhTo xs ts k) (opTo ts k) = roleTo xs ts k from rfl)
      rw [unhide HR] at hs2 ⊢
      have hrng := role_range xs ts k
      have zr : wr.heap.size < w2.heap.size := by have := hk2.size; simp at this; omega
      have q0 : w2.cell? ⟨wr.heap.size, 0, none⟩ = some (.int .i64 (atT ts k).k) := by rw [hk2.cell (by simp) (by omega)]; simp [go_sem]
      have HX2 := hide ((unhide HX1).of_blocks (hk2.block bo (by simp; omega) (by omega)) (hk2.block bs (by simp; omega) (by omega)))
      have HO2 := hide ((((unhide hown).alloc (.cells #[.int .i64 (atT ts k).k, .string (atT ts k).g, .string (atT ts k).t] 60))).kept (grown_kept1 hk2) (Or.inr (by simp [Value.ownBlock]; omega)))
      have HB2 := hide (((unhide hbl).alloc (unhide hbl).size (.cells #[.int .i64 (atT ts k).k, .string (atT ts k).g, .string (atT ts k).t] 60)).trans (hk2.below (by have := (unhide hbl).size; simp; omega) (by omega)))
      have HS2 := hide hs2
      have hz2 := (unhide HB2).size
      clear hs2 hk2 hown hbl HX1 HF1 hix hft
      by_cases hr : roleTo xs ts k = -1
      · have HRR := hide hr
        have hr' : (roleTo xs ts k == -1) = true := by simpa using hr
        clear hr hrng
        go_wp2_with fail
        go_ret2
        exact ⟨⟨none, 0, [], (k : Int), rfl, Or.inl ⟨rfl, rfl⟩, Or.inr ⟨unhide HC, Or.inl ⟨k, hlt, unhide hfit, by have := unhide HRR; omega, rfl, rfl⟩⟩⟩, unhide HB2⟩
      have hr' : (roleTo xs ts k == -1) = false := by simpa using hr
      have hr0 : 0 ≤ roleTo xs ts k := by omega
      have HFT := hide (show Ft w2 (w.heap.size + 1) bo bs (bhTo xs ts (k + 1)) (opTo ts (k + 1)) from (unhide HS2) hr0)
      have HFI := hide (show FitTo xs ts (k + 1) from fun i hi => by
        by_cases e : i = k
        · subst e; exact hr0
        · exact (unhide hfit) i (by omega))
      clear hr hrng HS2 hfit
      go_wp2_with (at_builtin; refine wpList_append_own _ rfl (.tmp 35) (.tmp 37) 31 rfl (w.heap.size + 2) 3 i0 _ 1 8 Try.underlying31 (unhide HI0) (unhide HZ0).1 (unhide HZ0).2.1 (unhide HZ0).2.2 rfl (by decide) _ k (cellsI (rolesTo xs ts k)) rfl ((unhide HO2).alloc _) ⟨w2.heap.size, 0, none⟩ 1 1 (cellsI [roleTo xs ts k]) rfl rfl (new_newsI w2 (roleTo xs ts k)) (cellsI_one _) ?b1 ?b2 ?b3 ?next)
      case b1 => unfold maxLen; omega
      case b2 => omega
      case b3 => simp; omega
      case next =>
        intro v4 w4 hown4 hgrow4 hnil4
        have hbel4 : Below w.heap.size w w4 := ((unhide HB2).alloc (by omega) _).grown hgrow4 (by simp; omega) (fun q hq => by simp [Value.ownBlock] at hq; omega)
        have hfar : ∀ bb, bb < w2.heap.size → bb ≠ g → w4.heap[bb]? = w2.heap[bb]? := fun bb h1 h2 => (hgrow4.block bb (by simp; omega) (by simp [Value.ownBlock]; omega)).trans ((below1 w2 _).block bb h1)
        have q4 : w4.cell? ⟨wr.heap.size, 0, none⟩ = some (.int .i64 (atT ts k).k) := (World.cell?_of_block (hfar wr.heap.size zr (by omega))).trans q0
        have HX4 := hide ((unhide HX2).of_blocks (hfar bo (by omega) (by omega)) (hfar bs (by omega) (by omega)))
        have hp2 : w.heap.size + 1 < w2.heap.size := by omega
        have HF4 := hide (show Ft w4 (w.heap.size + 1) bo bs (bhTo xs ts (k + 1)) (opTo ts (k + 1)) from by
          have e := fun o => World.cell?_of_block (w := w2) (a := ⟨w.heap.size + 1, o, none⟩) (hfar (w.heap.size + 1) hp2 (by omega))
          have f := fun o => World.frozen?_of_block (w := w2) (a := ⟨w.heap.size + 1, o, none⟩) (hfar (w.heap.size + 1) hp2 (by omega))
          have h := unhide HFT
          exact ⟨(e _).trans h.c0, (e _).trans h.c1, (e _).trans h.c2, (e _).trans h.c3, fun o => (f o).trans (h.fz o)⟩)
        obtain ⟨g4, c4, rfl⟩ := owns_bval hown4 (by simp [hnil4])
        rw [← cellsI_append, ← rolesTo_succ] at hown4
        have HO4 := hide hown4
        have HB4 := hide hbel4
        clear hown4 hgrow4 hnil4 hfar hbel4 HO2 HX2 HFT HB2
        by_cases hl : k + 1 = ts.length
        · have hl' : decide (k + 1 = ts.length) = true := decide_eq_true hl
          by_cases h7 : (atT ts k).k = 7
          · have h7' : ((atT ts k).k == 7) = true := by simpa using h7
            have H7 := hide h7
            have HL := hide hl
            clear h7 hl
            go_wp2_with fail
            go_ret2
            have hl := unhide HL
            have ho := unhide HO4
            have hlen : (rolesTo xs ts (k + 1)).length = k + 1 := rolesTo_len _ _ _
            rw [← hlen] at ho
            obtain ⟨hg, hf⟩ := owns_filledI (by rw [hlen] at ho ⊢; exact ho)
            refine ⟨⟨some ⟨g4, 0, none⟩, c4, rolesTo xs ts (k + 1), -1, by rw [hlen]; first | rfl | (rw [hl]; rfl), Or.inr ⟨g4, rfl, by omega, hf⟩, Or.inr ⟨unhide HC, Or.inr ⟨hl ▸ unhide HFI, Or.inl ⟨⟨by omega, ?_⟩, by rw [hl], rfl⟩⟩⟩⟩, unhide HB4⟩
            rw [← hl]
            exact unhide H7
          · have h7' : ((atT ts k).k == 7) = false := by simpa using h7
            have HE := hide (show k + 1 = ts.length → ¬ (0 < ts.length ∧ (atT ts (ts.length - 1)).k = 7) from fun e => by
              rw [← e]
              exact fun h => h7 h.2)
            have HL := hide hl
            clear hl
            go_wp2_with fail
            have hl := unhide HL
            exact ⟨⟨k + 1, g4, c4, by omega, by go_num, by first | rfl | (rw [hl]), HFI, HF4, HX4, HO4, HB4, HE⟩, by simp [intOf]; omega⟩
        · have hl' : decide (k + 1 = ts.length) = false := decide_eq_false hl
          have HE := hide (show k + 1 = ts.length → ¬ (0 < ts.length ∧ (atT ts (ts.length - 1)).k = 7) from fun e => absurd e hl)
          go_wp2_with fail
          exact ⟨⟨k + 1, g4, c4, by omega, by go_num, rfl, HFI, HF4, HX4, HO4, HB4, HE⟩, by simp [intOf]; omega⟩
    · have HX := hide (show k = ts.length by omega)
      go_wp2_with fail
      go_ret2
      have e := unhide HX
      subst e
      exact ⟨⟨none, 0, [], (ts.length : Int), rfl, Or.inl ⟨rfl, rfl⟩, Or.inr ⟨unhide HC, Or.inr ⟨unhide hfit, Or.inr ⟨(unhide hend) rfl, rfl, rfl⟩⟩⟩⟩, unhide hbl⟩
end Go.Proofs.Ytokabkhnidlcnaa
