/-
  Walks: the program's fitter.
-/
import Derived.Test.YtokabkhnidlcnabRolM
import Derived.Test.YtokabkhnidlcnabIntB
import Derived.Test.YtokabkhnidlcnabKept
import Derived.Test.YtokabkhnidlcnabImplLex3
namespace Go.Proofs.Ytokabkhnidlcnab
set_option maxRecDepth 100000
set_option linter.unusedSimpArgs false
open Go.RowKit Go.Maps

/-- A fitter in memory. -/
structure Ft (w : World) (p bo bs : Nat) (bh : Bool) (op : Nat) : Prop where
  c0 : w.cell? ⟨p, 0, none⟩ = some (.map (some bo))
  c1 : w.cell? ⟨p, 1, none⟩ = some (.map (some bs))
  c2 : w.cell? ⟨p, 2, none⟩ = some (.bool bh)
  c3 : w.cell? ⟨p, 3, none⟩ = some (.int .i64 (op : Int))
  fz : ∀ o, w.frozen? ⟨p, o, none⟩ = false

theorem has_says (bo bs n : Nat) (xs : List OpR) (t : ByteArray) (kd : Int) (w : World) (hi : Idx w bo bs xs n) (hn : n = xs.length) (ht : t.size ≤ maxLen) (hk : (Lit.int .i64 kd).wf = true) :
    Calls Try.prog 122 #[.agg #[.map (some bo), .map (some bs)], .string t, .int .i64 kd] w fun e w' => e = .returned (.bool (hasB xs t kd)) ∧ Below w.heap.size w w' := by
  subst hn
  obtain ⟨⟨D, hown, hD⟩, _, _⟩ := hi
  refine (has_any bo bs xs.length D t kd w hown ht hk).mono ?_
  rintro e w' ⟨rfl, hb⟩
  refine ⟨?_, hb⟩
  have h := (hD t kd ht hk).1
  have : Maps.has D (klO t kd) = hasB xs t kd := by
    rw [Bool.eq_iff_iff, h, hasB_iff]
    rfl
  rw [this]

theorem Ft.kept {w w' : World} {p bo bs op : Nat} {bh : Bool} (h : Ft w p bo bs bh op) (hb : Below w.heap.size w w') : Ft w' p bo bs bh op := by
  have hp : p < w.heap.size := block_lt_of_cell h.c0
  have e := fun o => hb.cell (p := ⟨p, o, none⟩) hp
  exact ⟨(e _).trans h.c0, (e _).trans h.c1, (e _).trans h.c2, (e _).trans h.c3, fun o => (hb.frozen (p := ⟨p, o, none⟩) hp).trans (h.fz o)⟩
theorem Ft.set2 {w : World} {p bo bs op : Nat} {bh : Bool} (h : Ft w p bo bs bh op) (b' : Bool) : Ft (w.setCell ⟨p, 2, none⟩ (.bool b')) p bo bs b' op :=
  ⟨(World.cell?_setCell_other _ _ _ _ (by simp)).trans h.c0, (World.cell?_setCell_other _ _ _ _ (by simp)).trans h.c1, World.cell?_setCell_same _ _ _ h.c2, (World.cell?_setCell_other _ _ _ _ (by simp)).trans h.c3, fun o => (World.frozen?_setCell _ _ _ _).trans (h.fz o)⟩
theorem Ft.set3 {w : World} {p bo bs op : Nat} {bh : Bool} (h : Ft w p bo bs bh op) (op' : Nat) (n : Int) (hn : n = (op' : Int)) : Ft (w.setCell ⟨p, 3, none⟩ (.int .i64 n)) p bo bs bh op' := by
  subst hn
  exact ⟨(World.cell?_setCell_other _ _ _ _ (by simp)).trans h.c0, (World.cell?_setCell_other _ _ _ _ (by simp)).trans h.c1, (World.cell?_setCell_other _ _ _ _ (by simp)).trans h.c2, World.cell?_setCell_same _ _ _ h.c3, fun o => (World.frozen?_setCell _ _ _ _).trans (h.fz o)⟩
theorem kept_set (w : World) (p o : Nat) (v : Value) : Kept1 w (w.setCell ⟨p, o, none⟩ v) p := kept1_setCells [v] o w

/-- What a step leaves. -/
def Stepped (xs : List OpR) (t : TokR) (bh : Bool) (op : Nat) (role : Int) (w w' : World) (p bo bs : Nat) : Prop :=
  (0 ≤ role → Ft w' p bo bs (bhOf xs t bh) (opOf t op)) ∧ Kept1 w w' p

set_option maxHeartbeats 4000000 in
theorem stepBefore_any (p bo bs op : Nat) (last : Bool) (xs : List OpR) (t : TokR) (w : World) (h : Ft w p bo bs false op) (hi : Idx w bo bs xs xs.length) (ht : t.t.size ≤ maxLen) (hop : op ≤ 1048576) :
    Calls Try.prog 131 #[.pointer (some ⟨p, 0, none⟩), .agg #[.int .i64 t.k, .string t.g, .string t.t]] w fun e w' => e = .returned (.int .i64 (roleOf xs last t false op)) ∧ Stepped xs t false op (roleOf xs last t false op) w w' p bo bs := by
  have HI := hide (hi.kept (below1 w (.cells #[.int .i64 t.k, .string t.g, .string t.t] 79)))
  have HF := hide h
  clear hi
  obtain ⟨c0, c1, c2, c3, fz⟩ := h
  have f2 := fz 2
  have f3 := fz 3
  have hp : p < w.heap.size := block_lt_of_cell c0
  have hk : t.k = 1 ∨ t.k = 2 ∨ t.k = 4 ∨ t.k = 3 ∨ (t.k ≠ 1 ∧ t.k ≠ 2 ∧ t.k ≠ 4 ∧ t.k ≠ 3) := by omega
  rcases hk with hk | hk | hk | hk | hk
  · have hk' := hide hk
    have g1 : (t.k == 1) = true := by simp; omega
    have g2 : (t.k == 2) = false := by simp; omega
    have g4 : (t.k == 4) = false := by simp; omega
    have g3 : (t.k == 3) = false := by simp; omega
    clear hk
    go_enter Try.func131, Try.ntmps131
    go_wp2_with fail
    go_ret
    refine ⟨ret_int (by simp [roleOf, unhide hk']), fun _ => ?_, (kept_set w p 2 _).trans (Kept1.of_below (below1 _ _))⟩
    rw [show bhOf xs t false = true by simp [bhOf, unhide hk'], show opOf t op = op by simp [opOf, unhide hk']]
    exact ((unhide HF).set2 true).kept (below1 _ _)
  · have hk' := hide hk
    have g1 : (t.k == 1) = false := by simp; omega
    have g2 : (t.k == 2) = true := by simp; omega
    have g4 : (t.k == 4) = false := by simp; omega
    have g3 : (t.k == 3) = false := by simp; omega
    clear hk
    go_enter Try.func131, Try.ntmps131
    go_wp2_with fail
    go_ret
    refine ⟨ret_int (by simp [roleOf, unhide hk']), fun _ => ?_, (kept_set w p 2 _).trans (Kept1.of_below (below1 _ _))⟩
    rw [show bhOf xs t false = true by simp [bhOf, unhide hk'], show opOf t op = op by simp [opOf, unhide hk']]
    exact ((unhide HF).set2 true).kept (below1 _ _)
  · have hk' := hide hk
    have g1 : (t.k == 1) = false := by simp; omega
    have g2 : (t.k == 2) = false := by simp; omega
    have g4 : (t.k == 4) = true := by simp; omega
    have g3 : (t.k == 3) = false := by simp; omega
    clear hk
    go_enter Try.func131, Try.ntmps131
    go_wp2_with fail
    go_ret
    refine ⟨ret_int (by simp [roleOf, unhide hk']), fun _ => ?_, (kept_set w p 3 _).trans (Kept1.of_below (below1 _ _))⟩
    rw [show bhOf xs t false = false by simp [bhOf, unhide hk'], show opOf t op = op + 1 by simp [opOf, unhide hk']]
    exact ((unhide HF).set3 (op + 1) _ (by omega)).kept (below1 _ _)
  · have hk' := hide hk
    have g1 : (t.k == 1) = false := by simp; omega
    have g2 : (t.k == 2) = false := by simp; omega
    have g4 : (t.k == 4) = false := by simp; omega
    have g3 : (t.k == 3) = true := by simp; omega
    clear hk
    have d0 := ((below1 w (.cells #[.int .i64 t.k, .string t.g, .string t.t] 79)).cell (p := ⟨p, 0, none⟩) hp).trans c0
    have d1 := ((below1 w (.cells #[.int .i64 t.k, .string t.g, .string t.t] 79)).cell (p := ⟨p, 1, none⟩) hp).trans c1
    have e2 : (w.alloc (.cells #[.int .i64 t.k, .string t.g, .string t.t] 79)).cell? ⟨w.heap.size, 2, none⟩ = some (.string t.t) := by simp [go_sem]
    have hz : p < (w.alloc (.cells #[.int .i64 t.k, .string t.g, .string t.t] 79)).heap.size := by simp; omega
    have hz' : w.heap.size < (w.alloc (.cells #[.int .i64 t.k, .string t.g, .string t.t] 79)).heap.size := by simp
    go_enter Try.func131, Try.ntmps131
    go_wp2_with fail
    go_region_held (fun w' => w'.cell? ⟨p, 0, none⟩ = some (.map (some bo)) ∧ w'.cell? ⟨p, 1, none⟩ = some (.map (some bs)) ∧ w'.cell? ⟨w.heap.size, 2, none⟩ = some (.string t.t)) (go_keep) (first | (go_at_call 122; refine (has_says bo bs xs.length xs t.t 1 _ ((unhide HI).kept (Below.refl _ _).drew) rfl ht (by decide)).mono ?_; rintro e w2 ⟨rfl, hb2⟩; have q0 := (hb2.cell (p := ⟨p, 0, none⟩) hz).trans (show (w.alloc (.cells #[.int .i64 t.k, .string t.g, .string t.t] 79)).drew.cell? ⟨p, 0, none⟩ = _ from d0); have q1 := (hb2.cell (p := ⟨p, 1, none⟩) hz).trans (show (w.alloc (.cells #[.int .i64 t.k, .string t.g, .string t.t] 79)).drew.cell? ⟨p, 1, none⟩ = _ from d1); have q2 := (hb2.cell (p := ⟨w.heap.size, 2, none⟩) hz').trans (show (w.alloc (.cells #[.int .i64 t.k, .string t.g, .string t.t] 79)).drew.cell? ⟨w.heap.size, 2, none⟩ = _ from e2); have HB2 := hide hb2; clear hb2))
    have hbel : Below w.heap.size w w2 := (below1 w (.cells #[.int .i64 t.k, .string t.g, .string t.t] 79)).trans (((Below.refl _ _).drew.trans (unhide HB2)).mono (Nat.le_of_lt hz'))
    cases hh : hasB xs t.t 1
    · have HH := hide hh
      go_wp2_with fail
      go_ret
      have hr : roleOf xs last t false op = -1 := by simp [roleOf, unhide hk', unhide HH]
      exact ⟨ret_int hr.symm, fun h0 => absurd h0 (by rw [hr]; decide), Kept1.of_below hbel⟩
    · have HH := hide hh
      go_wp2_with fail
      go_ret
      refine ⟨ret_int (by simp [roleOf, unhide hk', unhide HH]), fun _ => ?_, Kept1.of_below hbel⟩
      rw [show bhOf xs t false = false by simp [bhOf, unhide hk'], show opOf t op = op by simp [opOf, unhide hk']]
      exact (unhide HF).kept hbel
  · have hk' := hide hk
    have g1 : (t.k == 1) = false := by simp; omega
    have g2 : (t.k == 2) = false := by simp; omega
    have g4 : (t.k == 4) = false := by simp; omega
    have g3 : (t.k == 3) = false := by simp; omega
    clear hk
    go_enter Try.func131, Try.ntmps131
    go_wp2_with fail
    go_ret
    have hr : roleOf xs last t false op = -1 := by have := unhide hk'; simp [roleOf, this]
    exact ⟨ret_int hr.symm, fun h0 => absurd h0 (by rw [hr]; decide), Kept1.of_below (below1 _ _)⟩

/-- The role of an operator behind an operand. -/
def opRole (xs : List OpR) (s : ByteArray) : Int := if hasB xs s 2 = true then 2 else if hasB xs s 3 = true then 3 else -1

set_option maxHeartbeats 4000000 in
theorem stepOp_any (p bo bs op : Nat) (xs : List OpR) (s : ByteArray) (w : World) (h : Ft w p bo bs true op) (hi : Idx w bo bs xs xs.length) (ht : s.size ≤ maxLen) :
    Calls Try.prog 141 #[.pointer (some ⟨p, 0, none⟩), .string s] w fun e w' => e = .returned (.int .i64 (opRole xs s)) ∧ Hid (Ft w' p bo bs (!hasB xs s 2) op) ∧ Hid (Kept1 w w' p) := by
  have HI := hide hi
  have HF := hide h
  clear hi
  obtain ⟨c0, c1, c2, c3, fz⟩ := h
  have hp : p < w.heap.size := block_lt_of_cell c0
  go_enter Try.func141, Try.ntmps141
  go_wp2_with fail
  refine (has_says bo bs xs.length xs s 2 _ (unhide HI) rfl ht (by decide)).mono ?_
  rintro e w1 ⟨rfl, hb1⟩
  have HF1 := hide ((unhide HF).kept hb1)
  have HI1 := hide ((unhide HI).kept hb1)
  have HB1 := hide hb1
  have d0 := (unhide HF1).c0
  have d1 := (unhide HF1).c1
  have d2 := (unhide HF1).c2
  have g2 := (unhide HF1).fz 2
  clear hb1 HF HI
  cases hh : hasB xs s 2
  · have HH := hide hh
    go_wp2_with fail
    refine (has_says bo bs xs.length xs s 3 _ (unhide HI1) rfl ht (by decide)).mono ?_
    rintro e w2 ⟨rfl, hb2⟩
    have HF2 := hide ((unhide HF1).kept hb2)
    have bel2 := (unhide HB1).trans (hb2.mono (unhide HB1).size)
    cases hh3 : hasB xs s 3
    · have HH3 := hide hh3
      go_wp2_with fail
      go_ret
      exact ⟨ret_int (by simp [opRole, unhide HH, unhide HH3]), by simpa [unhide HH] using HF2, hide (Kept1.of_below bel2)⟩
    · have HH3 := hide hh3
      go_wp2_with fail
      go_ret
      exact ⟨ret_int (by simp [opRole, unhide HH, unhide HH3]), by simpa [unhide HH] using HF2, hide (Kept1.of_below bel2)⟩
  · have HH := hide hh
    go_wp2_with fail
    go_ret
    exact ⟨ret_int (by simp [opRole, unhide HH]), hide (by rw [unhide HH]; exact (unhide HF1).set2 false), hide ((Kept1.of_below (unhide HB1)).trans (kept_set _ p 2 _))⟩

set_option maxHeartbeats 4000000 in
theorem stepBehind_any (p bo bs op : Nat) (last : Bool) (xs : List OpR) (t : TokR) (w : World) (h : Ft w p bo bs true op) (hi : Idx w bo bs xs xs.length) (ht : t.t.size ≤ maxLen) (hop : op ≤ 1048576) :
    Calls Try.prog 130 #[.pointer (some ⟨p, 0, none⟩), .agg #[.int .i64 t.k, .string t.g, .string t.t], .bool last] w fun e w' => e = .returned (.int .i64 (roleOf xs last t true op)) ∧ Stepped xs t true op (roleOf xs last t true op) w w' p bo bs := by
  have HI := hide (hi.kept (below1 w (.cells #[.int .i64 t.k, .string t.g, .string t.t] 79)))
  have HF := hide (h.kept (below1 w (.cells #[.int .i64 t.k, .string t.g, .string t.t] 79)))
  clear hi
  have hp : p < w.heap.size := block_lt_of_cell h.c0
  have d0 := (unhide HF).c0
  have d3 := (unhide HF).c3
  have g3 := (unhide HF).fz 3
  have hc3 := h.c3
  have hf3 := h.fz 3
  have H0 := hide h
  clear h
  have hk : t.k = 3 ∨ t.k = 5 ∨ t.k = 7 ∨ (t.k ≠ 3 ∧ t.k ≠ 5 ∧ t.k ≠ 7) := by omega
  rcases hk with hk | hk | hk | hk
  · have hk' := hide hk
    have k3 : (t.k == 3) = true := by simp; omega
    clear hk
    go_enter Try.func130, Try.ntmps130
    go_wp2_with fail
    refine (stepOp_any p bo bs op xs t.t _ (unhide HF) (unhide HI) ht).mono ?_
    rintro e w1 ⟨rfl, hf1, hk1⟩
    go_wp2_with fail
    go_ret
    refine ⟨ret_int (by simp [roleOf, opRole, unhide hk']), fun _ => ?_, (Kept1.of_below (below1 _ _)).trans (unhide hk1)⟩
    rw [show bhOf xs t true = (!hasB xs t.t 2) by cases hb : hasB xs t.t 2 <;> simp [bhOf, unhide hk', hb], show opOf t op = op by simp [opOf, unhide hk']]
    exact unhide hf1
  · have hk' := hide hk
    have k3 : (t.k == 3) = false := by simp; omega
    have k5 : (t.k == 5) = true := by simp; omega
    clear hk
    by_cases ho : 0 < op
    · have HO := hide ho
      have ho' : (0 : Int) < (op : Int) := by omega
      go_enter Try.func130, Try.ntmps130
      go_wp2_with fail
      go_ret
      refine ⟨ret_int (by simp [roleOf, unhide hk', unhide HO]), fun _ => ?_, ?_⟩
      · rw [show bhOf xs t true = true by simp [bhOf, unhide hk'], show opOf t op = op - 1 by simp [opOf, unhide hk']]
        first
          | exact ((unhide H0).set3 (op - 1) _ (by omega)).kept (below1 _ _)
          | exact (unhide HF).set3 (op - 1) _ (by omega)
      · first
          | exact (kept_set w p 3 _).trans (Kept1.of_below (below1 _ _))
          | exact (Kept1.of_below (below1 _ _)).trans (kept_set _ p 3 _)
    · have HO := hide ho
      have ho' : ¬ (0 : Int) < (op : Int) := by omega
      go_enter Try.func130, Try.ntmps130
      go_wp2_with fail
      go_ret
      have hr : roleOf xs last t true op = -1 := by simp [roleOf, unhide hk', unhide HO]
      exact ⟨ret_int hr.symm, fun h0 => absurd h0 (by rw [hr]; decide), Kept1.of_below (below1 _ _)⟩
  · have hk' := hide hk
    have k3 : (t.k == 3) = false := by simp; omega
    have k5 : (t.k == 5) = false := by simp; omega
    have k7 : (t.k == 7) = true := by simp; omega
    clear hk
    by_cases ho : op = 0
    · subst ho
      cases last
      · go_enter Try.func130, Try.ntmps130
        go_wp2_with fail
        go_ret
        have hr : roleOf xs false t true 0 = -1 := by simp [roleOf, unhide hk']
        exact ⟨ret_int hr.symm, fun h0 => absurd h0 (by rw [hr]; decide), Kept1.of_below (below1 _ _)⟩
      · go_enter Try.func130, Try.ntmps130
        go_wp2_with fail
        go_ret
        refine ⟨ret_int (by simp [roleOf, unhide hk']), fun _ => ?_, Kept1.of_below (below1 _ _)⟩
        rw [show bhOf xs t true = true by simp [bhOf, unhide hk'], show opOf t 0 = 0 by simp [opOf, unhide hk']]
        exact unhide HF
    · have HO := hide ho
      have ho' : ((op : Int) == 0) = false := by simp; omega
      go_enter Try.func130, Try.ntmps130
      go_wp2_with fail
      go_ret
      have hr : roleOf xs last t true op = -1 := by simp [roleOf, unhide hk', unhide HO]
      exact ⟨ret_int hr.symm, fun h0 => absurd h0 (by rw [hr]; decide), Kept1.of_below (below1 _ _)⟩
  · have hk' := hide hk
    have k3 : (t.k == 3) = false := by simp; omega
    have k5 : (t.k == 5) = false := by simp; omega
    have k7 : (t.k == 7) = false := by simp; omega
    clear hk
    go_enter Try.func130, Try.ntmps130
    go_wp2_with fail
    go_ret
    have hr : roleOf xs last t true op = -1 := by have := unhide hk'; simp [roleOf, this]
    exact ⟨ret_int hr.symm, fun h0 => absurd h0 (by rw [hr]; decide), Kept1.of_below (below1 _ _)⟩

set_option maxHeartbeats 4000000 in
theorem step_any (p bo bs op : Nat) (bh last : Bool) (xs : List OpR) (t : TokR) (w : World) (h : Ft w p bo bs bh op) (hi : Idx w bo bs xs xs.length) (ht : t.t.size ≤ maxLen) (hop : op ≤ 1048576) :
    Calls Try.prog 96 #[.pointer (some ⟨p, 0, none⟩), .agg #[.int .i64 t.k, .string t.g, .string t.t], .bool last] w fun e w' => e = .returned (.int .i64 (roleOf xs last t bh op)) ∧ Stepped xs t bh op (roleOf xs last t bh op) w w' p bo bs := by
  have HI := hide (hi.kept (below1 w (.cells #[.int .i64 t.k, .string t.g, .string t.t] 79)))
  have HF := hide (h.kept (below1 w (.cells #[.int .i64 t.k, .string t.g, .string t.t] 79)))
  have hp : p < w.heap.size := block_lt_of_cell h.c0
  have d2 := (unhide HF).c2
  clear hi h
  cases bh
  · go_enter Try.func96, Try.ntmps96
    go_wp2_with fail
    refine (stepBefore_any p bo bs op last xs t _ (unhide HF) (unhide HI) ht hop).mono ?_
    rintro e w1 ⟨rfl, hs1, hk1⟩
    have HS1 := hide hs1
    have HK1 := hide hk1
    clear hs1 hk1
    go_wp2_with fail
    go_ret
    exact ⟨rfl, unhide HS1, (Kept1.of_below (below1 _ _)).trans (unhide HK1)⟩
  · go_enter Try.func96, Try.ntmps96
    go_wp2_with fail
    refine (stepBehind_any p bo bs op last xs t _ (unhide HF) (unhide HI) ht hop).mono ?_
    rintro e w1 ⟨rfl, hs1, hk1⟩
    have HS1 := hide hs1
    have HK1 := hide hk1
    clear hs1 hk1
    go_wp2_with fail
    go_ret
    exact ⟨rfl, unhide HS1, (Kept1.of_below (below1 _ _)).trans (unhide HK1)⟩
end Go.Proofs.Ytokabkhnidlcnab
