/-
  What the laws do with modules that were read: equality, marks.
-/
import Derived.Test.YtokabkhnidlcnabDoorUnitAns
import Derived.Test.YtokabkhnidlcnabDoorMarkOpsF
import Derived.BigQuiet
namespace Go.Proofs.YtokabkhnidlcnabDoor
set_option maxRecDepth 100000
set_option linter.unusedSimpArgs false
set_option linter.unusedVariables false
open Go.RowKit

/-- The text at a place. -/
def atS (us : List ByteArray) (i : Nat) : ByteArray := us.getD i ByteArray.empty
theorem atS_get {us : List ByteArray} {i : Nat} (h : i < us.length) : us[i]? = some (atS us i) := by
  unfold atS
  rw [List.getD_eq_getElem?_getD, List.getElem?_eq_getElem h]
  rfl

set_option maxHeartbeats 1000000 in
theorem eqStringS_any (v v' : Value) (us : List ByteArray) (w : World) (hm : us.length ≤ 1048576) (h : StrsAt w v us) (h' : StrsAt w v' us) :
    Calls Tryd.prog 15 #[v, v'] w fun e w' => e = .returned (.bool true) ∧ Below w.heap.size w w' := by
  by_cases h0 : us.length = 0
  · obtain ⟨a, c, rfl, _⟩ := h
    obtain ⟨a', c', rfl, _⟩ := h'
    rw [h0]
    clear h0 hm
    go_enter Tryd.func15, Tryd.ntmps15
    go_wp2
    refine wp_loop_rounds 1 ?_
    rw [rounds_succ]
    go_wp2
    go_ret
    exact ⟨rfl, Below.refl _ _⟩
  · obtain ⟨b, c, rfl, hb, h⟩ := h.lt (by omega)
    obtain ⟨b', c', rfl, hb', h'⟩ := h'.lt (by omega)
    have H := hide h
    have H' := hide h'
    clear h h' h0
    go_enter Tryd.func15, Tryd.ntmps15
    go_wp2
    go_loopw [5] (fun i wr => ∃ k : Nat, k ≤ us.length ∧ i = .int .i64 (k : Int) ∧ Below w.heap.size w wr) (fun i _ => us.length - (intOf i).toNat)
    case atStart => exact ⟨0, Nat.zero_le _, rfl, Below.refl _ _⟩
    case round =>
      obtain ⟨k, hk, rfl, hbel⟩ := hrel
      by_cases hlt : k < us.length
      · have hltI : (k : Int) < (us.length : Int) := by omega
        have a0 := (hbel.cell (p := ⟨b, k, none⟩) hb).trans ((unhide H) k _ (atS_get hlt))
        have a1 := (hbel.cell (p := ⟨b', k, none⟩) hb').trans ((unhide H') k _ (atS_get hlt))
        go_wp2_with fail
        go_region_held (fun w' => w'.cell? ⟨b, k, none⟩ = some (.string (atS us k)) ∧ w'.cell? ⟨b', k, none⟩ = some (.string (atS us k))) (go_keep) (fail)
        go_wp2
        exact ⟨⟨k + 1, by omega, by go_num, hbel.drew⟩, by simp [intOf]; omega⟩
      · go_wp2
        go_ret
        exact ⟨rfl, hbel⟩

/-- A row of operators, as it is read. -/
def OpsAt (w : World) (v : Value) (os : List OpR) : Prop := ∃ a c, v = .slice a os.length c ∧ (os.length = 0 ∨ ∃ g, a = some ⟨g, 0, none⟩ ∧ g < w.heap.size ∧ Ops w g 0 os)

theorem RowO.ops {w : World} {B : Nat} {v : Value} {os : List OpR} (h : RowO w B v os) : OpsAt w v os := by
  obtain ⟨a, c, rfl⟩ : ∃ a c, v = .slice a os.length c := rowS_slice h
  refine ⟨a, c, rfl, ?_⟩
  have h' := h
  obtain ⟨_, ⟨h1, h2⟩ | ⟨g, cap, cur, h1, _⟩⟩ := h'
  · exact Or.inl h2
  · simp only [Value.slice.injEq] at h1
    obtain ⟨rfl, _, rfl⟩ := h1
    exact Or.inr ⟨g, rfl, (h.lt g rfl).2, (owns_filled h).2.ops⟩

theorem OpsAt.grown {w w' : World} {v : Value} {os : List OpR} {row : Option Nat} (h : OpsAt w v os) (hg : w.grownBy w' row) (hne : ∀ g, v.ownBlock = some g → row ≠ some g) : OpsAt w' v os := by
  obtain ⟨a, c, rfl, h⟩ := h
  refine ⟨a, c, rfl, h.imp id ?_⟩
  rintro ⟨g, rfl, h1, h2⟩
  refine ⟨g, rfl, Nat.lt_of_lt_of_le h1 hg.size, fun i hi => ?_⟩
  obtain ⟨q0, q1, q2, q3⟩ := h2 i hi
  have e := fun o => grown_cell hg h1 (hne g rfl) o
  exact ⟨(e _).trans q0, (e _).trans q1, (e _).trans q2, (e _).trans q3⟩

set_option maxHeartbeats 1000000 in
theorem eqOps_any (v v' : Value) (os : List OpR) (w : World) (hm : os.length ≤ 1048576) (h : OpsAt w v os) (h' : OpsAt w v' os) :
    Calls Tryd.prog 16 #[v, v'] w fun e w' => e = .returned (.bool true) ∧ Below w.heap.size w w' := by
  by_cases h0 : os.length = 0
  · obtain ⟨a, c, rfl, _⟩ := h
    obtain ⟨a', c', rfl, _⟩ := h'
    rw [h0]
    clear h0 hm
    go_enter Tryd.func16, Tryd.ntmps16
    go_wp2
    refine wp_loop_rounds 1 ?_
    rw [rounds_succ]
    go_wp2
    go_ret
    exact ⟨rfl, Below.refl _ _⟩
  · obtain ⟨a, c, rfl, h | ⟨g, rfl, hg, h⟩⟩ := h
    · exact absurd h h0
    obtain ⟨a', c', rfl, h' | ⟨g', rfl, hg', h'⟩⟩ := h'
    · exact absurd h' h0
    exact eqOpS_same g 0 g' 0 c c' os w hm h h' hg hg'

set_option maxHeartbeats 1000000 in
theorem eqUnit_any (vu vo vu' vo' : Value) (b : ByteArray) (us : List ByteArray) (os : List OpR) (w : World) (hm : us.length ≤ 1048576) (hm2 : os.length ≤ 1048576) (h1 : StrsAt w vu us) (h2 : StrsAt w vu' us) (h3 : OpsAt w vo os) (h4 : OpsAt w vo' os) :
    Calls Tryd.prog 6 #[.agg #[vu, vo, .string b], .agg #[vu', vo', .string b]] w fun e w' => e = .returned (.bool true) ∧ Below w.heap.size w w' := by
  obtain ⟨W, hW⟩ : ∃ W, W = (w.alloc (.cells #[vu, vo, .string b] 25)).alloc (.cells #[vu', vo', .string b] 25) := ⟨_, rfl⟩
  have hbW : Below w.heap.size w W := by rw [hW]; exact (below1 _ _).alloc (by simp) _
  have HES := hide (eqStringS_any vu vu' us W hm (h1.below hbW) (h2.below hbW))
  have q1 : W.cell? ⟨w.heap.size, 1, none⟩ = some vo := by rw [hW]; simp [go_sem]
  have q2 : W.cell? ⟨w.heap.size, 2, none⟩ = some (.string b) := by rw [hW]; simp [go_sem]
  have q3 : W.cell? ⟨w.heap.size + 1, 1, none⟩ = some vo' := by rw [hW]; simp [go_sem]
  have q4 : W.cell? ⟨w.heap.size + 1, 2, none⟩ = some (.string b) := by rw [hW]; simp [go_sem]
  have zW : w.heap.size + 2 ≤ W.heap.size := by rw [hW]; simp
  have HEO := hide (fun (w' : World) (hb : Below w.heap.size w w') => eqOps_any vo vo' os w' hm2 (h3.grown (row := none) (grown_belN hb none) (fun g _ e => by cases e)) (h4.grown (row := none) (grown_belN hb none) (fun g _ e => by cases e)))
  obtain ⟨a1, c1, rfl, _⟩ := h1
  obtain ⟨a2, c2, rfl, _⟩ := h2
  obtain ⟨a3, c3, rfl, _⟩ := h3
  obtain ⟨a4, c4, rfl, _⟩ := h4
  have HW := hide hW
  have HBW := hide hbW
  clear hW hbW
  go_enter Tryd.func6, Tryd.ntmps6
  go_wp2_with fail
  rw [← unhide HW]
  (with_reducible refine (unhide HES).mono ?_)
  rintro e w1 ⟨rfl, hb1⟩
  have HB1 := hide ((unhide HBW).trans (hb1.mono (by omega)))
  have r1 := (hb1.cell (p := ⟨w.heap.size, 1, none⟩) (by show w.heap.size < _; omega)).trans q1
  have r2 := (hb1.cell (p := ⟨w.heap.size, 2, none⟩) (by show w.heap.size < _; omega)).trans q2
  have r3 := (hb1.cell (p := ⟨w.heap.size + 1, 1, none⟩) (by show w.heap.size + 1 < _; omega)).trans q3
  have r4 := (hb1.cell (p := ⟨w.heap.size + 1, 2, none⟩) (by show w.heap.size + 1 < _; omega)).trans q4
  have z1 := hb1.size
  have HEO1 := hide ((unhide HEO) w1 (unhide HB1))
  clear hb1 q1 q2 q3 q4 HES HEO
  go_wp2_with fail
  (with_reducible refine (unhide HEO1).mono ?_)
  rintro e w2 ⟨rfl, hb2⟩
  have s2 := (hb2.cell (p := ⟨w.heap.size, 2, none⟩) (by show w.heap.size < _; omega)).trans r2
  have s4 := (hb2.cell (p := ⟨w.heap.size + 1, 2, none⟩) (by show w.heap.size + 1 < _; omega)).trans r4
  have HB2 := hide ((unhide HB1).trans (hb2.mono (by omega)))
  clear hb2 r1 r2 r3 r4 HEO1
  go_wp2
  go_ret
  exact ⟨rfl, unhide HB2⟩

/-- A row of texts that holds the marks from k on. -/
def MarkS (w : World) (v : Value) (k n : Nat) : Prop := ∃ a c, v = .slice a n c ∧ (n = 0 ∨ ∃ g, a = some ⟨g, 0, none⟩ ∧ g < w.heap.size ∧ ∀ i, i < n → w.cell? ⟨g, i, none⟩ = some (.string (MT (k + i))))
def MarkO (w : World) (v : Value) (k n : Nat) : Prop := ∃ a c, v = .slice a n c ∧ (n = 0 ∨ ∃ g, a = some ⟨g, 0, none⟩ ∧ Filled w g (mks k n) n)

theorem MarkS.grown {w w' : World} {v : Value} {k n : Nat} {row : Option Nat} (h : MarkS w v k n) (hg : w.grownBy w' row) (hne : ∀ g, v.ownBlock = some g → row ≠ some g) : MarkS w' v k n := by
  obtain ⟨a, c, rfl, h⟩ := h
  refine ⟨a, c, rfl, h.imp id ?_⟩
  rintro ⟨g, rfl, h1, h2⟩
  exact ⟨g, rfl, Nat.lt_of_lt_of_le h1 hg.size, fun i hi => (grown_cell hg h1 (hne g rfl) i).trans (h2 i hi)⟩
theorem MarkS.below {w w' : World} {v : Value} {k n : Nat} (h : MarkS w v k n) (hb : Below w.heap.size w w') : MarkS w' v k n := h.grown (row := none) (grown_belN hb none) (fun g _ e => by cases e)
theorem MarkO.below {w w' : World} {v : Value} {k n : Nat} (h : MarkO w v k n) (hb : Below w.heap.size w w') : MarkO w' v k n := by
  obtain ⟨a, c, rfl, h⟩ := h
  refine ⟨a, c, rfl, h.imp id ?_⟩
  rintro ⟨g, rfl, h1⟩
  exact ⟨g, rfl, h1.below hb h1.1⟩

set_option maxHeartbeats 2000000 in
theorem markStringS_own (v : Value) (B k : Nat) (us : List ByteArray) (w : World) (hm : us.length ≤ 1048576) (h1 : 1 ≤ k) (hk : k ≤ 10000000) (h : RowS w B v us) :
    Calls Tryd.prog 17 #[v, .int .i64 (k : Int)] w fun e w' => e = .returned (.int .i64 ((k + us.length : Nat) : Int)) ∧ MarkS w' v k us.length ∧ w.grownBy w' v.ownBlock := by
  by_cases h0 : us.length = 0
  · obtain ⟨a, c, rfl⟩ := rowS_slice h
    rw [h0]
    clear h0 hm h
    go_enter Tryd.func17, Tryd.ntmps17
    go_wp2
    refine wp_loop_rounds 1 ?_
    rw [rounds_succ]
    go_wp2
    go_ret
    exact ⟨rfl, ⟨a, c, rfl, Or.inl rfl⟩, grown_belN (Below.refl _ _) _⟩
  · obtain ⟨a, c, rfl⟩ := rowS_slice h
    have hth : ∃ g, a = some ⟨g, 0, none⟩ ∧ g < w.heap.size ∧ w.there g 0 us.length := by
      have h' := h
      obtain ⟨_, ⟨e1, e2⟩ | ⟨g, cap, cur, e1, _⟩⟩ := h'
      · exact absurd e2 h0
      · simp only [Value.slice.injEq] at e1
        obtain ⟨rfl, _, rfl⟩ := e1
        refine ⟨g, rfl, (h.lt g rfl).2, fun j hj => ⟨?_, World.ownsRow.frozenAt h _⟩⟩
        rw [World.ownsRow.cellAt h (0 + j) (by omega)]
        have : 0 + j < (cellsS us).length := by rw [cellsS_len]; omega
        rw [List.getElem?_eq_getElem this]
        rfl
    obtain ⟨g, rfl, hg, hth⟩ := hth
    have HTH := hide hth
    clear hth h h0
    go_enter Tryd.func17, Tryd.ntmps17
    go_wp2
    go_loopw [1, 5] (fun kk i wr => ∃ n c : Nat, n ≤ us.length ∧ i = .int .i64 (n : Int) ∧ kk = .int .i64 (c : Int) ∧ 1 ≤ c ∧ c ≤ 100000000 ∧ Hid (c = k + n) ∧ Hid (wr.there g 0 us.length ∧ ∀ i, i < n → wr.cell? ⟨g, i, none⟩ = some (.string (MT (k + i)))) ∧ Hid (Kept1 w wr g)) (fun _ i _ => us.length - (intOf i).toNat)
    case atStart => exact ⟨0, k, Nat.zero_le _, rfl, rfl, h1, by omega, hide rfl, hide ⟨unhide HTH, fun i hi => by omega⟩, hide (Kept1.refl _ _)⟩
    case round =>
      clear HTH
      obtain ⟨n, c1, hn, rfl, rfl, hc1, hc2, hc, hf, hkp⟩ := hrel
      by_cases hlt : n < us.length
      · have hltI : (n : Int) < (us.length : Int) := by omega
        go_wp2_with fail
        refine (markText_any c1 _ hc1 (by omega)).mono ?_
        rintro e w1 ⟨rfl, hb1⟩
        have hgr : g < wr.heap.size := Nat.lt_of_lt_of_le hg (unhide hkp).size
        have hth1 : w1.there g 0 us.length := fun j hj => by
          have := (unhide hf).1 j hj
          exact ⟨by rw [hb1.cell (p := ⟨g, _, none⟩) hgr]; exact this.1, by rw [hb1.frozen (p := ⟨g, _, none⟩) hgr]; exact this.2⟩
        have hth0 := hth1 n hlt
        rw [Nat.zero_add] at hth0
        obtain ⟨u0, e0⟩ := Option.isSome_iff_exists.1 hth0.1
        have f0 := hth0.2
        have HN := hide (show (w1.setCell ⟨g, n, none⟩ (.string (MT c1))).there g 0 us.length ∧ ∀ i, i < n + 1 → (w1.setCell ⟨g, n, none⟩ (.string (MT c1))).cell? ⟨g, i, none⟩ = some (.string (MT (k + i))) from ⟨(show (w1.setCells g n [Value.string (MT c1)]).there g 0 us.length from World.there_setCells hth1 _ _ _), fun i hi => by
          by_cases e : i = n
          · subst e
            rw [World.cell?_setCell_same _ _ _ e0, unhide hc]
          · rw [World.cell?_setCell_other _ _ _ _ (by simp; first | done | omega)]
            exact (hb1.cell (p := ⟨g, i, none⟩) hgr).trans ((unhide hf).2 i (by omega))⟩)
        have HK := hide (((unhide hkp).trans (Kept1.of_below hb1)).trans (kept1_setCells [Value.string (MT c1)] n w1))
        clear hth1 hth0 hf hkp hb1
        go_wp2_with fail
        refine ⟨⟨n + 1, c1 + 1, by omega, by go_num, by go_num, by omega, ?_, hide ?_, HN, HK⟩, by simp [intOf]; omega⟩
        · have := unhide hc; omega
        · have := unhide hc; omega
      · have hnn : n = us.length := by omega
        have HF := hide (show ∀ i, i < us.length → wr.cell? ⟨g, i, none⟩ = some (.string (MT (k + i))) from fun i hi => (unhide hf).2 i (by omega))
        have HNN := hide hnn
        clear hnn
        go_wp2
        go_ret
        exact ⟨ret_int (by have := unhide hc; have := unhide HNN; omega), ⟨_, _, rfl, Or.inr ⟨g, rfl, Nat.lt_of_lt_of_le hg (unhide hkp).size, unhide HF⟩⟩, grown_kept1 (unhide hkp)⟩

set_option maxHeartbeats 2000000 in
theorem heldStringS_any (v : Value) (k n : Nat) (w : World) (hm : n ≤ 1048576) (h1 : 1 ≤ k) (hk : k ≤ 10000000) (h : MarkS w v k n) :
    Calls Tryd.prog 19 #[v, .int .i64 (k : Int)] w fun e w' => e = .returned (.int .i64 ((k + n : Nat) : Int)) ∧ Below w.heap.size w w' := by
  by_cases h0 : n = 0
  · obtain ⟨a, c, rfl, _⟩ := h
    subst h0
    clear hm
    go_enter Tryd.func19, Tryd.ntmps19
    go_wp2
    refine wp_loop_rounds 1 ?_
    rw [rounds_succ]
    go_wp2
    go_ret
    exact ⟨rfl, Below.refl _ _⟩
  · obtain ⟨a, c, rfl, h | ⟨g, rfl, hg, hf⟩⟩ := h
    · exact absurd h h0
    have HF := hide hf
    clear hf h0
    go_enter Tryd.func19, Tryd.ntmps19
    go_wp2
    go_loopw [1, 5] (fun kk i wr => ∃ m c : Nat, m ≤ n ∧ i = .int .i64 (m : Int) ∧ kk = .int .i64 (c : Int) ∧ 1 ≤ c ∧ c ≤ 100000000 ∧ Hid (c = k + m) ∧ Below w.heap.size w wr) (fun _ i _ => n - (intOf i).toNat)
    case atStart => exact ⟨0, k, Nat.zero_le _, rfl, rfl, h1, by omega, hide rfl, Below.refl _ _⟩
    case round =>
      obtain ⟨m, c1, hmn, rfl, rfl, hc1, hc2, hc, hbel⟩ := hrel
      by_cases hlt : m < n
      · have hltI : (m : Int) < (n : Int) := by omega
        have a0 : wr.cell? ⟨g, m, none⟩ = some (.string (MT c1)) := by
          rw [unhide hc]
          exact (hbel.cell (p := ⟨g, m, none⟩) hg).trans ((unhide HF) m hlt)
        have zg : g < wr.heap.size := Nat.lt_of_lt_of_le hg hbel.size
        have HX := hide (markText_any c1 wr.drew hc1 (by omega))
        go_wp2_with fail
        go_region_held (fun w' => w'.cell? ⟨g, m, none⟩ = some (.string (MT c1))) (first | (go_keep; done) | exact q0)
          (first | (go_at_call 28; (with_reducible refine (unhide HX).mono ?_); rintro e w1 ⟨rfl, hb1⟩; have q0 := (hb1.cell (p := ⟨g, m, none⟩) zg).trans (show wr.drew.cell? ⟨g, m, none⟩ = _ from a0)))
        go_wp2
        refine ⟨⟨m + 1, c1 + 1, by omega, by go_num, by go_num, by omega, ?_, hide ?_, hbel.trans (((Below.refl wr.heap.size wr).drew.trans hb1).mono hbel.size)⟩, by simp [intOf]; omega⟩
        · have := unhide hc; omega
        · have := unhide hc; omega
      · go_wp2
        go_ret
        exact ⟨ret_int (by have := unhide hc; omega), hbel⟩

set_option maxHeartbeats 2000000 in
theorem markOps_own (v : Value) (B k : Nat) (os : List OpR) (w : World) (hm : os.length ≤ 1048576) (h1 : 1 ≤ k) (hk : k ≤ 10000000) (h : RowO w B v os) :
    Calls Tryd.prog 18 #[v, .int .i64 (k : Int)] w fun e w' => e = .returned (.int .i64 ((k + 4 * os.length : Nat) : Int)) ∧ MarkO w' v k os.length ∧ w.grownBy w' v.ownBlock := by
  by_cases h0 : os.length = 0
  · obtain ⟨a, c, rfl⟩ : ∃ a c, v = .slice a os.length c := rowS_slice h
    rw [h0]
    clear h0 hm h
    go_enter Tryd.func18, Tryd.ntmps18
    go_wp2
    refine wp_loop_rounds 1 ?_
    rw [rounds_succ]
    go_wp2
    go_ret
    exact ⟨rfl, ⟨a, c, rfl, Or.inl rfl⟩, grown_belN (Below.refl _ _) _⟩
  · have h' := h
    obtain ⟨_, ⟨e1, e2⟩ | ⟨g, cap, cur, rfl, _⟩⟩ := h'
    · exact absurd e2 h0
    · refine (markOpS_any g cap k os w hm h1 hk (owns_filled h).2).mono ?_
      rintro e w' ⟨rfl, hf, hkp⟩
      exact ⟨rfl, ⟨_, _, rfl, Or.inr ⟨g, rfl, hf⟩⟩, grown_kept1 hkp⟩

set_option maxHeartbeats 2000000 in
theorem heldOps_any (v : Value) (k n : Nat) (w : World) (hm : n ≤ 1048576) (h1 : 1 ≤ k) (hk : k ≤ 10000000) (h : MarkO w v k n) :
    Calls Tryd.prog 20 #[v, .int .i64 (k : Int)] w fun e w' => e = .returned (.int .i64 ((k + 4 * n : Nat) : Int)) ∧ Below w.heap.size w w' := by
  by_cases h0 : n = 0
  · obtain ⟨a, c, rfl, _⟩ := h
    subst h0
    clear hm
    go_enter Tryd.func20, Tryd.ntmps20
    go_wp2
    refine wp_loop_rounds 1 ?_
    rw [rounds_succ]
    go_wp2
    go_ret
    exact ⟨rfl, Below.refl _ _⟩
  · obtain ⟨a, c, rfl, h | ⟨g, rfl, hf⟩⟩ := h
    · exact absurd h h0
    exact heldOpS_any g c k n w hm h1 hk hf

set_option maxHeartbeats 2000000 in
theorem markUnit_any (vu vo : Value) (B : Nat) (b : ByteArray) (us : List ByteArray) (os : List OpR) (w : World) (hm : us.length ≤ 20001) (hm2 : os.length ≤ 20001) (h1 : RowS w B vu us) (h2 : RowO w B vo os) (hne : ∀ g, vu.ownBlock = some g → vo.ownBlock ≠ some g) (hB : B ≤ w.heap.size) :
    Calls Tryd.prog 7 #[.agg #[vu, vo, .string b], .int .i64 1] w fun e w' => e = .returned (.int .i64 ((1 + us.length + 4 * os.length : Nat) : Int)) ∧ MarkS w' vu 1 us.length ∧ MarkO w' vo (1 + us.length) os.length ∧ Below B w w' ∧ ∀ A o, A < w.heap.size → vu.ownBlock ≠ some A → vo.ownBlock ≠ some A → w'.cell? ⟨A, o, none⟩ = w.cell? ⟨A, o, none⟩ := by
  obtain ⟨W, hW⟩ : ∃ W, W = w.alloc (.cells #[vu, vo, .string b] 25) := ⟨_, rfl⟩
  have hbW : Below w.heap.size w W := by rw [hW]; exact below1 _ _
  have q1 : W.cell? ⟨w.heap.size, 1, none⟩ = some vo := by rw [hW]; simp [go_sem]
  have zW : w.heap.size + 1 ≤ W.heap.size := by rw [hW]; simp
  have HMS := hide (markStringS_own vu B 1 us W (by omega) (by omega) (by omega) (h1.below hbW))
  have hnw : vu.ownBlock ≠ some w.heap.size := fun e => by have := (h1.lt _ e).2; omega
  have HRO := hide (h2.below hbW)
  have HLU := hide (fun k e => (h1.lt k e).1)
  have HLO := hide (fun k e => (h2.lt k e).1)
  have HNE := hide hne
  obtain ⟨K1, hK1⟩ : ∃ K1 : Nat, K1 = 1 + us.length := ⟨_, rfl⟩
  rw [← hK1] at HMS
  obtain ⟨K2, hK2⟩ : ∃ K2 : Nat, K2 = K1 + 4 * os.length := ⟨_, rfl⟩
  have HK1 := hide hK1
  have HK2 := hide hK2
  have hk1 : K1 ≤ 20002 := by omega
  have hk1' : 1 ≤ K1 := by omega
  clear hK1 hK2
  obtain ⟨a1, c1, rfl⟩ := rowS_slice h1
  obtain ⟨a2, c2, rfl⟩ : ∃ a c, vo = .slice a os.length c := rowS_slice h2
  have HW := hide hW
  have HBW := hide hbW
  have HNW := hide hnw
  clear hW hbW h1 h2 hne hnw
  go_enter Tryd.func7, Tryd.ntmps7
  go_wp2_with fail
  rw [← unhide HW]
  refine (unhide HMS).mono ?_
  rintro e w1 ⟨rfl, hm1, hg1⟩
  have r1 := (grown_cell hg1 (by omega : w.heap.size < W.heap.size) (unhide HNW) 1).trans q1
  have HB1 := hide (show Below B w w1 from ((unhide HBW).mono hB).grown hg1 (by omega) (unhide HLU))
  have HRO1 := (unhide HRO).grown hg1 (fun k e1 e2 => (unhide HNE) k e2 e1)
  have HMO := hide (markOps_own _ B K1 os w1 (by omega) hk1' (by omega) HRO1)
  rw [← unhide HK2] at HMO
  have HM1 := hide hm1
  have z1 := hg1.size
  have HG1 := hide hg1
  clear hm1 hg1 HRO1 HMS HRO
  go_wp2_with fail
  (with_reducible refine (unhide HMO).mono ?_)
  rintro e w2 ⟨rfl, hm2', hg2⟩
  have HM2 := hide ((unhide HM1).grown hg2 (fun k e1 e2 => (unhide HNE) k e1 e2))
  have HB2 := hide (show Below B w w2 from (unhide HB1).grown hg2 (by omega) (unhide HLO))
  have HMO2 := hide hm2'
  have HALL := hide (show ∀ A o, A < w.heap.size → (Value.slice a1 us.length c1).ownBlock ≠ some A → (Value.slice a2 os.length c2).ownBlock ≠ some A → w2.cell? ⟨A, o, none⟩ = w.cell? ⟨A, o, none⟩ from fun A o h1 h2 h3 =>
    (grown_cell hg2 (by omega : A < w1.heap.size) h3 o).trans ((grown_cell (unhide HG1) (by omega : A < W.heap.size) h2 o).trans ((unhide HBW).cell (p := ⟨A, o, none⟩) h1)))
  clear hm2' hg2 r1 q1 HMO
  go_wp2
  go_ret
  exact ⟨ret_int (by rw [unhide HK2, unhide HK1]), unhide HM2, (by rw [← unhide HK1]; exact unhide HMO2), unhide HB2, unhide HALL⟩

set_option maxHeartbeats 2000000 in
theorem heldUnit_any (vu vo : Value) (b : ByteArray) (n m : Nat) (w : World) (hm : n ≤ 20001) (hm2 : m ≤ 20001) (h1 : MarkS w vu 1 n) (h2 : MarkO w vo (1 + n) m) :
    Calls Tryd.prog 8 #[.agg #[vu, vo, .string b], .int .i64 1] w fun e w' => e = .returned (.int .i64 ((1 + n + 4 * m : Nat) : Int)) ∧ Below w.heap.size w w' := by
  obtain ⟨W, hW⟩ : ∃ W, W = w.alloc (.cells #[vu, vo, .string b] 25) := ⟨_, rfl⟩
  have hbW : Below w.heap.size w W := by rw [hW]; exact below1 _ _
  have q1 : W.cell? ⟨w.heap.size, 1, none⟩ = some vo := by rw [hW]; simp [go_sem]
  have zW : w.heap.size + 1 ≤ W.heap.size := by rw [hW]; simp
  have HMS := hide (heldStringS_any vu 1 n W (by omega) (by omega) (by omega) (h1.below hbW))
  have HMO := hide (h2.below hbW)
  obtain ⟨a1, c1, rfl, _⟩ := h1
  obtain ⟨a2, c2, rfl, _⟩ := h2
  have HW := hide hW
  have HBW := hide hbW
  clear hW hbW
  obtain ⟨K1, hK1⟩ : ∃ K1 : Nat, K1 = 1 + n := ⟨_, rfl⟩
  rw [← hK1] at HMS HMO
  obtain ⟨K2, hK2⟩ : ∃ K2 : Nat, K2 = K1 + 4 * m := ⟨_, rfl⟩
  have HK1 := hide hK1
  have HK2 := hide hK2
  have hk1 : K1 ≤ 20002 := by omega
  have hk1' : 1 ≤ K1 := by omega
  have p1 : ¬ (K1 : Int) < 0 := by omega
  have p2 : ¬ (K2 : Int) < 0 := by omega
  clear hK1 hK2
  go_enter Tryd.func8, Tryd.ntmps8
  go_wp2_with fail
  rw [← unhide HW]
  refine (unhide HMS).mono ?_
  rintro e w1 ⟨rfl, hb1⟩
  have r1 := (hb1.cell (p := ⟨w.heap.size, 1, none⟩) (by show w.heap.size < _; omega)).trans q1
  have HB1 := hide ((unhide HBW).trans (hb1.mono (by omega)))
  have HX := hide (heldOps_any _ K1 m w1 (by omega) hk1' (by omega) ((unhide HMO).below hb1))
  rw [← unhide HK2] at HX
  have z1 := hb1.size
  clear hb1 HMS HMO
  go_wp2_with fail
  (with_reducible refine (unhide HX).mono ?_)
  rintro e w2 ⟨rfl, hb2⟩
  have HB2 := hide ((unhide HB1).trans (hb2.mono (by omega)))
  clear hb2 r1 q1 HX
  go_wp2
  go_ret
  exact ⟨ret_int (by rw [unhide HK2, unhide HK1]), unhide HB2⟩
end Go.Proofs.YtokabkhnidlcnabDoor
