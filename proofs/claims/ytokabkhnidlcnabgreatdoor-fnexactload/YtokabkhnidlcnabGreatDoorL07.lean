import Derived.OwnWalk
import Derived.Laws.OwnMore
import Derived.Lib.SplitLaws
import Derived.Test.YtokabkhnidlcnabGreatDoorL00
import Derived.Test.YtokabkhnidlcnabGreatDoorL01

/-
  What grows: worlds in which one row may have changed.
-/
namespace Go.Proofs.YtokabkhnidlcnabGreatDoor
set_option maxRecDepth 100000
open Go.RowKit

theorem grown_belN {w w' : World} (h : Below w.heap.size w w') (row : Option Nat) : w.grownBy w' row := ⟨h.os, h.tape, h.output, h.size, fun i hi _ => h.block i hi⟩

theorem grown_below {w w1 w2 : World} {row : Option Nat} (h : Below w.heap.size w w1) (h2 : w1.grownBy w2 row) : w.grownBy w2 row :=
  ⟨h2.os.trans h.os, h2.tape.trans h.tape, h2.output.trans h.output, Nat.le_trans h.size h2.size, fun i hi hr => (h2.block i (Nat.lt_of_lt_of_le hi h.size) hr).trans (h.block i hi)⟩

theorem grown_trans {w w1 w2 : World} {row row' : Option Nat} (h : w.grownBy w1 row) (h2 : w1.grownBy w2 row') (hr : row' = row ∨ ∃ k, row' = some k ∧ w.heap.size ≤ k) : w.grownBy w2 row :=
  ⟨h2.os.trans h.os, h2.tape.trans h.tape, h2.output.trans h.output, Nat.le_trans h.size h2.size, fun i hi hne => (h2.block i (Nat.lt_of_lt_of_le hi h.size) (fun e => by
    rcases hr with rfl | ⟨k, rfl, hk⟩
    · exact hne e
    · injection e with e; omega)).trans (h.block i hi hne)⟩

theorem grown_cell {w w' : World} {row : Option Nat} (h : w.grownBy w' row) {b : Nat} (hb : b < w.heap.size) (hne : row ≠ some b) (o : Nat) : w'.cell? ⟨b, o, none⟩ = w.cell? ⟨b, o, none⟩ :=
  World.cell?_of_block (w := w) (h.block b hb (fun e => hne e.symm))

theorem grown_at {w w' : World} {row row' : Option Nat} (h : w.grownBy w' row) (hr : row' = row ∨ ∃ k, row' = some k ∧ w.heap.size ≤ k) (r : Option Nat) (hr2 : r = row' ∨ ∃ k, r = some k ∧ w'.heap.size ≤ k) : r = row ∨ ∃ k, r = some k ∧ w.heap.size ≤ k := by
  have := h.size
  rcases hr2 with rfl | ⟨k, rfl, hk⟩
  · exact hr
  · exact Or.inr ⟨k, rfl, by omega⟩

theorem info_parts' {t : TypeId} {z : Value} {s b : Nat} (h : (Tryz.prog.info? t).map (fun i => (i.zero, i.size, i.bytes)) = some (some z, s, b)) : ∃ i, Tryz.prog.info? t = some i ∧ i.zero = some z ∧ i.size = s ∧ i.bytes = b := by
  obtain ⟨i, hi, hz⟩ := Option.map_eq_some_iff.1 h
  simp only [Prod.mk.injEq] at hz
  exact ⟨i, hi, hz.1, hz.2.1, hz.2.2⟩
end Go.Proofs.YtokabkhnidlcnabGreatDoor

/-
  What the library's cuts say, by places.
-/
namespace Go.Proofs.YtokabkhnidlcnabGreatDoor
set_option maxRecDepth 100000
set_option linter.unusedSimpArgs false
set_option linter.unusedVariables false

theorem bt_some {s : ByteArray} {j : Nat} (h : j < s.size) : s.data.toList[j]? = some (bt s j) := by
  have h' : j < s.data.size := h
  unfold bt
  rw [Array.getElem?_toList, Array.getElem?_eq_getElem h']
  rfl

theorem occ_one (s : ByteArray) (c : UInt8) (j : Nat) : Lib.occAt s.data.toList [c] j = decide (j < s.size ∧ bt s j = c) := by
  unfold Lib.occAt
  by_cases h : j < s.size
  · have hl : j < s.data.toList.length := h
    have hb := bt_some h
    rw [List.getElem?_eq_getElem hl] at hb
    injection hb with hb
    rw [List.drop_eq_getElem_cons hl, hb]
    rw [Bool.eq_iff_iff]
    simp [List.isPrefixOf, h]
    exact ⟨fun e => e.symm, fun e => e.symm⟩
  · have hl : s.data.toList.length ≤ j := Nat.le_of_not_lt h
    rw [List.drop_eq_nil_of_le hl]
    simp [List.isPrefixOf, h]

theorem index_nx (s : ByteArray) (c : UInt8) : (nx c s 0 < s.size → Lib.indexB s ⟨#[c]⟩ = (nx c s 0 : Int)) ∧ (¬ nx c s 0 < s.size → Lib.indexB s ⟨#[c]⟩ = -1) := by
  obtain ⟨h1, h2, h3, h4⟩ := nx_spec c s 0 (Nat.zero_le _)
  constructor
  · intro h
    refine Lib.index_first (s := s.data.toList) (sub := [c]) h2 ?_ (fun j hj => ?_)
    · rw [occ_one]; simpa using ⟨h, h4 h⟩
    · rw [occ_one]; simp only [decide_eq_false_iff_not]
      exact fun e => h3 j (Nat.zero_le _) hj e.2
  · intro h
    refine Lib.index_none (s := s.data.toList) (sub := [c]) (fun j hj => ?_)
    rw [occ_one]; simp only [decide_eq_false_iff_not]
    exact fun e => h3 j (Nat.zero_le _) (by omega) e.2

theorem size_ext (s : ByteArray) (a b : Nat) : (s.extract a b).size = min b s.size - a := by
  simp [ByteArray.size_extract]

theorem bt_ext (s : ByteArray) (a b j : Nat) (h : j < min b s.size - a) : bt (s.extract a b) j = bt s (a + j) := by
  have h1 : j < (s.extract a b).size := by rw [size_ext]; exact h
  rw [← bt_get h1, ← bt_get (s := s) (i := a + j) (by omega)]
  simp [ByteArray.getElem_extract]

theorem nx_shift (c : UInt8) (s : ByteArray) (a : Nat) (ha : a ≤ s.size) : nx c s a = a + nx c (s.extract a s.size) 0 := by
  obtain ⟨h1, h2, h3, h4⟩ := nx_spec c (s.extract a s.size) 0 (Nat.zero_le _)
  rw [size_ext, Nat.min_self] at h2 h4
  refine nx_one ha (by omega) (by omega) (fun k k1 k2 => ?_) (fun h => ?_)
  · have := h3 (k - a) (Nat.zero_le _) (by omega)
    rw [bt_ext s a s.size (k - a) (by rw [Nat.min_self]; omega)] at this
    rwa [show a + (k - a) = k by omega] at this
  · have := h4 (by omega)
    rwa [bt_ext s a s.size _ (by rw [Nat.min_self]; omega)] at this

theorem ext_ext (s : ByteArray) (a k l : Nat) (h : a + l ≤ s.size) : (s.extract a s.size).extract k l = s.extract (a + k) (a + l) := by
  rw [ByteArray.extract_extract]
  congr 1
  omega

theorem ext_zero (s : ByteArray) : s.extract 0 s.size = s := by simp

/-- The pieces of a text, from a place on. -/
theorem split_pcs (c : UInt8) (s : ByteArray) : ∀ (n a : Nat), s.size - a < n → a ≤ s.size → Lib.splitB ⟨#[c]⟩ 0 (Lib.countB (s.extract a s.size) ⟨#[c]⟩) (s.extract a s.size) = (pcs c s a).map (fun p => s.extract p.1 p.2)
  | 0, a, hn, ha => by omega
  | n + 1, a, hn, ha => by
    have hsz : (s.extract a s.size).size = s.size - a := by rw [size_ext, Nat.min_self]
    obtain ⟨i1, i2⟩ := index_nx (s.extract a s.size) c
    have hx := nx_shift c s a ha
    obtain ⟨g1, g2, g3, g4⟩ := nx_spec c s a ha
    rw [pcs_step c s a ha]
    by_cases h : nx c s a < s.size
    · have e := i1 (by omega)
      have hone : (⟨#[c]⟩ : ByteArray).size = 1 := rfl
      have e1 : (s.extract a s.size).extract 0 (nx c (s.extract a s.size) 0) = s.extract a (nx c s a) := by
        rw [ext_ext s a 0 _ (by omega), hx, Nat.add_zero]
      have e2 : (s.extract a s.size).extract (nx c (s.extract a s.size) 0 + 1) (s.size - a) = s.extract (nx c s a + 1) s.size := by
        rw [ext_ext s a _ _ (by omega), show a + (nx c (s.extract a s.size) 0 + 1) = nx c s a + 1 by omega, show a + (s.size - a) = s.size by omega]
      have e3 := split_pcs c s n (nx c s a + 1) (by omega) (by omega)
      rw [if_pos h, Lib.countB_hit _ _ _ (by rw [hone]; exact Nat.le_refl _) e, Nat.add_comm, Lib.splitB_hit _ _ _ _ _ e, List.map_cons, hone, hsz, e2, e3, Nat.add_zero, e1]
    · have e := i2 (by omega)
      rw [if_neg h, Lib.countB_miss _ _ e, Lib.splitB_zero]
      simp only [List.map_cons, List.map_nil]
      rw [show nx c s a = s.size by omega]

theorem splitB_pcs (c : UInt8) (s : ByteArray) : Lib.splitB ⟨#[c]⟩ 0 (Lib.countB s ⟨#[c]⟩) s = (pcs c s 0).map (fun p => s.extract p.1 p.2) := by
  have := split_pcs c s (s.size + 1) 0 (by omega) (Nat.zero_le _)
  rwa [ext_zero] at this

/-- The pieces that are not empty. -/
def full (ps : List ByteArray) : List ByteArray := ps.filter (fun b => decide (0 < b.size))

theorem full_pcs (s : ByteArray) : ∀ (n a : Nat), s.size - a < n → a ≤ s.size → full ((pcs 32 s a).map (fun p => s.extract p.1 p.2)) = wdsFrom s a
  | 0, a, hn, ha => by omega
  | n + 1, a, hn, ha => by
    obtain ⟨g1, g2, g3, g4⟩ := nx_spec 32 s a ha
    rw [wdsFrom_step s a ha, pcs_step 32 s a ha, List.map_cons]
    have hsz : (s.extract a (nx 32 s a)).size = nx 32 s a - a := by rw [size_ext]; omega
    have hrest : full ((if nx 32 s a < s.size then pcs 32 s (nx 32 s a + 1) else []).map (fun p => s.extract p.1 p.2)) = (if nx 32 s a < s.size then wdsFrom s (nx 32 s a + 1) else []) := by
      by_cases h : nx 32 s a < s.size
      · rw [if_pos h, if_pos h]
        exact full_pcs s n _ (by omega) (by omega)
      · rw [if_neg h, if_neg h]; rfl
    rw [← hrest]
    unfold full
    by_cases h : a < nx 32 s a
    · rw [if_pos h, List.filter_cons_of_pos (by simp [hsz]; omega)]; rfl
    · rw [if_neg h, List.filter_cons_of_neg (by simp [hsz]; omega)]; rfl

/-- The words are the pieces that are not empty. -/
theorem full_split (s : ByteArray) : full (Lib.splitB ⟨#[32]⟩ 0 (Lib.countB s ⟨#[32]⟩) s) = wds s := by
  rw [splitB_pcs, full_pcs s (s.size + 1) 0 (by omega) (Nat.zero_le _)]
  rfl

theorem full_take (ps : List ByteArray) (k : Nat) (p : ByteArray) (h : ps[k]? = some p) : full (ps.take (k + 1)) = full (ps.take k) ++ (if 0 < p.size then [p] else []) := by
  rw [List.take_add_one, h]
  unfold full
  rw [List.filter_append]
  congr 1
  by_cases hp : 0 < p.size
  · simp [hp]
  · simp [hp]

/-- What strings.Cut answers at a text's rest from place a on. -/
theorem cut_nx (s : ByteArray) (a : Nat) (ha : a ≤ s.size) : (⟨(Lib.cut (s.extract a s.size).data.toList [10]).1.toArray⟩ : ByteArray) = s.extract a (nx 10 s a) ∧ (⟨(Lib.cut (s.extract a s.size).data.toList [10]).2.1.toArray⟩ : ByteArray) = bodyB s (nx 10 s a) ∧ (Lib.cut (s.extract a s.size).data.toList [10]).2.2 = decide (nx 10 s a < s.size) := by
  have hsz : (s.extract a s.size).size = s.size - a := by rw [size_ext, Nat.min_self]
  obtain ⟨i1, i2⟩ := index_nx (s.extract a s.size) 10
  have hx := nx_shift 10 s a ha
  obtain ⟨g1, g2, g3, g4⟩ := nx_spec 10 s a ha
  by_cases h : nx 10 s a < s.size
  · obtain ⟨e1, e2, e3⟩ := Lib.cutB_hit (s.extract a s.size) ⟨#[10]⟩ _ (i1 (by omega))
    refine ⟨e1.trans ?_, e2.trans ?_, e3.trans (by simp [h])⟩
    · rw [ext_ext s a 0 _ (by omega), hx, Nat.add_zero]
    · unfold bodyB
      have hone : (⟨#[10]⟩ : ByteArray).size = 1 := rfl
      rw [if_pos h, hsz, hone, ext_ext s a _ _ (by omega), show a + (nx 10 (s.extract a s.size) 0 + 1) = nx 10 s a + 1 by omega, show a + (s.size - a) = s.size by omega]
  · obtain ⟨e1, e2, e3⟩ := Lib.cutB_miss (s.extract a s.size) ⟨#[10]⟩ (i2 (by omega))
    refine ⟨e1.trans ?_, e2.trans ?_, e3.trans (by simp [h])⟩
    · rw [show nx 10 s a = s.size by omega]
    · unfold bodyB; rw [if_neg h]
end Go.Proofs.YtokabkhnidlcnabGreatDoor

/-
  Walks: digits, numbers, in the specification.
-/
namespace Go.Proofs.YtokabkhnidlcnabGreatDoor
set_option maxRecDepth 100000
open Go.RowKit

theorem l2Digit_any (c : UInt8) (w : World) :
    Calls Tryz.prog 33 #[.int .u8 (c.toNat : Int)] w fun e w' => e = .returned (.bool (decide (cls c = 2))) ∧ w' = w := by
  go_enter Tryz.func33, Tryz.ntmps33
  go_wp2
  all_goals (go_ret; refine ⟨ret_bool ?_, rfl⟩; go_light; rw [Bool.eq_iff_iff]; simp [cls_dig] <;> omega)

/-- A Bool that says whether p holds. -/
def Says (v : Bool) (p : Prop) : Prop := v = true ↔ p
/-- The call gives a Bool that says whether p holds. -/
def RetB (e : Ending) (p : Prop) : Prop := ∃ v : Bool, e = .returned (.bool v) ∧ Says v p

set_option maxHeartbeats 400000 in
theorem l2IsNumber_any (s : ByteArray) (w : World) (hs : s.size ≤ maxLen) :
    Calls Tryz.prog 60 #[.string s] w fun e w' => RetB e (NumT s) ∧ w' = w := by
  unfold maxLen at hs
  go_enter Tryz.func60, Tryz.ntmps60
  go_wp2
  go_loop [3] (fun i => ∃ k : Nat, k ≤ s.size ∧ i = .int .i64 k ∧ Hid (∀ j, j < k → cls (bt s j) = 2)) (fun i => s.size - (intOf i).toNat)
  case atStart => exact ⟨0, Nat.zero_le _, rfl, hide (fun j h => by omega)⟩
  case round =>
    obtain ⟨k, hk, rfl, hn⟩ := hrel
    by_cases hlt : k < s.size
    · cases hb : decide (cls s[k] = 2)
      · have Hb := hide hb
        go_wp2_with (go_at_call 33; refine (l2Digit_any _ _).mono ?_; rintro e w' ⟨rfl, rfl⟩)
        go_ret
        refine ⟨⟨_, rfl, ⟨fun h => (by cases h), fun h => ?_⟩⟩, rfl⟩
        have h2 := h.2 k hlt
        have := unhide Hb
        rw [bt_get hlt] at this
        simp at this
        exact absurd h2 this
      · have Hb := hide hb
        go_wp2_with (go_at_call 33; refine (l2Digit_any _ _).mono ?_; rintro e w' ⟨rfl, rfl⟩)
        refine ⟨⟨k + 1, by omega, by go_num, hide (fun j hj => ?_)⟩, by simp [intOf]; omega⟩
        by_cases e : j = k
        · subst e
          have := unhide Hb
          rw [bt_get hlt] at this
          simpa using this
        · exact (unhide hn) j (by omega)
    · by_cases h1 : 1 ≤ s.size
      · have h1' : (1 : Int) ≤ (s.size : Int) := by omega
        go_wp2
        go_ret
        exact ⟨⟨_, rfl, ⟨fun _ => ⟨h1, fun j hj => (unhide hn) j (by omega)⟩, fun _ => by simp; omega⟩⟩, rfl⟩
      · go_wp2
        go_ret
        exact ⟨⟨decide (0 < s.size), rfl, ⟨fun h => absurd (of_decide_eq_true h) (by omega), fun h => absurd h.1 h1⟩⟩, rfl⟩

theorem bytes_inj {a b : ByteArray} (h : a.toList = b.toList) : a = b := by
  rw [ByteArray.toList_eq, ByteArray.toList_eq] at h
  obtain ⟨⟨l⟩⟩ := a
  obtain ⟨⟨l'⟩⟩ := b
  simpa using h
end Go.Proofs.YtokabkhnidlcnabGreatDoor
