import Derived.Deep.RegionHeldLaw
import Derived.Test.YtokabkhnidlcnabT02
import Derived.Test.YtokabkhnidlcnabT03
import Derived.Test.YtokabkhnidlcnabT08
import Derived.Test.YtokabkhnidlcnabT10

/-
  Walks: the program's operators of nodes, levels.
-/
namespace Go.Proofs.Ytokabkhnidlcnab
set_option maxRecDepth 100000
set_option linter.unusedSimpArgs false
set_option linter.unusedVariables false
open Go.RowKit Go.Maps

/-- The kind of a node's operator, 0 where it has none. -/
def opKd (k : Int) : Int := if 3 ≤ k ∧ k ≤ 5 then k - 2 else 0

theorem opKd_op {k : Int} (h : 3 ≤ k ∧ k ≤ 5) : opKd k = k - 2 := if_pos h

theorem opKind_any (k : Int) (w : World) :
    Calls Try.prog 132 #[.int .i64 k] w fun e w' => e = .returned (.int .i64 (opKd k)) ∧ w' = w := by
  by_cases h3 : k = 3
  · subst h3
    go_enter Try.func132, Try.ntmps132
    go_wp2
    go_ret
    exact ⟨ret_int (by simp [opKd]), rfl⟩
  by_cases h4 : k = 4
  · subst h4
    go_enter Try.func132, Try.ntmps132
    go_wp2
    go_ret
    exact ⟨ret_int (by simp [opKd]), rfl⟩
  by_cases h5 : k = 5
  · subst h5
    go_enter Try.func132, Try.ntmps132
    go_wp2
    go_ret
    exact ⟨ret_int (by simp [opKd]), rfl⟩
  have e3 : (k == 3) = false := by simpa using h3
  have e4 : (k == 4) = false := by simpa using h4
  have e5 : (k == 5) = false := by simpa using h5
  have HK := hide (show opKd k = 0 by unfold opKd; rw [if_neg]; omega)
  clear h3 h4 h5
  go_enter Try.func132, Try.ntmps132
  go_wp2
  go_ret
  exact ⟨ret_int (unhide HK).symm, rfl⟩

/-- What the index says of a node. -/
theorem idx_find {w : World} {bo bs : Nat} {xs : List OpR} (hi : Idx w bo bs xs xs.length) (hc : IsCode xs 0) (hok : okTo xs xs.length) (o : NodeR) (ht : o.t.size ≤ maxLen) :
    ∃ D : DataW Unit, w.ownsMap Try.prog 164 opElem bo xs.length D ∧
      ((∃ j, isOpN o ∧ fnd xs o.t (o.k - 2) = some j ∧ Maps.has D (klO o.t (opKd o.k)) = true ∧ D.atKey (klO o.t (opKd o.k)) (opDat ⟨#[]⟩ 0 0 0) = opDat (atO xs j).s (atO xs j).k (atO xs j).l (atO xs j).sd) ∨
       ((isOpN o → fnd xs o.t (o.k - 2) = none) ∧ Maps.has D (klO o.t (opKd o.k)) = false)) := by
  obtain ⟨⟨D, hown, hD⟩, _, _⟩ := hi
  have hw : (Lit.int .i64 (opKd o.k)).wf = true := by
    unfold opKd
    split
    · rename_i h
      rcases (by omega : o.k = 3 ∨ o.k = 4 ∨ o.k = 5) with e | e | e <;> rw [e] <;> decide
    · decide
  obtain ⟨h1, h2⟩ := hD o.t (opKd o.k) ht hw
  refine ⟨D, hown, ?_⟩
  cases hh : Maps.has D (klO o.t (opKd o.k)) with
  | true =>
    obtain ⟨j, hj, e1, e2, e3⟩ := h2 hh
    have hop : isOpN o := by
      unfold isOpN
      have hk := ok_kind (hok j hj)
      unfold opKd at e2
      split at e2
      · assumption
      · omega
    have e2' : (atO xs j).k = o.k - 2 := by
      rw [e2]; exact opKd_op hop
    exact Or.inl ⟨j, hop, fnd_one hc hj ⟨e1, e2'⟩, rfl, e3⟩
  | false =>
    refine Or.inr ⟨fun hop => fnd_not (fun j hj h => ?_), rfl⟩
    have : Maps.has D (klO o.t (opKd o.k)) = true := h1.2 ⟨j, hj, h.1, by rw [h.2]; exact (opKd_op hop).symm⟩
    rw [hh] at this
    cases this

/-- What the index's look at a node gives. -/
def FoundAt (xs : List OpR) (o : NodeR) (p : OpR) (found : Bool) : Prop :=
  (∃ j, isOpN o ∧ fnd xs o.t (o.k - 2) = some j ∧ found = true ∧ p = atO xs j) ∨ ((isOpN o → fnd xs o.t (o.k - 2) = none) ∧ found = false)

set_option maxHeartbeats 2000000 in
theorem opOf_any (bo bs : Nat) (xs : List OpR) (o : NodeR) (w : World) (hi : Idx w bo bs xs xs.length) (hc : IsCode xs 0) (hok : okTo xs xs.length) (ht : o.t.size ≤ maxLen) :
    Calls Try.prog 105 #[.agg #[.map (some bo), .map (some bs)], .agg #[.int .i64 o.k, .string o.t, .int .i64 o.a, .int .i64 o.b]] w fun e w' => (∃ (p : OpR) (v : Bool), e = .returned (.tuple #[.agg #[.string p.s, .int .i64 p.k, .int .i64 p.l, .int .i64 p.sd], .bool v]) ∧ FoundAt xs o p v) ∧ Below w.heap.size w w' := by
  obtain ⟨D, hown, hcase⟩ := idx_find hi hc hok o ht
  have hw : (Lit.int .i64 (opKd o.k)).wf = true := by
    unfold opKd
    split
    · rename_i h
      rcases (by omega : o.k = 3 ∨ o.k = 4 ∨ o.k = 5) with e | e | e <;> rw [e] <;> decide
    · decide
  have HKY := hide (keyK ht hw)
  have HOW := hide hown
  have HCS := hide hcase
  have HB3 := hide (show ∀ o1 o2 o3 : Obj, Below w.heap.size w ((w.alloc o1).alloc o2 |>.alloc o3) from fun o1 o2 o3 => ((below1 w o1).alloc (by simp) o2).alloc (by simp; omega) o3)
  clear hown hcase hi hc hok
  go_enter Try.func105, Try.ntmps105
  go_wp2_with fail
  have hlook : ∀ W : World, W.ownsMap Try.prog 164 opElem bo xs.length D → ∃ p v, (Instr.lookup 82 (.map (some bo)) (.agg #[.string o.t, .int .i64 (opKd o.k)]) true).run Try.prog W = .ok (.tuple #[.agg #[.string p.s, .int .i64 p.k, .int .i64 p.l, .int .i64 p.sd], .bool v]) W ∧ FoundAt xs o p v := fun W hW => by
    obtain ⟨v, ps, hr, hv⟩ := hW.look_ok lawK Try.underlying82 (zeroOp _) (opElem_mk _ _ _ _) (unhide HKY)
    rcases unhide HCS with ⟨j, h1, h2, h3, h4⟩ | ⟨h1, h2⟩
    · rw [h4] at hv
      have e := opElem_dat hv
      subst e
      rw [h3] at hr
      exact ⟨atO xs j, true, hr, Or.inl ⟨j, h1, h2, rfl, rfl⟩⟩
    · obtain ⟨s, k, l, sd, rfl⟩ := opElem_inv hv
      rw [h2] at hr
      exact ⟨⟨s, k, l, sd⟩, false, hr, Or.inr ⟨h1, rfl⟩⟩
  obtain ⟨p1, v1, hr1, hp1⟩ := hlook (((w.alloc (.cells #[.map (some bo), .map (some bs)] 85)).alloc (.cells #[.int .i64 o.k, .string o.t, .int .i64 o.a, .int .i64 o.b] 115)).alloc (.cells #[.string ⟨#[]⟩, .int .i64 0, .int .i64 0, .int .i64 0] 70)).drew ((((unhide HOW).alloc _).alloc _).alloc _).drew
  obtain ⟨p2, v2, hr2, hp2⟩ := hlook ((((w.alloc (.cells #[.map (some bo), .map (some bs)] 85)).alloc (.cells #[.int .i64 o.k, .string o.t, .int .i64 o.a, .int .i64 o.b] 115)).alloc (.cells #[.string ⟨#[]⟩, .int .i64 0, .int .i64 0, .int .i64 0] 70)).alloc (.cells #[.string ⟨#[]⟩, .int .i64 0, .int .i64 0, .int .i64 0] 70)).drew (((((unhide HOW).alloc _).alloc _).alloc _).alloc _).drew
  have HP1 := hide hp1
  have HP2 := hide hp2
  clear hp1 hp2 hlook
  go_region_held (fun w' => w'.cell? ⟨w.heap.size, 0, none⟩ = some (.map (some bo)) ∧ w'.cell? ⟨w.heap.size + 1, 0, none⟩ = some (.int .i64 o.k) ∧ w'.cell? ⟨w.heap.size + 1, 1, none⟩ = some (.string o.t)) (go_keep)
    (first | (go_at_call 132; refine (opKind_any _ _).mono ?_; rintro e w2 ⟨rfl, hx⟩; obtain rfl := hx.symm))
  all_goals go_wp2
  all_goals first | (refine bodyPost_ret (v := .tuple #[.agg #[.string p1.s, .int .i64 p1.k, .int .i64 p1.l, .int .i64 p1.sd], .bool v1]) ?_ rfl ⟨⟨p1, v1, rfl, unhide HP1⟩, ((((below1 _ _).alloc (by simp) _).alloc (by simp; omega) _).alloc (by simp; omega) _).drew⟩; (simp [results, Try.results105, go_sem]; done)) | (refine bodyPost_ret (v := .tuple #[.agg #[.string p2.s, .int .i64 p2.k, .int .i64 p2.l, .int .i64 p2.sd], .bool v2]) ?_ rfl ⟨⟨p2, v2, rfl, unhide HP2⟩, ((((below1 _ _).alloc (by simp) _).alloc (by simp; omega) _).alloc (by simp; omega) _).drew⟩; (simp [results, Try.results105, go_sem]; done))

/-- The level that the index gives a node. -/
theorem found_lev {xs : List OpR} {o : NodeR} {p : OpR} {v : Bool} (h : FoundAt xs o p v) : levN xs o = if v = true then p.l else 1001 := by
  rcases h with ⟨j, h1, h2, rfl, rfl⟩ | ⟨h1, rfl⟩
  · unfold levN
    have h1' : 3 ≤ o.k ∧ o.k ≤ 5 := h1
    rw [if_pos h1', h2]
    simp
  · unfold levN
    simp only [Bool.false_eq_true, if_false]
    split
    · rename_i h
      rw [h1 h]
    · rfl

end Go.Proofs.Ytokabkhnidlcnab

/-
  Walks: the specification's kinds of bytes, forms of texts.
-/
namespace Go.Proofs.Ytokabkhnidlcnab
set_option maxRecDepth 100000
open Go.RowKit

theorem l2Digit_any (c : UInt8) (w : World) :
    Calls Try.prog 120 #[.int .u8 (c.toNat : Int)] w fun e w' => e = .returned (.bool (decide (cls c = 2))) ∧ w' = w := by
  go_enter Try.func120, Try.ntmps120
  go_wp2
  all_goals (go_ret; refine ⟨ret_bool ?_, rfl⟩; go_light; rw [Bool.eq_iff_iff]; simp [cls_dig] <;> omega)

theorem l2Letter_any (c : UInt8) (w : World) :
    Calls Try.prog 119 #[.int .u8 (c.toNat : Int)] w fun e w' => e = .returned (.bool (decide (cls c = 3))) ∧ w' = w := by
  go_enter Try.func119, Try.ntmps119
  go_wp2
  all_goals (go_ret; refine ⟨ret_bool ?_, rfl⟩; go_light; rw [Bool.eq_iff_iff]; simp [cls_let] <;> omega)

theorem l2Blank_any (c : UInt8) (w : World) :
    Calls Try.prog 50 #[.int .u8 (c.toNat : Int)] w fun e w' => e = .returned (.bool (decide (cls c = 1))) ∧ w' = w := by
  go_enter Try.func50, Try.ntmps50
  go_wp2
  all_goals (go_ret; refine ⟨ret_bool ?_, rfl⟩; go_light; (try simp only [beq_iff_eq, beq_eq_false_iff_ne, ne_eq] at *); rw [Bool.eq_iff_iff]; simp [cls_blank] <;> omega)

/-- A Bool that says whether p holds. -/
def Says (v : Bool) (p : Prop) : Prop := v = true ↔ p
/-- The call gives a Bool that says whether p holds. -/
def RetB (e : Ending) (p : Prop) : Prop := ∃ v : Bool, e = .returned (.bool v) ∧ Says v p

set_option maxHeartbeats 400000 in
theorem l2IsNumber_any (s : ByteArray) (w : World) (hs : s.size ≤ maxLen) :
    Calls Try.prog 84 #[.string s] w fun e w' => RetB e (NumT s) ∧ w' = w := by
  unfold maxLen at hs
  go_enter Try.func84, Try.ntmps84
  go_wp2
  go_loop [3] (fun i => ∃ k : Nat, k ≤ s.size ∧ i = .int .i64 k ∧ Hid (∀ j, j < k → cls (bt s j) = 2)) (fun i => s.size - (intOf i).toNat)
  case atStart => exact ⟨0, Nat.zero_le _, rfl, hide (fun j h => by omega)⟩
  case round =>
    obtain ⟨k, hk, rfl, hn⟩ := hrel
    by_cases hlt : k < s.size
    · cases hb : decide (cls s[k] = 2)
      · have Hb := hide hb
        go_wp2_with (go_at_call 120; refine (l2Digit_any _ _).mono ?_; rintro e w' ⟨rfl, rfl⟩)
        go_ret
        refine ⟨⟨_, rfl, ⟨fun h => (by cases h), fun h => ?_⟩⟩, rfl⟩
        have h2 := h.2 k hlt
        have := unhide Hb
        rw [bt_get hlt] at this
        simp at this
        exact absurd h2 this
      · have Hb := hide hb
        go_wp2_with (go_at_call 120; refine (l2Digit_any _ _).mono ?_; rintro e w' ⟨rfl, rfl⟩)
        refine ⟨⟨k + 1, by omega, by go_num, hide (fun j hj => ?_)⟩, by simp [intOf]; omega⟩
        by_cases e : j = k
        · subst e
          have := unhide Hb
          rw [bt_get hlt] at this
          simpa using this
        · exact (unhide hn) j (by omega)
    · by_cases h1 : 1 ≤ s.size
      · have h1' : (1 : Int) ≤ (s.size : Int) := by omega
        go_wp2
        go_ret
        exact ⟨⟨_, rfl, ⟨fun _ => ⟨h1, fun j hj => (unhide hn) j (by omega)⟩, fun _ => by simp; omega⟩⟩, rfl⟩
      · go_wp2
        go_ret
        exact ⟨⟨decide (0 < s.size), rfl, ⟨fun h => absurd (of_decide_eq_true h) (by omega), fun h => absurd h.1 h1⟩⟩, rfl⟩

set_option maxHeartbeats 400000 in
theorem l2IsName_any (s : ByteArray) (w : World) (hs : s.size ≤ maxLen) :
    Calls Try.prog 85 #[.string s] w fun e w' => RetB e (NameT s) ∧ w' = w := by
  unfold maxLen at hs
  go_enter Try.func85, Try.ntmps85
  go_wp2
  go_loop [3] (fun i => ∃ k : Nat, k ≤ s.size ∧ i = .int .i64 k ∧ Hid (∀ j, j < k → (cls (bt s j) = 3 ∨ (j ≠ 0 ∧ cls (bt s j) = 2)))) (fun i => s.size - (intOf i).toNat)
  case atStart => exact ⟨0, Nat.zero_le _, rfl, hide (fun j h => by omega)⟩
  case round =>
    obtain ⟨k, hk, rfl, hn⟩ := hrel
    by_cases hlt : k < s.size
    · have hbk := hide (bt_get hlt)
      have no : (¬ cls (bt s k) = 3) → (k = 0 ∨ ¬ cls (bt s k) = 2) → ∀ v, v = false → Says v (NameT s) := fun h1 h2 v hv => by
        subst hv
        refine ⟨fun h => (by cases h), fun h => ?_⟩
        have := h.2 k hlt
        omega
      have NO := hide no
      clear no
      cases hb : decide (cls s[k] = 3)
      · have hb3 := hide (show ¬ cls (bt s k) = 3 by rw [bt_get hlt] at hb; simpa using hb)
        by_cases hk0 : k = 0
        · subst hk0
          go_wp2_with (go_at_call 119; refine (l2Letter_any _ _).mono ?_; rintro e w' ⟨rfl, rfl⟩)
          go_ret
          exact ⟨⟨_, rfl, (unhide NO) (unhide hb3) (Or.inl trivial) _ rfl⟩, rfl⟩
        · have hk0' : ((k : Int) == 0) = false := by simp; omega
          cases hd : decide (cls s[k] = 2)
          · have hd2 := hide (show ¬ cls (bt s k) = 2 by rw [bt_get hlt] at hd; simpa using hd)
            go_wp2_with (first | (go_at_call 119; refine (l2Letter_any _ _).mono ?_; rintro e w' ⟨rfl, rfl⟩) | (go_at_call 120; refine (l2Digit_any _ _).mono ?_; rintro e w' ⟨rfl, rfl⟩))
            go_ret
            exact ⟨⟨_, rfl, (unhide NO) (unhide hb3) (Or.inr (unhide hd2)) _ rfl⟩, rfl⟩
          · have hd2 := hide (show cls (bt s k) = 2 by rw [bt_get hlt] at hd; simpa using hd)
            go_wp2_with (first | (go_at_call 119; refine (l2Letter_any _ _).mono ?_; rintro e w' ⟨rfl, rfl⟩) | (go_at_call 120; refine (l2Digit_any _ _).mono ?_; rintro e w' ⟨rfl, rfl⟩))
            refine ⟨⟨k + 1, by omega, by go_num, hide (fun j hj => ?_)⟩, by simp [intOf]; omega⟩
            by_cases e : j = k
            · subst e
              exact Or.inr ⟨hk0, unhide hd2⟩
            · exact (unhide hn) j (by omega)
      · have hb3 := hide (show cls (bt s k) = 3 by rw [bt_get hlt] at hb; simpa using hb)
        go_wp2_with (go_at_call 119; refine (l2Letter_any _ _).mono ?_; rintro e w' ⟨rfl, rfl⟩)
        refine ⟨⟨k + 1, by omega, by go_num, hide (fun j hj => ?_)⟩, by simp [intOf]; omega⟩
        by_cases e : j = k
        · subst e
          exact Or.inl (unhide hb3)
        · exact (unhide hn) j (by omega)
    · by_cases h1 : 1 ≤ s.size
      · have h1' : (1 : Int) ≤ (s.size : Int) := by omega
        go_wp2
        go_ret
        exact ⟨⟨_, rfl, ⟨fun _ => ⟨h1, fun j hj => (unhide hn) j (by omega)⟩, fun _ => by simp; omega⟩⟩, rfl⟩
      · go_wp2
        go_ret
        exact ⟨⟨decide (0 < s.size), rfl, ⟨fun h => absurd (of_decide_eq_true h) (by omega), fun h => absurd h.1 h1⟩⟩, rfl⟩

theorem bytes_inj {a b : ByteArray} (h : a.toList = b.toList) : a = b := by
  rw [ByteArray.toList_eq, ByteArray.toList_eq] at h
  obtain ⟨⟨l⟩⟩ := a
  obtain ⟨⟨l'⟩⟩ := b
  simpa using h

set_option maxHeartbeats 400000 in
theorem l2Find_any (b off cap : Nat) (xs : List OpR) (t : ByteArray) (kd : Int) (w : World) (hm : xs.length ≤ 1048576) (hw : Ops w b off xs) (hB : b < w.heap.size) :
    Calls Try.prog 94 #[.agg #[.slice (some ⟨b, off, none⟩) xs.length cap], .string t, .int .i64 kd] w fun e w' => (∃ r : Int, e = .returned (.int .i64 r) ∧ (0 ≤ r ↔ ∃ j, j < xs.length ∧ (atO xs j).s = t ∧ (atO xs j).k = kd)) ∧ Below w.heap.size w w' := by
  go_enter Try.func94, Try.ntmps94
  go_wp2
  have hops : Ops (w.alloc (.cells #[.slice (some ⟨b, off, none⟩) xs.length cap] 28)) b off xs := hw.below (below1 _ _) hB
  have HO := hide hops
  clear hops hw
  go_loop [7] (fun i => ∃ k : Nat, k ≤ xs.length ∧ i = .int .i64 k ∧ Hid (∀ j, j < k → ¬ ((atO xs j).s = t ∧ (atO xs j).k = kd))) (fun i => xs.length - (intOf i).toNat)
  case atStart => exact ⟨0, Nat.zero_le _, rfl, hide (fun j h => by omega)⟩
  case round =>
    obtain ⟨k, hk, rfl, hn⟩ := hrel
    by_cases hlt : k < xs.length
    · obtain ⟨a0, a1, a2, a3⟩ := (unhide HO) k hlt
      have hnx := hide (show ∀ (_ : ¬ ((atO xs k).s = t ∧ (atO xs k).k = kd)), ∀ j, j < k + 1 → ¬ ((atO xs j).s = t ∧ (atO xs j).k = kd) from fun hne j hj => by
        by_cases e : j = k
        · subst e; exact hne
        · exact (unhide hn) j (by omega))
      go_wp2
      · rename_i hs1 hk1 _
        go_ret
        exact ⟨⟨(k : Int), rfl, ⟨fun _ => ⟨k, hlt, bytes_inj hs1, by simpa using hk1⟩, fun _ => by omega⟩⟩, below1 _ _⟩
      · refine ⟨⟨k + 1, by omega, by go_num, hide ((unhide hnx) ?_)⟩, by simp [intOf]; omega⟩
        rintro ⟨_, h⟩
        simp_all
      · refine ⟨⟨k + 1, by omega, by go_num, hide ((unhide hnx) ?_)⟩, by simp [intOf]; omega⟩
        rintro ⟨h, _⟩
        simp_all
    · go_wp2
      go_ret
      refine ⟨⟨-1, rfl, ⟨fun h => absurd h (by decide), fun ⟨j, hj, h⟩ => absurd h ((unhide hn) j (by omega))⟩⟩, below1 _ _⟩
end Go.Proofs.Ytokabkhnidlcnab
