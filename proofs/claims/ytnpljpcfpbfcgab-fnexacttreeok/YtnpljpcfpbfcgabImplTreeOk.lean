/-
  Walks: the program's operators of nodes, levels.
-/
import Derived.Test.YtnpljpcfpbfcgabTreeOkM
import Derived.Test.YtnpljpcfpbfcgabImplTable
import Derived.Deep.RegionHeldLaw
namespace Go.Proofs.Ytnpljpcfpbfcgab
set_option maxRecDepth 100000
set_option linter.unusedSimpArgs false
set_option linter.unusedVariables false
open Go.RowKit Go.Maps

/-- The kind of a node's operator, 0 where it has none. -/
def opKd (k : Int) : Int := if 3 ≤ k ∧ k ≤ 5 then k - 2 else 0

theorem opKd_op {k : Int} (h : 3 ≤ k ∧ k ≤ 5) : opKd k = k - 2 := if_pos h

theorem opKind_any (k : Int) (w : World) :
    Calls Try.prog 132 #[.int .i64 k] w fun e w' => e = .returned (.int .i64 (opKd k)) ∧ w' = w := by
  by_cases h3 : k = 3
  · subst h3
    go_enter Try.func132, Try.ntmps132
    go_wp2
    go_ret
    exact ⟨ret_int (by simp [opKd]), rfl⟩
  by_cases h4 : k = 4
  · subst h4
    go_enter Try.func132, Try.ntmps132
    go_wp2
    go_ret
    exact ⟨ret_int (by simp [opKd]), rfl⟩
  by_cases h5 : k = 5
  · subst h5
    go_enter Try.func132, Try.ntmps132
    go_wp2
    go_ret
    exact ⟨ret_int (by simp [opKd]), rfl⟩
  have e3 : (k == 3) = false := by simpa using h3
  have e4 : (k == 4) = false := by simpa using h4
  have e5 : (k == 5) = false := by simpa using h5
  have HK := hide (show opKd k = 0 by unfold opKd; rw [if_neg]; omega)
  clear h3 h4 h5
  go_enter Try.func132, Try.ntmps132
  go_wp2
  go_ret
  exact ⟨ret_int (unhide HK).symm, rfl⟩

/-- What the index says of a node. -/
theorem idx_find {w : World} {bo bs : Nat} {xs : List OpR} (hi : Idx w bo bs xs xs.length) (hc : IsCode xs 0) (hok : okTo xs xs.length) (o : NodeR) (ht : o.t.size ≤ maxLen) :
    ∃ D : DataW Unit, w.ownsMap Try.prog 164 opElem bo xs.length D ∧
      ((∃ j, isOpN o ∧ fnd xs o.t (o.k - 2) = some j ∧ Maps.has D (klO o.t (opKd o.k)) = true ∧ D.atKey (klO o.t (opKd o.k)) (opDat ⟨#[]⟩ 0 0 0) = opDat (atO xs j).s (atO xs j).k (atO xs j).l (atO xs j).sd) ∨
       ((isOpN o → fnd xs o.t (o.k - 2) = none) ∧ Maps.has D (klO o.t (opKd o.k)) = false)) := by
  obtain ⟨⟨D, hown, hD⟩, _, _⟩ := hi
  have hw : (Lit.int .i64 (opKd o.k)).wf = true := by
    unfold opKd
    split
    · rename_i h
      rcases (by omega : o.k = 3 ∨ o.k = 4 ∨ o.k = 5) with e | e | e <;> rw [e] <;> decide
    · decide
  obtain ⟨h1, h2⟩ := hD o.t (opKd o.k) ht hw
  refine ⟨D, hown, ?_⟩
  cases hh : Maps.has D (klO o.t (opKd o.k)) with
  | true =>
    obtain ⟨j, hj, e1, e2, e3⟩ := h2 hh
    have hop : isOpN o := by
      unfold isOpN
      have hk := ok_kind (hok j hj)
      unfold opKd at e2
      split at e2
      · assumption
      · omega
    have e2' : (atO xs j).k = o.k - 2 := by
      rw [e2]; exact opKd_op hop
    exact Or.inl ⟨j, hop, fnd_one hc hj ⟨e1, e2'⟩, rfl, e3⟩
  | false =>
    refine Or.inr ⟨fun hop => fnd_not (fun j hj h => ?_), rfl⟩
    have : Maps.has D (klO o.t (opKd o.k)) = true := h1.2 ⟨j, hj, h.1, by rw [h.2]; exact (opKd_op hop).symm⟩
    rw [hh] at this
    cases this

/-- What the index's look at a node gives. -/
def FoundAt (xs : List OpR) (o : NodeR) (p : OpR) (found : Bool) : Prop :=
  (∃ j, isOpN o ∧ fnd xs o.t (o.k - 2) = some j ∧ found = true ∧ p = atO xs j) ∨ ((isOpN o → fnd xs o.t (o.k - 2) = none) ∧ found = false)

set_option maxHeartbeats 2000000 in
theorem opOf_any (bo bs : Nat) (xs : List OpR) (o : NodeR) (w : World) (hi : Idx w bo bs xs xs.length) (hc : IsCode xs 0) (hok : okTo xs xs.length) (ht : o.t.size ≤ maxLen) :
    Calls Try.prog 105 #[.agg #[.map (some bo), .map (some bs)], .agg #[.int .i64 o.k, .string o.t, .int .i64 o.a, .int .i64 o.b]] w fun e w' => (∃ (p : OpR) (v : Bool), e = .returned (.tuple #[.agg #[.string p.s, .int .i64 p.k, .int .i64 p.l, .int .i64 p.sd], .bool v]) ∧ FoundAt xs o p v) ∧ Below w.heap.size w w' := by
  obtain ⟨D, hown, hcase⟩ := idx_find hi hc hok o ht
  have hw : (Lit.int .i64 (opKd o.k)).wf = true := by
    unfold opKd
    split
    · rename_i h
      rcases (by omega : o.k = 3 ∨ o.k = 4 ∨ o.k = 5) with e | e | e <;> rw [e] <;> decide
    · decide
  have HKY := hide (keyK ht hw)
  have HOW := hide hown
  have HCS := hide hcase
  have HB3 := hide (show ∀ o1 o2 o3 : Obj, Below w.heap.size w ((w.alloc o1).alloc o2 |>.alloc o3) from fun o1 o2 o3 => ((below1 w o1).alloc (by simp) o2).alloc (by simp; omega) o3)
  clear hown hcase hi hc hok
  go_enter Try.func105, Try.ntmps105
  go_wp2_with fail
  have hlook : ∀ W : World, W.ownsMap Try.prog 164 opElem bo xs.length D → ∃ p v, (Instr.lookup 82 (.map (some bo)) (.agg #[.string o.t, .int .i64 (opKd o.k)]) true).run Try.prog W = .ok (.tuple #[.agg #[.string p.s, .int .i64 p.k, .int .i64 p.l, .int .i64 p.sd], .bool v]) W ∧ FoundAt xs o p v := fun W hW => by
    obtain ⟨v, ps, hr, hv⟩ := hW.look_ok lawK Try.underlying82 (zeroOp _) (opElem_mk _ _ _ _) (unhide HKY)
    rcases unhide HCS with ⟨j, h1, h2, h3, h4⟩ | ⟨h1, h2⟩
    · rw [h4] at hv
      have e := opElem_dat hv
      subst e
      rw [h3] at hr
      exact ⟨atO xs j, true, hr, Or.inl ⟨j, h1, h2, rfl, rfl⟩⟩
    · obtain ⟨s, k, l, sd, rfl⟩ := opElem_inv hv
      rw [h2] at hr
      exact ⟨⟨s, k, l, sd⟩, false, hr, Or.inr ⟨h1, rfl⟩⟩
  obtain ⟨p1, v1, hr1, hp1⟩ := hlook (((w.alloc (.cells #[.map (some bo), .map (some bs)] 85)).alloc (.cells #[.int .i64 o.k, .string o.t, .int .i64 o.a, .int .i64 o.b] 115)).alloc (.cells #[.string ⟨#[]⟩, .int .i64 0, .int .i64 0, .int .i64 0] 70)).drew ((((unhide HOW).alloc _).alloc _).alloc _).drew
  obtain ⟨p2, v2, hr2, hp2⟩ := hlook ((((w.alloc (.cells #[.map (some bo), .map (some bs)] 85)).alloc (.cells #[.int .i64 o.k, .string o.t, .int .i64 o.a, .int .i64 o.b] 115)).alloc (.cells #[.string ⟨#[]⟩, .int .i64 0, .int .i64 0, .int .i64 0] 70)).alloc (.cells #[.string ⟨#[]⟩, .int .i64 0, .int .i64 0, .int .i64 0] 70)).drew (((((unhide HOW).alloc _).alloc _).alloc _).alloc _).drew
  have HP1 := hide hp1
  have HP2 := hide hp2
  clear hp1 hp2 hlook
  go_region_held (fun w' => w'.cell? ⟨w.heap.size, 0, none⟩ = some (.map (some bo)) ∧ w'.cell? ⟨w.heap.size + 1, 0, none⟩ = some (.int .i64 o.k) ∧ w'.cell? ⟨w.heap.size + 1, 1, none⟩ = some (.string o.t)) (go_keep)
    (first | (go_at_call 132; refine (opKind_any _ _).mono ?_; rintro e w2 ⟨rfl, hx⟩; obtain rfl := hx.symm))
  all_goals go_wp2
  all_goals first | (refine bodyPost_ret (v := .tuple #[.agg #[.string p1.s, .int .i64 p1.k, .int .i64 p1.l, .int .i64 p1.sd], .bool v1]) ?_ rfl ⟨⟨p1, v1, rfl, unhide HP1⟩, ((((below1 _ _).alloc (by simp) _).alloc (by simp; omega) _).alloc (by simp; omega) _).drew⟩; (simp [results, Try.results105, go_sem]; done)) | (refine bodyPost_ret (v := .tuple #[.agg #[.string p2.s, .int .i64 p2.k, .int .i64 p2.l, .int .i64 p2.sd], .bool v2]) ?_ rfl ⟨⟨p2, v2, rfl, unhide HP2⟩, ((((below1 _ _).alloc (by simp) _).alloc (by simp; omega) _).alloc (by simp; omega) _).drew⟩; (simp [results, Try.results105, go_sem]; done))

/-- The level that the index gives a node. -/
theorem found_lev {xs : List OpR} {o : NodeR} {p : OpR} {v : Bool} (h : FoundAt xs o p v) : levN xs o = if v = true then p.l else 1001 := by
  rcases h with ⟨j, h1, h2, rfl, rfl⟩ | ⟨h1, rfl⟩
  · unfold levN
    have h1' : 3 ≤ o.k ∧ o.k ≤ 5 := h1
    rw [if_pos h1', h2]
    simp
  · unfold levN
    simp only [Bool.false_eq_true, if_false]
    split
    · rename_i h
      rw [h1 h]
    · rfl

set_option maxHeartbeats 1000000 in
theorem levelOf_any (bo bs : Nat) (xs : List OpR) (o : NodeR) (w : World) (hi : Idx w bo bs xs xs.length) (hc : IsCode xs 0) (hok : okTo xs xs.length) (ht : o.t.size ≤ maxLen) :
    Calls Try.prog 106 #[.agg #[.map (some bo), .map (some bs)], .agg #[.int .i64 o.k, .string o.t, .int .i64 o.a, .int .i64 o.b]] w fun e w' => e = .returned (.int .i64 (levN xs o)) ∧ Below w.heap.size w w' := by
  have HI := hide (fun o1 o2 => (hi.kept (below1 w o1)).kept (below1 _ o2))
  have HC := hide hc
  have HOK := hide hok
  clear hi hc hok
  go_enter Try.func106, Try.ntmps106
  go_wp2_with fail
  refine (opOf_any bo bs xs o _ ((unhide HI) _ _) (unhide HC) (unhide HOK) ht).mono ?_
  rintro e w1 ⟨⟨p, v, rfl, hp⟩, hb1⟩
  have HL := hide (found_lev hp)
  have bel1 : Below w.heap.size w w1 := ((below1 _ _).alloc (by simp) _).trans (hb1.mono (by simp; omega))
  clear hp hb1
  cases v
  · go_wp2_with fail
    go_ret
    exact ⟨ret_int (by rw [unhide HL]; simp), bel1.alloc bel1.size _⟩
  · go_wp2_with fail
    go_ret
    exact ⟨ret_int (by rw [unhide HL]; simp), bel1.alloc bel1.size _⟩
end Go.Proofs.Ytnpljpcfpbfcgab
