import Derived.Deep.RegionHeldLaw
import Derived.Test.YtokabkhnidlcnabGreatR03
import Derived.Test.YtokabkhnidlcnabGreatR05
import Derived.Test.YtokabkhnidlcnabGreatR21
import Derived.Test.YtokabkhnidlcnabGreatR25

/-
  Walks: the program's operators of nodes, levels.
-/
namespace Go.Proofs.YtokabkhnidlcnabGreat
set_option maxRecDepth 100000
set_option linter.unusedSimpArgs false
set_option linter.unusedVariables false
open Go.RowKit Go.Maps

/-- The kind of a node's operator, 0 where it has none. -/
def opKd (k : Int) : Int := if 3 ≤ k ∧ k ≤ 5 then k - 2 else 0

theorem opKd_op {k : Int} (h : 3 ≤ k ∧ k ≤ 5) : opKd k = k - 2 := if_pos h

theorem opKind_any (k : Int) (w : World) :
    Calls Tryz.prog 144 #[.int .i64 k] w fun e w' => e = .returned (.int .i64 (opKd k)) ∧ w' = w := by
  by_cases h3 : k = 3
  · subst h3
    go_enter Tryz.func144, Tryz.ntmps144
    go_wp2
    go_ret
    exact ⟨ret_int (by simp [opKd]), rfl⟩
  by_cases h4 : k = 4
  · subst h4
    go_enter Tryz.func144, Tryz.ntmps144
    go_wp2
    go_ret
    exact ⟨ret_int (by simp [opKd]), rfl⟩
  by_cases h5 : k = 5
  · subst h5
    go_enter Tryz.func144, Tryz.ntmps144
    go_wp2
    go_ret
    exact ⟨ret_int (by simp [opKd]), rfl⟩
  have e3 : (k == 3) = false := by simpa using h3
  have e4 : (k == 4) = false := by simpa using h4
  have e5 : (k == 5) = false := by simpa using h5
  have HK := hide (show opKd k = 0 by unfold opKd; rw [if_neg]; omega)
  clear h3 h4 h5
  go_enter Tryz.func144, Tryz.ntmps144
  go_wp2
  go_ret
  exact ⟨ret_int (unhide HK).symm, rfl⟩

/-- What the index says of a node. -/
theorem idx_find {w : World} {bo bs : Nat} {xs : List OpR} (hi : Idx w bo bs xs xs.length) (hc : IsCode xs 0) (hok : okTo xs xs.length) (o : NodeR) (ht : o.t.size ≤ maxLen) :
    ∃ D : DataW Unit, w.ownsMap Tryz.prog 135 opElem bo xs.length D ∧
      ((∃ j, isOpN o ∧ fnd xs o.t (o.k - 2) = some j ∧ Maps.has D (klO o.t (opKd o.k)) = true ∧ D.atKey (klO o.t (opKd o.k)) (opDat ⟨#[]⟩ 0 0 0) = opDat (atO xs j).s (atO xs j).k (atO xs j).l (atO xs j).sd) ∨
       ((isOpN o → fnd xs o.t (o.k - 2) = none) ∧ Maps.has D (klO o.t (opKd o.k)) = false)) := by
  obtain ⟨⟨D, hown, hD⟩, _, _⟩ := hi
  have hw : (Lit.int .i64 (opKd o.k)).wf = true := by
    unfold opKd
    split
    · rename_i h
      rcases (by omega : o.k = 3 ∨ o.k = 4 ∨ o.k = 5) with e | e | e <;> rw [e] <;> decide
    · decide
  obtain ⟨h1, h2⟩ := hD o.t (opKd o.k) ht hw
  refine ⟨D, hown, ?_⟩
  cases hh : Maps.has D (klO o.t (opKd o.k)) with
  | true =>
    obtain ⟨j, hj, e1, e2, e3⟩ := h2 hh
    have hop : isOpN o := by
      unfold isOpN
      have hk := ok_kind (hok j hj)
      unfold opKd at e2
      split at e2
      · assumption
      · omega
    have e2' : (atO xs j).k = o.k - 2 := by
      rw [e2]; exact opKd_op hop
    exact Or.inl ⟨j, hop, fnd_one hc hj ⟨e1, e2'⟩, rfl, e3⟩
  | false =>
    refine Or.inr ⟨fun hop => fnd_not (fun j hj h => ?_), rfl⟩
    have : Maps.has D (klO o.t (opKd o.k)) = true := h1.2 ⟨j, hj, h.1, by rw [h.2]; exact (opKd_op hop).symm⟩
    rw [hh] at this
    cases this

/-- What the index's look at a node gives. -/
def FoundAt (xs : List OpR) (o : NodeR) (p : OpR) (found : Bool) : Prop :=
  (∃ j, isOpN o ∧ fnd xs o.t (o.k - 2) = some j ∧ found = true ∧ p = atO xs j) ∨ ((isOpN o → fnd xs o.t (o.k - 2) = none) ∧ found = false)

set_option maxHeartbeats 2000000 in
theorem opOf_any (bo bs : Nat) (xs : List OpR) (o : NodeR) (w : World) (hi : Idx w bo bs xs xs.length) (hc : IsCode xs 0) (hok : okTo xs xs.length) (ht : o.t.size ≤ maxLen) :
    Calls Tryz.prog 143 #[.agg #[.map (some bo), .map (some bs)], .agg #[.int .i64 o.k, .string o.t, .int .i64 o.a, .int .i64 o.b]] w fun e w' => (∃ (p : OpR) (v : Bool), e = .returned (.tuple #[.agg #[.string p.s, .int .i64 p.k, .int .i64 p.l, .int .i64 p.sd], .bool v]) ∧ FoundAt xs o p v) ∧ Below w.heap.size w w' := by
  obtain ⟨D, hown, hcase⟩ := idx_find hi hc hok o ht
  have hw : (Lit.int .i64 (opKd o.k)).wf = true := by
    unfold opKd
    split
    · rename_i h
      rcases (by omega : o.k = 3 ∨ o.k = 4 ∨ o.k = 5) with e | e | e <;> rw [e] <;> decide
    · decide
  have HKY := hide (keyK ht hw)
  have HOW := hide hown
  have HCS := hide hcase
  have HB3 := hide (show ∀ o1 o2 o3 : Obj, Below w.heap.size w ((w.alloc o1).alloc o2 |>.alloc o3) from fun o1 o2 o3 => ((below1 w o1).alloc (by simp) o2).alloc (by simp; omega) o3)
  clear hown hcase hi hc hok
  go_enter Tryz.func143, Tryz.ntmps143
  go_wp2_with fail
  have hlook : ∀ W : World, W.ownsMap Tryz.prog 135 opElem bo xs.length D → ∃ p v, (Instr.lookup 67 (.map (some bo)) (.agg #[.string o.t, .int .i64 (opKd o.k)]) true).run Tryz.prog W = .ok (.tuple #[.agg #[.string p.s, .int .i64 p.k, .int .i64 p.l, .int .i64 p.sd], .bool v]) W ∧ FoundAt xs o p v := fun W hW => by
    obtain ⟨v, ps, hr, hv⟩ := hW.look_ok lawK Tryz.underlying67 (zeroOp _) (opElem_mk _ _ _ _) (unhide HKY)
    rcases unhide HCS with ⟨j, h1, h2, h3, h4⟩ | ⟨h1, h2⟩
    · rw [h4] at hv
      have e := opElem_dat hv
      subst e
      rw [h3] at hr
      exact ⟨atO xs j, true, hr, Or.inl ⟨j, h1, h2, rfl, rfl⟩⟩
    · obtain ⟨s, k, l, sd, rfl⟩ := opElem_inv hv
      rw [h2] at hr
      exact ⟨⟨s, k, l, sd⟩, false, hr, Or.inr ⟨h1, rfl⟩⟩
  obtain ⟨p1, v1, hr1, hp1⟩ := hlook (((w.alloc (.cells #[.map (some bo), .map (some bs)] 70)).alloc (.cells #[.int .i64 o.k, .string o.t, .int .i64 o.a, .int .i64 o.b] 115)).alloc (.cells #[.string ⟨#[]⟩, .int .i64 0, .int .i64 0, .int .i64 0] 104)).drew ((((unhide HOW).alloc _).alloc _).alloc _).drew
  obtain ⟨p2, v2, hr2, hp2⟩ := hlook ((((w.alloc (.cells #[.map (some bo), .map (some bs)] 70)).alloc (.cells #[.int .i64 o.k, .string o.t, .int .i64 o.a, .int .i64 o.b] 115)).alloc (.cells #[.string ⟨#[]⟩, .int .i64 0, .int .i64 0, .int .i64 0] 104)).alloc (.cells #[.string ⟨#[]⟩, .int .i64 0, .int .i64 0, .int .i64 0] 104)).drew (((((unhide HOW).alloc _).alloc _).alloc _).alloc _).drew
  have HP1 := hide hp1
  have HP2 := hide hp2
  clear hp1 hp2 hlook
  go_region_held (fun w' => w'.cell? ⟨w.heap.size, 0, none⟩ = some (.map (some bo)) ∧ w'.cell? ⟨w.heap.size + 1, 0, none⟩ = some (.int .i64 o.k) ∧ w'.cell? ⟨w.heap.size + 1, 1, none⟩ = some (.string o.t)) (go_keep)
    (first | (go_at_call 144; refine (opKind_any _ _).mono ?_; rintro e w2 ⟨rfl, hx⟩; obtain rfl := hx.symm))
  all_goals go_wp2
  all_goals first | (refine bodyPost_ret (v := .tuple #[.agg #[.string p1.s, .int .i64 p1.k, .int .i64 p1.l, .int .i64 p1.sd], .bool v1]) ?_ rfl ⟨⟨p1, v1, rfl, unhide HP1⟩, ((((below1 _ _).alloc (by simp) _).alloc (by simp; omega) _).alloc (by simp; omega) _).drew⟩; (simp [results, Tryz.results143, go_sem]; done)) | (refine bodyPost_ret (v := .tuple #[.agg #[.string p2.s, .int .i64 p2.k, .int .i64 p2.l, .int .i64 p2.sd], .bool v2]) ?_ rfl ⟨⟨p2, v2, rfl, unhide HP2⟩, ((((below1 _ _).alloc (by simp) _).alloc (by simp; omega) _).alloc (by simp; omega) _).drew⟩; (simp [results, Tryz.results143, go_sem]; done))

/-- The level that the index gives a node. -/
theorem found_lev {xs : List OpR} {o : NodeR} {p : OpR} {v : Bool} (h : FoundAt xs o p v) : levN xs o = if v = true then p.l else 1001 := by
  rcases h with ⟨j, h1, h2, rfl, rfl⟩ | ⟨h1, rfl⟩
  · unfold levN
    have h1' : 3 ≤ o.k ∧ o.k ≤ 5 := h1
    rw [if_pos h1', h2]
    simp
  · unfold levN
    simp only [Bool.false_eq_true, if_false]
    split
    · rename_i h
      rw [h1 h]
    · rfl

end Go.Proofs.YtokabkhnidlcnabGreat

/-
  Walks: the makers of the parser's rules, and the answer to a refusal.
-/
namespace Go.Proofs.YtokabkhnidlcnabGreat
set_option maxRecDepth 100000
set_option linter.unusedSimpArgs false
set_option linter.unusedVariables false
open Go.RowKit Go.Maps

/-- A rule with one hole. -/
def Rule1 (w0 w : World) (K : FuncId) (p : Nat) (q : OpR) (x : Value) : Prop :=
  ∃ ba bp bh, x = .func (.func K) #[] #[.pointer (some ⟨ba, 0, none⟩), .pointer (some ⟨bp, 0, none⟩), .pointer (some ⟨bh, 0, none⟩)] ∧ w0.heap.size ≤ ba ∧ w0.heap.size ≤ bp ∧ w0.heap.size ≤ bh ∧
    OpC w ba q ∧ w.cell? ⟨bp, 0, none⟩ = some (.pointer (some ⟨p, 0, none⟩)) ∧ w.cell? ⟨bh, 0, none⟩ = some (.int .i64 (holeI q.s q.k q.l q.sd false))

set_option maxHeartbeats 1000000 in
theorem prefixRule_any (p : Nat) (q : OpR) (w : World) (hs : q.s.size ≤ maxLen) :
    Calls Tryz.prog 71 #[.pointer (some ⟨p, 0, none⟩), .agg #[.string q.s, .int .i64 q.k, .int .i64 q.l, .int .i64 q.sd]] w fun x w' => (∃ v, x = .returned v ∧ Hid (Rule1 w w' 114 p q v)) ∧ Below w.heap.size w w' := by
  obtain ⟨W, hW⟩ : ∃ W, W = (w.alloc (.cells #[.pointer (some ⟨p, 0, none⟩)] 75)).alloc (.cells #[.string q.s, .int .i64 q.k, .int .i64 q.l, .int .i64 q.sd] 104) := ⟨_, rfl⟩
  have hWz : W.heap.size = w.heap.size + 2 := by rw [hW]; simp
  have bel0 : Below w.heap.size w W := by rw [hW]; exact (below1 _ _).alloc (by simp) _
  have g0 : W.cell? ⟨w.heap.size, 0, none⟩ = some (.pointer (some ⟨p, 0, none⟩)) := by rw [hW]; simp [go_sem]
  have g1 : OpC W (w.heap.size + 1) q := by rw [hW]; exact ⟨by simp [go_sem], by simp [go_sem], by simp [go_sem], by simp [go_sem]⟩
  have HX := implHole_any q.s q.k q.l q.sd false W hs
  have HG := hide (And.intro g0 g1)
  have HZ := hide hWz
  have HB := hide bel0
  rw [hW] at HX
  have HW := hide hW
  clear g0 g1 hWz bel0 hW
  go_enter Tryz.func71, Tryz.ntmps71
  go_wp2_with fail
  refine HX.mono ?_
  rw [← unhide HW]
  rintro x w1 ⟨rfl, hb1⟩
  have hz1 : w.heap.size + 2 ≤ w1.heap.size := by have := hb1.size; rw [unhide HZ] at this; exact this
  have bel1 : Below w.heap.size w (w1.alloc (.cells #[.int .i64 (holeI q.s q.k q.l q.sd false)] 3)) := ((unhide HB).trans (hb1.mono (unhide HB).size)).alloc (by omega) _
  have l0 : w.heap.size < W.heap.size := by rw [unhide HZ]; omega
  have l1 : w.heap.size + 1 < W.heap.size := by rw [unhide HZ]; omega
  have r0 : (w1.alloc (.cells #[.int .i64 (holeI q.s q.k q.l q.sd false)] 3)).cell? ⟨w.heap.size, 0, none⟩ = some (.pointer (some ⟨p, 0, none⟩)) := ((below1 _ _).cell (p := ⟨w.heap.size, 0, none⟩) (by simp only; omega)).trans ((hb1.cell (p := ⟨w.heap.size, 0, none⟩) l0).trans (unhide HG).1)
  have r1 : OpC (w1.alloc (.cells #[.int .i64 (holeI q.s q.k q.l q.sd false)] 3)) (w.heap.size + 1) q := ((unhide HG).2.kept (Kept1.of_below (g := W.heap.size) hb1) (by omega)).kept (Kept1.of_below (g := W.heap.size) (below1 _ _)) (by omega)
  have r2 : (w1.alloc (.cells #[.int .i64 (holeI q.s q.k q.l q.sd false)] 3)).cell? ⟨w1.heap.size, 0, none⟩ = some (.int .i64 (holeI q.s q.k q.l q.sd false)) := by simp [go_sem]
  have HEND := hide (show Rule1 w (w1.alloc (.cells #[.int .i64 (holeI q.s q.k q.l q.sd false)] 3)) 114 p q (.func (.func 114) #[] #[.pointer (some ⟨w.heap.size + 1, 0, none⟩), .pointer (some ⟨w.heap.size, 0, none⟩), .pointer (some ⟨w1.heap.size, 0, none⟩)]) from ⟨_, _, _, rfl, by omega, by omega, by omega, r1, r0, r2⟩)
  clear r0 r1 r2 l0 l1 HX HG HZ HB hb1 hz1
  go_wp2_with fail
  go_ret
  exact ⟨⟨_, rfl, HEND⟩, bel1⟩

set_option maxHeartbeats 1000000 in
theorem postfixRule_any (p : Nat) (q : OpR) (w : World) (hs : q.s.size ≤ maxLen) :
    Calls Tryz.prog 73 #[.pointer (some ⟨p, 0, none⟩), .agg #[.string q.s, .int .i64 q.k, .int .i64 q.l, .int .i64 q.sd]] w fun x w' => (∃ v, x = .returned v ∧ Hid (Rule1 w w' 117 p q v)) ∧ Below w.heap.size w w' := by
  obtain ⟨W, hW⟩ : ∃ W, W = (w.alloc (.cells #[.pointer (some ⟨p, 0, none⟩)] 75)).alloc (.cells #[.string q.s, .int .i64 q.k, .int .i64 q.l, .int .i64 q.sd] 104) := ⟨_, rfl⟩
  have hWz : W.heap.size = w.heap.size + 2 := by rw [hW]; simp
  have bel0 : Below w.heap.size w W := by rw [hW]; exact (below1 _ _).alloc (by simp) _
  have g0 : W.cell? ⟨w.heap.size, 0, none⟩ = some (.pointer (some ⟨p, 0, none⟩)) := by rw [hW]; simp [go_sem]
  have g1 : OpC W (w.heap.size + 1) q := by rw [hW]; exact ⟨by simp [go_sem], by simp [go_sem], by simp [go_sem], by simp [go_sem]⟩
  have HX := implHole_any q.s q.k q.l q.sd false W hs
  have HG := hide (And.intro g0 g1)
  have HZ := hide hWz
  have HB := hide bel0
  rw [hW] at HX
  have HW := hide hW
  clear g0 g1 hWz bel0 hW
  go_enter Tryz.func73, Tryz.ntmps73
  go_wp2_with fail
  refine HX.mono ?_
  rw [← unhide HW]
  rintro x w1 ⟨rfl, hb1⟩
  have hz1 : w.heap.size + 2 ≤ w1.heap.size := by have := hb1.size; rw [unhide HZ] at this; exact this
  have bel1 : Below w.heap.size w (w1.alloc (.cells #[.int .i64 (holeI q.s q.k q.l q.sd false)] 3)) := ((unhide HB).trans (hb1.mono (unhide HB).size)).alloc (by omega) _
  have l0 : w.heap.size < W.heap.size := by rw [unhide HZ]; omega
  have l1 : w.heap.size + 1 < W.heap.size := by rw [unhide HZ]; omega
  have r0 : (w1.alloc (.cells #[.int .i64 (holeI q.s q.k q.l q.sd false)] 3)).cell? ⟨w.heap.size, 0, none⟩ = some (.pointer (some ⟨p, 0, none⟩)) := ((below1 _ _).cell (p := ⟨w.heap.size, 0, none⟩) (by simp only; omega)).trans ((hb1.cell (p := ⟨w.heap.size, 0, none⟩) l0).trans (unhide HG).1)
  have r1 : OpC (w1.alloc (.cells #[.int .i64 (holeI q.s q.k q.l q.sd false)] 3)) (w.heap.size + 1) q := ((unhide HG).2.kept (Kept1.of_below (g := W.heap.size) hb1) (by omega)).kept (Kept1.of_below (g := W.heap.size) (below1 _ _)) (by omega)
  have r2 : (w1.alloc (.cells #[.int .i64 (holeI q.s q.k q.l q.sd false)] 3)).cell? ⟨w1.heap.size, 0, none⟩ = some (.int .i64 (holeI q.s q.k q.l q.sd false)) := by simp [go_sem]
  have HEND := hide (show Rule1 w (w1.alloc (.cells #[.int .i64 (holeI q.s q.k q.l q.sd false)] 3)) 117 p q (.func (.func 117) #[] #[.pointer (some ⟨w.heap.size + 1, 0, none⟩), .pointer (some ⟨w.heap.size, 0, none⟩), .pointer (some ⟨w1.heap.size, 0, none⟩)]) from ⟨_, _, _, rfl, by omega, by omega, by omega, r1, r0, r2⟩)
  clear r0 r1 r2 l0 l1 HX HG HZ HB hb1 hz1
  go_wp2_with fail
  go_ret
  exact ⟨⟨_, rfl, HEND⟩, bel1⟩

end Go.Proofs.YtokabkhnidlcnabGreat

/-
  The parser's rules in their maps, while they are laid.
-/
namespace Go.Proofs.YtokabkhnidlcnabGreat
set_option maxRecDepth 100000
set_option linter.unusedSimpArgs false
set_option linter.unusedVariables false
open Go.RowKit Go.Maps

/-- A rule with one hole, its cells from lo on. -/
def RuleL (lo : Nat) (w : World) (K : FuncId) (p : Nat) (q : OpR) (x : Value) : Prop :=
  ∃ ba bp bh, x = .func (.func K) #[] #[.pointer (some ⟨ba, 0, none⟩), .pointer (some ⟨bp, 0, none⟩), .pointer (some ⟨bh, 0, none⟩)] ∧ lo ≤ ba ∧ lo ≤ bp ∧ lo ≤ bh ∧
    OpC w ba q ∧ w.cell? ⟨bp, 0, none⟩ = some (.pointer (some ⟨p, 0, none⟩)) ∧ w.cell? ⟨bh, 0, none⟩ = some (.int .i64 (holeI q.s q.k q.l q.sd false))

/-- A rule with two holes. -/
def RuleM (lo : Nat) (w : World) (K : FuncId) (p : Nat) (q : OpR) (x : Value) : Prop :=
  ∃ ba bp bh bs, x = .func (.func K) #[] #[.pointer (some ⟨ba, 0, none⟩), .pointer (some ⟨bp, 0, none⟩), .pointer (some ⟨bh, 0, none⟩), .pointer (some ⟨bs, 0, none⟩)] ∧ lo ≤ ba ∧ lo ≤ bp ∧ lo ≤ bh ∧ lo ≤ bs ∧
    OpC w ba q ∧ w.cell? ⟨bp, 0, none⟩ = some (.pointer (some ⟨p, 0, none⟩)) ∧ w.cell? ⟨bh, 0, none⟩ = some (.int .i64 (holeI q.s q.k q.l q.sd false)) ∧ w.cell? ⟨bs, 0, none⟩ = some (.int .i64 (holeI q.s q.k q.l q.sd true))

theorem RuleL.kept {lo : Nat} {w w' : World} {K : FuncId} {p g : Nat} {q : OpR} {x : Value} (h : RuleL lo w K p q x) (hk : Kept1 w w' g) (hg : g < lo) : RuleL lo w' K p q x := by
  obtain ⟨ba, bp, bh, h0, n1, n2, n3, h1, h2, h3⟩ := h
  exact ⟨ba, bp, bh, h0, n1, n2, n3, h1.kept hk (by omega), (hk.cell (b := bp) (block_lt_of_cell h2) (by omega) 0).trans h2, (hk.cell (b := bh) (block_lt_of_cell h3) (by omega) 0).trans h3⟩

theorem RuleM.kept {lo : Nat} {w w' : World} {K : FuncId} {p g : Nat} {q : OpR} {x : Value} (h : RuleM lo w K p q x) (hk : Kept1 w w' g) (hg : g < lo) : RuleM lo w' K p q x := by
  obtain ⟨ba, bp, bh, bs, h0, n1, n2, n3, n4, h1, h2, h3, h4⟩ := h
  exact ⟨ba, bp, bh, bs, h0, n1, n2, n3, n4, h1.kept hk (by omega), (hk.cell (b := bp) (block_lt_of_cell h2) (by omega) 0).trans h2, (hk.cell (b := bh) (block_lt_of_cell h3) (by omega) 0).trans h3, (hk.cell (b := bs) (block_lt_of_cell h4) (by omega) 0).trans h4⟩

theorem RuleL.low {lo lo' : Nat} {w : World} {K : FuncId} {p : Nat} {q : OpR} {x : Value} (h : RuleL lo w K p q x) (hl : lo' ≤ lo) : RuleL lo' w K p q x := by
  obtain ⟨ba, bp, bh, h0, n1, n2, n3, h1, h2, h3⟩ := h
  exact ⟨ba, bp, bh, h0, by omega, by omega, by omega, h1, h2, h3⟩
theorem RuleM.low {lo lo' : Nat} {w : World} {K : FuncId} {p : Nat} {q : OpR} {x : Value} (h : RuleM lo w K p q x) (hl : lo' ≤ lo) : RuleM lo' w K p q x := by
  obtain ⟨ba, bp, bh, bs, h0, n1, n2, n3, n4, h1, h2, h3, h4⟩ := h
  exact ⟨ba, bp, bh, bs, h0, by omega, by omega, by omega, by omega, h1, h2, h3, h4⟩

/-- The rules in front, of the operators that are done. -/
def BfD (lo : Nat) (w : World) (p : Nat) (ns : List OpR) (dn : ByteArray → Int → Bool) (G : ByteArray → Option Value) : Prop :=
  G opn = some (.func (.func 70) #[.pointer (some ⟨p, 0, none⟩)] #[]) ∧
  ∀ t, t ≠ opn → (dn t 1 = false → G t = none) ∧ (dn t 1 = true → ∃ v, G t = some v ∧ RuleL lo w 114 p (opA ns (rt 3 t)) v)

/-- The rules behind, of the operators that are done. -/
def BbD (lo : Nat) (w : World) (p : Nat) (ns : List OpR) (dn : ByteArray → Int → Bool) (G : ByteArray → Option Value) : Prop :=
  ∀ t, (dn t 2 = false → dn t 3 = false → G t = none) ∧
  (dn t 2 = true → ∃ v, G t = some v ∧ RuleM lo w 115 p (opA ns (rt 4 t)) v) ∧
  (dn t 3 = true → ∃ v, G t = some v ∧ RuleL lo w 117 p (opA ns (rt 5 t)) v)

theorem BfD.kept {lo : Nat} {w w' : World} {p g : Nat} {ns : List OpR} {dn : ByteArray → Int → Bool} {G : ByteArray → Option Value} (h : BfD lo w p ns dn G) (hk : Kept1 w w' g) (hg : g < lo) : BfD lo w' p ns dn G :=
  ⟨h.1, fun t ht => ⟨(h.2 t ht).1, fun hb => by obtain ⟨v, h1, h2⟩ := (h.2 t ht).2 hb; exact ⟨v, h1, h2.kept hk hg⟩⟩⟩
theorem BbD.kept {lo : Nat} {w w' : World} {p g : Nat} {ns : List OpR} {dn : ByteArray → Int → Bool} {G : ByteArray → Option Value} (h : BbD lo w p ns dn G) (hk : Kept1 w w' g) (hg : g < lo) : BbD lo w' p ns dn G :=
  fun t => ⟨(h t).1, fun hb => by obtain ⟨v, h1, h2⟩ := (h t).2.1 hb; exact ⟨v, h1, h2.kept hk hg⟩, fun hb => by obtain ⟨v, h1, h2⟩ := (h t).2.2 hb; exact ⟨v, h1, h2.kept hk hg⟩⟩

theorem dat_same {s t : ByteArray} (h : s.data = t.data) : s = t := by cases s; cases t; simp at h; rw [h]

/-- One more done: (s, kd). -/
def More (dn dn' : ByteArray → Int → Bool) (s : ByteArray) (kd : Int) : Prop := ∀ t k, dn' t k = true ↔ dn t k = true ∨ (t = s ∧ k = kd)

theorem More.other {dn dn' : ByteArray → Int → Bool} {s : ByteArray} {kd : Int} (h : More dn dn' s kd) {t : ByteArray} {k : Int} (hn : ¬ (t = s ∧ k = kd)) : dn' t k = dn t k := by
  have := h t k
  cases a : dn' t k <;> cases b : dn t k <;> simp [a, b, hn] at this ⊢
  all_goals exact absurd this (by simp [hn])

theorem BfD.keep {lo : Nat} {w : World} {p : Nat} {ns : List OpR} {dn dn' : ByteArray → Int → Bool} {G : ByteArray → Option Value} {s : ByteArray} {kd : Int} (h : BfD lo w p ns dn G) (hm : More dn dn' s kd) (hk : kd ≠ 1) : BfD lo w p ns dn' G :=
  ⟨h.1, fun t ht => by rw [hm.other (fun e => hk e.2.symm)]; exact h.2 t ht⟩

theorem BbD.keep {lo : Nat} {w : World} {p : Nat} {ns : List OpR} {dn dn' : ByteArray → Int → Bool} {G : ByteArray → Option Value} {s : ByteArray} {kd : Int} (h : BbD lo w p ns dn G) (hm : More dn dn' s kd) (hk : kd = 1) : BbD lo w p ns dn' G :=
  fun t => by rw [hm.other (fun e => by omega), hm.other (fun e => by omega)]; exact h t

theorem BfD.put {lo : Nat} {w : World} {p : Nat} {ns : List OpR} {dn dn' : ByteArray → Int → Bool} {G : ByteArray → Option Value} {s : ByteArray} {v : Value} (h : BfD lo w p ns dn G) (hm : More dn dn' s 1) (hs : s ≠ opn) (hv : RuleL lo w 114 p (opA ns (rt 3 s)) v) :
    BfD lo w p ns dn' (fun t' => if t'.data = s.data then some v else G t') := by
  refine ⟨?_, fun t ht => ?_⟩
  · simp only
    rw [if_neg (fun e => hs (dat_same e).symm)]
    exact h.1
  · by_cases e : t = s
    · subst e
      refine ⟨fun hf => ?_, fun _ => ⟨v, if_pos rfl, hv⟩⟩
      rw [(hm t 1).2 (Or.inr ⟨rfl, rfl⟩)] at hf
      cases hf
    · simp only
      rw [if_neg (fun x => e (dat_same x)), hm.other (fun x => e x.1)]
      exact h.2 t ht

theorem BbD.put2 {lo : Nat} {w : World} {p : Nat} {ns : List OpR} {dn dn' : ByteArray → Int → Bool} {G : ByteArray → Option Value} {s : ByteArray} {v : Value} (h : BbD lo w p ns dn G) (hm : More dn dn' s 2) (h3 : dn s 3 = false) (hv : RuleM lo w 115 p (opA ns (rt 4 s)) v) :
    BbD lo w p ns dn' (fun t' => if t'.data = s.data then some v else G t') := by
  intro t
  by_cases e : t = s
  · subst e
    refine ⟨fun hf => ?_, fun _ => ⟨v, if_pos rfl, hv⟩, fun hf => ?_⟩
    · rw [(hm t 2).2 (Or.inr ⟨rfl, rfl⟩)] at hf
      cases hf
    · rw [hm.other (fun x => by omega), h3] at hf
      cases hf
  · simp only
    rw [if_neg (fun x => e (dat_same x)), hm.other (fun x => e x.1), hm.other (fun x => e x.1)]
    exact h t

theorem BbD.put3 {lo : Nat} {w : World} {p : Nat} {ns : List OpR} {dn dn' : ByteArray → Int → Bool} {G : ByteArray → Option Value} {s : ByteArray} {v : Value} (h : BbD lo w p ns dn G) (hm : More dn dn' s 3) (h2 : dn s 2 = false) (hv : RuleL lo w 117 p (opA ns (rt 5 s)) v) :
    BbD lo w p ns dn' (fun t' => if t'.data = s.data then some v else G t') := by
  intro t
  by_cases e : t = s
  · subst e
    refine ⟨fun _ hf => ?_, fun hf => ?_, fun _ => ⟨v, if_pos rfl, hv⟩⟩
    · rw [(hm t 3).2 (Or.inr ⟨rfl, rfl⟩)] at hf
      cases hf
    · rw [hm.other (fun x => by omega), h2] at hf
      cases hf
  · simp only
    rw [if_neg (fun x => e (dat_same x)), hm.other (fun x => e x.1), hm.other (fun x => e x.1)]
    exact h t

theorem holeN_opA {ns : List OpR} {t : ByteArray} {q : Nat} {k : Int} (h : hasB ns t k = true) (hq : (q : Int) - 2 = k) (b : Bool) : holeI (opA ns (rt q t)).s (opA ns (rt q t)).k (opA ns (rt q t)).l (opA ns (rt q t)).sd b = sH ns (q, t) b := by
  have hk := has_kn h hq
  unfold knB at hk
  unfold sH holeN opA
  simp only [rt] at hk ⊢
  cases hf : fnd ns t ((q : Int) - 2) with
  | none => rw [hf] at hk; cases hk
  | some j => rfl

theorem BfD.ok {lo : Nat} {w : World} {p : Nat} {ns : List OpR} {G : ByteArray → Option Value} (h : BfD lo w p ns (hasB ns) G) (hp : p < lo) : BfOk w p ns G := by
  refine ⟨h.1, fun t ht => ⟨(h.2 t ht).1, fun hb => ?_⟩⟩
  obtain ⟨v, h1, ba, bp, bh, rfl, n1, n2, n3, c1, c2, c3⟩ := (h.2 t ht).2 hb
  rw [holeN_opA hb (by decide)] at c3
  exact ⟨ba, bp, bh, h1, by omega, by omega, by omega, c1, c2, c3⟩

theorem BbD.ok {lo : Nat} {w : World} {p : Nat} {ns : List OpR} {G : ByteArray → Option Value} (h : BbD lo w p ns (hasB ns) G) (hp : p < lo) : BbOk w p ns G := by
  intro t
  refine ⟨fun hn => (h t).1 ?_ ?_, fun hb => ?_, fun hb => ?_⟩
  · cases e : hasB ns t 2 with
    | false => rfl
    | true => obtain ⟨j, hj, e1, _⟩ := (hasB_iff _ _ _).1 e; exact absurd ⟨j, hj, e1⟩ hn
  · cases e : hasB ns t 3 with
    | false => rfl
    | true => obtain ⟨j, hj, e1, _⟩ := (hasB_iff _ _ _).1 e; exact absurd ⟨j, hj, e1⟩ hn
  · obtain ⟨v, h1, ba, bp, bh, bs, rfl, n1, n2, n3, n4, c1, c2, c3, c4⟩ := (h t).2.1 hb
    rw [holeN_opA hb (by decide)] at c3
    rw [holeN_opA hb (by decide)] at c4
    exact ⟨ba, bp, bh, bs, h1, by omega, by omega, by omega, by omega, c1, c2, c3, c4⟩
  · obtain ⟨v, h1, ba, bp, bh, rfl, n1, n2, n3, c1, c2, c3⟩ := (h t).2.2 hb
    rw [holeN_opA hb (by decide)] at c3
    exact ⟨ba, bp, bh, h1, by omega, by omega, by omega, c1, c2, c3⟩

/-- What is done when some keys are left. -/
def dnL (ns : List OpR) (left : Lit → Bool) (t : ByteArray) (k : Int) : Bool := hasB ns t k && !left (klO t k)

theorem dnL_more {ns : List OpR} {left : Lit → Bool} {s : ByteArray} {kd : Int} (hz : Sized ns) (hok : okTo ns ns.length) (hss : s.size ≤ maxLen) (hkw : (Lit.int .i64 kd).wf = true) (hh : hasB ns s kd = true) :
    More (dnL ns left) (dnL ns (fun z => left z && !z.sameKey (klO s kd))) s kd := by
  intro t k
  unfold dnL
  constructor
  · intro h
    simp only [Bool.and_eq_true, Bool.not_eq_true', Bool.and_eq_false_iff, Bool.not_eq_false'] at h
    obtain ⟨h1, h2⟩ := h
    rcases h2 with h2 | h2
    · exact Or.inl (by simp [h1, h2])
    · right
      have e : klO t k = klO s kd := by simpa [Lit.sameKey, klO] using h2
      obtain ⟨j, hj, e1, e2⟩ := (hasB_iff _ _ _).1 h1
      have := klO_inj (by rw [← e1]; exact hz j hj) hss (by rw [← e2]; exact ok_wfk (hok j hj)) hkw e
      exact this
  · rintro (h | ⟨rfl, rfl⟩)
    · simp only [Bool.and_eq_true, Bool.not_eq_true'] at h
      simp [h.1, h.2]
    · simp [hh, Lit.sameKey, klO]
end Go.Proofs.YtokabkhnidlcnabGreat
