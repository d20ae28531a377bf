import Derived.ProofKit
import Derived.Lib.SmallJoins
import Derived.Deep.Slices
import Derived.OpenShut
import Derived.ShutString
import Derived.ChangeOld
import Derived.Below
import Derived.Test.YtokabkhnidlcnabG00
import Derived.Test.YtokabkhnidlcnabG23

/-
  A table that comes in, opened.
-/
namespace Go.Proofs.Ytokabkhnidlcnab
set_option maxRecDepth 100000
open Go.ChangeShapes Go.WideShapes Go.ChangeAt Go.RowKit Go.Joins

theorem Opn.cells9 : Try.prog.cellsOf 9 = 1 := by kernel_rfl
theorem Opn.cells3 : Try.prog.cellsOf 3 = 1 := by kernel_rfl
theorem Opn.cellsOp : Try.prog.cellsOf 124 = 4 := by kernel_rfl
theorem Opn.cellsTable : Try.prog.cellsOf 24 = 1 := by kernel_rfl
theorem Opn.cellsOps : Try.prog.cellsOf 22 = 1 := by kernel_rfl

section
variable {H : Type} {enc : TypeId × Value → H} {W : World} {base : Nat} {spare : Nat → Bool} {held : Bool}

/-- One operator, from its four cells. -/
theorem open_op {n : Nat} {cs : List Value} {x : DataW H × List MemPlace} (h : DataW.trod enc Try.prog W base spare held n 124 cs = some x) :
    ∃ o : OpR, cs = [.string o.s, .int .i64 o.k, .int .i64 o.l, .int .i64 o.sd] ∧ o.s.size ≤ maxLen := by
  obtain ⟨y0, y1, y2, y3, m, _, hlen, t0, t1, t2, t3⟩ := trod_struct4 Try.underlying124 h
  rw [Opn.cellsOp] at hlen
  match cs, hlen with
  | [c0, c1, c2, c3], _ =>
    simp only [Opn.cells9, Opn.cells3] at t0 t1 t2 t3
    obtain ⟨s, e0, _, hs⟩ := DataW.trod_string Try.underlying9 t0
    obtain ⟨k, e1, _, _⟩ := DataW.trod_int Try.underlying3 t1
    obtain ⟨l, e2, _, _⟩ := DataW.trod_int Try.underlying3 t2
    obtain ⟨sd, e3, _, _⟩ := DataW.trod_int Try.underlying3 t3
    simp at e0 e1 e2 e3
    subst e0 e1 e2 e3
    exact ⟨⟨s, k, l, sd⟩, rfl, hs⟩

theorem addr_spot {x : Addr} {v : Value} (h : W.cell? (x.add 0) = some v) : x = ⟨x.block, x.off, none⟩ := by
  obtain ⟨b, off, spot⟩ := x
  have hs : spot = none := by
    have := World.cell?_spot h
    simpa [Addr.add] using this
  subst hs
  rfl

/-- A slice of operators, opened. -/
theorem open_ops {fuel : Nat} {cs : List Value} {x : DataW H × List MemPlace} (h : DataW.trod enc Try.prog W 0 (fun _ => true) held fuel 22 cs = some x) :
    ∃ (a : Option Addr) (cap : Nat) (xs : List OpR), cs = [.slice a xs.length cap] ∧ xs.length ≤ maxLen ∧ Arg W a xs ∧ Sized xs := by
  rcases Go.Deep.open_slice Try.underlying22 h with ⟨rfl, _⟩ | ⟨a, len, cap, m, n, D, Pl, rfl, _, hl, hm, hmm, _, hx⟩
  · exact ⟨none, 0, [], rfl, Nat.zero_le _, Or.inl rfl, fun i hi => absurd hi (Nat.not_lt_zero i)⟩
  have hlm : len ≤ m := by rw [hmm]; simpa using hl
  rw [Opn.cellsOp] at hx
  have each : ∀ i, i < len → ∃ o : OpR, (W.cell? (a.add (i * 4)) = some (.string o.s) ∧ W.cell? (a.add (i * 4 + 1)) = some (.int .i64 o.k) ∧ W.cell? (a.add (i * 4 + 2)) = some (.int .i64 o.l) ∧ W.cell? (a.add (i * 4 + 3)) = some (.int .i64 o.sd)) ∧ o.s.size ≤ maxLen := by
    intro i hi
    obtain ⟨cs', h1, h2⟩ := hx i (by omega)
    obtain ⟨_, hlen, hcell⟩ := World.cells?_some h1
    obtain ⟨o, rfl, ho⟩ := open_op h2
    have e0 := hcell 0 (by omega)
    have e1 := hcell 1 (by omega)
    have e2 := hcell 2 (by omega)
    have e3 := hcell 3 (by omega)
    rw [Go.Deep.add_add] at e0 e1 e2 e3
    exact ⟨o, ⟨by simpa using e0, by simpa using e1, by simpa using e2, by simpa using e3⟩, ho⟩
  obtain ⟨f, hf⟩ := @Go.Deep.choose_lt OpR ⟨OpR.zero⟩ len _ each
  have hlx : ((List.range len).map f).length = len := by simp
  have hat : ∀ i, i < len → atO ((List.range len).map f) i = f i := fun i hi => by simp [atO, hi]
  refine ⟨some a, cap, (List.range len).map f, by rw [hlx], by rw [hlx]; omega, ?_, fun i hi => by rw [hlx] at hi; rw [hat i hi]; exact (hf i hi).2⟩
  by_cases h0 : len = 0
  · exact Or.inl (by rw [hlx]; exact h0)
  · have hs := addr_spot (show W.cell? (a.add 0) = _ from (hf 0 (by omega)).1.1)
    refine Or.inr ⟨a.block, a.off, by rw [← hs], fun i hi => ?_, ?_⟩
    · rw [hlx] at hi
      obtain ⟨⟨e0, e1, e2, e3⟩, _⟩ := hf i hi
      rw [hs, Addr.add_mid] at e0 e1 e2 e3
      unfold CellsAt
      rw [hat i hi]
      exact ⟨e0, by simpa [Nat.add_assoc] using e1, by simpa [Nat.add_assoc] using e2, by simpa [Nat.add_assoc] using e3⟩
    · have := block_lt_of_cell (show W.cell? (a.add 0) = _ from (hf 0 (by omega)).1.1)
      simpa [Addr.add] using this

/-- A table, opened. -/
theorem open_table {r : Go.Reach} {b0 : Nat} {v : Value} {d : DataW H} {p : List MemPlace} (hv : Value.okWide Try.prog W r b0 24 v) (h : DataW.Trod enc Try.prog W 0 (fun _ => true) held 24 v d p) :
    ∃ (a : Option Addr) (cap : Nat) (xs : List OpR), v = .agg #[.slice a xs.length cap] ∧ xs.length ≤ maxLen ∧ Arg W a xs ∧ Sized xs := by
  obtain ⟨cs, rfl, hsz⟩ := okWide_struct Try.underlying24 hv
  rw [Opn.cellsTable] at hsz
  obtain ⟨fuel, hf⟩ := h
  obtain ⟨y0, n, _, _, t0⟩ := trod_struct1 Try.underlying24 hf
  obtain ⟨l⟩ := cs
  match l, hsz with
  | [c0], _ =>
    simp only [Opn.cellsOps] at t0
    obtain ⟨a, cap, xs, e, h1, h2, h3⟩ := open_ops t0
    simp [Value.cells] at e
    subst e
    exact ⟨a, cap, xs, rfl, h1, h2, h3⟩
end
end Go.Proofs.Ytokabkhnidlcnab

/-
  FnExactGroup: the statement, out of the walk 'lawGroup'.
-/
namespace Go.Proofs.Ytokabkhnidlcnab
set_option maxRecDepth 100000
open Go.ChangeShapes Go.WideShapes Go.ChangeAt Go.RowKit Go.Joins
set_option linter.unusedVariables false

theorem GroupP.own : ownKnob Try.prog.godebug = none := by kernel_rfl

set_option maxRecDepth 100000 in
theorem GroupP.lifted (os : Os) (started : os.Started) (H : Type) (enc : TypeId × Value → H) :
    ReturnsInHanded {} Try.checked os 9 .any (Rows.fnExactGroupSpec.pre6 enc Try.prog Try.f9 Rows.fnExactGroupRow.domain false) (Rows.fnExactGroupSpec.post enc Try.prog Try.f9 false true false false) := by
  refine returnsInHanded_of_change (C := Try.checked) GroupP.own started (by kernel_rfl) Try.func9
    (ChangeSpec.witness6 (enc := enc) (C := Try.checked) false ⟨#[], #[.agg #[.slice none 0 0], .agg #[.slice none 0 0]], []⟩ 8 (by kernel_rfl) (by kernel_rfl) (by kernel_rfl) (by kernel_rfl)) ?_
  intro W base args ds gs before hval0 hW hcnd _
  have hval : ∀ (j : Nat) t v, Try.f9.params[j]? = some t → args[j]? = some v → Value.okWide Try.prog W .any base t v := hval0
  have hW' := hW
  obtain ⟨p, q, hA0, hV, rfl, hfz, hnd⟩ := hW
  have hA : DataW.TrodAll enc Try.prog W 0 (fun _ => true) true Try.f9.params.toList args.toList ds p := hA0
  rw [Try.params9] at hA hval
  obtain ⟨v0, vs0, d0, ds0, p0, q0, hargs, rfl, rfl, h0, r0⟩ := trodAll_cons hA
  obtain ⟨v1, vs1, d1, ds1, p1, q1, rfl, rfl, rfl, h1, r1⟩ := trodAll_cons r0
  obtain ⟨rfl, rfl, rfl⟩ := trodAll_nil r1
  obtain rfl : args = #[v0, v1] := by cases args; simp_all
  obtain ⟨rfl, rfl⟩ := trodVars_none hV
  have k0 := h0
  have k1 := h1
  have lt0 : ∀ x ∈ p0, x.block < W.heap.size := by obtain ⟨m, hm⟩ := k0; exact DataW.trod_lt m _ _ _ hm
  have lt1 : ∀ x ∈ p1, x.block < W.heap.size := by obtain ⟨m, hm⟩ := k1; exact DataW.trod_lt m _ _ _ hm
  obtain ⟨a, cap, xs, rfl, hx1, hx2, hx3⟩ := open_table (hval 0 24 v0 rfl rfl) h0
  obtain ⟨a', cap', ns, rfl, hn1, hn2, hn3⟩ := open_tree (hval 1 53 v1 rfl rfl) h1
  clear hA0 hval0
  refine (lawGroup a a' cap cap' xs ns W hx1 hn1 hx2 hn2 hx3 hn3.sized).mono fun e W' ⟨he, bel⟩ => ?_
  subst he
  exact ⟨_, rfl, _, _, _, [], _, [], hW', trodAll_mk1 (shut_bool Try.underlying4 _), (trodAll_cons_mk (Below.trod laidOutT (by kernel_rfl) (of_decide_eq_true (by kernel_rfl)) k0 bel lt0) (trodAll_cons_mk (Below.trod laidOutT (by kernel_rfl) (of_decide_eq_true (by kernel_rfl)) k1 bel lt1) trodAll_mk0)), rfl, bel.frame _, fun h => by cases h⟩

theorem group_holds : Rows.FnExactGroupSaid :=
  OpenClaim.holds_of_wide 9 Try.f9 rfl rfl rfl rfl rfl rfl rfl ⟨rfl, rfl, rfl, rfl, rfl⟩ rfl rfl rfl rfl rfl (by kernel_rfl) Try.func9 (by kernel_rfl)
    (of_decide_eq_true (by kernel_rfl)) (by unfold Func.isWrapper; first | (rw [if_pos (by decide +kernel)]; kernel_rfl) | (rw [if_neg (by decide +kernel)]; exact ⟨rfl, rfl⟩))
    (fun os started H enc _ => GroupP.lifted os started H enc)

#print axioms group_holds
end Go.Proofs.Ytokabkhnidlcnab
