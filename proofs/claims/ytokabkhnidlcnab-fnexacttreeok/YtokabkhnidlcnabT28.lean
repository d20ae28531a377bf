import Derived.ProofKit
import Derived.Lib.SmallJoins
import Derived.Deep.Slices
import Derived.Test.YtokabkhnidlcnabT01
import Derived.Test.YtokabkhnidlcnabT27

/-
  A tree that comes in, opened.
-/
namespace Go.Proofs.Ytokabkhnidlcnab
set_option maxRecDepth 100000
open Go.ChangeShapes Go.WideShapes Go.ChangeAt Go.RowKit Go.Joins

theorem OpnN.cellsTree : Try.prog.cellsOf 53 = 1 := by kernel_rfl
theorem OpnN.cellsList : Try.prog.cellsOf 51 = 1 := by kernel_rfl

section
variable {H : Type} {enc : TypeId × Value → H} {W : World} {held : Bool}

/-- A tree, opened. -/
theorem open_tree {r : Go.Reach} {b0 : Nat} {v : Value} {d : DataW H} {p : List MemPlace} (hv : Value.okWide Try.prog W r b0 53 v) (h : DataW.Trod enc Try.prog W 0 (fun _ => true) held 53 v d p) :
    ∃ (a : Option Addr) (cap : Nat) (xs : List NodeR), v = .agg #[.slice a xs.length cap] ∧ xs.length ≤ maxLen ∧ ArgN W a xs ∧ AllFineN xs := by
  obtain ⟨cs, rfl, hsz⟩ := okWide_struct Try.underlying53 hv
  rw [OpnN.cellsTree] at hsz
  obtain ⟨fuel, hf⟩ := h
  obtain ⟨y0, n, _, _, t0⟩ := trod_struct1 Try.underlying53 hf
  obtain ⟨l⟩ := cs
  match l, hsz with
  | [c0], _ =>
    simp only [OpnN.cellsList] at t0
    obtain ⟨a, cap, xs, e, h1, h2, h3⟩ := open_listN t0
    simp [Value.cells] at e
    subst e
    exact ⟨a, cap, xs, rfl, h1, h2, h3⟩
end
end Go.Proofs.Ytokabkhnidlcnab

/-
  A table that comes in, opened.
-/
namespace Go.Proofs.Ytokabkhnidlcnab
set_option maxRecDepth 100000
open Go.ChangeShapes Go.WideShapes Go.ChangeAt Go.RowKit Go.Joins

theorem Opn.cells9 : Try.prog.cellsOf 9 = 1 := by kernel_rfl
theorem Opn.cells3 : Try.prog.cellsOf 3 = 1 := by kernel_rfl
theorem Opn.cellsOp : Try.prog.cellsOf 124 = 4 := by kernel_rfl
theorem Opn.cellsTable : Try.prog.cellsOf 24 = 1 := by kernel_rfl
theorem Opn.cellsOps : Try.prog.cellsOf 22 = 1 := by kernel_rfl

section
variable {H : Type} {enc : TypeId × Value → H} {W : World} {base : Nat} {spare : Nat → Bool} {held : Bool}

/-- One operator, from its four cells. -/
theorem open_op {n : Nat} {cs : List Value} {x : DataW H × List MemPlace} (h : DataW.trod enc Try.prog W base spare held n 124 cs = some x) :
    ∃ o : OpR, cs = [.string o.s, .int .i64 o.k, .int .i64 o.l, .int .i64 o.sd] ∧ o.s.size ≤ maxLen := by
  obtain ⟨y0, y1, y2, y3, m, _, hlen, t0, t1, t2, t3⟩ := trod_struct4 Try.underlying124 h
  rw [Opn.cellsOp] at hlen
  match cs, hlen with
  | [c0, c1, c2, c3], _ =>
    simp only [Opn.cells9, Opn.cells3] at t0 t1 t2 t3
    obtain ⟨s, e0, _, hs⟩ := DataW.trod_string Try.underlying9 t0
    obtain ⟨k, e1, _, _⟩ := DataW.trod_int Try.underlying3 t1
    obtain ⟨l, e2, _, _⟩ := DataW.trod_int Try.underlying3 t2
    obtain ⟨sd, e3, _, _⟩ := DataW.trod_int Try.underlying3 t3
    simp at e0 e1 e2 e3
    subst e0 e1 e2 e3
    exact ⟨⟨s, k, l, sd⟩, rfl, hs⟩

theorem addr_spot {x : Addr} {v : Value} (h : W.cell? (x.add 0) = some v) : x = ⟨x.block, x.off, none⟩ := by
  obtain ⟨b, off, spot⟩ := x
  have hs : spot = none := by
    have := World.cell?_spot h
    simpa [Addr.add] using this
  subst hs
  rfl

/-- A slice of operators, opened. -/
theorem open_ops {fuel : Nat} {cs : List Value} {x : DataW H × List MemPlace} (h : DataW.trod enc Try.prog W 0 (fun _ => true) held fuel 22 cs = some x) :
    ∃ (a : Option Addr) (cap : Nat) (xs : List OpR), cs = [.slice a xs.length cap] ∧ xs.length ≤ maxLen ∧ Arg W a xs ∧ Sized xs := by
  rcases Go.Deep.open_slice Try.underlying22 h with ⟨rfl, _⟩ | ⟨a, len, cap, m, n, D, Pl, rfl, _, hl, hm, hmm, _, hx⟩
  · exact ⟨none, 0, [], rfl, Nat.zero_le _, Or.inl rfl, fun i hi => absurd hi (Nat.not_lt_zero i)⟩
  have hlm : len ≤ m := by rw [hmm]; simpa using hl
  rw [Opn.cellsOp] at hx
  have each : ∀ i, i < len → ∃ o : OpR, (W.cell? (a.add (i * 4)) = some (.string o.s) ∧ W.cell? (a.add (i * 4 + 1)) = some (.int .i64 o.k) ∧ W.cell? (a.add (i * 4 + 2)) = some (.int .i64 o.l) ∧ W.cell? (a.add (i * 4 + 3)) = some (.int .i64 o.sd)) ∧ o.s.size ≤ maxLen := by
    intro i hi
    obtain ⟨cs', h1, h2⟩ := hx i (by omega)
    obtain ⟨_, hlen, hcell⟩ := World.cells?_some h1
    obtain ⟨o, rfl, ho⟩ := open_op h2
    have e0 := hcell 0 (by omega)
    have e1 := hcell 1 (by omega)
    have e2 := hcell 2 (by omega)
    have e3 := hcell 3 (by omega)
    rw [Go.Deep.add_add] at e0 e1 e2 e3
    exact ⟨o, ⟨by simpa using e0, by simpa using e1, by simpa using e2, by simpa using e3⟩, ho⟩
  obtain ⟨f, hf⟩ := @Go.Deep.choose_lt OpR ⟨OpR.zero⟩ len _ each
  have hlx : ((List.range len).map f).length = len := by simp
  have hat : ∀ i, i < len → atO ((List.range len).map f) i = f i := fun i hi => by simp [atO, hi]
  refine ⟨some a, cap, (List.range len).map f, by rw [hlx], by rw [hlx]; omega, ?_, fun i hi => by rw [hlx] at hi; rw [hat i hi]; exact (hf i hi).2⟩
  by_cases h0 : len = 0
  · exact Or.inl (by rw [hlx]; exact h0)
  · have hs := addr_spot (show W.cell? (a.add 0) = _ from (hf 0 (by omega)).1.1)
    refine Or.inr ⟨a.block, a.off, by rw [← hs], fun i hi => ?_, ?_⟩
    · rw [hlx] at hi
      obtain ⟨⟨e0, e1, e2, e3⟩, _⟩ := hf i hi
      rw [hs, Addr.add_mid] at e0 e1 e2 e3
      unfold CellsAt
      rw [hat i hi]
      exact ⟨e0, by simpa [Nat.add_assoc] using e1, by simpa [Nat.add_assoc] using e2, by simpa [Nat.add_assoc] using e3⟩
    · have := block_lt_of_cell (show W.cell? (a.add 0) = _ from (hf 0 (by omega)).1.1)
      simpa [Addr.add] using this

/-- A table, opened. -/
theorem open_table {r : Go.Reach} {b0 : Nat} {v : Value} {d : DataW H} {p : List MemPlace} (hv : Value.okWide Try.prog W r b0 24 v) (h : DataW.Trod enc Try.prog W 0 (fun _ => true) held 24 v d p) :
    ∃ (a : Option Addr) (cap : Nat) (xs : List OpR), v = .agg #[.slice a xs.length cap] ∧ xs.length ≤ maxLen ∧ Arg W a xs ∧ Sized xs := by
  obtain ⟨cs, rfl, hsz⟩ := okWide_struct Try.underlying24 hv
  rw [Opn.cellsTable] at hsz
  obtain ⟨fuel, hf⟩ := h
  obtain ⟨y0, n, _, _, t0⟩ := trod_struct1 Try.underlying24 hf
  obtain ⟨l⟩ := cs
  match l, hsz with
  | [c0], _ =>
    simp only [Opn.cellsOps] at t0
    obtain ⟨a, cap, xs, e, h1, h2, h3⟩ := open_ops t0
    simp [Value.cells] at e
    subst e
    exact ⟨a, cap, xs, rfl, h1, h2, h3⟩
end
end Go.Proofs.Ytokabkhnidlcnab
