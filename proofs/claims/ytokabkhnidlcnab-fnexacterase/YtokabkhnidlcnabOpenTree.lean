/-
  A tree that comes in, opened.
-/
import Derived.Test.YtokabkhnidlcnabOpenNode
namespace Go.Proofs.Ytokabkhnidlcnab
set_option maxRecDepth 100000
open Go.ChangeShapes Go.WideShapes Go.ChangeAt Go.RowKit Go.Joins

theorem OpnN.cellsTree : Try.prog.cellsOf 53 = 1 := by kernel_rfl
theorem OpnN.cellsList : Try.prog.cellsOf 51 = 1 := by kernel_rfl

section
variable {H : Type} {enc : TypeId × Value → H} {W : World} {held : Bool}

/-- A tree, opened. -/
theorem open_tree {r : Go.Reach} {b0 : Nat} {v : Value} {d : DataW H} {p : List MemPlace} (hv : Value.okWide Try.prog W r b0 53 v) (h : DataW.Trod enc Try.prog W 0 (fun _ => true) held 53 v d p) :
    ∃ (a : Option Addr) (cap : Nat) (xs : List NodeR), v = .agg #[.slice a xs.length cap] ∧ xs.length ≤ maxLen ∧ ArgN W a xs ∧ AllFineN xs := by
  obtain ⟨cs, rfl, hsz⟩ := okWide_struct Try.underlying53 hv
  rw [OpnN.cellsTree] at hsz
  obtain ⟨fuel, hf⟩ := h
  obtain ⟨y0, n, _, _, t0⟩ := trod_struct1 Try.underlying53 hf
  obtain ⟨l⟩ := cs
  match l, hsz with
  | [c0], _ =>
    simp only [OpnN.cellsList] at t0
    obtain ⟨a, cap, xs, e, h1, h2, h3⟩ := open_listN t0
    simp [Value.cells] at e
    subst e
    exact ⟨a, cap, xs, rfl, h1, h2, h3⟩
end
end Go.Proofs.Ytokabkhnidlcnab
