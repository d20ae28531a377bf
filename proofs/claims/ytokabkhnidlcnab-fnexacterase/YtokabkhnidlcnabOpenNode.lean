/-
  A list of Node that comes in, opened. Written by wip/shape.py.
-/
import Derived.Test.YtokabkhnidlcnabShNode
import Derived.ProofKit
import Derived.Lib.SmallJoins
import Derived.Deep.Slices
import Derived.Deep.Strs
namespace Go.Proofs.Ytokabkhnidlcnab
set_option maxRecDepth 100000
open Go.ChangeShapes Go.WideShapes Go.ChangeAt Go.RowKit Go.Joins
open Go.Deep (trod_struct3)

theorem OpnN.cells9 : Try.prog.cellsOf 9 = 1 := by kernel_rfl
theorem OpnN.cells3 : Try.prog.cellsOf 3 = 1 := by kernel_rfl
theorem OpnN.cellsE : Try.prog.cellsOf 144 = 4 := by kernel_rfl

/-- The fields fit their types. -/
def FineN (o : NodeR) : Prop := (Lit.int .i64 o.k).wf = true ∧ o.t.size ≤ maxLen ∧ (Lit.int .i64 o.a).wf = true ∧ (Lit.int .i64 o.b).wf = true
def AllFineN (xs : List NodeR) : Prop := ∀ i, i < xs.length → FineN (atN xs i)
theorem AllFineN.sized {xs : List NodeR} (h : AllFineN xs) : SizedN xs := fun i hi => (h i hi).2.1

section
variable {H : Type} {enc : TypeId × Value → H} {W : World} {base : Nat} {spare : Nat → Bool} {held : Bool}

set_option maxRecDepth 100000 in
theorem open_elN {n : Nat} {cs : List Value} {x : DataW H × List MemPlace} (h : DataW.trod enc Try.prog W base spare held n 144 cs = some x) :
    ∃ o : NodeR, cs = [.int .i64 o.k, .string o.t, .int .i64 o.a, .int .i64 o.b] ∧ FineN o := by
  obtain ⟨y0, y1, y2, y3, m, _, hlen, g0, g1, g2, g3⟩ := trod_struct4 Try.underlying144 h
  rw [OpnN.cellsE] at hlen
  match cs, hlen with
  | [c0, c1, c2, c3], _ =>
    simp only [OpnN.cells9, OpnN.cells3] at g0 g1 g2 g3
    obtain ⟨v0, e0, _, w0⟩ := DataW.trod_int Try.underlying3 g0
    obtain ⟨v1, e1, _, w1⟩ := DataW.trod_string Try.underlying9 g1
    obtain ⟨v2, e2, _, w2⟩ := DataW.trod_int Try.underlying3 g2
    obtain ⟨v3, e3, _, w3⟩ := DataW.trod_int Try.underlying3 g3
    simp at e0 e1 e2 e3
    subst e0 e1 e2 e3
    exact ⟨⟨v0, v1, v2, v3⟩, rfl, w0, w1, w2, w3⟩

theorem addr_spotN {x : Addr} {v : Value} (h : W.cell? (x.add 0) = some v) : x = ⟨x.block, x.off, none⟩ := by
  obtain ⟨b, off, spot⟩ := x
  have hs : spot = none := by
    have := World.cell?_spot h
    simpa [Addr.add] using this
  subst hs
  rfl

theorem open_listN {fuel : Nat} {cs : List Value} {x : DataW H × List MemPlace} (h : DataW.trod enc Try.prog W 0 (fun _ => true) held fuel 51 cs = some x) :
    ∃ (a : Option Addr) (cap : Nat) (xs : List NodeR), cs = [.slice a xs.length cap] ∧ xs.length ≤ maxLen ∧ ArgN W a xs ∧ AllFineN xs := by
  rcases Go.Deep.open_slice Try.underlying51 h with ⟨rfl, _⟩ | ⟨a, len, cap, m, n, D, Pl, rfl, _, hl, hm, hmm, _, hx⟩
  · exact ⟨none, 0, [], rfl, Nat.zero_le _, Or.inl rfl, fun i hi => absurd hi (Nat.not_lt_zero i)⟩
  have hlm : len ≤ m := by rw [hmm]; simpa using hl
  rw [OpnN.cellsE] at hx
  have each : ∀ i, i < len → ∃ o : NodeR, (W.cell? (a.add (i * 4)) = some (.int .i64 o.k) ∧ W.cell? (a.add (i * 4 + 1)) = some (.string o.t) ∧ W.cell? (a.add (i * 4 + 2)) = some (.int .i64 o.a) ∧ W.cell? (a.add (i * 4 + 3)) = some (.int .i64 o.b)) ∧ FineN o := by
    intro i hi
    obtain ⟨cs', h1, h2⟩ := hx i (by omega)
    obtain ⟨_, hlen, hcell⟩ := World.cells?_some h1
    obtain ⟨o, rfl, ho⟩ := open_elN h2
    have e0 := hcell 0 (by omega)
    have e1 := hcell 1 (by omega)
    have e2 := hcell 2 (by omega)
    have e3 := hcell 3 (by omega)
    rw [Go.Deep.add_add] at e0 e1 e2 e3
    exact ⟨o, ⟨by simpa using e0, by simpa using e1, by simpa using e2, by simpa using e3⟩, ho⟩
  obtain ⟨f, hf⟩ := @Go.Deep.choose_lt NodeR ⟨NodeR.zero⟩ len _ each
  have hlx : ((List.range len).map f).length = len := by simp
  have hat : ∀ i, i < len → atN ((List.range len).map f) i = f i := fun i hi => by simp [atN, hi]
  refine ⟨some a, cap, (List.range len).map f, by rw [hlx], by rw [hlx]; omega, ?_, fun i hi => by rw [hlx] at hi; rw [hat i hi]; exact (hf i hi).2⟩
  by_cases h0 : len = 0
  · exact Or.inl (by rw [hlx]; exact h0)
  · have hs := addr_spotN (show W.cell? (a.add 0) = _ from (hf 0 (by omega)).1.1)
    refine Or.inr ⟨a.block, a.off, by rw [← hs], fun i hi => ?_, ?_⟩
    · rw [hlx] at hi
      obtain ⟨⟨e0, e1, e2, e3⟩, _⟩ := hf i hi
      rw [hs, Addr.add_mid] at e0 e1 e2 e3
      unfold CellsN
      rw [hat i hi]
      exact ⟨e0, by simpa [Nat.add_assoc] using e1, by simpa [Nat.add_assoc] using e2, by simpa [Nat.add_assoc] using e3⟩
    · have := block_lt_of_cell (show W.cell? (a.add 0) = _ from (hf 0 (by omega)).1.1)
      simpa [Addr.add] using this
end
end Go.Proofs.Ytokabkhnidlcnab
