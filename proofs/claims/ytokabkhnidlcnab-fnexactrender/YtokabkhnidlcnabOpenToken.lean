/-
  A list of Token that comes in, opened. Written by wip/shape.py.
-/
import Derived.Test.YtokabkhnidlcnabTokB
import Derived.ProofKit
import Derived.Lib.SmallJoins
import Derived.Deep.Slices
import Derived.Deep.Strs
namespace Go.Proofs.Ytokabkhnidlcnab
set_option maxRecDepth 100000
open Go.ChangeShapes Go.WideShapes Go.ChangeAt Go.RowKit Go.Joins
open Go.Deep (trod_struct3)

theorem OpnT.cells9 : Try.prog.cellsOf 9 = 1 := by kernel_rfl
theorem OpnT.cells3 : Try.prog.cellsOf 3 = 1 := by kernel_rfl
theorem OpnT.cellsE : Try.prog.cellsOf 92 = 3 := by kernel_rfl

/-- The fields fit their types. -/
def FineT (o : TokR) : Prop := (Lit.int .i64 o.k).wf = true ∧ o.g.size ≤ maxLen ∧ o.t.size ≤ maxLen
def AllFineT (xs : List TokR) : Prop := ∀ i, i < xs.length → FineT (atT xs i)
theorem AllFineT.sized {xs : List TokR} (h : AllFineT xs) : SizedT xs := fun i hi => ⟨(h i hi).2.1, (h i hi).2.2⟩

section
variable {H : Type} {enc : TypeId × Value → H} {W : World} {base : Nat} {spare : Nat → Bool} {held : Bool}

set_option maxRecDepth 100000 in
theorem open_elT {n : Nat} {cs : List Value} {x : DataW H × List MemPlace} (h : DataW.trod enc Try.prog W base spare held n 92 cs = some x) :
    ∃ o : TokR, cs = [.int .i64 o.k, .string o.g, .string o.t] ∧ FineT o := by
  obtain ⟨y0, y1, y2, m, _, hlen, g0, g1, g2⟩ := trod_struct3 Try.underlying92 h
  rw [OpnT.cellsE] at hlen
  match cs, hlen with
  | [c0, c1, c2], _ =>
    simp only [OpnT.cells9, OpnT.cells3] at g0 g1 g2
    obtain ⟨v0, e0, _, w0⟩ := DataW.trod_int Try.underlying3 g0
    obtain ⟨v1, e1, _, w1⟩ := DataW.trod_string Try.underlying9 g1
    obtain ⟨v2, e2, _, w2⟩ := DataW.trod_string Try.underlying9 g2
    simp at e0 e1 e2
    subst e0 e1 e2
    exact ⟨⟨v0, v1, v2⟩, rfl, w0, w1, w2⟩

theorem addr_spotT {x : Addr} {v : Value} (h : W.cell? (x.add 0) = some v) : x = ⟨x.block, x.off, none⟩ := by
  obtain ⟨b, off, spot⟩ := x
  have hs : spot = none := by
    have := World.cell?_spot h
    simpa [Addr.add] using this
  subst hs
  rfl

theorem open_listT {fuel : Nat} {cs : List Value} {x : DataW H × List MemPlace} (h : DataW.trod enc Try.prog W 0 (fun _ => true) held fuel 40 cs = some x) :
    ∃ (a : Option Addr) (cap : Nat) (xs : List TokR), cs = [.slice a xs.length cap] ∧ xs.length ≤ maxLen ∧ ArgT W a xs ∧ AllFineT xs := by
  rcases Go.Deep.open_slice Try.underlying40 h with ⟨rfl, _⟩ | ⟨a, len, cap, m, n, D, Pl, rfl, _, hl, hm, hmm, _, hx⟩
  · exact ⟨none, 0, [], rfl, Nat.zero_le _, Or.inl rfl, fun i hi => absurd hi (Nat.not_lt_zero i)⟩
  have hlm : len ≤ m := by rw [hmm]; simpa using hl
  rw [OpnT.cellsE] at hx
  have each : ∀ i, i < len → ∃ o : TokR, (W.cell? (a.add (i * 3)) = some (.int .i64 o.k) ∧ W.cell? (a.add (i * 3 + 1)) = some (.string o.g) ∧ W.cell? (a.add (i * 3 + 2)) = some (.string o.t)) ∧ FineT o := by
    intro i hi
    obtain ⟨cs', h1, h2⟩ := hx i (by omega)
    obtain ⟨_, hlen, hcell⟩ := World.cells?_some h1
    obtain ⟨o, rfl, ho⟩ := open_elT h2
    have e0 := hcell 0 (by omega)
    have e1 := hcell 1 (by omega)
    have e2 := hcell 2 (by omega)
    rw [Go.Deep.add_add] at e0 e1 e2
    exact ⟨o, ⟨by simpa using e0, by simpa using e1, by simpa using e2⟩, ho⟩
  obtain ⟨f, hf⟩ := @Go.Deep.choose_lt TokR ⟨TokR.zero⟩ len _ each
  have hlx : ((List.range len).map f).length = len := by simp
  have hat : ∀ i, i < len → atT ((List.range len).map f) i = f i := fun i hi => by simp [atT, hi]
  refine ⟨some a, cap, (List.range len).map f, by rw [hlx], by rw [hlx]; omega, ?_, fun i hi => by rw [hlx] at hi; rw [hat i hi]; exact (hf i hi).2⟩
  by_cases h0 : len = 0
  · exact Or.inl (by rw [hlx]; exact h0)
  · have hs := addr_spotT (show W.cell? (a.add 0) = _ from (hf 0 (by omega)).1.1)
    refine Or.inr ⟨a.block, a.off, by rw [← hs], fun i hi => ?_, ?_⟩
    · rw [hlx] at hi
      obtain ⟨⟨e0, e1, e2⟩, _⟩ := hf i hi
      rw [hs, Addr.add_mid] at e0 e1 e2
      unfold CellsT
      rw [hat i hi]
      exact ⟨e0, by simpa [Nat.add_assoc] using e1, by simpa [Nat.add_assoc] using e2⟩
    · have := block_lt_of_cell (show W.cell? (a.add 0) = _ from (hf 0 (by omega)).1.1)
      simpa [Addr.add] using this
end
end Go.Proofs.Ytokabkhnidlcnab
