/-
  Rows of numbers.
-/
import Derived.Test.YtokabkhnidlcnabTokRow
namespace Go.Proofs.Ytokabkhnidlcnab
set_option maxRecDepth 100000
open Go.RowKit

def atI (xs : List Int) (i : Nat) : Int := xs.getD i 0
def cellsI (l : List Int) : List Value := l.map fun n => .int .i64 n
theorem cellsI_len (l : List Int) : (cellsI l).length = l.length := by simp [cellsI]
theorem cellsI_append (l l' : List Int) : cellsI (l ++ l') = cellsI l ++ cellsI l' := by simp [cellsI]
theorem cellsI_one (l : List Int) : ∀ u ∈ cellsI l, u.oneCell' = true := by
  intro u hu
  simp only [cellsI, List.mem_map] at hu
  obtain ⟨b, _, rfl⟩ := hu
  rfl
theorem cellsI_at (l : List Int) (i : Nat) (h : i < l.length) : (cellsI l)[i]? = some (.int .i64 (atI l i)) := by
  simp [cellsI, atI, h]

/-- A row of numbers of which k lie there; all its cells may be written. -/
def FilledI (w : World) (g : Nat) (xs : List Int) (k : Nat) : Prop :=
  g < w.heap.size ∧ w.there g 0 xs.length ∧ ∀ i, i < k → w.cell? ⟨g, i, none⟩ = some (.int .i64 (atI xs i))

theorem FilledI.grown {w w' : World} {g k : Nat} {xs : List Int} {row : Option Nat} (h : FilledI w g xs k) (hg : w.grownBy w' row) (hne : some g ≠ row) : FilledI w' g xs k := by
  obtain ⟨h1, h2, h3⟩ := h
  have hb := hg.block g h1 hne
  have e : ∀ o, w'.cell? ⟨g, o, none⟩ = w.cell? ⟨g, o, none⟩ := fun o => World.cell?_of_block (w := w) hb
  have f : ∀ o, w'.frozen? ⟨g, o, none⟩ = w.frozen? ⟨g, o, none⟩ := fun o => World.frozen?_of_block (w := w) hb
  exact ⟨Nat.lt_of_lt_of_le h1 hg.size, fun j hj => ⟨by rw [e]; exact (h2 j hj).1, by rw [f]; exact (h2 j hj).2⟩, fun i hi => (e _).trans (h3 i hi)⟩

theorem FilledI.step {w w' : World} {g k : Nat} {xs : List Int} (h : FilledI w g xs k) (hb : Below w.heap.size w w') : FilledI w' g xs k := h.grown (grown_bel hb none) (by simp)

/-- A row that the call owns, as a filled one. -/
theorem owns_filledI {w : World} {base g cap : Nat} {e : TypeId} {zs : List Int} (h : w.ownsRow base e 1 (.slice (some ⟨g, 0, none⟩) zs.length cap) zs.length (cellsI zs)) : base ≤ g ∧ FilledI w g zs zs.length := by
  have hlt := h.lt g rfl
  refine ⟨hlt.1, hlt.2, fun j hj => ⟨?_, h.frozenAt _⟩, fun i hi => ?_⟩
  · rw [h.cellAt (0 + j) (by omega)]
    have : 0 + j < (cellsI zs).length := by rw [cellsI_len]; omega
    rw [List.getElem?_eq_getElem this]
    rfl
  · exact (h.cellAt i (by omega)).trans (cellsI_at zs i hi)

/-- A list of numbers that a call has made. -/
def OwnedI (w : World) (n : Nat) (a : Option Addr) (us : List Int) : Prop := (us.length = 0 ∧ a = none) ∨ ∃ g, a = some ⟨g, 0, none⟩ ∧ n ≤ g ∧ FilledI w g us us.length
def MarkedI (w : World) (a : Option Addr) (k n : Nat) : Prop := (n = 0 ∧ a = none) ∨ ∃ g, a = some ⟨g, 0, none⟩ ∧ FilledI w g ((List.range n).map fun i => ((k + i : Nat) : Int)) n

theorem OwnedI.grown {w w' : World} {n : Nat} {a : Option Addr} {us : List Int} {row : Option Nat} (h : OwnedI w n a us) (hg : w.grownBy w' row) (hr : ∀ k, row = some k → k < n) : OwnedI w' n a us := by
  rcases h with h | ⟨g, rfl, hn, hf⟩
  · exact Or.inl h
  · exact Or.inr ⟨g, rfl, hn, hf.grown hg (fun e => by have := hr g e.symm; omega)⟩
theorem OwnedI.step {w w' : World} {n : Nat} {a : Option Addr} {us : List Int} (h : OwnedI w n a us) (hb : Below w.heap.size w w') : OwnedI w' n a us :=
  h.grown (grown_bel hb none) (fun k hk => by cases hk)
theorem OwnedI.lt {w : World} {n : Nat} {a : Option Addr} {us : List Int} (h : OwnedI w n a us) : ∀ k, a.map (·.block) = some k → n ≤ k ∧ k < w.heap.size := by
  rcases h with ⟨_, rfl⟩ | ⟨g, rfl, hn, hf⟩
  · intro k hk; cases hk
  · intro k hk; injection hk with hk; subst hk; exact ⟨hn, hf.1⟩
theorem MarkedI.grown {w w' : World} {a : Option Addr} {k n : Nat} {row : Option Nat} (h : MarkedI w a k n) (hg : w.grownBy w' row) (hne : ∀ q, a.map (·.block) = some q → some q ≠ row) : MarkedI w' a k n := by
  rcases h with h | ⟨g, rfl, hf⟩
  · exact Or.inl h
  · exact Or.inr ⟨g, rfl, hf.grown hg (hne g rfl)⟩
theorem MarkedI.step {w w' : World} {a : Option Addr} {k n : Nat} (h : MarkedI w a k n) (hb : Below w.heap.size w w') : MarkedI w' a k n :=
  h.grown (grown_bel hb none) (fun q _ => by simp)

/-- Numbers that can be read: nil and empty, or their cells lie there. -/
def ArgI (w : World) (a : Option Addr) (us : List Int) : Prop := us.length = 0 ∨ ∃ g, a = some ⟨g, 0, none⟩ ∧ g < w.heap.size ∧ ∀ i, i < us.length → w.cell? ⟨g, i, none⟩ = some (.int .i64 (atI us i))
theorem FilledI.arg {w : World} {g : Nat} {us : List Int} (h : FilledI w g us us.length) : ArgI w (some ⟨g, 0, none⟩) us := Or.inr ⟨g, rfl, h.1, h.2.2⟩
theorem OwnedI.arg {w : World} {n : Nat} {a : Option Addr} {us : List Int} (h : OwnedI w n a us) : ArgI w a us := by
  rcases h with ⟨h, _⟩ | ⟨g, rfl, _, hf⟩
  · exact Or.inl h
  · exact hf.arg

end Go.Proofs.Ytokabkhnidlcnab
