/-
  Walks: tables of which one operator is spoilt.
-/
import Derived.Test.YtokabkhnidlcnaaDrawBad
namespace Go.Proofs.Ytokabkhnidlcnaa
set_option maxRecDepth 100000
set_option linter.unusedSimpArgs false
set_option linter.unusedVariables false
open Go.RowKit

/-- One operator of a row is another. -/
theorem Filled.put {w : World} {g i : Nat} {xs : List OpR} (h : Filled w g xs xs.length) (hi : i < xs.length) (o : OpR) :
    Filled (w.setCells g (i * 4) [.string o.s, .int .i64 o.k, .int .i64 o.l, .int .i64 o.sd]) g (xs.set i o) (xs.set i o).length := by
  obtain ⟨h1, h2, h3⟩ := h
  have hin := World.cell?_setCells_in g [.string o.s, .int .i64 o.k, .int .i64 o.l, .int .i64 o.sd] (i * 4) w (fun j hj => by
    have := (h2 (i * 4 + j) (by simp at hj; omega)).1
    simpa using this)
  refine ⟨?_, ?_, fun j hj => ?_⟩
  · simpa [World.setCells, World.setCell] using h1
  · rw [List.length_set]; exact World.there_setCells h2 _ _ _
  · rw [List.length_set] at hj
    by_cases e : j = i
    · subst e
      have a0 := hin 0 (by simp)
      have a1 := hin 1 (by simp)
      have a2 := hin 2 (by simp)
      have a3 := hin 3 (by simp)
      have ea : atO (xs.set j o) j = o := by unfold atO; simp [List.getD, hj]
      unfold CellsAt
      rw [ea]
      exact ⟨by simpa using a0, by simpa using a1, by simpa using a2, by simpa using a3⟩
    · obtain ⟨c0, c1, c2, c3⟩ := h3 j hj
      have ea : atO (xs.set i o) j = atO xs j := by unfold atO; simp [List.getD, List.getElem?_set, Ne.symm e]
      have out : ∀ t, t < 4 → (w.setCells g (i * 4) [.string o.s, .int .i64 o.k, .int .i64 o.l, .int .i64 o.sd]).cell? ⟨g, 0 + j * 4 + t, none⟩ = w.cell? ⟨g, 0 + j * 4 + t, none⟩ := fun t ht => by
        simp only [World.setCells]
        rw [World.cell?_setCell_other _ _ _ _ (fun x => by injection x with _ x; omega), World.cell?_setCell_other _ _ _ _ (fun x => by injection x with _ x; omega), World.cell?_setCell_other _ _ _ _ (fun x => by injection x with _ x; omega), World.cell?_setCell_other _ _ _ _ (fun x => by injection x with _ x; omega)]
      unfold CellsAt
      rw [ea]
      exact ⟨(out 0 (by omega)).trans c0, (out 1 (by omega)).trans c1, (out 2 (by omega)).trans c2, (out 3 (by omega)).trans c3⟩
end Go.Proofs.Ytokabkhnidlcnaa
