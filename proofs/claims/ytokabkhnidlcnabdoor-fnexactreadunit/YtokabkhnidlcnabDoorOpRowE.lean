/-
  Rows of operators by append.
-/
import Derived.Test.YtokabkhnidlcnabDoorEqE
import Derived.OwnWalk
import Derived.Laws.OwnMore
namespace Go.Proofs.YtokabkhnidlcnabDoor
set_option maxRecDepth 100000
open Go.RowKit

/-- The cells of a list of operators. -/
def cellsL (zs : List OpR) : List Value := zs.flatMap fun o => [.string o.s, .int .i64 o.k, .int .i64 o.l, .int .i64 o.sd]

theorem cellsL_nil : cellsL [] = [] := rfl
theorem cellsL_append (xs ys : List OpR) : cellsL (xs ++ ys) = cellsL xs ++ cellsL ys := by simp [cellsL]
theorem cellsL_one (o : OpR) : cellsL [o] = [.string o.s, .int .i64 o.k, .int .i64 o.l, .int .i64 o.sd] := rfl
theorem cellsL_len : ∀ zs : List OpR, (cellsL zs).length = zs.length * 4
  | [] => rfl
  | o :: r => by
    have := cellsL_len r
    simp only [cellsL, List.flatMap_cons, List.length_append, List.length_cons, List.length_nil] at *
    omega

theorem cellsL_at : ∀ (zs : List OpR) (i : Nat), i < zs.length → (cellsL zs)[i * 4]? = some (.string (atO zs i).s) ∧ (cellsL zs)[i * 4 + 1]? = some (.int .i64 (atO zs i).k) ∧ (cellsL zs)[i * 4 + 2]? = some (.int .i64 (atO zs i).l) ∧ (cellsL zs)[i * 4 + 3]? = some (.int .i64 (atO zs i).sd)
  | [], i, h => absurd h (Nat.not_lt_zero i)
  | o :: r, 0, _ => ⟨rfl, rfl, rfl, rfl⟩
  | o :: r, i + 1, h => by
    have ih := cellsL_at r i (by simpa using h)
    have e : ∀ j, (cellsL (o :: r))[(i + 1) * 4 + j]? = (cellsL r)[i * 4 + j]? := fun j => by
      have : (i + 1) * 4 + j = (i * 4 + j) + 4 := by omega
      rw [this]
      rfl
    exact ⟨(e 0).trans ih.1, (e 1).trans ih.2.1, (e 2).trans ih.2.2.1, (e 3).trans ih.2.2.2⟩

theorem cellsL_one' (zs : List OpR) : ∀ u ∈ cellsL zs, u.oneCell' = true := by
  intro u hu
  simp only [cellsL, List.mem_flatMap] at hu
  obtain ⟨o, _, ho⟩ := hu
  simp at ho
  rcases ho with rfl | rfl | rfl | rfl <;> rfl

/-- The cells of a row, by number. -/
theorem ops_news {w : World} {b off : Nat} {xs : List OpR} (h : Ops w b off xs) : ∀ j u, (cellsL xs)[j]? = some u → w.cell? ((⟨b, off, none⟩ : Addr).add j) = some u := by
  intro j u hj
  have hlt : j < xs.length * 4 := by
    rw [← cellsL_len]
    exact (List.getElem?_eq_some_iff.1 hj).1
  rw [Addr.add_mid]
  have hi : j / 4 < xs.length := by omega
  obtain ⟨a0, a1, a2, a3⟩ := h (j / 4) hi
  obtain ⟨c0, c1, c2, c3⟩ := cellsL_at xs (j / 4) hi
  have hr : j % 4 = 0 ∨ j % 4 = 1 ∨ j % 4 = 2 ∨ j % 4 = 3 := by omega
  rcases hr with e | e | e | e
  · have ej : j = j / 4 * 4 := by omega
    rw [ej] at hj ⊢
    rw [c0] at hj
    rw [← hj]
    exact a0
  · have ej : j = j / 4 * 4 + 1 := by omega
    rw [ej] at hj ⊢
    rw [c1] at hj
    rw [← hj]
    exact a1
  · have ej : j = j / 4 * 4 + 2 := by omega
    rw [ej] at hj ⊢
    rw [c2] at hj
    rw [← hj]
    exact a2
  · have ej : j = j / 4 * 4 + 3 := by omega
    rw [ej] at hj ⊢
    rw [c3] at hj
    rw [← hj]
    exact a3

/-- A row that the call owns, as a filled one. -/
theorem owns_filled {w : World} {base g cap : Nat} {e : TypeId} {zs : List OpR} (h : w.ownsRow base e 4 (.slice (some ⟨g, 0, none⟩) zs.length cap) zs.length (cellsL zs)) : base ≤ g ∧ Filled w g zs zs.length := by
  have hlt := h.lt g rfl
  refine ⟨hlt.1, hlt.2, fun j hj => ⟨?_, h.frozenAt _⟩, fun i hi => ?_⟩
  · rw [h.cellAt (0 + j) (by omega)]
    have : 0 + j < (cellsL zs).length := by rw [cellsL_len]; omega
    rw [List.getElem?_eq_getElem this]
    rfl
  · obtain ⟨c0, c1, c2, c3⟩ := cellsL_at zs i hi
    have e := fun j (hj : j < 4) => h.cellAt (i * 4 + j) (by omega)
    exact ⟨by simpa using (e 0 (by omega)).trans c0, by simpa using (e 1 (by omega)).trans c1, by simpa using (e 2 (by omega)).trans c2, by simpa using (e 3 (by omega)).trans c3⟩

/-- What an owned row's value is, where it is not nil. -/
theorem owns_value {w : World} {base n size : Nat} {e : TypeId} {v : Value} {xs : List Value} (h : w.ownsRow base e size v n xs) (hv : v ≠ .slice none 0 0) : ∃ g cap, v = .slice (some ⟨g, 0, none⟩) n cap := by
  obtain ⟨_, h | ⟨g, cap, cur, hv', _⟩⟩ := h
  · exact absurd h.1 hv
  · exact ⟨g, cap, hv'⟩

theorem infoOp' : (Tryd.prog.info? 37).map (fun i => (i.zero, i.size, i.bytes)) = some (some (.agg #[.string ⟨#[]⟩, .int .i64 0, .int .i64 0, .int .i64 0]), 4, 40) := by kernel_rfl

theorem below_grown {B : Nat} {w w' : World} {row : Option Nat} (hg : w.grownBy w' row) (hB : B ≤ w.heap.size) (hr : ∀ k, row = some k → B ≤ k) : Below B w w' :=
  (Below.refl B w).grown hg hB hr

theorem owns_cap {w : World} {base n size g cap : Nat} {e : TypeId} {xs : List Value} (h : w.ownsRow base e size (.slice (some ⟨g, 0, none⟩) n cap) n xs) : n ≤ cap ∧ cap ≤ maxLen := by
  obtain ⟨_, h | ⟨g', cap', cur, hv', _, _, h1, h2, _⟩⟩ := h
  · simp at h
  · simp only [Value.slice.injEq, Option.some.injEq] at hv'
    obtain ⟨_, _, rfl⟩ := hv'
    exact ⟨h1, h2⟩

theorem new_owned (w : World) (o : OpR) : (w.alloc (.cells #[.string o.s, .int .i64 o.k, .int .i64 o.l, .int .i64 o.sd] 37)).rangeAt w.heap.size 0 [.string o.s, .int .i64 o.k, .int .i64 o.l, .int .i64 o.sd] := by
  have := World.rangeAt_of_block (w := w.alloc (.cells #[.string o.s, .int .i64 o.k, .int .i64 o.l, .int .i64 o.sd] 37)) (b := w.heap.size) (heap_alloc_new w _) 0 4
  simpa using this

theorem new_news (w : World) (o : OpR) : ∀ j u, (cellsL [o])[j]? = some u → (w.alloc (.cells #[.string o.s, .int .i64 o.k, .int .i64 o.l, .int .i64 o.sd] 37)).cell? ((⟨w.heap.size, 0, none⟩ : Addr).add j) = some u := by
  intro j u hj
  rw [Addr.add_mid]
  exact new_owned w o j u hj
end Go.Proofs.YtokabkhnidlcnabDoor
