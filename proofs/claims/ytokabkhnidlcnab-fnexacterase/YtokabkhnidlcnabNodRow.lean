/-
  Rows of nodes that a call makes by append.
-/
import Derived.Test.YtokabkhnidlcnabNodB
namespace Go.Proofs.Ytokabkhnidlcnab
set_option maxRecDepth 100000
open Go.RowKit

theorem grown_belN {w w' : World} (h : Below w.heap.size w w') (row : Option Nat) : w.grownBy w' row := ⟨h.os, h.tape, h.output, h.size, fun i hi _ => h.block i hi⟩

/-- The cells of a list of nodes. -/
def cellsN (zs : List NodeR) : List Value := zs.flatMap fun o => [.int .i64 o.k, .string o.t, .int .i64 o.a, .int .i64 o.b]

theorem cellsN_append (xs ys : List NodeR) : cellsN (xs ++ ys) = cellsN xs ++ cellsN ys := by simp [cellsN]
theorem cellsN_len : ∀ zs : List NodeR, (cellsN zs).length = zs.length * 4
  | [] => rfl
  | o :: r => by
    have := cellsN_len r
    simp only [cellsN, List.flatMap_cons, List.length_append, List.length_cons, List.length_nil] at *
    omega

theorem cellsN_at : ∀ (zs : List NodeR) (i : Nat), i < zs.length → (cellsN zs)[i * 4]? = some (.int .i64 (atN zs i).k) ∧ (cellsN zs)[i * 4 + 1]? = some (.string (atN zs i).t) ∧ (cellsN zs)[i * 4 + 2]? = some (.int .i64 (atN zs i).a) ∧ (cellsN zs)[i * 4 + 3]? = some (.int .i64 (atN zs i).b)
  | [], i, h => absurd h (Nat.not_lt_zero i)
  | o :: r, 0, _ => ⟨rfl, rfl, rfl, rfl⟩
  | o :: r, i + 1, h => by
    have ih := cellsN_at r i (by simpa using h)
    have e : ∀ j, (cellsN (o :: r))[(i + 1) * 4 + j]? = (cellsN r)[i * 4 + j]? := fun j => by
      have : (i + 1) * 4 + j = (i * 4 + j) + 4 := by omega
      rw [this]
      rfl
    exact ⟨(e 0).trans ih.1, (e 1).trans ih.2.1, (e 2).trans ih.2.2.1, (e 3).trans ih.2.2.2⟩

theorem cellsN_one' (zs : List NodeR) : ∀ u ∈ cellsN zs, u.oneCell' = true := by
  intro u hu
  simp only [cellsN, List.mem_flatMap] at hu
  obtain ⟨o, _, ho⟩ := hu
  simp at ho
  rcases ho with rfl | rfl | rfl | rfl <;> rfl

/-- A row that the call owns, as a filled one. -/
theorem owns_filledN {w : World} {base g cap : Nat} {e : TypeId} {zs : List NodeR} (h : w.ownsRow base e 4 (.slice (some ⟨g, 0, none⟩) zs.length cap) zs.length (cellsN zs)) : base ≤ g ∧ FilledN w g zs zs.length := by
  have hlt := h.lt g rfl
  refine ⟨hlt.1, hlt.2, fun j hj => ⟨?_, h.frozenAt _⟩, fun i hi => ?_⟩
  · rw [h.cellAt (0 + j) (by omega)]
    have : 0 + j < (cellsN zs).length := by rw [cellsN_len]; omega
    rw [List.getElem?_eq_getElem this]
    rfl
  · obtain ⟨c0, c1, c2, c3⟩ := cellsN_at zs i hi
    have e := fun j (hj : j < 4) => h.cellAt (i * 4 + j) (by omega)
    exact ⟨by simpa using (e 0 (by omega)).trans c0, by simpa using (e 1 (by omega)).trans c1, by simpa using (e 2 (by omega)).trans c2, by simpa using (e 3 (by omega)).trans c3⟩

/-- What an owned row's value is, where it is not nil. -/
theorem owns_valueN {w : World} {base n size : Nat} {e : TypeId} {v : Value} {xs : List Value} (h : w.ownsRow base e size v n xs) (hv : v ≠ .slice none 0 0) : ∃ g cap, v = .slice (some ⟨g, 0, none⟩) n cap := by
  obtain ⟨_, h | ⟨g, cap, cur, hv', _⟩⟩ := h
  · exact absurd h.1 hv
  · exact ⟨g, cap, hv'⟩

theorem owns_capN {w : World} {base n size g cap : Nat} {e : TypeId} {xs : List Value} (h : w.ownsRow base e size (.slice (some ⟨g, 0, none⟩) n cap) n xs) : n ≤ cap ∧ cap ≤ maxLen := by
  obtain ⟨_, h | ⟨g', cap', cur, hv', _, _, h1, h2, _⟩⟩ := h
  · simp at h
  · simp only [Value.slice.injEq, Option.some.injEq] at hv'
    obtain ⟨_, _, rfl⟩ := hv'
    exact ⟨h1, h2⟩

/-- A new node in a block of its own. -/
theorem new_newsN (w : World) (o : NodeR) : ∀ j u, (cellsN [o])[j]? = some u → (w.alloc (.cells #[.int .i64 o.k, .string o.t, .int .i64 o.a, .int .i64 o.b] 115)).cell? ((⟨w.heap.size, 0, none⟩ : Addr).add j) = some u := by
  intro j u hj
  rw [Addr.add_mid]
  have := World.rangeAt_of_block (w := w.alloc (.cells #[.int .i64 o.k, .string o.t, .int .i64 o.a, .int .i64 o.b] 115)) (b := w.heap.size) (heap_alloc_new w _) 0 4
  exact this j u (by simpa [cellsN] using hj)

theorem FilledN.arg {w : World} {g : Nat} {us : List NodeR} (h : FilledN w g us us.length) : ArgN w (some ⟨g, 0, none⟩) us := Or.inr ⟨g, 0, rfl, h.ops, h.1⟩

/-- A list of nodes that a call has made: nil and empty, or a row of its own. -/
def OwnedN (w : World) (n : Nat) (a : Option Addr) (us : List NodeR) : Prop := (us.length = 0 ∧ a = none) ∨ ∃ g, a = some ⟨g, 0, none⟩ ∧ n ≤ g ∧ FilledN w g us us.length

theorem OwnedN.arg {w : World} {n : Nat} {a : Option Addr} {us : List NodeR} (h : OwnedN w n a us) : ArgN w a us := by
  rcases h with ⟨h, _⟩ | ⟨g, rfl, _, hf⟩
  · exact Or.inl h
  · exact hf.arg

theorem OwnedN.grown {w w' : World} {n : Nat} {a : Option Addr} {us : List NodeR} {row : Option Nat} (h : OwnedN w n a us) (hg : w.grownBy w' row) (hr : ∀ k, row = some k → k < n) : OwnedN w' n a us := by
  rcases h with h | ⟨g, rfl, hn, hf⟩
  · exact Or.inl h
  · exact Or.inr ⟨g, rfl, hn, hf.grown hg (fun e => by have := hr g e.symm; omega)⟩

theorem OwnedN.step {w w' : World} {n : Nat} {a : Option Addr} {us : List NodeR} (h : OwnedN w n a us) (hb : Below w.heap.size w w') : OwnedN w' n a us :=
  h.grown (grown_belN hb none) (fun k hk => by cases hk)

theorem OwnedN.lt {w : World} {n : Nat} {a : Option Addr} {us : List NodeR} (h : OwnedN w n a us) : ∀ k, a.map (·.block) = some k → n ≤ k ∧ k < w.heap.size := by
  rcases h with ⟨_, rfl⟩ | ⟨g, rfl, hn, hf⟩
  · intro k hk; cases hk
  · intro k hk; injection hk with hk; subst hk; exact ⟨hn, hf.1⟩
end Go.Proofs.Ytokabkhnidlcnab
