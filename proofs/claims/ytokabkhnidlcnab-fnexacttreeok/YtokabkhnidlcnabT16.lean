import Derived.Test.YtokabkhnidlcnabT02
import Derived.Test.YtokabkhnidlcnabT15

/-
  Rows of numbers.
-/
namespace Go.Proofs.Ytokabkhnidlcnab
set_option maxRecDepth 100000
open Go.RowKit

def atI (xs : List Int) (i : Nat) : Int := xs.getD i 0
def cellsI (l : List Int) : List Value := l.map fun n => .int .i64 n
theorem cellsI_len (l : List Int) : (cellsI l).length = l.length := by simp [cellsI]
theorem cellsI_append (l l' : List Int) : cellsI (l ++ l') = cellsI l ++ cellsI l' := by simp [cellsI]
theorem cellsI_one (l : List Int) : ∀ u ∈ cellsI l, u.oneCell' = true := by
  intro u hu
  simp only [cellsI, List.mem_map] at hu
  obtain ⟨b, _, rfl⟩ := hu
  rfl
theorem cellsI_at (l : List Int) (i : Nat) (h : i < l.length) : (cellsI l)[i]? = some (.int .i64 (atI l i)) := by
  simp [cellsI, atI, h]

/-- A row of numbers of which k lie there; all its cells may be written. -/
def FilledI (w : World) (g : Nat) (xs : List Int) (k : Nat) : Prop :=
  g < w.heap.size ∧ w.there g 0 xs.length ∧ ∀ i, i < k → w.cell? ⟨g, i, none⟩ = some (.int .i64 (atI xs i))

theorem FilledI.grown {w w' : World} {g k : Nat} {xs : List Int} {row : Option Nat} (h : FilledI w g xs k) (hg : w.grownBy w' row) (hne : some g ≠ row) : FilledI w' g xs k := by
  obtain ⟨h1, h2, h3⟩ := h
  have hb := hg.block g h1 hne
  have e : ∀ o, w'.cell? ⟨g, o, none⟩ = w.cell? ⟨g, o, none⟩ := fun o => World.cell?_of_block (w := w) hb
  have f : ∀ o, w'.frozen? ⟨g, o, none⟩ = w.frozen? ⟨g, o, none⟩ := fun o => World.frozen?_of_block (w := w) hb
  exact ⟨Nat.lt_of_lt_of_le h1 hg.size, fun j hj => ⟨by rw [e]; exact (h2 j hj).1, by rw [f]; exact (h2 j hj).2⟩, fun i hi => (e _).trans (h3 i hi)⟩

theorem FilledI.step {w w' : World} {g k : Nat} {xs : List Int} (h : FilledI w g xs k) (hb : Below w.heap.size w w') : FilledI w' g xs k := h.grown (grown_bel hb none) (by simp)

/-- A row that the call owns, as a filled one. -/
theorem owns_filledI {w : World} {base g cap : Nat} {e : TypeId} {zs : List Int} (h : w.ownsRow base e 1 (.slice (some ⟨g, 0, none⟩) zs.length cap) zs.length (cellsI zs)) : base ≤ g ∧ FilledI w g zs zs.length := by
  have hlt := h.lt g rfl
  refine ⟨hlt.1, hlt.2, fun j hj => ⟨?_, h.frozenAt _⟩, fun i hi => ?_⟩
  · rw [h.cellAt (0 + j) (by omega)]
    have : 0 + j < (cellsI zs).length := by rw [cellsI_len]; omega
    rw [List.getElem?_eq_getElem this]
    rfl
  · exact (h.cellAt i (by omega)).trans (cellsI_at zs i hi)

/-- A list of numbers that a call has made. -/
def OwnedI (w : World) (n : Nat) (a : Option Addr) (us : List Int) : Prop := (us.length = 0 ∧ a = none) ∨ ∃ g, a = some ⟨g, 0, none⟩ ∧ n ≤ g ∧ FilledI w g us us.length
def MarkedI (w : World) (a : Option Addr) (k n : Nat) : Prop := (n = 0 ∧ a = none) ∨ ∃ g, a = some ⟨g, 0, none⟩ ∧ FilledI w g ((List.range n).map fun i => ((k + i : Nat) : Int)) n

theorem OwnedI.grown {w w' : World} {n : Nat} {a : Option Addr} {us : List Int} {row : Option Nat} (h : OwnedI w n a us) (hg : w.grownBy w' row) (hr : ∀ k, row = some k → k < n) : OwnedI w' n a us := by
  rcases h with h | ⟨g, rfl, hn, hf⟩
  · exact Or.inl h
  · exact Or.inr ⟨g, rfl, hn, hf.grown hg (fun e => by have := hr g e.symm; omega)⟩
theorem OwnedI.step {w w' : World} {n : Nat} {a : Option Addr} {us : List Int} (h : OwnedI w n a us) (hb : Below w.heap.size w w') : OwnedI w' n a us :=
  h.grown (grown_bel hb none) (fun k hk => by cases hk)
theorem OwnedI.lt {w : World} {n : Nat} {a : Option Addr} {us : List Int} (h : OwnedI w n a us) : ∀ k, a.map (·.block) = some k → n ≤ k ∧ k < w.heap.size := by
  rcases h with ⟨_, rfl⟩ | ⟨g, rfl, hn, hf⟩
  · intro k hk; cases hk
  · intro k hk; injection hk with hk; subst hk; exact ⟨hn, hf.1⟩
theorem MarkedI.grown {w w' : World} {a : Option Addr} {k n : Nat} {row : Option Nat} (h : MarkedI w a k n) (hg : w.grownBy w' row) (hne : ∀ q, a.map (·.block) = some q → some q ≠ row) : MarkedI w' a k n := by
  rcases h with h | ⟨g, rfl, hf⟩
  · exact Or.inl h
  · exact Or.inr ⟨g, rfl, hf.grown hg (hne g rfl)⟩
theorem MarkedI.step {w w' : World} {a : Option Addr} {k n : Nat} (h : MarkedI w a k n) (hb : Below w.heap.size w w') : MarkedI w' a k n :=
  h.grown (grown_bel hb none) (fun q _ => by simp)

/-- Numbers that can be read: nil and empty, or their cells lie there. -/
def ArgI (w : World) (a : Option Addr) (us : List Int) : Prop := us.length = 0 ∨ ∃ g, a = some ⟨g, 0, none⟩ ∧ g < w.heap.size ∧ ∀ i, i < us.length → w.cell? ⟨g, i, none⟩ = some (.int .i64 (atI us i))
theorem FilledI.arg {w : World} {g : Nat} {us : List Int} (h : FilledI w g us us.length) : ArgI w (some ⟨g, 0, none⟩) us := Or.inr ⟨g, rfl, h.1, h.2.2⟩
theorem OwnedI.arg {w : World} {n : Nat} {a : Option Addr} {us : List Int} (h : OwnedI w n a us) : ArgI w a us := by
  rcases h with ⟨h, _⟩ | ⟨g, rfl, _, hf⟩
  · exact Or.inl h
  · exact hf.arg

end Go.Proofs.Ytokabkhnidlcnab

/-
  Rows of nodes that a call makes by append.
-/
namespace Go.Proofs.Ytokabkhnidlcnab
set_option maxRecDepth 100000
open Go.RowKit

theorem grown_belN {w w' : World} (h : Below w.heap.size w w') (row : Option Nat) : w.grownBy w' row := ⟨h.os, h.tape, h.output, h.size, fun i hi _ => h.block i hi⟩

/-- The cells of a list of nodes. -/
def cellsN (zs : List NodeR) : List Value := zs.flatMap fun o => [.int .i64 o.k, .string o.t, .int .i64 o.a, .int .i64 o.b]

theorem cellsN_append (xs ys : List NodeR) : cellsN (xs ++ ys) = cellsN xs ++ cellsN ys := by simp [cellsN]
theorem cellsN_len : ∀ zs : List NodeR, (cellsN zs).length = zs.length * 4
  | [] => rfl
  | o :: r => by
    have := cellsN_len r
    simp only [cellsN, List.flatMap_cons, List.length_append, List.length_cons, List.length_nil] at *
    omega

theorem cellsN_at : ∀ (zs : List NodeR) (i : Nat), i < zs.length → (cellsN zs)[i * 4]? = some (.int .i64 (atN zs i).k) ∧ (cellsN zs)[i * 4 + 1]? = some (.string (atN zs i).t) ∧ (cellsN zs)[i * 4 + 2]? = some (.int .i64 (atN zs i).a) ∧ (cellsN zs)[i * 4 + 3]? = some (.int .i64 (atN zs i).b)
  | [], i, h => absurd h (Nat.not_lt_zero i)
  | o :: r, 0, _ => ⟨rfl, rfl, rfl, rfl⟩
  | o :: r, i + 1, h => by
    have ih := cellsN_at r i (by simpa using h)
    have e : ∀ j, (cellsN (o :: r))[(i + 1) * 4 + j]? = (cellsN r)[i * 4 + j]? := fun j => by
      have : (i + 1) * 4 + j = (i * 4 + j) + 4 := by omega
      rw [this]
      rfl
    exact ⟨(e 0).trans ih.1, (e 1).trans ih.2.1, (e 2).trans ih.2.2.1, (e 3).trans ih.2.2.2⟩

theorem cellsN_one' (zs : List NodeR) : ∀ u ∈ cellsN zs, u.oneCell' = true := by
  intro u hu
  simp only [cellsN, List.mem_flatMap] at hu
  obtain ⟨o, _, ho⟩ := hu
  simp at ho
  rcases ho with rfl | rfl | rfl | rfl <;> rfl

/-- A row that the call owns, as a filled one. -/
theorem owns_filledN {w : World} {base g cap : Nat} {e : TypeId} {zs : List NodeR} (h : w.ownsRow base e 4 (.slice (some ⟨g, 0, none⟩) zs.length cap) zs.length (cellsN zs)) : base ≤ g ∧ FilledN w g zs zs.length := by
  have hlt := h.lt g rfl
  refine ⟨hlt.1, hlt.2, fun j hj => ⟨?_, h.frozenAt _⟩, fun i hi => ?_⟩
  · rw [h.cellAt (0 + j) (by omega)]
    have : 0 + j < (cellsN zs).length := by rw [cellsN_len]; omega
    rw [List.getElem?_eq_getElem this]
    rfl
  · obtain ⟨c0, c1, c2, c3⟩ := cellsN_at zs i hi
    have e := fun j (hj : j < 4) => h.cellAt (i * 4 + j) (by omega)
    exact ⟨by simpa using (e 0 (by omega)).trans c0, by simpa using (e 1 (by omega)).trans c1, by simpa using (e 2 (by omega)).trans c2, by simpa using (e 3 (by omega)).trans c3⟩

/-- What an owned row's value is, where it is not nil. -/
theorem owns_valueN {w : World} {base n size : Nat} {e : TypeId} {v : Value} {xs : List Value} (h : w.ownsRow base e size v n xs) (hv : v ≠ .slice none 0 0) : ∃ g cap, v = .slice (some ⟨g, 0, none⟩) n cap := by
  obtain ⟨_, h | ⟨g, cap, cur, hv', _⟩⟩ := h
  · exact absurd h.1 hv
  · exact ⟨g, cap, hv'⟩

theorem owns_capN {w : World} {base n size g cap : Nat} {e : TypeId} {xs : List Value} (h : w.ownsRow base e size (.slice (some ⟨g, 0, none⟩) n cap) n xs) : n ≤ cap ∧ cap ≤ maxLen := by
  obtain ⟨_, h | ⟨g', cap', cur, hv', _, _, h1, h2, _⟩⟩ := h
  · simp at h
  · simp only [Value.slice.injEq, Option.some.injEq] at hv'
    obtain ⟨_, _, rfl⟩ := hv'
    exact ⟨h1, h2⟩

/-- A new node in a block of its own. -/
theorem new_newsN (w : World) (o : NodeR) : ∀ j u, (cellsN [o])[j]? = some u → (w.alloc (.cells #[.int .i64 o.k, .string o.t, .int .i64 o.a, .int .i64 o.b] 115)).cell? ((⟨w.heap.size, 0, none⟩ : Addr).add j) = some u := by
  intro j u hj
  rw [Addr.add_mid]
  have := World.rangeAt_of_block (w := w.alloc (.cells #[.int .i64 o.k, .string o.t, .int .i64 o.a, .int .i64 o.b] 115)) (b := w.heap.size) (heap_alloc_new w _) 0 4
  exact this j u (by simpa [cellsN] using hj)

theorem FilledN.arg {w : World} {g : Nat} {us : List NodeR} (h : FilledN w g us us.length) : ArgN w (some ⟨g, 0, none⟩) us := Or.inr ⟨g, 0, rfl, h.ops, h.1⟩

/-- A list of nodes that a call has made: nil and empty, or a row of its own. -/
def OwnedN (w : World) (n : Nat) (a : Option Addr) (us : List NodeR) : Prop := (us.length = 0 ∧ a = none) ∨ ∃ g, a = some ⟨g, 0, none⟩ ∧ n ≤ g ∧ FilledN w g us us.length

theorem OwnedN.arg {w : World} {n : Nat} {a : Option Addr} {us : List NodeR} (h : OwnedN w n a us) : ArgN w a us := by
  rcases h with ⟨h, _⟩ | ⟨g, rfl, _, hf⟩
  · exact Or.inl h
  · exact hf.arg

theorem OwnedN.grown {w w' : World} {n : Nat} {a : Option Addr} {us : List NodeR} {row : Option Nat} (h : OwnedN w n a us) (hg : w.grownBy w' row) (hr : ∀ k, row = some k → k < n) : OwnedN w' n a us := by
  rcases h with h | ⟨g, rfl, hn, hf⟩
  · exact Or.inl h
  · exact Or.inr ⟨g, rfl, hn, hf.grown hg (fun e => by have := hr g e.symm; omega)⟩

theorem OwnedN.step {w w' : World} {n : Nat} {a : Option Addr} {us : List NodeR} (h : OwnedN w n a us) (hb : Below w.heap.size w w') : OwnedN w' n a us :=
  h.grown (grown_belN hb none) (fun k hk => by cases hk)

theorem OwnedN.lt {w : World} {n : Nat} {a : Option Addr} {us : List NodeR} (h : OwnedN w n a us) : ∀ k, a.map (·.block) = some k → n ≤ k ∧ k < w.heap.size := by
  rcases h with ⟨_, rfl⟩ | ⟨g, rfl, hn, hf⟩
  · intro k hk; cases hk
  · intro k hk; injection hk with hk; subst hk; exact ⟨hn, hf.1⟩
end Go.Proofs.Ytokabkhnidlcnab
