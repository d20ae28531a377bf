/-
  What the laws over trees keep in memory: cells of their own variables, rows of nodes.
-/
import Derived.Test.YtokabkhnidlcnabShTree
namespace Go.Proofs.Ytokabkhnidlcnab
set_option maxRecDepth 100000
set_option linter.unusedVariables false
open Go.RowKit

theorem OwnedN.but {w w' : World} {n : Nat} {a : Option Addr} {us : List NodeR} {row : Option Nat} (h : OwnedN w n a us) (hg : w.grownBy w' row) (hr : ∀ q, a.map (·.block) = some q → some q ≠ row) : OwnedN w' n a us := by
  rcases h with h | ⟨g, rfl, hn, hf⟩
  · exact Or.inl h
  · exact Or.inr ⟨g, rfl, hn, hf.grown hg (hr g rfl)⟩

theorem OwnedN.le {w : World} {n n' : Nat} {a : Option Addr} {us : List NodeR} (h : OwnedN w n a us) (hn : n' ≤ n) : OwnedN w n' a us := by
  rcases h with h | ⟨g, rfl, h1, h2⟩
  · exact Or.inl h
  · exact Or.inr ⟨g, rfl, by omega, h2⟩

/-- Variables of one cell, rows of nodes; nothing that was there has turned. -/
structure StT (w wc : World) (cs : List (Nat × Value)) (rs : List (Option Addr × List NodeR)) : Prop where
  cells : ∀ p ∈ cs, wc.cell? ⟨p.1, 0, none⟩ = some p.2
  rows : ∀ r ∈ rs, OwnedN wc 0 r.1 r.2
  bel : Below w.heap.size w wc

theorem StT.start (w : World) : StT w w [] [] := ⟨fun p hp => (by cases hp), fun r hr => (by cases hr), Below.refl _ _⟩

theorem StT.grown {w wc w' : World} {cs : List (Nat × Value)} {rs : List (Option Addr × List NodeR)} {row : Option Nat} (h : StT w wc cs rs) (hg : wc.grownBy w' row) (hr : ∀ k, row = some k → w.heap.size ≤ k ∧ (∀ p ∈ cs, p.1 ≠ k) ∧ ∀ r ∈ rs, r.1.map (·.block) ≠ some k) : StT w w' cs rs := by
  refine ⟨fun p hp => ?_, fun r hrs => ?_, h.bel.grown hg h.bel.size (fun k hk => (hr k hk).1)⟩
  · exact hg.cell (h.cells p hp) (fun e => (hr p.1 e.symm).2.1 p hp rfl)
  · exact (h.rows r hrs).but hg (fun q hq e => (hr q e.symm).2.2 r hrs hq)

theorem StT.step {w wc w' : World} {cs : List (Nat × Value)} {rs : List (Option Addr × List NodeR)} (h : StT w wc cs rs) (hb : Below wc.heap.size wc w') : StT w w' cs rs :=
  h.grown (grown_belN hb none) (fun k hk => by cases hk)

theorem StT.drew {w wc : World} {cs : List (Nat × Value)} {rs : List (Option Addr × List NodeR)} (h : StT w wc cs rs) : StT w wc.drew cs rs := h.step (Below.refl _ _).drew

theorem StT.addc {w wc : World} {cs : List (Nat × Value)} {rs : List (Option Addr × List NodeR)} (h : StT w wc cs rs) {b : Nat} {v : Value} (hc : wc.cell? ⟨b, 0, none⟩ = some v) : StT w wc ((b, v) :: cs) rs :=
  ⟨fun p hp => by rcases List.mem_cons.1 hp with rfl | hp
                  · exact hc
                  · exact h.cells p hp, h.rows, h.bel⟩

theorem StT.addr {w wc : World} {cs : List (Nat × Value)} {rs : List (Option Addr × List NodeR)} (h : StT w wc cs rs) {n : Nat} {a : Option Addr} {us : List NodeR} (hf : OwnedN wc n a us) : StT w wc cs ((a, us) :: rs) :=
  ⟨h.cells, fun r hr => by rcases List.mem_cons.1 hr with rfl | hr
                           · exact hf.le (Nat.zero_le _)
                           · exact h.rows r hr, h.bel⟩

theorem StT.alloc {w wc : World} {cs : List (Nat × Value)} {rs : List (Option Addr × List NodeR)} (h : StT w wc cs rs) (v : Value) (t : TypeId) : StT w (wc.alloc (.cells #[v] t)) ((wc.heap.size, v) :: cs) rs :=
  (h.step (below1 _ _)).addc (by simp [go_sem])

theorem StT.sub {w wc : World} {cs cs' : List (Nat × Value)} {rs rs' : List (Option Addr × List NodeR)} (h : StT w wc cs rs) (hc : ∀ p ∈ cs', p ∈ cs) (hr : ∀ r ∈ rs', r ∈ rs) : StT w wc cs' rs' :=
  ⟨fun p hp => h.cells p (hc p hp), fun r hp => h.rows r (hr r hp), h.bel⟩

theorem StT.lt {w wc : World} {cs : List (Nat × Value)} {rs : List (Option Addr × List NodeR)} (h : StT w wc cs rs) : ∀ p ∈ cs, p.1 < wc.heap.size :=
  fun p hp => block_lt_of_cell (h.cells p hp)

theorem FilledN.owned {w : World} {n g : Nat} {us : List NodeR} (h : FilledN w g us us.length) (hn : n ≤ g) : OwnedN w n (some ⟨g, 0, none⟩) us := Or.inr ⟨g, rfl, hn, h⟩

/-- A copy of an argument's tree, made in whatever world. -/
theorem toTree_in {w : World} (a : Option Addr) (cap : Nat) (xs : List NodeR) (W : World) (hm : xs.length ≤ 1048576) (ha : ArgN w a xs) (hb : Below w.heap.size w W) :
    Calls Try.prog 33 #[.agg #[.slice a xs.length cap]] W fun e w' => (∃ g, e = .returned (.agg #[.slice (some ⟨g, 0, none⟩) xs.length xs.length]) ∧ W.heap.size ≤ g ∧ g < w'.heap.size ∧ Hid (FilledN w' g xs xs.length)) ∧ Below W.heap.size W w' := by
  refine (toTree_any a cap xs W hm (ha.below hb)).mono ?_
  rintro e w' ⟨⟨g, rfl, hg, hf⟩, hb'⟩
  exact ⟨⟨g, rfl, hg, hf.1, hide hf⟩, hb'⟩
end Go.Proofs.Ytokabkhnidlcnab
