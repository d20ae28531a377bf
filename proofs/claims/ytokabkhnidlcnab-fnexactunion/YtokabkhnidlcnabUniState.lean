/-
  What a law keeps in memory: cells of its own variables, rows of its own lists.
-/
import Derived.Test.YtokabkhnidlcnabUniParts
namespace Go.Proofs.Ytokabkhnidlcnab
set_option maxRecDepth 100000
open Go.RowKit Go.Maps

/-- Variables of one cell, rows of operators; nothing that was there has turned. -/
structure Stt (w wc : World) (cs : List (Nat × Value)) (rs : List (Nat × List OpR)) : Prop where
  cells : ∀ p ∈ cs, wc.cell? ⟨p.1, 0, none⟩ = some p.2
  rows : ∀ r ∈ rs, Filled wc r.1 r.2 r.2.length
  bel : Below w.heap.size w wc

theorem Stt.grown {w wc w' : World} {cs : List (Nat × Value)} {rs : List (Nat × List OpR)} {row : Option Nat} (h : Stt w wc cs rs) (hg : wc.grownBy w' row) (hr : ∀ k, row = some k → w.heap.size ≤ k ∧ (∀ p ∈ cs, p.1 ≠ k) ∧ ∀ r ∈ rs, r.1 ≠ k) : Stt w w' cs rs := by
  refine ⟨fun p hp => ?_, fun r hrs => ?_, h.bel.grown hg h.bel.size (fun k hk => (hr k hk).1)⟩
  · exact hg.cell (h.cells p hp) (fun e => (hr p.1 e.symm).2.1 p hp rfl)
  · exact (h.rows r hrs).grown hg (fun e => (hr r.1 e.symm).2.2 r hrs rfl)

theorem Stt.step {w wc w' : World} {cs : List (Nat × Value)} {rs : List (Nat × List OpR)} (h : Stt w wc cs rs) (hb : Below wc.heap.size wc w') : Stt w w' cs rs :=
  h.grown (grown_of_below hb none) (fun k hk => by cases hk)

theorem Stt.addc {w wc : World} {cs : List (Nat × Value)} {rs : List (Nat × List OpR)} (h : Stt w wc cs rs) {b : Nat} {v : Value} (hc : wc.cell? ⟨b, 0, none⟩ = some v) : Stt w wc ((b, v) :: cs) rs :=
  ⟨fun p hp => by rcases List.mem_cons.1 hp with rfl | hp
                  · exact hc
                  · exact h.cells p hp, h.rows, h.bel⟩

theorem Stt.addr {w wc : World} {cs : List (Nat × Value)} {rs : List (Nat × List OpR)} (h : Stt w wc cs rs) {g : Nat} {xs : List OpR} (hf : Filled wc g xs xs.length) : Stt w wc cs ((g, xs) :: rs) :=
  ⟨h.cells, fun r hr => by rcases List.mem_cons.1 hr with rfl | hr
                           · exact hf
                           · exact h.rows r hr, h.bel⟩

theorem Stt.alloc {w wc : World} {cs : List (Nat × Value)} {rs : List (Nat × List OpR)} (h : Stt w wc cs rs) (v : Value) (t : TypeId) : Stt w (wc.alloc (.cells #[v] t)) ((wc.heap.size, v) :: cs) rs :=
  (h.step (below1 _ _)).addc (by simp [go_sem])

theorem Stt.drew {w wc : World} {cs : List (Nat × Value)} {rs : List (Nat × List OpR)} (h : Stt w wc cs rs) : Stt w wc.drew cs rs := h.step (Below.refl _ _).drew

theorem Stt.sub {w wc : World} {cs cs' : List (Nat × Value)} {rs rs' : List (Nat × List OpR)} (h : Stt w wc cs rs) (hc : ∀ p ∈ cs', p ∈ cs) (hr : ∀ r ∈ rs', r ∈ rs) : Stt w wc cs' rs' :=
  ⟨fun p hp => h.cells p (hc p hp), fun r hp => h.rows r (hr r hp), h.bel⟩

theorem Stt.lt {w wc : World} {cs : List (Nat × Value)} {rs : List (Nat × List OpR)} (h : Stt w wc cs rs) : (∀ p ∈ cs, p.1 < wc.heap.size) ∧ ∀ r ∈ rs, r.1 < wc.heap.size :=
  ⟨fun p hp => block_lt_of_cell (h.cells p hp), fun r hr => (h.rows r hr).1⟩

theorem Arg.of_bel {w wc : World} {a : Option Addr} {xs : List OpR} (h : Arg w a xs) (hb : Below w.heap.size w wc) : Arg wc a xs := h.below hb

theorem Owned.grown {w w' : World} {n : Nat} {a : Option Addr} {us : List OpR} {row : Option Nat} (h : Owned w n a us) (hg : w.grownBy w' row) (hr : ∀ k, row = some k → k < n) : Owned w' n a us := by
  rcases h with h | ⟨g, rfl, hn, hf⟩
  · exact Or.inl h
  · exact Or.inr ⟨g, rfl, hn, hf.grown hg (fun e => by have := hr g e.symm; omega)⟩

theorem Owned.le {w : World} {n n' : Nat} {a : Option Addr} {us : List OpR} (h : Owned w n a us) (hn : n' ≤ n) : Owned w n' a us := by
  rcases h with h | ⟨g, rfl, h1, h2⟩
  · exact Or.inl h
  · exact Or.inr ⟨g, rfl, by omega, h2⟩

theorem Owned.step {w w' : World} {n : Nat} {a : Option Addr} {us : List OpR} (h : Owned w n a us) (hb : Below w.heap.size w w') : Owned w' n a us :=
  h.grown (grown_of_below hb none) (fun k hk => by cases hk)

theorem Owned.lt {w : World} {n : Nat} {a : Option Addr} {us : List OpR} (h : Owned w n a us) : ∀ k, a.map (·.block) = some k → n ≤ k ∧ k < w.heap.size := by
  rcases h with ⟨_, rfl⟩ | ⟨g, rfl, hn, hf⟩
  · intro k hk; cases hk
  · intro k hk; injection hk with hk; subst hk; exact ⟨hn, hf.1⟩

theorem Marked.step {w w' : World} {a : Option Addr} {k n : Nat} (h : Marked w a k n) (hb : Below w.heap.size w w') : Marked w' a k n := by
  rcases h with h | ⟨g, rfl, hf⟩
  · exact Or.inl h
  · exact Or.inr ⟨g, rfl, hf.grown (grown_of_below hb none) (by simp)⟩

theorem Stt.store {w wc : World} {cs : List (Nat × Value)} {rs : List (Nat × List OpR)} (h : Stt w wc cs rs) {b : Nat} {u : Value} (v : Value) (hc : wc.cell? ⟨b, 0, none⟩ = some u) (hn : w.heap.size ≤ b) (h1 : ∀ p ∈ cs, p.1 ≠ b) (h2 : ∀ r ∈ rs, r.1 ≠ b) : Stt w (wc.setCell ⟨b, 0, none⟩ v) ((b, v) :: cs) rs := by
  have hg : wc.grownBy (wc.setCell ⟨b, 0, none⟩ v) (some b) := ⟨rfl, rfl, rfl, by simp [World.setCell], fun i _ hi => Below.heap_setCell _ _ _ _ (fun e => hi (by rw [e]))⟩
  refine (h.grown hg (fun k hk => ?_)).addc (World.cell?_setCell_same _ _ _ hc)
  injection hk with hk
  subst hk
  exact ⟨hn, h1, h2⟩

/-- A copy of an argument's table, made in whatever world. -/
theorem toTable_in {w : World} (a : Option Addr) (cap : Nat) (xs : List OpR) (W : World) (hm : xs.length ≤ 1048576) (ha : Arg w a xs) (hb : Below w.heap.size w W) :
    Calls Try.prog 12 #[.agg #[.slice a xs.length cap]] W fun e w' => (∃ g, e = .returned (.agg #[.slice (some ⟨g, 0, none⟩) xs.length xs.length]) ∧ W.heap.size ≤ g ∧ Hid (Filled w' g xs xs.length)) ∧ Below W.heap.size W w' ∧ Below w.heap.size w w' ∧ W.heap.size < w'.heap.size := by
  refine (toTable_any a cap xs W hm (ha.of_bel hb)).mono ?_
  rintro e w' ⟨⟨g, rfl, hg, hf⟩, hb'⟩
  exact ⟨⟨g, rfl, hg, hide hf⟩, hb', hb.trans (hb'.mono hb.size), Nat.lt_of_le_of_lt hg hf.1⟩

theorem specUnion_us {w : World} (g g' c c' : Nat) (xs ys us : List OpR) (HUS : Hid (us = uniTo (xs ++ ys) (xs ++ ys).length)) (W : World) (hm : xs.length + ys.length ≤ 1048576) (hx : Filled W g xs xs.length) (hy : Filled W g' ys ys.length) (hb : Below w.heap.size w W) :
    Calls Try.prog 11 #[.agg #[.slice (some ⟨g, 0, none⟩) xs.length c], .agg #[.slice (some ⟨g', 0, none⟩) ys.length c']] W fun e w' => (∃ h cap, e = .returned (.agg #[.slice (some ⟨h, 0, none⟩) us.length cap]) ∧ W.heap.size ≤ h ∧ Hid (Filled w' h us us.length)) ∧ Below W.heap.size W w' ∧ Below w.heap.size w w' ∧ W.heap.size < w'.heap.size := by
  refine (specUnion_any g g' c c' xs ys W hm hx.ops hy.ops hx.1 hy.1).mono ?_
  rintro e w' ⟨⟨h, cap, rfl, hh, hf⟩, hb'⟩
  rw [← unhide HUS] at hf ⊢
  exact ⟨⟨h, cap, rfl, hh, hide hf⟩, hb', hb.trans (hb'.mono hb.size), Nat.lt_of_le_of_lt hh hf.1⟩

theorem implUnion_us {w : World} (g g' c c' : Nat) (xs ys us : List OpR) (HUS : Hid (us = uniTo (xs ++ ys) (xs ++ ys).length)) (W : World) (hm : xs.length + ys.length ≤ 1048576) (hx : Filled W g xs xs.length) (hy : Filled W g' ys ys.length) (hb : Below w.heap.size w W) (hf : Hid (∀ i, i < (xs ++ ys).length → Fine (atO (xs ++ ys) i))) :
    Calls Try.prog 13 #[.agg #[.slice (some ⟨g, 0, none⟩) xs.length c], .agg #[.slice (some ⟨g', 0, none⟩) ys.length c']] W fun e w' => (∃ a cap, e = .returned (.agg #[.slice a us.length cap]) ∧ Hid (Owned w' W.heap.size a us)) ∧ Below W.heap.size W w' ∧ Below w.heap.size w w' := by
  refine (implUnion_any g g' c c' xs ys W hm hx.ops hy.ops hx.1 hy.1 hf).mono ?_
  rintro e w' ⟨⟨a, cap, rfl, hf⟩, hb'⟩
  rw [← unhide HUS] at hf ⊢
  exact ⟨⟨a, cap, rfl, hide hf⟩, hb', hb.trans (hb'.mono hb.size)⟩

theorem markTable_in (a : Option Addr) (cap k n0 : Nat) (xs : List OpR) (w : World) (hm : xs.length ≤ 1048576) (h1 : 1 ≤ k) (hk : k ≤ 10000000) (h : Owned w n0 a xs) :
    Calls Try.prog 15 #[.agg #[.slice a xs.length cap], .int .i64 (k : Int)] w fun e w' => (∃ k' : Nat, e = .returned (.int .i64 (k' : Int)) ∧ Hid (k' = k + 4 * xs.length)) ∧ Hid (Marked w' a k xs.length) ∧ w.grownBy w' (a.map (·.block)) := by
  refine (markTable_any a cap k n0 xs w hm h1 hk h).mono ?_
  rintro e w' ⟨rfl, hM, hg⟩
  exact ⟨⟨_, rfl, hide rfl⟩, hide hM, hg⟩

theorem markTable_one (a : Option Addr) (cap n0 : Nat) (xs : List OpR) (w : World) (hm : xs.length ≤ 1048576) (h : Owned w n0 a xs) :
    Calls Try.prog 15 #[.agg #[.slice a xs.length cap], .int .i64 1] w fun e w' => (∃ k' : Nat, e = .returned (.int .i64 (k' : Int)) ∧ Hid (k' = 1 + 4 * xs.length)) ∧ Hid (Marked w' a 1 xs.length) ∧ w.grownBy w' (a.map (·.block)) :=
  markTable_in a cap 1 n0 xs w hm (Nat.le_refl _) (by omega) h

theorem heldTable_one (a : Option Addr) (cap n : Nat) (w : World) (hm : n ≤ 1048576) (h : Marked w a 1 n) :
    Calls Try.prog 16 #[.agg #[.slice a n cap], .int .i64 1] w fun e w' => (∃ k' : Nat, e = .returned (.int .i64 (k' : Int)) ∧ Hid (k' = 1 + 4 * n)) ∧ Below w.heap.size w w' := by
  refine (heldTable_any a cap 1 n w hm (Nat.le_refl _) (by omega) h).mono ?_
  rintro e w' ⟨rfl, hb⟩
  exact ⟨⟨_, rfl, hide rfl⟩, hb⟩

theorem Marked.grown {w w' : World} {a : Option Addr} {k n : Nat} {row : Option Nat} (h : Marked w a k n) (hg : w.grownBy w' row) (hne : ∀ q, a.map (·.block) = some q → some q ≠ row) : Marked w' a k n := by
  rcases h with h | ⟨g, rfl, hf⟩
  · exact Or.inl h
  · exact Or.inr ⟨g, rfl, hf.grown hg (hne g rfl)⟩

theorem grown_setCell (w : World) (b o : Nat) (v : Value) : w.grownBy (w.setCell ⟨b, o, none⟩ v) (some b) :=
  ⟨rfl, rfl, rfl, by simp [World.setCell], fun i _ hi => Below.heap_setCell _ _ _ _ (fun e => hi (by rw [e]))⟩

theorem Filled.owned {w : World} {g n : Nat} {us : List OpR} (h : Filled w g us us.length) (hn : n ≤ g) : Owned w n (some ⟨g, 0, none⟩) us := Or.inr ⟨g, rfl, hn, h⟩
end Go.Proofs.Ytokabkhnidlcnab
