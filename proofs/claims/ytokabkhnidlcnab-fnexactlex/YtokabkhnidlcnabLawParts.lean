/-
  What the laws keep in memory: cells of their own variables, rows of operators, rows of tokens; marks in them.
-/
import Derived.Test.YtokabkhnidlcnabMarkOps
import Derived.Test.YtokabkhnidlcnabShToken
import Derived.Test.YtokabkhnidlcnabTokRow
namespace Go.Proofs.Ytokabkhnidlcnab
set_option maxRecDepth 100000
open Go.RowKit

theorem Filled.grownW {w w' : World} {g k : Nat} {xs : List OpR} {row : Option Nat} (h : Filled w g xs k) (hg : w.grownBy w' row) (hne : some g ≠ row) : Filled w' g xs k := by
  obtain ⟨h1, h2, h3⟩ := h
  have hb := hg.block g h1 hne
  have e : ∀ o, w'.cell? ⟨g, o, none⟩ = w.cell? ⟨g, o, none⟩ := fun o => World.cell?_of_block (w := w) hb
  have f : ∀ o, w'.frozen? ⟨g, o, none⟩ = w.frozen? ⟨g, o, none⟩ := fun o => World.frozen?_of_block (w := w) hb
  refine ⟨Nat.lt_of_lt_of_le h1 hg.size, fun j hj => ⟨by rw [e]; exact (h2 j hj).1, by rw [f]; exact (h2 j hj).2⟩, fun i hi => ?_⟩
  obtain ⟨a0, a1, a2, a3⟩ := h3 i hi
  exact ⟨(e _).trans a0, (e _).trans a1, (e _).trans a2, (e _).trans a3⟩

set_option maxHeartbeats 1000000 in
theorem markTableF (g cap k : Nat) (xs : List OpR) (w : World) (hm : xs.length ≤ 1048576) (h1 : 1 ≤ k) (hk : k ≤ 10000000) (hf : Filled w g xs xs.length) :
    Calls Try.prog 15 #[.agg #[.slice (some ⟨g, 0, none⟩) xs.length cap], .int .i64 (k : Int)] w fun e w' => (∃ k' : Nat, e = .returned (.int .i64 (k' : Int)) ∧ Hid (k' = k + 4 * xs.length)) ∧ w.grownBy w' (some g) := by
  have HF := hide (fun o => hf.below (below1 w o) hf.1)
  clear hf
  go_enter Try.func15, Try.ntmps15
  go_wp2_with fail
  refine (markOpS_any g cap k xs _ hm h1 hk (unhide HF _)).mono ?_
  rintro e w1 ⟨rfl, _, hk1⟩
  have HK1 := hide hk1
  clear hk1
  go_wp2_with fail
  go_ret
  exact ⟨⟨_, rfl, hide rfl⟩, grown_kept1 ((Kept1.of_below (below1 _ _)).trans (unhide HK1))⟩

theorem markTable1 (g cap : Nat) (xs : List OpR) (w : World) (hm : xs.length ≤ 1048576) (hf : Filled w g xs xs.length) :
    Calls Try.prog 15 #[.agg #[.slice (some ⟨g, 0, none⟩) xs.length cap], .int .i64 1] w fun e w' => (∃ k' : Nat, e = .returned (.int .i64 (k' : Int)) ∧ Hid (k' = 1 + 4 * xs.length)) ∧ w.grownBy w' (some g) :=
  markTableF g cap 1 xs w hm (Nat.le_refl _) (by omega) hf

theorem Filled.argW {w : World} {g : Nat} {us : List OpR} (h : Filled w g us us.length) : Arg w (some ⟨g, 0, none⟩) us := Or.inr ⟨g, 0, rfl, h.ops, h.1⟩
/-- A marked list of tokens. -/
def MarkedT (w : World) (a : Option Addr) (k n : Nat) : Prop := (n = 0 ∧ a = none) ∨ ∃ g, a = some ⟨g, 0, none⟩ ∧ FilledT w g (mksT k n) n

theorem MarkedT.grown {w w' : World} {a : Option Addr} {k n : Nat} {row : Option Nat} (h : MarkedT w a k n) (hg : w.grownBy w' row) (hne : ∀ q, a.map (·.block) = some q → some q ≠ row) : MarkedT w' a k n := by
  rcases h with h | ⟨g, rfl, hf⟩
  · exact Or.inl h
  · exact Or.inr ⟨g, rfl, hf.grown hg (hne g rfl)⟩

theorem MarkedT.step {w w' : World} {a : Option Addr} {k n : Nat} (h : MarkedT w a k n) (hb : Below w.heap.size w w') : MarkedT w' a k n :=
  h.grown (grown_bel hb none) (fun q _ => by simp)

set_option maxHeartbeats 1000000 in
theorem markTS_own (a : Option Addr) (cap n0 : Nat) (xs : List TokR) (w : World) (hm : xs.length ≤ 1048576) (h : OwnedT w n0 a xs) :
    Calls Try.prog 20 #[.slice a xs.length cap, .int .i64 1] w fun e w' => (∃ k' : Nat, e = .returned (.int .i64 (k' : Int)) ∧ Hid (k' = 1 + 3 * xs.length)) ∧ Hid (MarkedT w' a 1 xs.length) ∧ w.grownBy w' (a.map (·.block)) := by
  rcases h with ⟨h0, rfl⟩ | ⟨g, rfl, _, hf⟩
  · obtain rfl := List.eq_nil_of_length_eq_zero h0
    go_enter Try.func20, Try.ntmps20
    go_wp2
    refine wp_loop_rounds 1 ?_
    rw [rounds_succ]
    go_wp2
    go_ret
    exact ⟨⟨1, rfl, hide rfl⟩, hide (Or.inl ⟨rfl, rfl⟩), grown_bel (Below.refl _ _) _⟩
  · refine (markTS_any g cap 1 xs w hm (Nat.le_refl _) (by omega) hf).mono ?_
    rintro e w1 ⟨⟨k', rfl, hk'⟩, hf1, hk1⟩
    exact ⟨⟨k', rfl, hk'⟩, hide (Or.inr ⟨g, rfl, unhide hf1⟩), (unhide hk1).grown⟩

set_option maxHeartbeats 1000000 in
theorem heldTS_own (a : Option Addr) (cap n : Nat) (w : World) (hm : n ≤ 1048576) (h : MarkedT w a 1 n) :
    Calls Try.prog 21 #[.slice a n cap, .int .i64 1] w fun e w' => (∃ k' : Nat, e = .returned (.int .i64 (k' : Int)) ∧ Hid (k' = 1 + 3 * n)) ∧ Below w.heap.size w w' := by
  rcases h with ⟨rfl, rfl⟩ | ⟨g, rfl, hf⟩
  · go_enter Try.func21, Try.ntmps21
    go_wp2
    refine wp_loop_rounds 1 ?_
    rw [rounds_succ]
    go_wp2
    go_ret
    exact ⟨⟨1, rfl, hide rfl⟩, Below.refl _ _⟩
  · exact heldTS_any g cap 1 n w hm (Nat.le_refl _) (by omega) hf

/-- Variables of one cell, rows of operators, rows of tokens; nothing that was there has turned. -/
structure StL (w wc : World) (cs : List (Nat × Value)) (rs : List (Nat × List OpR)) (ts : List (Nat × List TokR)) : Prop where
  cells : ∀ p ∈ cs, wc.cell? ⟨p.1, 0, none⟩ = some p.2
  rows : ∀ r ∈ rs, Filled wc r.1 r.2 r.2.length
  toks : ∀ r ∈ ts, FilledT wc r.1 r.2 r.2.length
  bel : Below w.heap.size w wc

theorem StL.start (w : World) : StL w w [] [] [] := ⟨fun p hp => (by cases hp), fun r hr => (by cases hr), fun r hr => (by cases hr), Below.refl _ _⟩

theorem StL.grown {w wc w' : World} {cs : List (Nat × Value)} {rs : List (Nat × List OpR)} {ts : List (Nat × List TokR)} {row : Option Nat} (h : StL w wc cs rs ts) (hg : wc.grownBy w' row) (hr : ∀ k, row = some k → w.heap.size ≤ k ∧ (∀ p ∈ cs, p.1 ≠ k) ∧ (∀ r ∈ rs, r.1 ≠ k) ∧ ∀ r ∈ ts, r.1 ≠ k) : StL w w' cs rs ts := by
  refine ⟨fun p hp => ?_, fun r hrs => ?_, fun r hrs => ?_, h.bel.grown hg h.bel.size (fun k hk => (hr k hk).1)⟩
  · exact hg.cell (h.cells p hp) (fun e => (hr p.1 e.symm).2.1 p hp rfl)
  · exact (h.rows r hrs).grownW hg (fun e => (hr r.1 e.symm).2.2.1 r hrs rfl)
  · exact (h.toks r hrs).grown hg (fun e => (hr r.1 e.symm).2.2.2 r hrs rfl)

theorem StL.step {w wc w' : World} {cs : List (Nat × Value)} {rs : List (Nat × List OpR)} {ts : List (Nat × List TokR)} (h : StL w wc cs rs ts) (hb : Below wc.heap.size wc w') : StL w w' cs rs ts :=
  h.grown (grown_bel hb none) (fun k hk => by cases hk)

theorem StL.drew {w wc : World} {cs : List (Nat × Value)} {rs : List (Nat × List OpR)} {ts : List (Nat × List TokR)} (h : StL w wc cs rs ts) : StL w wc.drew cs rs ts := h.step (Below.refl _ _).drew

theorem StL.addc {w wc : World} {cs : List (Nat × Value)} {rs : List (Nat × List OpR)} {ts : List (Nat × List TokR)} (h : StL w wc cs rs ts) {b : Nat} {v : Value} (hc : wc.cell? ⟨b, 0, none⟩ = some v) : StL w wc ((b, v) :: cs) rs ts :=
  ⟨fun p hp => by rcases List.mem_cons.1 hp with rfl | hp
                  · exact hc
                  · exact h.cells p hp, h.rows, h.toks, h.bel⟩

theorem StL.addr {w wc : World} {cs : List (Nat × Value)} {rs : List (Nat × List OpR)} {ts : List (Nat × List TokR)} (h : StL w wc cs rs ts) {g : Nat} {xs : List OpR} (hf : Filled wc g xs xs.length) : StL w wc cs ((g, xs) :: rs) ts :=
  ⟨h.cells, fun r hr => by rcases List.mem_cons.1 hr with rfl | hr
                           · exact hf
                           · exact h.rows r hr, h.toks, h.bel⟩

theorem StL.addt {w wc : World} {cs : List (Nat × Value)} {rs : List (Nat × List OpR)} {ts : List (Nat × List TokR)} (h : StL w wc cs rs ts) {g : Nat} {xs : List TokR} (hf : FilledT wc g xs xs.length) : StL w wc cs rs ((g, xs) :: ts) :=
  ⟨h.cells, h.rows, fun r hr => by rcases List.mem_cons.1 hr with rfl | hr
                                   · exact hf
                                   · exact h.toks r hr, h.bel⟩

theorem StL.alloc {w wc : World} {cs : List (Nat × Value)} {rs : List (Nat × List OpR)} {ts : List (Nat × List TokR)} (h : StL w wc cs rs ts) (v : Value) (t : TypeId) : StL w (wc.alloc (.cells #[v] t)) ((wc.heap.size, v) :: cs) rs ts :=
  (h.step (below1 _ _)).addc (by simp [go_sem])

theorem StL.sub {w wc : World} {cs cs' : List (Nat × Value)} {rs rs' : List (Nat × List OpR)} {ts ts' : List (Nat × List TokR)} (h : StL w wc cs rs ts) (hc : ∀ p ∈ cs', p ∈ cs) (hr : ∀ r ∈ rs', r ∈ rs) (ht : ∀ r ∈ ts', r ∈ ts) : StL w wc cs' rs' ts' :=
  ⟨fun p hp => h.cells p (hc p hp), fun r hp => h.rows r (hr r hp), fun r hp => h.toks r (ht r hp), h.bel⟩

theorem StL.lt {w wc : World} {cs : List (Nat × Value)} {rs : List (Nat × List OpR)} {ts : List (Nat × List TokR)} (h : StL w wc cs rs ts) : (∀ p ∈ cs, p.1 < wc.heap.size) ∧ (∀ r ∈ rs, r.1 < wc.heap.size) ∧ ∀ r ∈ ts, r.1 < wc.heap.size :=
  ⟨fun p hp => block_lt_of_cell (h.cells p hp), fun r hr => (h.rows r hr).1, fun r hr => (h.toks r hr).1⟩

/-- A copy of an argument's table, made in whatever world. -/
theorem toTable_inL {w : World} (a : Option Addr) (cap : Nat) (xs : List OpR) (W : World) (hm : xs.length ≤ 1048576) (ha : Arg w a xs) (hb : Below w.heap.size w W) :
    Calls Try.prog 12 #[.agg #[.slice a xs.length cap]] W fun e w' => (∃ g, e = .returned (.agg #[.slice (some ⟨g, 0, none⟩) xs.length xs.length]) ∧ W.heap.size ≤ g ∧ Hid (Filled w' g xs xs.length)) ∧ Below W.heap.size W w' := by
  refine (toTable_any a cap xs W hm (ha.below hb)).mono ?_
  rintro e w' ⟨⟨g, rfl, hg, hf⟩, hb'⟩
  exact ⟨⟨g, rfl, hg, hide hf⟩, hb'⟩

end Go.Proofs.Ytokabkhnidlcnab
