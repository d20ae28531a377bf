import Derived.Deep.RegionHeld
import Derived.Test.YtokabkhnidlcnabG06
import Derived.Test.YtokabkhnidlcnabG20

/-
  The helpers of the laws over trees; rows of nodes that a call has made; marks in them.
-/
namespace Go.Proofs.Ytokabkhnidlcnab
set_option maxRecDepth 100000
open Go.RowKit

theorem szTree_any (a : Option Addr) (cap : Nat) (xs : List NodeR) (left : Int) (w : World) (hm : xs.length ≤ maxLen) (hw : ArgN w a xs) (hs : SizedN xs) (hl0 : 0 ≤ left) (hl1 : left ≤ 1048576) :
    Calls Try.prog 31 #[.agg #[.slice a xs.length cap], .int .i64 left] w fun e w' => (∃ r, e = .returned (.int .i64 r) ∧ LeftN left r xs) ∧ Below w.heap.size w w' := by
  have HW := hide (fun o => hw.alloc o)
  clear hw
  go_enter Try.func31, Try.ntmps31
  go_wp2_with fail
  refine (szNS_any _ _ _ _ _ hm (unhide HW _) hs hl0 hl1).mono ?_
  rintro e w1 ⟨⟨r, rfl, hr⟩, hb⟩
  have HR := hide hr
  clear hr
  by_cases hr0 : r < 0
  · go_wp2_with fail
    go_ret
    exact ⟨⟨-1, rfl, Or.inl (by omega)⟩, (below1 _ _).trans (hb.mono (by simp))⟩
  · go_wp2_with fail
    go_ret
    exact ⟨⟨r, rfl, unhide HR⟩, (below1 _ _).trans (hb.mono (by simp))⟩

set_option maxHeartbeats 1000000 in
theorem toTree_any (a : Option Addr) (cap : Nat) (xs : List NodeR) (w : World) (hm : xs.length ≤ 1048576) (hw : ArgN w a xs) :
    Calls Try.prog 33 #[.agg #[.slice a xs.length cap]] w fun e w' => (∃ g, e = .returned (.agg #[.slice (some ⟨g, 0, none⟩) xs.length xs.length]) ∧ w.heap.size ≤ g ∧ FilledN w' g xs xs.length) ∧ Below w.heap.size w w' := by
  have HW := hide hw
  clear hw
  go_enter Try.func33, Try.ntmps33
  go_wp2_with fail
  refine (toNS_any _ _ _ _ hm ((((unhide HW).alloc _).alloc _).alloc _)).mono ?_
  rintro e w1 ⟨⟨g, rfl, hg, hfil⟩, hb⟩
  obtain ⟨hc, hf⟩ := bcell hb
  have hz : w.heap.size + 2 < w1.heap.size := by have := hb.size; simp at this; omega
  have hgs : w.heap.size + 3 ≤ g := by simpa using hg
  have HF := hide hfil
  clear hfil hg
  go_wp2_with fail
  refine bodyPost_ret (v := .agg #[.slice (some ⟨g, 0, none⟩) xs.length xs.length]) (by simp [results, Try.results33, go_sem, hc]) rfl ⟨⟨g, rfl, by omega, ?_⟩, ?_⟩
  · exact ((unhide HF).setCell _ _ _ (by simp; omega)).setCell _ _ _ (by simp; omega)
  · exact (((((below1 _ _).alloc (by simp) _).alloc (by simp; omega) _).trans (hb.mono (by simp; omega))).setCell (by simp; omega) _).setCell (by simp) _

/-- A marked list of nodes. -/
def MarkedN (w : World) (a : Option Addr) (k n : Nat) : Prop := (n = 0 ∧ a = none) ∨ ∃ g, a = some ⟨g, 0, none⟩ ∧ FilledN w g (mksN k n) n

theorem MarkedN.grown {w w' : World} {a : Option Addr} {k n : Nat} {row : Option Nat} (h : MarkedN w a k n) (hg : w.grownBy w' row) (hne : ∀ q, a.map (·.block) = some q → some q ≠ row) : MarkedN w' a k n := by
  rcases h with h | ⟨g, rfl, hf⟩
  · exact Or.inl h
  · exact Or.inr ⟨g, rfl, hf.grown hg (hne g rfl)⟩

theorem MarkedN.step {w w' : World} {a : Option Addr} {k n : Nat} (h : MarkedN w a k n) (hb : Below w.heap.size w w') : MarkedN w' a k n :=
  h.grown (grown_belN hb none) (fun q _ => by simp)

set_option maxHeartbeats 400000 in
theorem eqTree_arg (a a' : Option Addr) (cap cap' : Nat) (xs : List NodeR) (w : World) (hm : xs.length ≤ 1048576) (h : ArgN w a xs) (h' : ArgN w a' xs) :
    Calls Try.prog 35 #[.agg #[.slice a xs.length cap], .agg #[.slice a' xs.length cap']] w fun e w' => e = .returned (.bool true) ∧ Below w.heap.size w w' := by
  have H := hide (fun o1 o2 => (h.alloc o1).alloc o2)
  have H' := hide (fun o1 o2 => (h'.alloc o1).alloc o2)
  clear h h'
  go_enter Try.func35, Try.ntmps35
  go_wp2_with fail
  refine (eqNS_arg a a' cap cap' xs _ hm (unhide H _ _) (unhide H' _ _)).mono ?_
  rintro e w1 ⟨rfl, hb⟩
  go_wp2_with fail
  go_ret
  exact ⟨rfl, ((below1 _ _).alloc (by simp) _).trans (hb.mono (by simp; omega))⟩

set_option maxHeartbeats 1000000 in
theorem markTree_own (a : Option Addr) (cap n0 : Nat) (xs : List NodeR) (w : World) (hm : xs.length ≤ 1048576) (h : OwnedN w n0 a xs) :
    Calls Try.prog 38 #[.agg #[.slice a xs.length cap], .int .i64 1] w fun e w' => (∃ k' : Nat, e = .returned (.int .i64 (k' : Int)) ∧ Hid (k' = 1 + 4 * xs.length)) ∧ Hid (MarkedN w' a 1 xs.length) ∧ w.grownBy w' (a.map (·.block)) := by
  rcases h with ⟨h0, rfl⟩ | ⟨g, rfl, _, hf⟩
  · obtain rfl := List.eq_nil_of_length_eq_zero h0
    go_enter Try.func38, Try.ntmps38
    go_wp2_with (first | (go_at_call 74; go_in))
    refine wp_loop_rounds 1 ?_
    rw [rounds_succ]
    go_wp2
    go_ret
    exact ⟨⟨1, rfl, hide rfl⟩, hide (Or.inl ⟨rfl, rfl⟩), grown_belN (below1 _ _) _⟩
  · have HF := hide (fun o => hf.below (below1 w o) hf.1)
    clear hf
    go_enter Try.func38, Try.ntmps38
    go_wp2_with fail
    refine (markNS_any g cap 1 xs _ hm (Nat.le_refl _) (by omega) (unhide HF _)).mono ?_
    rintro e w1 ⟨⟨k', rfl, hk'⟩, hf1, hk1⟩
    go_wp2_with fail
    go_ret
    refine ⟨⟨k', rfl, hk'⟩, hide (Or.inr ⟨g, rfl, unhide hf1⟩), ?_⟩
    exact ((KeptN.refl w g).below (below1 _ _) |>.trans (unhide hk1)).grown

set_option maxHeartbeats 1000000 in
theorem heldTree_own (a : Option Addr) (cap n : Nat) (w : World) (hm : n ≤ 1048576) (h : MarkedN w a 1 n) :
    Calls Try.prog 39 #[.agg #[.slice a n cap], .int .i64 1] w fun e w' => (∃ k' : Nat, e = .returned (.int .i64 (k' : Int)) ∧ Hid (k' = 1 + 4 * n)) ∧ Below w.heap.size w w' := by
  rcases h with ⟨rfl, rfl⟩ | ⟨g, rfl, hf⟩
  · go_enter Try.func39, Try.ntmps39
    go_wp2_with (first | (go_at_call 75; go_in))
    refine wp_loop_rounds 1 ?_
    rw [rounds_succ]
    go_wp2
    go_ret
    exact ⟨⟨1, rfl, hide rfl⟩, below1 _ _⟩
  · have HF := hide (fun o => hf.below (below1 w o) hf.1)
    clear hf
    go_enter Try.func39, Try.ntmps39
    go_wp2_with fail
    refine (heldNS_any g cap 1 n _ hm (Nat.le_refl _) (by omega) (unhide HF _)).mono ?_
    rintro e w1 ⟨⟨k', rfl, hk'⟩, hb1⟩
    have hk0 : ¬ (k' : Int) < 0 := by omega
    go_wp2_with fail
    go_ret
    exact ⟨⟨k', rfl, hk'⟩, (below1 _ _).trans (hb1.mono (by simp))⟩
end Go.Proofs.Ytokabkhnidlcnab

/-
  What the laws over trees keep in memory: cells of their own variables, rows of nodes.
-/
namespace Go.Proofs.Ytokabkhnidlcnab
set_option maxRecDepth 100000
set_option linter.unusedVariables false
open Go.RowKit

theorem OwnedN.but {w w' : World} {n : Nat} {a : Option Addr} {us : List NodeR} {row : Option Nat} (h : OwnedN w n a us) (hg : w.grownBy w' row) (hr : ∀ q, a.map (·.block) = some q → some q ≠ row) : OwnedN w' n a us := by
  rcases h with h | ⟨g, rfl, hn, hf⟩
  · exact Or.inl h
  · exact Or.inr ⟨g, rfl, hn, hf.grown hg (hr g rfl)⟩

theorem OwnedN.le {w : World} {n n' : Nat} {a : Option Addr} {us : List NodeR} (h : OwnedN w n a us) (hn : n' ≤ n) : OwnedN w n' a us := by
  rcases h with h | ⟨g, rfl, h1, h2⟩
  · exact Or.inl h
  · exact Or.inr ⟨g, rfl, by omega, h2⟩

/-- Variables of one cell, rows of nodes; nothing that was there has turned. -/
structure StT (w wc : World) (cs : List (Nat × Value)) (rs : List (Option Addr × List NodeR)) : Prop where
  cells : ∀ p ∈ cs, wc.cell? ⟨p.1, 0, none⟩ = some p.2
  rows : ∀ r ∈ rs, OwnedN wc 0 r.1 r.2
  bel : Below w.heap.size w wc

theorem StT.start (w : World) : StT w w [] [] := ⟨fun p hp => (by cases hp), fun r hr => (by cases hr), Below.refl _ _⟩

theorem StT.grown {w wc w' : World} {cs : List (Nat × Value)} {rs : List (Option Addr × List NodeR)} {row : Option Nat} (h : StT w wc cs rs) (hg : wc.grownBy w' row) (hr : ∀ k, row = some k → w.heap.size ≤ k ∧ (∀ p ∈ cs, p.1 ≠ k) ∧ ∀ r ∈ rs, r.1.map (·.block) ≠ some k) : StT w w' cs rs := by
  refine ⟨fun p hp => ?_, fun r hrs => ?_, h.bel.grown hg h.bel.size (fun k hk => (hr k hk).1)⟩
  · exact hg.cell (h.cells p hp) (fun e => (hr p.1 e.symm).2.1 p hp rfl)
  · exact (h.rows r hrs).but hg (fun q hq e => (hr q e.symm).2.2 r hrs hq)

theorem StT.step {w wc w' : World} {cs : List (Nat × Value)} {rs : List (Option Addr × List NodeR)} (h : StT w wc cs rs) (hb : Below wc.heap.size wc w') : StT w w' cs rs :=
  h.grown (grown_belN hb none) (fun k hk => by cases hk)

theorem StT.drew {w wc : World} {cs : List (Nat × Value)} {rs : List (Option Addr × List NodeR)} (h : StT w wc cs rs) : StT w wc.drew cs rs := h.step (Below.refl _ _).drew

theorem StT.addc {w wc : World} {cs : List (Nat × Value)} {rs : List (Option Addr × List NodeR)} (h : StT w wc cs rs) {b : Nat} {v : Value} (hc : wc.cell? ⟨b, 0, none⟩ = some v) : StT w wc ((b, v) :: cs) rs :=
  ⟨fun p hp => by rcases List.mem_cons.1 hp with rfl | hp
                  · exact hc
                  · exact h.cells p hp, h.rows, h.bel⟩

theorem StT.addr {w wc : World} {cs : List (Nat × Value)} {rs : List (Option Addr × List NodeR)} (h : StT w wc cs rs) {n : Nat} {a : Option Addr} {us : List NodeR} (hf : OwnedN wc n a us) : StT w wc cs ((a, us) :: rs) :=
  ⟨h.cells, fun r hr => by rcases List.mem_cons.1 hr with rfl | hr
                           · exact hf.le (Nat.zero_le _)
                           · exact h.rows r hr, h.bel⟩

theorem StT.alloc {w wc : World} {cs : List (Nat × Value)} {rs : List (Option Addr × List NodeR)} (h : StT w wc cs rs) (v : Value) (t : TypeId) : StT w (wc.alloc (.cells #[v] t)) ((wc.heap.size, v) :: cs) rs :=
  (h.step (below1 _ _)).addc (by simp [go_sem])

theorem StT.sub {w wc : World} {cs cs' : List (Nat × Value)} {rs rs' : List (Option Addr × List NodeR)} (h : StT w wc cs rs) (hc : ∀ p ∈ cs', p ∈ cs) (hr : ∀ r ∈ rs', r ∈ rs) : StT w wc cs' rs' :=
  ⟨fun p hp => h.cells p (hc p hp), fun r hp => h.rows r (hr r hp), h.bel⟩

theorem StT.lt {w wc : World} {cs : List (Nat × Value)} {rs : List (Option Addr × List NodeR)} (h : StT w wc cs rs) : ∀ p ∈ cs, p.1 < wc.heap.size :=
  fun p hp => block_lt_of_cell (h.cells p hp)

theorem FilledN.owned {w : World} {n g : Nat} {us : List NodeR} (h : FilledN w g us us.length) (hn : n ≤ g) : OwnedN w n (some ⟨g, 0, none⟩) us := Or.inr ⟨g, rfl, hn, h⟩

/-- A copy of an argument's tree, made in whatever world. -/
theorem toTree_in {w : World} (a : Option Addr) (cap : Nat) (xs : List NodeR) (W : World) (hm : xs.length ≤ 1048576) (ha : ArgN w a xs) (hb : Below w.heap.size w W) :
    Calls Try.prog 33 #[.agg #[.slice a xs.length cap]] W fun e w' => (∃ g, e = .returned (.agg #[.slice (some ⟨g, 0, none⟩) xs.length xs.length]) ∧ W.heap.size ≤ g ∧ g < w'.heap.size ∧ Hid (FilledN w' g xs xs.length)) ∧ Below W.heap.size W w' := by
  refine (toTree_any a cap xs W hm (ha.below hb)).mono ?_
  rintro e w' ⟨⟨g, rfl, hg, hf⟩, hb'⟩
  exact ⟨⟨g, rfl, hg, hf.1, hide hf⟩, hb'⟩
end Go.Proofs.Ytokabkhnidlcnab

/-
  Walks: marks in lists of operators.
-/
namespace Go.Proofs.Ytokabkhnidlcnab
set_option maxRecDepth 100000
open Go.RowKit

/-- The marks from k on. -/
def mk1 (c : Nat) : OpR := ⟨MT c, (c : Int) + 1, (c : Int) + 1 + 1, (c : Int) + 1 + 1 + 1⟩
def mks (k n : Nat) : List OpR := (List.range n).map fun i => mk1 (k + 4 * i)
theorem mks_len (k n : Nat) : (mks k n).length = n := by simp [mks]
theorem mks_at {k n i : Nat} (h : i < n) : atO (mks k n) i = mk1 (k + 4 * i) := by simp [atO, mks, h]

theorem Filled.step_of {w : World} {g k : Nat} {xs : List OpR} (h : Filled w g xs k) (hk : k < xs.length) {o : OpR} (e : atO xs k = o) :
    Filled (w.setCells g (k * 4) [.string o.s, .int .i64 o.k, .int .i64 o.l, .int .i64 o.sd]) g xs (k + 1) := by
  subst e
  exact h.step hk

/-- The row may be filled anew. -/
theorem Filled.anew {w : World} {g : Nat} {xs ys : List OpR} {k : Nat} (h : Filled w g xs k) (hl : xs.length = ys.length) : Filled w g ys 0 :=
  ⟨h.1, hl ▸ h.2.1, fun i hi => absurd hi (Nat.not_lt_zero i)⟩

set_option maxRecDepth 100000 in
set_option maxHeartbeats 2000000 in
theorem markOpS_any (g cap k : Nat) (xs : List OpR) (w : World) (hm : xs.length ≤ 1048576) (h1 : 1 ≤ k) (hk : k ≤ 10000000) (hw : Filled w g xs xs.length) :
    Calls Try.prog 47 #[.slice (some ⟨g, 0, none⟩) xs.length cap, .int .i64 (k : Int)] w fun e w' => e = .returned (.int .i64 ((k + 4 * xs.length : Nat) : Int)) ∧ Filled w' g (mks k xs.length) xs.length ∧ Kept1 w w' g := by
  have hw0 := hide (hw.anew (mks_len k xs.length).symm)
  clear hw
  go_enter Try.func47, Try.ntmps47
  go_wp2
  go_loopw [1, 5] (fun kk i wr => ∃ n c : Nat, n ≤ xs.length ∧ i = .int .i64 (n : Int) ∧ kk = .int .i64 (c : Int) ∧ 1 ≤ c ∧ c ≤ 100000000 ∧ Hid (c = k + 4 * n) ∧ Hid (Filled wr g (mks k xs.length) n) ∧ Hid (Kept1 w wr g)) (fun _ i _ => xs.length - (intOf i).toNat)
  case atStart => exact ⟨0, k, Nat.zero_le _, rfl, rfl, h1, by omega, hide (by omega), hw0, hide (Kept1.refl _ _)⟩
  case round =>
    clear hw0
    obtain ⟨n, c, hn, rfl, rfl, hc1, hc2, hc, hf, hkp⟩ := hrel
    by_cases hlt : n < xs.length
    · go_wp2_with fail
      refine (markText_any c _ hc1 (by omega)).mono ?_
      rintro e w1 ⟨rfl, hb1⟩
      have hf1 := (unhide hf).below hb1 (unhide hf).1
      obtain ⟨⟨e0, f0⟩, ⟨e1, f1⟩, ⟨e2, f2⟩, ⟨e3, f3⟩⟩ := fill_cells hf1 (by rw [mks_len]; exact hlt)
      obtain ⟨v0, e0⟩ := e0
      obtain ⟨v1, e1⟩ := e1
      obtain ⟨v2, e2⟩ := e2
      obtain ⟨v3, e3⟩ := e3
      have HF := hide (hf1.step_of (o := mk1 c) (by rw [mks_len]; exact hlt) (by rw [mks_at hlt, unhide hc]))
      have HK := hide (((unhide hkp).trans (Kept1.of_below hb1)).trans (kept1_setCells [.string (mk1 c).s, .int .i64 (mk1 c).k, .int .i64 (mk1 c).l, .int .i64 (mk1 c).sd] (n * 4) w1))
      clear hf1 hf hkp hb1
      go_wp2_with fail
      refine ⟨⟨n + 1, c + 4, by omega, by go_num, by go_num, by omega, ?_, hide ?_, HF, HK⟩, by simp [intOf]; omega⟩
      · have := unhide hc; omega
      · have := unhide hc; omega
    · have hnn : n = xs.length := by omega
      have HF : Filled wr g (mks k xs.length) xs.length := by
        have := unhide hf
        rw [hnn] at this
        exact this
      have HF' := hide HF
      clear HF hnn
      go_wp2
      go_ret
      exact ⟨ret_int (by have := unhide hc; omega), unhide HF', unhide hkp⟩

set_option maxRecDepth 100000 in
set_option maxHeartbeats 2000000 in
theorem heldOpS_any (g cap k n : Nat) (w : World) (hm : n ≤ 1048576) (h1 : 1 ≤ k) (hk : k ≤ 10000000) (hw : Filled w g (mks k n) n) :
    Calls Try.prog 48 #[.slice (some ⟨g, 0, none⟩) n cap, .int .i64 (k : Int)] w fun e w' => e = .returned (.int .i64 ((k + 4 * n : Nat) : Int)) ∧ Below w.heap.size w w' := by
  have hw0 := hide hw
  clear hw
  go_enter Try.func48, Try.ntmps48
  go_wp2
  go_loopw [1, 5] (fun kk i wr => ∃ m c : Nat, m ≤ n ∧ i = .int .i64 (m : Int) ∧ kk = .int .i64 (c : Int) ∧ 1 ≤ c ∧ c ≤ 100000000 ∧ Hid (c = k + 4 * m) ∧ Below w.heap.size w wr) (fun _ i _ => n - (intOf i).toNat)
  case atStart => exact ⟨0, k, Nat.zero_le _, rfl, rfl, h1, by omega, hide (by omega), Below.refl _ _⟩
  case round =>
    obtain ⟨m, c, hmn, rfl, rfl, hc1, hc2, hc, hbel⟩ := hrel
    by_cases hlt : m < n
    · have hcell := (((unhide hw0).2.2 m hlt).below hbel (unhide hw0).1)
      have hat : atO (mks k n) m = mk1 c := by rw [mks_at hlt, unhide hc]
      have zg : g < wr.heap.size := Nat.lt_of_lt_of_le (unhide hw0).1 hbel.size
      unfold CellsAt at hcell
      rw [hat] at hcell
      simp only [mk1, Nat.zero_add] at hcell
      obtain ⟨a0, a1, a2, a3⟩ := hcell
      have hltI : (m : Int) < (n : Int) := by omega
      clear hat
      go_wp2_with fail
      go_region_held (fun w' => w'.cell? ⟨g, m * 4, none⟩ = some (.string (MT c)) ∧ w'.cell? ⟨g, m * 4 + 1, none⟩ = some (.int .i64 ((c : Int) + 1)) ∧ w'.cell? ⟨g, m * 4 + 2, none⟩ = some (.int .i64 ((c : Int) + 1 + 1)) ∧ w'.cell? ⟨g, m * 4 + 3, none⟩ = some (.int .i64 ((c : Int) + 1 + 1 + 1))) (go_keep)
        (first | (go_at_call 56; refine (markText_any c _ hc1 (by omega)).mono ?_; rintro e w1 ⟨rfl, hb1⟩; have q0 := (hb1.cell (p := ⟨g, m * 4, none⟩) zg).trans (show wr.drew.cell? ⟨g, m * 4, none⟩ = _ from a0); have q1 := (hb1.cell (p := ⟨g, m * 4 + 1, none⟩) zg).trans (show wr.drew.cell? ⟨g, m * 4 + 1, none⟩ = _ from a1); have q2 := (hb1.cell (p := ⟨g, m * 4 + 2, none⟩) zg).trans (show wr.drew.cell? ⟨g, m * 4 + 2, none⟩ = _ from a2); have q3 := (hb1.cell (p := ⟨g, m * 4 + 3, none⟩) zg).trans (show wr.drew.cell? ⟨g, m * 4 + 3, none⟩ = _ from a3)))
      go_wp2
      refine ⟨⟨m + 1, c + 4, by omega, by go_num, by go_num, by omega, ?_, hide ?_, hbel.trans (((Below.refl wr.heap.size wr).drew.trans hb1).mono hbel.size)⟩, by simp [intOf]; omega⟩
      · have := unhide hc; omega
      · have := unhide hc; omega
    · go_wp2
      go_ret
      exact ⟨ret_int (by have := unhide hc; omega), hbel⟩
end Go.Proofs.Ytokabkhnidlcnab
