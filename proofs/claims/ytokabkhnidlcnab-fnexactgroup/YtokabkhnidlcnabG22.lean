import Derived.Deep.RegionHeld
import Derived.Test.YtokabkhnidlcnabG01
import Derived.Test.YtokabkhnidlcnabG11
import Derived.Test.YtokabkhnidlcnabG17
import Derived.Test.YtokabkhnidlcnabG20
import Derived.Test.YtokabkhnidlcnabG21

/-
  Lists of Token in memory; the helpers of the laws over them. Written by wip/shape.py.
-/
namespace Go.Proofs.Ytokabkhnidlcnab
set_option maxRecDepth 100000
open Go.RowKit

set_option maxHeartbeats 400000 in
theorem szT_any (o : TokR) (left : Int) (w : World) (hs0 : o.g.size ≤ maxLen) (hs1 : o.t.size ≤ maxLen) (h0 : 0 ≤ left) (h1 : left ≤ 1048576) :
    Calls Try.prog 57 #[.agg #[.int .i64 o.k, .string o.g, .string o.t], .int .i64 left] w fun e w' => (∃ r, e = .returned (.int .i64 r) ∧ (r < 0 ∨ (0 ≤ r ∧ r + totT o = left))) ∧ Below w.heap.size w w' := by
  unfold maxLen at hs0
  unfold maxLen at hs1
  by_cases c0 : left < o.g.size
  · go_enter Try.func57, Try.ntmps57
    go_wp2
    go_ret
    exact ⟨⟨-1, rfl, Or.inl (by omega)⟩, below1 _ _⟩
  by_cases c1 : left - o.g.size < o.t.size
  · go_enter Try.func57, Try.ntmps57
    go_wp2
    go_ret
    exact ⟨⟨-1, rfl, Or.inl (by omega)⟩, below1 _ _⟩
  go_enter Try.func57, Try.ntmps57
  go_wp2
  go_ret
  exact ⟨⟨_, rfl, Or.inr (by unfold totT; omega)⟩, below1 _ _⟩

/-- What is left behind a list. -/
def LeftT (left r : Int) (xs : List TokR) : Prop := r < 0 ∨ (0 ≤ r ∧ r + xs.length + totToT xs xs.length = left)

set_option maxHeartbeats 1000000 in
theorem szTS_any (a : Option Addr) (cap : Nat) (xs : List TokR) (left : Int) (w : World) (hm : xs.length ≤ maxLen) (hw : ArgT w a xs) (hs : SizedT xs) (hl0 : 0 ≤ left) (hl1 : left ≤ 1048576) :
    Calls Try.prog 22 #[.slice a xs.length cap, .int .i64 left] w fun e w' => (∃ r, e = .returned (.int .i64 r) ∧ LeftT left r xs) ∧ Below w.heap.size w w' := by
  unfold maxLen at hm
  by_cases hneg : left < xs.length
  · go_enter Try.func22, Try.ntmps22
    go_wp2
    go_ret
    exact ⟨⟨-1, rfl, Or.inl (by omega)⟩, Below.refl _ _⟩
  rcases hw with h0 | ⟨b, off, rfl, hw, hB⟩
  · have ht : totToT xs xs.length = 0 := by rw [h0]; rfl
    have HT := hide ht
    clear ht
    go_enter Try.func22, Try.ntmps22
    go_wp2
    refine wp_loop_rounds 1 ?_
    rw [rounds_succ]
    go_wp2
    go_ret
    exact ⟨⟨_, rfl, Or.inr (by have := unhide HT; omega)⟩, Below.refl _ _⟩
  · go_enter Try.func22, Try.ntmps22
    go_wp2
    go_loopw [1, 5] (fun lf i wr => ∃ (k : Nat) (r : Int), k ≤ xs.length ∧ i = .int .i64 k ∧ lf = .int .i64 r ∧ 0 ≤ r ∧ r ≤ 1048576 ∧ Hid (r + xs.length + totToT xs k = left) ∧ Below w.heap.size w wr) (fun _ i _ => xs.length - (intOf i).toNat)
    case atStart => exact ⟨0, _, Nat.zero_le _, rfl, rfl, by omega, by omega, hide (by simp only [totToT]; omega), Below.refl _ _⟩
    case round =>
      obtain ⟨k, r, hk, rfl, rfl, hr0, hr1, ht, hbel⟩ := hrel
      by_cases hlt : k < xs.length
      · obtain ⟨h0, h1, h2⟩ := (hw k hlt).below hbel hB
        go_wp2_with fail
        refine (szT_any (atT xs k) r _ (hs k hlt).1 (hs k hlt).2 hr0 hr1).mono ?_
        rintro e w1 ⟨⟨r1, rfl, hr⟩, hb1⟩
        by_cases hneg1 : r1 < 0
        · go_wp2_with fail
          go_ret
          exact ⟨⟨-1, rfl, Or.inl (by omega)⟩, hbel.trans (hb1.mono hbel.size)⟩
        · have h01 : 0 ≤ r1 := by omega
          have hR := hide (show r1 + totT (atT xs k) = r by omega)
          have h11 : r1 ≤ 1048576 := by have := unhide hR; omega
          clear hr
          go_wp2_with fail
          exact ⟨⟨k + 1, r1, by omega, by go_num, rfl, h01, h11, hide (by have a := unhide ht; have b := unhide hR; simp only [totToT]; omega), hbel.trans (hb1.mono hbel.size)⟩, by simp [intOf]; omega⟩
      · have hkx : k = xs.length := by omega
        have HT := hide (show r + xs.length + totToT xs xs.length = left by have := unhide ht; rw [hkx] at this; exact this)
        clear ht hkx
        go_wp2
        go_ret
        exact ⟨⟨_, rfl, Or.inr ⟨hr0, unhide HT⟩⟩, hbel⟩

theorem toT_any (o : TokR) (w : World) :
    Calls Try.prog 58 #[.agg #[.int .i64 o.k, .string o.g, .string o.t]] w fun e w' => e = .returned (.agg #[.int .i64 o.k, .string o.g, .string o.t]) ∧ Below w.heap.size w w' := by
  go_enter Try.func58, Try.ntmps58
  go_wp2
  exact bodyPost_ret (v := .agg #[.int .i64 o.k, .string o.g, .string o.t]) (by simp [results, Try.results58, go_sem]) rfl ⟨rfl, (((Below.refl _ _).alloc (Nat.le_refl _) _).alloc (by simp) _).alloc (by simp; omega) _⟩

set_option maxHeartbeats 1000000 in
theorem toTS_any (a : Option Addr) (cap : Nat) (xs : List TokR) (w : World) (hm : xs.length ≤ 1048576) (hw : ArgT w a xs) :
    Calls Try.prog 24 #[.slice a xs.length cap] w fun e w' => (∃ g, e = .returned (.slice (some ⟨g, 0, none⟩) xs.length xs.length) ∧ w.heap.size ≤ g ∧ FilledT w' g xs xs.length) ∧ Below w.heap.size w w' := by
  obtain ⟨inf, hi, hz⟩ := Option.map_eq_some_iff.1 infoT
  simp only [Prod.mk.injEq] at hz
  obtain ⟨hz, hsz, hby⟩ := hz
  have hmk : ∀ W : World, (Instr.makeSlice 34 (.int .i64 (xs.length : Int)) (.int .i64 (xs.length : Int))).run Try.prog W = .ok (.slice (some ⟨W.heap.size, 0, none⟩) xs.length xs.length) (W.alloc (.cells (madeCells #[.int .i64 0, .string ⟨#[]⟩, .string ⟨#[]⟩] (xs.length * 3)) 79)) := by
    intro W
    have := run_make (P := Try.prog) W 34 79 inf _ Try.underlying34 hi hz .i64 .i64 xs.length xs.length (by omega) (Int.le_refl _) (by rw [hby]; omega) (by omega)
    simpa [hsz, Value.cells] using this
  clear hz hsz hby hi
  rcases hw with h0 | ⟨b, off, rfl, hw, hB⟩
  · obtain rfl := List.eq_nil_of_length_eq_zero h0
    have hmk0 : ∀ W : World, (Instr.makeSlice 34 (.int .i64 0) (.int .i64 0)).run Try.prog W = .ok (.slice (some ⟨W.heap.size, 0, none⟩) 0 0) (W.alloc (.cells #[] 79)) := fun W => by kernel_rfl
    clear hmk h0 hm
    go_enter Try.func24, Try.ntmps24
    go_wp2
    refine wp_loop_rounds 1 ?_
    rw [rounds_succ]
    go_wp2
    go_ret
    exact ⟨⟨w.heap.size, rfl, Nat.le_refl _, by simp, fun j hj => (by simp at hj), fun i hi => (by simp at hi)⟩, below1 _ _⟩
  · go_enter Try.func24, Try.ntmps24
    go_wp2
    go_loopw [4] (fun i wr => ∃ k : Nat, k ≤ xs.length ∧ i = .int .i64 k ∧ FilledT wr w.heap.size xs k ∧ Below w.heap.size w wr) (fun i _ => xs.length - (intOf i).toNat)
    case atStart => exact ⟨0, Nat.zero_le _, rfl, ⟨by simp, made_thereT _ _ _ _, fun i hi => by omega⟩, below1 _ _⟩
    case round =>
      obtain ⟨k, hk, rfl, hfil, hbel⟩ := hrel
      by_cases hlt : k < xs.length
      · obtain ⟨h0, h1, h2⟩ := (hw k hlt).below hbel hB
        go_wp2_with fail
        refine (toT_any (atT xs k) _).mono ?_
        rintro e w1 ⟨rfl, hb⟩
        have hfil1 := hfil.below hb hfil.1
        obtain ⟨⟨e0, f0⟩, ⟨e1, f1⟩, ⟨e2, f2⟩⟩ := fill_cellsT hfil1 hlt
        obtain ⟨v0, e0⟩ := e0
        obtain ⟨v1, e1⟩ := e1
        obtain ⟨v2, e2⟩ := e2
        have HF := hide (hfil1.step hlt)
        have HB := hide (below_setCells (Nat.le_refl w.heap.size) [.int .i64 (atT xs k).k, .string (atT xs k).g, .string (atT xs k).t] (k * 3) w1 (hbel.trans (hb.mono hbel.size)))
        clear hfil1 hfil
        go_wp2_with fail
        exact ⟨⟨k + 1, by omega, by go_num, unhide HF, unhide HB⟩, by simp [intOf]; omega⟩
      · go_wp2
        go_ret
        have : k = xs.length := by omega
        exact ⟨⟨w.heap.size, rfl, Nat.le_refl _, this ▸ hfil⟩, hbel⟩

set_option maxHeartbeats 400000 in
theorem eqT_same (o : TokR) (w : World) :
    Calls Try.prog 55 #[.agg #[.int .i64 o.k, .string o.g, .string o.t], .agg #[.int .i64 o.k, .string o.g, .string o.t]] w fun e w' => e = .returned (.bool true) ∧ Below w.heap.size w w' := by
  go_enter Try.func55, Try.ntmps55
  go_wp2
  go_ret
  exact ⟨rfl, (below1 _ _).alloc (by simp) _⟩

set_option maxHeartbeats 1000000 in
theorem eqTS_same (b off b' off' cap cap' : Nat) (xs : List TokR) (w : World) (hm : xs.length ≤ 1048576) (h : OpsT w b off xs) (h' : OpsT w b' off' xs) (hB : b < w.heap.size) (hB' : b' < w.heap.size) :
    Calls Try.prog 19 #[.slice (some ⟨b, off, none⟩) xs.length cap, .slice (some ⟨b', off', none⟩) xs.length cap'] w fun e w' => e = .returned (.bool true) ∧ Below w.heap.size w w' := by
  go_enter Try.func19, Try.ntmps19
  go_wp2
  go_loopw [5] (fun i wr => ∃ k : Nat, k ≤ xs.length ∧ i = .int .i64 k ∧ Below w.heap.size w wr) (fun i _ => xs.length - (intOf i).toNat)
  case atStart => exact ⟨0, Nat.zero_le _, rfl, Below.refl _ _⟩
  case round =>
    obtain ⟨k, hk, rfl, hbel⟩ := hrel
    by_cases hlt : k < xs.length
    · obtain ⟨a0, a1, a2⟩ := (h k hlt).below hbel hB
      obtain ⟨c0, c1, c2⟩ := (h' k hlt).below hbel hB'
      have hltI : (k : Int) < (xs.length : Int) := by omega
      have zb : b < wr.heap.size := Nat.lt_of_lt_of_le hB hbel.size
      have zb' : b' < wr.heap.size := Nat.lt_of_lt_of_le hB' hbel.size
      go_wp2_with fail
      go_region_held (fun w' => w'.cell? ⟨b, off + k * 3, none⟩ = some (.int .i64 (atT xs k).k) ∧ w'.cell? ⟨b, off + k * 3 + 1, none⟩ = some (.string (atT xs k).g) ∧ w'.cell? ⟨b, off + k * 3 + 2, none⟩ = some (.string (atT xs k).t) ∧ w'.cell? ⟨b', off' + k * 3, none⟩ = some (.int .i64 (atT xs k).k) ∧ w'.cell? ⟨b', off' + k * 3 + 1, none⟩ = some (.string (atT xs k).g) ∧ w'.cell? ⟨b', off' + k * 3 + 2, none⟩ = some (.string (atT xs k).t)) (go_keep)
        (first | (go_at_call 55; refine (eqT_same (atT xs k) _).mono ?_; rintro e w1 ⟨rfl, hb1⟩; have q0 := (hb1.cell (p := ⟨b, off + k * 3, none⟩) zb).trans (show wr.drew.cell? ⟨b, off + k * 3, none⟩ = _ from a0); have q1 := (hb1.cell (p := ⟨b, off + k * 3 + 1, none⟩) zb).trans (show wr.drew.cell? ⟨b, off + k * 3 + 1, none⟩ = _ from a1); have q2 := (hb1.cell (p := ⟨b, off + k * 3 + 2, none⟩) zb).trans (show wr.drew.cell? ⟨b, off + k * 3 + 2, none⟩ = _ from a2); have p0 := (hb1.cell (p := ⟨b', off' + k * 3, none⟩) zb').trans (show wr.drew.cell? ⟨b', off' + k * 3, none⟩ = _ from c0); have p1 := (hb1.cell (p := ⟨b', off' + k * 3 + 1, none⟩) zb').trans (show wr.drew.cell? ⟨b', off' + k * 3 + 1, none⟩ = _ from c1); have p2 := (hb1.cell (p := ⟨b', off' + k * 3 + 2, none⟩) zb').trans (show wr.drew.cell? ⟨b', off' + k * 3 + 2, none⟩ = _ from c2)))
      go_wp2
      exact ⟨⟨k + 1, by omega, by go_num, hbel.trans (((Below.refl _ _).drew.trans hb1).mono hbel.size)⟩, by simp [intOf]; omega⟩
    · go_wp2
      go_ret
      exact ⟨rfl, hbel⟩

set_option maxHeartbeats 1000000 in
theorem eqTS_arg (a a' : Option Addr) (cap cap' : Nat) (xs : List TokR) (w : World) (hm : xs.length ≤ 1048576) (h : ArgT w a xs) (h' : ArgT w a' xs) :
    Calls Try.prog 19 #[.slice a xs.length cap, .slice a' xs.length cap'] w fun e w' => e = .returned (.bool true) ∧ Below w.heap.size w w' := by
  by_cases h0 : xs.length = 0
  · obtain rfl := List.eq_nil_of_length_eq_zero h0
    clear h h' h0 hm
    go_enter Try.func19, Try.ntmps19
    go_wp2
    refine wp_loop_rounds 1 ?_
    rw [rounds_succ]
    go_wp2
    go_ret
    exact ⟨rfl, Below.refl _ _⟩
  · rcases h with h | ⟨b, off, rfl, h1, h2⟩
    · exact absurd h h0
    · rcases h' with h' | ⟨b', off', rfl, h1', h2'⟩
      · exact absurd h' h0
      · exact eqTS_same b off b' off' cap cap' xs w hm h1 h1' h2 h2'

/-- The marks from k on. -/
def mkT (c : Nat) : TokR := ⟨(c : Int), MT (c + 1), MT (c + 2)⟩
def mksT (k n : Nat) : List TokR := (List.range n).map fun i => mkT (k + 3 * i)
theorem mksT_len (k n : Nat) : (mksT k n).length = n := by simp [mksT]
theorem mksT_at {k n i : Nat} (h : i < n) : atT (mksT k n) i = mkT (k + 3 * i) := by simp [atT, mksT, h]

/-- n elements are whole; of the next one m cells hold what they must. -/
def PartT (w : World) (g : Nat) (xs : List TokR) (n m : Nat) : Prop := FilledT w g xs n ∧ ∀ j v, j < m → [.int .i64 (atT xs n).k, .string (atT xs n).g, .string (atT xs n).t][j]? = some v → w.cell? ⟨g, n * 3 + j, none⟩ = some v

theorem PartT.start {w : World} {g n : Nat} {xs : List TokR} (h : FilledT w g xs n) : PartT w g xs n 0 := ⟨h, fun j _ hj => absurd hj (Nat.not_lt_zero j)⟩

theorem PartT.below {w w' : World} {g n m : Nat} {xs : List TokR} {B : Nat} (h : PartT w g xs n m) (hb : Below B w w') (hB : g < B) : PartT w' g xs n m :=
  ⟨h.1.below hb hB, fun j v hj hv => (hb.cell (p := ⟨g, _, none⟩) hB).trans (h.2 j v hj hv)⟩

theorem PartT.set {w : World} {g n m : Nat} {xs : List TokR} (h : PartT w g xs n m) (hn : n < xs.length) (hm : m < 3) {v : Value} (hv : [.int .i64 (atT xs n).k, .string (atT xs n).g, .string (atT xs n).t][m]? = some v) : PartT (w.setCell ⟨g, n * 3 + m, none⟩ v) g xs n (m + 1) := by
  obtain ⟨⟨h1, h2, h3⟩, h4⟩ := h
  obtain ⟨u, hu⟩ := Option.isSome_iff_exists.1 (h2 (n * 3 + m) (by omega)).1
  rw [Nat.zero_add] at hu
  have oth : ∀ o, o ≠ n * 3 + m → (w.setCell ⟨g, n * 3 + m, none⟩ v).cell? ⟨g, o, none⟩ = w.cell? ⟨g, o, none⟩ := fun o ho => World.cell?_setCell_other _ _ _ _ (fun e => ho (by injection e with _ e; exact e.symm))
  refine ⟨⟨by simpa [World.setCell] using h1, fun j hj => ⟨?_, ?_⟩, fun i hi => ?_⟩, fun j u' hj hu' => ?_⟩
  · by_cases e : 0 + j = n * 3 + m
    · rw [e, World.cell?_setCell_same _ _ _ hu]; rfl
    · rw [oth _ e]; exact (h2 j hj).1
  · rw [World.frozen?_setCell]; exact (h2 j hj).2
  · obtain ⟨a0, a1, a2⟩ := h3 i hi
    exact ⟨(oth _ (by omega)).trans a0, (oth _ (by omega)).trans a1, (oth _ (by omega)).trans a2⟩
  · by_cases e : j = m
    · subst e
      rw [hv] at hu'
      injection hu' with hu'
      subst hu'
      exact World.cell?_setCell_same _ _ _ hu
    · rw [oth _ (by omega)]
      exact h4 j u' (by omega) hu'

theorem PartT.done {w : World} {g n : Nat} {xs : List TokR} (h : PartT w g xs n 3) : FilledT w g xs (n + 1) := by
  obtain ⟨⟨h1, h2, h3⟩, h4⟩ := h
  refine ⟨h1, h2, fun i hi => ?_⟩
  by_cases e : i = n
  · subst e
    exact ⟨by simpa using h4 0 _ (by omega) rfl, by simpa using h4 1 _ (by omega) rfl, by simpa using h4 2 _ (by omega) rfl⟩
  · exact h3 i (by omega)

/-- The next cell may be written. -/
theorem PartT.cell {w : World} {g n m : Nat} {xs : List TokR} (h : PartT w g xs n m) (hn : n < xs.length) (j : Nat) (hj : j < 3) : (∃ u, w.cell? ⟨g, n * 3 + j, none⟩ = some u) ∧ w.frozen? ⟨g, n * 3 + j, none⟩ = false := by
  have := h.1.2.1 (n * 3 + j) (by omega)
  rw [Nat.zero_add] at this
  exact ⟨Option.isSome_iff_exists.1 this.1, this.2⟩

/-- Nothing but one block has turned. -/
structure KeptT (w w' : World) (g : Nat) : Prop where
  os : w'.os = w.os
  tape : w'.tape = w.tape
  output : w'.output = w.output
  size : w.heap.size ≤ w'.heap.size
  block : ∀ i, i < w.heap.size → i ≠ g → w'.heap[i]? = w.heap[i]?

theorem KeptT.refl (w : World) (g : Nat) : KeptT w w g := ⟨rfl, rfl, rfl, Nat.le_refl _, fun _ _ _ => rfl⟩
theorem KeptT.trans {w w1 w2 : World} {g : Nat} (h : KeptT w w1 g) (h' : KeptT w1 w2 g) : KeptT w w2 g :=
  ⟨h'.os.trans h.os, h'.tape.trans h.tape, h'.output.trans h.output, Nat.le_trans h.size h'.size, fun i hi a => (h'.block i (Nat.lt_of_lt_of_le hi h.size) a).trans (h.block i hi a)⟩
theorem KeptT.below {w w1 w2 : World} {g : Nat} (h : KeptT w w1 g) (h' : Below w1.heap.size w1 w2) : KeptT w w2 g := h.trans ⟨h'.os, h'.tape, h'.output, h'.size, fun i hi _ => h'.block i hi⟩
theorem KeptT.set {w w1 : World} {g : Nat} (h : KeptT w w1 g) (o : Nat) (v : Value) : KeptT w (w1.setCell ⟨g, o, none⟩ v) g :=
  h.trans ⟨rfl, rfl, rfl, by simp [World.setCell], fun _ _ hi => Below.heap_setCell _ _ _ _ hi⟩
theorem KeptT.grown {w w' : World} {g : Nat} (h : KeptT w w' g) : w.grownBy w' (some g) := ⟨h.os, h.tape, h.output, h.size, fun i hi e => h.block i hi (fun x => e (by rw [x]))⟩

set_option maxRecDepth 100000 in
set_option maxHeartbeats 4000000 in
theorem markTS_any (g cap k : Nat) (xs : List TokR) (w : World) (hm : xs.length ≤ 1048576) (h1 : 1 ≤ k) (hk : k ≤ 10000000) (hw : FilledT w g xs xs.length) :
    Calls Try.prog 20 #[.slice (some ⟨g, 0, none⟩) xs.length cap, .int .i64 (k : Int)] w fun e w' => (∃ k' : Nat, e = .returned (.int .i64 (k' : Int)) ∧ Hid (k' = k + 3 * xs.length)) ∧ Hid (FilledT w' g (mksT k xs.length) xs.length) ∧ Hid (KeptT w w' g) := by
  have hw0 := hide (hw.anew (mksT_len k xs.length).symm)
  clear hw
  go_enter Try.func20, Try.ntmps20
  go_wp2
  go_loopw [1, 5] (fun kk i wr => ∃ n c : Nat, n ≤ xs.length ∧ i = .int .i64 (n : Int) ∧ kk = .int .i64 (c : Int) ∧ 1 ≤ c ∧ c ≤ 100000000 ∧ Hid (c = k + 3 * n) ∧ Hid (FilledT wr g (mksT k xs.length) n) ∧ Hid (KeptT w wr g)) (fun _ i _ => xs.length - (intOf i).toNat)
  case atStart => exact ⟨0, k, Nat.zero_le _, rfl, rfl, h1, by omega, hide (by omega), hw0, hide (KeptT.refl _ _)⟩
  case round =>
    clear hw0
    obtain ⟨n, c, hn, rfl, rfl, hc1, hc2, hc, hf, hkp⟩ := hrel
    by_cases hlt : n < xs.length
    · have hln : n < (mksT k xs.length).length := by rw [mksT_len]; exact hlt
      have hat := hide (show atT (mksT k xs.length) n = mkT c by rw [mksT_at hlt, unhide hc])
      have hP0 := hide (PartT.start (unhide hf))
      have hgl := (unhide hf).1
      clear hf
      obtain ⟨⟨u0_0, e0_0⟩, f0_0⟩ := (unhide hP0).cell hln 0 (by omega)
      obtain ⟨⟨u0_1, e0_1⟩, f0_1⟩ := (unhide hP0).cell hln 1 (by omega)
      obtain ⟨⟨u0_2, e0_2⟩, f0_2⟩ := (unhide hP0).cell hln 2 (by omega)
      simp only [Nat.add_zero] at e0_0 f0_0
      have hP0x := hide ((unhide hP0).set hln (by omega) (m := 0) (v := .int .i64 ((c : Int))) (by rw [unhide hat]; rfl))
      have hkpx := hide ((unhide hkp).set (n * 3 + 0) (.int .i64 ((c : Int))))
      clear hP0 hkp
      go_wp2_with fail
      refine (markText_int _ (c + 1) _ (by omega) (by omega) (by omega)).mono ?_
      rintro e w1 ⟨rfl, hb1⟩
      have hP1 := hide ((unhide hP0x).below hb1 (unhide hP0x).1.1)
      have hK1 := hide ((unhide hkpx).below hb1)
      clear hP0x hkpx hb1 e0_0 f0_0 e0_1 f0_1 e0_2 f0_2
      obtain ⟨⟨u1_0, e1_0⟩, f1_0⟩ := (unhide hP1).cell hln 0 (by omega)
      obtain ⟨⟨u1_1, e1_1⟩, f1_1⟩ := (unhide hP1).cell hln 1 (by omega)
      obtain ⟨⟨u1_2, e1_2⟩, f1_2⟩ := (unhide hP1).cell hln 2 (by omega)
      simp only [Nat.add_zero] at e1_0 f1_0
      have hP1x := hide ((unhide hP1).set hln (by omega) (m := 1) (v := .string (MT (c + 1))) (by rw [unhide hat]; rfl))
      have hK1x := hide ((unhide hK1).set (n * 3 + 1) (.string (MT (c + 1))))
      clear hP1 hK1
      go_wp2_with fail
      refine (markText_int _ (c + 2) _ (by omega) (by omega) (by omega)).mono ?_
      rintro e w2 ⟨rfl, hb2⟩
      have hP2 := hide ((unhide hP1x).below hb2 (unhide hP1x).1.1)
      have hK2 := hide ((unhide hK1x).below hb2)
      clear hP1x hK1x hb2 e1_0 f1_0 e1_1 f1_1 e1_2 f1_2
      obtain ⟨⟨u2_0, e2_0⟩, f2_0⟩ := (unhide hP2).cell hln 0 (by omega)
      obtain ⟨⟨u2_1, e2_1⟩, f2_1⟩ := (unhide hP2).cell hln 1 (by omega)
      obtain ⟨⟨u2_2, e2_2⟩, f2_2⟩ := (unhide hP2).cell hln 2 (by omega)
      simp only [Nat.add_zero] at e2_0 f2_0
      have hP2x := hide ((unhide hP2).set hln (by omega) (m := 2) (v := .string (MT (c + 2))) (by rw [unhide hat]; rfl))
      have hK2x := hide ((unhide hK2).set (n * 3 + 2) (.string (MT (c + 2))))
      clear hP2 hK2
      go_wp2_with fail
      refine ⟨⟨n + 1, c + 3, by omega, by go_num, by go_num, by omega, ?_, hide ?_, hide (unhide hP2x).done, hK2x⟩, by simp [intOf]; omega⟩
      · have := unhide hc; omega
      · have := unhide hc; omega
    · have hnn : n = xs.length := by omega
      have HF : FilledT wr g (mksT k xs.length) xs.length := by
        have := unhide hf
        rw [hnn] at this
        exact this
      have HF' := hide HF
      have HC := hide (show c = k + 3 * xs.length by have := unhide hc; omega)
      clear HF hnn hc
      go_wp2
      go_ret
      exact ⟨⟨c, rfl, HC⟩, HF', hkp⟩

set_option maxRecDepth 100000 in
set_option maxHeartbeats 4000000 in
theorem heldTS_any (g cap k n : Nat) (w : World) (hm : n ≤ 1048576) (h1 : 1 ≤ k) (hk : k ≤ 10000000) (hw : FilledT w g (mksT k n) n) :
    Calls Try.prog 21 #[.slice (some ⟨g, 0, none⟩) n cap, .int .i64 (k : Int)] w fun e w' => (∃ k' : Nat, e = .returned (.int .i64 (k' : Int)) ∧ Hid (k' = k + 3 * n)) ∧ Below w.heap.size w w' := by
  have hw0 := hide hw
  clear hw
  go_enter Try.func21, Try.ntmps21
  go_wp2
  go_loopw [1, 5] (fun kk i wr => ∃ m c : Nat, m ≤ n ∧ i = .int .i64 (m : Int) ∧ kk = .int .i64 (c : Int) ∧ 1 ≤ c ∧ c ≤ 100000000 ∧ Hid (c = k + 3 * m) ∧ Below w.heap.size w wr) (fun _ i _ => n - (intOf i).toNat)
  case atStart => exact ⟨0, k, Nat.zero_le _, rfl, rfl, h1, by omega, hide (by omega), Below.refl _ _⟩
  case round =>
    obtain ⟨m, c, hmn, rfl, rfl, hc1, hc2, hc, hbel⟩ := hrel
    by_cases hlt : m < n
    · have hcell := (((unhide hw0).2.2 m hlt).below hbel (unhide hw0).1)
      have hat : atT (mksT k n) m = mkT c := by rw [mksT_at hlt, unhide hc]
      have z0 : g < wr.heap.size := Nat.lt_of_lt_of_le (unhide hw0).1 hbel.size
      unfold CellsT at hcell
      rw [hat] at hcell
      simp only [mkT, Nat.zero_add] at hcell
      obtain ⟨q0_0, q0_1, q0_2⟩ := hcell
      have hltI : (m : Int) < (n : Int) := by omega
      have B0 := hbel
      clear hat
      go_wp2_with fail
      go_region_held (fun w' => w'.cell? ⟨g, m * 3, none⟩ = some (.int .i64 ((c : Int))) ∧ w'.cell? ⟨g, m * 3 + 1, none⟩ = some (.string (MT (c + 1))) ∧ w'.cell? ⟨g, m * 3 + 2, none⟩ = some (.string (MT (c + 2)))) (go_keep)
        (first | (go_at_call 56; refine (markText_int _ (c + 1) _ (by omega) (by omega) (by omega)).mono ?_; rintro e w1 ⟨rfl, hb1⟩; have q1_0 := (hb1.cell (p := ⟨g, m * 3, none⟩) z0).trans (show wr.drew.cell? ⟨g, m * 3, none⟩ = _ from q0_0); have q1_1 := (hb1.cell (p := ⟨g, m * 3 + 1, none⟩) z0).trans (show wr.drew.cell? ⟨g, m * 3 + 1, none⟩ = _ from q0_1); have q1_2 := (hb1.cell (p := ⟨g, m * 3 + 2, none⟩) z0).trans (show wr.drew.cell? ⟨g, m * 3 + 2, none⟩ = _ from q0_2)))
      have z1 : g < w1.heap.size := Nat.lt_of_lt_of_le z0 hb1.size
      have B1 := B0.trans (((Below.refl wr.heap.size wr).drew.trans hb1).mono B0.size)
      clear q0_0 q0_1 q0_2 hb1 z0
      go_wp2_with fail
      go_region_held (fun w' => w'.cell? ⟨g, m * 3, none⟩ = some (.int .i64 ((c : Int))) ∧ w'.cell? ⟨g, m * 3 + 1, none⟩ = some (.string (MT (c + 1))) ∧ w'.cell? ⟨g, m * 3 + 2, none⟩ = some (.string (MT (c + 2)))) (go_keep)
        (first | (go_at_call 56; refine (markText_int _ (c + 2) _ (by omega) (by omega) (by omega)).mono ?_; rintro e w2 ⟨rfl, hb2⟩; have q2_0 := (hb2.cell (p := ⟨g, m * 3, none⟩) z1).trans (show w1.drew.cell? ⟨g, m * 3, none⟩ = _ from q1_0); have q2_1 := (hb2.cell (p := ⟨g, m * 3 + 1, none⟩) z1).trans (show w1.drew.cell? ⟨g, m * 3 + 1, none⟩ = _ from q1_1); have q2_2 := (hb2.cell (p := ⟨g, m * 3 + 2, none⟩) z1).trans (show w1.drew.cell? ⟨g, m * 3 + 2, none⟩ = _ from q1_2)))
      have z2 : g < w2.heap.size := Nat.lt_of_lt_of_le z1 hb2.size
      have B2 := B1.trans (((Below.refl w1.heap.size w1).drew.trans hb2).mono B1.size)
      clear q1_0 q1_1 q1_2 hb2 z1
      go_wp2
      refine ⟨⟨m + 1, c + 3, by omega, by go_num, by go_num, by omega, ?_, hide ?_, B2⟩, by simp [intOf]; omega⟩
      · have := unhide hc; omega
      · have := unhide hc; omega
    · have HC := hide (show c = k + 3 * n by have := unhide hc; omega)
      clear hc
      go_wp2
      go_ret
      exact ⟨⟨c, rfl, HC⟩, hbel⟩

end Go.Proofs.Ytokabkhnidlcnab

/-
  What the laws keep in memory: cells of their own variables, rows of operators, rows of tokens; marks in them.
-/
namespace Go.Proofs.Ytokabkhnidlcnab
set_option maxRecDepth 100000
open Go.RowKit

theorem Filled.grownW {w w' : World} {g k : Nat} {xs : List OpR} {row : Option Nat} (h : Filled w g xs k) (hg : w.grownBy w' row) (hne : some g ≠ row) : Filled w' g xs k := by
  obtain ⟨h1, h2, h3⟩ := h
  have hb := hg.block g h1 hne
  have e : ∀ o, w'.cell? ⟨g, o, none⟩ = w.cell? ⟨g, o, none⟩ := fun o => World.cell?_of_block (w := w) hb
  have f : ∀ o, w'.frozen? ⟨g, o, none⟩ = w.frozen? ⟨g, o, none⟩ := fun o => World.frozen?_of_block (w := w) hb
  refine ⟨Nat.lt_of_lt_of_le h1 hg.size, fun j hj => ⟨by rw [e]; exact (h2 j hj).1, by rw [f]; exact (h2 j hj).2⟩, fun i hi => ?_⟩
  obtain ⟨a0, a1, a2, a3⟩ := h3 i hi
  exact ⟨(e _).trans a0, (e _).trans a1, (e _).trans a2, (e _).trans a3⟩

set_option maxHeartbeats 1000000 in
theorem markTableF (g cap k : Nat) (xs : List OpR) (w : World) (hm : xs.length ≤ 1048576) (h1 : 1 ≤ k) (hk : k ≤ 10000000) (hf : Filled w g xs xs.length) :
    Calls Try.prog 15 #[.agg #[.slice (some ⟨g, 0, none⟩) xs.length cap], .int .i64 (k : Int)] w fun e w' => (∃ k' : Nat, e = .returned (.int .i64 (k' : Int)) ∧ Hid (k' = k + 4 * xs.length)) ∧ w.grownBy w' (some g) := by
  have HF := hide (fun o => hf.below (below1 w o) hf.1)
  clear hf
  go_enter Try.func15, Try.ntmps15
  go_wp2_with fail
  refine (markOpS_any g cap k xs _ hm h1 hk (unhide HF _)).mono ?_
  rintro e w1 ⟨rfl, _, hk1⟩
  have HK1 := hide hk1
  clear hk1
  go_wp2_with fail
  go_ret
  exact ⟨⟨_, rfl, hide rfl⟩, grown_kept1 ((Kept1.of_below (below1 _ _)).trans (unhide HK1))⟩

theorem markTable1 (g cap : Nat) (xs : List OpR) (w : World) (hm : xs.length ≤ 1048576) (hf : Filled w g xs xs.length) :
    Calls Try.prog 15 #[.agg #[.slice (some ⟨g, 0, none⟩) xs.length cap], .int .i64 1] w fun e w' => (∃ k' : Nat, e = .returned (.int .i64 (k' : Int)) ∧ Hid (k' = 1 + 4 * xs.length)) ∧ w.grownBy w' (some g) :=
  markTableF g cap 1 xs w hm (Nat.le_refl _) (by omega) hf

theorem Filled.argW {w : World} {g : Nat} {us : List OpR} (h : Filled w g us us.length) : Arg w (some ⟨g, 0, none⟩) us := Or.inr ⟨g, 0, rfl, h.ops, h.1⟩
/-- A marked list of tokens. -/
def MarkedT (w : World) (a : Option Addr) (k n : Nat) : Prop := (n = 0 ∧ a = none) ∨ ∃ g, a = some ⟨g, 0, none⟩ ∧ FilledT w g (mksT k n) n

theorem MarkedT.grown {w w' : World} {a : Option Addr} {k n : Nat} {row : Option Nat} (h : MarkedT w a k n) (hg : w.grownBy w' row) (hne : ∀ q, a.map (·.block) = some q → some q ≠ row) : MarkedT w' a k n := by
  rcases h with h | ⟨g, rfl, hf⟩
  · exact Or.inl h
  · exact Or.inr ⟨g, rfl, hf.grown hg (hne g rfl)⟩

theorem MarkedT.step {w w' : World} {a : Option Addr} {k n : Nat} (h : MarkedT w a k n) (hb : Below w.heap.size w w') : MarkedT w' a k n :=
  h.grown (grown_bel hb none) (fun q _ => by simp)

set_option maxHeartbeats 1000000 in
theorem markTS_own (a : Option Addr) (cap n0 : Nat) (xs : List TokR) (w : World) (hm : xs.length ≤ 1048576) (h : OwnedT w n0 a xs) :
    Calls Try.prog 20 #[.slice a xs.length cap, .int .i64 1] w fun e w' => (∃ k' : Nat, e = .returned (.int .i64 (k' : Int)) ∧ Hid (k' = 1 + 3 * xs.length)) ∧ Hid (MarkedT w' a 1 xs.length) ∧ w.grownBy w' (a.map (·.block)) := by
  rcases h with ⟨h0, rfl⟩ | ⟨g, rfl, _, hf⟩
  · obtain rfl := List.eq_nil_of_length_eq_zero h0
    go_enter Try.func20, Try.ntmps20
    go_wp2
    refine wp_loop_rounds 1 ?_
    rw [rounds_succ]
    go_wp2
    go_ret
    exact ⟨⟨1, rfl, hide rfl⟩, hide (Or.inl ⟨rfl, rfl⟩), grown_bel (Below.refl _ _) _⟩
  · refine (markTS_any g cap 1 xs w hm (Nat.le_refl _) (by omega) hf).mono ?_
    rintro e w1 ⟨⟨k', rfl, hk'⟩, hf1, hk1⟩
    exact ⟨⟨k', rfl, hk'⟩, hide (Or.inr ⟨g, rfl, unhide hf1⟩), (unhide hk1).grown⟩

set_option maxHeartbeats 1000000 in
theorem heldTS_own (a : Option Addr) (cap n : Nat) (w : World) (hm : n ≤ 1048576) (h : MarkedT w a 1 n) :
    Calls Try.prog 21 #[.slice a n cap, .int .i64 1] w fun e w' => (∃ k' : Nat, e = .returned (.int .i64 (k' : Int)) ∧ Hid (k' = 1 + 3 * n)) ∧ Below w.heap.size w w' := by
  rcases h with ⟨rfl, rfl⟩ | ⟨g, rfl, hf⟩
  · go_enter Try.func21, Try.ntmps21
    go_wp2
    refine wp_loop_rounds 1 ?_
    rw [rounds_succ]
    go_wp2
    go_ret
    exact ⟨⟨1, rfl, hide rfl⟩, Below.refl _ _⟩
  · exact heldTS_any g cap 1 n w hm (Nat.le_refl _) (by omega) hf

/-- Variables of one cell, rows of operators, rows of tokens; nothing that was there has turned. -/
structure StL (w wc : World) (cs : List (Nat × Value)) (rs : List (Nat × List OpR)) (ts : List (Nat × List TokR)) : Prop where
  cells : ∀ p ∈ cs, wc.cell? ⟨p.1, 0, none⟩ = some p.2
  rows : ∀ r ∈ rs, Filled wc r.1 r.2 r.2.length
  toks : ∀ r ∈ ts, FilledT wc r.1 r.2 r.2.length
  bel : Below w.heap.size w wc

theorem StL.start (w : World) : StL w w [] [] [] := ⟨fun p hp => (by cases hp), fun r hr => (by cases hr), fun r hr => (by cases hr), Below.refl _ _⟩

theorem StL.grown {w wc w' : World} {cs : List (Nat × Value)} {rs : List (Nat × List OpR)} {ts : List (Nat × List TokR)} {row : Option Nat} (h : StL w wc cs rs ts) (hg : wc.grownBy w' row) (hr : ∀ k, row = some k → w.heap.size ≤ k ∧ (∀ p ∈ cs, p.1 ≠ k) ∧ (∀ r ∈ rs, r.1 ≠ k) ∧ ∀ r ∈ ts, r.1 ≠ k) : StL w w' cs rs ts := by
  refine ⟨fun p hp => ?_, fun r hrs => ?_, fun r hrs => ?_, h.bel.grown hg h.bel.size (fun k hk => (hr k hk).1)⟩
  · exact hg.cell (h.cells p hp) (fun e => (hr p.1 e.symm).2.1 p hp rfl)
  · exact (h.rows r hrs).grownW hg (fun e => (hr r.1 e.symm).2.2.1 r hrs rfl)
  · exact (h.toks r hrs).grown hg (fun e => (hr r.1 e.symm).2.2.2 r hrs rfl)

theorem StL.step {w wc w' : World} {cs : List (Nat × Value)} {rs : List (Nat × List OpR)} {ts : List (Nat × List TokR)} (h : StL w wc cs rs ts) (hb : Below wc.heap.size wc w') : StL w w' cs rs ts :=
  h.grown (grown_bel hb none) (fun k hk => by cases hk)

theorem StL.drew {w wc : World} {cs : List (Nat × Value)} {rs : List (Nat × List OpR)} {ts : List (Nat × List TokR)} (h : StL w wc cs rs ts) : StL w wc.drew cs rs ts := h.step (Below.refl _ _).drew

theorem StL.addc {w wc : World} {cs : List (Nat × Value)} {rs : List (Nat × List OpR)} {ts : List (Nat × List TokR)} (h : StL w wc cs rs ts) {b : Nat} {v : Value} (hc : wc.cell? ⟨b, 0, none⟩ = some v) : StL w wc ((b, v) :: cs) rs ts :=
  ⟨fun p hp => by rcases List.mem_cons.1 hp with rfl | hp
                  · exact hc
                  · exact h.cells p hp, h.rows, h.toks, h.bel⟩

theorem StL.addr {w wc : World} {cs : List (Nat × Value)} {rs : List (Nat × List OpR)} {ts : List (Nat × List TokR)} (h : StL w wc cs rs ts) {g : Nat} {xs : List OpR} (hf : Filled wc g xs xs.length) : StL w wc cs ((g, xs) :: rs) ts :=
  ⟨h.cells, fun r hr => by rcases List.mem_cons.1 hr with rfl | hr
                           · exact hf
                           · exact h.rows r hr, h.toks, h.bel⟩

theorem StL.addt {w wc : World} {cs : List (Nat × Value)} {rs : List (Nat × List OpR)} {ts : List (Nat × List TokR)} (h : StL w wc cs rs ts) {g : Nat} {xs : List TokR} (hf : FilledT wc g xs xs.length) : StL w wc cs rs ((g, xs) :: ts) :=
  ⟨h.cells, h.rows, fun r hr => by rcases List.mem_cons.1 hr with rfl | hr
                                   · exact hf
                                   · exact h.toks r hr, h.bel⟩

theorem StL.alloc {w wc : World} {cs : List (Nat × Value)} {rs : List (Nat × List OpR)} {ts : List (Nat × List TokR)} (h : StL w wc cs rs ts) (v : Value) (t : TypeId) : StL w (wc.alloc (.cells #[v] t)) ((wc.heap.size, v) :: cs) rs ts :=
  (h.step (below1 _ _)).addc (by simp [go_sem])

theorem StL.sub {w wc : World} {cs cs' : List (Nat × Value)} {rs rs' : List (Nat × List OpR)} {ts ts' : List (Nat × List TokR)} (h : StL w wc cs rs ts) (hc : ∀ p ∈ cs', p ∈ cs) (hr : ∀ r ∈ rs', r ∈ rs) (ht : ∀ r ∈ ts', r ∈ ts) : StL w wc cs' rs' ts' :=
  ⟨fun p hp => h.cells p (hc p hp), fun r hp => h.rows r (hr r hp), fun r hp => h.toks r (ht r hp), h.bel⟩

theorem StL.lt {w wc : World} {cs : List (Nat × Value)} {rs : List (Nat × List OpR)} {ts : List (Nat × List TokR)} (h : StL w wc cs rs ts) : (∀ p ∈ cs, p.1 < wc.heap.size) ∧ (∀ r ∈ rs, r.1 < wc.heap.size) ∧ ∀ r ∈ ts, r.1 < wc.heap.size :=
  ⟨fun p hp => block_lt_of_cell (h.cells p hp), fun r hr => (h.rows r hr).1, fun r hr => (h.toks r hr).1⟩

/-- A copy of an argument's table, made in whatever world. -/
theorem toTable_inL {w : World} (a : Option Addr) (cap : Nat) (xs : List OpR) (W : World) (hm : xs.length ≤ 1048576) (ha : Arg w a xs) (hb : Below w.heap.size w W) :
    Calls Try.prog 12 #[.agg #[.slice a xs.length cap]] W fun e w' => (∃ g, e = .returned (.agg #[.slice (some ⟨g, 0, none⟩) xs.length xs.length]) ∧ W.heap.size ≤ g ∧ Hid (Filled w' g xs xs.length)) ∧ Below W.heap.size W w' := by
  refine (toTable_any a cap xs W hm (ha.below hb)).mono ?_
  rintro e w' ⟨⟨g, rfl, hg, hf⟩, hb'⟩
  exact ⟨⟨g, rfl, hg, hide hf⟩, hb'⟩

end Go.Proofs.Ytokabkhnidlcnab

/-
  What the law of Group keeps in memory: cells, rows of operators, rows of nodes.
-/
namespace Go.Proofs.Ytokabkhnidlcnab
set_option maxRecDepth 100000
set_option linter.unusedSimpArgs false
set_option linter.unusedVariables false
open Go.RowKit

/-- Cells, rows of operators and rows of nodes, in a world that has grown out of w. -/
structure StG (w wc : World) (cs : List (Nat × Value)) (os : List (Nat × List OpR)) (rs : List (Option Addr × List NodeR)) : Prop where
  tree : StT w wc cs rs
  ops : ∀ r ∈ os, Filled wc r.1 r.2 r.2.length

theorem StG.start (w : World) : StG w w [] [] [] := ⟨StT.start w, fun r hr => (by cases hr)⟩
theorem StG.step {w wc w' : World} {cs : List (Nat × Value)} {os : List (Nat × List OpR)} {rs : List (Option Addr × List NodeR)} (h : StG w wc cs os rs) (hb : Below wc.heap.size wc w') : StG w w' cs os rs :=
  ⟨h.tree.step hb, fun r hr => (h.ops r hr).below hb (h.ops r hr).1⟩
theorem StG.drew {w wc : World} {cs : List (Nat × Value)} {os : List (Nat × List OpR)} {rs : List (Option Addr × List NodeR)} (h : StG w wc cs os rs) : StG w wc.drew cs os rs := h.step (Below.refl _ _).drew
theorem StG.alloc {w wc : World} {cs : List (Nat × Value)} {os : List (Nat × List OpR)} {rs : List (Option Addr × List NodeR)} (h : StG w wc cs os rs) (v : Value) (t : TypeId) : StG w (wc.alloc (.cells #[v] t)) ((wc.heap.size, v) :: cs) os rs :=
  ⟨h.tree.alloc v t, fun r hr => (h.ops r hr).below (below1 _ _) (h.ops r hr).1⟩
theorem StG.addr {w wc : World} {cs : List (Nat × Value)} {os : List (Nat × List OpR)} {rs : List (Option Addr × List NodeR)} (h : StG w wc cs os rs) {n : Nat} {a : Option Addr} {us : List NodeR} (hf : OwnedN wc n a us) : StG w wc cs os ((a, us) :: rs) := ⟨h.tree.addr hf, h.ops⟩
theorem StG.addo {w wc : World} {cs : List (Nat × Value)} {os : List (Nat × List OpR)} {rs : List (Option Addr × List NodeR)} (h : StG w wc cs os rs) {g : Nat} {xs : List OpR} (hf : Filled wc g xs xs.length) : StG w wc cs ((g, xs) :: os) rs :=
  ⟨h.tree, fun r hr => by
    rcases List.mem_cons.1 hr with rfl | hr
    · exact hf
    · exact h.ops r hr⟩
theorem StG.addc {w wc : World} {cs : List (Nat × Value)} {os : List (Nat × List OpR)} {rs : List (Option Addr × List NodeR)} (h : StG w wc cs os rs) {b : Nat} {v : Value} (hc : wc.cell? ⟨b, 0, none⟩ = some v) : StG w wc ((b, v) :: cs) os rs := ⟨h.tree.addc hc, h.ops⟩
theorem StG.sub {w wc : World} {cs cs' : List (Nat × Value)} {os os' : List (Nat × List OpR)} {rs rs' : List (Option Addr × List NodeR)} (h : StG w wc cs os rs) (hc : ∀ p ∈ cs', p ∈ cs) (ho : ∀ r ∈ os', r ∈ os) (hr : ∀ r ∈ rs', r ∈ rs) : StG w wc cs' os' rs' :=
  ⟨h.tree.sub hc hr, fun r h' => h.ops r (ho r h')⟩
theorem StG.grown {w wc w' : World} {cs : List (Nat × Value)} {os : List (Nat × List OpR)} {rs : List (Option Addr × List NodeR)} {row : Option Nat} (h : StG w wc cs os rs) (hg : wc.grownBy w' row) (hr : ∀ k, row = some k → w.heap.size ≤ k ∧ (∀ p ∈ cs, p.1 ≠ k) ∧ (∀ r ∈ os, r.1 ≠ k) ∧ ∀ r ∈ rs, r.1.map (·.block) ≠ some k) : StG w w' cs os rs :=
  ⟨h.tree.grown hg (fun k hk => ⟨(hr k hk).1, (hr k hk).2.1, (hr k hk).2.2.2⟩), fun r h' => (h.ops r h').grownW hg (fun e => (hr r.1 e.symm).2.2.1 r h' rfl)⟩
theorem StG.bel {w wc : World} {cs : List (Nat × Value)} {os : List (Nat × List OpR)} {rs : List (Option Addr × List NodeR)} (h : StG w wc cs os rs) : Below w.heap.size w wc := h.tree.bel
theorem StG.cell {w wc : World} {cs : List (Nat × Value)} {os : List (Nat × List OpR)} {rs : List (Option Addr × List NodeR)} (h : StG w wc cs os rs) (p : Nat × Value) (hp : p ∈ cs) : wc.cell? ⟨p.1, 0, none⟩ = some p.2 := h.tree.cells p hp
theorem StG.lt {w wc : World} {cs : List (Nat × Value)} {os : List (Nat × List OpR)} {rs : List (Option Addr × List NodeR)} (h : StG w wc cs os rs) : ∀ p ∈ cs, p.1 < wc.heap.size := h.tree.lt

/-- A store into a variable of one cell. -/
theorem StG.store {w wc : World} {cs : List (Nat × Value)} {os : List (Nat × List OpR)} {rs : List (Option Addr × List NodeR)} (h : StG w wc cs os rs) {b : Nat} {u : Value} (v : Value) (hc : wc.cell? ⟨b, 0, none⟩ = some u) (h1 : w.heap.size ≤ b) (h2 : ∀ p ∈ cs, p.1 ≠ b) (h3 : ∀ r ∈ os, r.1 ≠ b) (h4 : ∀ r ∈ rs, r.1.map (·.block) ≠ some b) : StG w (wc.setCell ⟨b, 0, none⟩ v) ((b, v) :: cs) os rs :=
  (h.grown (w' := wc.setCell ⟨b, 0, none⟩ v) (row := some b) (⟨rfl, rfl, rfl, by simp [World.setCell], fun i _ hi => Below.heap_setCell _ _ _ _ (fun e => hi (by rw [e]))⟩ : wc.grownBy (wc.setCell ⟨b, 0, none⟩ v) (some b)) (fun k hk => by
    injection hk with hk
    subst hk
    exact ⟨h1, h2, h3, h4⟩)).addc (World.cell?_setCell_same wc ⟨b, 0, none⟩ v hc)

/-- A copy of a table, in whatever state. -/
theorem toTableG {w W : World} {cs : List (Nat × Value)} {os : List (Nat × List OpR)} {rs : List (Option Addr × List NodeR)} (a : Option Addr) (cap : Nat) (xs : List OpR) (hm : xs.length ≤ 1048576) (ha : Arg w a xs) (hs : StG w W cs os rs) :
    Calls Try.prog 12 #[.agg #[.slice a xs.length cap]] W fun e w' => ∃ g, e = .returned (.agg #[.slice (some ⟨g, 0, none⟩) xs.length xs.length]) ∧ W.heap.size ≤ g ∧ g < w'.heap.size ∧ Below W.heap.size W w' ∧ Hid (StG w w' cs ((g, xs) :: os) rs) := by
  refine (toTable_inL (w := w) a cap xs W hm ha hs.bel).mono ?_
  rintro e w' ⟨⟨g, rfl, hg, hf⟩, hb⟩
  exact ⟨g, rfl, hg, (unhide hf).1, hb, hide ((hs.step hb).addo (unhide hf))⟩

/-- A copy of a tree, in whatever state. -/
theorem toTreeG {w W : World} {cs : List (Nat × Value)} {os : List (Nat × List OpR)} {rs : List (Option Addr × List NodeR)} (a : Option Addr) (cap : Nat) (xs : List NodeR) (hm : xs.length ≤ 1048576) (ha : ArgN w a xs) (hs : StG w W cs os rs) :
    Calls Try.prog 33 #[.agg #[.slice a xs.length cap]] W fun e w' => ∃ g, e = .returned (.agg #[.slice (some ⟨g, 0, none⟩) xs.length xs.length]) ∧ W.heap.size ≤ g ∧ g < w'.heap.size ∧ Below W.heap.size W w' ∧ Hid (StG w w' cs os ((some ⟨g, 0, none⟩, xs) :: rs)) := by
  refine (toTree_in (w := w) a cap xs W hm ha hs.bel).mono ?_
  rintro e w' ⟨⟨g, rfl, hg, hgl, hf⟩, hb⟩
  exact ⟨g, rfl, hg, hgl, hb, hide ((hs.step hb).addr ((unhide hf).owned (Nat.zero_le _)))⟩

theorem owned_some {w : World} {g : Nat} {xs : List NodeR} (h : OwnedN w 0 (some ⟨g, 0, none⟩) xs) : FilledN w g xs xs.length := by
  rcases h with ⟨_, h⟩ | ⟨g', h, _, h'⟩
  · simp at h
  · simp at h; subst h; exact h'

theorem StG.row {w wc : World} {cs : List (Nat × Value)} {os : List (Nat × List OpR)} {rs : List (Option Addr × List NodeR)} (h : StG w wc cs os rs) {g : Nat} {xs : List NodeR} (hr : (some ⟨g, 0, none⟩, xs) ∈ rs) : FilledN wc g xs xs.length := by
  rcases h.tree.rows _ hr with ⟨_, h⟩ | ⟨g', h, _, h'⟩
  · simp at h
  · simp at h; subst h; exact h'

/-- The one answer of Group. -/
theorem GroupIs.some_of (ns : List OpR) (xs : List NodeR) : ∃ us v, GroupIs ns xs us v := by
  by_cases h : (IsCode ns 0 ∧ InOrd xs ∧ Knows ns xs) ∧ (gS ns xs (xs.length - 1) 0 0).length ≤ 20000
  · exact ⟨_, true, Or.inl ⟨h, rfl, rfl⟩⟩
  · exact ⟨[], false, Or.inr ⟨h, rfl, rfl⟩⟩

theorem specGroupG {w W : World} {cs : List (Nat × Value)} {os : List (Nat × List OpR)} {rs : List (Option Addr × List NodeR)} (g3 g4 c3 c4 : Nat) (ns : List OpR) (xs us : List NodeR) (v : Bool) (hm : ns.length ≤ 1048576) (hmn : xs.length ≤ 1048576) (hsz : Sized ns) (hsn : SizedN xs) (h3 : (g3, ns) ∈ os) (h4 : (some ⟨g4, 0, none⟩, xs) ∈ rs) (hu : GroupIs ns xs us v) (hs : StG w W cs os rs) :
    Calls Try.prog 40 #[.agg #[.slice (some ⟨g3, 0, none⟩) ns.length c3], .agg #[.slice (some ⟨g4, 0, none⟩) xs.length c4]] W fun e w' => ∃ a c, e = .returned (.tuple #[.agg #[.slice a us.length c], .bool v]) ∧ Hid (∀ k, a.map (·.block) = some k → W.heap.size ≤ k ∧ k < w'.heap.size) ∧ Below W.heap.size W w' ∧ Hid (StG w w' cs os ((a, us) :: rs)) := by
  refine (specGroup_any g3 0 c3 g4 0 c4 ns xs W hm hmn (hs.ops _ h3).ops hsz (hs.ops _ h3).1 (hs.row h4).ops hsn (hs.row h4).1).mono ?_
  rintro e w' ⟨⟨a, c, us', v', rfl, ho, hg⟩, hb⟩
  obtain ⟨rfl, rfl⟩ := (unhide hg).one hu
  exact ⟨a, c, rfl, hide (unhide ho).lt, hb, hide ((hs.step hb).addr (unhide ho))⟩

theorem implGroupG {w W : World} {cs : List (Nat × Value)} {os : List (Nat × List OpR)} {rs : List (Option Addr × List NodeR)} (g3 g4 c3 c4 : Nat) (ns : List OpR) (xs us : List NodeR) (v : Bool) (hm : ns.length ≤ 1048576) (hmn : xs.length ≤ 1048576) (hsz : Sized ns) (hsn : SizedN xs) (h3 : (g3, ns) ∈ os) (h4 : (some ⟨g4, 0, none⟩, xs) ∈ rs) (hu : GroupIs ns xs us v) (hs : StG w W cs os rs) :
    Calls Try.prog 41 #[.agg #[.slice (some ⟨g3, 0, none⟩) ns.length c3], .agg #[.slice (some ⟨g4, 0, none⟩) xs.length c4]] W fun e w' => ∃ a c, e = .returned (.tuple #[.agg #[.slice a us.length c], .bool v]) ∧ Hid (∀ k, a.map (·.block) = some k → W.heap.size ≤ k ∧ k < w'.heap.size) ∧ Below W.heap.size W w' ∧ Hid (StG w w' cs os ((a, us) :: rs)) := by
  refine (implGroup_any g3 0 c3 g4 0 c4 ns xs W hm hmn (hs.ops _ h3).ops hsz (hs.ops _ h3).1 (hs.row h4).ops hsn (hs.row h4).1).mono ?_
  rintro e w' ⟨⟨a, c, us', v', rfl, ho, hg⟩, hb⟩
  obtain ⟨rfl, rfl⟩ := (unhide hg).one hu
  exact ⟨a, c, rfl, hide (unhide ho).lt, hb, hide ((hs.step hb).addr (unhide ho))⟩

set_option maxHeartbeats 1000000 in
/-- Marks in a tree of its own, counted from whatever on. -/
theorem markTreeF (g cap k : Nat) (xs : List NodeR) (w : World) (hm : xs.length ≤ 1048576) (h1 : 1 ≤ k) (hk : k ≤ 10000000) (hf : FilledN w g xs xs.length) :
    Calls Try.prog 38 #[.agg #[.slice (some ⟨g, 0, none⟩) xs.length cap], .int .i64 (k : Int)] w fun e w' => (∃ k' : Nat, e = .returned (.int .i64 (k' : Int)) ∧ Hid (k' = k + 4 * xs.length)) ∧ w.grownBy w' (some g) := by
  have HF := hide (fun o => hf.below (below1 w o) hf.1)
  clear hf
  go_enter Try.func38, Try.ntmps38
  go_wp2_with fail
  refine (markNS_any g cap k xs _ hm h1 hk (unhide HF _)).mono ?_
  rintro e w1 ⟨⟨k', rfl, hk'⟩, hf1, hk1⟩
  go_wp2_with fail
  go_ret
  exact ⟨⟨k', rfl, hk'⟩, ((KeptN.refl w g).below (below1 _ _) |>.trans (unhide hk1)).grown⟩
end Go.Proofs.Ytokabkhnidlcnab
