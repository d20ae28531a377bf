import Derived.Test.YtokabkhnidlcnabGreatR01
import Derived.Test.YtokabkhnidlcnabGreatR10
import Derived.Test.YtokabkhnidlcnabGreatR33

/-
  What the laws do with rows of nodes: equality, marks.
-/
namespace Go.Proofs.YtokabkhnidlcnabGreat
set_option maxRecDepth 100000
open Go.RowKit

/-- What is left behind a list. -/
def LeftN (left r : Int) (xs : List NodeR) : Prop := r < 0 ∨ (0 ≤ r ∧ r + xs.length + totToN xs xs.length = left)

set_option maxHeartbeats 400000 in
theorem eqN_same (o : NodeR) (w : World) :
    Calls Tryz.prog 75 #[.agg #[.int .i64 o.k, .string o.t, .int .i64 o.a, .int .i64 o.b], .agg #[.int .i64 o.k, .string o.t, .int .i64 o.a, .int .i64 o.b]] w fun e w' => e = .returned (.bool true) ∧ Below w.heap.size w w' := by
  go_enter Tryz.func75, Tryz.ntmps75
  go_wp2
  go_ret
  exact ⟨rfl, (below1 _ _).alloc (by simp) _⟩

set_option maxHeartbeats 1000000 in
theorem eqNS_same (b off b' off' cap cap' : Nat) (xs : List NodeR) (w : World) (hm : xs.length ≤ 1048576) (h : OpsN w b off xs) (h' : OpsN w b' off' xs) (hB : b < w.heap.size) (hB' : b' < w.heap.size) :
    Calls Tryz.prog 37 #[.slice (some ⟨b, off, none⟩) xs.length cap, .slice (some ⟨b', off', none⟩) xs.length cap'] w fun e w' => e = .returned (.bool true) ∧ Below w.heap.size w w' := by
  go_enter Tryz.func37, Tryz.ntmps37
  go_wp2
  go_loopw [5] (fun i wr => ∃ k : Nat, k ≤ xs.length ∧ i = .int .i64 k ∧ Below w.heap.size w wr) (fun i _ => xs.length - (intOf i).toNat)
  case atStart => exact ⟨0, Nat.zero_le _, rfl, Below.refl _ _⟩
  case round =>
    obtain ⟨k, hk, rfl, hbel⟩ := hrel
    by_cases hlt : k < xs.length
    · obtain ⟨a0, a1, a2, a3⟩ := (h k hlt).below hbel hB
      obtain ⟨c0, c1, c2, c3⟩ := (h' k hlt).below hbel hB'
      have hltI : (k : Int) < (xs.length : Int) := by omega
      have zb : b < wr.heap.size := Nat.lt_of_lt_of_le hB hbel.size
      have zb' : b' < wr.heap.size := Nat.lt_of_lt_of_le hB' hbel.size
      go_wp2_with fail
      go_region_held (fun w' => w'.cell? ⟨b, off + k * 4, none⟩ = some (.int .i64 (atN xs k).k) ∧ w'.cell? ⟨b, off + k * 4 + 1, none⟩ = some (.string (atN xs k).t) ∧ w'.cell? ⟨b, off + k * 4 + 2, none⟩ = some (.int .i64 (atN xs k).a) ∧ w'.cell? ⟨b, off + k * 4 + 3, none⟩ = some (.int .i64 (atN xs k).b) ∧ w'.cell? ⟨b', off' + k * 4, none⟩ = some (.int .i64 (atN xs k).k) ∧ w'.cell? ⟨b', off' + k * 4 + 1, none⟩ = some (.string (atN xs k).t) ∧ w'.cell? ⟨b', off' + k * 4 + 2, none⟩ = some (.int .i64 (atN xs k).a) ∧ w'.cell? ⟨b', off' + k * 4 + 3, none⟩ = some (.int .i64 (atN xs k).b)) (go_keep)
        (first | (go_at_call 75; refine (eqN_same (atN xs k) _).mono ?_; rintro e w1 ⟨rfl, hb1⟩; have q0 := (hb1.cell (p := ⟨b, off + k * 4, none⟩) zb).trans (show wr.drew.cell? ⟨b, off + k * 4, none⟩ = _ from a0); have q1 := (hb1.cell (p := ⟨b, off + k * 4 + 1, none⟩) zb).trans (show wr.drew.cell? ⟨b, off + k * 4 + 1, none⟩ = _ from a1); have q2 := (hb1.cell (p := ⟨b, off + k * 4 + 2, none⟩) zb).trans (show wr.drew.cell? ⟨b, off + k * 4 + 2, none⟩ = _ from a2); have q3 := (hb1.cell (p := ⟨b, off + k * 4 + 3, none⟩) zb).trans (show wr.drew.cell? ⟨b, off + k * 4 + 3, none⟩ = _ from a3); have p0 := (hb1.cell (p := ⟨b', off' + k * 4, none⟩) zb').trans (show wr.drew.cell? ⟨b', off' + k * 4, none⟩ = _ from c0); have p1 := (hb1.cell (p := ⟨b', off' + k * 4 + 1, none⟩) zb').trans (show wr.drew.cell? ⟨b', off' + k * 4 + 1, none⟩ = _ from c1); have p2 := (hb1.cell (p := ⟨b', off' + k * 4 + 2, none⟩) zb').trans (show wr.drew.cell? ⟨b', off' + k * 4 + 2, none⟩ = _ from c2); have p3 := (hb1.cell (p := ⟨b', off' + k * 4 + 3, none⟩) zb').trans (show wr.drew.cell? ⟨b', off' + k * 4 + 3, none⟩ = _ from c3)))
      go_wp2
      exact ⟨⟨k + 1, by omega, by go_num, hbel.trans (((Below.refl _ _).drew.trans hb1).mono hbel.size)⟩, by simp [intOf]; omega⟩
    · go_wp2
      go_ret
      exact ⟨rfl, hbel⟩

set_option maxHeartbeats 1000000 in
theorem eqNS_arg (a a' : Option Addr) (cap cap' : Nat) (xs : List NodeR) (w : World) (hm : xs.length ≤ 1048576) (h : ArgN w a xs) (h' : ArgN w a' xs) :
    Calls Tryz.prog 37 #[.slice a xs.length cap, .slice a' xs.length cap'] w fun e w' => e = .returned (.bool true) ∧ Below w.heap.size w w' := by
  by_cases h0 : xs.length = 0
  · obtain rfl := List.eq_nil_of_length_eq_zero h0
    clear h h' h0 hm
    go_enter Tryz.func37, Tryz.ntmps37
    go_wp2
    refine wp_loop_rounds 1 ?_
    rw [rounds_succ]
    go_wp2
    go_ret
    exact ⟨rfl, Below.refl _ _⟩
  · rcases h with h | ⟨b, off, rfl, h1, h2⟩
    · exact absurd h h0
    · rcases h' with h' | ⟨b', off', rfl, h1', h2'⟩
      · exact absurd h' h0
      · exact eqNS_same b off b' off' cap cap' xs w hm h1 h1' h2 h2'

/-- The marks from k on. -/
def mkN (c : Nat) : NodeR := ⟨(c : Int), MT (c + 1), (c : Int) + 1 + 1, (c : Int) + 1 + 1 + 1⟩
def mksN (k n : Nat) : List NodeR := (List.range n).map fun i => mkN (k + 4 * i)
theorem mksN_len (k n : Nat) : (mksN k n).length = n := by simp [mksN]
theorem mksN_at {k n i : Nat} (h : i < n) : atN (mksN k n) i = mkN (k + 4 * i) := by simp [atN, mksN, h]

/-- n elements are whole; of the next one m cells hold what they must. -/
def PartN (w : World) (g : Nat) (xs : List NodeR) (n m : Nat) : Prop := FilledN w g xs n ∧ ∀ j v, j < m → [.int .i64 (atN xs n).k, .string (atN xs n).t, .int .i64 (atN xs n).a, .int .i64 (atN xs n).b][j]? = some v → w.cell? ⟨g, n * 4 + j, none⟩ = some v

theorem PartN.start {w : World} {g n : Nat} {xs : List NodeR} (h : FilledN w g xs n) : PartN w g xs n 0 := ⟨h, fun j _ hj => absurd hj (Nat.not_lt_zero j)⟩

theorem PartN.below {w w' : World} {g n m : Nat} {xs : List NodeR} {B : Nat} (h : PartN w g xs n m) (hb : Below B w w') (hB : g < B) : PartN w' g xs n m :=
  ⟨h.1.below hb hB, fun j v hj hv => (hb.cell (p := ⟨g, _, none⟩) hB).trans (h.2 j v hj hv)⟩

theorem PartN.set {w : World} {g n m : Nat} {xs : List NodeR} (h : PartN w g xs n m) (hn : n < xs.length) (hm : m < 4) {v : Value} (hv : [.int .i64 (atN xs n).k, .string (atN xs n).t, .int .i64 (atN xs n).a, .int .i64 (atN xs n).b][m]? = some v) : PartN (w.setCell ⟨g, n * 4 + m, none⟩ v) g xs n (m + 1) := by
  obtain ⟨⟨h1, h2, h3⟩, h4⟩ := h
  obtain ⟨u, hu⟩ := Option.isSome_iff_exists.1 (h2 (n * 4 + m) (by omega)).1
  rw [Nat.zero_add] at hu
  have oth : ∀ o, o ≠ n * 4 + m → (w.setCell ⟨g, n * 4 + m, none⟩ v).cell? ⟨g, o, none⟩ = w.cell? ⟨g, o, none⟩ := fun o ho => World.cell?_setCell_other _ _ _ _ (fun e => ho (by injection e with _ e; exact e.symm))
  refine ⟨⟨by simpa [World.setCell] using h1, fun j hj => ⟨?_, ?_⟩, fun i hi => ?_⟩, fun j u' hj hu' => ?_⟩
  · by_cases e : 0 + j = n * 4 + m
    · rw [e, World.cell?_setCell_same _ _ _ hu]; rfl
    · rw [oth _ e]; exact (h2 j hj).1
  · rw [World.frozen?_setCell]; exact (h2 j hj).2
  · obtain ⟨a0, a1, a2, a3⟩ := h3 i hi
    exact ⟨(oth _ (by omega)).trans a0, (oth _ (by omega)).trans a1, (oth _ (by omega)).trans a2, (oth _ (by omega)).trans a3⟩
  · by_cases e : j = m
    · subst e
      rw [hv] at hu'
      injection hu' with hu'
      subst hu'
      exact World.cell?_setCell_same _ _ _ hu
    · rw [oth _ (by omega)]
      exact h4 j u' (by omega) hu'

theorem PartN.done {w : World} {g n : Nat} {xs : List NodeR} (h : PartN w g xs n 4) : FilledN w g xs (n + 1) := by
  obtain ⟨⟨h1, h2, h3⟩, h4⟩ := h
  refine ⟨h1, h2, fun i hi => ?_⟩
  by_cases e : i = n
  · subst e
    exact ⟨by simpa using h4 0 _ (by omega) rfl, by simpa using h4 1 _ (by omega) rfl, by simpa using h4 2 _ (by omega) rfl, by simpa using h4 3 _ (by omega) rfl⟩
  · exact h3 i (by omega)

/-- The next cell may be written. -/
theorem PartN.cell {w : World} {g n m : Nat} {xs : List NodeR} (h : PartN w g xs n m) (hn : n < xs.length) (j : Nat) (hj : j < 4) : (∃ u, w.cell? ⟨g, n * 4 + j, none⟩ = some u) ∧ w.frozen? ⟨g, n * 4 + j, none⟩ = false := by
  have := h.1.2.1 (n * 4 + j) (by omega)
  rw [Nat.zero_add] at this
  exact ⟨Option.isSome_iff_exists.1 this.1, this.2⟩

/-- Nothing but one block has turned. -/
structure KeptN (w w' : World) (g : Nat) : Prop where
  os : w'.os = w.os
  tape : w'.tape = w.tape
  output : w'.output = w.output
  size : w.heap.size ≤ w'.heap.size
  block : ∀ i, i < w.heap.size → i ≠ g → w'.heap[i]? = w.heap[i]?

theorem KeptN.refl (w : World) (g : Nat) : KeptN w w g := ⟨rfl, rfl, rfl, Nat.le_refl _, fun _ _ _ => rfl⟩
theorem KeptN.trans {w w1 w2 : World} {g : Nat} (h : KeptN w w1 g) (h' : KeptN w1 w2 g) : KeptN w w2 g :=
  ⟨h'.os.trans h.os, h'.tape.trans h.tape, h'.output.trans h.output, Nat.le_trans h.size h'.size, fun i hi a => (h'.block i (Nat.lt_of_lt_of_le hi h.size) a).trans (h.block i hi a)⟩
theorem KeptN.below {w w1 w2 : World} {g : Nat} (h : KeptN w w1 g) (h' : Below w1.heap.size w1 w2) : KeptN w w2 g := h.trans ⟨h'.os, h'.tape, h'.output, h'.size, fun i hi _ => h'.block i hi⟩
theorem KeptN.set {w w1 : World} {g : Nat} (h : KeptN w w1 g) (o : Nat) (v : Value) : KeptN w (w1.setCell ⟨g, o, none⟩ v) g :=
  h.trans ⟨rfl, rfl, rfl, by simp [World.setCell], fun _ _ hi => Below.heap_setCell _ _ _ _ hi⟩
theorem KeptN.grown {w w' : World} {g : Nat} (h : KeptN w w' g) : w.grownBy w' (some g) := ⟨h.os, h.tape, h.output, h.size, fun i hi e => h.block i hi (fun x => e (by rw [x]))⟩

set_option maxRecDepth 100000 in
set_option maxHeartbeats 4000000 in
theorem markNS_any (g cap k : Nat) (xs : List NodeR) (w : World) (hm : xs.length ≤ 1048576) (h1 : 1 ≤ k) (hk : k ≤ 10000000) (hw : FilledN w g xs xs.length) :
    Calls Tryz.prog 40 #[.slice (some ⟨g, 0, none⟩) xs.length cap, .int .i64 (k : Int)] w fun e w' => (∃ k' : Nat, e = .returned (.int .i64 (k' : Int)) ∧ Hid (k' = k + 4 * xs.length)) ∧ Hid (FilledN w' g (mksN k xs.length) xs.length) ∧ Hid (KeptN w w' g) := by
  have hw0 := hide (hw.anew (mksN_len k xs.length).symm)
  clear hw
  go_enter Tryz.func40, Tryz.ntmps40
  go_wp2
  go_loopw [1, 5] (fun kk i wr => ∃ n c : Nat, n ≤ xs.length ∧ i = .int .i64 (n : Int) ∧ kk = .int .i64 (c : Int) ∧ 1 ≤ c ∧ c ≤ 100000000 ∧ Hid (c = k + 4 * n) ∧ Hid (FilledN wr g (mksN k xs.length) n) ∧ Hid (KeptN w wr g)) (fun _ i _ => xs.length - (intOf i).toNat)
  case atStart => exact ⟨0, k, Nat.zero_le _, rfl, rfl, h1, by omega, hide (by omega), hw0, hide (KeptN.refl _ _)⟩
  case round =>
    clear hw0
    obtain ⟨n, c, hn, rfl, rfl, hc1, hc2, hc, hf, hkp⟩ := hrel
    by_cases hlt : n < xs.length
    · have hln : n < (mksN k xs.length).length := by rw [mksN_len]; exact hlt
      have hat := hide (show atN (mksN k xs.length) n = mkN c by rw [mksN_at hlt, unhide hc])
      have hP0 := hide (PartN.start (unhide hf))
      have hgl := (unhide hf).1
      clear hf
      obtain ⟨⟨u0_0, e0_0⟩, f0_0⟩ := (unhide hP0).cell hln 0 (by omega)
      obtain ⟨⟨u0_1, e0_1⟩, f0_1⟩ := (unhide hP0).cell hln 1 (by omega)
      obtain ⟨⟨u0_2, e0_2⟩, f0_2⟩ := (unhide hP0).cell hln 2 (by omega)
      obtain ⟨⟨u0_3, e0_3⟩, f0_3⟩ := (unhide hP0).cell hln 3 (by omega)
      simp only [Nat.add_zero] at e0_0 f0_0
      have hP0x := hide ((unhide hP0).set hln (by omega) (m := 0) (v := .int .i64 ((c : Int))) (by rw [unhide hat]; rfl))
      have hkpx := hide ((unhide hkp).set (n * 4 + 0) (.int .i64 ((c : Int))))
      clear hP0 hkp
      go_wp2_with fail
      refine (markText_int _ (c + 1) _ (by omega) (by omega) (by omega)).mono ?_
      rintro e w1 ⟨rfl, hb1⟩
      have hP1 := hide ((unhide hP0x).below hb1 (unhide hP0x).1.1)
      have hK1 := hide ((unhide hkpx).below hb1)
      clear hP0x hkpx hb1 e0_0 f0_0 e0_1 f0_1 e0_2 f0_2 e0_3 f0_3
      obtain ⟨⟨u1_0, e1_0⟩, f1_0⟩ := (unhide hP1).cell hln 0 (by omega)
      obtain ⟨⟨u1_1, e1_1⟩, f1_1⟩ := (unhide hP1).cell hln 1 (by omega)
      obtain ⟨⟨u1_2, e1_2⟩, f1_2⟩ := (unhide hP1).cell hln 2 (by omega)
      obtain ⟨⟨u1_3, e1_3⟩, f1_3⟩ := (unhide hP1).cell hln 3 (by omega)
      simp only [Nat.add_zero] at e1_0 f1_0
      have hP1x := hide ((unhide hP1).set hln (by omega) (m := 1) (v := .string (MT (c + 1))) (by rw [unhide hat]; rfl))
      have hK1x := hide ((unhide hK1).set (n * 4 + 1) (.string (MT (c + 1))))
      clear hP1 hK1
      have hP1xx := hide ((unhide hP1x).set hln (by omega) (m := 2) (v := .int .i64 ((c : Int) + 1 + 1)) (by rw [unhide hat]; rfl))
      have hK1xx := hide ((unhide hK1x).set (n * 4 + 2) (.int .i64 ((c : Int) + 1 + 1)))
      clear hP1x hK1x
      have hP1xxx := hide ((unhide hP1xx).set hln (by omega) (m := 3) (v := .int .i64 ((c : Int) + 1 + 1 + 1)) (by rw [unhide hat]; rfl))
      have hK1xxx := hide ((unhide hK1xx).set (n * 4 + 3) (.int .i64 ((c : Int) + 1 + 1 + 1)))
      clear hP1xx hK1xx
      go_wp2_with fail
      refine ⟨⟨n + 1, c + 4, by omega, by go_num, by go_num, by omega, ?_, hide ?_, hide (unhide hP1xxx).done, hK1xxx⟩, by simp [intOf]; omega⟩
      · have := unhide hc; omega
      · have := unhide hc; omega
    · have hnn : n = xs.length := by omega
      have HF : FilledN wr g (mksN k xs.length) xs.length := by
        have := unhide hf
        rw [hnn] at this
        exact this
      have HF' := hide HF
      have HC := hide (show c = k + 4 * xs.length by have := unhide hc; omega)
      clear HF hnn hc
      go_wp2
      go_ret
      exact ⟨⟨c, rfl, HC⟩, HF', hkp⟩

set_option maxRecDepth 100000 in
set_option maxHeartbeats 4000000 in
theorem heldNS_any (g cap k n : Nat) (w : World) (hm : n ≤ 1048576) (h1 : 1 ≤ k) (hk : k ≤ 10000000) (hw : FilledN w g (mksN k n) n) :
    Calls Tryz.prog 41 #[.slice (some ⟨g, 0, none⟩) n cap, .int .i64 (k : Int)] w fun e w' => (∃ k' : Nat, e = .returned (.int .i64 (k' : Int)) ∧ Hid (k' = k + 4 * n)) ∧ Below w.heap.size w w' := by
  have hw0 := hide hw
  clear hw
  go_enter Tryz.func41, Tryz.ntmps41
  go_wp2
  go_loopw [1, 5] (fun kk i wr => ∃ m c : Nat, m ≤ n ∧ i = .int .i64 (m : Int) ∧ kk = .int .i64 (c : Int) ∧ 1 ≤ c ∧ c ≤ 100000000 ∧ Hid (c = k + 4 * m) ∧ Below w.heap.size w wr) (fun _ i _ => n - (intOf i).toNat)
  case atStart => exact ⟨0, k, Nat.zero_le _, rfl, rfl, h1, by omega, hide (by omega), Below.refl _ _⟩
  case round =>
    obtain ⟨m, c, hmn, rfl, rfl, hc1, hc2, hc, hbel⟩ := hrel
    by_cases hlt : m < n
    · have hcell := (((unhide hw0).2.2 m hlt).below hbel (unhide hw0).1)
      have hat : atN (mksN k n) m = mkN c := by rw [mksN_at hlt, unhide hc]
      have z0 : g < wr.heap.size := Nat.lt_of_lt_of_le (unhide hw0).1 hbel.size
      unfold CellsN at hcell
      rw [hat] at hcell
      simp only [mkN, Nat.zero_add] at hcell
      obtain ⟨q0_0, q0_1, q0_2, q0_3⟩ := hcell
      have hltI : (m : Int) < (n : Int) := by omega
      have B0 := hbel
      clear hat
      go_wp2_with fail
      go_region_held (fun w' => w'.cell? ⟨g, m * 4, none⟩ = some (.int .i64 ((c : Int))) ∧ w'.cell? ⟨g, m * 4 + 1, none⟩ = some (.string (MT (c + 1))) ∧ w'.cell? ⟨g, m * 4 + 2, none⟩ = some (.int .i64 ((c : Int) + 1 + 1)) ∧ w'.cell? ⟨g, m * 4 + 3, none⟩ = some (.int .i64 ((c : Int) + 1 + 1 + 1))) (go_keep)
        (first | (go_at_call 77; refine (markText_int _ (c + 1) _ (by omega) (by omega) (by omega)).mono ?_; rintro e w1 ⟨rfl, hb1⟩; have q1_0 := (hb1.cell (p := ⟨g, m * 4, none⟩) z0).trans (show wr.drew.cell? ⟨g, m * 4, none⟩ = _ from q0_0); have q1_1 := (hb1.cell (p := ⟨g, m * 4 + 1, none⟩) z0).trans (show wr.drew.cell? ⟨g, m * 4 + 1, none⟩ = _ from q0_1); have q1_2 := (hb1.cell (p := ⟨g, m * 4 + 2, none⟩) z0).trans (show wr.drew.cell? ⟨g, m * 4 + 2, none⟩ = _ from q0_2); have q1_3 := (hb1.cell (p := ⟨g, m * 4 + 3, none⟩) z0).trans (show wr.drew.cell? ⟨g, m * 4 + 3, none⟩ = _ from q0_3)))
      have z1 : g < w1.heap.size := Nat.lt_of_lt_of_le z0 hb1.size
      have B1 := B0.trans (((Below.refl wr.heap.size wr).drew.trans hb1).mono B0.size)
      clear q0_0 q0_1 q0_2 q0_3 hb1 z0
      go_wp2
      refine ⟨⟨m + 1, c + 4, by omega, by go_num, by go_num, by omega, ?_, hide ?_, B1⟩, by simp [intOf]; omega⟩
      · have := unhide hc; omega
      · have := unhide hc; omega
    · have HC := hide (show c = k + 4 * n by have := unhide hc; omega)
      clear hc
      go_wp2
      go_ret
      exact ⟨⟨c, rfl, HC⟩, hbel⟩
end Go.Proofs.YtokabkhnidlcnabGreat

/-
  What the laws do with trees: equality, marks.
-/
namespace Go.Proofs.YtokabkhnidlcnabGreat
set_option maxRecDepth 100000
open Go.RowKit

/-- A marked list of nodes. -/
def MarkedN (w : World) (a : Option Addr) (k n : Nat) : Prop := (n = 0 ∧ a = none) ∨ ∃ g, a = some ⟨g, 0, none⟩ ∧ FilledN w g (mksN k n) n

theorem MarkedN.grown {w w' : World} {a : Option Addr} {k n : Nat} {row : Option Nat} (h : MarkedN w a k n) (hg : w.grownBy w' row) (hne : ∀ q, a.map (·.block) = some q → some q ≠ row) : MarkedN w' a k n := by
  rcases h with h | ⟨g, rfl, hf⟩
  · exact Or.inl h
  · exact Or.inr ⟨g, rfl, hf.grown hg (hne g rfl)⟩

theorem MarkedN.step {w w' : World} {a : Option Addr} {k n : Nat} (h : MarkedN w a k n) (hb : Below w.heap.size w w') : MarkedN w' a k n :=
  h.grown (grown_belN hb none) (fun q _ => by simp)

set_option maxHeartbeats 400000 in
theorem eqTree_arg (a a' : Option Addr) (cap cap' : Nat) (xs : List NodeR) (w : World) (hm : xs.length ≤ 1048576) (h : ArgN w a xs) (h' : ArgN w a' xs) :
    Calls Tryz.prog 10 #[.agg #[.slice a xs.length cap], .agg #[.slice a' xs.length cap']] w fun e w' => e = .returned (.bool true) ∧ Below w.heap.size w w' := by
  have H := hide (fun o1 o2 => (h.alloc o1).alloc o2)
  have H' := hide (fun o1 o2 => (h'.alloc o1).alloc o2)
  clear h h'
  go_enter Tryz.func10, Tryz.ntmps10
  go_wp2_with fail
  refine (eqNS_arg a a' cap cap' xs _ hm (unhide H _ _) (unhide H' _ _)).mono ?_
  rintro e w1 ⟨rfl, hb⟩
  go_wp2_with fail
  go_ret
  exact ⟨rfl, ((below1 _ _).alloc (by simp) _).trans (hb.mono (by simp; omega))⟩

set_option maxHeartbeats 1000000 in
theorem markTree_own (a : Option Addr) (cap n0 : Nat) (xs : List NodeR) (w : World) (hm : xs.length ≤ 1048576) (h : OwnedN w n0 a xs) :
    Calls Tryz.prog 13 #[.agg #[.slice a xs.length cap], .int .i64 1] w fun e w' => (∃ k' : Nat, e = .returned (.int .i64 (k' : Int)) ∧ Hid (k' = 1 + 4 * xs.length)) ∧ Hid (MarkedN w' a 1 xs.length) ∧ w.grownBy w' (a.map (·.block)) := by
  rcases h with ⟨h0, rfl⟩ | ⟨g, rfl, _, hf⟩
  · obtain rfl := List.eq_nil_of_length_eq_zero h0
    go_enter Tryz.func13, Tryz.ntmps13
    go_wp2_with (first | (go_at_call 40; go_in))
    refine wp_loop_rounds 1 ?_
    rw [rounds_succ]
    go_wp2
    go_ret
    exact ⟨⟨1, rfl, hide rfl⟩, hide (Or.inl ⟨rfl, rfl⟩), grown_belN (below1 _ _) _⟩
  · have HF := hide (fun o => hf.below (below1 w o) hf.1)
    clear hf
    go_enter Tryz.func13, Tryz.ntmps13
    go_wp2_with fail
    refine (markNS_any g cap 1 xs _ hm (Nat.le_refl _) (by omega) (unhide HF _)).mono ?_
    rintro e w1 ⟨⟨k', rfl, hk'⟩, hf1, hk1⟩
    go_wp2_with fail
    go_ret
    refine ⟨⟨k', rfl, hk'⟩, hide (Or.inr ⟨g, rfl, unhide hf1⟩), ?_⟩
    exact ((KeptN.refl w g).below (below1 _ _) |>.trans (unhide hk1)).grown

set_option maxHeartbeats 1000000 in
theorem heldTree_own (a : Option Addr) (cap n : Nat) (w : World) (hm : n ≤ 1048576) (h : MarkedN w a 1 n) :
    Calls Tryz.prog 14 #[.agg #[.slice a n cap], .int .i64 1] w fun e w' => (∃ k' : Nat, e = .returned (.int .i64 (k' : Int)) ∧ Hid (k' = 1 + 4 * n)) ∧ Below w.heap.size w w' := by
  rcases h with ⟨rfl, rfl⟩ | ⟨g, rfl, hf⟩
  · go_enter Tryz.func14, Tryz.ntmps14
    go_wp2_with (first | (go_at_call 41; go_in))
    refine wp_loop_rounds 1 ?_
    rw [rounds_succ]
    go_wp2
    go_ret
    exact ⟨⟨1, rfl, hide rfl⟩, below1 _ _⟩
  · have HF := hide (fun o => hf.below (below1 w o) hf.1)
    clear hf
    go_enter Tryz.func14, Tryz.ntmps14
    go_wp2_with fail
    refine (heldNS_any g cap 1 n _ hm (Nat.le_refl _) (by omega) (unhide HF _)).mono ?_
    rintro e w1 ⟨⟨k', rfl, hk'⟩, hb1⟩
    have hk0 : ¬ (k' : Int) < 0 := by omega
    go_wp2_with fail
    go_ret
    exact ⟨⟨k', rfl, hk'⟩, (below1 _ _).trans (hb1.mono (by simp))⟩
end Go.Proofs.YtokabkhnidlcnabGreat

/-
  What the laws over trees keep in memory.
-/
namespace Go.Proofs.YtokabkhnidlcnabGreat
set_option maxRecDepth 100000
set_option linter.unusedVariables false
open Go.RowKit

theorem OwnedN.but {w w' : World} {n : Nat} {a : Option Addr} {us : List NodeR} {row : Option Nat} (h : OwnedN w n a us) (hg : w.grownBy w' row) (hr : ∀ q, a.map (·.block) = some q → some q ≠ row) : OwnedN w' n a us := by
  rcases h with h | ⟨g, rfl, hn, hf⟩
  · exact Or.inl h
  · exact Or.inr ⟨g, rfl, hn, hf.grown hg (hr g rfl)⟩

theorem OwnedN.le {w : World} {n n' : Nat} {a : Option Addr} {us : List NodeR} (h : OwnedN w n a us) (hn : n' ≤ n) : OwnedN w n' a us := by
  rcases h with h | ⟨g, rfl, h1, h2⟩
  · exact Or.inl h
  · exact Or.inr ⟨g, rfl, by omega, h2⟩

/-- Variables of one cell, rows of nodes; nothing that was there has turned. -/
structure StT (w wc : World) (cs : List (Nat × Value)) (rs : List (Option Addr × List NodeR)) : Prop where
  cells : ∀ p ∈ cs, wc.cell? ⟨p.1, 0, none⟩ = some p.2
  rows : ∀ r ∈ rs, OwnedN wc 0 r.1 r.2
  bel : Below w.heap.size w wc

theorem StT.start (w : World) : StT w w [] [] := ⟨fun p hp => (by cases hp), fun r hr => (by cases hr), Below.refl _ _⟩

theorem StT.grown {w wc w' : World} {cs : List (Nat × Value)} {rs : List (Option Addr × List NodeR)} {row : Option Nat} (h : StT w wc cs rs) (hg : wc.grownBy w' row) (hr : ∀ k, row = some k → w.heap.size ≤ k ∧ (∀ p ∈ cs, p.1 ≠ k) ∧ ∀ r ∈ rs, r.1.map (·.block) ≠ some k) : StT w w' cs rs := by
  refine ⟨fun p hp => ?_, fun r hrs => ?_, h.bel.grown hg h.bel.size (fun k hk => (hr k hk).1)⟩
  · exact hg.cell (h.cells p hp) (fun e => (hr p.1 e.symm).2.1 p hp rfl)
  · exact (h.rows r hrs).but hg (fun q hq e => (hr q e.symm).2.2 r hrs hq)

theorem StT.step {w wc w' : World} {cs : List (Nat × Value)} {rs : List (Option Addr × List NodeR)} (h : StT w wc cs rs) (hb : Below wc.heap.size wc w') : StT w w' cs rs :=
  h.grown (grown_belN hb none) (fun k hk => by cases hk)

theorem StT.drew {w wc : World} {cs : List (Nat × Value)} {rs : List (Option Addr × List NodeR)} (h : StT w wc cs rs) : StT w wc.drew cs rs := h.step (Below.refl _ _).drew

theorem StT.addc {w wc : World} {cs : List (Nat × Value)} {rs : List (Option Addr × List NodeR)} (h : StT w wc cs rs) {b : Nat} {v : Value} (hc : wc.cell? ⟨b, 0, none⟩ = some v) : StT w wc ((b, v) :: cs) rs :=
  ⟨fun p hp => by rcases List.mem_cons.1 hp with rfl | hp
                  · exact hc
                  · exact h.cells p hp, h.rows, h.bel⟩

theorem StT.addr {w wc : World} {cs : List (Nat × Value)} {rs : List (Option Addr × List NodeR)} (h : StT w wc cs rs) {n : Nat} {a : Option Addr} {us : List NodeR} (hf : OwnedN wc n a us) : StT w wc cs ((a, us) :: rs) :=
  ⟨h.cells, fun r hr => by rcases List.mem_cons.1 hr with rfl | hr
                           · exact hf.le (Nat.zero_le _)
                           · exact h.rows r hr, h.bel⟩

theorem StT.alloc {w wc : World} {cs : List (Nat × Value)} {rs : List (Option Addr × List NodeR)} (h : StT w wc cs rs) (v : Value) (t : TypeId) : StT w (wc.alloc (.cells #[v] t)) ((wc.heap.size, v) :: cs) rs :=
  (h.step (below1 _ _)).addc (by simp [go_sem])

theorem StT.sub {w wc : World} {cs cs' : List (Nat × Value)} {rs rs' : List (Option Addr × List NodeR)} (h : StT w wc cs rs) (hc : ∀ p ∈ cs', p ∈ cs) (hr : ∀ r ∈ rs', r ∈ rs) : StT w wc cs' rs' :=
  ⟨fun p hp => h.cells p (hc p hp), fun r hp => h.rows r (hr r hp), h.bel⟩

theorem StT.lt {w wc : World} {cs : List (Nat × Value)} {rs : List (Option Addr × List NodeR)} (h : StT w wc cs rs) : ∀ p ∈ cs, p.1 < wc.heap.size :=
  fun p hp => block_lt_of_cell (h.cells p hp)

theorem FilledN.owned {w : World} {n g : Nat} {us : List NodeR} (h : FilledN w g us us.length) (hn : n ≤ g) : OwnedN w n (some ⟨g, 0, none⟩) us := Or.inr ⟨g, rfl, hn, h⟩
end Go.Proofs.YtokabkhnidlcnabGreat
