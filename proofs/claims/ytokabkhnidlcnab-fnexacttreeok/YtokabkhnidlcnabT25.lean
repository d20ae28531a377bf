import Derived.Deep.RegionHeld
import Derived.Test.YtokabkhnidlcnabT06
import Derived.Test.YtokabkhnidlcnabT23

/-
  Worlds in which one block alone has turned.
-/
namespace Go.Proofs.Ytokabkhnidlcnab
set_option maxRecDepth 100000
open Go.RowKit

/-- Nothing but one block has turned. -/
structure Kept1 (w w' : World) (g : Nat) : Prop where
  os : w'.os = w.os
  tape : w'.tape = w.tape
  output : w'.output = w.output
  size : w.heap.size ≤ w'.heap.size
  block : ∀ i, i < w.heap.size → i ≠ g → w'.heap[i]? = w.heap[i]?

theorem Kept1.refl (w : World) (g : Nat) : Kept1 w w g := ⟨rfl, rfl, rfl, Nat.le_refl _, fun _ _ _ => rfl⟩
theorem Kept1.trans {w w1 w2 : World} {g : Nat} (h : Kept1 w w1 g) (h' : Kept1 w1 w2 g) : Kept1 w w2 g :=
  ⟨h'.os.trans h.os, h'.tape.trans h.tape, h'.output.trans h.output, Nat.le_trans h.size h'.size, fun i hi a => (h'.block i (Nat.lt_of_lt_of_le hi h.size) a).trans (h.block i hi a)⟩
theorem Kept1.of_below {w w' : World} {g : Nat} (h : Below w.heap.size w w') : Kept1 w w' g := ⟨h.os, h.tape, h.output, h.size, fun i hi _ => h.block i hi⟩
theorem Kept1.cell {w w' : World} {g : Nat} (h : Kept1 w w' g) {b : Nat} (hb : b < w.heap.size) (h1 : b ≠ g) (o : Nat) : w'.cell? ⟨b, o, none⟩ = w.cell? ⟨b, o, none⟩ :=
  World.cell?_of_block (w := w) (h.block b hb h1)
theorem Kept1.frozen {w w' : World} {g : Nat} (h : Kept1 w w' g) {b : Nat} (hb : b < w.heap.size) (h1 : b ≠ g) (o : Nat) : w'.frozen? ⟨b, o, none⟩ = w.frozen? ⟨b, o, none⟩ :=
  World.frozen?_of_block (w := w) (h.block b hb h1)
theorem Kept1.below {w w' : World} {g B : Nat} (h : Kept1 w w' g) (hB : B ≤ w.heap.size) (h1 : B ≤ g) : Below B w w' :=
  ⟨h.os, h.tape, h.output, h.size, fun i hi => h.block i (by omega) (by omega)⟩
theorem kept1_setCells {g : Nat} : ∀ (vs : List Value) (o : Nat) (w : World), Kept1 w (w.setCells g o vs) g
  | [], _, w => Kept1.refl w g
  | v :: r, o, w => (show Kept1 w (w.setCell ⟨g, o, none⟩ v) g from ⟨rfl, rfl, rfl, by simp [World.setCell], fun _ _ hi => Below.heap_setCell _ _ _ _ hi⟩).trans (kept1_setCells r (o + 1) _)
theorem Kept1.ops {w w' : World} {g b off : Nat} {xs : List OpR} (h : Kept1 w w' g) (ho : Ops w b off xs) (hb : b < w.heap.size) (hne : b ≠ g) : Ops w' b off xs := fun i hi => by
  obtain ⟨a0, a1, a2, a3⟩ := ho i hi
  have e := h.cell hb hne
  exact ⟨(e _).trans a0, (e _).trans a1, (e _).trans a2, (e _).trans a3⟩
theorem Kept1.filled {w w' : World} {g b k : Nat} {xs : List OpR} (h : Kept1 w w' g) (ho : Filled w b xs k) (hne : b ≠ g) : Filled w' b xs k := by
  obtain ⟨h1, h2, h3⟩ := ho
  have e := h.cell h1 hne
  have f := h.frozen h1 hne
  refine ⟨Nat.lt_of_lt_of_le h1 h.size, fun j hj => ⟨by rw [e]; exact (h2 j hj).1, by rw [f]; exact (h2 j hj).2⟩, fun i hi => ?_⟩
  obtain ⟨a0, a1, a2, a3⟩ := h3 i hi
  exact ⟨(e _).trans a0, (e _).trans a1, (e _).trans a2, (e _).trans a3⟩

theorem grown_kept1 {w w' : World} {g : Nat} (h : Kept1 w w' g) : w.grownBy w' (some g) := ⟨h.os, h.tape, h.output, h.size, fun i hi e => h.block i hi (fun x => e (by rw [x]))⟩

end Go.Proofs.Ytokabkhnidlcnab

/-
  Walks: marks in lists of operators.
-/
namespace Go.Proofs.Ytokabkhnidlcnab
set_option maxRecDepth 100000
open Go.RowKit

/-- The marks from k on. -/
def mk1 (c : Nat) : OpR := ⟨MT c, (c : Int) + 1, (c : Int) + 1 + 1, (c : Int) + 1 + 1 + 1⟩
def mks (k n : Nat) : List OpR := (List.range n).map fun i => mk1 (k + 4 * i)
theorem mks_len (k n : Nat) : (mks k n).length = n := by simp [mks]
theorem mks_at {k n i : Nat} (h : i < n) : atO (mks k n) i = mk1 (k + 4 * i) := by simp [atO, mks, h]

theorem Filled.step_of {w : World} {g k : Nat} {xs : List OpR} (h : Filled w g xs k) (hk : k < xs.length) {o : OpR} (e : atO xs k = o) :
    Filled (w.setCells g (k * 4) [.string o.s, .int .i64 o.k, .int .i64 o.l, .int .i64 o.sd]) g xs (k + 1) := by
  subst e
  exact h.step hk

/-- The row may be filled anew. -/
theorem Filled.anew {w : World} {g : Nat} {xs ys : List OpR} {k : Nat} (h : Filled w g xs k) (hl : xs.length = ys.length) : Filled w g ys 0 :=
  ⟨h.1, hl ▸ h.2.1, fun i hi => absurd hi (Nat.not_lt_zero i)⟩

set_option maxRecDepth 100000 in
set_option maxHeartbeats 2000000 in
theorem markOpS_any (g cap k : Nat) (xs : List OpR) (w : World) (hm : xs.length ≤ 1048576) (h1 : 1 ≤ k) (hk : k ≤ 10000000) (hw : Filled w g xs xs.length) :
    Calls Try.prog 47 #[.slice (some ⟨g, 0, none⟩) xs.length cap, .int .i64 (k : Int)] w fun e w' => e = .returned (.int .i64 ((k + 4 * xs.length : Nat) : Int)) ∧ Filled w' g (mks k xs.length) xs.length ∧ Kept1 w w' g := by
  have hw0 := hide (hw.anew (mks_len k xs.length).symm)
  clear hw
  go_enter Try.func47, Try.ntmps47
  go_wp2
  go_loopw [1, 5] (fun kk i wr => ∃ n c : Nat, n ≤ xs.length ∧ i = .int .i64 (n : Int) ∧ kk = .int .i64 (c : Int) ∧ 1 ≤ c ∧ c ≤ 100000000 ∧ Hid (c = k + 4 * n) ∧ Hid (Filled wr g (mks k xs.length) n) ∧ Hid (Kept1 w wr g)) (fun _ i _ => xs.length - (intOf i).toNat)
  case atStart => exact ⟨0, k, Nat.zero_le _, rfl, rfl, h1, by omega, hide (by omega), hw0, hide (Kept1.refl _ _)⟩
  case round =>
    clear hw0
    obtain ⟨n, c, hn, rfl, rfl, hc1, hc2, hc, hf, hkp⟩ := hrel
    by_cases hlt : n < xs.length
    · go_wp2_with fail
      refine (markText_any c _ hc1 (by omega)).mono ?_
      rintro e w1 ⟨rfl, hb1⟩
      have hf1 := (unhide hf).below hb1 (unhide hf).1
      obtain ⟨⟨e0, f0⟩, ⟨e1, f1⟩, ⟨e2, f2⟩, ⟨e3, f3⟩⟩ := fill_cells hf1 (by rw [mks_len]; exact hlt)
      obtain ⟨v0, e0⟩ := e0
      obtain ⟨v1, e1⟩ := e1
      obtain ⟨v2, e2⟩ := e2
      obtain ⟨v3, e3⟩ := e3
      have HF := hide (hf1.step_of (o := mk1 c) (by rw [mks_len]; exact hlt) (by rw [mks_at hlt, unhide hc]))
      have HK := hide (((unhide hkp).trans (Kept1.of_below hb1)).trans (kept1_setCells [.string (mk1 c).s, .int .i64 (mk1 c).k, .int .i64 (mk1 c).l, .int .i64 (mk1 c).sd] (n * 4) w1))
      clear hf1 hf hkp hb1
      go_wp2_with fail
      refine ⟨⟨n + 1, c + 4, by omega, by go_num, by go_num, by omega, ?_, hide ?_, HF, HK⟩, by simp [intOf]; omega⟩
      · have := unhide hc; omega
      · have := unhide hc; omega
    · have hnn : n = xs.length := by omega
      have HF : Filled wr g (mks k xs.length) xs.length := by
        have := unhide hf
        rw [hnn] at this
        exact this
      have HF' := hide HF
      clear HF hnn
      go_wp2
      go_ret
      exact ⟨ret_int (by have := unhide hc; omega), unhide HF', unhide hkp⟩

set_option maxRecDepth 100000 in
set_option maxHeartbeats 2000000 in
theorem heldOpS_any (g cap k n : Nat) (w : World) (hm : n ≤ 1048576) (h1 : 1 ≤ k) (hk : k ≤ 10000000) (hw : Filled w g (mks k n) n) :
    Calls Try.prog 48 #[.slice (some ⟨g, 0, none⟩) n cap, .int .i64 (k : Int)] w fun e w' => e = .returned (.int .i64 ((k + 4 * n : Nat) : Int)) ∧ Below w.heap.size w w' := by
  have hw0 := hide hw
  clear hw
  go_enter Try.func48, Try.ntmps48
  go_wp2
  go_loopw [1, 5] (fun kk i wr => ∃ m c : Nat, m ≤ n ∧ i = .int .i64 (m : Int) ∧ kk = .int .i64 (c : Int) ∧ 1 ≤ c ∧ c ≤ 100000000 ∧ Hid (c = k + 4 * m) ∧ Below w.heap.size w wr) (fun _ i _ => n - (intOf i).toNat)
  case atStart => exact ⟨0, k, Nat.zero_le _, rfl, rfl, h1, by omega, hide (by omega), Below.refl _ _⟩
  case round =>
    obtain ⟨m, c, hmn, rfl, rfl, hc1, hc2, hc, hbel⟩ := hrel
    by_cases hlt : m < n
    · have hcell := (((unhide hw0).2.2 m hlt).below hbel (unhide hw0).1)
      have hat : atO (mks k n) m = mk1 c := by rw [mks_at hlt, unhide hc]
      have zg : g < wr.heap.size := Nat.lt_of_lt_of_le (unhide hw0).1 hbel.size
      unfold CellsAt at hcell
      rw [hat] at hcell
      simp only [mk1, Nat.zero_add] at hcell
      obtain ⟨a0, a1, a2, a3⟩ := hcell
      have hltI : (m : Int) < (n : Int) := by omega
      clear hat
      go_wp2_with fail
      go_region_held (fun w' => w'.cell? ⟨g, m * 4, none⟩ = some (.string (MT c)) ∧ w'.cell? ⟨g, m * 4 + 1, none⟩ = some (.int .i64 ((c : Int) + 1)) ∧ w'.cell? ⟨g, m * 4 + 2, none⟩ = some (.int .i64 ((c : Int) + 1 + 1)) ∧ w'.cell? ⟨g, m * 4 + 3, none⟩ = some (.int .i64 ((c : Int) + 1 + 1 + 1))) (go_keep)
        (first | (go_at_call 56; refine (markText_any c _ hc1 (by omega)).mono ?_; rintro e w1 ⟨rfl, hb1⟩; have q0 := (hb1.cell (p := ⟨g, m * 4, none⟩) zg).trans (show wr.drew.cell? ⟨g, m * 4, none⟩ = _ from a0); have q1 := (hb1.cell (p := ⟨g, m * 4 + 1, none⟩) zg).trans (show wr.drew.cell? ⟨g, m * 4 + 1, none⟩ = _ from a1); have q2 := (hb1.cell (p := ⟨g, m * 4 + 2, none⟩) zg).trans (show wr.drew.cell? ⟨g, m * 4 + 2, none⟩ = _ from a2); have q3 := (hb1.cell (p := ⟨g, m * 4 + 3, none⟩) zg).trans (show wr.drew.cell? ⟨g, m * 4 + 3, none⟩ = _ from a3)))
      go_wp2
      refine ⟨⟨m + 1, c + 4, by omega, by go_num, by go_num, by omega, ?_, hide ?_, hbel.trans (((Below.refl wr.heap.size wr).drew.trans hb1).mono hbel.size)⟩, by simp [intOf]; omega⟩
      · have := unhide hc; omega
      · have := unhide hc; omega
    · go_wp2
      go_ret
      exact ⟨ret_int (by have := unhide hc; omega), hbel⟩
end Go.Proofs.Ytokabkhnidlcnab
