import Derived.Deep.RegionHeld
import Derived.Test.YtokabkhnidlcnabGreatR04
import Derived.Test.YtokabkhnidlcnabGreatR09
import Derived.Test.YtokabkhnidlcnabGreatR33

/-
  Marks in rows of operators.
-/
namespace Go.Proofs.YtokabkhnidlcnabGreat
set_option maxRecDepth 100000
open Go.RowKit

/-- The marks from k on. -/
def mk1 (c : Nat) : OpR := ⟨MT c, (c : Int) + 1, (c : Int) + 1 + 1, (c : Int) + 1 + 1 + 1⟩
def mks (k n : Nat) : List OpR := (List.range n).map fun i => mk1 (k + 4 * i)
theorem mks_len (k n : Nat) : (mks k n).length = n := by simp [mks]
theorem mks_at {k n i : Nat} (h : i < n) : atO (mks k n) i = mk1 (k + 4 * i) := by simp [atO, mks, h]

theorem Filled.step_of {w : World} {g k : Nat} {xs : List OpR} (h : Filled w g xs k) (hk : k < xs.length) {o : OpR} (e : atO xs k = o) :
    Filled (w.setCells g (k * 4) [.string o.s, .int .i64 o.k, .int .i64 o.l, .int .i64 o.sd]) g xs (k + 1) := by
  subst e
  exact h.step hk

/-- The row may be filled anew. -/
theorem Filled.anew {w : World} {g : Nat} {xs ys : List OpR} {k : Nat} (h : Filled w g xs k) (hl : xs.length = ys.length) : Filled w g ys 0 :=
  ⟨h.1, hl ▸ h.2.1, fun i hi => absurd hi (Nat.not_lt_zero i)⟩

set_option maxRecDepth 100000 in
set_option maxHeartbeats 2000000 in
theorem markOpS_any (g cap k : Nat) (xs : List OpR) (w : World) (hm : xs.length ≤ 1048576) (h1 : 1 ≤ k) (hk : k ≤ 10000000) (hw : Filled w g xs xs.length) :
    Calls Tryz.prog 39 #[.slice (some ⟨g, 0, none⟩) xs.length cap, .int .i64 (k : Int)] w fun e w' => e = .returned (.int .i64 ((k + 4 * xs.length : Nat) : Int)) ∧ Filled w' g (mks k xs.length) xs.length ∧ Kept1 w w' g := by
  have hw0 := hide (hw.anew (mks_len k xs.length).symm)
  clear hw
  go_enter Tryz.func39, Tryz.ntmps39
  go_wp2
  go_loopw [1, 5] (fun kk i wr => ∃ n c : Nat, n ≤ xs.length ∧ i = .int .i64 (n : Int) ∧ kk = .int .i64 (c : Int) ∧ 1 ≤ c ∧ c ≤ 100000000 ∧ Hid (c = k + 4 * n) ∧ Hid (Filled wr g (mks k xs.length) n) ∧ Hid (Kept1 w wr g)) (fun _ i _ => xs.length - (intOf i).toNat)
  case atStart => exact ⟨0, k, Nat.zero_le _, rfl, rfl, h1, by omega, hide (by omega), hw0, hide (Kept1.refl _ _)⟩
  case round =>
    clear hw0
    obtain ⟨n, c, hn, rfl, rfl, hc1, hc2, hc, hf, hkp⟩ := hrel
    by_cases hlt : n < xs.length
    · go_wp2_with fail
      refine (markText_any c _ hc1 (by omega)).mono ?_
      rintro e w1 ⟨rfl, hb1⟩
      have hf1 := (unhide hf).below hb1 (unhide hf).1
      obtain ⟨⟨e0, f0⟩, ⟨e1, f1⟩, ⟨e2, f2⟩, ⟨e3, f3⟩⟩ := fill_cells hf1 (by rw [mks_len]; exact hlt)
      obtain ⟨v0, e0⟩ := e0
      obtain ⟨v1, e1⟩ := e1
      obtain ⟨v2, e2⟩ := e2
      obtain ⟨v3, e3⟩ := e3
      have HF := hide (hf1.step_of (o := mk1 c) (by rw [mks_len]; exact hlt) (by rw [mks_at hlt, unhide hc]))
      have HK := hide (((unhide hkp).trans (Kept1.of_below hb1)).trans (kept1_setCells [.string (mk1 c).s, .int .i64 (mk1 c).k, .int .i64 (mk1 c).l, .int .i64 (mk1 c).sd] (n * 4) w1))
      clear hf1 hf hkp hb1
      go_wp2_with fail
      refine ⟨⟨n + 1, c + 4, by omega, by go_num, by go_num, by omega, ?_, hide ?_, HF, HK⟩, by simp [intOf]; omega⟩
      · have := unhide hc; omega
      · have := unhide hc; omega
    · have hnn : n = xs.length := by omega
      have HF : Filled wr g (mks k xs.length) xs.length := by
        have := unhide hf
        rw [hnn] at this
        exact this
      have HF' := hide HF
      clear HF hnn
      go_wp2
      go_ret
      exact ⟨ret_int (by have := unhide hc; omega), unhide HF', unhide hkp⟩
end Go.Proofs.YtokabkhnidlcnabGreat

/-
  Marks in tables.
-/
namespace Go.Proofs.YtokabkhnidlcnabGreat
set_option maxRecDepth 100000
open Go.RowKit

theorem Filled.grownW {w w' : World} {g k : Nat} {xs : List OpR} {row : Option Nat} (h : Filled w g xs k) (hg : w.grownBy w' row) (hne : some g ≠ row) : Filled w' g xs k := by
  obtain ⟨h1, h2, h3⟩ := h
  have hb := hg.block g h1 hne
  have e : ∀ o, w'.cell? ⟨g, o, none⟩ = w.cell? ⟨g, o, none⟩ := fun o => World.cell?_of_block (w := w) hb
  have f : ∀ o, w'.frozen? ⟨g, o, none⟩ = w.frozen? ⟨g, o, none⟩ := fun o => World.frozen?_of_block (w := w) hb
  refine ⟨Nat.lt_of_lt_of_le h1 hg.size, fun j hj => ⟨by rw [e]; exact (h2 j hj).1, by rw [f]; exact (h2 j hj).2⟩, fun i hi => ?_⟩
  obtain ⟨a0, a1, a2, a3⟩ := h3 i hi
  exact ⟨(e _).trans a0, (e _).trans a1, (e _).trans a2, (e _).trans a3⟩

set_option maxHeartbeats 1000000 in
theorem markTableF (g cap k : Nat) (xs : List OpR) (w : World) (hm : xs.length ≤ 1048576) (h1 : 1 ≤ k) (hk : k ≤ 10000000) (hf : Filled w g xs xs.length) :
    Calls Tryz.prog 12 #[.agg #[.slice (some ⟨g, 0, none⟩) xs.length cap], .int .i64 (k : Int)] w fun e w' => (∃ k' : Nat, e = .returned (.int .i64 (k' : Int)) ∧ Hid (k' = k + 4 * xs.length)) ∧ w.grownBy w' (some g) := by
  have HF := hide (fun o => hf.below (below1 w o) hf.1)
  clear hf
  go_enter Tryz.func12, Tryz.ntmps12
  go_wp2_with fail
  refine (markOpS_any g cap k xs _ hm h1 hk (unhide HF _)).mono ?_
  rintro e w1 ⟨rfl, _, hk1⟩
  have HK1 := hide hk1
  clear hk1
  go_wp2_with fail
  go_ret
  exact ⟨⟨_, rfl, hide rfl⟩, grown_kept1 ((Kept1.of_below (below1 _ _)).trans (unhide HK1))⟩

theorem markTable1 (g cap : Nat) (xs : List OpR) (w : World) (hm : xs.length ≤ 1048576) (hf : Filled w g xs xs.length) :
    Calls Tryz.prog 12 #[.agg #[.slice (some ⟨g, 0, none⟩) xs.length cap], .int .i64 1] w fun e w' => (∃ k' : Nat, e = .returned (.int .i64 (k' : Int)) ∧ Hid (k' = 1 + 4 * xs.length)) ∧ w.grownBy w' (some g) :=
  markTableF g cap 1 xs w hm (Nat.le_refl _) (by omega) hf

theorem Filled.argW {w : World} {g : Nat} {us : List OpR} (h : Filled w g us us.length) : Arg w (some ⟨g, 0, none⟩) us := Or.inr ⟨g, 0, rfl, h.ops, h.1⟩
end Go.Proofs.YtokabkhnidlcnabGreat

/-
  A table made anew inside a law.
-/
namespace Go.Proofs.YtokabkhnidlcnabGreat
set_option maxRecDepth 100000
open Go.RowKit

theorem toTable_inL {w : World} (a : Option Addr) (cap : Nat) (xs : List OpR) (W : World) (hm : xs.length ≤ 1048576) (ha : Arg w a xs) (hb : Below w.heap.size w W) :
    Calls Tryz.prog 8 #[.agg #[.slice a xs.length cap]] W fun e w' => (∃ g, e = .returned (.agg #[.slice (some ⟨g, 0, none⟩) xs.length xs.length]) ∧ W.heap.size ≤ g ∧ Hid (Filled w' g xs xs.length)) ∧ Below W.heap.size W w' := by
  refine (toTable_any a cap xs W hm (ha.below hb)).mono ?_
  rintro e w' ⟨⟨g, rfl, hg, hf⟩, hb'⟩
  exact ⟨⟨g, rfl, hg, hide hf⟩, hb'⟩
end Go.Proofs.YtokabkhnidlcnabGreat
