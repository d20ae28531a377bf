/-
  Marks in rows of operators.
-/
import Derived.Test.YtokabkhnidlcnabDoorMark
import Derived.Test.YtokabkhnidlcnabDoorKeptE
import Derived.Deep.RegionHeld
namespace Go.Proofs.YtokabkhnidlcnabDoor
set_option maxRecDepth 100000
open Go.RowKit

/-- The marks from k on. -/
def mk1 (c : Nat) : OpR := ⟨MT c, (c : Int) + 1, (c : Int) + 1 + 1, (c : Int) + 1 + 1 + 1⟩
def mks (k n : Nat) : List OpR := (List.range n).map fun i => mk1 (k + 4 * i)
theorem mks_len (k n : Nat) : (mks k n).length = n := by simp [mks]
theorem mks_at {k n i : Nat} (h : i < n) : atO (mks k n) i = mk1 (k + 4 * i) := by simp [atO, mks, h]

theorem Filled.step_of {w : World} {g k : Nat} {xs : List OpR} (h : Filled w g xs k) (hk : k < xs.length) {o : OpR} (e : atO xs k = o) :
    Filled (w.setCells g (k * 4) [.string o.s, .int .i64 o.k, .int .i64 o.l, .int .i64 o.sd]) g xs (k + 1) := by
  subst e
  exact h.step hk

/-- The row may be filled anew. -/
theorem Filled.anew {w : World} {g : Nat} {xs ys : List OpR} {k : Nat} (h : Filled w g xs k) (hl : xs.length = ys.length) : Filled w g ys 0 :=
  ⟨h.1, hl ▸ h.2.1, fun i hi => absurd hi (Nat.not_lt_zero i)⟩

set_option maxRecDepth 100000 in
set_option maxHeartbeats 2000000 in
theorem markOpS_any (g cap k : Nat) (xs : List OpR) (w : World) (hm : xs.length ≤ 1048576) (h1 : 1 ≤ k) (hk : k ≤ 10000000) (hw : Filled w g xs xs.length) :
    Calls Tryd.prog 18 #[.slice (some ⟨g, 0, none⟩) xs.length cap, .int .i64 (k : Int)] w fun e w' => e = .returned (.int .i64 ((k + 4 * xs.length : Nat) : Int)) ∧ Filled w' g (mks k xs.length) xs.length ∧ Kept1 w w' g := by
  have hw0 := hide (hw.anew (mks_len k xs.length).symm)
  clear hw
  go_enter Tryd.func18, Tryd.ntmps18
  go_wp2
  go_loopw [1, 5] (fun kk i wr => ∃ n c : Nat, n ≤ xs.length ∧ i = .int .i64 (n : Int) ∧ kk = .int .i64 (c : Int) ∧ 1 ≤ c ∧ c ≤ 100000000 ∧ Hid (c = k + 4 * n) ∧ Hid (Filled wr g (mks k xs.length) n) ∧ Hid (Kept1 w wr g)) (fun _ i _ => xs.length - (intOf i).toNat)
  case atStart => exact ⟨0, k, Nat.zero_le _, rfl, rfl, h1, by omega, hide (by omega), hw0, hide (Kept1.refl _ _)⟩
  case round =>
    clear hw0
    obtain ⟨n, c, hn, rfl, rfl, hc1, hc2, hc, hf, hkp⟩ := hrel
    by_cases hlt : n < xs.length
    · go_wp2_with fail
      refine (markText_any c _ hc1 (by omega)).mono ?_
      rintro e w1 ⟨rfl, hb1⟩
      have hf1 := (unhide hf).below hb1 (unhide hf).1
      obtain ⟨⟨e0, f0⟩, ⟨e1, f1⟩, ⟨e2, f2⟩, ⟨e3, f3⟩⟩ := fill_cells hf1 (by rw [mks_len]; exact hlt)
      obtain ⟨v0, e0⟩ := e0
      obtain ⟨v1, e1⟩ := e1
      obtain ⟨v2, e2⟩ := e2
      obtain ⟨v3, e3⟩ := e3
      have HF := hide (hf1.step_of (o := mk1 c) (by rw [mks_len]; exact hlt) (by rw [mks_at hlt, unhide hc]))
      have HK := hide (((unhide hkp).trans (Kept1.of_below hb1)).trans (kept1_setCells [.string (mk1 c).s, .int .i64 (mk1 c).k, .int .i64 (mk1 c).l, .int .i64 (mk1 c).sd] (n * 4) w1))
      clear hf1 hf hkp hb1
      go_wp2_with fail
      refine ⟨⟨n + 1, c + 4, by omega, by go_num, by go_num, by omega, ?_, hide ?_, HF, HK⟩, by simp [intOf]; omega⟩
      · have := unhide hc; omega
      · have := unhide hc; omega
    · have hnn : n = xs.length := by omega
      have HF : Filled wr g (mks k xs.length) xs.length := by
        have := unhide hf
        rw [hnn] at this
        exact this
      have HF' := hide HF
      clear HF hnn
      go_wp2
      go_ret
      exact ⟨ret_int (by have := unhide hc; omega), unhide HF', unhide hkp⟩
end Go.Proofs.YtokabkhnidlcnabDoor
