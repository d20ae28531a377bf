/-
  Marks that are held in rows of operators.
-/
import Derived.Test.YtokabkhnidlcnabDoorMarkOpsD
import Derived.Deep.RegionHeld
namespace Go.Proofs.YtokabkhnidlcnabDoor
set_option maxRecDepth 100000
open Go.RowKit

set_option maxRecDepth 100000 in
set_option maxHeartbeats 2000000 in
theorem heldOpS_any (g cap k n : Nat) (w : World) (hm : n ≤ 1048576) (h1 : 1 ≤ k) (hk : k ≤ 10000000) (hw : Filled w g (mks k n) n) :
    Calls Tryd.prog 20 #[.slice (some ⟨g, 0, none⟩) n cap, .int .i64 (k : Int)] w fun e w' => e = .returned (.int .i64 ((k + 4 * n : Nat) : Int)) ∧ Below w.heap.size w w' := by
  have hw0 := hide hw
  clear hw
  go_enter Tryd.func20, Tryd.ntmps20
  go_wp2
  go_loopw [1, 5] (fun kk i wr => ∃ m c : Nat, m ≤ n ∧ i = .int .i64 (m : Int) ∧ kk = .int .i64 (c : Int) ∧ 1 ≤ c ∧ c ≤ 100000000 ∧ Hid (c = k + 4 * m) ∧ Below w.heap.size w wr) (fun _ i _ => n - (intOf i).toNat)
  case atStart => exact ⟨0, k, Nat.zero_le _, rfl, rfl, h1, by omega, hide (by omega), Below.refl _ _⟩
  case round =>
    obtain ⟨m, c, hmn, rfl, rfl, hc1, hc2, hc, hbel⟩ := hrel
    by_cases hlt : m < n
    · have hcell := (((unhide hw0).2.2 m hlt).below hbel (unhide hw0).1)
      have hat : atO (mks k n) m = mk1 c := by rw [mks_at hlt, unhide hc]
      have zg : g < wr.heap.size := Nat.lt_of_lt_of_le (unhide hw0).1 hbel.size
      unfold CellsAt at hcell
      rw [hat] at hcell
      simp only [mk1, Nat.zero_add] at hcell
      obtain ⟨a0, a1, a2, a3⟩ := hcell
      have hltI : (m : Int) < (n : Int) := by omega
      clear hat
      go_wp2_with fail
      go_region_held (fun w' => w'.cell? ⟨g, m * 4, none⟩ = some (.string (MT c)) ∧ w'.cell? ⟨g, m * 4 + 1, none⟩ = some (.int .i64 ((c : Int) + 1)) ∧ w'.cell? ⟨g, m * 4 + 2, none⟩ = some (.int .i64 ((c : Int) + 1 + 1)) ∧ w'.cell? ⟨g, m * 4 + 3, none⟩ = some (.int .i64 ((c : Int) + 1 + 1 + 1))) (go_keep)
        (first | (go_at_call 28; refine (markText_any c _ hc1 (by omega)).mono ?_; rintro e w1 ⟨rfl, hb1⟩; have q0 := (hb1.cell (p := ⟨g, m * 4, none⟩) zg).trans (show wr.drew.cell? ⟨g, m * 4, none⟩ = _ from a0); have q1 := (hb1.cell (p := ⟨g, m * 4 + 1, none⟩) zg).trans (show wr.drew.cell? ⟨g, m * 4 + 1, none⟩ = _ from a1); have q2 := (hb1.cell (p := ⟨g, m * 4 + 2, none⟩) zg).trans (show wr.drew.cell? ⟨g, m * 4 + 2, none⟩ = _ from a2); have q3 := (hb1.cell (p := ⟨g, m * 4 + 3, none⟩) zg).trans (show wr.drew.cell? ⟨g, m * 4 + 3, none⟩ = _ from a3)))
      go_wp2
      refine ⟨⟨m + 1, c + 4, by omega, by go_num, by go_num, by omega, ?_, hide ?_, hbel.trans (((Below.refl wr.heap.size wr).drew.trans hb1).mono hbel.size)⟩, by simp [intOf]; omega⟩
      · have := unhide hc; omega
      · have := unhide hc; omega
    · go_wp2
      go_ret
      exact ⟨ret_int (by have := unhide hc; omega), hbel⟩
end Go.Proofs.YtokabkhnidlcnabDoor
