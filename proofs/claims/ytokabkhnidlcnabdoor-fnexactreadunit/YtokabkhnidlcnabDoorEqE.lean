/-
  Rows of operators that hold the same.
-/
import Derived.Test.YtokabkhnidlcnabDoorConvE
namespace Go.Proofs.YtokabkhnidlcnabDoor
set_option maxRecDepth 100000
open Go.RowKit

theorem Arg.alloc {w : World} {a : Option Addr} {xs : List OpR} (h : Arg w a xs) (o : Obj) : Arg (w.alloc o) a xs := by
  rcases h with h | ⟨b, off, rfl, h1, h2⟩
  · exact Or.inl h
  · exact Or.inr ⟨b, off, rfl, h1.below (below1 _ _) h2, by simp; omega⟩

theorem Arg.below {w w' : World} {a : Option Addr} {xs : List OpR} (h : Arg w a xs) (hb : Below w.heap.size w w') : Arg w' a xs := by
  rcases h with h | ⟨b, off, rfl, h1, h2⟩
  · exact Or.inl h
  · exact Or.inr ⟨b, off, rfl, h1.below hb h2, Nat.lt_of_lt_of_le h2 hb.size⟩

theorem CellsAt.setCell {w : World} {b off i : Nat} {xs : List OpR} (h : CellsAt w b off xs i) (p : Addr) (v : Value) (hp : p.block ≠ b) : CellsAt (w.setCell p v) b off xs i := by
  obtain ⟨h0, h1, h2, h3⟩ := h
  have e : ∀ o, (w.setCell p v).cell? ⟨b, o, none⟩ = w.cell? ⟨b, o, none⟩ := fun o => World.cell?_setCell_other _ _ _ _ (fun e => hp (by rw [e]))
  exact ⟨(e _).trans h0, (e _).trans h1, (e _).trans h2, (e _).trans h3⟩

theorem Filled.setCell {w : World} {g k : Nat} {xs : List OpR} (h : Filled w g xs k) (p : Addr) (v : Value) (hp : p.block ≠ g) : Filled (w.setCell p v) g xs k := by
  obtain ⟨h1, h2, h3⟩ := h
  refine ⟨by simpa [World.setCell] using h1, fun j hj => ⟨?_, ?_⟩, fun i hi => (h3 i hi).setCell p v hp⟩
  · rw [World.cell?_setCell_other _ _ _ _ (fun e => hp (by rw [e]))]; exact (h2 j hj).1
  · rw [World.frozen?_setCell]; exact (h2 j hj).2

theorem Filled.ops {w : World} {g : Nat} {xs : List OpR} (h : Filled w g xs xs.length) : Ops w g 0 xs := fun i hi => h.2.2 i hi

set_option maxHeartbeats 400000 in
theorem eqOp_same (s : ByteArray) (k l sd : Int) (w : World) :
    Calls Tryd.prog 27 #[.agg #[.string s, .int .i64 k, .int .i64 l, .int .i64 sd], .agg #[.string s, .int .i64 k, .int .i64 l, .int .i64 sd]] w fun e w' => e = .returned (.bool true) ∧ Below w.heap.size w w' := by
  go_enter Tryd.func27, Tryd.ntmps27
  go_wp2
  go_ret
  exact ⟨rfl, (below1 _ _).alloc (by simp) _⟩

set_option maxHeartbeats 1000000 in
theorem eqOpS_same (b off b' off' cap cap' : Nat) (xs : List OpR) (w : World) (hm : xs.length ≤ 1048576) (h : Ops w b off xs) (h' : Ops w b' off' xs) (hB : b < w.heap.size) (hB' : b' < w.heap.size) :
    Calls Tryd.prog 16 #[.slice (some ⟨b, off, none⟩) xs.length cap, .slice (some ⟨b', off', none⟩) xs.length cap'] w fun e w' => e = .returned (.bool true) ∧ Below w.heap.size w w' := by
  go_enter Tryd.func16, Tryd.ntmps16
  go_wp2
  go_loopw [5] (fun i wr => ∃ k : Nat, k ≤ xs.length ∧ i = .int .i64 k ∧ Below w.heap.size w wr) (fun i _ => xs.length - (intOf i).toNat)
  case atStart => exact ⟨0, Nat.zero_le _, rfl, Below.refl _ _⟩
  case round =>
    obtain ⟨k, hk, rfl, hbel⟩ := hrel
    by_cases hlt : k < xs.length
    · obtain ⟨a0, a1, a2, a3⟩ := (h k hlt).below hbel hB
      obtain ⟨c0, c1, c2, c3⟩ := (h' k hlt).below hbel hB'
      have hltI : (k : Int) < (xs.length : Int) := by omega
      have zb : b < wr.heap.size := Nat.lt_of_lt_of_le hB hbel.size
      have zb' : b' < wr.heap.size := Nat.lt_of_lt_of_le hB' hbel.size
      go_wp2_with fail
      go_region_held (fun w' => w'.cell? ⟨b, off + k * 4, none⟩ = some (.string (atO xs k).s) ∧ w'.cell? ⟨b, off + k * 4 + 1, none⟩ = some (.int .i64 (atO xs k).k) ∧
        w'.cell? ⟨b, off + k * 4 + 2, none⟩ = some (.int .i64 (atO xs k).l) ∧ w'.cell? ⟨b, off + k * 4 + 3, none⟩ = some (.int .i64 (atO xs k).sd) ∧
        w'.cell? ⟨b', off' + k * 4, none⟩ = some (.string (atO xs k).s) ∧ w'.cell? ⟨b', off' + k * 4 + 1, none⟩ = some (.int .i64 (atO xs k).k) ∧
        w'.cell? ⟨b', off' + k * 4 + 2, none⟩ = some (.int .i64 (atO xs k).l) ∧ w'.cell? ⟨b', off' + k * 4 + 3, none⟩ = some (.int .i64 (atO xs k).sd)) (go_keep)
        (first | (go_at_call 27; refine (eqOp_same _ _ _ _ _).mono ?_; rintro e w1 ⟨rfl, hb1⟩; obtain ⟨q0, q1, q2, q3⟩ := CellsAt.below (w := wr.drew) ⟨a0, a1, a2, a3⟩ hb1 zb; obtain ⟨p0, p1, p2, p3⟩ := CellsAt.below (w := wr.drew) ⟨c0, c1, c2, c3⟩ hb1 zb'))
      go_wp2
      exact ⟨⟨k + 1, by omega, by go_num, hbel.trans (((Below.refl _ _).drew.trans hb1).mono hbel.size)⟩, by simp [intOf]; omega⟩
    · go_wp2
      go_ret
      exact ⟨rfl, hbel⟩
end Go.Proofs.YtokabkhnidlcnabDoor
