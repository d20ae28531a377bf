import Derived.Test.YtokabkhnidlcnabT01
import Derived.Test.YtokabkhnidlcnabT04
import Derived.Test.YtokabkhnidlcnabT05

/-
  Tables: the copy of a table, two tables that hold the same.
-/
namespace Go.Proofs.Ytokabkhnidlcnab
set_option maxRecDepth 100000
open Go.RowKit

theorem Arg.alloc {w : World} {a : Option Addr} {xs : List OpR} (h : Arg w a xs) (o : Obj) : Arg (w.alloc o) a xs := by
  rcases h with h | ⟨b, off, rfl, h1, h2⟩
  · exact Or.inl h
  · exact Or.inr ⟨b, off, rfl, h1.below (below1 _ _) h2, by simp; omega⟩

theorem Arg.below {w w' : World} {a : Option Addr} {xs : List OpR} (h : Arg w a xs) (hb : Below w.heap.size w w') : Arg w' a xs := by
  rcases h with h | ⟨b, off, rfl, h1, h2⟩
  · exact Or.inl h
  · exact Or.inr ⟨b, off, rfl, h1.below hb h2, Nat.lt_of_lt_of_le h2 hb.size⟩

theorem CellsAt.setCell {w : World} {b off i : Nat} {xs : List OpR} (h : CellsAt w b off xs i) (p : Addr) (v : Value) (hp : p.block ≠ b) : CellsAt (w.setCell p v) b off xs i := by
  obtain ⟨h0, h1, h2, h3⟩ := h
  have e : ∀ o, (w.setCell p v).cell? ⟨b, o, none⟩ = w.cell? ⟨b, o, none⟩ := fun o => World.cell?_setCell_other _ _ _ _ (fun e => hp (by rw [e]))
  exact ⟨(e _).trans h0, (e _).trans h1, (e _).trans h2, (e _).trans h3⟩

theorem Filled.setCell {w : World} {g k : Nat} {xs : List OpR} (h : Filled w g xs k) (p : Addr) (v : Value) (hp : p.block ≠ g) : Filled (w.setCell p v) g xs k := by
  obtain ⟨h1, h2, h3⟩ := h
  refine ⟨by simpa [World.setCell] using h1, fun j hj => ⟨?_, ?_⟩, fun i hi => (h3 i hi).setCell p v hp⟩
  · rw [World.cell?_setCell_other _ _ _ _ (fun e => hp (by rw [e]))]; exact (h2 j hj).1
  · rw [World.frozen?_setCell]; exact (h2 j hj).2

theorem Filled.ops {w : World} {g : Nat} {xs : List OpR} (h : Filled w g xs xs.length) : Ops w g 0 xs := fun i hi => h.2.2 i hi

set_option maxHeartbeats 1000000 in
theorem toTable_any (a : Option Addr) (cap : Nat) (xs : List OpR) (w : World) (hm : xs.length ≤ 1048576) (hw : Arg w a xs) :
    Calls Try.prog 12 #[.agg #[.slice a xs.length cap]] w fun e w' => (∃ g, e = .returned (.agg #[.slice (some ⟨g, 0, none⟩) xs.length xs.length]) ∧ w.heap.size ≤ g ∧ Filled w' g xs xs.length) ∧ Below w.heap.size w w' := by
  have HW := hide hw
  clear hw
  go_enter Try.func12, Try.ntmps12
  go_wp2_with fail
  refine (toOpS_any _ _ _ _ hm ((((unhide HW).alloc _).alloc _).alloc _)).mono ?_
  rintro e w1 ⟨⟨g, rfl, hg, hfil⟩, hb⟩
  obtain ⟨hc, hf⟩ := bcell hb
  have hz : w.heap.size + 2 < w1.heap.size := by have := hb.size; simp at this; omega
  have hgs : w.heap.size + 3 ≤ g := by simpa using hg
  have HF := hide hfil
  clear hfil hg
  go_wp2_with fail
  refine bodyPost_ret (v := .agg #[.slice (some ⟨g, 0, none⟩) xs.length xs.length]) (by simp [results, Try.results12, go_sem, hc]) rfl ⟨⟨g, rfl, by omega, ?_⟩, ?_⟩
  · exact ((unhide HF).setCell _ _ (by simp; omega)).setCell _ _ (by simp; omega)
  · exact (((((below1 _ _).alloc (by simp) _).alloc (by simp; omega) _).trans (hb.mono (by simp; omega))).setCell (by simp; omega) _).setCell (by simp) _

set_option maxHeartbeats 400000 in
theorem eqOp_same (s : ByteArray) (k l sd : Int) (w : World) :
    Calls Try.prog 80 #[.agg #[.string s, .int .i64 k, .int .i64 l, .int .i64 sd], .agg #[.string s, .int .i64 k, .int .i64 l, .int .i64 sd]] w fun e w' => e = .returned (.bool true) ∧ Below w.heap.size w w' := by
  go_enter Try.func80, Try.ntmps80
  go_wp2
  go_ret
  exact ⟨rfl, (below1 _ _).alloc (by simp) _⟩

set_option maxHeartbeats 1000000 in
theorem eqOpS_same (b off b' off' cap cap' : Nat) (xs : List OpR) (w : World) (hm : xs.length ≤ 1048576) (h : Ops w b off xs) (h' : Ops w b' off' xs) (hB : b < w.heap.size) (hB' : b' < w.heap.size) :
    Calls Try.prog 46 #[.slice (some ⟨b, off, none⟩) xs.length cap, .slice (some ⟨b', off', none⟩) xs.length cap'] w fun e w' => e = .returned (.bool true) ∧ Below w.heap.size w w' := by
  go_enter Try.func46, Try.ntmps46
  go_wp2
  go_loopw [5] (fun i wr => ∃ k : Nat, k ≤ xs.length ∧ i = .int .i64 k ∧ Below w.heap.size w wr) (fun i _ => xs.length - (intOf i).toNat)
  case atStart => exact ⟨0, Nat.zero_le _, rfl, Below.refl _ _⟩
  case round =>
    obtain ⟨k, hk, rfl, hbel⟩ := hrel
    by_cases hlt : k < xs.length
    · obtain ⟨a0, a1, a2, a3⟩ := (h k hlt).below hbel hB
      obtain ⟨c0, c1, c2, c3⟩ := (h' k hlt).below hbel hB'
      have hltI : (k : Int) < (xs.length : Int) := by omega
      have zb : b < wr.heap.size := Nat.lt_of_lt_of_le hB hbel.size
      have zb' : b' < wr.heap.size := Nat.lt_of_lt_of_le hB' hbel.size
      go_wp2_with fail
      go_region_held (fun w' => w'.cell? ⟨b, off + k * 4, none⟩ = some (.string (atO xs k).s) ∧ w'.cell? ⟨b, off + k * 4 + 1, none⟩ = some (.int .i64 (atO xs k).k) ∧
        w'.cell? ⟨b, off + k * 4 + 2, none⟩ = some (.int .i64 (atO xs k).l) ∧ w'.cell? ⟨b, off + k * 4 + 3, none⟩ = some (.int .i64 (atO xs k).sd) ∧
        w'.cell? ⟨b', off' + k * 4, none⟩ = some (.string (atO xs k).s) ∧ w'.cell? ⟨b', off' + k * 4 + 1, none⟩ = some (.int .i64 (atO xs k).k) ∧
        w'.cell? ⟨b', off' + k * 4 + 2, none⟩ = some (.int .i64 (atO xs k).l) ∧ w'.cell? ⟨b', off' + k * 4 + 3, none⟩ = some (.int .i64 (atO xs k).sd)) (go_keep)
        (first | (go_at_call 80; refine (eqOp_same _ _ _ _ _).mono ?_; rintro e w1 ⟨rfl, hb1⟩; obtain ⟨q0, q1, q2, q3⟩ := CellsAt.below (w := wr.drew) ⟨a0, a1, a2, a3⟩ hb1 zb; obtain ⟨p0, p1, p2, p3⟩ := CellsAt.below (w := wr.drew) ⟨c0, c1, c2, c3⟩ hb1 zb'))
      go_wp2
      exact ⟨⟨k + 1, by omega, by go_num, hbel.trans (((Below.refl _ _).drew.trans hb1).mono hbel.size)⟩, by simp [intOf]; omega⟩
    · go_wp2
      go_ret
      exact ⟨rfl, hbel⟩
end Go.Proofs.Ytokabkhnidlcnab

/-
  Walk: all operators are well formed.
-/
namespace Go.Proofs.Ytokabkhnidlcnab
set_option maxRecDepth 100000
open Go.RowKit

set_option maxHeartbeats 400000 in
theorem allWF_any (b off cap : Nat) (xs : List OpR) (w : World) (hn2 : xs.length ≤ 1048576) (hw : Ops w b off xs) (hs : Sized xs) (hB : b < w.heap.size) :
    Calls Try.prog 87 #[.slice (some ⟨b, off, none⟩) xs.length cap] w fun e w' => (∃ v, e = .returned (.bool v) ∧ (v = true ↔ okTo xs xs.length)) ∧ Below w.heap.size w w' := by
  go_enter Try.func87, Try.ntmps87
  go_wp2
  go_loopw [7] (fun i wr => ∃ k : Nat, k ≤ xs.length ∧ i = .int .i64 k ∧ okTo xs k ∧ Below w.heap.size w wr) (fun i _ => xs.length - (intOf i).toNat)
  case atStart => exact ⟨0, Nat.zero_le _, rfl, fun j h => by omega, Below.refl _ _⟩
  case round =>
    obtain ⟨k, hk, rfl, hok, hbel⟩ := hrel
    by_cases hlt : k < xs.length
    · obtain ⟨h0, h1, h2, h3⟩ := (hw k hlt).below hbel hB
      cases ht : (atO xs k).ok
      · have Ht := hide ht
        unfold OpR.ok at ht
        go_wp2_with (go_at_call 121; refine (wellFormed_any _ _ _ _ _ (hs k hlt)).mono ?_; rintro e w' ⟨rfl, hb⟩)
        go_ret
        refine ⟨⟨false, rfl, ⟨fun h => (by cases h), fun h => ?_⟩⟩, ?_⟩
        · have := h k hlt; rw [unhide Ht] at this; cases this
        · exact hbel.trans (((below1 _ _).trans (hb.mono (by simp))).mono hbel.size)
      · have Ht := hide ht
        unfold OpR.ok at ht
        go_wp2_with (go_at_call 121; refine (wellFormed_any _ _ _ _ _ (hs k hlt)).mono ?_; rintro e w' ⟨rfl, hb⟩)
        exact ⟨⟨k + 1, by omega, by go_num, okTo_succ hok (unhide Ht), hbel.trans (((below1 _ _).trans (hb.mono (by simp))).mono hbel.size)⟩, by simp [intOf]; omega⟩
    · have : k = xs.length := by omega
      go_wp2
      go_ret
      exact ⟨⟨true, rfl, ⟨fun _ => this ▸ hok, fun _ => rfl⟩⟩, hbel⟩

end Go.Proofs.Ytokabkhnidlcnab
