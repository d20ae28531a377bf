/-
  Walks: tables compared, marked and held, a nil list among them; what a law keeps in memory.
-/
import Derived.Test.YtokabkhnidlcnabImplUni
import Derived.Test.YtokabkhnidlcnabMarkOps
namespace Go.Proofs.Ytokabkhnidlcnab
set_option maxRecDepth 100000
open Go.RowKit Go.Maps

theorem grown_of_below {w w' : World} (h : Below w.heap.size w w') (row : Option Nat) : w.grownBy w' row := ⟨h.os, h.tape, h.output, h.size, fun i hi _ => h.block i hi⟩

theorem grown_of_kept1 {w w' : World} {g : Nat} (h : Kept1 w w' g) : w.grownBy w' (some g) := ⟨h.os, h.tape, h.output, h.size, fun i hi e => h.block i hi (fun x => e (by rw [x]))⟩

theorem Filled.grown {w w' : World} {g k : Nat} {xs : List OpR} {row : Option Nat} (h : Filled w g xs k) (hg : w.grownBy w' row) (hne : some g ≠ row) : Filled w' g xs k := by
  obtain ⟨h1, h2, h3⟩ := h
  have hb := hg.block g h1 hne
  have e : ∀ o, w'.cell? ⟨g, o, none⟩ = w.cell? ⟨g, o, none⟩ := fun o => World.cell?_of_block (w := w) hb
  have f : ∀ o, w'.frozen? ⟨g, o, none⟩ = w.frozen? ⟨g, o, none⟩ := fun o => World.frozen?_of_block (w := w) hb
  refine ⟨Nat.lt_of_lt_of_le h1 hg.size, fun j hj => ⟨by rw [e]; exact (h2 j hj).1, by rw [f]; exact (h2 j hj).2⟩, fun i hi => ?_⟩
  obtain ⟨a0, a1, a2, a3⟩ := h3 i hi
  exact ⟨(e _).trans a0, (e _).trans a1, (e _).trans a2, (e _).trans a3⟩

theorem Owned.arg {w : World} {n : Nat} {a : Option Addr} {us : List OpR} (h : Owned w n a us) : Arg w a us := by
  rcases h with ⟨h, _⟩ | ⟨g, rfl, _, hf⟩
  · exact Or.inl h
  · exact Or.inr ⟨g, 0, rfl, hf.ops, hf.1⟩

theorem Filled.arg {w : World} {g : Nat} {us : List OpR} (h : Filled w g us us.length) : Arg w (some ⟨g, 0, none⟩) us := Or.inr ⟨g, 0, rfl, h.ops, h.1⟩

set_option maxHeartbeats 1000000 in
theorem eqOpS_arg (a a' : Option Addr) (cap cap' : Nat) (xs : List OpR) (w : World) (hm : xs.length ≤ 1048576) (h : Arg w a xs) (h' : Arg w a' xs) :
    Calls Try.prog 46 #[.slice a xs.length cap, .slice a' xs.length cap'] w fun e w' => e = .returned (.bool true) ∧ Below w.heap.size w w' := by
  by_cases h0 : xs.length = 0
  · obtain rfl := List.eq_nil_of_length_eq_zero h0
    clear h h' h0 hm
    go_enter Try.func46, Try.ntmps46
    go_wp2
    refine wp_loop_rounds 1 ?_
    rw [rounds_succ]
    go_wp2
    go_ret
    exact ⟨rfl, Below.refl _ _⟩
  · rcases h with h | ⟨b, off, rfl, h1, h2⟩
    · exact absurd h h0
    · rcases h' with h' | ⟨b', off', rfl, h1', h2'⟩
      · exact absurd h' h0
      · exact eqOpS_same b off b' off' cap cap' xs w hm h1 h1' h2 h2'

set_option maxHeartbeats 400000 in
theorem eqTable_arg (a a' : Option Addr) (cap cap' : Nat) (xs : List OpR) (w : World) (hm : xs.length ≤ 1048576) (h : Arg w a xs) (h' : Arg w a' xs) :
    Calls Try.prog 14 #[.agg #[.slice a xs.length cap], .agg #[.slice a' xs.length cap']] w fun e w' => e = .returned (.bool true) ∧ Below w.heap.size w w' := by
  have H := hide (fun o1 o2 => (h.alloc o1).alloc o2)
  have H' := hide (fun o1 o2 => (h'.alloc o1).alloc o2)
  clear h h'
  go_enter Try.func14, Try.ntmps14
  go_wp2_with fail
  refine (eqOpS_arg a a' cap cap' xs _ hm (unhide H _ _) (unhide H' _ _)).mono ?_
  rintro e w1 ⟨rfl, hb⟩
  go_wp2_with fail
  go_ret
  exact ⟨rfl, ((below1 _ _).alloc (by simp) _).trans (hb.mono (by simp; omega))⟩

/-- A marked list. -/
def Marked (w : World) (a : Option Addr) (k n : Nat) : Prop := (n = 0 ∧ a = none) ∨ ∃ g, a = some ⟨g, 0, none⟩ ∧ Filled w g (mks k n) n

set_option maxRecDepth 100000 in
set_option maxHeartbeats 1000000 in
theorem markTable_any (a : Option Addr) (cap k n0 : Nat) (xs : List OpR) (w : World) (hm : xs.length ≤ 1048576) (h1 : 1 ≤ k) (hk : k ≤ 10000000) (h : Owned w n0 a xs) :
    Calls Try.prog 15 #[.agg #[.slice a xs.length cap], .int .i64 (k : Int)] w fun e w' => e = .returned (.int .i64 ((k + 4 * xs.length : Nat) : Int)) ∧ Marked w' a k xs.length ∧ w.grownBy w' (a.map (·.block)) := by
  rcases h with ⟨h0, rfl⟩ | ⟨g, rfl, _, hf⟩
  · obtain rfl := List.eq_nil_of_length_eq_zero h0
    go_enter Try.func15, Try.ntmps15
    go_wp2_with (first | (go_at_call 47; go_in))
    refine wp_loop_rounds 1 ?_
    rw [rounds_succ]
    go_wp2
    go_ret
    exact ⟨rfl, Or.inl ⟨rfl, rfl⟩, grown_of_below (below1 _ _) _⟩
  · have HF := hide (fun o => hf.below (below1 w o) hf.1)
    have hg := hf.1
    clear hf
    go_enter Try.func15, Try.ntmps15
    go_wp2_with fail
    refine (markOpS_any g cap k xs _ hm h1 hk (unhide HF _)).mono ?_
    rintro e w1 ⟨rfl, hf1, hk1⟩
    have HF1 := hide hf1
    have HK1 := hide hk1
    clear hf1 hk1
    go_wp2_with fail
    go_ret
    refine ⟨rfl, Or.inr ⟨g, rfl, unhide HF1⟩, ?_⟩
    exact grown_of_kept1 ((Kept1.of_below (below1 _ _)).trans (unhide HK1))

set_option maxRecDepth 100000 in
set_option maxHeartbeats 1000000 in
theorem heldTable_any (a : Option Addr) (cap k n : Nat) (w : World) (hm : n ≤ 1048576) (h1 : 1 ≤ k) (hk : k ≤ 10000000) (h : Marked w a k n) :
    Calls Try.prog 16 #[.agg #[.slice a n cap], .int .i64 (k : Int)] w fun e w' => e = .returned (.int .i64 ((k + 4 * n : Nat) : Int)) ∧ Below w.heap.size w w' := by
  have hpos : ¬ ((k + 4 * n : Nat) : Int) < 0 := by omega
  rcases h with ⟨rfl, rfl⟩ | ⟨g, rfl, hf⟩
  · go_enter Try.func16, Try.ntmps16
    go_wp2_with (first | (go_at_call 48; go_in))
    refine wp_loop_rounds 1 ?_
    rw [rounds_succ]
    go_wp2
    go_ret
    exact ⟨rfl, below1 _ _⟩
  · have HF := hide (fun o => hf.below (below1 w o) hf.1)
    clear hf
    go_enter Try.func16, Try.ntmps16
    go_wp2_with fail
    refine (heldOpS_any g cap k n _ hm h1 hk (unhide HF _)).mono ?_
    rintro e w1 ⟨rfl, hb1⟩
    go_wp2_with fail
    go_ret
    exact ⟨rfl, (below1 _ _).trans (hb1.mono (by simp))⟩
end Go.Proofs.Ytokabkhnidlcnab
