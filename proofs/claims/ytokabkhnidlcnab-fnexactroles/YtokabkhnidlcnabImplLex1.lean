/-
  Walks: the program's scanner, its parts.
-/
import Derived.Test.YtokabkhnidlcnabTokRow
import Derived.Test.YtokabkhnidlcnabKindB
import Derived.Test.YtokabkhnidlcnabSpecLex2
import Derived.Test.YtokabkhnidlcnabImplTable
import Derived.Deep.AppendLies
import Derived.Deep.RegionHeldLaw
namespace Go.Proofs.Ytokabkhnidlcnab
set_option maxRecDepth 100000
open Go.RowKit Go.Maps

theorem wordKind_any (c : Nat) (w : World) (h : c = 2 ∨ c = 3) :
    Calls Try.prog 127 #[.int .i64 (c : Int)] w fun e w' => e = .returned (.int .i64 ((c : Int) - 1)) ∧ w' = w := by
  rcases h with rfl | rfl
  · go_enter Try.func127, Try.ntmps127
    go_wp2
    go_ret
    exact ⟨rfl, rfl⟩
  · go_enter Try.func127, Try.ntmps127
    go_wp2
    go_ret
    exact ⟨rfl, rfl⟩

/-- A scanner in memory. -/
structure Sc (w : World) (p bo bs L : Nat) (s : ByteArray) (gap start : Nat) (v : Value) : Prop where
  c0 : w.cell? ⟨p, 0, none⟩ = some (.map (some bo))
  c1 : w.cell? ⟨p, 1, none⟩ = some (.map (some bs))
  c2 : w.cell? ⟨p, 2, none⟩ = some (.int .i64 (L : Int))
  c3 : w.cell? ⟨p, 3, none⟩ = some (.string s)
  c4 : w.cell? ⟨p, 4, none⟩ = some (.int .i64 (gap : Int))
  c5 : w.cell? ⟨p, 5, none⟩ = some (.int .i64 (start : Int))
  c6 : w.cell? ⟨p, 6, none⟩ = some v
  fz : ∀ o, w.frozen? ⟨p, o, none⟩ = false

set_option maxHeartbeats 1000000 in
theorem goesOn_any (p bo bs L : Nat) (s : ByteArray) (gap start : Nat) (v : Value) (first q : Nat) (w : World) (h : Sc w p bo bs L s gap start v) (hq : q ≤ s.size) (hf : first = 2 ∨ first = 3) :
    Calls Try.prog 125 #[.pointer (some ⟨p, 0, none⟩), .int .i64 (first : Int), .int .i64 (q : Int)] w fun e w' => RetB e (q < s.size ∧ (cls (bt s q) = 2 ∨ (cls (bt s q) = 3 ∧ first = 3))) ∧ w' = w := by
  have c3 := h.c3
  clear h
  by_cases hlt : q < s.size
  · have hltI : (q : Int) < (s.size : Int) := by omega
    have hb := hide (bt_get hlt)
    have HF := hide hf
    clear hf
    go_enter Try.func125, Try.ntmps125
    go_wp2_with (go_at_call 140; refine (staysWord_any first _ _).mono ?_; rintro e w' ⟨rfl, hx⟩; obtain rfl := hx.symm)
    go_ret
    refine ⟨⟨_, rfl, ?_⟩, rfl⟩
    unfold Says stays
    rw [unhide hb]
    simp [hlt]
  · have hltI : ¬ (q : Int) < (s.size : Int) := by omega
    go_enter Try.func125, Try.ntmps125
    go_wp2_with fail
    go_ret
    exact ⟨⟨false, rfl, says_false (by simp)⟩, rfl⟩

end Go.Proofs.Ytokabkhnidlcnab
