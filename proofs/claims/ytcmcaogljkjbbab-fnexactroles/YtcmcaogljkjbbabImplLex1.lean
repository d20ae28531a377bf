/-
  Walks: the program's scanner, its parts.
-/
import Derived.Test.YtcmcaogljkjbbabTokRow
import Derived.Test.YtcmcaogljkjbbabSpecLex2
import Derived.Test.YtcmcaogljkjbbabImplTable
import Derived.Deep.AppendLies
import Derived.Deep.RegionHeldLaw
namespace Go.Proofs.Ytcmcaogljkjbbab
set_option maxRecDepth 100000
open Go.RowKit Go.Maps

set_option maxHeartbeats 1000000 in
theorem kindOfByte_any (c : UInt8) (w : World) :
    Calls Try.prog 88 #[.int .u8 (c.toNat : Int)] w fun e w' => e = .returned (.int .i64 (cls c : Int)) ∧ w' = w := by
  have hsg := cls_sg c
  go_enter Try.func88, Try.ntmps88
  go_wp2_with (go_at_call 116; refine (isSign_any _ _).mono ?_; rintro e w' ⟨rfl, hx⟩; obtain rfl := hx.symm)
  all_goals (go_ret; refine ⟨ret_int ?_, rfl⟩; go_light; (try simp only [beq_iff_eq, beq_eq_false_iff_ne, ne_eq] at *); unfold cls; (repeat' split) <;> (try simp_all) <;> (try omega))

set_option maxHeartbeats 1000000 in
theorem longestText_any (b off cap : Nat) (xs : List OpR) (w : World) (hm : xs.length ≤ 1048576) (hw : Ops w b off xs) (hB : b < w.heap.size) (hv : SignTexts xs) :
    Calls Try.prog 54 #[.slice (some ⟨b, off, none⟩) xs.length cap] w fun e w' => (∃ L : Nat, e = .returned (.int .i64 (L : Int)) ∧ L ≤ 16 ∧ ∀ j, j < xs.length → (atO xs j).s.size ≤ L) ∧ Below w.heap.size w w' := by
  have HV := hide hv
  have HW := hide hw
  clear hv hw
  go_enter Try.func54, Try.ntmps54
  go_wp2
  go_loopw [3, 8] (fun l i wr => ∃ k L : Nat, k ≤ xs.length ∧ i = .int .i64 (k : Int) ∧ l = .int .i64 (L : Int) ∧ L ≤ 16 ∧ Hid (∀ j, j < k → (atO xs j).s.size ≤ L) ∧ Below w.heap.size w wr) (fun _ i _ => xs.length - (intOf i).toNat)
  case atStart => exact ⟨0, 0, Nat.zero_le _, rfl, rfl, by omega, hide (fun j h => by omega), Below.refl _ _⟩
  case round =>
    obtain ⟨k, L, hk, rfl, rfl, hL, hn, hbel⟩ := hrel
    by_cases hlt : k < xs.length
    · obtain ⟨a0, a1, a2, a3⟩ := ((unhide HW) k hlt).below hbel hB
      have hk16 := ((unhide HV) k hlt).2.1
      by_cases hc : L < (atO xs k).s.size
      · have hc' : max (L : Int) ((atO xs k).s.size : Int) = ((atO xs k).s.size : Int) := by omega
        go_wp2
        refine ⟨⟨k + 1, (atO xs k).s.size, by omega, by go_num, ?_, hk16, hide (fun j hj => ?_), hbel.alloc hbel.size _⟩, by simp [intOf]; omega⟩
        · first | rfl | (congr 1; omega)
        · by_cases e : j = k
          · subst e; exact Nat.le_refl _
          · have := (unhide hn) j (by omega); omega
      · have hc' : max (L : Int) ((atO xs k).s.size : Int) = (L : Int) := by omega
        go_wp2
        refine ⟨⟨k + 1, L, by omega, by go_num, ?_, hL, hide (fun j hj => ?_), hbel.alloc hbel.size _⟩, by simp [intOf]; omega⟩
        · first | rfl | (congr 1; omega)
        · by_cases e : j = k
          · subst e; omega
          · exact (unhide hn) j (by omega)
    · go_wp2
      go_ret
      exact ⟨⟨L, rfl, hL, fun j hj => (unhide hn) j (by omega)⟩, hbel⟩

theorem wordKind_any (c : Nat) (w : World) (h : c = 2 ∨ c = 3) :
    Calls Try.prog 91 #[.int .i64 (c : Int)] w fun e w' => e = .returned (.int .i64 ((c : Int) - 1)) ∧ w' = w := by
  rcases h with rfl | rfl
  · go_enter Try.func91, Try.ntmps91
    go_wp2
    go_ret
    exact ⟨rfl, rfl⟩
  · go_enter Try.func91, Try.ntmps91
    go_wp2
    go_ret
    exact ⟨rfl, rfl⟩

/-- A scanner in memory. -/
structure Sc (w : World) (p bo bs L : Nat) (s : ByteArray) (gap start : Nat) (v : Value) : Prop where
  c0 : w.cell? ⟨p, 0, none⟩ = some (.map (some bo))
  c1 : w.cell? ⟨p, 1, none⟩ = some (.map (some bs))
  c2 : w.cell? ⟨p, 2, none⟩ = some (.int .i64 (L : Int))
  c3 : w.cell? ⟨p, 3, none⟩ = some (.string s)
  c4 : w.cell? ⟨p, 4, none⟩ = some (.int .i64 (gap : Int))
  c5 : w.cell? ⟨p, 5, none⟩ = some (.int .i64 (start : Int))
  c6 : w.cell? ⟨p, 6, none⟩ = some v
  fz : ∀ o, w.frozen? ⟨p, o, none⟩ = false

set_option maxHeartbeats 1000000 in
theorem goesOn_any (p bo bs L : Nat) (s : ByteArray) (gap start : Nat) (v : Value) (first q : Nat) (w : World) (h : Sc w p bo bs L s gap start v) (hq : q ≤ s.size) (hf : first = 2 ∨ first = 3) :
    Calls Try.prog 89 #[.pointer (some ⟨p, 0, none⟩), .int .i64 (first : Int), .int .i64 (q : Int)] w fun e w' => RetB e (q < s.size ∧ (cls (bt s q) = 2 ∨ (cls (bt s q) = 3 ∧ first = 3))) ∧ w' = w := by
  have c3 := h.c3
  clear h
  by_cases hlt : q < s.size
  · have hne : ((q : Int) == (s.size : Int)) = false := by simp; omega
    have hb := hide (bt_get hlt)
    have HF := hide hf
    clear hf
    go_enter Try.func89, Try.ntmps89
    go_wp2_with (go_at_call 88; refine (kindOfByte_any _ _).mono ?_; rintro e w' ⟨rfl, hx⟩; obtain rfl := hx.symm)
    all_goals (go_ret; refine ⟨⟨_, rfl, ?_⟩, rfl⟩; unfold Says; rw [← unhide hb]; go_light; simp [*])

    all_goals omega
  · have hne : ((q : Int) == (s.size : Int)) = true := by simp; omega
    go_enter Try.func89, Try.ntmps89
    go_wp2_with fail
    go_ret
    exact ⟨⟨false, rfl, ⟨fun h => (by cases h), fun h => absurd h.1 hlt⟩⟩, rfl⟩

end Go.Proofs.Ytcmcaogljkjbbab
