/-
  Rows of numbers: compared, marked, held.
-/
import Derived.Test.YtokabkhnidlcnabIntB
import Derived.Test.YtokabkhnidlcnabLawParts
namespace Go.Proofs.Ytokabkhnidlcnab
set_option maxRecDepth 100000
open Go.RowKit

set_option maxHeartbeats 1000000 in
theorem eqIntS_arg (a a' : Option Addr) (cap cap' : Nat) (us : List Int) (w : World) (hm : us.length ≤ 1048576) (h : ArgI w a us) (h' : ArgI w a' us) :
    Calls Try.prog 28 #[.slice a us.length cap, .slice a' us.length cap'] w fun e w' => e = .returned (.bool true) ∧ Below w.heap.size w w' := by
  by_cases h0 : us.length = 0
  · obtain rfl := List.eq_nil_of_length_eq_zero h0
    clear h h' h0 hm
    go_enter Try.func28, Try.ntmps28
    go_wp2
    refine wp_loop_rounds 1 ?_
    rw [rounds_succ]
    go_wp2
    go_ret
    exact ⟨rfl, Below.refl _ _⟩
  · rcases h with h | ⟨b, rfl, hb, h⟩
    · exact absurd h h0
    rcases h' with h' | ⟨b', rfl, hb', h'⟩
    · exact absurd h' h0
    have H := hide h
    have H' := hide h'
    clear h h'
    go_enter Try.func28, Try.ntmps28
    go_wp2
    go_loopw [5] (fun i wr => ∃ k : Nat, k ≤ us.length ∧ i = .int .i64 (k : Int) ∧ Below w.heap.size w wr) (fun i _ => us.length - (intOf i).toNat)
    case atStart => exact ⟨0, Nat.zero_le _, rfl, Below.refl _ _⟩
    case round =>
      obtain ⟨k, hk, rfl, hbel⟩ := hrel
      by_cases hlt : k < us.length
      · have hltI : (k : Int) < (us.length : Int) := by omega
        have a0 := (hbel.cell (p := ⟨b, k, none⟩) hb).trans ((unhide H) k hlt)
        have a1 := (hbel.cell (p := ⟨b', k, none⟩) hb').trans ((unhide H') k hlt)
        go_wp2_with fail
        go_region_held (fun w' => w'.cell? ⟨b, k, none⟩ = some (.int .i64 (atI us k)) ∧ w'.cell? ⟨b', k, none⟩ = some (.int .i64 (atI us k))) (go_keep) (fail)
        go_wp2
        exact ⟨⟨k + 1, by omega, by go_num, hbel.drew⟩, by simp [intOf]; omega⟩
      · go_wp2
        go_ret
        exact ⟨rfl, hbel⟩

set_option maxHeartbeats 1000000 in
theorem markIntS_own (a : Option Addr) (cap n0 : Nat) (us : List Int) (w : World) (hm : us.length ≤ 1048576) (h : OwnedI w n0 a us) :
    Calls Try.prog 29 #[.slice a us.length cap, .int .i64 1] w fun e w' => (∃ k' : Nat, e = .returned (.int .i64 (k' : Int)) ∧ Hid (k' = 1 + us.length)) ∧ Hid (MarkedI w' a 1 us.length) ∧ w.grownBy w' (a.map (·.block)) := by
  rcases h with ⟨h0, rfl⟩ | ⟨g, rfl, _, hf⟩
  · obtain rfl := List.eq_nil_of_length_eq_zero h0
    go_enter Try.func29, Try.ntmps29
    go_wp2
    refine wp_loop_rounds 1 ?_
    rw [rounds_succ]
    go_wp2
    go_ret
    exact ⟨⟨1, rfl, hide rfl⟩, hide (Or.inl ⟨rfl, rfl⟩), grown_bel (Below.refl _ _) _⟩
  · have hth := hide hf.2.1
    have hg := hf.1
    clear hf
    go_enter Try.func29, Try.ntmps29
    go_wp2
    go_loopw [1, 5] (fun kk i wr => ∃ n : Nat, n ≤ us.length ∧ i = .int .i64 (n : Int) ∧ kk = .int .i64 ((1 + n : Nat) : Int) ∧ Hid (wr.there g 0 us.length ∧ ∀ i, i < n → wr.cell? ⟨g, i, none⟩ = some (.int .i64 ((1 + i : Nat) : Int))) ∧ Hid (KeptT w wr g)) (fun _ i _ => us.length - (intOf i).toNat)
    case atStart => exact ⟨0, Nat.zero_le _, rfl, rfl, hide ⟨unhide hth, fun i hi => by omega⟩, hide (KeptT.refl _ _)⟩
    case round =>
      clear hth
      obtain ⟨n, hn, rfl, rfl, hf, hkp⟩ := hrel
      by_cases hlt : n < us.length
      · have h0 := (unhide hf).1 n hlt
        rw [Nat.zero_add] at h0
        obtain ⟨u0, e0⟩ := Option.isSome_iff_exists.1 h0.1
        have f0 := h0.2
        clear h0
        have HN := hide (show (wr.setCell ⟨g, n, none⟩ (.int .i64 ((1 + n : Nat) : Int))).there g 0 us.length ∧ ∀ i, i < n + 1 → (wr.setCell ⟨g, n, none⟩ (.int .i64 ((1 + n : Nat) : Int))).cell? ⟨g, i, none⟩ = some (.int .i64 ((1 + i : Nat) : Int)) from ⟨(show (wr.setCells g n [Value.int .i64 ((1 + n : Nat) : Int)]).there g 0 us.length from World.there_setCells (unhide hf).1 _ _ _), fun i hi => by
          by_cases e : i = n
          · subst e; exact World.cell?_setCell_same _ _ _ e0
          · rw [World.cell?_setCell_other _ _ _ _ (by simp; first | done | omega)]
            exact (unhide hf).2 i (by omega)⟩)
        go_wp2
        refine ⟨⟨n + 1, by omega, by go_num, by go_num, ?_, hide ((unhide hkp).set n _)⟩, by simp [intOf]; omega⟩
        first | exact HN | simpa using HN
      · have HX := hide (show n = us.length by omega)
        go_wp2
        go_ret
        refine ⟨⟨1 + n, rfl, hide (by rw [unhide HX])⟩, hide (Or.inr ⟨g, rfl, ?_⟩), (unhide hkp).grown⟩
        have e := unhide HX
        have hl : ((List.range us.length).map fun i => ((1 + i : Nat) : Int)).length = us.length := by simp
        refine ⟨Nat.lt_of_lt_of_le hg (unhide hkp).size, hl.symm ▸ (unhide hf).1, fun i hi => ?_⟩
        have : atI ((List.range us.length).map fun i => ((1 + i : Nat) : Int)) i = ((1 + i : Nat) : Int) := by simp [atI, hi]
        rw [this]
        exact (unhide hf).2 i (by omega)

set_option maxHeartbeats 1000000 in
theorem heldIntS_own (a : Option Addr) (cap n : Nat) (w : World) (hm : n ≤ 1048576) (h : MarkedI w a 1 n) :
    Calls Try.prog 30 #[.slice a n cap, .int .i64 1] w fun e w' => (∃ k' : Nat, e = .returned (.int .i64 (k' : Int)) ∧ Hid (k' = 1 + n)) ∧ Below w.heap.size w w' := by
  rcases h with ⟨rfl, rfl⟩ | ⟨g, rfl, hf⟩
  · go_enter Try.func30, Try.ntmps30
    go_wp2
    refine wp_loop_rounds 1 ?_
    rw [rounds_succ]
    go_wp2
    go_ret
    exact ⟨⟨1, rfl, hide rfl⟩, Below.refl _ _⟩
  · have hg := hf.1
    have HF := hide (show ∀ i, i < n → w.cell? ⟨g, i, none⟩ = some (.int .i64 ((1 + i : Nat) : Int)) from fun i hi => by
      have := hf.2.2 i hi
      rw [show atI ((List.range n).map fun i => ((1 + i : Nat) : Int)) i = ((1 + i : Nat) : Int) by simp [atI, hi]] at this
      exact this)
    clear hf
    go_enter Try.func30, Try.ntmps30
    go_wp2
    go_loopw [1, 5] (fun kk i wr => ∃ m : Nat, m ≤ n ∧ i = .int .i64 (m : Int) ∧ kk = .int .i64 ((1 + m : Nat) : Int) ∧ Below w.heap.size w wr) (fun _ i _ => n - (intOf i).toNat)
    case atStart => exact ⟨0, Nat.zero_le _, rfl, rfl, Below.refl _ _⟩
    case round =>
      obtain ⟨m, hmn, rfl, rfl, hbel⟩ := hrel
      by_cases hlt : m < n
      · have hltI : (m : Int) < (n : Int) := by omega
        have a0 := (hbel.cell (p := ⟨g, m, none⟩) hg).trans ((unhide HF) m hlt)
        go_wp2
        exact ⟨⟨m + 1, by omega, by go_num, by go_num, hbel⟩, by simp [intOf]; omega⟩
      · have HX := hide (show m = n by omega)
        go_wp2
        go_ret
        exact ⟨⟨1 + m, rfl, hide (by rw [unhide HX])⟩, hbel⟩
end Go.Proofs.Ytokabkhnidlcnab
