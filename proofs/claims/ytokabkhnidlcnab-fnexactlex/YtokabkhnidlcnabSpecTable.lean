/-
  Walk: the specification's TableOk.
-/
import Derived.Test.YtokabkhnidlcnabClash
namespace Go.Proofs.Ytokabkhnidlcnab
set_option maxRecDepth 100000
open Go.RowKit

set_option maxHeartbeats 2000000 in
theorem specTableOk_any (b off cap : Nat) (xs : List OpR) (w : World) (hm : xs.length ≤ 1048576) (hw : Ops w b off xs) (hs : Sized xs) (hB : b < w.heap.size) :
    Calls Try.prog 49 #[.agg #[.slice (some ⟨b, off, none⟩) xs.length cap]] w fun e w' => (∃ c, e = .returned (.int .i64 c) ∧ IsCode xs c) ∧ Below w.heap.size w w' := by
  have hx0 := hide (Bx.start (cap := cap) hw hB 28)
  by_cases h500 : 500 < xs.length
  · go_enter Try.func49, Try.ntmps49
    go_wp2
    go_ret
    exact ⟨⟨1, rfl, Or.inl ⟨rfl, h500⟩⟩, below1 _ _⟩
  have h500' : xs.length ≤ 500 := by omega
  go_enter Try.func49, Try.ntmps49
  go_wp2
  go_loopw [4] (fun i wr => ∃ k : Nat, k ≤ xs.length ∧ i = .int .i64 k ∧ okTo xs k ∧ Bx w b off cap xs wr) (fun i _ => xs.length - (intOf i).toNat)
  case atStart => exact ⟨0, Nat.zero_le _, rfl, fun j h => (by omega), unhide hx0⟩
  case round =>
    obtain ⟨k, hk, rfl, hok, hx⟩ := hrel
    by_cases hlt : k < xs.length
    · obtain ⟨a0, a1, a2, a3⟩ := hx.ops k hlt
      have hbx := hx.box
      cases ht : (atO xs k).ok
      · have Ht := hide ht
        unfold OpR.ok at ht
        go_wp2_with (go_at_call 81; refine (l1OpOk_any _ _ _ _ _ (hs k hlt)).mono ?_; rintro e w1 ⟨rfl, hb1⟩)
        go_ret
        refine ⟨⟨2, rfl, Or.inr ⟨h500', Or.inl ⟨rfl, fun h => ?_⟩⟩⟩, (hx.step hb1).bel⟩
        have := h k hlt
        rw [unhide Ht] at this
        cases this
      · have Ht := hide ht
        unfold OpR.ok at ht
        go_wp2_with (go_at_call 81; refine (l1OpOk_any _ _ _ _ _ (hs k hlt)).mono ?_; rintro e w1 ⟨rfl, hb1⟩)
        exact ⟨⟨k + 1, by omega, by go_num, okTo_succ hok (unhide Ht), hx.step hb1⟩, by simp [intOf]; omega⟩
    · have hall : okTo xs xs.length := by have : k = xs.length := by omega
                                          exact this ▸ hok
      clear hok hx0
      go_wp2
      go_loopw [5] (fun c wr => ∃ cc : Int, c = .int .i64 cc ∧ 3 ≤ cc ∧ cc ≤ 5 ∧ Hid ((3 < cc → ¬ Pr 3 xs) ∧ (4 < cc → ¬ Pr 4 xs)) ∧ Bx w b off cap xs wr) (fun c _ => (5 - intOf c).toNat)
      case atStart => exact ⟨3, rfl, by omega, by omega, hide ⟨fun h => (by omega), fun h => (by omega)⟩, hx⟩
      case round =>
        clear hx
        obtain ⟨cc, rfl, hc3, hc5, hno, hx⟩ := hrel
        by_cases hc4 : cc ≤ 4
        · have hcc := hide (show cc = 3 ∨ cc = 4 by omega)
          go_wp2
          go_loopw [6] (fun i wr => ∃ k : Nat, k ≤ xs.length ∧ i = .int .i64 k ∧ Hid (NoPr cc xs k) ∧ Bx w b off cap xs wr) (fun i _ => xs.length - (intOf i).toNat)
          case atStart => exact ⟨0, Nat.zero_le _, rfl, hide (fun i j _ h => (by omega)), hx⟩
          case round =>
            clear hx
            obtain ⟨p, hp, rfl, hnp, hx⟩ := hrel
            by_cases hlp : p < xs.length
            · go_wp2
              go_loopw [7] (fun j wr => ∃ m : Nat, m ≤ p ∧ j = .int .i64 m ∧ Hid (∀ j, j < m → ¬ cl cc (atO xs p) (atO xs j)) ∧ Bx w b off cap xs wr) (fun j _ => p - (intOf j).toNat)
              case atStart => exact ⟨0, Nat.zero_le _, rfl, hide (fun j h => (by omega)), hx⟩
              case round =>
                clear hx
                obtain ⟨m, hmp, rfl, hnm, hx⟩ := hrel
                by_cases hlm : m < p
                · have hlmx : m < xs.length := by omega
                  obtain ⟨a0, a1, a2, a3⟩ := hx.ops p hlp
                  obtain ⟨d0, d1, d2, d3⟩ := hx.ops m hlmx
                  have hbx := hx.box
                  have hlt := hx.lt
                  have i1 : (p : Int) < (xs.length : Int) := by omega
                  have i2 : (m : Int) < (xs.length : Int) := by omega
                  go_wp2_with fail
                  go_region_held (fun w' => w'.cell? ⟨w.heap.size, 0, none⟩ = some (.slice (some ⟨b, off, none⟩) xs.length cap) ∧
                    (w'.cell? ⟨b, off + p * 4, none⟩ = some (.string (atO xs p).s) ∧ w'.cell? ⟨b, off + p * 4 + 1, none⟩ = some (.int .i64 (atO xs p).k) ∧ w'.cell? ⟨b, off + p * 4 + 2, none⟩ = some (.int .i64 (atO xs p).l) ∧ w'.cell? ⟨b, off + p * 4 + 3, none⟩ = some (.int .i64 (atO xs p).sd)) ∧
                    (w'.cell? ⟨b, off + m * 4, none⟩ = some (.string (atO xs m).s) ∧ w'.cell? ⟨b, off + m * 4 + 1, none⟩ = some (.int .i64 (atO xs m).k) ∧ w'.cell? ⟨b, off + m * 4 + 2, none⟩ = some (.int .i64 (atO xs m).l) ∧ w'.cell? ⟨b, off + m * 4 + 3, none⟩ = some (.int .i64 (atO xs m).sd))) (go_keep)
                    (first | (go_at_call 82; refine (l1Clash_any (atO xs p) (atO xs m) cc _ (unhide hcc)).mono ?_; rintro e w1 ⟨⟨v, rfl, hv⟩, hb1⟩; have HV := hide hv; clear hv; have hx1 := hx.drew.step hb1; obtain ⟨q0, q1, q2, q3⟩ := hx1.ops p hlp; obtain ⟨r0, r1, r2, r3⟩ := hx1.ops m hlmx; have qb := hx1.box))
                  cases v
                  · go_wp2
                    refine ⟨⟨m + 1, by omega, by go_num, hide ?_, hx1⟩, by simp [intOf]; omega⟩
                    intro j hj
                    by_cases e : j = m
                    · subst e
                      exact fun h => Bool.false_ne_true ((unhide HV).2 h)
                    · exact (unhide hnm) j (by omega)
                  · go_wp2
                    go_ret
                    refine ⟨⟨cc, rfl, Or.inr ⟨h500', Or.inr ⟨hall, ?_⟩⟩⟩, hx1.bel⟩
                    have hpr : Pr cc xs := ⟨p, m, hlm, hlp, (unhide HV).1 (by trivial)⟩
                    rcases unhide hcc with e | e
                    · subst e; exact Or.inl ⟨rfl, hpr⟩
                    · subst e; exact Or.inr ⟨(unhide hno).1 (by omega), Or.inl ⟨rfl, hpr⟩⟩
                · go_wp2
                  refine ⟨⟨p + 1, by omega, by go_num, hide (NoPr_succ (unhide hnp) (fun j hj => (unhide hnm) j (by omega))), hx⟩, by simp [intOf]; omega⟩
            · go_wp2
              refine ⟨⟨cc + 1, by go_num, by omega, by omega, hide ?_, hx⟩, by simp [intOf]; omega⟩
              have hn : ¬ Pr cc xs := NoPr_not (by have e : p = xs.length := by omega
                                                   exact e ▸ (unhide hnp))
              rcases unhide hcc with e | e
              · subst e; exact ⟨fun _ => hn, fun h => (by omega)⟩
              · subst e; exact ⟨fun _ => (unhide hno).1 (by omega), fun _ => hn⟩
        · go_wp2
          go_ret
          exact ⟨⟨0, rfl, Or.inr ⟨h500', Or.inr ⟨hall, Or.inr ⟨(unhide hno).1 (by omega), Or.inr ⟨rfl, (unhide hno).2 (by omega)⟩⟩⟩⟩⟩, hx.bel⟩
end Go.Proofs.Ytokabkhnidlcnab
