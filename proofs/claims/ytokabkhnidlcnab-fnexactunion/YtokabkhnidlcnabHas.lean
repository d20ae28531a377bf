/-
  Walk: the specification's l1Has.
-/
import Derived.Test.YtokabkhnidlcnabEq
import Derived.Deep.QuietTactic
import Derived.BigQuiet
import Derived.WalkSmall
namespace Go.Proofs.Ytokabkhnidlcnab
set_option maxRecDepth 100000
open Go.RowKit

theorem toList_inj {s t : ByteArray} (h : s.toList = t.toList) : s = t := by
  rw [ByteArray.toList_eq, ByteArray.toList_eq] at h
  obtain ⟨⟨a⟩⟩ := s
  obtain ⟨⟨b⟩⟩ := t
  simp at h
  rw [h]

/-- Two operators are the same in all fields. -/
def sameB (a b : OpR) : Bool := a.s.toList == b.s.toList && a.k == b.k && a.l == b.l && a.sd == b.sd

theorem sameB_iff {a b : OpR} : sameB a b = true ↔ a = b := by
  obtain ⟨s, k, l, sd⟩ := a
  obtain ⟨s', k', l', sd'⟩ := b
  simp only [sameB, Bool.and_eq_true, beq_iff_eq]
  constructor
  · rintro ⟨⟨⟨h1, h2⟩, h3⟩, h4⟩
    rw [toList_inj h1, h2, h3, h4]
  · intro h
    injection h with h1 h2 h3 h4
    exact ⟨⟨⟨by rw [h1], h2⟩, h3⟩, h4⟩

theorem opStruct : Try.prog.underlying 70 = some (.struct (Try.prog.fieldsOf 70)) := by kernel_rfl
theorem opHeld : Try.prog.stoodInHeld 70 = false := by kernel_rfl
theorem opGuard : Try.prog.eqGuardType Try.prog.depth 70 = false := by kernel_rfl

theorem run_eq_op (a b : OpR) (w : World) :
    (binOp .eql 70 (.agg #[.string a.s, .int .i64 a.k, .int .i64 a.l, .int .i64 a.sd]) (.agg #[.string b.s, .int .i64 b.k, .int .i64 b.l, .int .i64 b.sd])).run Try.prog w = .ok (.bool (sameB a b)) w := by
  rw [run_eql_struct, run_equalIn_agg _ _ _ _ _ opStruct opHeld]
  unfold Program.fieldsOf sameB
  rw [Try.underlying70]
  cases h1 : (a.s.toList == b.s.toList) <;> cases h2 : (a.k == b.k) <;> cases h3 : (a.l == b.l) <;> cases h4 : (a.sd == b.sd) <;> simp [go_sem, h1, h2, h3, h4]

set_option maxHeartbeats 1000000 in
theorem l1Has_any (g cap k : Nat) (zs : List OpR) (o : OpR) (w : World) (hm : zs.length ≤ 1048576) (hk : k ≤ zs.length) (hw : Ops w g 0 zs) (hB : g < w.heap.size) :
    Calls Try.prog 43 #[.slice (some ⟨g, 0, none⟩) k cap, .agg #[.string o.s, .int .i64 o.k, .int .i64 o.l, .int .i64 o.sd]] w fun e w' => (∃ v, e = .returned (.bool v) ∧ (v = true ↔ ∃ j, j < k ∧ atO zs j = o)) ∧ Below w.heap.size w w' := by
  go_enter Try.func43, Try.ntmps43
  go_wp2
  go_loopw [5] (fun i wr => ∃ n : Nat, n ≤ k ∧ i = .int .i64 (n : Int) ∧ Hid (∀ j, j < n → atO zs j ≠ o) ∧ Below (w.heap.size + 1) (w.alloc (.cells #[.string o.s, .int .i64 o.k, .int .i64 o.l, .int .i64 o.sd] 70)) wr) (fun i _ => k - (intOf i).toNat)
  case atStart => exact ⟨0, Nat.zero_le _, rfl, hide (fun j h => (by omega)), Below.refl _ _⟩
  case round =>
    obtain ⟨n, hn, rfl, hno, hbel⟩ := hrel
    by_cases hlt : n < k
    · obtain ⟨a0, a1, a2, a3⟩ := ((hw n (by omega)).below (below1 _ _) hB).below hbel (by omega)
      simp only [Nat.zero_add] at a0 a1 a2 a3
      have c0 : wr.cell? ⟨w.heap.size, 0, none⟩ = some (.string o.s) := by rw [hbel.cell (p := ⟨w.heap.size, 0, none⟩) (show w.heap.size < _ by omega)]; simp [go_sem]
      have c1 : wr.cell? ⟨w.heap.size, 1, none⟩ = some (.int .i64 o.k) := by rw [hbel.cell (p := ⟨w.heap.size, 1, none⟩) (show w.heap.size < _ by omega)]; simp [go_sem]
      have c2 : wr.cell? ⟨w.heap.size, 2, none⟩ = some (.int .i64 o.l) := by rw [hbel.cell (p := ⟨w.heap.size, 2, none⟩) (show w.heap.size < _ by omega)]; simp [go_sem]
      have c3 : wr.cell? ⟨w.heap.size, 3, none⟩ = some (.int .i64 o.sd) := by rw [hbel.cell (p := ⟨w.heap.size, 3, none⟩) (show w.heap.size < _ by omega)]; simp [go_sem]
      have hltI : (n : Int) < (k : Int) := by omega
      have hbel' := hide hbel
      clear hbel
      have hq := fun W => run_eq_op (atO zs n) o W
      have hg := opGuard
      go_wp2_with fail
      go_quiet (fail)
      clear hq hg
      cases hsm : sameB (atO zs n) o
      · have hne := hide (show atO zs n ≠ o from fun e => by rw [sameB_iff.2 e] at hsm; cases hsm)
        go_wp2
        refine ⟨⟨n + 1, by omega, by go_num, hide ?_, below_drewN (unhide hbel') nq⟩, by simp [intOf]; omega⟩
        intro j hj
        by_cases e : j = n
        · subst e; exact unhide hne
        · exact (unhide hno) j (by omega)
      · have heq := hide (sameB_iff.1 hsm)
        go_wp2
        go_ret
        exact ⟨⟨true, rfl, ⟨fun _ => ⟨n, hlt, unhide heq⟩, fun _ => rfl⟩⟩, below_drewN ((below1 _ _).trans ((unhide hbel').mono (by omega))) nq⟩
    · go_wp2
      go_ret
      refine ⟨⟨false, rfl, ⟨fun h => (by cases h), fun ⟨j, hj, he⟩ => absurd he ((unhide hno) j (by omega))⟩⟩, (below1 _ _).trans (hbel.mono (by omega))⟩
end Go.Proofs.Ytokabkhnidlcnab
