/-
  Walks: the specification's operators of nodes, levels, holes.
-/
import Derived.Test.YtnpljpcfpbfcgabTreeOkM
import Derived.Test.YtnpljpcfpbfcgabSpecTree2
import Derived.Deep.RegionHeldLaw
namespace Go.Proofs.Ytnpljpcfpbfcgab
set_option maxRecDepth 100000
set_option linter.unusedVariables false
set_option linter.unusedSimpArgs false
open Go.RowKit

theorem keep4 {w : World} {B b o : Nat} {v0 v1 v2 v3 u : Value} (hne : B ≠ b) (h : w.cell? ⟨b, o, none⟩ = some u) : ((((w.setCell ⟨B, 0, none⟩ v0).setCell ⟨B, 1, none⟩ v1).setCell ⟨B, 2, none⟩ v2).setCell ⟨B, 3, none⟩ v3).cell? ⟨b, o, none⟩ = some u := by
  rw [World.cell?_setCell_far _ _ _ _ hne, World.cell?_setCell_far _ _ _ _ hne, World.cell?_setCell_far _ _ _ _ hne, World.cell?_setCell_far _ _ _ _ hne]
  exact h

/-- What l2Find gives. -/
def fI : Option Nat → Int
  | some j => (j : Int)
  | none => -1

set_option maxHeartbeats 1000000 in
theorem l2Find_ix (b off cap : Nat) (xs : List OpR) (t : ByteArray) (kd : Int) (w : World) (hm : xs.length ≤ 1048576) (hw : Ops w b off xs) (hB : b < w.heap.size) :
    Calls Try.prog 94 #[.agg #[.slice (some ⟨b, off, none⟩) xs.length cap], .string t, .int .i64 kd] w fun e w' => e = .returned (.int .i64 (fI (fnd xs t kd))) ∧ Below w.heap.size w w' := by
  go_enter Try.func94, Try.ntmps94
  go_wp2
  have hops : Ops (w.alloc (.cells #[.slice (some ⟨b, off, none⟩) xs.length cap] 28)) b off xs := hw.below (below1 _ _) hB
  have HO := hide hops
  clear hops hw
  go_loop [7] (fun i => ∃ k : Nat, k ≤ xs.length ∧ i = .int .i64 k ∧ Hid (∀ j, j < k → ¬ ((atO xs j).s = t ∧ (atO xs j).k = kd))) (fun i => xs.length - (intOf i).toNat)
  case atStart => exact ⟨0, Nat.zero_le _, rfl, hide (fun j h => by omega)⟩
  case round =>
    obtain ⟨k, hk, rfl, hn⟩ := hrel
    by_cases hlt : k < xs.length
    · obtain ⟨a0, a1, a2, a3⟩ := (unhide HO) k hlt
      have hnx := hide (show ∀ (_ : ¬ ((atO xs k).s = t ∧ (atO xs k).k = kd)), ∀ j, j < k + 1 → ¬ ((atO xs j).s = t ∧ (atO xs j).k = kd) from fun hne j hj => by
        by_cases e : j = k
        · subst e; exact hne
        · exact (unhide hn) j (by omega))
      go_wp2
      · rename_i hs1 hk1 _
        go_ret
        refine ⟨ret_int ?_, below1 _ _⟩
        rw [fnd_first hlt (unhide hn) ⟨bytes_inj hs1, by simpa using hk1⟩]
        rfl
      · refine ⟨⟨k + 1, by omega, by go_num, hide ((unhide hnx) ?_)⟩, by simp [intOf]; omega⟩
        rintro ⟨_, h⟩
        simp_all
      · refine ⟨⟨k + 1, by omega, by go_num, hide ((unhide hnx) ?_)⟩, by simp [intOf]; omega⟩
        rintro ⟨h, _⟩
        simp_all
    · go_wp2
      go_ret
      refine ⟨ret_int ?_, below1 _ _⟩
      rw [fnd_not (fun j hj => (unhide hn) j (by omega))]
      rfl

theorem l3IsOp_any (o : NodeR) (w : World) (v : Bool) (hv : v = decide (3 ≤ o.k ∧ o.k ≤ 5)) :
    Calls Try.prog 98 #[.agg #[.int .i64 o.k, .string o.t, .int .i64 o.a, .int .i64 o.b]] w fun e w' => e = .returned (.bool v) ∧ Below w.heap.size w w' := by
  by_cases h3 : 3 ≤ o.k
  · by_cases h5 : o.k ≤ 5
    · have HV := hide (show v = true by rw [hv]; simp [h3, h5])
      clear hv
      go_enter Try.func98, Try.ntmps98
      go_wp2
      go_ret
      exact ⟨ret_bool (unhide HV).symm, below1 _ _⟩
    · have HV := hide (show v = false by rw [hv]; simp [h5])
      clear hv
      go_enter Try.func98, Try.ntmps98
      go_wp2
      go_ret
      exact ⟨ret_bool (unhide HV).symm, below1 _ _⟩
  · have HV := hide (show v = false by rw [hv]; simp [h3])
    clear hv
    go_enter Try.func98, Try.ntmps98
    go_wp2
    go_ret
    exact ⟨ret_bool (unhide HV).symm, below1 _ _⟩

set_option maxHeartbeats 1000000 in
theorem l3OpOf_any (b off cap : Nat) (xs : List OpR) (o : NodeR) (j : Nat) (w : World) (hm : xs.length ≤ 1048576) (hw : Ops w b off xs) (hB : b < w.heap.size) (h3 : 3 ≤ o.k) (h5 : o.k ≤ 5) (hf : fnd xs o.t (o.k - 2) = some j) :
    Calls Try.prog 99 #[.agg #[.slice (some ⟨b, off, none⟩) xs.length cap], .agg #[.int .i64 o.k, .string o.t, .int .i64 o.a, .int .i64 o.b]] w fun e w' => e = .returned (.agg #[.string (atO xs j).s, .int .i64 (atO xs j).k, .int .i64 (atO xs j).l, .int .i64 (atO xs j).sd]) ∧ Below w.heap.size w w' := by
  have hj := (fnd_some hf).1
  have hjI : (j : Int) < (xs.length : Int) := by omega
  have HFI := hide (show fI (fnd xs o.t (o.k - 2)) = (j : Int) by rw [hf]; rfl)
  have HW := hide hw
  clear hw hf
  have HW3 := hide (show ∀ o1 o2 o3 : Obj, CellsAt (((w.alloc o1).alloc o2).alloc o3).drew b off xs j from fun o1 o2 o3 => ((unhide HW) j hj).below ((((below1 w o1).alloc (by simp) o2).alloc (by simp; omega) o3).drew) hB)
  go_enter Try.func99, Try.ntmps99
  go_wp2_with fail
  obtain ⟨r0, r1, r2, r3⟩ := (unhide HW3) (.cells #[.slice (some ⟨b, off, none⟩) xs.length cap] 28) (.cells #[.int .i64 o.k, .string o.t, .int .i64 o.a, .int .i64 o.b] 115) (.cells #[.string ⟨#[]⟩, .int .i64 0, .int .i64 0, .int .i64 0] 70)
  have HB3 := hide (show ∀ o1 o2 o3 : Obj, Below w.heap.size w (((w.alloc o1).alloc o2).alloc o3).drew from fun o1 o2 o3 => (((below1 w o1).alloc (by simp) o2).alloc (by simp; omega) o3).drew)
  have hbn1 : b ≠ w.heap.size + 1 + 1 := by omega
  have hbn2 : w.heap.size + 1 + 1 ≠ b := by omega
  have HWR := hide (show IntKind.i64.wrap (o.k - 2) = o.k - 2 by rw [IntKind.wrap_i64]; omega)
  have HSZ := hide (show ((((w.alloc (.cells #[.slice (some ⟨b, off, none⟩) xs.length cap] 28)).alloc (.cells #[.int .i64 o.k, .string o.t, .int .i64 o.a, .int .i64 o.b] 115)).alloc (.cells #[.string ⟨#[]⟩, .int .i64 0, .int .i64 0, .int .i64 0] 70)).drew).heap.size = w.heap.size + 3 from (show (((w.alloc (.cells #[.slice (some ⟨b, off, none⟩) xs.length cap] 28)).alloc (.cells #[.int .i64 o.k, .string o.t, .int .i64 o.a, .int .i64 o.b] 115)).alloc (.cells #[.string ⟨#[]⟩, .int .i64 0, .int .i64 0, .int .i64 0] 70)).heap.size = w.heap.size + 3 by simp))
  have HLT := hide (show b < ((((w.alloc (.cells #[.slice (some ⟨b, off, none⟩) xs.length cap] 28)).alloc (.cells #[.int .i64 o.k, .string o.t, .int .i64 o.a, .int .i64 o.b] 115)).alloc (.cells #[.string ⟨#[]⟩, .int .i64 0, .int .i64 0, .int .i64 0] 70)).drew).heap.size by rw [unhide HSZ]; omega)
  have HL0 := hide (show w.heap.size < ((((w.alloc (.cells #[.slice (some ⟨b, off, none⟩) xs.length cap] 28)).alloc (.cells #[.int .i64 o.k, .string o.t, .int .i64 o.a, .int .i64 o.b] 115)).alloc (.cells #[.string ⟨#[]⟩, .int .i64 0, .int .i64 0, .int .i64 0] 70)).drew).heap.size by rw [unhide HSZ]; omega)
  have HL1 := hide (show w.heap.size + 1 < ((((w.alloc (.cells #[.slice (some ⟨b, off, none⟩) xs.length cap] 28)).alloc (.cells #[.int .i64 o.k, .string o.t, .int .i64 o.a, .int .i64 o.b] 115)).alloc (.cells #[.string ⟨#[]⟩, .int .i64 0, .int .i64 0, .int .i64 0] 70)).drew).heap.size by rw [unhide HSZ]; omega)
  have HL2 := hide (show w.heap.size + 1 + 1 < ((((w.alloc (.cells #[.slice (some ⟨b, off, none⟩) xs.length cap] 28)).alloc (.cells #[.int .i64 o.k, .string o.t, .int .i64 o.a, .int .i64 o.b] 115)).alloc (.cells #[.string ⟨#[]⟩, .int .i64 0, .int .i64 0, .int .i64 0] 70)).drew).heap.size by rw [unhide HSZ]; omega)
  have HLW := hide (show w.heap.size ≤ ((((w.alloc (.cells #[.slice (some ⟨b, off, none⟩) xs.length cap] 28)).alloc (.cells #[.int .i64 o.k, .string o.t, .int .i64 o.a, .int .i64 o.b] 115)).alloc (.cells #[.string ⟨#[]⟩, .int .i64 0, .int .i64 0, .int .i64 0] 70)).drew).heap.size by rw [unhide HSZ]; omega)
  have HC0 := hide (show ((((w.alloc (.cells #[.slice (some ⟨b, off, none⟩) xs.length cap] 28)).alloc (.cells #[.int .i64 o.k, .string o.t, .int .i64 o.a, .int .i64 o.b] 115)).alloc (.cells #[.string ⟨#[]⟩, .int .i64 0, .int .i64 0, .int .i64 0] 70)).drew).cell? ⟨w.heap.size, 0, none⟩ = some (.slice (some ⟨b, off, none⟩) xs.length cap) ∧ ((((w.alloc (.cells #[.slice (some ⟨b, off, none⟩) xs.length cap] 28)).alloc (.cells #[.int .i64 o.k, .string o.t, .int .i64 o.a, .int .i64 o.b] 115)).alloc (.cells #[.string ⟨#[]⟩, .int .i64 0, .int .i64 0, .int .i64 0] 70)).drew).cell? ⟨w.heap.size + 1, 0, none⟩ = some (.int .i64 o.k) ∧ ((((w.alloc (.cells #[.slice (some ⟨b, off, none⟩) xs.length cap] 28)).alloc (.cells #[.int .i64 o.k, .string o.t, .int .i64 o.a, .int .i64 o.b] 115)).alloc (.cells #[.string ⟨#[]⟩, .int .i64 0, .int .i64 0, .int .i64 0] 70)).drew).cell? ⟨w.heap.size + 1, 1, none⟩ = some (.string o.t) from
    (show (((w.alloc (.cells #[.slice (some ⟨b, off, none⟩) xs.length cap] 28)).alloc (.cells #[.int .i64 o.k, .string o.t, .int .i64 o.a, .int .i64 o.b] 115)).alloc (.cells #[.string ⟨#[]⟩, .int .i64 0, .int .i64 0, .int .i64 0] 70)).cell? ⟨w.heap.size, 0, none⟩ = some (.slice (some ⟨b, off, none⟩) xs.length cap) ∧ (((w.alloc (.cells #[.slice (some ⟨b, off, none⟩) xs.length cap] 28)).alloc (.cells #[.int .i64 o.k, .string o.t, .int .i64 o.a, .int .i64 o.b] 115)).alloc (.cells #[.string ⟨#[]⟩, .int .i64 0, .int .i64 0, .int .i64 0] 70)).cell? ⟨w.heap.size + 1, 0, none⟩ = some (.int .i64 o.k) ∧ (((w.alloc (.cells #[.slice (some ⟨b, off, none⟩) xs.length cap] 28)).alloc (.cells #[.int .i64 o.k, .string o.t, .int .i64 o.a, .int .i64 o.b] 115)).alloc (.cells #[.string ⟨#[]⟩, .int .i64 0, .int .i64 0, .int .i64 0] 70)).cell? ⟨w.heap.size + 1, 1, none⟩ = some (.string o.t) from ⟨by simp [go_sem], by simp [go_sem], by simp [go_sem]⟩))
  have HC2 := hide (show (((((w.alloc (.cells #[.slice (some ⟨b, off, none⟩) xs.length cap] 28)).alloc (.cells #[.int .i64 o.k, .string o.t, .int .i64 o.a, .int .i64 o.b] 115)).alloc (.cells #[.string ⟨#[]⟩, .int .i64 0, .int .i64 0, .int .i64 0] 70)).drew).cell? ⟨w.heap.size + 1 + 1, 0, none⟩ = some (.string ⟨#[]⟩) ∧ ((((w.alloc (.cells #[.slice (some ⟨b, off, none⟩) xs.length cap] 28)).alloc (.cells #[.int .i64 o.k, .string o.t, .int .i64 o.a, .int .i64 o.b] 115)).alloc (.cells #[.string ⟨#[]⟩, .int .i64 0, .int .i64 0, .int .i64 0] 70)).drew).cell? ⟨w.heap.size + 1 + 1, 1, none⟩ = some (.int .i64 0) ∧ ((((w.alloc (.cells #[.slice (some ⟨b, off, none⟩) xs.length cap] 28)).alloc (.cells #[.int .i64 o.k, .string o.t, .int .i64 o.a, .int .i64 o.b] 115)).alloc (.cells #[.string ⟨#[]⟩, .int .i64 0, .int .i64 0, .int .i64 0] 70)).drew).cell? ⟨w.heap.size + 1 + 1, 2, none⟩ = some (.int .i64 0) ∧ ((((w.alloc (.cells #[.slice (some ⟨b, off, none⟩) xs.length cap] 28)).alloc (.cells #[.int .i64 o.k, .string o.t, .int .i64 o.a, .int .i64 o.b] 115)).alloc (.cells #[.string ⟨#[]⟩, .int .i64 0, .int .i64 0, .int .i64 0] 70)).drew).cell? ⟨w.heap.size + 1 + 1, 3, none⟩ = some (.int .i64 0)) ∧ ∀ q, ((((w.alloc (.cells #[.slice (some ⟨b, off, none⟩) xs.length cap] 28)).alloc (.cells #[.int .i64 o.k, .string o.t, .int .i64 o.a, .int .i64 o.b] 115)).alloc (.cells #[.string ⟨#[]⟩, .int .i64 0, .int .i64 0, .int .i64 0] 70)).drew).frozen? ⟨w.heap.size + 1 + 1, q, none⟩ = false from
    (show ((((w.alloc (.cells #[.slice (some ⟨b, off, none⟩) xs.length cap] 28)).alloc (.cells #[.int .i64 o.k, .string o.t, .int .i64 o.a, .int .i64 o.b] 115)).alloc (.cells #[.string ⟨#[]⟩, .int .i64 0, .int .i64 0, .int .i64 0] 70)).cell? ⟨w.heap.size + 1 + 1, 0, none⟩ = some (.string ⟨#[]⟩) ∧ (((w.alloc (.cells #[.slice (some ⟨b, off, none⟩) xs.length cap] 28)).alloc (.cells #[.int .i64 o.k, .string o.t, .int .i64 o.a, .int .i64 o.b] 115)).alloc (.cells #[.string ⟨#[]⟩, .int .i64 0, .int .i64 0, .int .i64 0] 70)).cell? ⟨w.heap.size + 1 + 1, 1, none⟩ = some (.int .i64 0) ∧ (((w.alloc (.cells #[.slice (some ⟨b, off, none⟩) xs.length cap] 28)).alloc (.cells #[.int .i64 o.k, .string o.t, .int .i64 o.a, .int .i64 o.b] 115)).alloc (.cells #[.string ⟨#[]⟩, .int .i64 0, .int .i64 0, .int .i64 0] 70)).cell? ⟨w.heap.size + 1 + 1, 2, none⟩ = some (.int .i64 0) ∧ (((w.alloc (.cells #[.slice (some ⟨b, off, none⟩) xs.length cap] 28)).alloc (.cells #[.int .i64 o.k, .string o.t, .int .i64 o.a, .int .i64 o.b] 115)).alloc (.cells #[.string ⟨#[]⟩, .int .i64 0, .int .i64 0, .int .i64 0] 70)).cell? ⟨w.heap.size + 1 + 1, 3, none⟩ = some (.int .i64 0)) ∧ ∀ q, (((w.alloc (.cells #[.slice (some ⟨b, off, none⟩) xs.length cap] 28)).alloc (.cells #[.int .i64 o.k, .string o.t, .int .i64 o.a, .int .i64 o.b] 115)).alloc (.cells #[.string ⟨#[]⟩, .int .i64 0, .int .i64 0, .int .i64 0] 70)).frozen? ⟨w.heap.size + 1 + 1, q, none⟩ = false from ⟨⟨by simp [go_sem], by simp [go_sem], by simp [go_sem], by simp [go_sem]⟩, fun q => by simp [go_sem]⟩))
  go_region_held (fun w' => w'.cell? ⟨w.heap.size, 0, none⟩ = some (.slice (some ⟨b, off, none⟩) xs.length cap) ∧ w'.cell? ⟨w.heap.size + 1, 0, none⟩ = some (.int .i64 o.k) ∧ w'.cell? ⟨w.heap.size + 1, 1, none⟩ = some (.string o.t) ∧ w'.cell? ⟨b, off + j * 4, none⟩ = some (.string (atO xs j).s) ∧ w'.cell? ⟨b, off + j * 4 + 1, none⟩ = some (.int .i64 (atO xs j).k) ∧ w'.cell? ⟨b, off + j * 4 + 2, none⟩ = some (.int .i64 (atO xs j).l) ∧ w'.cell? ⟨b, off + j * 4 + 3, none⟩ = some (.int .i64 (atO xs j).sd)) (first | (go_keep; done) | (refine ⟨keep4 (by omega) ?_, keep4 (by omega) ?_, keep4 (by omega) ?_, keep4 (by omega) ?_, keep4 (by omega) ?_, keep4 (by omega) ?_, keep4 (by omega) ?_⟩ <;> simp [*]))
    (first | (go_at_call 94; have HX := l2Find_ix b off cap xs o.t (o.k - 2) (((w.alloc (.cells #[.slice (some ⟨b, off, none⟩) xs.length cap] 28)).alloc (.cells #[.int .i64 o.k, .string o.t, .int .i64 o.a, .int .i64 o.b] 115)).alloc (.cells #[.string ⟨#[]⟩, .int .i64 0, .int .i64 0, .int .i64 0] 70)).drew hm ((unhide HW).below ((unhide HB3) _ _ _) hB) (unhide HLT); rw [unhide HFI] at HX; rw [unhide HWR]; refine HX.mono ?_; clear HX; rintro e w2 ⟨rfl, hb2⟩; have q0 := (hb2.cell (p := ⟨w.heap.size, 0, none⟩) (unhide HL0)).trans (unhide HC0).1; have q1 := (hb2.cell (p := ⟨w.heap.size + 1, 0, none⟩) (unhide HL1)).trans (unhide HC0).2.1; have q2 := (hb2.cell (p := ⟨w.heap.size + 1, 1, none⟩) (unhide HL1)).trans (unhide HC0).2.2; have s0 := (hb2.cell (p := ⟨b, off + j * 4, none⟩) (unhide HLT)).trans r0; have s1 := (hb2.cell (p := ⟨b, off + j * 4 + 1, none⟩) (unhide HLT)).trans r1; have s2 := (hb2.cell (p := ⟨b, off + j * 4 + 2, none⟩) (unhide HLT)).trans r2; have s3 := (hb2.cell (p := ⟨b, off + j * 4 + 3, none⟩) (unhide HLT)).trans r3; have t0 := (hb2.cell (p := ⟨w.heap.size + 1 + 1, 0, none⟩) (unhide HL2)).trans (unhide HC2).1.1; have t1 := (hb2.cell (p := ⟨w.heap.size + 1 + 1, 1, none⟩) (unhide HL2)).trans (unhide HC2).1.2.1; have t2 := (hb2.cell (p := ⟨w.heap.size + 1 + 1, 2, none⟩) (unhide HL2)).trans (unhide HC2).1.2.2.1; have t3 := (hb2.cell (p := ⟨w.heap.size + 1 + 1, 3, none⟩) (unhide HL2)).trans (unhide HC2).1.2.2.2; have u0 := (hb2.frozen (p := ⟨w.heap.size + 1 + 1, 0, none⟩) (unhide HL2)).trans ((unhide HC2).2 0); have u1 := (hb2.frozen (p := ⟨w.heap.size + 1 + 1, 1, none⟩) (unhide HL2)).trans ((unhide HC2).2 1); have u2 := (hb2.frozen (p := ⟨w.heap.size + 1 + 1, 2, none⟩) (unhide HL2)).trans ((unhide HC2).2 2); have u3 := (hb2.frozen (p := ⟨w.heap.size + 1 + 1, 3, none⟩) (unhide HL2)).trans ((unhide HC2).2 3); have B2 := hide (((unhide HB3) _ _ _).trans (hb2.mono (unhide HLW))); clear hb2))
  go_wp2
  refine bodyPost_ret (v := .agg #[.string (atO xs j).s, .int .i64 (atO xs j).k, .int .i64 (atO xs j).l, .int .i64 (atO xs j).sd]) ?res rfl ⟨rfl, ?_⟩
  case res => simp [results, Try.results99, go_sem, t0, t1, t2, t3]
  exact below_setCells (show w.heap.size ≤ w.heap.size + 1 + 1 by omega) [.string (atO xs j).s, .int .i64 (atO xs j).k, .int .i64 (atO xs j).l, .int .i64 (atO xs j).sd] 0 w2 (unhide B2)

theorem fieldLevel (W : World) (s : ByteArray) (k l sd : Int) : (Instr.field 70 (.agg #[.string s, .int .i64 k, .int .i64 l, .int .i64 sd]) 2).run Try.prog W = .ok (.int .i64 l) W := by kernel_rfl

theorem levN_op {xs : List OpR} {o : NodeR} {j : Nat} (h3 : 3 ≤ o.k) (h5 : o.k ≤ 5) (hf : fnd xs o.t (o.k - 2) = some j) : levN xs o = (atO xs j).l := by
  unfold levN
  rw [if_pos ⟨h3, h5⟩, hf]
theorem levN_not {xs : List OpR} {o : NodeR} (h : ¬ (3 ≤ o.k ∧ o.k ≤ 5)) : levN xs o = 1001 := by
  unfold levN
  rw [if_neg h]

set_option maxHeartbeats 1000000 in
theorem l3Level_any (b off cap : Nat) (xs : List OpR) (o : NodeR) (w : World) (hm : xs.length ≤ 1048576) (hw : Ops w b off xs) (hB : b < w.heap.size) (hkn : 3 ≤ o.k → o.k ≤ 5 → fnd xs o.t (o.k - 2) ≠ none) :
    Calls Try.prog 100 #[.agg #[.slice (some ⟨b, off, none⟩) xs.length cap], .agg #[.int .i64 o.k, .string o.t, .int .i64 o.a, .int .i64 o.b]] w fun e w' => e = .returned (.int .i64 (levN xs o)) ∧ Below w.heap.size w w' := by
  by_cases hop : 3 ≤ o.k ∧ o.k ≤ 5
  · obtain ⟨h3, h5⟩ := hop
    cases hf : fnd xs o.t (o.k - 2) with
    | none => exact absurd hf (hkn h3 h5)
    | some j =>
      have HL := hide (levN_op h3 h5 hf)
      have HW := hide hw
      have HF := hide hf
      have HD := hide (show true = decide (3 ≤ o.k ∧ o.k ≤ 5) by simp [h3, h5])
      clear hw hf hkn
      go_enter Try.func100, Try.ntmps100
      go_wp2_with fail
      refine (l3IsOp_any o _ true (unhide HD)).mono ?_
      rintro e w1 ⟨rfl, hb1⟩
      have bel1 : Below w.heap.size w w1 := ((below1 _ _).alloc (by simp) _).trans (hb1.mono (by simp; omega))
      have c0 : w1.cell? ⟨w.heap.size, 0, none⟩ = some (.slice (some ⟨b, off, none⟩) xs.length cap) := (hb1.cell (p := ⟨w.heap.size, 0, none⟩) (by simp; omega)).trans (by simp [go_sem])
      have d0 : w1.cell? ⟨w.heap.size + 1, 0, none⟩ = some (.int .i64 o.k) := (hb1.cell (p := ⟨w.heap.size + 1, 0, none⟩) (by simp)).trans (by simp [go_sem])
      have d1 : w1.cell? ⟨w.heap.size + 1, 1, none⟩ = some (.string o.t) := (hb1.cell (p := ⟨w.heap.size + 1, 1, none⟩) (by simp)).trans (by simp [go_sem])
      have d2 : w1.cell? ⟨w.heap.size + 1, 2, none⟩ = some (.int .i64 o.a) := (hb1.cell (p := ⟨w.heap.size + 1, 2, none⟩) (by simp)).trans (by simp [go_sem])
      have d3 : w1.cell? ⟨w.heap.size + 1, 3, none⟩ = some (.int .i64 o.b) := (hb1.cell (p := ⟨w.heap.size + 1, 3, none⟩) (by simp)).trans (by simp [go_sem])
      have hB1 : b < w1.heap.size := Nat.lt_of_lt_of_le hB bel1.size
      clear hb1
      go_wp2_with fail
      refine (l3OpOf_any b off cap xs o j _ hm ((unhide HW).below bel1 hB) hB1 h3 h5 (unhide HF)).mono ?_
      rintro e w2 ⟨rfl, hb2⟩
      have hfld := fieldLevel
      go_wp2
      go_ret
      exact ⟨ret_int (unhide HL).symm, bel1.trans (hb2.mono bel1.size)⟩
  · have HL := hide (levN_not (xs := xs) hop)
    have HD := hide (show false = decide (3 ≤ o.k ∧ o.k ≤ 5) by simp [hop])
    clear hw hop hkn
    go_enter Try.func100, Try.ntmps100
    go_wp2_with fail
    refine (l3IsOp_any o _ false (unhide HD)).mono ?_
    rintro e w1 ⟨rfl, hb1⟩
    go_wp2_with fail
    go_ret
    exact ⟨ret_int (unhide HL).symm, ((below1 _ _).alloc (by simp) _).trans (hb1.mono (by simp; omega))⟩
end Go.Proofs.Ytnpljpcfpbfcgab
