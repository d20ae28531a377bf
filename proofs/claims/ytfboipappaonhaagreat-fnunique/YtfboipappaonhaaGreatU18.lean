import Derived.BigQuiet
import Derived.Test.YtfboipappaonhaaGreatU08
import Derived.Test.YtfboipappaonhaaGreatU17

/-
  Walks: the specification's TreeOk.
-/
namespace Go.Proofs.YtfboipappaonhaaGreat
set_option maxRecDepth 100000
set_option linter.unusedSimpArgs false
set_option linter.unusedVariables false
open Go.RowKit

/-- Cells that hold what they must. -/
def Cs (cs : List (Nat × Nat × Value)) (w : World) : Prop := ∀ p ∈ cs, w.cell? ⟨p.1, p.2.1, none⟩ = some p.2.2

theorem Cs.below {cs : List (Nat × Nat × Value)} {w w' : World} (h : Cs cs w) (hb : Below w.heap.size w w') : Cs cs w' :=
  fun p hp => (hb.cell (p := ⟨p.1, p.2.1, none⟩) (block_lt_of_cell (h p hp))).trans (h p hp)

theorem below_samS {B : Nat} {a w w' : World} (h : Below B a w) (h1 : w'.os = w.os) (h2 : w'.tape = w.tape) (h3 : w'.output = w.output) (h4 : w'.heap = w.heap) : Below B a w' :=
  ⟨h1.trans h.os, h2.trans h.tape, h3.trans h.output, by rw [h4]; exact h.size, fun i hi => by rw [h4]; exact h.block i hi⟩

theorem FitN_not {xs : List OpR} {ns : List NodeR} {i : Nat} (h : ¬ isOpN (atN ns i)) : FitN xs ns i := fun j ho => absurd ho h

theorem FitN_iff {xs : List OpR} {ns : List NodeR} {i j : Nat} (ho : isOpN (atN ns i)) (hf : fnd xs (atN ns i).t ((atN ns i).k - 2) = some j) :
    FitN xs ns i ↔ holeO xs j false ≤ levN xs (atN ns (atN ns i).a.toNat) ∧ (kids (atN ns i).k = 1 ∨ holeO xs j true ≤ levN xs (atN ns (atN ns i).b.toNat)) := by
  constructor
  · intro h; exact h j ho hf
  · intro h j' _ hf'
    rw [hf] at hf'
    injection hf' with hf'
    subst hf'
    exact h

/-- The kids of an operator node, as places. -/
theorem op_kids {ns : List NodeR} (h : InOrd ns) {i : Nat} (hi : i < ns.length) (ho : isOpN (atN ns i)) :
    ∃ ka kb : Nat, (atN ns i).a = (ka : Int) ∧ (atN ns i).b = (kb : Int) ∧ ka < ns.length ∧ kb < ns.length ∧ (kids (atN ns i).k = 1 ∨ kids (atN ns i).k = 2) := by
  rcases h.kidsAt hi with ⟨h0, _⟩ | ⟨h1, h2, ha, hb⟩ | ⟨h1, h2, hb, ha0, ha1⟩
  · exfalso
    unfold isOpN at ho
    unfold kids at h0
    split at h0
    · omega
    · split at h0
      · omega
      · omega
  · exact ⟨i - 1, 0, by omega, by omega, by omega, by omega, Or.inl h1⟩
  · exact ⟨(atN ns i).a.toNat, i - 1, by omega, by omega, by omega, by omega, Or.inr h1⟩

set_option maxHeartbeats 3000000 in
theorem l3Fits_any (b off cap bn offn cn i : Nat) (xs : List OpR) (ns : List NodeR) (w : World) (hm : xs.length ≤ 1048576) (hmn : ns.length ≤ 1048576) (hw : Ops w b off xs) (hsz : Sized xs) (hB : b < w.heap.size) (hwn : OpsN w bn offn ns) (hBn : bn < w.heap.size) (hi : i < ns.length) (hord : InOrd ns) (hkn : Knows xs ns) :
    Calls Tryz.prog 54 #[.agg #[.slice (some ⟨b, off, none⟩) xs.length cap], .slice (some ⟨bn, offn, none⟩) ns.length cn, .int .i64 (i : Int)] w fun e w' => RetB e (FitN xs ns i) ∧ Below w.heap.size w w' := by
  have hiI : (i : Int) < (ns.length : Int) := by omega
  obtain ⟨h0, h1, h2, h3⟩ := hwn i hi
  have HW := hide hw
  have HWN := hide hwn
  have HZ := hide hsz
  have HKN := hide hkn
  by_cases ho : isOpN (atN ns i)
  case neg =>
    have HN := hide (FitN_not (xs := xs) ho)
    have HD := hide (show false = decide (3 ≤ (atN ns i).k ∧ (atN ns i).k ≤ 5) by rw [eq_comm, decide_eq_false_iff_not]; exact ho)
    clear hw hwn hsz hkn ho
    go_enter Tryz.func54, Tryz.ntmps54
    go_wp2_with fail
    refine (l3IsOp_any (atN ns i) _ false (unhide HD)).mono ?_
    rintro e w1 ⟨rfl, hb1⟩
    go_wp2_with fail
    go_ret
    exact ⟨⟨_, rfl, says_true (unhide HN)⟩, ((below1 _ _).alloc (by simp) _).trans (hb1.mono (by simp; omega))⟩
  obtain ⟨j, hf⟩ : ∃ j, fnd xs (atN ns i).t ((atN ns i).k - 2) = some j := by
    cases e : fnd xs (atN ns i).t ((atN ns i).k - 2) with
    | none => exact absurd e (hkn i hi ho)
    | some j => exact ⟨j, rfl⟩
  obtain ⟨ka, kb, hka, hkb, hkal, hkbl, hkk⟩ := op_kids hord hi ho
  have hj := (fnd_some hf).1
  have HIF := hide (show FitN xs ns i ↔ holeO xs j false ≤ levN xs (atN ns ka) ∧ (kids (atN ns i).k = 1 ∨ holeO xs j true ≤ levN xs (atN ns kb)) by
    rw [FitN_iff ho hf, hka, hkb]; simp)
  have HD := hide (show true = decide (3 ≤ (atN ns i).k ∧ (atN ns i).k ≤ 5) by rw [eq_comm, decide_eq_true_iff]; exact ho)
  have HF := hide hf
  have h3k := ho.1
  have h5k := ho.2
  have HKA := hide (show 3 ≤ (atN ns ka).k → (atN ns ka).k ≤ 5 → fnd xs (atN ns ka).t ((atN ns ka).k - 2) ≠ none from fun a b => hkn ka hkal ⟨a, b⟩)
  have HKB := hide (show 3 ≤ (atN ns kb).k → (atN ns kb).k ≤ 5 → fnd xs (atN ns kb).t ((atN ns kb).k - 2) ≠ none from fun a b => hkn kb hkbl ⟨a, b⟩)
  have HSJ := hide (hsz j hj)
  rw [hka] at h2
  rw [hkb] at h3
  have hkaI : (ka : Int) < (ns.length : Int) := by omega
  have hkbI : (kb : Int) < (ns.length : Int) := by omega
  clear hw hwn hsz hkn ho hka hkb hf
  go_enter Tryz.func54, Tryz.ntmps54
  go_wp2_with fail
  refine (l3IsOp_any ⟨(atN ns i).k, (atN ns i).t, (ka : Int), (kb : Int)⟩ _ true (unhide HD)).mono ?_
  rintro e w1 ⟨rfl, hb1⟩
  have bel1 : Below w.heap.size w w1 := ((below1 _ _).alloc (by simp) _).trans (hb1.mono (by simp; omega))
  have HC1 := hide (show Cs [(w.heap.size, 0, .slice (some ⟨b, off, none⟩) xs.length cap), (w.heap.size + 1, 0, .int .i64 (atN ns i).k), (w.heap.size + 1, 1, .string (atN ns i).t), (w.heap.size + 1, 2, .int .i64 (ka : Int)), (w.heap.size + 1, 3, .int .i64 (kb : Int))] w1 from fun p hp => by
    simp only [List.mem_cons, List.not_mem_nil, or_false] at hp
    rcases hp with rfl | rfl | rfl | rfl | rfl
    · exact (hb1.cell (p := ⟨w.heap.size, 0, none⟩) (by simp; omega)).trans (by simp [go_sem])
    · exact (hb1.cell (p := ⟨w.heap.size + 1, 0, none⟩) (by simp)).trans (by simp [go_sem])
    · exact (hb1.cell (p := ⟨w.heap.size + 1, 1, none⟩) (by simp)).trans (by simp [go_sem])
    · exact (hb1.cell (p := ⟨w.heap.size + 1, 2, none⟩) (by simp)).trans (by simp [go_sem])
    · exact (hb1.cell (p := ⟨w.heap.size + 1, 3, none⟩) (by simp)).trans (by simp [go_sem]))
  clear hb1
  have c0 := (unhide HC1) (w.heap.size, 0, .slice (some ⟨b, off, none⟩) xs.length cap) (by simp)
  have d0 := (unhide HC1) (w.heap.size + 1, 0, .int .i64 (atN ns i).k) (by simp)
  have d1 := (unhide HC1) (w.heap.size + 1, 1, .string (atN ns i).t) (by simp)
  have d2 := (unhide HC1) (w.heap.size + 1, 2, .int .i64 (ka : Int)) (by simp)
  have d3 := (unhide HC1) (w.heap.size + 1, 3, .int .i64 (kb : Int)) (by simp)
  simp only at c0 d0 d1 d2 d3
  go_wp2_with fail
  refine (l3OpOf_any b off cap xs ⟨(atN ns i).k, (atN ns i).t, (ka : Int), (kb : Int)⟩ j _ hm ((unhide HW).below bel1 hB) (Nat.lt_of_lt_of_le hB bel1.size) h3k h5k (unhide HF)).mono ?_
  rintro e w2 ⟨rfl, hb2⟩
  have bel2 := bel1.trans (hb2.mono bel1.size)
  have HC2 := hide ((unhide HC1).below hb2)
  clear hb2 HC1 c0 d0 d1 d2 d3 bel1
  have HSC := hide (show Cs [(w.heap.size, 0, .slice (some ⟨b, off, none⟩) xs.length cap), (w.heap.size + 1, 0, .int .i64 (atN ns i).k), (w.heap.size + 1, 1, .string (atN ns i).t), (w.heap.size + 1, 2, .int .i64 (ka : Int)), (w.heap.size + 1, 3, .int .i64 (kb : Int)), (w2.heap.size, 0, .string (atO xs j).s), (w2.heap.size, 1, .int .i64 (atO xs j).k), (w2.heap.size, 2, .int .i64 (atO xs j).l), (w2.heap.size, 3, .int .i64 (atO xs j).sd), (bn, offn + ka * 4, .int .i64 (atN ns ka).k), (bn, offn + ka * 4 + 1, .string (atN ns ka).t), (bn, offn + ka * 4 + 2, .int .i64 (atN ns ka).a), (bn, offn + ka * 4 + 3, .int .i64 (atN ns ka).b), (bn, offn + kb * 4, .int .i64 (atN ns kb).k), (bn, offn + kb * 4 + 1, .string (atN ns kb).t), (bn, offn + kb * 4 + 2, .int .i64 (atN ns kb).a), (bn, offn + kb * 4 + 3, .int .i64 (atN ns kb).b)] (w2.alloc (.cells #[.string (atO xs j).s, .int .i64 (atO xs j).k, .int .i64 (atO xs j).l, .int .i64 (atO xs j).sd] 123)).drew from fun p hp => by
    simp only [List.mem_cons, List.not_mem_nil, or_false] at hp
    have hold : Cs [(w.heap.size, 0, .slice (some ⟨b, off, none⟩) xs.length cap), (w.heap.size + 1, 0, .int .i64 (atN ns i).k), (w.heap.size + 1, 1, .string (atN ns i).t), (w.heap.size + 1, 2, .int .i64 (ka : Int)), (w.heap.size + 1, 3, .int .i64 (kb : Int))] (w2.alloc (.cells #[.string (atO xs j).s, .int .i64 (atO xs j).k, .int .i64 (atO xs j).l, .int .i64 (atO xs j).sd] 123)).drew := (unhide HC2).below ((below1 _ _).drew)
    have hna := ((unhide HWN) ka hkal).below (bel2.trans (((below1 w2 (.cells #[.string (atO xs j).s, .int .i64 (atO xs j).k, .int .i64 (atO xs j).l, .int .i64 (atO xs j).sd] 123)).drew).mono bel2.size)) hBn
    have hnb := ((unhide HWN) kb hkbl).below (bel2.trans (((below1 w2 (.cells #[.string (atO xs j).s, .int .i64 (atO xs j).k, .int .i64 (atO xs j).l, .int .i64 (atO xs j).sd] 123)).drew).mono bel2.size)) hBn
    rcases hp with rfl | rfl | rfl | rfl | rfl | rfl | rfl | rfl | rfl | rfl | rfl | rfl | rfl | rfl | rfl | rfl | rfl
    · exact hold _ (by simp)
    · exact hold _ (by simp)
    · exact hold _ (by simp)
    · exact hold _ (by simp)
    · exact hold _ (by simp)
    · exact (show (w2.alloc (.cells #[.string (atO xs j).s, .int .i64 (atO xs j).k, .int .i64 (atO xs j).l, .int .i64 (atO xs j).sd] 123)).cell? _ = _ by simp [go_sem])
    · exact (show (w2.alloc (.cells #[.string (atO xs j).s, .int .i64 (atO xs j).k, .int .i64 (atO xs j).l, .int .i64 (atO xs j).sd] 123)).cell? _ = _ by simp [go_sem])
    · exact (show (w2.alloc (.cells #[.string (atO xs j).s, .int .i64 (atO xs j).k, .int .i64 (atO xs j).l, .int .i64 (atO xs j).sd] 123)).cell? _ = _ by simp [go_sem])
    · exact (show (w2.alloc (.cells #[.string (atO xs j).s, .int .i64 (atO xs j).k, .int .i64 (atO xs j).l, .int .i64 (atO xs j).sd] 123)).cell? _ = _ by simp [go_sem])
    · exact hna.1
    · exact hna.2.1
    · exact hna.2.2.1
    · exact hna.2.2.2
    · exact hnb.1
    · exact hnb.2.1
    · exact hnb.2.2.1
    · exact hnb.2.2.2)
  have HBC := hide (show Below w.heap.size w (w2.alloc (.cells #[.string (atO xs j).s, .int .i64 (atO xs j).k, .int .i64 (atO xs j).l, .int .i64 (atO xs j).sd] 123)).drew from bel2.trans (((below1 w2 (.cells #[.string (atO xs j).s, .int .i64 (atO xs j).k, .int .i64 (atO xs j).l, .int .i64 (atO xs j).sd] 123)).drew).mono bel2.size))
  clear HC2 bel2
  have HHF := hide (show holeO xs j false = holeI (atO xs j).s (atO xs j).k (atO xs j).l (atO xs j).sd false from rfl)
  have HHT := hide (show holeO xs j true = holeI (atO xs j).s (atO xs j).k (atO xs j).l (atO xs j).sd true from rfl)
  rw [unhide HHF, unhide HHT] at HIF
  clear HHF HHT
  by_cases hA : levN xs (atN ns ka) < holeI (atO xs j).s (atO xs j).k (atO xs j).l (atO xs j).sd false
  · have HN := hide (show ¬ FitN xs ns i from fun h => by have := ((unhide HIF).1 h).1; omega)
    clear HIF
    go_wp2_with fail
    go_region_held (fun w' => w'.cell? ⟨w.heap.size, 0, none⟩ = some (.slice (some ⟨b, off, none⟩) xs.length cap) ∧ w'.cell? ⟨w.heap.size + 1, 2, none⟩ = some (.int .i64 (ka : Int)) ∧ w'.cell? ⟨w2.heap.size, 0, none⟩ = some (.string (atO xs j).s) ∧ w'.cell? ⟨w2.heap.size, 1, none⟩ = some (.int .i64 (atO xs j).k) ∧ w'.cell? ⟨w2.heap.size, 2, none⟩ = some (.int .i64 (atO xs j).l) ∧ w'.cell? ⟨w2.heap.size, 3, none⟩ = some (.int .i64 (atO xs j).sd) ∧ w'.cell? ⟨bn, offn + ka * 4, none⟩ = some (.int .i64 (atN ns ka).k) ∧ w'.cell? ⟨bn, offn + ka * 4 + 1, none⟩ = some (.string (atN ns ka).t) ∧ w'.cell? ⟨bn, offn + ka * 4 + 2, none⟩ = some (.int .i64 (atN ns ka).a) ∧ w'.cell? ⟨bn, offn + ka * 4 + 3, none⟩ = some (.int .i64 (atN ns ka).b)) (first | (go_keep; done) | exact ⟨(unhide HSC) (w.heap.size, 0, .slice (some ⟨b, off, none⟩) xs.length cap) (by simp), (unhide HSC) (w.heap.size + 1, 2, .int .i64 (ka : Int)) (by simp), (unhide HSC) (w2.heap.size, 0, .string (atO xs j).s) (by simp), (unhide HSC) (w2.heap.size, 1, .int .i64 (atO xs j).k) (by simp), (unhide HSC) (w2.heap.size, 2, .int .i64 (atO xs j).l) (by simp), (unhide HSC) (w2.heap.size, 3, .int .i64 (atO xs j).sd) (by simp), (unhide HSC) (bn, offn + ka * 4, .int .i64 (atN ns ka).k) (by simp), (unhide HSC) (bn, offn + ka * 4 + 1, .string (atN ns ka).t) (by simp), (unhide HSC) (bn, offn + ka * 4 + 2, .int .i64 (atN ns ka).a) (by simp), (unhide HSC) (bn, offn + ka * 4 + 3, .int .i64 (atN ns ka).b) (by simp)⟩)
      (first | (go_at_call 100; have HX := l3Level_any b off cap xs (atN ns ka) _ hm ((unhide HW).below (unhide HBC) hB) (Nat.lt_of_lt_of_le hB (unhide HBC).size) (unhide HKA); refine HX.mono ?_; clear HX; rintro e w3 ⟨rfl, hb3⟩; replace HSC := hide ((unhide HSC).below hb3); replace HBC := hide ((unhide HBC).trans (hb3.mono (unhide HBC).size)); clear hb3) | (go_at_call 99; refine (specHole_any (atO xs j).s (atO xs j).k (atO xs j).l (atO xs j).sd false _ (unhide HSJ)).mono ?_; rintro e w4 ⟨rfl, hb4⟩; replace HSC := hide ((unhide HSC).below hb4); replace HBC := hide ((unhide HBC).trans (hb4.mono (unhide HBC).size)); clear hb4))
    all_goals go_wp2
    all_goals go_ret
    all_goals exact ⟨⟨_, rfl, says_false (unhide HN)⟩, unhide HBC⟩
  · go_wp2_with fail
    go_region_held (fun w' => w'.cell? ⟨w.heap.size, 0, none⟩ = some (.slice (some ⟨b, off, none⟩) xs.length cap) ∧ w'.cell? ⟨w.heap.size + 1, 2, none⟩ = some (.int .i64 (ka : Int)) ∧ w'.cell? ⟨w2.heap.size, 0, none⟩ = some (.string (atO xs j).s) ∧ w'.cell? ⟨w2.heap.size, 1, none⟩ = some (.int .i64 (atO xs j).k) ∧ w'.cell? ⟨w2.heap.size, 2, none⟩ = some (.int .i64 (atO xs j).l) ∧ w'.cell? ⟨w2.heap.size, 3, none⟩ = some (.int .i64 (atO xs j).sd) ∧ w'.cell? ⟨bn, offn + ka * 4, none⟩ = some (.int .i64 (atN ns ka).k) ∧ w'.cell? ⟨bn, offn + ka * 4 + 1, none⟩ = some (.string (atN ns ka).t) ∧ w'.cell? ⟨bn, offn + ka * 4 + 2, none⟩ = some (.int .i64 (atN ns ka).a) ∧ w'.cell? ⟨bn, offn + ka * 4 + 3, none⟩ = some (.int .i64 (atN ns ka).b)) (first | (go_keep; done) | exact ⟨(unhide HSC) (w.heap.size, 0, .slice (some ⟨b, off, none⟩) xs.length cap) (by simp), (unhide HSC) (w.heap.size + 1, 2, .int .i64 (ka : Int)) (by simp), (unhide HSC) (w2.heap.size, 0, .string (atO xs j).s) (by simp), (unhide HSC) (w2.heap.size, 1, .int .i64 (atO xs j).k) (by simp), (unhide HSC) (w2.heap.size, 2, .int .i64 (atO xs j).l) (by simp), (unhide HSC) (w2.heap.size, 3, .int .i64 (atO xs j).sd) (by simp), (unhide HSC) (bn, offn + ka * 4, .int .i64 (atN ns ka).k) (by simp), (unhide HSC) (bn, offn + ka * 4 + 1, .string (atN ns ka).t) (by simp), (unhide HSC) (bn, offn + ka * 4 + 2, .int .i64 (atN ns ka).a) (by simp), (unhide HSC) (bn, offn + ka * 4 + 3, .int .i64 (atN ns ka).b) (by simp)⟩)
      (first | (go_at_call 100; have HX := l3Level_any b off cap xs (atN ns ka) _ hm ((unhide HW).below (unhide HBC) hB) (Nat.lt_of_lt_of_le hB (unhide HBC).size) (unhide HKA); refine HX.mono ?_; clear HX; rintro e w3 ⟨rfl, hb3⟩; replace HSC := hide ((unhide HSC).below hb3); replace HBC := hide ((unhide HBC).trans (hb3.mono (unhide HBC).size)); clear hb3) | (go_at_call 99; refine (specHole_any (atO xs j).s (atO xs j).k (atO xs j).l (atO xs j).sd false _ (unhide HSJ)).mono ?_; rintro e w4 ⟨rfl, hb4⟩; replace HSC := hide ((unhide HSC).below hb4); replace HBC := hide ((unhide HBC).trans (hb4.mono (unhide HBC).size)); clear hb4))
    rcases hkk with hkk | hkk
    · have HKK := hide hkk
      have HY := hide (show FitN xs ns i from (unhide HIF).2 ⟨by omega, Or.inl hkk⟩)
      clear hkk HIF
      have d0 := (unhide HSC) (w.heap.size + 1, 0, .int .i64 (atN ns i).k) (by simp)
      simp only at d0
      go_wp2_with fail
      go_quiet ((go_at_call 55; exact Calls.quiet_of_same (l3Kids_is (unhide HKK) 1 rfl _)))
      go_wp2
      go_ret
      exact ⟨⟨_, rfl, says_true (unhide HY)⟩, below_samS (unhide HBC) rfl rfl rfl rfl⟩
    · have HKK := hide hkk
      have HYN := hide (show FitN xs ns i ↔ holeI (atO xs j).s (atO xs j).k (atO xs j).l (atO xs j).sd true ≤ levN xs (atN ns kb) by
        rw [unhide HIF]
        constructor
        · rintro ⟨_, h | h⟩
          · omega
          · exact h
        · intro h; exact ⟨by omega, Or.inr h⟩)
      clear hkk HIF
      replace HSC := hide ((unhide HSC).below (Below.refl _ _).drew)
      replace HBC := hide (unhide HBC).drew
      go_wp2_with fail
      go_region_held (fun w' => w'.cell? ⟨w.heap.size, 0, none⟩ = some (.slice (some ⟨b, off, none⟩) xs.length cap) ∧ w'.cell? ⟨w.heap.size + 1, 0, none⟩ = some (.int .i64 (atN ns i).k) ∧ w'.cell? ⟨w.heap.size + 1, 3, none⟩ = some (.int .i64 (kb : Int)) ∧ w'.cell? ⟨w2.heap.size, 0, none⟩ = some (.string (atO xs j).s) ∧ w'.cell? ⟨w2.heap.size, 1, none⟩ = some (.int .i64 (atO xs j).k) ∧ w'.cell? ⟨w2.heap.size, 2, none⟩ = some (.int .i64 (atO xs j).l) ∧ w'.cell? ⟨w2.heap.size, 3, none⟩ = some (.int .i64 (atO xs j).sd) ∧ w'.cell? ⟨bn, offn + kb * 4, none⟩ = some (.int .i64 (atN ns kb).k) ∧ w'.cell? ⟨bn, offn + kb * 4 + 1, none⟩ = some (.string (atN ns kb).t) ∧ w'.cell? ⟨bn, offn + kb * 4 + 2, none⟩ = some (.int .i64 (atN ns kb).a) ∧ w'.cell? ⟨bn, offn + kb * 4 + 3, none⟩ = some (.int .i64 (atN ns kb).b)) (first | (go_keep; done) | exact ⟨(unhide HSC) (w.heap.size, 0, .slice (some ⟨b, off, none⟩) xs.length cap) (by simp), (unhide HSC) (w.heap.size + 1, 0, .int .i64 (atN ns i).k) (by simp), (unhide HSC) (w.heap.size + 1, 3, .int .i64 (kb : Int)) (by simp), (unhide HSC) (w2.heap.size, 0, .string (atO xs j).s) (by simp), (unhide HSC) (w2.heap.size, 1, .int .i64 (atO xs j).k) (by simp), (unhide HSC) (w2.heap.size, 2, .int .i64 (atO xs j).l) (by simp), (unhide HSC) (w2.heap.size, 3, .int .i64 (atO xs j).sd) (by simp), (unhide HSC) (bn, offn + kb * 4, .int .i64 (atN ns kb).k) (by simp), (unhide HSC) (bn, offn + kb * 4 + 1, .string (atN ns kb).t) (by simp), (unhide HSC) (bn, offn + kb * 4 + 2, .int .i64 (atN ns kb).a) (by simp), (unhide HSC) (bn, offn + kb * 4 + 3, .int .i64 (atN ns kb).b) (by simp)⟩)
        (first | (go_at_call 55; refine (l3Kids_is (unhide HKK) 2 rfl _).mono ?_; rintro e w5 ⟨rfl, hx5⟩; obtain rfl := hx5.symm) | (go_at_call 100; have HX := l3Level_any b off cap xs (atN ns kb) _ hm ((unhide HW).below (unhide HBC) hB) (Nat.lt_of_lt_of_le hB (unhide HBC).size) (unhide HKB); refine HX.mono ?_; clear HX; rintro e w3 ⟨rfl, hb3⟩; replace HSC := hide ((unhide HSC).below hb3); replace HBC := hide ((unhide HBC).trans (hb3.mono (unhide HBC).size)); clear hb3) | (go_at_call 99; refine (specHole_any (atO xs j).s (atO xs j).k (atO xs j).l (atO xs j).sd true _ (unhide HSJ)).mono ?_; rintro e w4 ⟨rfl, hb4⟩; replace HSC := hide ((unhide HSC).below hb4); replace HBC := hide ((unhide HBC).trans (hb4.mono (unhide HBC).size)); clear hb4))
      all_goals go_wp2
      all_goals go_ret
      all_goals exact ⟨⟨_, rfl, (by unfold Says; rw [unhide HYN]; simp)⟩, unhide HBC⟩
end Go.Proofs.YtfboipappaonhaaGreat

/-
  Walks: the specification's l3WellFormed, the whole of it.
-/
namespace Go.Proofs.YtfboipappaonhaaGreat
set_option maxRecDepth 100000
set_option linter.unusedSimpArgs false
set_option linter.unusedVariables false
open Go.RowKit

theorem specTableOk_zero (b off cap : Nat) (xs : List OpR) (w : World) (hm : xs.length ≤ 1048576) (hw : Ops w b off xs) (hs : Sized xs) (hB : b < w.heap.size) (hc : IsCode xs 0) :
    Calls Tryz.prog 53 #[.agg #[.slice (some ⟨b, off, none⟩) xs.length cap]] w fun e w' => e = .returned (.int .i64 0) ∧ Below w.heap.size w w' := by
  refine (specTableOk_any b off cap xs w hm hw hs hB).mono ?_
  rintro e w' ⟨⟨c, rfl, h⟩, hb⟩
  exact ⟨by rw [IsCode_one h hc], hb⟩

set_option maxHeartbeats 2000000 in
theorem l3WellFormed_any (b off cap bn offn cn : Nat) (xs : List OpR) (ns : List NodeR) (w : World) (hm : xs.length ≤ 1048576) (hmn : ns.length ≤ 1048576) (hw : Ops w b off xs) (hsz : Sized xs) (hB : b < w.heap.size) (hwn : OpsN w bn offn ns) (hsn : SizedN ns) (hBn : bn < w.heap.size) (hc : IsCode xs 0) :
    Calls Tryz.prog 51 #[.agg #[.slice (some ⟨b, off, none⟩) xs.length cap], .agg #[.slice (some ⟨bn, offn, none⟩) ns.length cn]] w fun e w' => RetB e (InOrd ns ∧ Knows xs ns) ∧ Below w.heap.size w w' := by
  have HW := hide hw
  have HWN := hide hwn
  have HZ := hide hsz
  have HZN := hide hsn
  have HC := hide hc
  clear hw hwn hsz hsn hc
  go_enter Tryz.func51, Tryz.ntmps51
  go_wp2_with fail
  refine (specTableOk_zero b off cap xs _ hm ((unhide HW).below ((below1 _ _).alloc (by simp) _) hB) (unhide HZ) (by simp; omega) (unhide HC)).mono ?_
  rintro e w1 ⟨rfl, hb1⟩
  have bel1 : Below w.heap.size w w1 := ((below1 _ _).alloc (by simp) _).trans (hb1.mono (by simp; omega))
  have c0 : w1.cell? ⟨w.heap.size, 0, none⟩ = some (.slice (some ⟨b, off, none⟩) xs.length cap) := (hb1.cell (p := ⟨w.heap.size, 0, none⟩) (by simp; omega)).trans (by simp [go_sem])
  have c1 : w1.cell? ⟨w.heap.size + 1, 0, none⟩ = some (.slice (some ⟨bn, offn, none⟩) ns.length cn) := (hb1.cell (p := ⟨w.heap.size + 1, 0, none⟩) (by simp)).trans (by simp [go_sem])
  have z1 : w.heap.size + 2 ≤ w1.heap.size := by have := hb1.size; simp at this; omega
  clear hb1
  go_wp2_with fail
  refine (l3InOrder_any bn offn cn ns _ hmn ((unhide HWN).below bel1 hBn) (unhide HZN) (by omega)).mono ?_
  rintro e w2 ⟨⟨v, rfl, hv⟩, hb2⟩
  have HV := hide hv
  have bel2 := bel1.trans (hb2.mono bel1.size)
  have e0 := (hb2.cell (p := ⟨w.heap.size, 0, none⟩) (show w.heap.size < w1.heap.size by omega)).trans c0
  have e1 := (hb2.cell (p := ⟨w.heap.size + 1, 0, none⟩) (show w.heap.size + 1 < w1.heap.size by omega)).trans c1
  have z2 : w.heap.size + 2 ≤ w2.heap.size := Nat.le_trans z1 hb2.size
  clear hb2 hv c0 c1 bel1 z1
  cases v
  · go_wp2_with fail
    go_ret
    exact ⟨⟨_, rfl, says_false (fun h => Bool.false_ne_true ((unhide HV).2 h.1))⟩, bel2⟩
  have HO := hide ((unhide HV).1 rfl)
  clear HV
  have HCS := hide (show Cs [(w.heap.size, 0, .slice (some ⟨b, off, none⟩) xs.length cap), (w.heap.size + 1, 0, .slice (some ⟨bn, offn, none⟩) ns.length cn)] w2 from fun p hp => by
    simp only [List.mem_cons, List.not_mem_nil, or_false] at hp
    rcases hp with rfl | rfl
    · exact e0
    · exact e1)
  go_wp2_with fail
  go_loopw [5] (fun iv wr => ∃ k : Nat, k ≤ ns.length ∧ iv = .int .i64 (k : Int) ∧ Hid (∀ i, i < k → isOpN (atN ns i) → fnd xs (atN ns i).t ((atN ns i).k - 2) ≠ none) ∧ Hid (Cs [(w.heap.size, 0, .slice (some ⟨b, off, none⟩) xs.length cap), (w.heap.size + 1, 0, .slice (some ⟨bn, offn, none⟩) ns.length cn)] wr) ∧ Below w.heap.size w wr) (fun iv _ => ns.length - (intOf iv).toNat)
  case atStart => exact ⟨0, Nat.zero_le _, rfl, hide (fun i hi => absurd hi (Nat.not_lt_zero i)), HCS, bel2⟩
  case round =>
    clear HCS e0 e1 bel2 z2
    obtain ⟨k, hk, rfl, hkn, hcs, hbel⟩ := hrel
    have c0 := (unhide hcs) (w.heap.size, 0, .slice (some ⟨b, off, none⟩) xs.length cap) (by simp)
    have c1 := (unhide hcs) (w.heap.size + 1, 0, .slice (some ⟨bn, offn, none⟩) ns.length cn) (by simp)
    simp only at c0 c1
    by_cases hlt : k < ns.length
    · have hltI : (k : Int) < (ns.length : Int) := by omega
      obtain ⟨a0, a1, a2, a3⟩ := ((unhide HWN) k hlt).below hbel hBn
      have HC1 := hide ((unhide hcs).below (below1 wr (.cells #[.int .i64 (atN ns k).k, .string (atN ns k).t, .int .i64 (atN ns k).a, .int .i64 (atN ns k).b] 81)))
      have bel1 : Below w.heap.size w (wr.alloc (.cells #[.int .i64 (atN ns k).k, .string (atN ns k).t, .int .i64 (atN ns k).a, .int .i64 (atN ns k).b] 81)) := hbel.alloc hbel.size _
      by_cases ho : isOpN (atN ns k)
      · have HD := hide (show true = decide (3 ≤ (atN ns k).k ∧ (atN ns k).k ≤ 5) by rw [eq_comm, decide_eq_true_iff]; exact ho)
        have h3 := ho.1
        have h5 := ho.2
        have HOP := hide ho
        clear ho
        go_wp2_with fail
        refine (l3IsOp_any (atN ns k) _ true (unhide HD)).mono ?_
        rintro e w3 ⟨rfl, hb3⟩
        have HC3 := hide ((unhide HC1).below hb3)
        have bel3 := bel1.trans (hb3.mono bel1.size)
        have n0 : w3.cell? ⟨wr.heap.size, 0, none⟩ = some (.int .i64 (atN ns k).k) := (hb3.cell (p := ⟨wr.heap.size, 0, none⟩) (by simp)).trans (by simp [go_sem])
        have n1 : w3.cell? ⟨wr.heap.size, 1, none⟩ = some (.string (atN ns k).t) := (hb3.cell (p := ⟨wr.heap.size, 1, none⟩) (by simp)).trans (by simp [go_sem])
        have d0 := (unhide HC3) (w.heap.size, 0, .slice (some ⟨b, off, none⟩) xs.length cap) (by simp)
        simp only at d0
        have hwr : IntKind.i64.wrap ((atN ns k).k - 2) = (atN ns k).k - 2 := by rw [IntKind.wrap_i64]; omega
        clear hb3 c0 c1
        cases hf : fnd xs (atN ns k).t ((atN ns k).k - 2) with
        | none =>
          have HF := hide hf
          have HFI := hide (show fI (fnd xs (atN ns k).t ((atN ns k).k - 2)) = -1 by rw [hf]; rfl)
          clear hf
          go_wp2_with fail
          refine (l2Find_ix b off cap xs (atN ns k).t ((atN ns k).k - 2) _ hm ((unhide HW).below bel3 hB) (Nat.lt_of_lt_of_le hB bel3.size)).mono ?_
          rw [unhide HFI]
          rintro e w4 ⟨rfl, hb4⟩
          go_wp2_with fail
          go_ret
          exact ⟨⟨_, rfl, says_false (fun h => h.2 k hlt (unhide HOP) (unhide HF))⟩, bel3.trans (hb4.mono bel3.size)⟩
        | some j =>
          have HF := hide hf
          have HFI := hide (show fI (fnd xs (atN ns k).t ((atN ns k).k - 2)) = (j : Int) by rw [hf]; rfl)
          clear hf
          go_wp2_with fail
          refine (l2Find_ix b off cap xs (atN ns k).t ((atN ns k).k - 2) _ hm ((unhide HW).below bel3 hB) (Nat.lt_of_lt_of_le hB bel3.size)).mono ?_
          rw [unhide HFI]
          rintro e w4 ⟨rfl, hb4⟩
          have hj0 : ¬ (j : Int) < 0 := by omega
          go_wp2_with fail
          refine ⟨⟨k + 1, by omega, by go_num, hide (fun i hi hop => ?_), hide ((unhide HC3).below hb4), bel3.trans (hb4.mono bel3.size)⟩, by simp [intOf]; omega⟩
          by_cases e : i = k
          · subst e; rw [unhide HF]; simp
          · exact (unhide hkn) i (by omega) hop
      · have HD := hide (show false = decide (3 ≤ (atN ns k).k ∧ (atN ns k).k ≤ 5) by rw [eq_comm, decide_eq_false_iff_not]; exact ho)
        have HOP := hide ho
        clear ho
        go_wp2_with fail
        refine (l3IsOp_any (atN ns k) _ false (unhide HD)).mono ?_
        rintro e w3 ⟨rfl, hb3⟩
        go_wp2_with fail
        refine ⟨⟨k + 1, by omega, by go_num, hide (fun i hi hop => ?_), hide ((unhide HC1).below hb3), bel1.trans (hb3.mono bel1.size)⟩, by simp [intOf]; omega⟩
        by_cases e : i = k
        · subst e; exact absurd hop (unhide HOP)
        · exact (unhide hkn) i (by omega) hop
    · have hkx : k = ns.length := by omega
      go_wp2_with fail
      go_ret
      exact ⟨⟨_, rfl, says_true ⟨unhide HO, fun i hi hop => (unhide hkn) i (by omega) hop⟩⟩, hbel⟩
end Go.Proofs.YtfboipappaonhaaGreat

/-
  Walks: the specification's Group.
-/
namespace Go.Proofs.YtfboipappaonhaaGreat
set_option maxRecDepth 100000
set_option linter.unusedSimpArgs false
set_option linter.unusedVariables false
open Go.RowKit

/-- A node in a variable. -/
def NodAt (w : World) (N : Nat) (o : NodeR) : Prop := w.cell? ⟨N, 0, none⟩ = some (.int .i64 o.k) ∧ w.cell? ⟨N, 1, none⟩ = some (.string o.t) ∧ w.cell? ⟨N, 2, none⟩ = some (.int .i64 o.a) ∧ w.cell? ⟨N, 3, none⟩ = some (.int .i64 o.b) ∧ w.frozen? ⟨N, 2, none⟩ = false ∧ w.frozen? ⟨N, 3, none⟩ = false

theorem NodAt.grown {w w' : World} {N : Nat} {o : NodeR} {row : Option Nat} (h : NodAt w N o) (hg : w.grownBy w' row) (hne : row ≠ some N) : NodAt w' N o := by
  obtain ⟨h0, h1, h2, h3, h4, h5⟩ := h
  have hlt : N < w.heap.size := block_lt_of_cell h0
  have c := grown_cell hg hlt hne
  have f : ∀ o, w'.frozen? ⟨N, o, none⟩ = w.frozen? ⟨N, o, none⟩ := fun o => World.frozen?_of_block (w := w) (hg.block N hlt (fun e => hne e.symm))
  exact ⟨(c 0).trans h0, (c 1).trans h1, (c 2).trans h2, (c 3).trans h3, (f 2).trans h4, (f 3).trans h5⟩

theorem NodAt.below {w w' : World} {N : Nat} {o : NodeR} (h : NodAt w N o) (hb : Below w.heap.size w w') : NodAt w' N o := h.grown (grown_belN hb none) (by simp)

theorem NodAt.set2 {w : World} {N : Nat} {o : NodeR} (h : NodAt w N o) (v : Int) : NodAt (w.setCell ⟨N, 2, none⟩ (.int .i64 v)) N ⟨o.k, o.t, v, o.b⟩ := by
  obtain ⟨h0, h1, h2, h3, h4, h5⟩ := h
  have c : ∀ j, j ≠ 2 → (w.setCell ⟨N, 2, none⟩ (.int .i64 v)).cell? ⟨N, j, none⟩ = w.cell? ⟨N, j, none⟩ := fun j hj => World.cell?_setCell_other _ _ _ _ (fun x => hj (by injection x with _ x; exact x.symm))
  exact ⟨(c 0 (by omega)).trans h0, (c 1 (by omega)).trans h1, World.cell?_setCell_same _ _ _ h2, (c 3 (by omega)).trans h3, (World.frozen?_setCell _ _ _ _).trans h4, (World.frozen?_setCell _ _ _ _).trans h5⟩
theorem NodAt.set3 {w : World} {N : Nat} {o : NodeR} (h : NodAt w N o) (v : Int) : NodAt (w.setCell ⟨N, 3, none⟩ (.int .i64 v)) N ⟨o.k, o.t, o.a, v⟩ := by
  obtain ⟨h0, h1, h2, h3, h4, h5⟩ := h
  have c : ∀ j, j ≠ 3 → (w.setCell ⟨N, 3, none⟩ (.int .i64 v)).cell? ⟨N, j, none⟩ = w.cell? ⟨N, j, none⟩ := fun j hj => World.cell?_setCell_other _ _ _ _ (fun x => hj (by injection x with _ x; exact x.symm))
  exact ⟨(c 0 (by omega)).trans h0, (c 1 (by omega)).trans h1, (c 2 (by omega)).trans h2, World.cell?_setCell_same _ _ _ h3, (World.frozen?_setCell _ _ _ _).trans h4, (World.frozen?_setCell _ _ _ _).trans h5⟩
theorem NodAt.other {w : World} {N g j : Nat} {o : NodeR} (h : NodAt w N o) (v : Value) (hne : g ≠ N) : NodAt (w.setCell ⟨g, j, none⟩ v) N o :=
  h.grown (row := some g) ⟨rfl, rfl, rfl, by simp [World.setCell], fun i _ hi => Below.heap_setCell _ _ _ _ (fun e => hi (by rw [e]))⟩ (by simpa using hne)

/-- An operator in a variable. -/
def OpAt (w : World) (N : Nat) (p : OpR) : Prop := w.cell? ⟨N, 0, none⟩ = some (.string p.s) ∧ w.cell? ⟨N, 1, none⟩ = some (.int .i64 p.k) ∧ w.cell? ⟨N, 2, none⟩ = some (.int .i64 p.l) ∧ w.cell? ⟨N, 3, none⟩ = some (.int .i64 p.sd)
theorem OpAt.grown {w w' : World} {N : Nat} {o : OpR} {row : Option Nat} (h : OpAt w N o) (hg : w.grownBy w' row) (hne : row ≠ some N) : OpAt w' N o := by
  obtain ⟨h0, h1, h2, h3⟩ := h
  have hlt : N < w.heap.size := block_lt_of_cell h0
  have c := grown_cell hg hlt hne
  exact ⟨(c 0).trans h0, (c 1).trans h1, (c 2).trans h2, (c 3).trans h3⟩
theorem OpAt.below {w w' : World} {N : Nat} {o : OpR} (h : OpAt w N o) (hb : Below w.heap.size w w') : OpAt w' N o := h.grown (grown_belN hb none) (by simp)
theorem OpAt.other {w : World} {N g j : Nat} {o : OpR} (h : OpAt w N o) (v : Value) (hne : g ≠ N) : OpAt (w.setCell ⟨g, j, none⟩ v) N o :=
  h.grown (row := some g) ⟨rfl, rfl, rfl, by simp [World.setCell], fun i _ hi => Below.heap_setCell _ _ _ _ (fun e => hi (by rw [e]))⟩ (by simpa using hne)

/-- The row of a table stays behind a call that writes into new rows alone. -/
theorem ops_grown {w w' : World} {b off B : Nat} {xs : List OpR} {row : Option Nat} (h : Ops w b off xs) (hg : w.grownBy w' row) (hb : b < B) (hB : B ≤ w.heap.size) (hr : ∀ k, row = some k → B ≤ k) : Ops w' b off xs := fun i hi => by
  obtain ⟨a0, a1, a2, a3⟩ := h i hi
  have c := grown_cell hg (b := b) (by omega) (fun e => by have := hr _ e; omega)
  exact ⟨(c _).trans a0, (c _).trans a1, (c _).trans a2, (c _).trans a3⟩
theorem opsN_grown {w w' : World} {b off B : Nat} {xs : List NodeR} {row : Option Nat} (h : OpsN w b off xs) (hg : w.grownBy w' row) (hb : b < B) (hB : B ≤ w.heap.size) (hr : ∀ k, row = some k → B ≤ k) : OpsN w' b off xs := fun i hi => by
  obtain ⟨a0, a1, a2, a3⟩ := h i hi
  have c := grown_cell hg (b := b) (by omega) (fun e => by have := hr _ e; omega)
  exact ⟨(c _).trans a0, (c _).trans a1, (c _).trans a2, (c _).trans a3⟩
theorem RowV.base {w : World} {B : Nat} {u : Value} {us : List NodeR} (h : RowV w B u us) : ∀ g, u.ownBlock = some g → B ≤ g := fun g hg => (World.ownsRow.lt h g hg).1
theorem RowV.other {w : World} {B g j : Nat} {u : Value} {us : List NodeR} (h : RowV w B u us) (v : Value) (hne : u.ownBlock ≠ some g) : RowV (w.setCell ⟨g, j, none⟩ v) B u us := owns_set h g j v hne

/-- A node of the tree without groups, at its new place. -/
theorem er_prefix (xs : List NodeR) : ∀ m i, i ≤ m → ∃ r, er xs m = er xs i ++ r
  | 0, i, h => by
    obtain rfl : i = 0 := by omega
    exact ⟨[], rfl⟩
  | m + 1, i, h => by
    by_cases e : i = m + 1
    · subst e; exact ⟨[], by simp⟩
    · obtain ⟨r, hr⟩ := er_prefix xs m i (by omega)
      by_cases h6 : (atN xs m).k = 6
      · rw [er_group h6]; exact ⟨r, hr⟩
      · rw [er_other h6, hr]; exact ⟨r ++ [erN xs (atN xs m)], by simp⟩

theorem er_at {xs : List NodeR} {m i : Nat} (hi : i < m) (h6 : (atN xs i).k ≠ 6) : cnt xs i < (er xs m).length ∧ atN (er xs m) (cnt xs i) = erN xs (atN xs i) := by
  obtain ⟨r, hr⟩ := er_prefix xs m (i + 1) hi
  have hl := er_len xs i
  rw [er_other h6] at hr
  rw [hr]
  refine ⟨by simp [hl], ?_⟩
  unfold atN
  simp [List.getD, List.getElem?_append, hl]

theorem cnt_other {xs : List NodeR} {i : Nat} (h6 : (atN xs i).k ≠ 6) : cnt xs (i + 1) = cnt xs i + 1 := by
  show (if (atN xs i).k = 6 then cnt xs i else cnt xs i + 1) = _
  rw [if_neg h6]
theorem cnt_group {xs : List NodeR} {i : Nat} (h6 : (atN xs i).k = 6) : cnt xs (i + 1) = cnt xs i := by
  show (if (atN xs i).k = 6 then cnt xs i else cnt xs i + 1) = _
  rw [if_pos h6]
end Go.Proofs.YtfboipappaonhaaGreat
