import Derived.Maps.OwnSet
import Derived.DeepKeys4
import Derived.Test.YtokabkhnidlcnabGreatR05
import Derived.Test.YtokabkhnidlcnabGreatR07
import Derived.Test.YtokabkhnidlcnabGreatR12
import Derived.Test.YtokabkhnidlcnabGreatR18

/-
  Walk: whether a node fits, by its kids alone.
-/
namespace Go.Proofs.YtokabkhnidlcnabGreat
set_option maxRecDepth 100000
set_option linter.unusedSimpArgs false
set_option linter.unusedVariables false
open Go.RowKit

set_option maxHeartbeats 3000000 in
theorem l3Fits_at (b off cap bn offn cn i : Nat) (xs : List OpR) (ns : List NodeR) (w : World) (hm : xs.length ≤ 1048576) (hmn : ns.length ≤ 1048576) (hw : Ops w b off xs) (hsz : Sized xs) (hB : b < w.heap.size) (hwn : OpsN w bn offn ns) (hBn : bn < w.heap.size) (hi : i < ns.length) (ho : isOpN (atN ns i)) (j : Nat) (hf : fnd xs (atN ns i).t ((atN ns i).k - 2) = some j) (ka kb : Nat) (hka : (atN ns i).a = (ka : Int)) (hkb : (atN ns i).b = (kb : Int)) (hkal : ka < ns.length) (hkbl : kb < ns.length) (hkk : kids (atN ns i).k = 1 ∨ kids (atN ns i).k = 2) (hknA : 3 ≤ (atN ns ka).k → (atN ns ka).k ≤ 5 → fnd xs (atN ns ka).t ((atN ns ka).k - 2) ≠ none) (hknB : kids (atN ns i).k = 2 → 3 ≤ (atN ns kb).k → (atN ns kb).k ≤ 5 → fnd xs (atN ns kb).t ((atN ns kb).k - 2) ≠ none) :
    Calls Tryz.prog 59 #[.agg #[.slice (some ⟨b, off, none⟩) xs.length cap], .slice (some ⟨bn, offn, none⟩) ns.length cn, .int .i64 (i : Int)] w fun e w' => RetB e (FitN xs ns i) ∧ Below w.heap.size w w' := by
  have hiI : (i : Int) < (ns.length : Int) := by omega
  obtain ⟨h0, h1, h2, h3⟩ := hwn i hi
  have HW := hide hw
  have HWN := hide hwn
  have HZ := hide hsz
  have hj := (fnd_some hf).1
  have HIF := hide (show FitN xs ns i ↔ holeO xs j false ≤ levN xs (atN ns ka) ∧ (kids (atN ns i).k = 1 ∨ holeO xs j true ≤ levN xs (atN ns kb)) by
    rw [FitN_iff ho hf, hka, hkb]; simp)
  have HD := hide (show true = decide (3 ≤ (atN ns i).k ∧ (atN ns i).k ≤ 5) by rw [eq_comm, decide_eq_true_iff]; exact ho)
  have HF := hide hf
  have h3k := ho.1
  have h5k := ho.2
  have HKA := hide hknA
  have HKB2 := hide hknB
  have HSJ := hide (hsz j hj)
  rw [hka] at h2
  rw [hkb] at h3
  have hkaI : (ka : Int) < (ns.length : Int) := by omega
  have hkbI : (kb : Int) < (ns.length : Int) := by omega
  clear hw hwn hsz ho hka hkb hf hknA hknB
  go_enter Tryz.func59, Tryz.ntmps59
  go_wp2_with fail
  refine (l3IsOp_any ⟨(atN ns i).k, (atN ns i).t, (ka : Int), (kb : Int)⟩ _ true (unhide HD)).mono ?_
  rintro e w1 ⟨rfl, hb1⟩
  have bel1 : Below w.heap.size w w1 := ((below1 _ _).alloc (by simp) _).trans (hb1.mono (by simp; omega))
  have HC1 := hide (show Cs [(w.heap.size, 0, .slice (some ⟨b, off, none⟩) xs.length cap), (w.heap.size + 1, 0, .int .i64 (atN ns i).k), (w.heap.size + 1, 1, .string (atN ns i).t), (w.heap.size + 1, 2, .int .i64 (ka : Int)), (w.heap.size + 1, 3, .int .i64 (kb : Int))] w1 from fun p hp => by
    simp only [List.mem_cons, List.not_mem_nil, or_false] at hp
    rcases hp with rfl | rfl | rfl | rfl | rfl
    · exact (hb1.cell (p := ⟨w.heap.size, 0, none⟩) (by simp; omega)).trans (by simp [go_sem])
    · exact (hb1.cell (p := ⟨w.heap.size + 1, 0, none⟩) (by simp)).trans (by simp [go_sem])
    · exact (hb1.cell (p := ⟨w.heap.size + 1, 1, none⟩) (by simp)).trans (by simp [go_sem])
    · exact (hb1.cell (p := ⟨w.heap.size + 1, 2, none⟩) (by simp)).trans (by simp [go_sem])
    · exact (hb1.cell (p := ⟨w.heap.size + 1, 3, none⟩) (by simp)).trans (by simp [go_sem]))
  clear hb1
  have c0 := (unhide HC1) (w.heap.size, 0, .slice (some ⟨b, off, none⟩) xs.length cap) (by simp)
  have d0 := (unhide HC1) (w.heap.size + 1, 0, .int .i64 (atN ns i).k) (by simp)
  have d1 := (unhide HC1) (w.heap.size + 1, 1, .string (atN ns i).t) (by simp)
  have d2 := (unhide HC1) (w.heap.size + 1, 2, .int .i64 (ka : Int)) (by simp)
  have d3 := (unhide HC1) (w.heap.size + 1, 3, .int .i64 (kb : Int)) (by simp)
  simp only at c0 d0 d1 d2 d3
  go_wp2_with fail
  refine (l3OpOf_any b off cap xs ⟨(atN ns i).k, (atN ns i).t, (ka : Int), (kb : Int)⟩ j _ hm ((unhide HW).below bel1 hB) (Nat.lt_of_lt_of_le hB bel1.size) h3k h5k (unhide HF)).mono ?_
  rintro e w2 ⟨rfl, hb2⟩
  have bel2 := bel1.trans (hb2.mono bel1.size)
  have HC2 := hide ((unhide HC1).below hb2)
  clear hb2 HC1 c0 d0 d1 d2 d3 bel1
  have HSC := hide (show Cs [(w.heap.size, 0, .slice (some ⟨b, off, none⟩) xs.length cap), (w.heap.size + 1, 0, .int .i64 (atN ns i).k), (w.heap.size + 1, 1, .string (atN ns i).t), (w.heap.size + 1, 2, .int .i64 (ka : Int)), (w.heap.size + 1, 3, .int .i64 (kb : Int)), (w2.heap.size, 0, .string (atO xs j).s), (w2.heap.size, 1, .int .i64 (atO xs j).k), (w2.heap.size, 2, .int .i64 (atO xs j).l), (w2.heap.size, 3, .int .i64 (atO xs j).sd), (bn, offn + ka * 4, .int .i64 (atN ns ka).k), (bn, offn + ka * 4 + 1, .string (atN ns ka).t), (bn, offn + ka * 4 + 2, .int .i64 (atN ns ka).a), (bn, offn + ka * 4 + 3, .int .i64 (atN ns ka).b), (bn, offn + kb * 4, .int .i64 (atN ns kb).k), (bn, offn + kb * 4 + 1, .string (atN ns kb).t), (bn, offn + kb * 4 + 2, .int .i64 (atN ns kb).a), (bn, offn + kb * 4 + 3, .int .i64 (atN ns kb).b)] (w2.alloc (.cells #[.string (atO xs j).s, .int .i64 (atO xs j).k, .int .i64 (atO xs j).l, .int .i64 (atO xs j).sd] 104)).drew from fun p hp => by
    simp only [List.mem_cons, List.not_mem_nil, or_false] at hp
    have hold : Cs [(w.heap.size, 0, .slice (some ⟨b, off, none⟩) xs.length cap), (w.heap.size + 1, 0, .int .i64 (atN ns i).k), (w.heap.size + 1, 1, .string (atN ns i).t), (w.heap.size + 1, 2, .int .i64 (ka : Int)), (w.heap.size + 1, 3, .int .i64 (kb : Int))] (w2.alloc (.cells #[.string (atO xs j).s, .int .i64 (atO xs j).k, .int .i64 (atO xs j).l, .int .i64 (atO xs j).sd] 104)).drew := (unhide HC2).below ((below1 _ _).drew)
    have hna := ((unhide HWN) ka hkal).below (bel2.trans (((below1 w2 (.cells #[.string (atO xs j).s, .int .i64 (atO xs j).k, .int .i64 (atO xs j).l, .int .i64 (atO xs j).sd] 104)).drew).mono bel2.size)) hBn
    have hnb := ((unhide HWN) kb hkbl).below (bel2.trans (((below1 w2 (.cells #[.string (atO xs j).s, .int .i64 (atO xs j).k, .int .i64 (atO xs j).l, .int .i64 (atO xs j).sd] 104)).drew).mono bel2.size)) hBn
    rcases hp with rfl | rfl | rfl | rfl | rfl | rfl | rfl | rfl | rfl | rfl | rfl | rfl | rfl | rfl | rfl | rfl | rfl
    · exact hold _ (by simp)
    · exact hold _ (by simp)
    · exact hold _ (by simp)
    · exact hold _ (by simp)
    · exact hold _ (by simp)
    · exact (show (w2.alloc (.cells #[.string (atO xs j).s, .int .i64 (atO xs j).k, .int .i64 (atO xs j).l, .int .i64 (atO xs j).sd] 104)).cell? _ = _ by simp [go_sem])
    · exact (show (w2.alloc (.cells #[.string (atO xs j).s, .int .i64 (atO xs j).k, .int .i64 (atO xs j).l, .int .i64 (atO xs j).sd] 104)).cell? _ = _ by simp [go_sem])
    · exact (show (w2.alloc (.cells #[.string (atO xs j).s, .int .i64 (atO xs j).k, .int .i64 (atO xs j).l, .int .i64 (atO xs j).sd] 104)).cell? _ = _ by simp [go_sem])
    · exact (show (w2.alloc (.cells #[.string (atO xs j).s, .int .i64 (atO xs j).k, .int .i64 (atO xs j).l, .int .i64 (atO xs j).sd] 104)).cell? _ = _ by simp [go_sem])
    · exact hna.1
    · exact hna.2.1
    · exact hna.2.2.1
    · exact hna.2.2.2
    · exact hnb.1
    · exact hnb.2.1
    · exact hnb.2.2.1
    · exact hnb.2.2.2)
  have HBC := hide (show Below w.heap.size w (w2.alloc (.cells #[.string (atO xs j).s, .int .i64 (atO xs j).k, .int .i64 (atO xs j).l, .int .i64 (atO xs j).sd] 104)).drew from bel2.trans (((below1 w2 (.cells #[.string (atO xs j).s, .int .i64 (atO xs j).k, .int .i64 (atO xs j).l, .int .i64 (atO xs j).sd] 104)).drew).mono bel2.size))
  clear HC2 bel2
  have HHF := hide (show holeO xs j false = holeI (atO xs j).s (atO xs j).k (atO xs j).l (atO xs j).sd false from rfl)
  have HHT := hide (show holeO xs j true = holeI (atO xs j).s (atO xs j).k (atO xs j).l (atO xs j).sd true from rfl)
  rw [unhide HHF, unhide HHT] at HIF
  clear HHF HHT
  by_cases hA : levN xs (atN ns ka) < holeI (atO xs j).s (atO xs j).k (atO xs j).l (atO xs j).sd false
  · have HN := hide (show ¬ FitN xs ns i from fun h => by have := ((unhide HIF).1 h).1; omega)
    clear HIF
    go_wp2_with fail
    go_region_held (fun w' => w'.cell? ⟨w.heap.size, 0, none⟩ = some (.slice (some ⟨b, off, none⟩) xs.length cap) ∧ w'.cell? ⟨w.heap.size + 1, 2, none⟩ = some (.int .i64 (ka : Int)) ∧ w'.cell? ⟨w2.heap.size, 0, none⟩ = some (.string (atO xs j).s) ∧ w'.cell? ⟨w2.heap.size, 1, none⟩ = some (.int .i64 (atO xs j).k) ∧ w'.cell? ⟨w2.heap.size, 2, none⟩ = some (.int .i64 (atO xs j).l) ∧ w'.cell? ⟨w2.heap.size, 3, none⟩ = some (.int .i64 (atO xs j).sd) ∧ w'.cell? ⟨bn, offn + ka * 4, none⟩ = some (.int .i64 (atN ns ka).k) ∧ w'.cell? ⟨bn, offn + ka * 4 + 1, none⟩ = some (.string (atN ns ka).t) ∧ w'.cell? ⟨bn, offn + ka * 4 + 2, none⟩ = some (.int .i64 (atN ns ka).a) ∧ w'.cell? ⟨bn, offn + ka * 4 + 3, none⟩ = some (.int .i64 (atN ns ka).b)) (first | (go_keep; done) | exact ⟨(unhide HSC) (w.heap.size, 0, .slice (some ⟨b, off, none⟩) xs.length cap) (by simp), (unhide HSC) (w.heap.size + 1, 2, .int .i64 (ka : Int)) (by simp), (unhide HSC) (w2.heap.size, 0, .string (atO xs j).s) (by simp), (unhide HSC) (w2.heap.size, 1, .int .i64 (atO xs j).k) (by simp), (unhide HSC) (w2.heap.size, 2, .int .i64 (atO xs j).l) (by simp), (unhide HSC) (w2.heap.size, 3, .int .i64 (atO xs j).sd) (by simp), (unhide HSC) (bn, offn + ka * 4, .int .i64 (atN ns ka).k) (by simp), (unhide HSC) (bn, offn + ka * 4 + 1, .string (atN ns ka).t) (by simp), (unhide HSC) (bn, offn + ka * 4 + 2, .int .i64 (atN ns ka).a) (by simp), (unhide HSC) (bn, offn + ka * 4 + 3, .int .i64 (atN ns ka).b) (by simp)⟩)
      (first | (go_at_call 101; have HX := l3Level_any b off cap xs (atN ns ka) _ hm ((unhide HW).below (unhide HBC) hB) (Nat.lt_of_lt_of_le hB (unhide HBC).size) (unhide HKA); refine HX.mono ?_; clear HX; rintro e w3 ⟨rfl, hb3⟩; replace HSC := hide ((unhide HSC).below hb3); replace HBC := hide ((unhide HBC).trans (hb3.mono (unhide HBC).size)); clear hb3) | (go_at_call 102; refine (specHole_any (atO xs j).s (atO xs j).k (atO xs j).l (atO xs j).sd false _ (unhide HSJ)).mono ?_; rintro e w4 ⟨rfl, hb4⟩; replace HSC := hide ((unhide HSC).below hb4); replace HBC := hide ((unhide HBC).trans (hb4.mono (unhide HBC).size)); clear hb4))
    all_goals go_wp2
    all_goals go_ret
    all_goals exact ⟨⟨_, rfl, says_false (unhide HN)⟩, unhide HBC⟩
  · go_wp2_with fail
    go_region_held (fun w' => w'.cell? ⟨w.heap.size, 0, none⟩ = some (.slice (some ⟨b, off, none⟩) xs.length cap) ∧ w'.cell? ⟨w.heap.size + 1, 2, none⟩ = some (.int .i64 (ka : Int)) ∧ w'.cell? ⟨w2.heap.size, 0, none⟩ = some (.string (atO xs j).s) ∧ w'.cell? ⟨w2.heap.size, 1, none⟩ = some (.int .i64 (atO xs j).k) ∧ w'.cell? ⟨w2.heap.size, 2, none⟩ = some (.int .i64 (atO xs j).l) ∧ w'.cell? ⟨w2.heap.size, 3, none⟩ = some (.int .i64 (atO xs j).sd) ∧ w'.cell? ⟨bn, offn + ka * 4, none⟩ = some (.int .i64 (atN ns ka).k) ∧ w'.cell? ⟨bn, offn + ka * 4 + 1, none⟩ = some (.string (atN ns ka).t) ∧ w'.cell? ⟨bn, offn + ka * 4 + 2, none⟩ = some (.int .i64 (atN ns ka).a) ∧ w'.cell? ⟨bn, offn + ka * 4 + 3, none⟩ = some (.int .i64 (atN ns ka).b)) (first | (go_keep; done) | exact ⟨(unhide HSC) (w.heap.size, 0, .slice (some ⟨b, off, none⟩) xs.length cap) (by simp), (unhide HSC) (w.heap.size + 1, 2, .int .i64 (ka : Int)) (by simp), (unhide HSC) (w2.heap.size, 0, .string (atO xs j).s) (by simp), (unhide HSC) (w2.heap.size, 1, .int .i64 (atO xs j).k) (by simp), (unhide HSC) (w2.heap.size, 2, .int .i64 (atO xs j).l) (by simp), (unhide HSC) (w2.heap.size, 3, .int .i64 (atO xs j).sd) (by simp), (unhide HSC) (bn, offn + ka * 4, .int .i64 (atN ns ka).k) (by simp), (unhide HSC) (bn, offn + ka * 4 + 1, .string (atN ns ka).t) (by simp), (unhide HSC) (bn, offn + ka * 4 + 2, .int .i64 (atN ns ka).a) (by simp), (unhide HSC) (bn, offn + ka * 4 + 3, .int .i64 (atN ns ka).b) (by simp)⟩)
      (first | (go_at_call 101; have HX := l3Level_any b off cap xs (atN ns ka) _ hm ((unhide HW).below (unhide HBC) hB) (Nat.lt_of_lt_of_le hB (unhide HBC).size) (unhide HKA); refine HX.mono ?_; clear HX; rintro e w3 ⟨rfl, hb3⟩; replace HSC := hide ((unhide HSC).below hb3); replace HBC := hide ((unhide HBC).trans (hb3.mono (unhide HBC).size)); clear hb3) | (go_at_call 102; refine (specHole_any (atO xs j).s (atO xs j).k (atO xs j).l (atO xs j).sd false _ (unhide HSJ)).mono ?_; rintro e w4 ⟨rfl, hb4⟩; replace HSC := hide ((unhide HSC).below hb4); replace HBC := hide ((unhide HBC).trans (hb4.mono (unhide HBC).size)); clear hb4))
    rcases hkk with hkk | hkk
    · have HKK := hide hkk
      have HY := hide (show FitN xs ns i from (unhide HIF).2 ⟨by omega, Or.inl hkk⟩)
      clear hkk HIF
      have d0 := (unhide HSC) (w.heap.size + 1, 0, .int .i64 (atN ns i).k) (by simp)
      simp only at d0
      go_wp2_with fail
      go_quiet ((go_at_call 60; exact Calls.quiet_of_same (l3Kids_is (unhide HKK) 1 rfl _)))
      go_wp2
      go_ret
      exact ⟨⟨_, rfl, says_true (unhide HY)⟩, below_samS (unhide HBC) rfl rfl rfl rfl⟩
    · have HKK := hide hkk
      have HKB := hide ((unhide HKB2) hkk)
      have HYN := hide (show FitN xs ns i ↔ holeI (atO xs j).s (atO xs j).k (atO xs j).l (atO xs j).sd true ≤ levN xs (atN ns kb) by
        rw [unhide HIF]
        constructor
        · rintro ⟨_, h | h⟩
          · omega
          · exact h
        · intro h; exact ⟨by omega, Or.inr h⟩)
      clear hkk HIF
      replace HSC := hide ((unhide HSC).below (Below.refl _ _).drew)
      replace HBC := hide (unhide HBC).drew
      go_wp2_with fail
      go_region_held (fun w' => w'.cell? ⟨w.heap.size, 0, none⟩ = some (.slice (some ⟨b, off, none⟩) xs.length cap) ∧ w'.cell? ⟨w.heap.size + 1, 0, none⟩ = some (.int .i64 (atN ns i).k) ∧ w'.cell? ⟨w.heap.size + 1, 3, none⟩ = some (.int .i64 (kb : Int)) ∧ w'.cell? ⟨w2.heap.size, 0, none⟩ = some (.string (atO xs j).s) ∧ w'.cell? ⟨w2.heap.size, 1, none⟩ = some (.int .i64 (atO xs j).k) ∧ w'.cell? ⟨w2.heap.size, 2, none⟩ = some (.int .i64 (atO xs j).l) ∧ w'.cell? ⟨w2.heap.size, 3, none⟩ = some (.int .i64 (atO xs j).sd) ∧ w'.cell? ⟨bn, offn + kb * 4, none⟩ = some (.int .i64 (atN ns kb).k) ∧ w'.cell? ⟨bn, offn + kb * 4 + 1, none⟩ = some (.string (atN ns kb).t) ∧ w'.cell? ⟨bn, offn + kb * 4 + 2, none⟩ = some (.int .i64 (atN ns kb).a) ∧ w'.cell? ⟨bn, offn + kb * 4 + 3, none⟩ = some (.int .i64 (atN ns kb).b)) (first | (go_keep; done) | exact ⟨(unhide HSC) (w.heap.size, 0, .slice (some ⟨b, off, none⟩) xs.length cap) (by simp), (unhide HSC) (w.heap.size + 1, 0, .int .i64 (atN ns i).k) (by simp), (unhide HSC) (w.heap.size + 1, 3, .int .i64 (kb : Int)) (by simp), (unhide HSC) (w2.heap.size, 0, .string (atO xs j).s) (by simp), (unhide HSC) (w2.heap.size, 1, .int .i64 (atO xs j).k) (by simp), (unhide HSC) (w2.heap.size, 2, .int .i64 (atO xs j).l) (by simp), (unhide HSC) (w2.heap.size, 3, .int .i64 (atO xs j).sd) (by simp), (unhide HSC) (bn, offn + kb * 4, .int .i64 (atN ns kb).k) (by simp), (unhide HSC) (bn, offn + kb * 4 + 1, .string (atN ns kb).t) (by simp), (unhide HSC) (bn, offn + kb * 4 + 2, .int .i64 (atN ns kb).a) (by simp), (unhide HSC) (bn, offn + kb * 4 + 3, .int .i64 (atN ns kb).b) (by simp)⟩)
        (first | (go_at_call 60; refine (l3Kids_is (unhide HKK) 2 rfl _).mono ?_; rintro e w5 ⟨rfl, hx5⟩; obtain rfl := hx5.symm) | (go_at_call 101; have HX := l3Level_any b off cap xs (atN ns kb) _ hm ((unhide HW).below (unhide HBC) hB) (Nat.lt_of_lt_of_le hB (unhide HBC).size) (unhide HKB); refine HX.mono ?_; clear HX; rintro e w3 ⟨rfl, hb3⟩; replace HSC := hide ((unhide HSC).below hb3); replace HBC := hide ((unhide HBC).trans (hb3.mono (unhide HBC).size)); clear hb3) | (go_at_call 102; refine (specHole_any (atO xs j).s (atO xs j).k (atO xs j).l (atO xs j).sd true _ (unhide HSJ)).mono ?_; rintro e w4 ⟨rfl, hb4⟩; replace HSC := hide ((unhide HSC).below hb4); replace HBC := hide ((unhide HBC).trans (hb4.mono (unhide HBC).size)); clear hb4))
      all_goals go_wp2
      all_goals go_ret
      all_goals exact ⟨⟨_, rfl, (by unfold Says; rw [unhide HYN]; simp)⟩, unhide HBC⟩
end Go.Proofs.YtokabkhnidlcnabGreat

/-
  Kids of nodes that are laid one behind the other.
-/
namespace Go.Proofs.YtokabkhnidlcnabGreat
set_option maxRecDepth 100000
set_option linter.unusedSimpArgs false
set_option linter.unusedVariables false

theorem atN_app {a b : List NodeR} {i : Nat} (h : i < a.length) : atN (a ++ b) i = atN a i := by
  simp [atN, List.getD, List.getElem?_append, h]
theorem atN_end {a : List NodeR} {o : NodeR} {b : List NodeR} {i : Nat} (h : i = a.length) : atN (a ++ o :: b) i = o := by
  subst h
  simp [atN, List.getD, List.getElem?_append]

theorem levN_tN (xs : List OpR) (b : Nat) (t : ByteArray) (l r : ET) (s : Nat) : levN xs (tN b t l r s) = sLv xs (b, t) := rfl

/-- The root of a tree in a row. -/
theorem kid_last {xs : List OpR} {T : ET} (hg : GoodT xs T) (ns rest : List NodeR) {V : List NodeR} (hV : V = ns ++ nd T ns.length) :
    1 ≤ V.length ∧ levN xs (atN (V ++ rest) (V.length - 1)) = lvT xs T ∧ (3 ≤ (atN (V ++ rest) (V.length - 1)).k → (atN (V ++ rest) (V.length - 1)).k ≤ 5 → fnd xs (atN (V ++ rest) (V.length - 1)).t ((atN (V ++ rest) (V.length - 1)).k - 2) ≠ none) := by
  cases T with
  | nil => exact hg.elim
  | node b o t l r =>
    have e : V = (ns ++ nd l ns.length ++ nd r (ns.length + tsz l)) ++ [tN b t l r ns.length] := by
      rw [hV]; simp [nd]
    have hl : V.length = (ns ++ nd l ns.length ++ nd r (ns.length + tsz l)).length + 1 := by rw [e]; simp; omega
    have hat : atN (V ++ rest) (V.length - 1) = tN b t l r ns.length := by
      rw [atN_app (by omega)]
      have : V.length - 1 = (ns ++ nd l ns.length ++ nd r (ns.length + tsz l)).length := by omega
      rw [this]
      conv => lhs; rw [e]
      exact atN_end rfl
    rw [hat]
    refine ⟨by omega, levN_tN _ _ _ _ _ _, fun h3 h5 => ?_⟩
    have hk : knB xs (b, t) = true := by
      obtain ⟨rfl, h⟩ := hg
      simp only [tN] at h3 h5
      rcases h with ⟨h12, rfl, rfl⟩ | ⟨rfl, rfl, hl, rfl⟩ | ⟨h35, hk, hl, rfl, hh⟩ | ⟨rfl, hk, hl, hr, h1, h2⟩
      · omega
      · omega
      · exact hk
      · exact hk
    unfold knB at hk
    simp only [tN]
    intro e
    rw [e] at hk
    cases hk

theorem hole_sH {xs : List OpR} {q : Nat} {t : ByteArray} {j : Nat} (h : fnd xs t ((q : Int) - 2) = some j) (b : Bool) : holeO xs j b = sH xs (q, t) b := by
  unfold sH holeN
  simp only [rt]
  rw [h]

/-- A node with one kid fits. -/
theorem fit_one {xs : List OpR} {T : ET} {q : Nat} {t : ByteArray} {j : Nat} (hg : GoodT xs T) (hq : q = 3 ∨ q = 5) (hf : fnd xs t ((q : Int) - 2) = some j) (ns : List NodeR) {V : List NodeR} (hV : V = ns ++ nd T ns.length) :
    FitN xs (V ++ [⟨(q : Int), t, (V.length : Int) - 1, 0⟩]) V.length ↔ fitT xs q t T .nil = true := by
  obtain ⟨h1, h2, h3⟩ := kid_last hg ns [⟨(q : Int), t, (V.length : Int) - 1, 0⟩] hV
  have hat : atN (V ++ [(⟨(q : Int), t, (V.length : Int) - 1, 0⟩ : NodeR)]) V.length = ⟨(q : Int), t, (V.length : Int) - 1, 0⟩ := atN_end rfl
  have ho : isOpN (atN (V ++ [(⟨(q : Int), t, (V.length : Int) - 1, 0⟩ : NodeR)]) V.length) := by rw [hat]; unfold isOpN; simp only; omega
  rw [FitN_iff ho (by rw [hat]; exact hf), hat]
  simp only
  have e : ((V.length : Int) - 1).toNat = V.length - 1 := by omega
  rw [e, h2, hole_sH hf]
  unfold fitT
  have hk : kids (q : Int) = 1 := by rcases hq with rfl | rfl <;> rfl
  have h4 : q ≠ 4 := by omega
  simp [hk, h4]

/-- A node with two kids fits. -/
theorem fit_two {xs : List OpR} {L R : ET} {t : ByteArray} {j : Nat} (hgL : GoodT xs L) (hgR : GoodT xs R) (hf : fnd xs t 2 = some j) (ns : List NodeR) {V V2 : List NodeR} (hV : V = ns ++ nd L ns.length) (hV2 : V2 = V ++ nd R V.length) :
    FitN xs (V2 ++ [⟨4, t, (V.length : Int) - 1, (V2.length : Int) - 1⟩]) V2.length ↔ fitT xs 4 t L R = true := by
  obtain ⟨h1, h2, h3⟩ := kid_last hgL ns (nd R V.length ++ [⟨4, t, (V.length : Int) - 1, (V2.length : Int) - 1⟩]) hV
  obtain ⟨g1, g2, g3⟩ := kid_last hgR V [⟨4, t, (V.length : Int) - 1, (V2.length : Int) - 1⟩] hV2
  rw [← List.append_assoc, ← hV2] at h2
  have hat : atN (V2 ++ [(⟨4, t, (V.length : Int) - 1, (V2.length : Int) - 1⟩ : NodeR)]) V2.length = ⟨4, t, (V.length : Int) - 1, (V2.length : Int) - 1⟩ := atN_end rfl
  have ho : isOpN (atN (V2 ++ [(⟨4, t, (V.length : Int) - 1, (V2.length : Int) - 1⟩ : NodeR)]) V2.length) := by rw [hat]; unfold isOpN; simp only; omega
  have hf' : fnd xs t ((4 : Int) - 2) = some j := hf
  rw [FitN_iff ho (by rw [hat]; exact hf'), hat]
  simp only
  have e : ((V.length : Int) - 1).toNat = V.length - 1 := by omega
  have e2 : ((V2.length : Int) - 1).toNat = V2.length - 1 := by omega
  rw [e, e2, h2, g2, hole_sH (q := 4) hf', hole_sH (q := 4) hf']
  unfold fitT
  have hk : kids (4 : Int) = 2 := rfl
  simp [hk]
end Go.Proofs.YtokabkhnidlcnabGreat

/-
  The index of a table: its two maps.
-/
namespace Go.Proofs.YtokabkhnidlcnabGreat
set_option maxRecDepth 100000
open Go.RowKit Go.Maps

theorem laidOutT : laidOutB Tryz.prog = true := by kernel_rfl
theorem rowK : (135 : TypeId) < Tryz.prog.types.size := of_decide_eq_true (by kernel_rfl)
theorem wideK : (match Tryz.prog.underlying 135 with | some (.array _ _) | some (.struct _) => true | _ => false) = true := by kernel_rfl
theorem lawK : Keyed Tryz.prog 135 := Keyed.of_law (deep_law_laid laidOutT (m := 3) (by omega) rowK (by kernel_rfl) wideK)
theorem lawI : Keyed Tryz.prog 3 := int_keyed Tryz.underlying3
theorem keyTyK : Tryz.prog.keyType 135 = true := by kernel_rfl
theorem sizeTypes : Tryz.prog.types.size + 1 = (Tryz.prog.types.size - 1) + 1 + 1 := by
  have h : decide (1 ≤ Tryz.prog.types.size) = true := by kernel_rfl
  have := of_decide_eq_true h
  omega
theorem cellsK : Tryz.prog.cellsOf 135 = 2 := by kernel_rfl
theorem cells9 : Tryz.prog.cellsOf 9 = 1 := by kernel_rfl
theorem cells3 : Tryz.prog.cellsOf 3 = 1 := by kernel_rfl

/-- What a text and a kind read as, as a key. -/
def klO (s : ByteArray) (k : Int) : Lit := .string (keyBytes [.string s.data.toList, .int .i64 k])

theorem litsS {s : ByteArray} (hs : s.size ≤ maxLen) (d : Nat) : Tryz.prog.keyLits (d + 1) 9 [.string s] = some [.string s.data.toList] := by
  unfold Program.keyLits
  rw [Tryz.underlying9]
  exact if_pos hs

theorem litsI {k : Int} (hk : (Lit.int .i64 k).wf = true) (d : Nat) : Tryz.prog.keyLits (d + 1) 3 [.int .i64 k] = some [.int .i64 k] := by
  unfold Program.keyLits
  rw [Tryz.underlying3]
  exact if_pos ⟨rfl, hk⟩

theorem litsK {s : ByteArray} {k : Int} (hs : s.size ≤ maxLen) (hk : (Lit.int .i64 k).wf = true) (d : Nat) :
    Tryz.prog.keyLits (d + 1 + 1) 135 [.string s, .int .i64 k] = some [.string s.data.toList, .int .i64 k] := by
  conv => lhs; unfold Program.keyLits
  rw [Tryz.underlying135]
  simp [cellsK, cells9, cells3, litsS hs d, litsI hk d]

theorem keyK {s : ByteArray} {k : Int} (hs : s.size ≤ maxLen) (hk : (Lit.int .i64 k).wf = true) : keyOf Tryz.prog 135 (.agg #[.string s, .int .i64 k]) = some (klO s k) := by
  unfold keyOf
  rw [Tryz.underlying135]
  have hf : (Value.agg #[.string s, .int .i64 k]).formed Tryz.prog 135 = true := by simp [Value.formed, Tryz.underlying135, cellsK]
  have hl := litsK hs hk (Tryz.prog.types.size - 1)
  rw [← sizeTypes] at hl
  simp only [keyTyK, hf, Bool.and_self, if_true]
  show (Tryz.prog.keyLits (Tryz.prog.types.size + 1) 135 [.string s, .int .i64 k]).map _ = _
  rw [hl]
  rfl

theorem klO_inj {s t : ByteArray} {k k' : Int} (hs : s.size ≤ maxLen) (ht : t.size ≤ maxLen) (hk : (Lit.int .i64 k).wf = true) (hk' : (Lit.int .i64 k').wf = true) (h : klO s k = klO t k') : s = t ∧ k = k' := by
  have a := keyK hs hk
  have b := keyK ht hk'
  rw [← h] at b
  have := lawK.inj a b
  simpa using this

theorem keyI {l : Int} (h : (Lit.int .i64 l).wf = true) : keyOf Tryz.prog 3 (.int .i64 l) = some (.int .i64 l) := keyOf_int_mk Tryz.underlying3 h

/-- What is told of an operator in a map: all its fields. -/
def opDat (s : ByteArray) (k l sd : Int) : DataW Unit := .agg [.lit (.string s.data.toList), .lit (.int .i64 k), .lit (.int .i64 l), .lit (.int .i64 sd)]

/-- How an operator in a map reads. -/
def opElem (v : Value) : Option (DataW Unit × List MemPlace) :=
  match v with
  | .agg cs => match cs.toList with
    | [.string s, .int .i64 k, .int .i64 l, .int .i64 sd] => some (opDat s k l sd, [])
    | _ => none
  | _ => none

theorem opElem_mk (s : ByteArray) (k l sd : Int) : opElem (.agg #[.string s, .int .i64 k, .int .i64 l, .int .i64 sd]) = some (opDat s k l sd, []) := rfl

theorem opElem_inv {v : Value} {z : DataW Unit × List MemPlace} (h : opElem v = some z) : ∃ s k l sd, v = .agg #[.string s, .int .i64 k, .int .i64 l, .int .i64 sd] := by
  unfold opElem at h
  split at h
  · rename_i cs
    split at h
    · rename_i a b c d e
      obtain ⟨cs⟩ := cs
      simp only at e
      subst e
      exact ⟨_, _, _, _, rfl⟩
    · cases h
  · cases h

theorem opDat_inj {s s' : ByteArray} {k k' l l' sd sd' : Int} (h : opDat s k l sd = opDat s' k' l' sd') : s = s' ∧ k = k' ∧ l = l' ∧ sd = sd' := by
  unfold opDat at h
  simp only [DataW.agg.injEq, List.cons.injEq, DataW.lit.injEq, Lit.string.injEq, Lit.int.injEq, true_and, and_true] at h
  obtain ⟨h1, h2, h3, h4⟩ := h
  refine ⟨?_, h2, h3, h4⟩
  obtain ⟨⟨a⟩⟩ := s
  obtain ⟨⟨b⟩⟩ := s'
  simp only at h1
  rw [h1]

/-- What has been read is the operator that the data tell of. -/
theorem opElem_dat {v : Value} {s : ByteArray} {k l sd : Int} {ps : List MemPlace} (h : opElem v = some (opDat s k l sd, ps)) : v = .agg #[.string s, .int .i64 k, .int .i64 l, .int .i64 sd] := by
  obtain ⟨s', k', l', sd', rfl⟩ := opElem_inv h
  rw [opElem_mk] at h
  simp only [Option.some.injEq, Prod.mk.injEq] at h
  obtain ⟨rfl, rfl, rfl, rfl⟩ := opDat_inj h.1
  rfl

theorem zeroOp (w : World) : (zeroValue 104).run Tryz.prog w = .ok (.agg #[.string ⟨#[]⟩, .int .i64 0, .int .i64 0, .int .i64 0]) w := by kernel_rfl
theorem zeroInt (w : World) : (zeroValue 3).run Tryz.prog w = .ok (.int .i64 0) w := by kernel_rfl
end Go.Proofs.YtokabkhnidlcnabGreat
