import Derived.Maps.AppendAt
import Derived.Deep.MidRow
import Derived.Test.YtokabkhnidlcnaaL08
import Derived.Test.YtokabkhnidlcnaaL09

/-
  Walk: a table of which one operator is spoilt.
-/
namespace Go.Proofs.Ytokabkhnidlcnaa
set_option maxRecDepth 100000
set_option linter.unusedSimpArgs false
set_option linter.unusedVariables false
open Go.RowKit

set_option maxHeartbeats 8000000 in
theorem l1SpoilOne_any (rp cap p g c : Nat) (a : Option Addr) (bs : List UInt8) (xs : List OpR) (w : World) (h : RdS w rp a cap bs p) (hl : bs.length ≤ 1200) (hm : xs.length ≤ 10) (hx : Filled w g xs xs.length) (hne : rp < g) (hb : ¬ (nxt bs p % 8 = 7 ∨ xs.length = 0)) (hsx : ∀ i, i < xs.length → (atO xs i).s.size ≤ 1000) :
    Calls Try.prog 24 #[.pointer (some ⟨rp, 0, none⟩), .agg #[.slice (some ⟨g, 0, none⟩) xs.length c]] w fun e w' => (∃ g' c', e = .returned (.agg #[.slice (some ⟨g', 0, none⟩) (badT xs bs p).length c']) ∧ (g' = g ∨ w.heap.size ≤ g') ∧ Filled w' g' (badT xs bs p) (badT xs bs p).length) ∧ Hid (RdS w' rp a cap bs (badP xs bs p)) ∧ Hid (KeptRG w w' rp g) := by
  have hrpw := h.lt
  have hgw := hx.1
  have H := hide h
  clear h
  go_enter Try.func24, Try.ntmps24
  go_wp2_with fail
  refine (next_at rp cap p a bs _ (((unhide H).below (below1 _ _)).below (below1 _ _)) hl).mono ?_
  rintro e w1 ⟨⟨k, rfl, hk, HK⟩, H1, HP1⟩
  go_wp2_with fail
  refine (next_at rp cap _ a bs _ (unhide H1) hl).mono ?_
  rintro e w2 ⟨⟨v, rfl, hv, HV⟩, H2, HP2⟩
  have HP := hide ((unhide HP1).trans (unhide HP2))
  have z2 : w.heap.size + 2 ≤ w2.heap.size := by have := (unhide HP).size; simpa using this
  have b0 : w2.cell? ⟨w.heap.size, 0, none⟩ = some (.slice (some ⟨g, 0, none⟩) xs.length c) := ((unhide HP).cell (b := w.heap.size) (by simp; omega) (by omega) 0).trans (by simp [go_sem])
  have r0 : w2.cell? ⟨w.heap.size + 1, 0, none⟩ = some (.slice none 0 0) := ((unhide HP).cell (b := w.heap.size + 1) (by simp) (by omega) 0).trans (by simp [go_sem])
  have r1 : w2.frozen? ⟨w.heap.size + 1, 0, none⟩ = false := ((unhide HP).frozen (b := w.heap.size + 1) (by simp) (by omega) 0).trans (by simp [go_sem])
  have HW := hide (show Kept1 w w2 rp from ((Kept1.of_below ((below1 _ _).alloc (by simp) _))).trans (unhide HP))
  have HX := hide ((unhide HW).filled hx (by omega))
  clear H H1 HP1 HP2 HP hx
  have hlen : 1 ≤ xs.length := by omega
  have hk7 : k % 8 ≠ 7 := by have := unhide HK; omega
  have HB := hide hb
  clear hb
  obtain ⟨i, HI⟩ : ∃ i, Hid (i = v % xs.length) := ⟨_, hide rfl⟩
  have hi : i < xs.length := by rw [unhide HI]; exact Nat.mod_lt _ (by omega)
  have hiI : (i : Int) < (xs.length : Int) := by omega
  have hsi := hsx i hi
  clear hsx
  have emod : (v : Int) % (xs.length : Int) = (i : Int) := by rw [unhide HI]; exact (Int.natCast_emod v xs.length).symm
  have hl0 : ¬ (xs.length : Int) = 0 := by omega
  have hl0' : ((xs.length : Int) == 0) = false := by simpa using hl0
  have e7 : ((k : Int) % 8 == 7) = false := by simp; omega
  obtain ⟨x0, x1, x2, x3⟩ := (unhide HX).ops i hi
  simp only [Nat.zero_add] at x0 x1 x2 x3
  have hgw2 : g < w2.heap.size := (unhide HX).1
  obtain ⟨y0, y1, y2, y3⟩ : w2.frozen? ⟨g, i * 4, none⟩ = false ∧ w2.frozen? ⟨g, i * 4 + 1, none⟩ = false ∧ w2.frozen? ⟨g, i * 4 + 2, none⟩ = false ∧ w2.frozen? ⟨g, i * 4 + 3, none⟩ = false := by
    have h := (unhide HX).2.1
    have f : ∀ j, j < 4 → w2.frozen? ⟨g, i * 4 + j, none⟩ = false := fun j hj => by
      have := (h (i * 4 + j) (by omega)).2
      simpa using this
    exact ⟨f 0 (by omega), f 1 (by omega), f 2 (by omega), f 3 (by omega)⟩
  have hT : w.heap.size < w2.heap.size := by omega
  have hR : w.heap.size + 1 < w2.heap.size := by omega
  have n1 : ¬ g = w.heap.size := by omega
  have n2 : ¬ w.heap.size = g := by omega
  have n3 : ¬ g = w.heap.size + 1 := by omega
  have n4 : ¬ w.heap.size + 1 = g := by omega
  have n5 : ¬ w2.heap.size = g := by omega
  have n6 : ¬ g = w2.heap.size := by omega
  have hcase : k % 8 = 0 ∨ k % 8 = 1 ∨ k % 8 = 2 ∨ k % 8 = 3 ∨ k % 8 = 4 ∨ k % 8 = 5 ∨ k % 8 = 6 := by omega
  have HIX := hide (show badT xs bs p = xs.set i (badOp k (atO xs i) (drOp (nxt bs (adv bs (adv bs p))) (nxt bs (adv bs (adv bs (adv bs p)))) false)) by
    unfold badT
    rw [if_neg (unhide HB), ← unhide HV, ← unhide HI, ← unhide HK])
  rcases hcase with hc | hc | hc | hc | hc | hc | hc
  · have e8 : (k : Int) % 8 = 0 := by omega
    clear hk7 e7
    have HO := hide (show badOp k (atO xs i) (drOp (nxt bs (adv bs (adv bs p))) (nxt bs (adv bs (adv bs (adv bs p)))) false) = ⟨(⟨#[43, 45, 43, 45, 43, 45, 43, 45, 43, 45, 43, 45, 43, 45, 43, 45, 43]⟩ : ByteArray).extract 0 (16 + k / 8 % 2), (atO xs i).k, (atO xs i).l, (atO xs i).sd⟩ by simp [badOp, hc])
    have HPP := hide (show badP xs bs p = adv bs (adv bs p) by
      unfold badP
      rw [if_neg (unhide HB), if_neg (by rw [← unhide HK]; omega)])
    go_wp2_with fail
    rw [unhide HIX, unhide HPP, List.length_set, unhide HO]
    have hF := (unhide HX).put hi ⟨(⟨#[43, 45, 43, 45, 43, 45, 43, 45, 43, 45, 43, 45, 43, 45, 43, 45, 43]⟩ : ByteArray).extract 0 (16 + k / 8 % 2), (atO xs i).k, (atO xs i).l, (atO xs i).sd⟩
    rw [List.length_set] at hF
    refine bodyPost_ret (v := .agg #[.slice (some ⟨g, 0, none⟩) xs.length c]) ?res rfl ⟨⟨g, c, rfl, Or.inl rfl, ?_⟩, hide ?_, hide ?_⟩
    case res => simp [results, Try.results24, go_sem, r0, n3, n4, hR]
    · exact (hF.setCell ⟨w.heap.size + 1, 0, none⟩ _ (by simp; omega)).below (below1 _ _) (by simpa [World.setCells, World.setCell] using hgw2)
    · exact ((((((unhide H2).set g _ _ hne).set g _ _ hne).set g _ _ hne).set g _ _ hne).set (w.heap.size + 1) _ _ (by omega)).below (below1 _ _)
    · exact ((((((KeptRG.of1 (unhide HW)).setG _ _).setG _ _).setG _ _).setG _ _).setNew (b := w.heap.size + 1) _ _ (by omega)).below (below1 _ _)
  · have e8 : (k : Int) % 8 = 1 := by omega
    clear hk7 e7
    have HO := hide (show badOp k (atO xs i) (drOp (nxt bs (adv bs (adv bs p))) (nxt bs (adv bs (adv bs (adv bs p)))) false) = ⟨(atO xs i).s ++ ⟨#[UInt8.ofNat k]⟩, (atO xs i).k, (atO xs i).l, (atO xs i).sd⟩ by simp [badOp, hc])
    have HPP := hide (show badP xs bs p = adv bs (adv bs p) by
      unfold badP
      rw [if_neg (unhide HB), if_neg (by rw [← unhide HK]; omega)])
    have hcv : (convert 22 9 (.slice (some ⟨w2.heap.size + 1, 0, none⟩) 1 1)).run Try.prog ((w2.alloc (.cells #[.string (atO xs i).s, .int .i64 (atO xs i).k, .int .i64 (atO xs i).l, .int .i64 (atO xs i).sd] 48)).alloc (.cells #[.int .u8 (k : Int)] 5)) = .ok (.string ⟨#[UInt8.ofNat k]⟩) ((w2.alloc (.cells #[.string (atO xs i).s, .int .i64 (atO xs i).k, .int .i64 (atO xs i).l, .int .i64 (atO xs i).sd] 48)).alloc (.cells #[.int .u8 (k : Int)] 5)) := by
      have := conv1W (w2.alloc (.cells #[.string (atO xs i).s, .int .i64 (atO xs i).k, .int .i64 (atO xs i).l, .int .i64 (atO xs i).sd] 48)) (k : Int)
      simpa using this
    go_wp2_with fail
    rw [unhide HIX, unhide HPP, List.length_set, unhide HO]
    have hF := (unhide HX).put hi ⟨(atO xs i).s ++ ⟨#[UInt8.ofNat k]⟩, (atO xs i).k, (atO xs i).l, (atO xs i).sd⟩
    rw [List.length_set] at hF
    refine bodyPost_ret (v := .agg #[.slice (some ⟨g, 0, none⟩) xs.length c]) ?res rfl ⟨⟨g, c, rfl, Or.inl rfl, ?_⟩, hide ?_, hide ?_⟩
    case res =>
      have hR2 : w.heap.size + 1 < w2.heap.size + 1 := by omega
      have hR3 : w.heap.size < w2.heap.size := by omega
      simp [results, Try.results24, go_sem, r0, n3, n4, hR, hR2, hR3]
    · exact (hF.setCell ⟨w.heap.size + 1, 0, none⟩ _ (by simp; omega)).below ((below1 _ _).alloc (by simp) _) (by simpa [World.setCells, World.setCell] using hgw2)
    · exact ((((((unhide H2).set g _ _ hne).set g _ _ hne).set g _ _ hne).set g _ _ hne).set (w.heap.size + 1) _ _ (by omega)).below ((below1 _ _).alloc (by simp) _)
    · exact ((((((KeptRG.of1 (unhide HW)).setG _ _).setG _ _).setG _ _).setG _ _).setNew (b := w.heap.size + 1) _ _ (by omega)).below ((below1 _ _).alloc (by simp) _)
  · have e8 : (k : Int) % 8 = 2 := by omega
    clear hk7 e7
    have HO := hide (show badOp k (atO xs i) (drOp (nxt bs (adv bs (adv bs p))) (nxt bs (adv bs (adv bs (adv bs p)))) false) = ⟨⟨#[]⟩, (atO xs i).k, (atO xs i).l, (atO xs i).sd⟩ by simp [badOp, hc])
    have HPP := hide (show badP xs bs p = adv bs (adv bs p) by
      unfold badP
      rw [if_neg (unhide HB), if_neg (by rw [← unhide HK]; omega)])
    go_wp2_with fail
    rw [unhide HIX, unhide HPP, List.length_set, unhide HO]
    have hF := (unhide HX).put hi ⟨⟨#[]⟩, (atO xs i).k, (atO xs i).l, (atO xs i).sd⟩
    rw [List.length_set] at hF
    refine bodyPost_ret (v := .agg #[.slice (some ⟨g, 0, none⟩) xs.length c]) ?res rfl ⟨⟨g, c, rfl, Or.inl rfl, ?_⟩, hide ?_, hide ?_⟩
    case res => simp [results, Try.results24, go_sem, r0, n3, n4, hR]
    · exact (hF.setCell ⟨w.heap.size + 1, 0, none⟩ _ (by simp; omega)).below (below1 _ _) (by simpa [World.setCells, World.setCell] using hgw2)
    · exact ((((((unhide H2).set g _ _ hne).set g _ _ hne).set g _ _ hne).set g _ _ hne).set (w.heap.size + 1) _ _ (by omega)).below (below1 _ _)
    · exact ((((((KeptRG.of1 (unhide HW)).setG _ _).setG _ _).setG _ _).setG _ _).setNew (b := w.heap.size + 1) _ _ (by omega)).below (below1 _ _)
  · have e8 : (k : Int) % 8 = 3 := by omega
    clear hk7 e7
    have HO := hide (show badOp k (atO xs i) (drOp (nxt bs (adv bs (adv bs p))) (nxt bs (adv bs (adv bs (adv bs p)))) false) = ⟨(atO xs i).s, (atO xs i).k, 1001 * ((k / 8 % 2 : Nat) : Int), (atO xs i).sd⟩ by simp [badOp, hc])
    have HPP := hide (show badP xs bs p = adv bs (adv bs p) by
      unfold badP
      rw [if_neg (unhide HB), if_neg (by rw [← unhide HK]; omega)])
    go_wp2_with fail
    rw [unhide HIX, unhide HPP, List.length_set, unhide HO]
    have hF := (unhide HX).put hi ⟨(atO xs i).s, (atO xs i).k, 1001 * ((k / 8 % 2 : Nat) : Int), (atO xs i).sd⟩
    rw [List.length_set] at hF
    refine bodyPost_ret (v := .agg #[.slice (some ⟨g, 0, none⟩) xs.length c]) ?res rfl ⟨⟨g, c, rfl, Or.inl rfl, ?_⟩, hide ?_, hide ?_⟩
    case res => simp [results, Try.results24, go_sem, r0, n3, n4, hR]
    · exact (hF.setCell ⟨w.heap.size + 1, 0, none⟩ _ (by simp; omega)).below (below1 _ _) (by simpa [World.setCells, World.setCell] using hgw2)
    · exact ((((((unhide H2).set g _ _ hne).set g _ _ hne).set g _ _ hne).set g _ _ hne).set (w.heap.size + 1) _ _ (by omega)).below (below1 _ _)
    · exact ((((((KeptRG.of1 (unhide HW)).setG _ _).setG _ _).setG _ _).setG _ _).setNew (b := w.heap.size + 1) _ _ (by omega)).below (below1 _ _)
  · have e8 : (k : Int) % 8 = 4 := by omega
    clear hk7 e7
    have HO := hide (show badOp k (atO xs i) (drOp (nxt bs (adv bs (adv bs p))) (nxt bs (adv bs (adv bs (adv bs p)))) false) = ⟨(atO xs i).s, ((k / 8 % 5 : Nat) : Int), (atO xs i).l, (atO xs i).sd⟩ by simp [badOp, hc])
    have HPP := hide (show badP xs bs p = adv bs (adv bs p) by
      unfold badP
      rw [if_neg (unhide HB), if_neg (by rw [← unhide HK]; omega)])
    go_wp2_with fail
    rw [unhide HIX, unhide HPP, List.length_set, unhide HO]
    have hF := (unhide HX).put hi ⟨(atO xs i).s, ((k / 8 % 5 : Nat) : Int), (atO xs i).l, (atO xs i).sd⟩
    rw [List.length_set] at hF
    refine bodyPost_ret (v := .agg #[.slice (some ⟨g, 0, none⟩) xs.length c]) ?res rfl ⟨⟨g, c, rfl, Or.inl rfl, ?_⟩, hide ?_, hide ?_⟩
    case res => simp [results, Try.results24, go_sem, r0, n3, n4, hR]
    · exact (hF.setCell ⟨w.heap.size + 1, 0, none⟩ _ (by simp; omega)).below (below1 _ _) (by simpa [World.setCells, World.setCell] using hgw2)
    · exact ((((((unhide H2).set g _ _ hne).set g _ _ hne).set g _ _ hne).set g _ _ hne).set (w.heap.size + 1) _ _ (by omega)).below (below1 _ _)
    · exact ((((((KeptRG.of1 (unhide HW)).setG _ _).setG _ _).setG _ _).setG _ _).setNew (b := w.heap.size + 1) _ _ (by omega)).below (below1 _ _)
  · have e8 : (k : Int) % 8 = 5 := by omega
    clear hk7 e7
    have HO := hide (show badOp k (atO xs i) (drOp (nxt bs (adv bs (adv bs p))) (nxt bs (adv bs (adv bs (adv bs p)))) false) = ⟨(atO xs i).s, (atO xs i).k, (atO xs i).l, ((k / 8 % 5 : Nat) : Int) - 1⟩ by simp [badOp, hc])
    have HPP := hide (show badP xs bs p = adv bs (adv bs p) by
      unfold badP
      rw [if_neg (unhide HB), if_neg (by rw [← unhide HK]; omega)])
    go_wp2_with fail
    rw [unhide HIX, unhide HPP, List.length_set, unhide HO]
    have hF := (unhide HX).put hi ⟨(atO xs i).s, (atO xs i).k, (atO xs i).l, ((k / 8 % 5 : Nat) : Int) - 1⟩
    rw [List.length_set] at hF
    refine bodyPost_ret (v := .agg #[.slice (some ⟨g, 0, none⟩) xs.length c]) ?res rfl ⟨⟨g, c, rfl, Or.inl rfl, ?_⟩, hide ?_, hide ?_⟩
    case res => simp [results, Try.results24, go_sem, r0, n3, n4, hR]
    · exact (hF.setCell ⟨w.heap.size + 1, 0, none⟩ _ (by simp; omega)).below (below1 _ _) (by simpa [World.setCells, World.setCell] using hgw2)
    · exact ((((((unhide H2).set g _ _ hne).set g _ _ hne).set g _ _ hne).set g _ _ hne).set (w.heap.size + 1) _ _ (by omega)).below (below1 _ _)
    · exact ((((((KeptRG.of1 (unhide HW)).setG _ _).setG _ _).setG _ _).setG _ _).setNew (b := w.heap.size + 1) _ _ (by omega)).below (below1 _ _)
  · have e8 : (k : Int) % 8 = 6 := by omega
    clear hk7 e7
    have HPP := hide (show badP xs bs p = adv bs (adv bs (adv bs (adv bs p))) by
      unfold badP
      rw [if_neg (unhide HB), if_pos (by rw [← unhide HK]; omega)])
    go_wp2_with fail
    refine (l1DrawOp_any rp cap _ false a bs _ ((unhide H2).below (below1 _ _)) hl).mono ?_
    rintro e w4 ⟨⟨o, rfl, ho⟩, H4, HK4⟩
    have HO := hide (show badOp k (atO xs i) (drOp (nxt bs (adv bs (adv bs p))) (nxt bs (adv bs (adv bs (adv bs p)))) false) = o by rw [unhide ho]; simp [badOp, hc])
    have z4 : w2.heap.size + 1 ≤ w4.heap.size := by have := (unhide HK4).size; simpa using this
    have kc : ∀ b j, b < w2.heap.size → b ≠ rp → w4.cell? ⟨b, j, none⟩ = w2.cell? ⟨b, j, none⟩ := fun b j hb hr => ((unhide HK4).cell (b := b) (by simp; omega) hr j).trans ((below1 _ _).cell (p := ⟨b, j, none⟩) hb)
    have kf : ∀ b j, b < w2.heap.size → b ≠ rp → w4.frozen? ⟨b, j, none⟩ = w2.frozen? ⟨b, j, none⟩ := fun b j hb hr => ((unhide HK4).frozen (b := b) (by simp; omega) hr j).trans ((below1 _ _).frozen (p := ⟨b, j, none⟩) hb)
    have X0 := (kc g (i * 4) hgw2 (by omega)).trans x0
    have X1 := (kc g (i * 4 + 1) hgw2 (by omega)).trans x1
    have X2 := (kc g (i * 4 + 2) hgw2 (by omega)).trans x2
    have X3 := (kc g (i * 4 + 3) hgw2 (by omega)).trans x3
    have Y0 := (kf g (i * 4) hgw2 (by omega)).trans y0
    have Y1 := (kf g (i * 4 + 1) hgw2 (by omega)).trans y1
    have Y2 := (kf g (i * 4 + 2) hgw2 (by omega)).trans y2
    have Y3 := (kf g (i * 4 + 3) hgw2 (by omega)).trans y3
    have B0 := (kc w.heap.size 0 (by omega) (by omega)).trans b0
    have R0 := (kc (w.heap.size + 1) 0 (by omega) (by omega)).trans r0
    have R1 := (kf (w.heap.size + 1) 0 (by omega) (by omega)).trans r1
    have o0 : w4.cell? ⟨w2.heap.size, 0, none⟩ = some (.string (atO xs i).s) := ((unhide HK4).cell (b := w2.heap.size) (by simp) (by omega) 0).trans (by simp [go_sem])
    have o1 : w4.cell? ⟨w2.heap.size, 1, none⟩ = some (.int .i64 (atO xs i).k) := ((unhide HK4).cell (b := w2.heap.size) (by simp) (by omega) 1).trans (by simp [go_sem])
    have o2 : w4.cell? ⟨w2.heap.size, 2, none⟩ = some (.int .i64 (atO xs i).l) := ((unhide HK4).cell (b := w2.heap.size) (by simp) (by omega) 2).trans (by simp [go_sem])
    have o3 : w4.cell? ⟨w2.heap.size, 3, none⟩ = some (.int .i64 (atO xs i).sd) := ((unhide HK4).cell (b := w2.heap.size) (by simp) (by omega) 3).trans (by simp [go_sem])
    have f0 : w4.frozen? ⟨w2.heap.size, 0, none⟩ = false := ((unhide HK4).frozen (b := w2.heap.size) (by simp) (by omega) 0).trans (by simp [go_sem])
    have f1 : w4.frozen? ⟨w2.heap.size, 1, none⟩ = false := ((unhide HK4).frozen (b := w2.heap.size) (by simp) (by omega) 1).trans (by simp [go_sem])
    have f2 : w4.frozen? ⟨w2.heap.size, 2, none⟩ = false := ((unhide HK4).frozen (b := w2.heap.size) (by simp) (by omega) 2).trans (by simp [go_sem])
    have f3 : w4.frozen? ⟨w2.heap.size, 3, none⟩ = false := ((unhide HK4).frozen (b := w2.heap.size) (by simp) (by omega) 3).trans (by simp [go_sem])
    have n7 : ¬ w2.heap.size = w.heap.size := by omega
    have n8 : ¬ w.heap.size = w2.heap.size := by omega
    have n9 : ¬ w2.heap.size = w.heap.size + 1 := by omega
    have n10 : ¬ w.heap.size + 1 = w2.heap.size := by omega
    clear kc kf
    go_wp2_with fail
    rw [unhide HIX, unhide HPP, List.length_set, unhide HO]
    have hX4 : Filled w4 g xs xs.length := (unhide HK4).filled ((unhide HX).below (below1 _ _) hgw2) (by omega)
    have hF := ((((hX4.setCell ⟨w2.heap.size, 0, none⟩ (.string o.s) (by simp; omega)).setCell ⟨w2.heap.size, 1, none⟩ (.int .i64 o.k) (by simp; omega)).setCell ⟨w2.heap.size, 2, none⟩ (.int .i64 o.l) (by simp; omega)).setCell ⟨w2.heap.size, 3, none⟩ (.int .i64 o.sd) (by simp; omega)).put hi o
    rw [List.length_set] at hF
    refine bodyPost_ret (v := .agg #[.slice (some ⟨g, 0, none⟩) xs.length c]) ?res rfl ⟨⟨g, c, rfl, Or.inl rfl, ?_⟩, hide ?_, hide ?_⟩
    case res => simp [results, Try.results24, go_sem, R0, n3, n4, n9, n10]
    · exact hF.setCell ⟨w.heap.size + 1, 0, none⟩ _ (by simp; omega)
    · exact (((((((((unhide H4).set w2.heap.size _ _ (by omega)).set w2.heap.size _ _ (by omega)).set w2.heap.size _ _ (by omega)).set w2.heap.size _ _ (by omega)).set g _ _ hne).set g _ _ hne).set g _ _ hne).set g _ _ hne).set (w.heap.size + 1) _ _ (by omega)
    · exact (((((((((((KeptRG.of1 (unhide HW)).below (below1 _ _)).step (unhide HK4)).setNew (b := w2.heap.size) _ _ (by omega)).setNew (b := w2.heap.size) _ _ (by omega)).setNew (b := w2.heap.size) _ _ (by omega)).setNew (b := w2.heap.size) _ _ (by omega)).setG _ _).setG _ _).setG _ _).setG _ _).setNew (b := w.heap.size + 1) _ _ (by omega)
end Go.Proofs.Ytokabkhnidlcnaa

/-
  A row of bytes made of a text, and one byte put behind it.
-/
namespace Go.Proofs.Ytokabkhnidlcnaa
set_option maxRecDepth 100000
set_option linter.unusedSimpArgs false
set_option linter.unusedVariables false
open Go.RowKit

/-- A row of bytes that belongs to the call: its cells may be written, up to its capacity. -/
def RowY (w : World) (B : Nat) (v : Value) (l : List UInt8) : Prop :=
  ∃ g cap, v = .slice (some ⟨g, 0, none⟩) l.length cap ∧ B ≤ g ∧ g < w.heap.size ∧ l.length ≤ cap ∧ cap ≤ maxLen ∧ (∀ j, j < cap → (w.cell? ⟨g, j, none⟩).isSome = true ∧ w.frozen? ⟨g, j, none⟩ = false) ∧ ∀ j u, (cellsB l)[j]? = some u → w.cell? ⟨g, j, none⟩ = some u

theorem RowY.below {w w' : World} {B : Nat} {v : Value} {l : List UInt8} (h : RowY w B v l) (hb : Below w.heap.size w w') : RowY w' B v l := by
  obtain ⟨g, cap, rfl, h1, h2, h3, h4, h5, h6⟩ := h
  refine ⟨g, cap, rfl, h1, Nat.lt_of_lt_of_le h2 hb.size, h3, h4, fun j hj => ?_, fun j u hj => (hb.cell (p := ⟨g, j, none⟩) h2).trans (h6 j u hj)⟩
  have c := hb.cell (p := ⟨g, j, none⟩) h2
  have f := hb.frozen (p := ⟨g, j, none⟩) h2
  exact ⟨by rw [c]; exact (h5 j hj).1, by rw [f]; exact (h5 j hj).2⟩

/-- '[]byte(s)', as a row of its own. -/
theorem conv_row (W : World) (s : ByteArray) (hs : s.size ≤ 100000000) : ∃ (v : Value) (W' : World), (convert 9 22 (.string s)).run Try.prog W = .ok v W' ∧ RowY W' W.heap.size v s.data.toList ∧ Below W.heap.size W W' := by
  have hr := run_bytes_of_string (P := Try.prog) W 9 22 5 s Try.underlying9 Try.underlying22 Try.underlying5
  have hsl : s.data.toList.length = s.size := by simp
  have hge := grownCap_ge W s.size 0 5
  have hnew := heap_alloc_new W.drew (.cells (bytesRow s (grownCap W s.size 0 5)) 5 ((bytesRow s (grownCap W s.size 0 5)).size, (bytesRow s (grownCap W s.size 0 5)).size + 1))
  have hsz : (bytesRow s (grownCap W s.size 0 5)).size = grownCap W s.size 0 5 := by
    unfold bytesRow
    simp
    have : s.data.size = s.size := rfl
    omega
  refine ⟨_, _, hr, ⟨W.heap.size, grownCap W s.size 0 5, by rw [hsl], Nat.le_refl _, by simp, by rw [hsl]; exact hge, grownCap_le_maxLen W s.size 0 5 (by unfold maxLen; omega), fun j hj => ⟨?_, ?_⟩, fun j u hj => ?_⟩, (Below.refl _ _).drew.alloc (Nat.le_refl _) _⟩
  · rw [cell_of_row _ W.heap.size j _ 5 _ hnew]
    simp [hsz, hj]
  · have hn : (W.drew.alloc (.cells (bytesRow s (grownCap W s.size 0 5)) 5 ((bytesRow s (grownCap W s.size 0 5)).size, (bytesRow s (grownCap W s.size 0 5)).size + 1))).heap[W.heap.size]? = _ := hnew
    unfold World.frozen?
    simp only [hn]
    rw [hsz]
    simp
    omega
  · rw [cell_of_row _ W.heap.size j _ 5 _ hnew]
    have hlt : j < s.data.size := by
      have := (List.getElem?_eq_some_iff.1 hj).1
      rw [cellsB_len] at this
      simpa using this
    rw [bytesRow_at s _ j hlt]
    simp [cellsB] at hj
    obtain ⟨x, hx, rfl⟩ := hj
    rw [Array.getElem?_eq_getElem hlt] at hx
    injection hx with hx
    subst hx
    rfl

/-- One byte behind it. -/
theorem run_app1 (w : World) (ty : TypeId) (B : Nat) (v : Value) (l : List UInt8) (b : UInt8) (h : RowY w B v l) (hB : B ≤ w.heap.size) (ad : Addr) (hx : w.cell? (ad.add 0) = some (.int .u8 (b.toNat : Int))) (hl : l.length ≤ 1000000) :
    ∃ v' w', (Builtin.append_ #[22, 22] ty #[v, .slice (some ad) 1 1]).run Try.prog w = .ok v' w' ∧ RowY w' B v' (l ++ [b]) ∧ Below B w w' := by
  obtain ⟨g, cap, rfl, h1, h2, h3, h4, h5, h6⟩ := h
  obtain ⟨i, hi, hz⟩ := Option.map_eq_some_iff.1 infoByte
  simp only [Prod.mk.injEq] at hz
  obtain ⟨hz0, hz1, hz2⟩ := hz
  have hnews : ∀ j u, ([.int .u8 (b.toNat : Int)] : List Value)[j]? = some u → w.cell? (ad.add j) = some u := fun j u hj => by
    match j, hj with
    | 0, hj => simp at hj; subst hj; exact hx
  have hbl : (l ++ [b]).length = l.length + 1 := by simp
  by_cases hroom : l.length + 1 ≤ cap
  · have hf := run_firstCells_some (P := Try.prog) w i.size 1 ad 1 1 [.int .u8 (b.toNat : Int)] (by rw [hz1]; rfl) hnews
    obtain ⟨c1, c2⟩ := h5 l.length (by omega)
    obtain ⟨u0, hu0⟩ := Option.isSome_iff_exists.1 c1
    have hadd : (⟨g, l.length, none⟩ : Addr).add 0 = ⟨g, l.length, none⟩ := by unfold Addr.add; split <;> simp_all
    have hst : (storeCells ⟨g, l.length, none⟩ [.int .u8 (b.toNat : Int)] 0).run Try.prog w = .ok () (w.setCell ⟨g, l.length, none⟩ (.int .u8 (b.toNat : Int))) := by
      simp only [storeCells, Sem.run_bind]
      rw [hadd, run_store Try.prog w _ _ _ rfl, hu0]
      simp [c2]
    refine ⟨.slice (some ⟨g, 0, none⟩) (l.length + 1) cap, w.setCell ⟨g, l.length, none⟩ (.int .u8 (b.toNat : Int)), ?_, ?_, (Below.refl _ _).setCell (by simpa using h1) _⟩
    · rw [hz1] at hf
      simp [Builtin.append_, run_underlying Try.underlying22, sizeOf, typeInfo, hi, hz1, Builtin.lenOf, hroom, hf, Addr.add_lit, hst]
    · refine ⟨g, cap, by rw [hbl], h1, by simpa [World.setCell] using h2, by rw [hbl]; exact hroom, h4, fun j hj => ?_, fun j u hj => ?_⟩
      · refine ⟨?_, (World.frozen?_setCell _ _ _ _).trans (h5 j hj).2⟩
        by_cases e : j = l.length
        · subst e; rw [World.cell?_setCell_same _ _ _ hu0]; rfl
        · rw [World.cell?_setCell_other _ _ _ _ (fun x => e (by injection x with _ x; exact x.symm))]; exact (h5 j hj).1
      · rw [cellsB_append] at hj
        by_cases e : j = l.length
        · subst e
          rw [World.cell?_setCell_same _ _ _ hu0]
          rw [List.getElem?_append_right (by rw [cellsB_len]; exact Nat.le_refl _), cellsB_len, Nat.sub_self] at hj
          simpa [cellsB] using hj
        · rw [World.cell?_setCell_other _ _ _ _ (fun x => e (by injection x with _ x; exact x.symm))]
          apply h6
          have hjl : j < l.length + 1 := by
            have := (List.getElem?_eq_some_iff.1 hj).1
            simpa [cellsB_len] using this
          rw [List.getElem?_append_left (by rw [cellsB_len]; omega)] at hj
          exact hj
  · have holds : ∀ j u, (cellsB l)[j]? = some u → w.cell? ((⟨g, 0, none⟩ : Addr).add j) = some u := fun j u hj => by
      rw [Addr.add_mid, Nat.zero_add]; exact h6 j u hj
    have hr := run_append_grow (P := Try.prog) w 22 ty 5 i _ Try.underlying22 hi hz0 ⟨g, 0, none⟩ l.length cap (cellsB l) (by rw [cellsB_len, hz1, Nat.mul_one]) holds ad 1 1 [.int .u8 (b.toNat : Int)] (by rw [hz1]; rfl) hnews (by omega) (by omega) (growslice_fits (by omega) (by rw [hz2]; omega))
    have hge := grownCap_ge w (l.length + 1) cap 5
    have hnew := heap_alloc_new w.drew (.cells ((cellsB l).toArray ++ [Value.int .u8 (b.toNat : Int)].toArray ++ Builtin.zeroCells (Value.int .u8 0).cells (grownCap w (l.length + 1) cap 5 - (l.length + 1))) 5)
    refine ⟨_, _, hr, ⟨w.heap.size, grownCap w (l.length + 1) cap 5, by rw [hbl], hB, by simp, by rw [hbl]; exact hge, grownCap_le_maxLen w (l.length + 1) cap 5 (by unfold maxLen; omega), fun j hj => ⟨?_, frozen_of_row _ _ _ _ _ hnew⟩, fun j u hj => ?_⟩, ((Below.refl _ _).drew.alloc (Nat.le_refl _) _).mono hB⟩
    · rw [cell_of_row _ w.heap.size j _ 5 _ hnew]
      have : j < ((cellsB l).toArray ++ [Value.int .u8 (b.toNat : Int)].toArray ++ Builtin.zeroCells (Value.int .u8 0).cells (grownCap w (l.length + 1) cap 5 - (l.length + 1))).size := by
        simp [size_zeroCells, cellsB_len, Value.cells]
        omega
      rw [Array.getElem?_eq_getElem this]
      rfl
    · rw [cell_of_row _ w.heap.size j _ 5 _ hnew]
      rw [cellsB_append] at hj
      have hjl : j < l.length + 1 := by
        have := (List.getElem?_eq_some_iff.1 hj).1
        simpa [cellsB_len] using this
      rw [Array.getElem?_append_left (by simp [cellsB_len]; omega)]
      have e : (cellsB l).toArray ++ [Value.int .u8 (b.toNat : Int)].toArray = (cellsB l ++ cellsB [b]).toArray := by simp [cellsB]
      rw [e]
      simpa using hj

theorem wpList_app1 {ops : Array Oper} {rest : List Oper} {o : Oper} {a : Act} {Q : Exit → Act → World → Prop} {w : World} (hgd : o.guard = none) (s x : Operand)
    (ho : o.op = .call { callee := .builtin .append, args := #[s, x], argTypes := #[22, 22] })
    (B : Nat) (v : Value) (l : List UInt8) (b : UInt8) (hs : a.eval s = v) (hown : RowY w B v l) (hB : B ≤ w.heap.size) (ad : Addr) (hx : a.eval x = .slice (some ad) 1 1) (hc : w.cell? (ad.add 0) = some (.int .u8 (b.toNat : Int))) (hl : l.length ≤ 1000000)
    (h : ∀ v' w', RowY w' B v' (l ++ [b]) → Below B w w' → wpList Try.prog ops Q rest (a.put o.dst v') w') : wpList Try.prog ops Q (o :: rest) a w := by
  refine wpList_plain hgd fun K hK => ?_
  obtain ⟨v', w', hr, h2, h3⟩ := run_app1 w o.type B v l b hown hB ad hc hl
  unfold Oper.wp execOp
  simp only [ho, resolve, invoke, builtin, Sem.run_bind, Sem.run_pure, Result.andThen_ok, List.map_toArray, List.map_cons, List.map_nil, hs, hx, hr]
  exact hK _ _ (h v' w' h2 h3)
end Go.Proofs.Ytokabkhnidlcnaa
