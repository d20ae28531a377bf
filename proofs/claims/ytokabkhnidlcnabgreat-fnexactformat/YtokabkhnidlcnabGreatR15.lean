import Derived.Deep.AppendLies
import Derived.Deep.RegionHeldLaw
import Derived.Test.YtokabkhnidlcnabGreatR05
import Derived.Test.YtokabkhnidlcnabGreatR08
import Derived.Test.YtokabkhnidlcnabGreatR09
import Derived.Test.YtokabkhnidlcnabGreatR11

/-
  Walk: the specification's Render.
-/
namespace Go.Proofs.YtokabkhnidlcnabGreat
set_option maxRecDepth 100000
open Go.RowKit

set_option maxRecDepth 100000 in
set_option maxHeartbeats 4000000 in
theorem specRender_any (b off cap : Nat) (xs : List TokR) (w : World) (hm : xs.length + totToT xs xs.length ≤ 1048576) (hw : OpsT w b off xs) (hB : b < w.heap.size) :
    Calls Tryz.prog 55 #[.slice (some ⟨b, off, none⟩) xs.length cap] w fun e w' => e = .returned (.string ⟨(rendTo xs xs.length).toArray⟩) ∧ Below w.heap.size w w' := by
  obtain ⟨i0, hi, hz0, hz1, hz2⟩ := info_parts infoByte
  have HI := hide hi
  have HZ := hide (And.intro hz0 (And.intro hz1 hz2))
  have HW := hide hw
  have HO := hide (show (w.alloc (.cells #[] 5)).ownsRow w.heap.size 5 1 (.slice (some ⟨w.heap.size, 0, none⟩) 0 0) 0 (cellsB (rendTo xs 0)) by
    show (w.alloc (.cells #[] 5)).ownsRow w.heap.size 5 1 (.slice (some ⟨w.heap.size, 0, none⟩) 0 0) 0 []
    simpa using World.ownsRow_lit (base := w.heap.size) (e := 5) (size := 1) w #[] 0 (Nat.le_refl _) (Nat.zero_le _) rfl)
  clear hi hz0 hz1 hz2 hw
  go_enter Tryz.func55, Tryz.ntmps55
  go_wp2
  go_loopw [3, 4] (fun out i wr => ∃ (k go co n : Nat), k ≤ xs.length ∧ i = .int .i64 (k : Int) ∧ out = .slice (some ⟨go, 0, none⟩) n co ∧ Hid (n = (rendTo xs k).length) ∧ Hid (wr.ownsRow w.heap.size 5 1 (.slice (some ⟨go, 0, none⟩) n co) n (cellsB (rendTo xs k))) ∧ Below w.heap.size w wr) (fun _ i _ => xs.length - (intOf i).toNat)
  case atStart => exact ⟨0, w.heap.size, 0, 0, Nat.zero_le _, rfl, rfl, hide rfl, HO, below1 _ _⟩
  case round =>
    clear HO
    obtain ⟨k, go, co, n, hk, rfl, rfl, hn, hown, hbel⟩ := hrel
    by_cases hlt : k < xs.length
    · have hcell := ((unhide HW) k hlt).below hbel hB
      obtain ⟨a0, a1, a2⟩ := hcell
      have hnn := (unhide hn).trans (rend_len xs k)
      have htk : totToT xs (k + 1) ≤ totToT xs xs.length := tot_mono xs _ _ (by omega)
      simp only [totToT, totT] at htk
      obtain ⟨c1, w1, hrun1, hnew1, hb1⟩ := conv_bytes wr (atT xs k).g
      have HN1 := hide hnew1
      have HB1 := hide hb1
      have b2 := (hb1.cell (p := ⟨b, off + k * 3 + 2, none⟩) (Nat.lt_of_lt_of_le hB hbel.size)).trans a2
      have hown1 := hide ((unhide hown).kept (grown_bel hb1 none) (Or.inr (by simp [Value.ownBlock])))
      have hbel1 := hbel.trans (hb1.mono hbel.size)
      have HNN := hide hnn
      have hnb : n + (atT xs k).g.size + (atT xs k).t.size ≤ 1048576 := by omega
      clear hnew1 hb1 hown hnn htk hbel a2
      go_wp2_with (at_builtin; refine wpList_append_own _ rfl (.tmp 12) (.tmp 18) 87 rfl w.heap.size 5 i0 _ 1 1 Tryz.underlying87 (unhide HI) (unhide HZ).1 (unhide HZ).2.1 (unhide HZ).2.2 rfl (by decide) _ n (cellsB (rendTo xs k)) rfl (unhide hown1) ⟨wr.heap.size, 0, none⟩ (atT xs k).g.size c1 (cellsB (atT xs k).g.data.toList) rfl (by rw [cellsB_len]; simp) (unhide HN1) (cellsB_one _) ?b1 ?b2 ?b3 ?next)
      case b1 => unfold maxLen; omega
      case b2 => omega
      case b3 => exact hbel1.size
      case next =>
        intro v2 w2 hown2 hgrow2 hnil2
        have hgo := (unhide hown1).lt go rfl
        have hbel2 : Below w.heap.size w w2 := hbel1.grown hgrow2 hbel1.size (fun q hq => by simp [Value.ownBlock] at hq; omega)
        obtain ⟨g2, q2, rfl⟩ := owns_bval hown2 (by simp [hnil2])
        rw [← cellsB_append] at hown2
        have d2 : w2.cell? ⟨b, off + k * 3 + 2, none⟩ = some (.string (atT xs k).t) := hgrow2.cell b2 (by simp [Value.ownBlock]; omega)
        obtain ⟨c3, w3, hrun3, hnew3, hb3⟩ := conv_bytes w2 (atT xs k).t
        have HN3 := hide hnew3
        have hown3 := hide (hown2.kept (grown_bel hb3 none) (Or.inr (by simp [Value.ownBlock])))
        have hbel3 := hbel2.trans (hb3.mono hbel2.size)
        clear hown2 hgrow2 hnil2 hown1 HN1 HB1 hnew3 hb3 b2 hrun1 a0 a1
        go_wp2_with (at_builtin; refine wpList_append_own _ rfl (.tmp 20) (.tmp 26) 87 rfl w.heap.size 5 i0 _ 1 1 Tryz.underlying87 (unhide HI) (unhide HZ).1 (unhide HZ).2.1 (unhide HZ).2.2 rfl (by decide) _ (n + (atT xs k).g.size) _ rfl (unhide hown3) ⟨w2.heap.size, 0, none⟩ (atT xs k).t.size c3 (cellsB (atT xs k).t.data.toList) rfl (by rw [cellsB_len]; simp) (unhide HN3) (cellsB_one _) ?b1 ?b2 ?b3 ?next)
        case b1 => unfold maxLen; omega
        case b2 => omega
        case b3 => exact hbel3.size
        case next =>
          intro v4 w4 hown4 hgrow4 hnil4
          have hg2 := (unhide hown3).lt g2 rfl
          have hbel4 : Below w.heap.size w w4 := hbel3.grown hgrow4 hbel3.size (fun q hq => by simp [Value.ownBlock] at hq; omega)
          obtain ⟨g4, q4, rfl⟩ := owns_bval hown4 (by simp [hnil4])
          rw [← cellsB_append] at hown4
          have HO4 := hide (show w4.ownsRow w.heap.size 5 1 (.slice (some ⟨g4, 0, none⟩) (n + (atT xs k).g.size + (atT xs k).t.size) q4) (n + (atT xs k).g.size + (atT xs k).t.size) (cellsB (rendTo xs (k + 1))) from hown4)
          have HL4 := hide (show n + (atT xs k).g.size + (atT xs k).t.size = (rendTo xs (k + 1)).length by rw [rend_len]; have := unhide HNN; simp only [totToT, totT]; omega)
          clear hown4 hgrow4 hnil4 hown3 HN3 HNN hn
          go_wp2
          exact ⟨⟨k + 1, g4, q4, _, by omega, by go_num, rfl, HL4, HO4, hbel4⟩, by simp [intOf]; omega⟩
    · have hkx : k = xs.length := by omega
      have hcv := conv_string wr go n co (rendTo xs k) (unhide hn) (owns_bcells (unhide hown))
      have HK := hide hkx
      clear hkx
      go_wp2
      go_ret
      exact ⟨ret_str (by rw [unhide HK]), hbel⟩
end Go.Proofs.YtokabkhnidlcnabGreat

/-
  Walks: the specification's longest token.
-/
namespace Go.Proofs.YtokabkhnidlcnabGreat
set_option maxRecDepth 100000
open Go.RowKit

/-- Each operator is of one of the three kinds. -/
def Kinds (xs : List OpR) : Prop := ∀ j, j < xs.length → ((atO xs j).k = 1 ∨ (atO xs j).k = 2 ∨ (atO xs j).k = 3)

theorem kinds_of {xs : List OpR} (h : okTo xs xs.length) : Kinds xs := fun j hj => by
  obtain ⟨_, h⟩ := ok_shape _ _ _ _ (h j hj)
  omega

theorem opT_kinds {xs : List OpR} {t : ByteArray} (h : Kinds xs) : opT xs t ↔ ((∃ j, j < xs.length ∧ (atO xs j).s = t ∧ (atO xs j).k = 1) ∨ (∃ j, j < xs.length ∧ (atO xs j).s = t ∧ (atO xs j).k = 2) ∨ (∃ j, j < xs.length ∧ (atO xs j).s = t ∧ (atO xs j).k = 3)) := by
  constructor
  · rintro ⟨j, hj, e⟩
    rcases h j hj with k | k | k
    · exact Or.inl ⟨j, hj, e, k⟩
    · exact Or.inr (Or.inl ⟨j, hj, e, k⟩)
    · exact Or.inr (Or.inr ⟨j, hj, e, k⟩)
  · rintro (⟨j, hj, e, _⟩ | ⟨j, hj, e, _⟩ | ⟨j, hj, e, _⟩)
    · exact ⟨j, hj, e⟩
    · exact ⟨j, hj, e⟩
    · exact ⟨j, hj, e⟩

set_option maxHeartbeats 1000000 in
theorem l2IsOp_any (b off cap : Nat) (xs : List OpR) (t : ByteArray) (w : World) (hm : xs.length ≤ 1048576) (hw : Ops w b off xs) (hB : b < w.heap.size) (hk : Kinds xs) :
    Calls Tryz.prog 96 #[.agg #[.slice (some ⟨b, off, none⟩) xs.length cap], .string t] w fun e w' => RetB e (opT xs t) ∧ Below w.heap.size w w' := by
  have HK := hide (opT_kinds (t := t) hk)
  have HW := hide hw
  clear hk hw
  go_enter Tryz.func96, Tryz.ntmps96
  go_wp2_with fail
  refine (l2Find_any b off cap xs t 1 _ hm ((unhide HW).below (below1 _ _) hB) (by simp; omega)).mono ?_
  rintro e w1 ⟨⟨r1, rfl, hr1⟩, hb1⟩
  have z1 : w.heap.size < w1.heap.size := by have := hb1.size; simp at this; omega
  have c1 : w1.cell? ⟨w.heap.size, 0, none⟩ = some (.slice (some ⟨b, off, none⟩) xs.length cap) := by rw [hb1.cell (p := ⟨w.heap.size, 0, none⟩) (by simp)]; simp [go_sem]
  have bel1 : Below w.heap.size w w1 := (below1 _ _).trans (hb1.mono (by simp))
  have H1 := hide hr1
  clear hr1 hb1
  by_cases p1 : 0 ≤ r1
  · go_wp2_with fail
    go_ret
    exact ⟨⟨true, rfl, ⟨fun _ => (unhide HK).2 (Or.inl ((unhide H1).1 p1)), fun _ => rfl⟩⟩, bel1⟩
  go_wp2_with fail
  refine (l2Find_any b off cap xs t 2 _ hm ((unhide HW).below bel1 hB) (by omega)).mono ?_
  rintro e w2 ⟨⟨r2, rfl, hr2⟩, hb2⟩
  have c2 : w2.cell? ⟨w.heap.size, 0, none⟩ = some (.slice (some ⟨b, off, none⟩) xs.length cap) := (hb2.cell (p := ⟨w.heap.size, 0, none⟩) z1).trans c1
  have bel2 := bel1.trans (hb2.mono bel1.size)
  have H2 := hide hr2
  clear hr2 hb2 c1
  by_cases p2 : 0 ≤ r2
  · go_wp2_with fail
    go_ret
    exact ⟨⟨true, rfl, ⟨fun _ => (unhide HK).2 (Or.inr (Or.inl ((unhide H2).1 p2))), fun _ => rfl⟩⟩, bel2⟩
  go_wp2_with fail
  refine (l2Find_any b off cap xs t 3 _ hm ((unhide HW).below bel2 hB) (by have := bel2.size; omega)).mono ?_
  rintro e w3 ⟨⟨r3, rfl, hr3⟩, hb3⟩
  have bel3 := bel2.trans (hb3.mono bel2.size)
  have H3 := hide hr3
  clear hr3 hb3
  go_wp2_with fail
  go_ret
  refine ⟨⟨decide (0 ≤ r1) || decide (0 ≤ r2) || decide (0 ≤ r3), rfl, ?_⟩, bel3⟩
  unfold Says
  rw [unhide HK, ← unhide H1, ← unhide H2, ← unhide H3]
  simp [or_assoc]

set_option maxHeartbeats 1000000 in
theorem l2Kind_any (b off cap : Nat) (xs : List OpR) (t : ByteArray) (w : World) (hm : xs.length ≤ 1048576) (hw : Ops w b off xs) (hB : b < w.heap.size) (hk : Kinds xs) (hs : t.size ≤ maxLen) :
    Calls Tryz.prog 54 #[.agg #[.slice (some ⟨b, off, none⟩) xs.length cap], .string t] w fun e w' => e = .returned (.int .i64 (kindT xs t : Int)) ∧ Below w.heap.size w w' := by
  have HK := hide hk
  have HW := hide hw
  clear hk hw
  go_enter Tryz.func54, Tryz.ntmps54
  go_wp2_with fail
  refine (l2IsNumber_any t _ hs).mono ?_
  rintro e w1 ⟨⟨v1, rfl, hv1⟩, rfl⟩
  have V1 := hide hv1
  clear hv1
  cases v1
  case true =>
    go_wp2_with fail
    go_ret
    exact ⟨ret_int (by have := (unhide V1).1 rfl; simp [kindT, numB_iff, this]), by first | exact below1 _ _ | exact Below.refl _ _⟩
  have n1 := hide (show ¬ NumT t from fun h => Bool.false_ne_true ((unhide V1).2 h))
  clear V1
  go_wp2_with fail
  refine (l2IsName_any t _ hs).mono ?_
  rintro e w1 ⟨⟨v2, rfl, hv2⟩, rfl⟩
  have V2 := hide hv2
  clear hv2
  cases v2
  case true =>
    go_wp2_with fail
    go_ret
    exact ⟨ret_int (by have := (unhide V2).1 rfl; have := unhide n1; simp [kindT, numB_iff, nameB_iff, *]), by first | exact below1 _ _ | exact Below.refl _ _⟩
  have n2 := hide (show ¬ NameT t from fun h => Bool.false_ne_true ((unhide V2).2 h))
  clear V2
  by_cases e4 : t = ⟨#[40]⟩
  · subst e4
    go_wp2_with fail
    go_ret
    exact ⟨ret_int (by have := unhide n1; have := unhide n2; simp [kindT, numB_iff, nameB_iff, *]), by first | exact below1 _ _ | exact Below.refl _ _⟩
  by_cases e5 : t = ⟨#[41]⟩
  · subst e5
    go_wp2_with fail
    go_ret
    exact ⟨ret_int (by have := unhide n1; have := unhide n2; simp [kindT, numB_iff, nameB_iff, *]), by first | exact below1 _ _ | exact Below.refl _ _⟩
  have q4 : (t.toList == [40]) = false := by
    rw [beq_eq_false_iff_ne]
    exact fun h => e4 (bytes_inj (h.trans (by rw [ByteArray.toList_eq])))
  have q5 : (t.toList == [41]) = false := by
    rw [beq_eq_false_iff_ne]
    exact fun h => e5 (bytes_inj (h.trans (by rw [ByteArray.toList_eq])))
  have E4 := hide e4
  have E5 := hide e5
  clear e4 e5
  go_wp2_with fail
  refine (l2IsOp_any b off cap xs t _ hm ((unhide HW).below (below1 _ _) hB) (by simp; omega) (unhide HK)).mono ?_
  rintro e w2 ⟨⟨v3, rfl, hv3⟩, hb2⟩
  have V3 := hide hv3
  clear hv3
  have bel2 : Below w.heap.size w w2 := (below1 _ _).trans (hb2.mono (by simp))
  cases v3
  · go_wp2_with fail
    go_ret
    refine ⟨ret_int ?_, bel2⟩
    have n3 : ¬ opT xs t := fun h => Bool.false_ne_true ((unhide V3).2 h)
    simp [kindT, numB_iff, nameB_iff, opB_iff, data_eq, unhide n1, unhide n2, unhide E4, unhide E5, n3]
  · go_wp2_with fail
    go_ret
    refine ⟨ret_int ?_, bel2⟩
    have n3 : opT xs t := (unhide V3).1 rfl
    simp [kindT, numB_iff, nameB_iff, opB_iff, data_eq, unhide n1, unhide n2, unhide E4, unhide E5, n3]

set_option maxHeartbeats 1000000 in
theorem l2Reach_any (s : ByteArray) (i : Nat) (w : World) (hs : s.size ≤ 1048576) (hi : i < s.size) :
    Calls Tryz.prog 93 #[.string s, .int .i64 (i : Int)] w fun e w' => (∃ r : Nat, e = .returned (.int .i64 (r : Int)) ∧ Reach s i r) ∧ w' = w := by
  have hbi := hide (bt_get hi)
  cases hsg : sgB s[i]
  · go_enter Tryz.func93, Tryz.ntmps93
    go_wp2_with (go_at_call 128; refine (l1IsSign_any _ _).mono ?_; rintro e w' ⟨rfl, rfl⟩)
    have hs6 := hide (show cls (bt s i) ≠ 6 from fun h => by
      rw [bt_get hi, cls_sg, decide_eq_false_iff_not] at hsg
      exact hsg h)
    go_loop [5] (fun n => ∃ k : Nat, 1 ≤ k ∧ i + k ≤ s.size ∧ n = .int .i64 (k : Int) ∧ Hid (k = 1 ∨ ((cls (bt s i) = 2 ∨ cls (bt s i) = 3) ∧ ∀ j, j < k → (cls (bt s (i + j)) = 2 ∨ cls (bt s (i + j)) = 3)))) (fun n => s.size - (intOf n).toNat)
    case atStart => exact ⟨1, Nat.le_refl _, by omega, rfl, hide (Or.inl rfl)⟩
    case round =>
      obtain ⟨k, hk1, hk, rfl, hn⟩ := hrel
      by_cases hlt : i + k < s.size
      · have GO := hide (show ∀ (_ : cls s[i] = 2 ∨ cls s[i] = 3) (_ : cls s[i + k] = 2 ∨ cls s[i + k] = 3), (k + 1 = 1 ∨ ((cls (bt s i) = 2 ∨ cls (bt s i) = 3) ∧ ∀ j, j < k + 1 → (cls (bt s (i + j)) = 2 ∨ cls (bt s (i + j)) = 3))) from fun h1 h2 => by
          rw [bt_get hi] at h1
          rw [bt_get hlt] at h2
          refine Or.inr ⟨h1, fun j hj => ?_⟩
          by_cases e : j = k
          · subst e; exact h2
          · rcases unhide hn with x | x
            · have : j = 0 := by omega
              subst this
              exact h1
            · exact x.2 j (by omega))
        have STOP := hide (show ∀ (_ : ¬ ((cls s[i] = 2 ∨ cls s[i] = 3) ∧ (cls s[i + k] = 2 ∨ cls s[i + k] = 3))), Reach s i k from fun h => by
          rw [bt_get hi, bt_get hlt] at h
          have h6 := unhide hs6
          refine ⟨hk1, hk, Or.inr ?_⟩
          by_cases ha : cls (bt s i) = 2 ∨ cls (bt s i) = 3
          · refine Or.inl ⟨ha, fun j hj => ?_, fun _ hx => h ⟨ha, hx⟩⟩
            rcases unhide hn with x | x
            · have : j = 0 := by omega
              subst this
              exact ha
            · exact x.2 j hj
          · refine Or.inr ⟨⟨h6, by omega, by omega⟩, ?_⟩
            rcases unhide hn with x | x
            · exact x
            · exact absurd x.1 ha)
        clear hn
        go_wp2_with (first | (go_at_call 129; refine (l2Letter_any _ _).mono ?_; rintro e w' ⟨rfl, rfl⟩) | (go_at_call 130; refine (l2Digit_any _ _).mono ?_; rintro e w' ⟨rfl, rfl⟩))
        all_goals
          first
            | (refine ⟨⟨k + 1, ?_, ?_, ?_, hide ((unhide GO) ?_ ?_)⟩, ?_⟩
               · omega
               · omega
               · go_num
               · simp [*]
               · simp [*]
               · simp [intOf]; omega)
            | (go_ret
               refine ⟨⟨k, rfl, (unhide STOP) ?_⟩, rfl⟩
               simp [*])
      · have STOP := hide (show Reach s i k from by
          have h6 := unhide hs6
          refine ⟨hk1, hk, Or.inr ?_⟩
          by_cases ha : cls (bt s i) = 2 ∨ cls (bt s i) = 3
          · refine Or.inl ⟨ha, fun j hj => ?_, fun hx => absurd hx hlt⟩
            rcases unhide hn with x | x
            · have : j = 0 := by omega
              subst this
              exact ha
            · exact x.2 j hj
          · refine Or.inr ⟨⟨h6, by omega, by omega⟩, ?_⟩
            rcases unhide hn with x | x
            · exact x
            · exact absurd x.1 ha)
        go_wp2
        go_ret
        exact ⟨⟨k, rfl, unhide STOP⟩, rfl⟩
  · have hs6 := hide (show cls (bt s i) = 6 by
      rw [bt_get hi, cls_sg] at hsg
      simpa using hsg)
    by_cases h16 : s.size - i < 16
    · go_enter Tryz.func93, Tryz.ntmps93
      go_wp2_with (go_at_call 128; refine (l1IsSign_any _ _).mono ?_; rintro e w' ⟨rfl, rfl⟩)
      go_ret
      exact ⟨⟨s.size - i, ret_int (by omega), ⟨by omega, by omega, Or.inl ⟨unhide hs6, by omega, Or.inr (by omega)⟩⟩⟩, rfl⟩
    · go_enter Tryz.func93, Tryz.ntmps93
      go_wp2_with (go_at_call 128; refine (l1IsSign_any _ _).mono ?_; rintro e w' ⟨rfl, rfl⟩)
      go_ret
      exact ⟨⟨16, rfl, ⟨by omega, by omega, Or.inl ⟨unhide hs6, by omega, Or.inl rfl⟩⟩⟩, rfl⟩

set_option maxHeartbeats 1000000 in
theorem l2Longest_any (b off cap : Nat) (xs : List OpR) (s : ByteArray) (i : Nat) (w : World) (hm : xs.length ≤ 1048576) (hw : Ops w b off xs) (hB : b < w.heap.size) (hk : Kinds xs) (hs : s.size ≤ 1048576) (hi : i < s.size) :
    Calls Tryz.prog 53 #[.agg #[.slice (some ⟨b, off, none⟩) xs.length cap], .string s, .int .i64 (i : Int)] w fun e w' => (∃ r : Nat, e = .returned (.int .i64 (r : Int)) ∧ Longest xs s i r) ∧ Below w.heap.size w w' := by
  have HK := hide hk
  have HW := hide hw
  clear hk hw
  go_enter Tryz.func53, Tryz.ntmps53
  go_wp2_with fail
  refine (l2Reach_any s i _ hs hi).mono ?_
  rintro e w1 ⟨⟨m, rfl, hm1⟩, rfl⟩
  have HR := hide hm1
  have hms : i + m ≤ s.size := hm1.2.1
  have hm0 : 1 ≤ m := hm1.1
  clear hm1
  go_wp2_with fail
  go_loopw [7] (fun n wr => ∃ k : Nat, 1 ≤ k ∧ k ≤ m ∧ n = .int .i64 (k : Int) ∧ Hid (∀ q, k < q → q ≤ m → kindT xs (sub s i q) = 6) ∧ Below (w.heap.size + 1) (w.alloc (.cells #[.slice (some ⟨b, off, none⟩) xs.length cap] 33)) wr) (fun n _ => (intOf n).toNat)
  case atStart => exact ⟨m, hm0, Nat.le_refl _, rfl, hide (fun q h1 h2 => by omega), Below.refl _ _⟩
  case round =>
    obtain ⟨k, hk1, hkm, rfl, hn, hbel⟩ := hrel
    have hbw : Below w.heap.size w wr := (below1 _ _).trans (hbel.mono (by omega))
    have zw : w.heap.size < wr.heap.size := by have := hbel.size; simp at this; omega
    have c0 : wr.cell? ⟨w.heap.size, 0, none⟩ = some (.slice (some ⟨b, off, none⟩) xs.length cap) := by
      rw [hbel.cell (p := ⟨w.heap.size, 0, none⟩) (show w.heap.size < _ by omega)]; simp [go_sem]
    have zb : b < wr.heap.size := by omega
    by_cases hlt : 1 < k
    · have hltI : (1 : Int) < (k : Int) := by omega
      have hik : i + k ≤ s.size := by omega
      have hwr : IntKind.i64.wrap ((i : Int) + (k : Int)) = (i : Int) + (k : Int) := by rw [IntKind.wrap_i64]; omega
      have hs1 : (i : Int) ≤ (i : Int) + (k : Int) := by omega
      have hs2 : (i : Int) + (k : Int) ≤ (s.size : Int) := by omega
      have hs3 : (0 : Int) ≤ (i : Int) + (k : Int) := by omega
      have htn : ((i : Int) + (k : Int)).toNat = i + k := by omega
      go_wp2_with fail
      go_region_held (fun w' => w'.cell? ⟨w.heap.size, 0, none⟩ = some (.slice (some ⟨b, off, none⟩) xs.length cap)) (go_keep)
        (first | (go_at_call 54; refine (l2Kind_any b off cap xs (sub s i k) _ hm ((unhide HW).below hbw.drew hB) zb (unhide HK) (by rw [sub_size hik]; unfold maxLen; omega)).mono ?_; rintro e w2 ⟨rfl, hb2⟩; have c2 := (hb2.cell (p := ⟨w.heap.size, 0, none⟩) zw).trans (show wr.drew.cell? ⟨w.heap.size, 0, none⟩ = _ from c0)))
      have hbel2 := hbel.drew.trans (hb2.mono zw)
      have hbw2 : Below w.heap.size w w2 := (below1 _ _).trans (hbel2.mono (by omega))
      by_cases h6 : kindT xs (sub s i k) = 6
      · have h6' : ((kindT xs (sub s i k) : Int) != 6) = false := by simp [h6]
        have H6 := hide h6
        clear h6
        go_wp2
        refine ⟨⟨k - 1, by omega, by omega, ?_, hide (fun q h1 h2 => ?_), hbel2⟩, ?_⟩
        · first | (go_num; done) | (congr 1; omega)
        · by_cases e : q = k
          · subst e; exact unhide H6
          · exact (unhide hn) q (by omega) h2
        · simp [intOf]; omega
      · have h6' : ((kindT xs (sub s i k) : Int) != 6) = true := by simp; omega
        have H6 := hide h6
        clear h6
        go_wp2
        go_ret
        exact ⟨⟨k, rfl, ⟨hk1, Or.inr (unhide H6), m, unhide HR, hkm, unhide hn⟩⟩, hbw2⟩
    · have hk1' : k = 1 := by omega
      subst hk1'
      go_wp2
      go_ret
      exact ⟨⟨1, rfl, ⟨Nat.le_refl _, Or.inl rfl, m, unhide HR, hkm, unhide hn⟩⟩, hbw⟩
end Go.Proofs.YtokabkhnidlcnabGreat

/-
  Walk: the specification's Lex.
-/
namespace Go.Proofs.YtokabkhnidlcnabGreat
set_option maxRecDepth 100000
open Go.RowKit

theorem code_ok {xs : List OpR} (h : IsCode xs 0) : okTo xs xs.length := by
  rcases h with ⟨h, _⟩ | ⟨_, ⟨h, _⟩ | ⟨h, _⟩⟩
  · exact absurd h (by decide)
  · exact absurd h (by decide)
  · exact h

theorem owns_capT {w : World} {base e size g n cap : Nat} {xs : List Value} (h : w.ownsRow base e size (.slice (some ⟨g, 0, none⟩) n cap) n xs) : n ≤ cap ∧ cap ≤ maxLen := by
  obtain ⟨_, ⟨h, _⟩ | ⟨g', cap', cur, h, _, _, h1, h2, _⟩⟩ := h
  · cases h
  · injection h with _ _ h
    subst h
    exact ⟨h1, h2⟩

set_option maxHeartbeats 4000000 in
theorem specLexC_any (b off cap : Nat) (xs : List OpR) (s : ByteArray) (w : World) (hm : xs.length ≤ 1048576) (hw : Ops w b off xs) (hsz : Sized xs) (hB : b < w.heap.size) (hs : s.size ≤ maxLen) :
    Calls Tryz.prog 23 #[.agg #[.slice (some ⟨b, off, none⟩) xs.length cap], .string s] w fun e w' => (∃ (g c : Nat) (us : List TokR) (v : Bool), e = .returned (.tuple #[.slice (some ⟨g, 0, none⟩) us.length c, .bool v]) ∧ (w.heap.size ≤ g ∧ us.length ≤ c ∧ c ≤ maxLen) ∧ FilledT w' g us us.length ∧ LexIs xs (IsCode xs 0) s us v) ∧ Below w.heap.size w w' := by
  unfold maxLen at hs
  have HW := hide hw
  have HS := hide hsz
  clear hw hsz
  go_enter Tryz.func23, Tryz.ntmps23
  go_wp2_with fail
  refine (specTableOk_any b off cap xs _ hm ((unhide HW).below ((below1 _ _).alloc (by simp) _) hB) (unhide HS) (by simp; omega)).mono ?_
  rintro e w1 ⟨⟨c, rfl, hc⟩, hb1⟩
  have HC := hide hc
  have z1 : w.heap.size + 2 ≤ w1.heap.size := by have := hb1.size; simp at this; omega
  have bel1 : Below w.heap.size w w1 := ((below1 _ _).alloc (by simp) _).trans (hb1.mono (by simp; omega))
  have c1 : w1.cell? ⟨w.heap.size, 0, none⟩ = some (.slice (some ⟨b, off, none⟩) xs.length cap) := by rw [hb1.cell (p := ⟨w.heap.size, 0, none⟩) (by simp; omega)]; simp [go_sem]
  have HO := hide (show w1.ownsRow (w.heap.size + 1) 56 3 (.slice (some ⟨w.heap.size + 1, 0, none⟩) 0 0) 0 (cellsTk []) by
    have h0 := World.ownsRow_lit (base := w.heap.size + 1) (e := 56) (size := 3) (w.alloc (.cells #[.slice (some ⟨b, off, none⟩) xs.length cap] 33)) #[] 0 (by simp) (Nat.zero_le _) rfl
    have h1 := h0.kept (grown_bel hb1 none) (Or.inr (by simp [Value.ownBlock]))
    simpa [cellsTk] using h1)
  have bel1' : Below (w.heap.size + 1) (w.alloc (.cells #[.slice (some ⟨b, off, none⟩) xs.length cap] 33)) w1 := ((below1 _ _).mono (by simp)).trans (hb1.mono (by simp))
  clear hb1 hc
  by_cases hc0 : c = 0
  case neg =>
    have hc0' : (c != 0) = true := by simpa using hc0
    have HN := hide (show ¬ (IsCode xs 0 ∧ s.size ≤ 20000) from fun h => hc0 (IsCode_one (unhide HC) h.1))
    clear hc0
    go_wp2_with fail
    go_ret2
    obtain ⟨hg, hf⟩ := owns_filledT (zs := []) (unhide HO)
    exact ⟨⟨w.heap.size + 1, 0, [], false, rfl, ⟨by omega, Nat.le_refl _, Nat.zero_le _⟩, hf, Or.inr ⟨unhide HN, rfl, rfl⟩⟩, bel1⟩
  subst hc0
  by_cases h2 : 20000 < s.size
  · have HN := hide (show ¬ (IsCode xs 0 ∧ s.size ≤ 20000) from fun h => by omega)
    have h2' : (20000 : Int) < (s.size : Int) := by omega
    go_wp2_with fail
    go_ret2
    obtain ⟨hg, hf⟩ := owns_filledT (zs := []) (unhide HO)
    exact ⟨⟨w.heap.size + 1, 0, [], false, rfl, ⟨by omega, Nat.le_refl _, Nat.zero_le _⟩, hf, Or.inr ⟨unhide HN, rfl, rfl⟩⟩, bel1⟩
  have HV := hide (signTexts_of (code_ok (unhide HC)))
  have HK := hide (kinds_of (code_ok (unhide HC)))
  have h20 : s.size ≤ 20000 := by omega
  clear hs h2
  go_wp2_with fail
  obtain ⟨i0, hi, hz0, hz1, hz2⟩ := info_parts infoT
  have HI := hide hi
  have HZ := hide (And.intro hz0 (And.intro hz1 hz2))
  clear hi hz0 hz1 hz2 c1
  go_loopw [6, 7] (fun out i wr => ∃ (p go co : Nat) (acc : List TokR), p ≤ s.size ∧ i = .int .i64 (p : Int) ∧ out = .slice (some ⟨go, 0, none⟩) acc.length co ∧ Hid (Read xs s p acc) ∧ Hid (wr.ownsRow (w.heap.size + 1) 56 3 (.slice (some ⟨go, 0, none⟩) acc.length co) acc.length (cellsTk acc)) ∧ Below (w.heap.size + 1) (w.alloc (.cells #[.slice (some ⟨b, off, none⟩) xs.length cap] 33)) wr) (fun _ i _ => s.size - (intOf i).toNat)
  case atStart => exact ⟨0, w.heap.size + 1, 0, [], Nat.zero_le _, rfl, rfl, hide (Read.start xs s), HO, bel1'⟩
  case round =>
    clear HO bel1'
    obtain ⟨p, go, co, acc, hp, rfl, rfl, hrd, hown, hbel⟩ := hrel
    have hbw : Below w.heap.size w wr := (below1 _ _).trans (hbel.mono (by omega))
    have zw : w.heap.size < wr.heap.size := by have := hbel.size; simp at this; omega
    have c0 : wr.cell? ⟨w.heap.size, 0, none⟩ = some (.slice (some ⟨b, off, none⟩) xs.length cap) := by
      rw [hbel.cell (p := ⟨w.heap.size, 0, none⟩) (show w.heap.size < _ by omega)]; simp [go_sem]
    go_wp2_with fail
    go_loop [7] (fun iv => ∃ j : Nat, p ≤ j ∧ j ≤ s.size ∧ iv = .int .i64 (j : Int) ∧ Hid (Blanks s p j)) (fun iv => s.size - (intOf iv).toNat)
    case atStart => exact ⟨p, Nat.le_refl _, hp, rfl, hide (fun q h1 h2 => by omega)⟩
    case round =>
      obtain ⟨j, hpj, hj, rfl, hbl⟩ := hrel
      by_cases hlt : j < s.size
      · cases hb : decide (cls s[j] = 1)
        · have hnb := hide (show cls (bt s j) ≠ 1 by rw [bt_get hlt] at hb; simpa using hb)
          have hj' : ((j : Int) == (s.size : Int)) = false := by simp; omega
          have hal : acc.length ≤ 20000 := by have := (unhide hrd).1; omega
          go_wp2_with (go_at_call 52; refine (l2Blank_any _ _).mono ?_; rintro e w2 ⟨rfl, hx⟩; obtain rfl := hx.symm)
          refine (l2Longest_any b off cap xs s j _ hm ((unhide HW).below hbw hB) (by omega) (unhide HK) (by omega) hlt).mono ?_
          rintro e w2 ⟨⟨n, rfl, hn⟩, hb2⟩
          have htok := longest_tok (unhide HV) hn (unhide hnb)
          have hjn : j + n ≤ s.size := htok.2.1
          have hn1 : 1 ≤ n := htok.1
          have HT := hide htok
          have hbel2 := hbel.trans (hb2.mono zw)
          have hbw2 : Below w.heap.size w w2 := (below1 _ _).trans (hbel2.mono (by omega))
          have z2 : w.heap.size < w2.heap.size := Nat.lt_of_lt_of_le zw hb2.size
          have hown2 := hide ((unhide hown).kept (grown_bel hb2 none) (Or.inr (by simp [Value.ownBlock])))
          have d0 : w2.cell? ⟨w.heap.size, 0, none⟩ = some (.slice (some ⟨b, off, none⟩) xs.length cap) := (hb2.cell (p := ⟨w.heap.size, 0, none⟩) zw).trans c0
          have hwr : IntKind.i64.wrap ((j : Int) + (n : Int)) = (j : Int) + (n : Int) := by rw [IntKind.wrap_i64]; omega
          have hs1 : (j : Int) ≤ (j : Int) + (n : Int) := by omega
          have hs2 : (j : Int) + (n : Int) ≤ (s.size : Int) := by omega
          have hs3 : (0 : Int) ≤ (j : Int) + (n : Int) := by omega
          have htn : ((j : Int) + (n : Int)).toNat = j + n := by omega
          have hs4 : (p : Int) ≤ (j : Int) := by omega
          have hs5 : (j : Int) ≤ (s.size : Int) := by omega
          have zb : b < w2.heap.size := by omega
          clear hn htok hb2 hown hbel hbw c0
          go_wp2_with fail
          go_region_held_law (fun w' => w'.cell? ⟨w.heap.size, 0, none⟩ = some (.slice (some ⟨b, off, none⟩) xs.length cap)) (go_keep)
            (first | (go_at_call 54; refine (l2Kind_any b off cap xs (sub s j n) _ hm ((unhide HW).below hbw2.drew hB) zb (unhide HK) (by rw [sub_size hjn]; unfold maxLen; omega)).mono ?_; rintro e w3 ⟨rfl, hb3⟩; have c3 := (hb3.cell (p := ⟨w.heap.size, 0, none⟩) z2).trans (show w2.drew.cell? ⟨w.heap.size, 0, none⟩ = _ from d0); have hbel3 := hbel2.drew.trans (hb3.mono z2); have hown3 := hide ((unhide hown2).drew.kept (grown_bel hb3 none) (Or.inr (by simp [Value.ownBlock]))); have z3 := Nat.lt_of_lt_of_le z2 hb3.size; have hgo := hide ((unhide hown3).lt go rfl)) | (refine step_append_lies _ (by rfl) (.tmp 49) (.tmp 69) 52 (by rfl) (w.heap.size + 1) 56 i0 _ 3 40 Tryz.underlying52 (unhide HI) (unhide HZ).1 (unhide HZ).2.1 (unhide HZ).2.2 rfl (by decide) _ acc.length (cellsTk acc) (by rfl) ((unhide hown3).alloc _) ⟨w3.heap.size, 0, none⟩ 1 1 (cellsTk [⟨(kindT xs (sub s j n) : Int), s.extract p j, s.extract j (j + n)⟩]) (by rfl) rfl (new_newsT w3 ⟨(kindT xs (sub s j n) : Int), s.extract p j, s.extract j (j + n)⟩) (cellsTk_one' _) (by decide) (by unfold maxLen; omega) (by omega) (by simp; omega) _ rfl ?_; intro g4 c4 w4 hown4 hgrow4 _ hlt4; have q4 := (hgrow4.cell_far ⟨w.heap.size, 0, none⟩ (by simp; omega) (by have := unhide hgo; simp [Value.ownBlock]; omega)).trans (((below1 w3 _).cell (p := ⟨w.heap.size, 0, none⟩) z3).trans c3); simp only [List.getElem_toArray, List.getElem_cons_succ, List.getElem_cons_zero]; simp only [Act.put, List.setIfInBounds_toArray, List.set_cons_zero, List.set_cons_succ]))
          have hbel4 : Below (w.heap.size + 1) _ w4 := (hbel3.alloc z3 _).grown hgrow4 (by simp; omega) (fun q hq => by have := unhide hgo; simp [Value.ownBlock] at hq; omega)
          rw [← cellsTk_append] at hown4
          have hl4 : acc.length + 1 = (acc ++ [(⟨(kindT xs (sub s j n) : Int), s.extract p j, s.extract j (j + n)⟩ : TokR)]).length := by simp
          rw [hl4] at hown4 ⊢
          have HW4 := hide hown4
          clear hown4 hgrow4 hown3 hown2 hbel3 hbel2 c3 q4
          go_wp2
          refine ⟨⟨j + n, g4, c4, _, hjn, by go_num, rfl, hide ((unhide hrd).step hpj hlt (unhide hbl) (unhide hnb) (unhide HT)), HW4, hbel4⟩, by simp [intOf]; omega⟩
        · have Hb := hide (show Blanks s p (j + 1) from fun q h1 h2 => by
            by_cases e : q = j
            · subst e
              rw [bt_get hlt] at hb
              simpa using hb
            · exact (unhide hbl) q h1 (by omega))
          go_wp2_with (go_at_call 52; refine (l2Blank_any _ _).mono ?_; rintro e w' ⟨rfl, rfl⟩)
          exact ⟨⟨j + 1, by omega, by omega, by go_num, Hb⟩, by simp [intOf]; omega⟩
      · have HJ := hide (show j = s.size by omega)
        have hj' : ((j : Int) == (s.size : Int)) = true := by simp; omega
        have hal : acc.length ≤ 20000 := by have := (unhide hrd).1; omega
        go_wp2_with (at_builtin; refine wpList_append_own _ rfl (.tmp 37) (.tmp 43) 52 rfl (w.heap.size + 1) 56 i0 _ 3 40 Tryz.underlying52 (unhide HI) (unhide HZ).1 (unhide HZ).2.1 (unhide HZ).2.2 rfl (by decide) _ acc.length (cellsTk acc) rfl ((unhide hown).alloc _) ⟨wr.heap.size, 0, none⟩ 1 1 (cellsTk [⟨7, s.extract p j, ⟨#[]⟩⟩]) rfl rfl (new_newsT wr ⟨7, s.extract p j, ⟨#[]⟩⟩) (cellsTk_one' _) ?b1 ?b2 ?b3 ?next)
        case b1 => unfold maxLen; omega
        case b2 => omega
        case b3 => have := hbel.size; simp; omega
        case next =>
          intro v4 w4 hown4 hgrow4 hnil4
          have hgo := (unhide hown).lt go rfl
          have hbel4 : Below w.heap.size w w4 := (hbw.alloc hbw.size _).grown hgrow4 (by have := hbw.size; simp; omega) (fun q hq => by simp [Value.ownBlock] at hq; omega)
          obtain ⟨g4, c4, rfl⟩ := owns_bval hown4 (by simp [hnil4])
          rw [← cellsTk_append] at hown4
          have hl4 : acc.length + 1 = (acc ++ [(⟨7, s.extract p j, ⟨#[]⟩⟩ : TokR)]).length := by simp
          rw [hl4] at hown4 ⊢
          have HW4 := hide hown4
          clear hown4 hgrow4 hnil4
          go_wp2
          go_ret2
          obtain ⟨hg, hf⟩ := owns_filledT (unhide HW4)
          have hdn := (unhide hrd).done hp (unhide HJ ▸ unhide hbl)
          rw [← unhide HJ] at hdn
          exact ⟨⟨g4, c4, _, true, rfl, ⟨by omega, owns_capT (unhide HW4)⟩, hf, Or.inl ⟨⟨unhide HC, h20⟩, rfl, hdn⟩⟩, hbel4⟩

theorem specLex_any (b off cap : Nat) (xs : List OpR) (s : ByteArray) (w : World) (hm : xs.length ≤ 1048576) (hw : Ops w b off xs) (hsz : Sized xs) (hB : b < w.heap.size) (hs : s.size ≤ maxLen) :
    Calls Tryz.prog 23 #[.agg #[.slice (some ⟨b, off, none⟩) xs.length cap], .string s] w fun e w' => (∃ (g c : Nat) (us : List TokR) (v : Bool), e = .returned (.tuple #[.slice (some ⟨g, 0, none⟩) us.length c, .bool v]) ∧ w.heap.size ≤ g ∧ FilledT w' g us us.length ∧ LexIs xs (IsCode xs 0) s us v) ∧ Below w.heap.size w w' :=
  (specLexC_any b off cap xs s w hm hw hsz hB hs).mono (fun _ _ ⟨⟨g, c, us, v, h0, ⟨h1, _, _⟩, h2, h3⟩, hb⟩ => ⟨⟨g, c, us, v, h0, h1, h2, h3⟩, hb⟩)
end Go.Proofs.YtokabkhnidlcnabGreat
