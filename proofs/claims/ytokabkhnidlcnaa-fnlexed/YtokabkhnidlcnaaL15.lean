import Derived.Test.YtokabkhnidlcnaaL03
import Derived.Test.YtokabkhnidlcnaaL14

/-
  Walks: the program's kinds of bytes, forms of texts.
-/
namespace Go.Proofs.Ytokabkhnidlcnaa
set_option maxRecDepth 100000
open Go.RowKit

set_option maxHeartbeats 1000000 in
theorem kindOfByte_any (c : UInt8) (w : World) :
    Calls Try.prog 71 #[.int .u8 (c.toNat : Int)] w fun e w' => e = .returned (.int .i64 (cls c : Int)) ∧ w' = w := by
  have hsg := cls_sg c
  go_enter Try.func71, Try.ntmps71
  go_wp2_with (go_at_call 79; refine (isSign_any _ _).mono ?_; rintro e w' ⟨rfl, hx⟩; obtain rfl := hx.symm)
  all_goals (go_ret; refine ⟨ret_int ?_, rfl⟩; go_light; (try simp only [beq_iff_eq, beq_eq_false_iff_ne, ne_eq] at *); unfold cls; (repeat' split) <;> (try simp_all) <;> (try omega))

/-- A byte goes on with a word. -/
def stays (first : Nat) (c : UInt8) : Bool := decide (cls c = 2 ∨ (cls c = 3 ∧ first = 3))

set_option maxHeartbeats 1000000 in
theorem staysWord_any (first : Nat) (c : UInt8) (w : World) :
    Calls Try.prog 80 #[.int .i64 (first : Int), .int .u8 (c.toNat : Int)] w fun e w' => e = .returned (.bool (stays first c)) ∧ w' = w := by
  by_cases h2 : cls c = 2
  · have HR := hide (show stays first c = true by simp [stays, h2])
    have HC := hide (show (cls c : Int) = 2 by omega)
    clear h2
    go_enter Try.func80, Try.ntmps80
    go_wp2_with (go_at_call 71; refine (kindOfByte_any _ _).mono ?_; rw [unhide HC]; rintro e w' ⟨rfl, hx⟩; obtain rfl := hx.symm)
    go_ret
    exact ⟨ret_bool (unhide HR).symm, rfl⟩
  by_cases h3 : cls c = 3
  · have HC := hide (show (cls c : Int) = 3 by omega)
    by_cases hf : first = 3
    · have HR := hide (show stays first c = true by simp [stays, h3, hf])
      subst hf
      clear h2 h3
      go_enter Try.func80, Try.ntmps80
      go_wp2_with (go_at_call 71; refine (kindOfByte_any _ _).mono ?_; rw [unhide HC]; rintro e w' ⟨rfl, hx⟩; obtain rfl := hx.symm)
      go_ret
      exact ⟨ret_bool (unhide HR).symm, rfl⟩
    · have HR := hide (show stays first c = false by simp [stays, h3, hf])
      have hf' : ((first : Int) == 3) = false := by simp; omega
      clear h2 h3 hf
      go_enter Try.func80, Try.ntmps80
      go_wp2_with (go_at_call 71; refine (kindOfByte_any _ _).mono ?_; rw [unhide HC]; rintro e w' ⟨rfl, hx⟩; obtain rfl := hx.symm)
      go_ret
      exact ⟨ret_bool (unhide HR).symm, rfl⟩
  · have HR := hide (show stays first c = false by simp [stays, h2, h3])
    have h2' : ((cls c : Int) == 2) = false := by simp; omega
    have h3' : ((cls c : Int) == 3) = false := by simp; omega
    clear h2 h3
    go_enter Try.func80, Try.ntmps80
    go_wp2_with (go_at_call 71; refine (kindOfByte_any _ _).mono ?_; rintro e w' ⟨rfl, hx⟩; obtain rfl := hx.symm)
    go_ret
    exact ⟨ret_bool (unhide HR).symm, rfl⟩

theorem loop_ne (t : ByteArray) : ∀ (n i : Nat) (r : List UInt8), n = t.size - i → r ≠ [] → ByteArray.toList.loop t i r ≠ []
  | 0, i, r, h, hr => by
    unfold ByteArray.toList.loop
    rw [if_neg (by omega)]
    simpa using hr
  | n + 1, i, r, h, hr => by
    unfold ByteArray.toList.loop
    rw [if_pos (by omega)]
    exact loop_ne t n (i + 1) _ (by omega) (by simp)

theorem not_empty {t : ByteArray} (h : t.size ≠ 0) : t.toList.isEmpty = false := by
  rw [List.isEmpty_eq_false_iff]
  unfold ByteArray.toList ByteArray.toList.loop
  rw [if_pos (by omega)]
  exact loop_ne t (t.size - 1) 1 _ rfl (by simp)

theorem bytes_nil {t : ByteArray} (h : t.size = 0) : t = ⟨#[]⟩ := by
  obtain ⟨d⟩ := t
  congr 1
  exact Array.eq_empty_of_size_eq_zero h

theorem says_false {p : Prop} (h : ¬ p) : Says false p := ⟨fun e => (by cases e), fun e => absurd e h⟩
theorem says_true {p : Prop} (h : p) : Says true p := ⟨fun _ => h, fun _ => rfl⟩
end Go.Proofs.Ytokabkhnidlcnaa

/-
  Walks: the specification's longest token.
-/
namespace Go.Proofs.Ytokabkhnidlcnaa
set_option maxRecDepth 100000
open Go.RowKit

/-- Each operator is of one of the three kinds. -/
def Kinds (xs : List OpR) : Prop := ∀ j, j < xs.length → ((atO xs j).k = 1 ∨ (atO xs j).k = 2 ∨ (atO xs j).k = 3)

theorem kinds_of {xs : List OpR} (h : okTo xs xs.length) : Kinds xs := fun j hj => by
  obtain ⟨_, h⟩ := ok_shape _ _ _ _ (h j hj)
  omega

theorem opT_kinds {xs : List OpR} {t : ByteArray} (h : Kinds xs) : opT xs t ↔ ((∃ j, j < xs.length ∧ (atO xs j).s = t ∧ (atO xs j).k = 1) ∨ (∃ j, j < xs.length ∧ (atO xs j).s = t ∧ (atO xs j).k = 2) ∨ (∃ j, j < xs.length ∧ (atO xs j).s = t ∧ (atO xs j).k = 3)) := by
  constructor
  · rintro ⟨j, hj, e⟩
    rcases h j hj with k | k | k
    · exact Or.inl ⟨j, hj, e, k⟩
    · exact Or.inr (Or.inl ⟨j, hj, e, k⟩)
    · exact Or.inr (Or.inr ⟨j, hj, e, k⟩)
  · rintro (⟨j, hj, e, _⟩ | ⟨j, hj, e, _⟩ | ⟨j, hj, e, _⟩)
    · exact ⟨j, hj, e⟩
    · exact ⟨j, hj, e⟩
    · exact ⟨j, hj, e⟩

set_option maxHeartbeats 1000000 in
theorem l2IsOp_any (b off cap : Nat) (xs : List OpR) (t : ByteArray) (w : World) (hm : xs.length ≤ 1048576) (hw : Ops w b off xs) (hB : b < w.heap.size) (hk : Kinds xs) :
    Calls Try.prog 50 #[.agg #[.slice (some ⟨b, off, none⟩) xs.length cap], .string t] w fun e w' => RetB e (opT xs t) ∧ Below w.heap.size w w' := by
  have HK := hide (opT_kinds (t := t) hk)
  have HW := hide hw
  clear hk hw
  go_enter Try.func50, Try.ntmps50
  go_wp2_with fail
  refine (l2Find_any b off cap xs t 1 _ hm ((unhide HW).below (below1 _ _) hB) (by simp; omega)).mono ?_
  rintro e w1 ⟨⟨r1, rfl, hr1⟩, hb1⟩
  have z1 : w.heap.size < w1.heap.size := by have := hb1.size; simp at this; omega
  have c1 : w1.cell? ⟨w.heap.size, 0, none⟩ = some (.slice (some ⟨b, off, none⟩) xs.length cap) := by rw [hb1.cell (p := ⟨w.heap.size, 0, none⟩) (by simp)]; simp [go_sem]
  have bel1 : Below w.heap.size w w1 := (below1 _ _).trans (hb1.mono (by simp))
  have H1 := hide hr1
  clear hr1 hb1
  by_cases p1 : 0 ≤ r1
  · go_wp2_with fail
    go_ret
    exact ⟨⟨true, rfl, ⟨fun _ => (unhide HK).2 (Or.inl ((unhide H1).1 p1)), fun _ => rfl⟩⟩, bel1⟩
  go_wp2_with fail
  refine (l2Find_any b off cap xs t 2 _ hm ((unhide HW).below bel1 hB) (by omega)).mono ?_
  rintro e w2 ⟨⟨r2, rfl, hr2⟩, hb2⟩
  have c2 : w2.cell? ⟨w.heap.size, 0, none⟩ = some (.slice (some ⟨b, off, none⟩) xs.length cap) := (hb2.cell (p := ⟨w.heap.size, 0, none⟩) z1).trans c1
  have bel2 := bel1.trans (hb2.mono bel1.size)
  have H2 := hide hr2
  clear hr2 hb2 c1
  by_cases p2 : 0 ≤ r2
  · go_wp2_with fail
    go_ret
    exact ⟨⟨true, rfl, ⟨fun _ => (unhide HK).2 (Or.inr (Or.inl ((unhide H2).1 p2))), fun _ => rfl⟩⟩, bel2⟩
  go_wp2_with fail
  refine (l2Find_any b off cap xs t 3 _ hm ((unhide HW).below bel2 hB) (by have := bel2.size; omega)).mono ?_
  rintro e w3 ⟨⟨r3, rfl, hr3⟩, hb3⟩
  have bel3 := bel2.trans (hb3.mono bel2.size)
  have H3 := hide hr3
  clear hr3 hb3
  go_wp2_with fail
  go_ret
  refine ⟨⟨decide (0 ≤ r1) || decide (0 ≤ r2) || decide (0 ≤ r3), rfl, ?_⟩, bel3⟩
  unfold Says
  rw [unhide HK, ← unhide H1, ← unhide H2, ← unhide H3]
  simp [or_assoc]

set_option maxHeartbeats 1000000 in
theorem l2Kind_any (b off cap : Nat) (xs : List OpR) (t : ByteArray) (w : World) (hm : xs.length ≤ 1048576) (hw : Ops w b off xs) (hB : b < w.heap.size) (hk : Kinds xs) (hs : t.size ≤ maxLen) :
    Calls Try.prog 30 #[.agg #[.slice (some ⟨b, off, none⟩) xs.length cap], .string t] w fun e w' => e = .returned (.int .i64 (kindT xs t : Int)) ∧ Below w.heap.size w w' := by
  have HK := hide hk
  have HW := hide hw
  clear hk hw
  go_enter Try.func30, Try.ntmps30
  go_wp2_with fail
  refine (l2IsNumber_any t _ hs).mono ?_
  rintro e w1 ⟨⟨v1, rfl, hv1⟩, rfl⟩
  have V1 := hide hv1
  clear hv1
  cases v1
  case true =>
    go_wp2_with fail
    go_ret
    exact ⟨ret_int (by have := (unhide V1).1 rfl; simp [kindT, numB_iff, this]), by first | exact below1 _ _ | exact Below.refl _ _⟩
  have n1 := hide (show ¬ NumT t from fun h => Bool.false_ne_true ((unhide V1).2 h))
  clear V1
  go_wp2_with fail
  refine (l2IsName_any t _ hs).mono ?_
  rintro e w1 ⟨⟨v2, rfl, hv2⟩, rfl⟩
  have V2 := hide hv2
  clear hv2
  cases v2
  case true =>
    go_wp2_with fail
    go_ret
    exact ⟨ret_int (by have := (unhide V2).1 rfl; have := unhide n1; simp [kindT, numB_iff, nameB_iff, *]), by first | exact below1 _ _ | exact Below.refl _ _⟩
  have n2 := hide (show ¬ NameT t from fun h => Bool.false_ne_true ((unhide V2).2 h))
  clear V2
  by_cases e4 : t = ⟨#[40]⟩
  · subst e4
    go_wp2_with fail
    go_ret
    exact ⟨ret_int (by have := unhide n1; have := unhide n2; simp [kindT, numB_iff, nameB_iff, *]), by first | exact below1 _ _ | exact Below.refl _ _⟩
  by_cases e5 : t = ⟨#[41]⟩
  · subst e5
    go_wp2_with fail
    go_ret
    exact ⟨ret_int (by have := unhide n1; have := unhide n2; simp [kindT, numB_iff, nameB_iff, *]), by first | exact below1 _ _ | exact Below.refl _ _⟩
  have q4 : (t.toList == [40]) = false := by
    rw [beq_eq_false_iff_ne]
    exact fun h => e4 (bytes_inj (h.trans (by rw [ByteArray.toList_eq])))
  have q5 : (t.toList == [41]) = false := by
    rw [beq_eq_false_iff_ne]
    exact fun h => e5 (bytes_inj (h.trans (by rw [ByteArray.toList_eq])))
  have E4 := hide e4
  have E5 := hide e5
  clear e4 e5
  go_wp2_with fail
  refine (l2IsOp_any b off cap xs t _ hm ((unhide HW).below (below1 _ _) hB) (by simp; omega) (unhide HK)).mono ?_
  rintro e w2 ⟨⟨v3, rfl, hv3⟩, hb2⟩
  have V3 := hide hv3
  clear hv3
  have bel2 : Below w.heap.size w w2 := (below1 _ _).trans (hb2.mono (by simp))
  cases v3
  · go_wp2_with fail
    go_ret
    refine ⟨ret_int ?_, bel2⟩
    have n3 : ¬ opT xs t := fun h => Bool.false_ne_true ((unhide V3).2 h)
    simp [kindT, numB_iff, nameB_iff, opB_iff, data_eq, unhide n1, unhide n2, unhide E4, unhide E5, n3]
  · go_wp2_with fail
    go_ret
    refine ⟨ret_int ?_, bel2⟩
    have n3 : opT xs t := (unhide V3).1 rfl
    simp [kindT, numB_iff, nameB_iff, opB_iff, data_eq, unhide n1, unhide n2, unhide E4, unhide E5, n3]

set_option maxHeartbeats 1000000 in
theorem l2Reach_any (s : ByteArray) (i : Nat) (w : World) (hs : s.size ≤ 1048576) (hi : i < s.size) :
    Calls Try.prog 47 #[.string s, .int .i64 (i : Int)] w fun e w' => (∃ r : Nat, e = .returned (.int .i64 (r : Int)) ∧ Reach s i r) ∧ w' = w := by
  have hbi := hide (bt_get hi)
  cases hsg : sgB s[i]
  · go_enter Try.func47, Try.ntmps47
    go_wp2_with (go_at_call 66; refine (l1IsSign_any _ _).mono ?_; rintro e w' ⟨rfl, rfl⟩)
    have hs6 := hide (show cls (bt s i) ≠ 6 from fun h => by
      rw [bt_get hi, cls_sg, decide_eq_false_iff_not] at hsg
      exact hsg h)
    go_loop [5] (fun n => ∃ k : Nat, 1 ≤ k ∧ i + k ≤ s.size ∧ n = .int .i64 (k : Int) ∧ Hid (k = 1 ∨ ((cls (bt s i) = 2 ∨ cls (bt s i) = 3) ∧ ∀ j, j < k → (cls (bt s (i + j)) = 2 ∨ cls (bt s (i + j)) = 3)))) (fun n => s.size - (intOf n).toNat)
    case atStart => exact ⟨1, Nat.le_refl _, by omega, rfl, hide (Or.inl rfl)⟩
    case round =>
      obtain ⟨k, hk1, hk, rfl, hn⟩ := hrel
      by_cases hlt : i + k < s.size
      · have GO := hide (show ∀ (_ : cls s[i] = 2 ∨ cls s[i] = 3) (_ : cls s[i + k] = 2 ∨ cls s[i + k] = 3), (k + 1 = 1 ∨ ((cls (bt s i) = 2 ∨ cls (bt s i) = 3) ∧ ∀ j, j < k + 1 → (cls (bt s (i + j)) = 2 ∨ cls (bt s (i + j)) = 3))) from fun h1 h2 => by
          rw [bt_get hi] at h1
          rw [bt_get hlt] at h2
          refine Or.inr ⟨h1, fun j hj => ?_⟩
          by_cases e : j = k
          · subst e; exact h2
          · rcases unhide hn with x | x
            · have : j = 0 := by omega
              subst this
              exact h1
            · exact x.2 j (by omega))
        have STOP := hide (show ∀ (_ : ¬ ((cls s[i] = 2 ∨ cls s[i] = 3) ∧ (cls s[i + k] = 2 ∨ cls s[i + k] = 3))), Reach s i k from fun h => by
          rw [bt_get hi, bt_get hlt] at h
          have h6 := unhide hs6
          refine ⟨hk1, hk, Or.inr ?_⟩
          by_cases ha : cls (bt s i) = 2 ∨ cls (bt s i) = 3
          · refine Or.inl ⟨ha, fun j hj => ?_, fun _ hx => h ⟨ha, hx⟩⟩
            rcases unhide hn with x | x
            · have : j = 0 := by omega
              subst this
              exact ha
            · exact x.2 j hj
          · refine Or.inr ⟨⟨h6, by omega, by omega⟩, ?_⟩
            rcases unhide hn with x | x
            · exact x
            · exact absurd x.1 ha)
        clear hn
        go_wp2_with (first | (go_at_call 67; refine (l2Letter_any _ _).mono ?_; rintro e w' ⟨rfl, rfl⟩) | (go_at_call 68; refine (l2Digit_any _ _).mono ?_; rintro e w' ⟨rfl, rfl⟩))
        all_goals
          first
            | (refine ⟨⟨k + 1, ?_, ?_, ?_, hide ((unhide GO) ?_ ?_)⟩, ?_⟩
               · omega
               · omega
               · go_num
               · simp [*]
               · simp [*]
               · simp [intOf]; omega)
            | (go_ret
               refine ⟨⟨k, rfl, (unhide STOP) ?_⟩, rfl⟩
               simp [*])
      · have STOP := hide (show Reach s i k from by
          have h6 := unhide hs6
          refine ⟨hk1, hk, Or.inr ?_⟩
          by_cases ha : cls (bt s i) = 2 ∨ cls (bt s i) = 3
          · refine Or.inl ⟨ha, fun j hj => ?_, fun hx => absurd hx hlt⟩
            rcases unhide hn with x | x
            · have : j = 0 := by omega
              subst this
              exact ha
            · exact x.2 j hj
          · refine Or.inr ⟨⟨h6, by omega, by omega⟩, ?_⟩
            rcases unhide hn with x | x
            · exact x
            · exact absurd x.1 ha)
        go_wp2
        go_ret
        exact ⟨⟨k, rfl, unhide STOP⟩, rfl⟩
  · have hs6 := hide (show cls (bt s i) = 6 by
      rw [bt_get hi, cls_sg] at hsg
      simpa using hsg)
    by_cases h16 : s.size - i < 16
    · go_enter Try.func47, Try.ntmps47
      go_wp2_with (go_at_call 66; refine (l1IsSign_any _ _).mono ?_; rintro e w' ⟨rfl, rfl⟩)
      go_ret
      exact ⟨⟨s.size - i, ret_int (by omega), ⟨by omega, by omega, Or.inl ⟨unhide hs6, by omega, Or.inr (by omega)⟩⟩⟩, rfl⟩
    · go_enter Try.func47, Try.ntmps47
      go_wp2_with (go_at_call 66; refine (l1IsSign_any _ _).mono ?_; rintro e w' ⟨rfl, rfl⟩)
      go_ret
      exact ⟨⟨16, rfl, ⟨by omega, by omega, Or.inl ⟨unhide hs6, by omega, Or.inl rfl⟩⟩⟩, rfl⟩

set_option maxHeartbeats 1000000 in
theorem l2Longest_any (b off cap : Nat) (xs : List OpR) (s : ByteArray) (i : Nat) (w : World) (hm : xs.length ≤ 1048576) (hw : Ops w b off xs) (hB : b < w.heap.size) (hk : Kinds xs) (hs : s.size ≤ 1048576) (hi : i < s.size) :
    Calls Try.prog 29 #[.agg #[.slice (some ⟨b, off, none⟩) xs.length cap], .string s, .int .i64 (i : Int)] w fun e w' => (∃ r : Nat, e = .returned (.int .i64 (r : Int)) ∧ Longest xs s i r) ∧ Below w.heap.size w w' := by
  have HK := hide hk
  have HW := hide hw
  clear hk hw
  go_enter Try.func29, Try.ntmps29
  go_wp2_with fail
  refine (l2Reach_any s i _ hs hi).mono ?_
  rintro e w1 ⟨⟨m, rfl, hm1⟩, rfl⟩
  have HR := hide hm1
  have hms : i + m ≤ s.size := hm1.2.1
  have hm0 : 1 ≤ m := hm1.1
  clear hm1
  go_wp2_with fail
  go_loopw [7] (fun n wr => ∃ k : Nat, 1 ≤ k ∧ k ≤ m ∧ n = .int .i64 (k : Int) ∧ Hid (∀ q, k < q → q ≤ m → kindT xs (sub s i q) = 6) ∧ Below (w.heap.size + 1) (w.alloc (.cells #[.slice (some ⟨b, off, none⟩) xs.length cap] 25)) wr) (fun n _ => (intOf n).toNat)
  case atStart => exact ⟨m, hm0, Nat.le_refl _, rfl, hide (fun q h1 h2 => by omega), Below.refl _ _⟩
  case round =>
    obtain ⟨k, hk1, hkm, rfl, hn, hbel⟩ := hrel
    have hbw : Below w.heap.size w wr := (below1 _ _).trans (hbel.mono (by omega))
    have zw : w.heap.size < wr.heap.size := by have := hbel.size; simp at this; omega
    have c0 : wr.cell? ⟨w.heap.size, 0, none⟩ = some (.slice (some ⟨b, off, none⟩) xs.length cap) := by
      rw [hbel.cell (p := ⟨w.heap.size, 0, none⟩) (show w.heap.size < _ by omega)]; simp [go_sem]
    have zb : b < wr.heap.size := by omega
    by_cases hlt : 1 < k
    · have hltI : (1 : Int) < (k : Int) := by omega
      have hik : i + k ≤ s.size := by omega
      have hwr : IntKind.i64.wrap ((i : Int) + (k : Int)) = (i : Int) + (k : Int) := by rw [IntKind.wrap_i64]; omega
      have hs1 : (i : Int) ≤ (i : Int) + (k : Int) := by omega
      have hs2 : (i : Int) + (k : Int) ≤ (s.size : Int) := by omega
      have hs3 : (0 : Int) ≤ (i : Int) + (k : Int) := by omega
      have htn : ((i : Int) + (k : Int)).toNat = i + k := by omega
      go_wp2_with fail
      go_region_held (fun w' => w'.cell? ⟨w.heap.size, 0, none⟩ = some (.slice (some ⟨b, off, none⟩) xs.length cap)) (go_keep)
        (first | (go_at_call 30; refine (l2Kind_any b off cap xs (sub s i k) _ hm ((unhide HW).below hbw.drew hB) zb (unhide HK) (by rw [sub_size hik]; unfold maxLen; omega)).mono ?_; rintro e w2 ⟨rfl, hb2⟩; have c2 := (hb2.cell (p := ⟨w.heap.size, 0, none⟩) zw).trans (show wr.drew.cell? ⟨w.heap.size, 0, none⟩ = _ from c0)))
      have hbel2 := hbel.drew.trans (hb2.mono zw)
      have hbw2 : Below w.heap.size w w2 := (below1 _ _).trans (hbel2.mono (by omega))
      by_cases h6 : kindT xs (sub s i k) = 6
      · have h6' : ((kindT xs (sub s i k) : Int) != 6) = false := by simp [h6]
        have H6 := hide h6
        clear h6
        go_wp2
        refine ⟨⟨k - 1, by omega, by omega, ?_, hide (fun q h1 h2 => ?_), hbel2⟩, ?_⟩
        · first | (go_num; done) | (congr 1; omega)
        · by_cases e : q = k
          · subst e; exact unhide H6
          · exact (unhide hn) q (by omega) h2
        · simp [intOf]; omega
      · have h6' : ((kindT xs (sub s i k) : Int) != 6) = true := by simp; omega
        have H6 := hide h6
        clear h6
        go_wp2
        go_ret
        exact ⟨⟨k, rfl, ⟨hk1, Or.inr (unhide H6), m, unhide HR, hkm, unhide hn⟩⟩, hbw2⟩
    · have hk1' : k = 1 := by omega
      subst hk1'
      go_wp2
      go_ret
      exact ⟨⟨1, rfl, ⟨Nat.le_refl _, Or.inl rfl, m, unhide HR, hkm, unhide hn⟩⟩, hbw⟩
end Go.Proofs.Ytokabkhnidlcnaa
