import Derived.Maps.OwnSet
import Derived.DeepKeys4
import Derived.Test.YtfboipappaonhaaGreatU06
import Derived.Test.YtfboipappaonhaaGreatU10
import Derived.Test.YtfboipappaonhaaGreatU21

/-
  Rows of numbers.
-/
namespace Go.Proofs.YtfboipappaonhaaGreat
set_option maxRecDepth 100000
open Go.RowKit

def atI (xs : List Int) (i : Nat) : Int := xs.getD i 0
def cellsI (l : List Int) : List Value := l.map fun n => .int .i64 n
theorem cellsI_len (l : List Int) : (cellsI l).length = l.length := by simp [cellsI]
theorem cellsI_append (l l' : List Int) : cellsI (l ++ l') = cellsI l ++ cellsI l' := by simp [cellsI]
theorem cellsI_one (l : List Int) : ∀ u ∈ cellsI l, u.oneCell' = true := by
  intro u hu
  simp only [cellsI, List.mem_map] at hu
  obtain ⟨b, _, rfl⟩ := hu
  rfl
theorem cellsI_at (l : List Int) (i : Nat) (h : i < l.length) : (cellsI l)[i]? = some (.int .i64 (atI l i)) := by
  simp [cellsI, atI, h]

/-- A row of numbers of which k lie there; all its cells may be written. -/
def FilledI (w : World) (g : Nat) (xs : List Int) (k : Nat) : Prop :=
  g < w.heap.size ∧ w.there g 0 xs.length ∧ ∀ i, i < k → w.cell? ⟨g, i, none⟩ = some (.int .i64 (atI xs i))

theorem FilledI.grown {w w' : World} {g k : Nat} {xs : List Int} {row : Option Nat} (h : FilledI w g xs k) (hg : w.grownBy w' row) (hne : some g ≠ row) : FilledI w' g xs k := by
  obtain ⟨h1, h2, h3⟩ := h
  have hb := hg.block g h1 hne
  have e : ∀ o, w'.cell? ⟨g, o, none⟩ = w.cell? ⟨g, o, none⟩ := fun o => World.cell?_of_block (w := w) hb
  have f : ∀ o, w'.frozen? ⟨g, o, none⟩ = w.frozen? ⟨g, o, none⟩ := fun o => World.frozen?_of_block (w := w) hb
  exact ⟨Nat.lt_of_lt_of_le h1 hg.size, fun j hj => ⟨by rw [e]; exact (h2 j hj).1, by rw [f]; exact (h2 j hj).2⟩, fun i hi => (e _).trans (h3 i hi)⟩

theorem FilledI.step {w w' : World} {g k : Nat} {xs : List Int} (h : FilledI w g xs k) (hb : Below w.heap.size w w') : FilledI w' g xs k := h.grown (grown_bel hb none) (by simp)

/-- A row that the call owns, as a filled one. -/
theorem owns_filledI {w : World} {base g cap : Nat} {e : TypeId} {zs : List Int} (h : w.ownsRow base e 1 (.slice (some ⟨g, 0, none⟩) zs.length cap) zs.length (cellsI zs)) : base ≤ g ∧ FilledI w g zs zs.length := by
  have hlt := h.lt g rfl
  refine ⟨hlt.1, hlt.2, fun j hj => ⟨?_, h.frozenAt _⟩, fun i hi => ?_⟩
  · rw [h.cellAt (0 + j) (by omega)]
    have : 0 + j < (cellsI zs).length := by rw [cellsI_len]; omega
    rw [List.getElem?_eq_getElem this]
    rfl
  · exact (h.cellAt i (by omega)).trans (cellsI_at zs i hi)

/-- A list of numbers that a call has made. -/
def OwnedI (w : World) (n : Nat) (a : Option Addr) (us : List Int) : Prop := (us.length = 0 ∧ a = none) ∨ ∃ g, a = some ⟨g, 0, none⟩ ∧ n ≤ g ∧ FilledI w g us us.length
def MarkedI (w : World) (a : Option Addr) (k n : Nat) : Prop := (n = 0 ∧ a = none) ∨ ∃ g, a = some ⟨g, 0, none⟩ ∧ FilledI w g ((List.range n).map fun i => ((k + i : Nat) : Int)) n

theorem OwnedI.grown {w w' : World} {n : Nat} {a : Option Addr} {us : List Int} {row : Option Nat} (h : OwnedI w n a us) (hg : w.grownBy w' row) (hr : ∀ k, row = some k → k < n) : OwnedI w' n a us := by
  rcases h with h | ⟨g, rfl, hn, hf⟩
  · exact Or.inl h
  · exact Or.inr ⟨g, rfl, hn, hf.grown hg (fun e => by have := hr g e.symm; omega)⟩
theorem OwnedI.step {w w' : World} {n : Nat} {a : Option Addr} {us : List Int} (h : OwnedI w n a us) (hb : Below w.heap.size w w') : OwnedI w' n a us :=
  h.grown (grown_bel hb none) (fun k hk => by cases hk)
theorem OwnedI.lt {w : World} {n : Nat} {a : Option Addr} {us : List Int} (h : OwnedI w n a us) : ∀ k, a.map (·.block) = some k → n ≤ k ∧ k < w.heap.size := by
  rcases h with ⟨_, rfl⟩ | ⟨g, rfl, hn, hf⟩
  · intro k hk; cases hk
  · intro k hk; injection hk with hk; subst hk; exact ⟨hn, hf.1⟩
theorem MarkedI.grown {w w' : World} {a : Option Addr} {k n : Nat} {row : Option Nat} (h : MarkedI w a k n) (hg : w.grownBy w' row) (hne : ∀ q, a.map (·.block) = some q → some q ≠ row) : MarkedI w' a k n := by
  rcases h with h | ⟨g, rfl, hf⟩
  · exact Or.inl h
  · exact Or.inr ⟨g, rfl, hf.grown hg (hne g rfl)⟩
theorem MarkedI.step {w w' : World} {a : Option Addr} {k n : Nat} (h : MarkedI w a k n) (hb : Below w.heap.size w w') : MarkedI w' a k n :=
  h.grown (grown_bel hb none) (fun q _ => by simp)

/-- Numbers that can be read: nil and empty, or their cells lie there. -/
def ArgI (w : World) (a : Option Addr) (us : List Int) : Prop := us.length = 0 ∨ ∃ g, a = some ⟨g, 0, none⟩ ∧ g < w.heap.size ∧ ∀ i, i < us.length → w.cell? ⟨g, i, none⟩ = some (.int .i64 (atI us i))
theorem FilledI.arg {w : World} {g : Nat} {us : List Int} (h : FilledI w g us us.length) : ArgI w (some ⟨g, 0, none⟩) us := Or.inr ⟨g, rfl, h.1, h.2.2⟩
theorem OwnedI.arg {w : World} {n : Nat} {a : Option Addr} {us : List Int} (h : OwnedI w n a us) : ArgI w a us := by
  rcases h with ⟨h, _⟩ | ⟨g, rfl, _, hf⟩
  · exact Or.inl h
  · exact hf.arg

end Go.Proofs.YtfboipappaonhaaGreat

/-
  Walks: the specification's longest token.
-/
namespace Go.Proofs.YtfboipappaonhaaGreat
set_option maxRecDepth 100000
open Go.RowKit

/-- Each operator is of one of the three kinds. -/
def Kinds (xs : List OpR) : Prop := ∀ j, j < xs.length → ((atO xs j).k = 1 ∨ (atO xs j).k = 2 ∨ (atO xs j).k = 3)

theorem kinds_of {xs : List OpR} (h : okTo xs xs.length) : Kinds xs := fun j hj => by
  obtain ⟨_, h⟩ := ok_shape _ _ _ _ (h j hj)
  omega

theorem opT_kinds {xs : List OpR} {t : ByteArray} (h : Kinds xs) : opT xs t ↔ ((∃ j, j < xs.length ∧ (atO xs j).s = t ∧ (atO xs j).k = 1) ∨ (∃ j, j < xs.length ∧ (atO xs j).s = t ∧ (atO xs j).k = 2) ∨ (∃ j, j < xs.length ∧ (atO xs j).s = t ∧ (atO xs j).k = 3)) := by
  constructor
  · rintro ⟨j, hj, e⟩
    rcases h j hj with k | k | k
    · exact Or.inl ⟨j, hj, e, k⟩
    · exact Or.inr (Or.inl ⟨j, hj, e, k⟩)
    · exact Or.inr (Or.inr ⟨j, hj, e, k⟩)
  · rintro (⟨j, hj, e, _⟩ | ⟨j, hj, e, _⟩ | ⟨j, hj, e, _⟩)
    · exact ⟨j, hj, e⟩
    · exact ⟨j, hj, e⟩
    · exact ⟨j, hj, e⟩

set_option maxHeartbeats 1000000 in
theorem l2IsOp_any (b off cap : Nat) (xs : List OpR) (t : ByteArray) (w : World) (hm : xs.length ≤ 1048576) (hw : Ops w b off xs) (hB : b < w.heap.size) (hk : Kinds xs) :
    Calls Tryz.prog 147 #[.agg #[.slice (some ⟨b, off, none⟩) xs.length cap], .string t] w fun e w' => RetB e (opT xs t) ∧ Below w.heap.size w w' := by
  have HK := hide (opT_kinds (t := t) hk)
  have HW := hide hw
  clear hk hw
  go_enter Tryz.func147, Tryz.ntmps147
  go_wp2_with fail
  refine (l2Find_any b off cap xs t 1 _ hm ((unhide HW).below (below1 _ _) hB) (by simp; omega)).mono ?_
  rintro e w1 ⟨⟨r1, rfl, hr1⟩, hb1⟩
  have z1 : w.heap.size < w1.heap.size := by have := hb1.size; simp at this; omega
  have c1 : w1.cell? ⟨w.heap.size, 0, none⟩ = some (.slice (some ⟨b, off, none⟩) xs.length cap) := by rw [hb1.cell (p := ⟨w.heap.size, 0, none⟩) (by simp)]; simp [go_sem]
  have bel1 : Below w.heap.size w w1 := (below1 _ _).trans (hb1.mono (by simp))
  have H1 := hide hr1
  clear hr1 hb1
  by_cases p1 : 0 ≤ r1
  · go_wp2_with fail
    go_ret
    exact ⟨⟨true, rfl, ⟨fun _ => (unhide HK).2 (Or.inl ((unhide H1).1 p1)), fun _ => rfl⟩⟩, bel1⟩
  go_wp2_with fail
  refine (l2Find_any b off cap xs t 2 _ hm ((unhide HW).below bel1 hB) (by omega)).mono ?_
  rintro e w2 ⟨⟨r2, rfl, hr2⟩, hb2⟩
  have c2 : w2.cell? ⟨w.heap.size, 0, none⟩ = some (.slice (some ⟨b, off, none⟩) xs.length cap) := (hb2.cell (p := ⟨w.heap.size, 0, none⟩) z1).trans c1
  have bel2 := bel1.trans (hb2.mono bel1.size)
  have H2 := hide hr2
  clear hr2 hb2 c1
  by_cases p2 : 0 ≤ r2
  · go_wp2_with fail
    go_ret
    exact ⟨⟨true, rfl, ⟨fun _ => (unhide HK).2 (Or.inr (Or.inl ((unhide H2).1 p2))), fun _ => rfl⟩⟩, bel2⟩
  go_wp2_with fail
  refine (l2Find_any b off cap xs t 3 _ hm ((unhide HW).below bel2 hB) (by have := bel2.size; omega)).mono ?_
  rintro e w3 ⟨⟨r3, rfl, hr3⟩, hb3⟩
  have bel3 := bel2.trans (hb3.mono bel2.size)
  have H3 := hide hr3
  clear hr3 hb3
  go_wp2_with fail
  go_ret
  refine ⟨⟨decide (0 ≤ r1) || decide (0 ≤ r2) || decide (0 ≤ r3), rfl, ?_⟩, bel3⟩
  unfold Says
  rw [unhide HK, ← unhide H1, ← unhide H2, ← unhide H3]
  simp [or_assoc]

set_option maxHeartbeats 1000000 in
theorem l2Kind_any (b off cap : Nat) (xs : List OpR) (t : ByteArray) (w : World) (hm : xs.length ≤ 1048576) (hw : Ops w b off xs) (hB : b < w.heap.size) (hk : Kinds xs) (hs : t.size ≤ maxLen) :
    Calls Tryz.prog 105 #[.agg #[.slice (some ⟨b, off, none⟩) xs.length cap], .string t] w fun e w' => e = .returned (.int .i64 (kindT xs t : Int)) ∧ Below w.heap.size w w' := by
  have HK := hide hk
  have HW := hide hw
  clear hk hw
  go_enter Tryz.func105, Tryz.ntmps105
  go_wp2_with fail
  refine (l2IsNumber_any t _ hs).mono ?_
  rintro e w1 ⟨⟨v1, rfl, hv1⟩, rfl⟩
  have V1 := hide hv1
  clear hv1
  cases v1
  case true =>
    go_wp2_with fail
    go_ret
    exact ⟨ret_int (by have := (unhide V1).1 rfl; simp [kindT, numB_iff, this]), by first | exact below1 _ _ | exact Below.refl _ _⟩
  have n1 := hide (show ¬ NumT t from fun h => Bool.false_ne_true ((unhide V1).2 h))
  clear V1
  go_wp2_with fail
  refine (l2IsName_any t _ hs).mono ?_
  rintro e w1 ⟨⟨v2, rfl, hv2⟩, rfl⟩
  have V2 := hide hv2
  clear hv2
  cases v2
  case true =>
    go_wp2_with fail
    go_ret
    exact ⟨ret_int (by have := (unhide V2).1 rfl; have := unhide n1; simp [kindT, numB_iff, nameB_iff, *]), by first | exact below1 _ _ | exact Below.refl _ _⟩
  have n2 := hide (show ¬ NameT t from fun h => Bool.false_ne_true ((unhide V2).2 h))
  clear V2
  by_cases e4 : t = ⟨#[40]⟩
  · subst e4
    go_wp2_with fail
    go_ret
    exact ⟨ret_int (by have := unhide n1; have := unhide n2; simp [kindT, numB_iff, nameB_iff, *]), by first | exact below1 _ _ | exact Below.refl _ _⟩
  by_cases e5 : t = ⟨#[41]⟩
  · subst e5
    go_wp2_with fail
    go_ret
    exact ⟨ret_int (by have := unhide n1; have := unhide n2; simp [kindT, numB_iff, nameB_iff, *]), by first | exact below1 _ _ | exact Below.refl _ _⟩
  have q4 : (t.toList == [40]) = false := by
    rw [beq_eq_false_iff_ne]
    exact fun h => e4 (bytes_inj (h.trans (by rw [ByteArray.toList_eq])))
  have q5 : (t.toList == [41]) = false := by
    rw [beq_eq_false_iff_ne]
    exact fun h => e5 (bytes_inj (h.trans (by rw [ByteArray.toList_eq])))
  have E4 := hide e4
  have E5 := hide e5
  clear e4 e5
  go_wp2_with fail
  refine (l2IsOp_any b off cap xs t _ hm ((unhide HW).below (below1 _ _) hB) (by simp; omega) (unhide HK)).mono ?_
  rintro e w2 ⟨⟨v3, rfl, hv3⟩, hb2⟩
  have V3 := hide hv3
  clear hv3
  have bel2 : Below w.heap.size w w2 := (below1 _ _).trans (hb2.mono (by simp))
  cases v3
  · go_wp2_with fail
    go_ret
    refine ⟨ret_int ?_, bel2⟩
    have n3 : ¬ opT xs t := fun h => Bool.false_ne_true ((unhide V3).2 h)
    simp [kindT, numB_iff, nameB_iff, opB_iff, data_eq, unhide n1, unhide n2, unhide E4, unhide E5, n3]
  · go_wp2_with fail
    go_ret
    refine ⟨ret_int ?_, bel2⟩
    have n3 : opT xs t := (unhide V3).1 rfl
    simp [kindT, numB_iff, nameB_iff, opB_iff, data_eq, unhide n1, unhide n2, unhide E4, unhide E5, n3]

set_option maxHeartbeats 1000000 in
theorem l2Reach_any (s : ByteArray) (i : Nat) (w : World) (hs : s.size ≤ 1048576) (hi : i < s.size) :
    Calls Tryz.prog 144 #[.string s, .int .i64 (i : Int)] w fun e w' => (∃ r : Nat, e = .returned (.int .i64 (r : Int)) ∧ Reach s i r) ∧ w' = w := by
  have hbi := hide (bt_get hi)
  cases hsg : sgB s[i]
  · go_enter Tryz.func144, Tryz.ntmps144
    go_wp2_with (go_at_call 154; refine (l1IsSign_any _ _).mono ?_; rintro e w' ⟨rfl, rfl⟩)
    have hs6 := hide (show cls (bt s i) ≠ 6 from fun h => by
      rw [bt_get hi, cls_sg, decide_eq_false_iff_not] at hsg
      exact hsg h)
    go_loop [5] (fun n => ∃ k : Nat, 1 ≤ k ∧ i + k ≤ s.size ∧ n = .int .i64 (k : Int) ∧ Hid (k = 1 ∨ ((cls (bt s i) = 2 ∨ cls (bt s i) = 3) ∧ ∀ j, j < k → (cls (bt s (i + j)) = 2 ∨ cls (bt s (i + j)) = 3)))) (fun n => s.size - (intOf n).toNat)
    case atStart => exact ⟨1, Nat.le_refl _, by omega, rfl, hide (Or.inl rfl)⟩
    case round =>
      obtain ⟨k, hk1, hk, rfl, hn⟩ := hrel
      by_cases hlt : i + k < s.size
      · have GO := hide (show ∀ (_ : cls s[i] = 2 ∨ cls s[i] = 3) (_ : cls s[i + k] = 2 ∨ cls s[i + k] = 3), (k + 1 = 1 ∨ ((cls (bt s i) = 2 ∨ cls (bt s i) = 3) ∧ ∀ j, j < k + 1 → (cls (bt s (i + j)) = 2 ∨ cls (bt s (i + j)) = 3))) from fun h1 h2 => by
          rw [bt_get hi] at h1
          rw [bt_get hlt] at h2
          refine Or.inr ⟨h1, fun j hj => ?_⟩
          by_cases e : j = k
          · subst e; exact h2
          · rcases unhide hn with x | x
            · have : j = 0 := by omega
              subst this
              exact h1
            · exact x.2 j (by omega))
        have STOP := hide (show ∀ (_ : ¬ ((cls s[i] = 2 ∨ cls s[i] = 3) ∧ (cls s[i + k] = 2 ∨ cls s[i + k] = 3))), Reach s i k from fun h => by
          rw [bt_get hi, bt_get hlt] at h
          have h6 := unhide hs6
          refine ⟨hk1, hk, Or.inr ?_⟩
          by_cases ha : cls (bt s i) = 2 ∨ cls (bt s i) = 3
          · refine Or.inl ⟨ha, fun j hj => ?_, fun _ hx => h ⟨ha, hx⟩⟩
            rcases unhide hn with x | x
            · have : j = 0 := by omega
              subst this
              exact ha
            · exact x.2 j hj
          · refine Or.inr ⟨⟨h6, by omega, by omega⟩, ?_⟩
            rcases unhide hn with x | x
            · exact x
            · exact absurd x.1 ha)
        clear hn
        go_wp2_with (first | (go_at_call 164; refine (l2Letter_any _ _).mono ?_; rintro e w' ⟨rfl, rfl⟩) | (go_at_call 165; refine (l2Digit_any _ _).mono ?_; rintro e w' ⟨rfl, rfl⟩))
        all_goals
          first
            | (refine ⟨⟨k + 1, ?_, ?_, ?_, hide ((unhide GO) ?_ ?_)⟩, ?_⟩
               · omega
               · omega
               · go_num
               · simp [*]
               · simp [*]
               · simp [intOf]; omega)
            | (go_ret
               refine ⟨⟨k, rfl, (unhide STOP) ?_⟩, rfl⟩
               simp [*])
      · have STOP := hide (show Reach s i k from by
          have h6 := unhide hs6
          refine ⟨hk1, hk, Or.inr ?_⟩
          by_cases ha : cls (bt s i) = 2 ∨ cls (bt s i) = 3
          · refine Or.inl ⟨ha, fun j hj => ?_, fun hx => absurd hx hlt⟩
            rcases unhide hn with x | x
            · have : j = 0 := by omega
              subst this
              exact ha
            · exact x.2 j hj
          · refine Or.inr ⟨⟨h6, by omega, by omega⟩, ?_⟩
            rcases unhide hn with x | x
            · exact x
            · exact absurd x.1 ha)
        go_wp2
        go_ret
        exact ⟨⟨k, rfl, unhide STOP⟩, rfl⟩
  · have hs6 := hide (show cls (bt s i) = 6 by
      rw [bt_get hi, cls_sg] at hsg
      simpa using hsg)
    by_cases h16 : s.size - i < 16
    · go_enter Tryz.func144, Tryz.ntmps144
      go_wp2_with (go_at_call 154; refine (l1IsSign_any _ _).mono ?_; rintro e w' ⟨rfl, rfl⟩)
      go_ret
      exact ⟨⟨s.size - i, ret_int (by omega), ⟨by omega, by omega, Or.inl ⟨unhide hs6, by omega, Or.inr (by omega)⟩⟩⟩, rfl⟩
    · go_enter Tryz.func144, Tryz.ntmps144
      go_wp2_with (go_at_call 154; refine (l1IsSign_any _ _).mono ?_; rintro e w' ⟨rfl, rfl⟩)
      go_ret
      exact ⟨⟨16, rfl, ⟨by omega, by omega, Or.inl ⟨unhide hs6, by omega, Or.inl rfl⟩⟩⟩, rfl⟩

set_option maxHeartbeats 1000000 in
theorem l2Longest_any (b off cap : Nat) (xs : List OpR) (s : ByteArray) (i : Nat) (w : World) (hm : xs.length ≤ 1048576) (hw : Ops w b off xs) (hB : b < w.heap.size) (hk : Kinds xs) (hs : s.size ≤ 1048576) (hi : i < s.size) :
    Calls Tryz.prog 104 #[.agg #[.slice (some ⟨b, off, none⟩) xs.length cap], .string s, .int .i64 (i : Int)] w fun e w' => (∃ r : Nat, e = .returned (.int .i64 (r : Int)) ∧ Longest xs s i r) ∧ Below w.heap.size w w' := by
  have HK := hide hk
  have HW := hide hw
  clear hk hw
  go_enter Tryz.func104, Tryz.ntmps104
  go_wp2_with fail
  refine (l2Reach_any s i _ hs hi).mono ?_
  rintro e w1 ⟨⟨m, rfl, hm1⟩, rfl⟩
  have HR := hide hm1
  have hms : i + m ≤ s.size := hm1.2.1
  have hm0 : 1 ≤ m := hm1.1
  clear hm1
  go_wp2_with fail
  go_loopw [7] (fun n wr => ∃ k : Nat, 1 ≤ k ∧ k ≤ m ∧ n = .int .i64 (k : Int) ∧ Hid (∀ q, k < q → q ≤ m → kindT xs (sub s i q) = 6) ∧ Below (w.heap.size + 1) (w.alloc (.cells #[.slice (some ⟨b, off, none⟩) xs.length cap] 25)) wr) (fun n _ => (intOf n).toNat)
  case atStart => exact ⟨m, hm0, Nat.le_refl _, rfl, hide (fun q h1 h2 => by omega), Below.refl _ _⟩
  case round =>
    obtain ⟨k, hk1, hkm, rfl, hn, hbel⟩ := hrel
    have hbw : Below w.heap.size w wr := (below1 _ _).trans (hbel.mono (by omega))
    have zw : w.heap.size < wr.heap.size := by have := hbel.size; simp at this; omega
    have c0 : wr.cell? ⟨w.heap.size, 0, none⟩ = some (.slice (some ⟨b, off, none⟩) xs.length cap) := by
      rw [hbel.cell (p := ⟨w.heap.size, 0, none⟩) (show w.heap.size < _ by omega)]; simp [go_sem]
    have zb : b < wr.heap.size := by omega
    by_cases hlt : 1 < k
    · have hltI : (1 : Int) < (k : Int) := by omega
      have hik : i + k ≤ s.size := by omega
      have hwr : IntKind.i64.wrap ((i : Int) + (k : Int)) = (i : Int) + (k : Int) := by rw [IntKind.wrap_i64]; omega
      have hs1 : (i : Int) ≤ (i : Int) + (k : Int) := by omega
      have hs2 : (i : Int) + (k : Int) ≤ (s.size : Int) := by omega
      have hs3 : (0 : Int) ≤ (i : Int) + (k : Int) := by omega
      have htn : ((i : Int) + (k : Int)).toNat = i + k := by omega
      go_wp2_with fail
      go_region_held (fun w' => w'.cell? ⟨w.heap.size, 0, none⟩ = some (.slice (some ⟨b, off, none⟩) xs.length cap)) (go_keep)
        (first | (go_at_call 105; refine (l2Kind_any b off cap xs (sub s i k) _ hm ((unhide HW).below hbw.drew hB) zb (unhide HK) (by rw [sub_size hik]; unfold maxLen; omega)).mono ?_; rintro e w2 ⟨rfl, hb2⟩; have c2 := (hb2.cell (p := ⟨w.heap.size, 0, none⟩) zw).trans (show wr.drew.cell? ⟨w.heap.size, 0, none⟩ = _ from c0)))
      have hbel2 := hbel.drew.trans (hb2.mono zw)
      have hbw2 : Below w.heap.size w w2 := (below1 _ _).trans (hbel2.mono (by omega))
      by_cases h6 : kindT xs (sub s i k) = 6
      · have h6' : ((kindT xs (sub s i k) : Int) != 6) = false := by simp [h6]
        have H6 := hide h6
        clear h6
        go_wp2
        refine ⟨⟨k - 1, by omega, by omega, ?_, hide (fun q h1 h2 => ?_), hbel2⟩, ?_⟩
        · first | (go_num; done) | (congr 1; omega)
        · by_cases e : q = k
          · subst e; exact unhide H6
          · exact (unhide hn) q (by omega) h2
        · simp [intOf]; omega
      · have h6' : ((kindT xs (sub s i k) : Int) != 6) = true := by simp; omega
        have H6 := hide h6
        clear h6
        go_wp2
        go_ret
        exact ⟨⟨k, rfl, ⟨hk1, Or.inr (unhide H6), m, unhide HR, hkm, unhide hn⟩⟩, hbw2⟩
    · have hk1' : k = 1 := by omega
      subst hk1'
      go_wp2
      go_ret
      exact ⟨⟨1, rfl, ⟨Nat.le_refl _, Or.inl rfl, m, unhide HR, hkm, unhide hn⟩⟩, hbw⟩
end Go.Proofs.YtfboipappaonhaaGreat

/-
  The index of a table: its two maps.
-/
namespace Go.Proofs.YtfboipappaonhaaGreat
set_option maxRecDepth 100000
open Go.RowKit Go.Maps

theorem laidOutT : laidOutB Tryz.prog = true := by kernel_rfl
theorem rowK : (161 : TypeId) < Tryz.prog.types.size := of_decide_eq_true (by kernel_rfl)
theorem wideK : (match Tryz.prog.underlying 161 with | some (.array _ _) | some (.struct _) => true | _ => false) = true := by kernel_rfl
theorem lawK : Keyed Tryz.prog 161 := Keyed.of_law (deep_law_laid laidOutT (m := 3) (by omega) rowK (by kernel_rfl) wideK)
theorem lawI : Keyed Tryz.prog 3 := int_keyed Tryz.underlying3
theorem keyTyK : Tryz.prog.keyType 161 = true := by kernel_rfl
theorem sizeTypes : Tryz.prog.types.size + 1 = (Tryz.prog.types.size - 1) + 1 + 1 := by
  have h : decide (1 ≤ Tryz.prog.types.size) = true := by kernel_rfl
  have := of_decide_eq_true h
  omega
theorem cellsK : Tryz.prog.cellsOf 161 = 2 := by kernel_rfl
theorem cells9 : Tryz.prog.cellsOf 9 = 1 := by kernel_rfl
theorem cells3 : Tryz.prog.cellsOf 3 = 1 := by kernel_rfl

/-- What a text and a kind read as, as a key. -/
def klO (s : ByteArray) (k : Int) : Lit := .string (keyBytes [.string s.data.toList, .int .i64 k])

theorem litsS {s : ByteArray} (hs : s.size ≤ maxLen) (d : Nat) : Tryz.prog.keyLits (d + 1) 9 [.string s] = some [.string s.data.toList] := by
  unfold Program.keyLits
  rw [Tryz.underlying9]
  exact if_pos hs

theorem litsI {k : Int} (hk : (Lit.int .i64 k).wf = true) (d : Nat) : Tryz.prog.keyLits (d + 1) 3 [.int .i64 k] = some [.int .i64 k] := by
  unfold Program.keyLits
  rw [Tryz.underlying3]
  exact if_pos ⟨rfl, hk⟩

theorem litsK {s : ByteArray} {k : Int} (hs : s.size ≤ maxLen) (hk : (Lit.int .i64 k).wf = true) (d : Nat) :
    Tryz.prog.keyLits (d + 1 + 1) 161 [.string s, .int .i64 k] = some [.string s.data.toList, .int .i64 k] := by
  conv => lhs; unfold Program.keyLits
  rw [Tryz.underlying161]
  simp [cellsK, cells9, cells3, litsS hs d, litsI hk d]

theorem keyK {s : ByteArray} {k : Int} (hs : s.size ≤ maxLen) (hk : (Lit.int .i64 k).wf = true) : keyOf Tryz.prog 161 (.agg #[.string s, .int .i64 k]) = some (klO s k) := by
  unfold keyOf
  rw [Tryz.underlying161]
  have hf : (Value.agg #[.string s, .int .i64 k]).formed Tryz.prog 161 = true := by simp [Value.formed, Tryz.underlying161, cellsK]
  have hl := litsK hs hk (Tryz.prog.types.size - 1)
  rw [← sizeTypes] at hl
  simp only [keyTyK, hf, Bool.and_self, if_true]
  show (Tryz.prog.keyLits (Tryz.prog.types.size + 1) 161 [.string s, .int .i64 k]).map _ = _
  rw [hl]
  rfl

theorem klO_inj {s t : ByteArray} {k k' : Int} (hs : s.size ≤ maxLen) (ht : t.size ≤ maxLen) (hk : (Lit.int .i64 k).wf = true) (hk' : (Lit.int .i64 k').wf = true) (h : klO s k = klO t k') : s = t ∧ k = k' := by
  have a := keyK hs hk
  have b := keyK ht hk'
  rw [← h] at b
  have := lawK.inj a b
  simpa using this

theorem keyI {l : Int} (h : (Lit.int .i64 l).wf = true) : keyOf Tryz.prog 3 (.int .i64 l) = some (.int .i64 l) := keyOf_int_mk Tryz.underlying3 h

/-- What is told of an operator in a map: all its fields. -/
def opDat (s : ByteArray) (k l sd : Int) : DataW Unit := .agg [.lit (.string s.data.toList), .lit (.int .i64 k), .lit (.int .i64 l), .lit (.int .i64 sd)]

/-- How an operator in a map reads. -/
def opElem (v : Value) : Option (DataW Unit × List MemPlace) :=
  match v with
  | .agg cs => match cs.toList with
    | [.string s, .int .i64 k, .int .i64 l, .int .i64 sd] => some (opDat s k l sd, [])
    | _ => none
  | _ => none

theorem opElem_mk (s : ByteArray) (k l sd : Int) : opElem (.agg #[.string s, .int .i64 k, .int .i64 l, .int .i64 sd]) = some (opDat s k l sd, []) := rfl

theorem opElem_inv {v : Value} {z : DataW Unit × List MemPlace} (h : opElem v = some z) : ∃ s k l sd, v = .agg #[.string s, .int .i64 k, .int .i64 l, .int .i64 sd] := by
  unfold opElem at h
  split at h
  · rename_i cs
    split at h
    · rename_i a b c d e
      obtain ⟨cs⟩ := cs
      simp only at e
      subst e
      exact ⟨_, _, _, _, rfl⟩
    · cases h
  · cases h

theorem opDat_inj {s s' : ByteArray} {k k' l l' sd sd' : Int} (h : opDat s k l sd = opDat s' k' l' sd') : s = s' ∧ k = k' ∧ l = l' ∧ sd = sd' := by
  unfold opDat at h
  simp only [DataW.agg.injEq, List.cons.injEq, DataW.lit.injEq, Lit.string.injEq, Lit.int.injEq, true_and, and_true] at h
  obtain ⟨h1, h2, h3, h4⟩ := h
  refine ⟨?_, h2, h3, h4⟩
  obtain ⟨⟨a⟩⟩ := s
  obtain ⟨⟨b⟩⟩ := s'
  simp only at h1
  rw [h1]

/-- What has been read is the operator that the data tell of. -/
theorem opElem_dat {v : Value} {s : ByteArray} {k l sd : Int} {ps : List MemPlace} (h : opElem v = some (opDat s k l sd, ps)) : v = .agg #[.string s, .int .i64 k, .int .i64 l, .int .i64 sd] := by
  obtain ⟨s', k', l', sd', rfl⟩ := opElem_inv h
  rw [opElem_mk] at h
  simp only [Option.some.injEq, Prod.mk.injEq] at h
  obtain ⟨rfl, rfl, rfl, rfl⟩ := opDat_inj h.1
  rfl

theorem zeroOp (w : World) : (zeroValue 123).run Tryz.prog w = .ok (.agg #[.string ⟨#[]⟩, .int .i64 0, .int .i64 0, .int .i64 0]) w := by kernel_rfl
theorem zeroInt (w : World) : (zeroValue 3).run Tryz.prog w = .ok (.int .i64 0) w := by kernel_rfl
end Go.Proofs.YtfboipappaonhaaGreat
