import Derived.Deep.QuietTactic
import Derived.BigQuiet
import Derived.WalkSmall
import Derived.Test.YtokabkhnidlcnabGreatDoorL01
import Derived.Test.YtokabkhnidlcnabGreatDoorL02
import Derived.Test.YtokabkhnidlcnabGreatDoorL03
import Derived.Test.YtokabkhnidlcnabGreatDoorL04
import Derived.Test.YtokabkhnidlcnabGreatDoorL05

/-
  Walks: sorts and clashes.
-/
namespace Go.Proofs.YtokabkhnidlcnabGreatDoor
set_option maxRecDepth 100000
open Go.RowKit

/-- The sort of an operator. -/
def srt (k sd : Int) : Int := if k = 1 then 2 else if k = 3 then 1 else sd

set_option maxHeartbeats 400000 in
theorem l1Sort_any (s : ByteArray) (k l sd : Int) (w : World) :
    Calls Tryz.prog 50 #[.agg #[.string s, .int .i64 k, .int .i64 l, .int .i64 sd]] w fun e w' => e = .returned (.int .i64 (srt k sd)) ∧ Below w.heap.size w w' := by
  by_cases h1 : k = 1
  · have h1' : (k == 1) = true := by simpa using h1
    have H := hide h1
    clear h1
    go_enter Tryz.func50, Tryz.ntmps50
    go_wp2
    go_ret
    exact ⟨ret_int (by simp [srt, unhide H]), below1 _ _⟩
  · by_cases h3 : k = 3
    · have h1' : (k == 1) = false := by simpa using h1
      have h3' : (k == 3) = true := by simpa using h3
      have H := hide h3
      clear h3 h1
      go_enter Tryz.func50, Tryz.ntmps50
      go_wp2
      go_ret
      exact ⟨ret_int (by simp [srt, unhide H]), below1 _ _⟩
    · have h1' : (k == 1) = false := by simpa using h1
      have h3' : (k == 3) = false := by simpa using h3
      go_enter Tryz.func50, Tryz.ntmps50
      go_wp2
      go_ret
      exact ⟨ret_int (by simp [srt, h1, h3]), below1 _ _⟩

theorem srt_ok {s : ByteArray} {k l sd : Int} (h : okB s k l sd = true) :
    (k = 3 ∨ sd = 1 → srt k sd = 1) ∧ (¬ (k = 3 ∨ sd = 1) → (k = 1 ∨ sd = 2) → srt k sd = 2) ∧ (¬ (k = 3 ∨ sd = 1) → ¬ (k = 1 ∨ sd = 2) → srt k sd = 3) := by
  obtain ⟨_, h⟩ := ok_shape s k l sd h
  unfold srt
  rcases h with ⟨rfl, rfl⟩ | ⟨rfl, rfl⟩ | ⟨rfl, rfl⟩ | ⟨rfl, rfl⟩ | ⟨rfl, rfl⟩ <;> decide

set_option maxHeartbeats 400000 in
theorem sortOf_any (s : ByteArray) (k l sd : Int) (w : World) (ho : okB s k l sd = true) :
    Calls Tryz.prog 86 #[.agg #[.string s, .int .i64 k, .int .i64 l, .int .i64 sd]] w fun e w' => e = .returned (.int .i64 (srt k sd)) ∧ Below w.heap.size w w' := by
  have ho' := hide (srt_ok ho)
  clear ho
  go_enter Tryz.func86, Tryz.ntmps86
  go_wp2
  all_goals (go_ret; refine ⟨ret_int ?_, below1 _ _⟩; obtain ⟨p1, p2, p3⟩ := unhide ho'; go_light; (try simp only [beq_iff_eq, beq_eq_false_iff_ne, ne_eq] at *); first | (rw [p1 (by omega)]) | (rw [p2 (by omega) (by omega)]) | (rw [p3 (by omega) (by omega)]))

set_option maxHeartbeats 400000 in
theorem l1Clash3_any (s t : ByteArray) (k l sd k' l' sd' : Int) (w : World) :
    Calls Tryz.prog 36 #[.agg #[.string s, .int .i64 k, .int .i64 l, .int .i64 sd], .agg #[.string t, .int .i64 k', .int .i64 l', .int .i64 sd'], .int .i64 3] w fun e w' => (∃ v, e = .returned (.bool v) ∧ (v = true ↔ (s = t ∧ (k = 1 ↔ k' = 1)))) ∧ Below w.heap.size w w' := by
  go_enter Tryz.func36, Tryz.ntmps36
  go_wp2
  · go_ret
    refine ⟨⟨_, rfl, ?_⟩, (below1 _ _).alloc (by simp) _⟩
    go_light
    have e := toList_inj ‹_›
    rw [beq_iff_eq, Bool.eq_iff_iff]
    simp [e]
  · go_ret
    refine ⟨⟨_, rfl, ?_⟩, (below1 _ _).alloc (by simp) _⟩
    go_light
    have e : s ≠ t := fun e => (‹¬ s.toList = t.toList›) (by rw [e])
    simp [e]

theorem two_boxes {w W w1 : World} (hb : Below W.heap.size W w1) (h : w.heap.size + 1 < W.heap.size) (hB : Below w.heap.size w W) :
    (∀ o, w1.cell? ⟨w.heap.size, o, none⟩ = W.cell? ⟨w.heap.size, o, none⟩) ∧ (∀ o, w1.cell? ⟨w.heap.size + 1, o, none⟩ = W.cell? ⟨w.heap.size + 1, o, none⟩) ∧ w.heap.size + 1 < w1.heap.size ∧ Below w.heap.size w w1 :=
  ⟨fun _ => hb.cell (p := ⟨_, _, none⟩) (show w.heap.size < _ by omega), fun _ => hb.cell (p := ⟨_, _, none⟩) h, Nat.lt_of_lt_of_le h hb.size, hB.trans (hb.mono (by omega))⟩

set_option maxHeartbeats 1000000 in
theorem l1Clash4_any (s t : ByteArray) (k l sd k' l' sd' : Int) (w : World) :
    Calls Tryz.prog 36 #[.agg #[.string s, .int .i64 k, .int .i64 l, .int .i64 sd], .agg #[.string t, .int .i64 k', .int .i64 l', .int .i64 sd'], .int .i64 4] w fun e w' => (∃ v, e = .returned (.bool v) ∧ (v = true ↔ (l = l' ∧ srt k sd ≠ srt k' sd'))) ∧ Below w.heap.size w w' := by
  by_cases hl : l = l'
  · have hl' : (l == l') = true := by simpa using hl
    have H := hide hl
    clear hl
    go_enter Tryz.func36, Tryz.ntmps36
    go_wp2_with fail
    go_region_held (fun w' => (w'.cell? ⟨w.heap.size, 0, none⟩ = some (.string s) ∧ w'.cell? ⟨w.heap.size, 1, none⟩ = some (.int .i64 k) ∧ w'.cell? ⟨w.heap.size, 2, none⟩ = some (.int .i64 l) ∧ w'.cell? ⟨w.heap.size, 3, none⟩ = some (.int .i64 sd)) ∧
      (w'.cell? ⟨w.heap.size + 1, 0, none⟩ = some (.string t) ∧ w'.cell? ⟨w.heap.size + 1, 1, none⟩ = some (.int .i64 k') ∧ w'.cell? ⟨w.heap.size + 1, 2, none⟩ = some (.int .i64 l') ∧ w'.cell? ⟨w.heap.size + 1, 3, none⟩ = some (.int .i64 sd'))) (go_keep)
      (first | (go_at_call 50; refine (l1Sort_any _ _ _ _ _).mono ?_; rintro e w1 ⟨rfl, hb1⟩; obtain ⟨t0, t1, z1, hB⟩ := two_boxes (w := w) hb1 (by first | assumption | (simp [heap_drew]; done)) (by first | assumption | exact ((below1 _ _).alloc (by simp) _).drew)))
    go_wp2
    go_ret
    refine ⟨⟨_, rfl, ?_⟩, hB⟩
    have e := unhide H
    simp [e]
  · have hl' : (l == l') = false := by simpa using hl
    go_enter Tryz.func36, Tryz.ntmps36
    go_wp2_with fail
    go_quiet (fail)
    go_wp2
    go_ret
    refine ⟨⟨_, rfl, ?_⟩, below_drewN ((below1 _ _).alloc (by simp) _) _⟩
    simp [hl]

/-- Two operators clash, by the code. -/
def cl (c : Int) (a b : OpR) : Prop := if c = 3 then (a.s = b.s ∧ (a.k = 1 ↔ b.k = 1)) else (a.l = b.l ∧ srt a.k a.sd ≠ srt b.k b.sd)

theorem l1Clash_any (a b : OpR) (c : Int) (w : World) (hc : c = 3 ∨ c = 4) :
    Calls Tryz.prog 36 #[.agg #[.string a.s, .int .i64 a.k, .int .i64 a.l, .int .i64 a.sd], .agg #[.string b.s, .int .i64 b.k, .int .i64 b.l, .int .i64 b.sd], .int .i64 c] w fun e w' => (∃ v, e = .returned (.bool v) ∧ (v = true ↔ cl c a b)) ∧ Below w.heap.size w w' := by
  rcases hc with rfl | rfl
  · exact l1Clash3_any _ _ _ _ _ _ _ _ _
  · exact l1Clash4_any _ _ _ _ _ _ _ _ _

/-- Some operator clashes with one in front of it. -/
def Pr (c : Int) (xs : List OpR) : Prop := ∃ i j, j < i ∧ i < xs.length ∧ cl c (atO xs i) (atO xs j)

/-- No operator ahead of place k clashes with one in front of it. -/
def NoPr (c : Int) (xs : List OpR) (k : Nat) : Prop := ∀ i j, j < i → i < k → ¬ cl c (atO xs i) (atO xs j)

theorem NoPr_succ {c : Int} {xs : List OpR} {k : Nat} (h : NoPr c xs k) (hk : ∀ j, j < k → ¬ cl c (atO xs k) (atO xs j)) : NoPr c xs (k + 1) := by
  intro i j hj hi
  by_cases e : i = k
  · subst e; exact hk j hj
  · exact h i j hj (by omega)

theorem NoPr_not {c : Int} {xs : List OpR} (h : NoPr c xs xs.length) : ¬ Pr c xs := fun ⟨i, j, hj, hi, hc⟩ => h i j hj hi hc

/-- The code of a table, as the document lists it. -/
def IsCode (xs : List OpR) (c : Int) : Prop :=
  (c = 1 ∧ 500 < xs.length) ∨ (xs.length ≤ 500 ∧ ((c = 2 ∧ ¬ okTo xs xs.length) ∨ (okTo xs xs.length ∧ ((c = 3 ∧ Pr 3 xs) ∨ (¬ Pr 3 xs ∧ ((c = 4 ∧ Pr 4 xs) ∨ (c = 0 ∧ ¬ Pr 4 xs)))))))

theorem IsCode_one {xs : List OpR} {c c' : Int} (h : IsCode xs c) (h' : IsCode xs c') : c = c' := by
  unfold IsCode at h h'
  by_cases a : 500 < xs.length
  · have a' : ¬ xs.length ≤ 500 := by omega
    simp only [a, a', and_true, false_and, or_false] at h h'
    omega
  · have a' : xs.length ≤ 500 := by omega
    by_cases b : okTo xs xs.length
    · by_cases p3 : Pr 3 xs
      · simp only [a, a', b, p3, and_true, and_false, true_and, false_and, or_false, false_or, not_true] at h h'
        omega
      · by_cases p4 : Pr 4 xs
        · simp only [a, a', b, p3, p4, and_true, and_false, true_and, or_false, false_or, not_true, not_false_iff] at h h'
          omega
        · simp only [a, a', b, p3, p4, and_true, and_false, true_and, false_or, not_true, not_false_iff] at h h'
          omega
    · simp only [a, a', b, and_true, and_false, true_and, false_and, or_false, false_or, not_false_iff] at h h'
      omega

/-- The box of a table, its operators, and all that was there. -/
structure Bx (w : World) (b off cap : Nat) (xs : List OpR) (wr : World) : Prop where
  box : wr.cell? ⟨w.heap.size, 0, none⟩ = some (.slice (some ⟨b, off, none⟩) xs.length cap)
  ops : Ops wr b off xs
  lt : w.heap.size < wr.heap.size
  blt : b < wr.heap.size
  bel : Below w.heap.size w wr

theorem Bx.step {w : World} {b off cap : Nat} {xs : List OpR} {wr w' : World} (h : Bx w b off cap xs wr) (hb : Below wr.heap.size wr w') : Bx w b off cap xs w' :=
  ⟨(hb.cell (p := ⟨_, _, none⟩) h.lt).trans h.box, h.ops.below hb h.blt, Nat.lt_of_lt_of_le h.lt hb.size, Nat.lt_of_lt_of_le h.blt hb.size, h.bel.trans (hb.mono (Nat.le_of_lt h.lt))⟩

theorem Bx.drew {w : World} {b off cap : Nat} {xs : List OpR} {wr : World} (h : Bx w b off cap xs wr) : Bx w b off cap xs wr.drew :=
  h.step (Below.refl _ _).drew

theorem Bx.start {w : World} {b off cap : Nat} {xs : List OpR} (h : Ops w b off xs) (hB : b < w.heap.size) (t : TypeId) : Bx w b off cap xs (w.alloc (.cells #[.slice (some ⟨b, off, none⟩) xs.length cap] t)) :=
  ⟨by simp [go_sem], h.below (below1 _ _) hB, by simp, by simp; omega, below1 _ _⟩
end Go.Proofs.YtokabkhnidlcnabGreatDoor

/-
  What Load answers.
-/
namespace Go.Proofs.YtokabkhnidlcnabGreatDoor
set_option maxRecDepth 100000
set_option linter.unusedSimpArgs false
set_option linter.unusedVariables false

/-- A module that was read. -/
structure UnR where
  us : List ByteArray
  os : List OpR
  b : ByteArray
def atU (U : List UnR) (i : Nat) : UnR := U.getD i ⟨[], [], ByteArray.empty⟩

/-- The first place with a name; as many as there are where there is none. -/
def nmF : List ModR → ByteArray → Nat
  | [], _ => 0
  | m :: r, u => if m.n = u then 0 else nmF r u + 1

theorem nmF_le : ∀ (ms : List ModR) (u : ByteArray), nmF ms u ≤ ms.length
  | [], _ => Nat.le_refl _
  | m :: r, u => by
    unfold nmF
    split
    · exact Nat.zero_le _
    · have := nmF_le r u; simp; omega

theorem atM_zero (m : ModR) (r : List ModR) : atM (m :: r) 0 = m := rfl
theorem atM_succ (m : ModR) (r : List ModR) (i : Nat) : atM (m :: r) (i + 1) = atM r i := by simp [atM]

theorem nmF_spec : ∀ (ms : List ModR) (u : ByteArray), (nmF ms u < ms.length → (atM ms (nmF ms u)).n = u) ∧ ∀ j, j < nmF ms u → (atM ms j).n ≠ u
  | [], _ => ⟨fun h => absurd h (Nat.not_lt_zero _), fun j h => absurd h (Nat.not_lt_zero _)⟩
  | m :: r, u => by
    obtain ⟨h1, h2⟩ := nmF_spec r u
    unfold nmF
    by_cases e : m.n = u
    · rw [if_pos e]
      exact ⟨fun _ => e, fun j h => absurd h (Nat.not_lt_zero _)⟩
    · rw [if_neg e]
      refine ⟨fun h => ?_, fun j h => ?_⟩
      · rw [atM_succ]
        exact h1 (by simpa using h)
      · cases j with
        | zero => exact e
        | succ j => rw [atM_succ]; exact h2 j (by omega)

/-- It is the place of a name that stands there first. -/
theorem nmF_one {ms : List ModR} {u : ByteArray} {k : Nat} (hk : k < ms.length) (h1 : (atM ms k).n = u) (h2 : ∀ j, j < k → (atM ms j).n ≠ u) : nmF ms u = k := by
  obtain ⟨g1, g2⟩ := nmF_spec ms u
  have hle := nmF_le ms u
  rcases Nat.lt_trichotomy (nmF ms u) k with h | h | h
  · exact absurd (g1 (by omega)) (h2 _ h)
  · exact h
  · exact absurd h1 (g2 k h)

theorem nmF_none {ms : List ModR} {u : ByteArray} (h : ∀ j, j < ms.length → (atM ms j).n ≠ u) : nmF ms u = ms.length := by
  have hle := nmF_le ms u
  by_cases e : nmF ms u < ms.length
  · exact absurd ((nmF_spec ms u).1 e) (h _ e)
  · omega

/-- All modules are read. -/
def UnitsOf (ms : List ModR) (U : List UnR) : Prop := U.length = ms.length ∧ ∀ i, i < ms.length → UnitIs (atM ms i).t (atU U i).us (atU U i).os (atU U i).b 0 0

/-- A module that can't be read, or has no good name. -/
def B2 (ms : List ModR) (i : Nat) : Prop := (∃ us os b c l, UnitIs (atM ms i).t us os b c l ∧ c ≠ 0) ∨ ¬ NameT (atM ms i).n ∨ 64 < (atM ms i).n.size
/-- A name that stands there already. -/
def B3 (ms : List ModR) (i : Nat) : Prop := ∃ j, j < i ∧ (atM ms j).n = (atM ms i).n
/-- A use of an unknown name. -/
def B4 (ms : List ModR) (U : List UnR) (i : Nat) : Prop := ∃ u ∈ (atU U i).us, ∀ j, j < ms.length → (atM ms j).n ≠ u
/-- Module i uses module j. -/
def Edg (ms : List ModR) (U : List UnR) (i j : Nat) : Prop := i < ms.length ∧ j < ms.length ∧ (atM ms j).n ∈ (atU U i).us
/-- The scopes. -/
def ScE (ms : List ModR) (U : List UnR) (S : Nat → List OpR) : Prop := ∀ i, i < ms.length → S i = scAcc (nmF ms) S (insAll [] (atU U i).os) (atU U i).us
/-- A scope that is not valid. -/
def B6 (S : Nat → List OpR) (i : Nat) : Prop := ∃ c, IsCode (S i) c ∧ c ≠ 0

/-- The first place that is bad, or what else there is. -/
def FirstB (n : Nat) (B : Nat → Prop) (P : Nat → Prop) (R : Prop) : Prop := (∃ i, i < n ∧ B i ∧ (∀ j, j < i → ¬ B j) ∧ P i) ∨ ((∀ i, i < n → ¬ B i) ∧ R)

/-- What comes behind the ways. -/
def LdSc (ms : List ModR) (U : List UnR) (out : List (List OpR)) (c who : Int) : Prop :=
  ∃ S : Nat → List OpR, ScE ms U S ∧ FirstB ms.length (B6 S) (fun i => out = [] ∧ c = 6 ∧ who = (i : Int)) (out = (List.range ms.length).map S ∧ c = 0 ∧ who = 0)
def LdWay (ms : List ModR) (U : List UnR) (out : List (List OpR)) (c who : Int) : Prop :=
  FirstB ms.length (fun i => TC (Edg ms U) i i) (fun i => out = [] ∧ c = 5 ∧ who = (i : Int)) (LdSc ms U out c who)
def LdUse (ms : List ModR) (out : List (List OpR)) (c who : Int) : Prop :=
  ∃ U, UnitsOf ms U ∧ FirstB ms.length (B4 ms U) (fun i => out = [] ∧ c = 4 ∧ who = (i : Int)) (LdWay ms U out c who)
def LdNam (ms : List ModR) (out : List (List OpR)) (c who : Int) : Prop :=
  FirstB ms.length (B3 ms) (fun i => out = [] ∧ c = 3 ∧ who = (i : Int)) (LdUse ms out c who)

/-- What Load answers. -/
def LoadIs (ms : List ModR) (out : List (List OpR)) (c who : Int) : Prop :=
  (100 < ms.length ∧ out = [] ∧ c = 1 ∧ who = 100) ∨ (ms.length ≤ 100 ∧ FirstB ms.length (B2 ms) (fun i => out = [] ∧ c = 2 ∧ who = (i : Int)) (LdNam ms out c who))

/-- The scopes hold declared operators alone, each once. -/
theorem ScE.nd {ms : List ModR} {U : List UnR} {S : Nat → List OpR} (h : ScE ms U S) {i : Nat} (hi : i < ms.length) : (S i).Nodup := by
  rw [h i hi]
  exact scAcc_nd _ _ _ _ (nd_insAll _ _ (by simp))
end Go.Proofs.YtokabkhnidlcnabGreatDoor

/-
  How many operators a module and a program may have.
-/
namespace Go.Proofs.YtokabkhnidlcnabGreatDoor
set_option maxRecDepth 100000
set_option linter.unusedSimpArgs false
set_option linter.unusedVariables false

theorem wdsFrom_len (l : ByteArray) : ∀ (n i : Nat), l.size - i < n → i ≤ l.size → 2 * (wdsFrom l i).length ≤ l.size - i + 1
  | 0, i, hn, hi => by omega
  | n + 1, i, hn, hi => by
    obtain ⟨g1, g2, _, _⟩ := nx_spec 32 l i hi
    rw [wdsFrom_step l i hi, List.length_append]
    have hr : 2 * (if nx 32 l i < l.size then wdsFrom l (nx 32 l i + 1) else []).length ≤ l.size - nx 32 l i := by
      by_cases h : nx 32 l i < l.size
      · rw [if_pos h]
        have := wdsFrom_len l n (nx 32 l i + 1) (by omega) (by omega)
        omega
      · rw [if_neg h]; simp
    by_cases h : i < nx 32 l i
    · rw [if_pos h]; simp only [List.length_cons, List.length_nil]; omega
    · rw [if_neg h]; simp only [List.length_nil]; omega

theorem wds_len (l : ByteArray) : 2 * (wds l).length ≤ l.size + 1 := by
  have := wdsFrom_len l (l.size + 1) 0 (by omega) (Nat.zero_le _)
  rw [wds_from]
  omega

def lnSum (ls : List (Nat × Nat)) : Nat := (ls.map fun p => p.2 - p.1).sum

theorem pcs_sum (c : UInt8) (s : ByteArray) : ∀ (n a : Nat), s.size - a < n → a ≤ s.size → lnSum (pcs c s a) ≤ s.size - a
  | 0, a, hn, ha => by omega
  | n + 1, a, hn, ha => by
    obtain ⟨g1, g2, _, _⟩ := nx_spec c s a ha
    rw [pcs_step c s a ha]
    simp only [lnSum, List.map_cons, List.sum_cons]
    by_cases h : nx c s a < s.size
    · rw [if_pos h]
      have := pcs_sum c s n (nx c s a + 1) (by omega) (by omega)
      simp only [lnSum] at this
      omega
    · rw [if_neg h]; simp; omega

theorem ext_le (s : ByteArray) (a b : Nat) : (s.extract a b).size ≤ b - a := by
  simp only [ByteArray.size_extract]; omega

theorem UnF.ops {s : ByteArray} : ∀ (ls : List (Nat × Nat)) (n : Nat) (us : List ByteArray) (os : List OpR) {u : List ByteArray} {o : List OpR} {b : ByteArray} {c l : Int}, UnF s ls n us os u o b c l → 5 * o.length ≤ 5 * os.length + lnSum ls ∧ (c = 0 → l = 0)
  | [], n, us, os, _, _, _, _, _, h => by
    obtain ⟨rfl, rfl, rfl, rfl, rfl⟩ := h
    exact ⟨by simp, fun _ => rfl⟩
  | p :: r, n, us, os, u, o, b, c, l, h => by
    simp only [lnSum, List.map_cons, List.sum_cons]
    rcases h with ⟨_, rfl, rfl, rfl, rfl, rfl⟩ | ⟨_, ⟨us', os', hl, h⟩ | ⟨_, rfl, rfl, rfl, rfl, rfl⟩⟩
    · exact ⟨by omega, fun _ => rfl⟩
    · have ih := UnF.ops r (n + 1) us' os' h
      refine ⟨?_, ih.2⟩
      have h1 := ih.1
      simp only [lnSum] at h1
      rcases hl with ⟨_, rfl, rfl⟩ | ⟨x, _, rfl, rfl⟩ | ⟨o', ho, rfl, rfl⟩
      · omega
      · omega
      · have h3 := ho.len
        have h4 := wds_len (s.extract p.1 p.2)
        have h5 := ext_le s p.1 p.2
        simp only [List.length_append, List.length_cons, List.length_nil] at h1
        omega
    · exact ⟨by simp, fun e => by cases e⟩

theorem unit_ops {s : ByteArray} {u : List ByteArray} {o : List OpR} {b : ByteArray} {c l : Int} (h : UnitIs s u o b c l) : o.length ≤ 4000 ∧ (c = 0 → l = 0) := by
  rcases h with ⟨_, rfl, rfl, rfl, rfl, rfl⟩ | ⟨h0, h⟩
  · exact ⟨by simp, fun e => by cases e⟩
  · have h1 := UnF.ops _ _ _ _ h
    have h2 := pcs_sum 10 s (s.size + 1) 0 (by omega) (Nat.zero_le _)
    exact ⟨by simp only [List.length_nil] at h1; omega, h1.2⟩

theorem pcs_len (c : UInt8) (s : ByteArray) : ∀ (n a : Nat), s.size - a < n → a ≤ s.size → (pcs c s a).length ≤ s.size - a + 1
  | 0, a, hn, ha => by omega
  | n + 1, a, hn, ha => by
    obtain ⟨g1, g2, _, _⟩ := nx_spec c s a ha
    rw [pcs_step c s a ha, List.length_cons]
    by_cases h : nx c s a < s.size
    · rw [if_pos h]
      have := pcs_len c s n (nx c s a + 1) (by omega) (by omega)
      omega
    · rw [if_neg h]; simp

theorem UnF.uses {s : ByteArray} : ∀ (ls : List (Nat × Nat)) (n : Nat) (us : List ByteArray) (os : List OpR) {u : List ByteArray} {o : List OpR} {b : ByteArray} {c l : Int}, UnF s ls n us os u o b c l → u.length ≤ us.length + ls.length ∧ ((∀ x ∈ us, x.size ≤ s.size) → ∀ x ∈ u, x.size ≤ s.size)
  | [], n, us, os, _, _, _, _, _, h => by
    obtain ⟨rfl, rfl, rfl, rfl, rfl⟩ := h
    exact ⟨by simp, fun _ x hx => by cases hx⟩
  | p :: r, n, us, os, u, o, b, c, l, h => by
    rcases h with ⟨_, rfl, rfl, rfl, rfl, rfl⟩ | ⟨_, ⟨us', os', hl, h⟩ | ⟨_, rfl, rfl, rfl, rfl, rfl⟩⟩
    · exact ⟨by simp, fun h => h⟩
    · have ih := UnF.uses r (n + 1) us' os' h
      rcases hl with ⟨_, rfl, rfl⟩ | ⟨x, hx, rfl, rfl⟩ | ⟨o', ho, rfl, rfl⟩
      · exact ⟨by have := ih.1; simp; omega, ih.2⟩
      · refine ⟨by have := ih.1; simp at this ⊢; omega, fun h0 => ih.2 (fun z hz => ?_)⟩
        rcases List.mem_append.1 hz with hz | hz
        · exact h0 z hz
        · have hm : z ∈ wds (s.extract p.1 p.2) := by rw [hx]; simp at hz; subst hz; simp
          unfold wds at hm
          obtain ⟨q, _, rfl⟩ := List.mem_map.1 hm
          simp only [ByteArray.size_extract]
          omega
      · exact ⟨by have := ih.1; simp; omega, ih.2⟩
    · exact ⟨by simp, fun _ x hx => by cases hx⟩

theorem unit_uses {s : ByteArray} {u : List ByteArray} {o : List OpR} {b : ByteArray} {c l : Int} (h : UnitIs s u o b c l) : u.length ≤ 20001 ∧ ∀ x ∈ u, x.size ≤ 20000 := by
  rcases h with ⟨_, rfl, rfl, rfl, rfl, rfl⟩ | ⟨h0, h⟩
  · exact ⟨by simp, fun x hx => by cases hx⟩
  · have h1 := UnF.uses _ _ _ _ h
    have h2 := pcs_len 10 s (s.size + 1) 0 (by omega) (Nat.zero_le _)
    exact ⟨by simp only [List.length_nil] at h1; omega, fun x hx => Nat.le_trans (h1.2 (fun y hy => by cases hy) x hx) h0⟩

/-- All declared operators. -/
def allOps (U : List UnR) : List OpR := U.flatMap fun u => u.os

theorem allOps_len : ∀ (U : List UnR), (∀ u ∈ U, u.os.length ≤ 4000) → (allOps U).length ≤ U.length * 4000
  | [], _ => by simp [allOps]
  | u :: r, h => by
    have := allOps_len r (fun x hx => h x (by simp [hx]))
    have h1 := h u (by simp)
    simp only [allOps, List.flatMap_cons, List.length_append, List.length_cons] at *
    omega

theorem atU_mem {U : List UnR} {i : Nat} (h : i < U.length) : atU U i ∈ U := by
  unfold atU
  rw [List.getD_eq_getElem?_getD, List.getElem?_eq_getElem h]
  exact List.getElem_mem h

theorem mem_atU {U : List UnR} {u : UnR} (h : u ∈ U) : ∃ i, i < U.length ∧ atU U i = u := by
  obtain ⟨i, hi, e⟩ := List.getElem_of_mem h
  refine ⟨i, hi, ?_⟩
  unfold atU
  rw [List.getD_eq_getElem?_getD, List.getElem?_eq_getElem hi]
  exact e

theorem UnitsOf.all {ms : List ModR} {U : List UnR} (h : UnitsOf ms U) (hn : ms.length ≤ 100) : (allOps U).length ≤ 400000 := by
  have := allOps_len U (fun u hu => by
    obtain ⟨i, hi, rfl⟩ := mem_atU hu
    exact (unit_ops (h.2 i (by rw [← h.1]; exact hi))).1)
  have h1 := h.1
  omega

/-- Units are determined. -/
theorem UnitsOf.one {ms : List ModR} {U U' : List UnR} (h : UnitsOf ms U) (h' : UnitsOf ms U') (i : Nat) (hi : i < ms.length) : atU U i = atU U' i := by
  obtain ⟨e1, e2, e3, _⟩ := (h.2 i hi).one (h'.2 i hi)
  cases hu : atU U i
  cases hu' : atU U' i
  rw [hu] at e1 e2 e3
  rw [hu'] at e1 e2 e3
  simp only at e1 e2 e3
  rw [e1, e2, e3]

theorem not_B2 {ms : List ModR} {i : Nat} (h : ¬ B2 ms i) {us : List ByteArray} {os : List OpR} {b : ByteArray} {c l : Int} (hu : UnitIs (atM ms i).t us os b c l) : c = 0 ∧ l = 0 ∧ NameT (atM ms i).n ∧ (atM ms i).n.size ≤ 64 := by
  unfold B2 at h
  have hc : c = 0 := by
    by_cases e : c = 0
    · exact e
    · exact absurd (Or.inl ⟨us, os, b, c, l, hu, e⟩) h
  refine ⟨hc, (unit_ops hu).2 hc, ?_, ?_⟩
  · by_cases e : NameT (atM ms i).n
    · exact e
    · exact absurd (Or.inr (Or.inl e)) h
  · by_cases e : 64 < (atM ms i).n.size
    · exact absurd (Or.inr (Or.inr e)) h
    · omega
end Go.Proofs.YtokabkhnidlcnabGreatDoor
