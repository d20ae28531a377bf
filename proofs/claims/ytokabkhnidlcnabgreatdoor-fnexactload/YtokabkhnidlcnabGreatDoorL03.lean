import Derived.Deep.QuietTactic
import Derived.BigQuiet
import Derived.WalkSmall
import Derived.OwnWalk
import Derived.Laws.OwnMore
import Derived.Test.YtokabkhnidlcnabGreatDoorL01
import Derived.Test.YtokabkhnidlcnabGreatDoorL02

/-
  Walk: the specification's l1Has.
-/
namespace Go.Proofs.YtokabkhnidlcnabGreatDoor
set_option maxRecDepth 100000
open Go.RowKit

/-- Two operators are the same in all fields. -/
def sameB (a b : OpR) : Bool := a.s.toList == b.s.toList && a.k == b.k && a.l == b.l && a.sd == b.sd

theorem sameB_iff {a b : OpR} : sameB a b = true ↔ a = b := by
  obtain ⟨s, k, l, sd⟩ := a
  obtain ⟨s', k', l', sd'⟩ := b
  simp only [sameB, Bool.and_eq_true, beq_iff_eq]
  constructor
  · rintro ⟨⟨⟨h1, h2⟩, h3⟩, h4⟩
    rw [toList_inj h1, h2, h3, h4]
  · intro h
    injection h with h1 h2 h3 h4
    exact ⟨⟨⟨by rw [h1], h2⟩, h3⟩, h4⟩

theorem opStruct : Tryz.prog.underlying 70 = some (.struct (Tryz.prog.fieldsOf 70)) := by kernel_rfl
theorem opHeld : Tryz.prog.stoodInHeld 70 = false := by kernel_rfl
theorem opGuard : Tryz.prog.eqGuardType Tryz.prog.depth 70 = false := by kernel_rfl

theorem run_eq_op (a b : OpR) (w : World) :
    (binOp .eql 70 (.agg #[.string a.s, .int .i64 a.k, .int .i64 a.l, .int .i64 a.sd]) (.agg #[.string b.s, .int .i64 b.k, .int .i64 b.l, .int .i64 b.sd])).run Tryz.prog w = .ok (.bool (sameB a b)) w := by
  rw [run_eql_struct, run_equalIn_agg _ _ _ _ _ opStruct opHeld]
  unfold Program.fieldsOf sameB
  rw [Tryz.underlying70]
  cases h1 : (a.s.toList == b.s.toList) <;> cases h2 : (a.k == b.k) <;> cases h3 : (a.l == b.l) <;> cases h4 : (a.sd == b.sd) <;> simp [go_sem, h1, h2, h3, h4]

set_option maxHeartbeats 1000000 in
theorem l1Has_any (g cap k : Nat) (zs : List OpR) (o : OpR) (w : World) (hm : zs.length ≤ 1048576) (hk : k ≤ zs.length) (hw : Ops w g 0 zs) (hB : g < w.heap.size) :
    Calls Tryz.prog 48 #[.slice (some ⟨g, 0, none⟩) k cap, .agg #[.string o.s, .int .i64 o.k, .int .i64 o.l, .int .i64 o.sd]] w fun e w' => (∃ v, e = .returned (.bool v) ∧ (v = true ↔ ∃ j, j < k ∧ atO zs j = o)) ∧ Below w.heap.size w w' := by
  go_enter Tryz.func48, Tryz.ntmps48
  go_wp2
  go_loopw [5] (fun i wr => ∃ n : Nat, n ≤ k ∧ i = .int .i64 (n : Int) ∧ Hid (∀ j, j < n → atO zs j ≠ o) ∧ Below (w.heap.size + 1) (w.alloc (.cells #[.string o.s, .int .i64 o.k, .int .i64 o.l, .int .i64 o.sd] 70)) wr) (fun i _ => k - (intOf i).toNat)
  case atStart => exact ⟨0, Nat.zero_le _, rfl, hide (fun j h => (by omega)), Below.refl _ _⟩
  case round =>
    obtain ⟨n, hn, rfl, hno, hbel⟩ := hrel
    by_cases hlt : n < k
    · obtain ⟨a0, a1, a2, a3⟩ := ((hw n (by omega)).below (below1 _ _) hB).below hbel (by omega)
      simp only [Nat.zero_add] at a0 a1 a2 a3
      have c0 : wr.cell? ⟨w.heap.size, 0, none⟩ = some (.string o.s) := by rw [hbel.cell (p := ⟨w.heap.size, 0, none⟩) (show w.heap.size < _ by omega)]; simp [go_sem]
      have c1 : wr.cell? ⟨w.heap.size, 1, none⟩ = some (.int .i64 o.k) := by rw [hbel.cell (p := ⟨w.heap.size, 1, none⟩) (show w.heap.size < _ by omega)]; simp [go_sem]
      have c2 : wr.cell? ⟨w.heap.size, 2, none⟩ = some (.int .i64 o.l) := by rw [hbel.cell (p := ⟨w.heap.size, 2, none⟩) (show w.heap.size < _ by omega)]; simp [go_sem]
      have c3 : wr.cell? ⟨w.heap.size, 3, none⟩ = some (.int .i64 o.sd) := by rw [hbel.cell (p := ⟨w.heap.size, 3, none⟩) (show w.heap.size < _ by omega)]; simp [go_sem]
      have hltI : (n : Int) < (k : Int) := by omega
      have hbel' := hide hbel
      clear hbel
      have hq := fun W => run_eq_op (atO zs n) o W
      have hg := opGuard
      go_wp2_with fail
      go_quiet (fail)
      clear hq hg
      cases hsm : sameB (atO zs n) o
      · have hne := hide (show atO zs n ≠ o from fun e => by rw [sameB_iff.2 e] at hsm; cases hsm)
        go_wp2
        refine ⟨⟨n + 1, by omega, by go_num, hide ?_, below_drewN (unhide hbel') nq⟩, by simp [intOf]; omega⟩
        intro j hj
        by_cases e : j = n
        · subst e; exact unhide hne
        · exact (unhide hno) j (by omega)
      · have heq := hide (sameB_iff.1 hsm)
        go_wp2
        go_ret
        exact ⟨⟨true, rfl, ⟨fun _ => ⟨n, hlt, unhide heq⟩, fun _ => rfl⟩⟩, below_drewN ((below1 _ _).trans ((unhide hbel').mono (by omega))) nq⟩
    · go_wp2
      go_ret
      refine ⟨⟨false, rfl, ⟨fun h => (by cases h), fun ⟨j, hj, he⟩ => absurd he ((unhide hno) j (by omega))⟩⟩, (below1 _ _).trans (hbel.mono (by omega))⟩
end Go.Proofs.YtokabkhnidlcnabGreatDoor

/-
  Unions: the list, and rows that a call makes by append.
-/
namespace Go.Proofs.YtokabkhnidlcnabGreatDoor
set_option maxRecDepth 100000
open Go.RowKit

/-- The first k operators, each once. -/
def uniTo (zs : List OpR) : Nat → List OpR
  | 0 => []
  | k + 1 => if (List.range k).any (fun j => sameB (atO zs j) (atO zs k)) then uniTo zs k else uniTo zs k ++ [atO zs k]

theorem uni_hit {zs : List OpR} {k : Nat} (h : ∃ j, j < k ∧ atO zs j = atO zs k) : uniTo zs (k + 1) = uniTo zs k := by
  obtain ⟨j, hj, e⟩ := h
  have hp : ((List.range k).any fun j => sameB (atO zs j) (atO zs k)) = true := by
    rw [List.any_eq_true]
    exact ⟨j, List.mem_range.2 hj, sameB_iff.2 e⟩
  show (if _ then _ else _) = _
  rw [if_pos hp]

theorem uni_miss {zs : List OpR} {k : Nat} (h : ¬ ∃ j, j < k ∧ atO zs j = atO zs k) : uniTo zs (k + 1) = uniTo zs k ++ [atO zs k] := by
  have hp : ¬ ((List.range k).any fun j => sameB (atO zs j) (atO zs k)) = true := by
    rw [List.any_eq_true]
    rintro ⟨j, hj, e⟩
    exact h ⟨j, List.mem_range.1 hj, sameB_iff.1 e⟩
  show (if _ then _ else _) = _
  rw [if_neg hp]

theorem uni_len (zs : List OpR) : ∀ k, (uniTo zs k).length ≤ k
  | 0 => Nat.le_refl _
  | k + 1 => by
    have := uni_len zs k
    unfold uniTo
    split
    · omega
    · simp; omega
end Go.Proofs.YtokabkhnidlcnabGreatDoor

/-
  The plain mathematics of programs: sets in order, ways, scopes.
-/
namespace Go.Proofs.YtokabkhnidlcnabGreatDoor
set_option maxRecDepth 100000
set_option linter.unusedSimpArgs false
set_option linter.unusedVariables false

/-! Sets in order. -/

/-- Put behind what is there already, unless it is there. -/
def insO (acc : List OpR) (o : OpR) : List OpR := if acc.any (fun x => sameB x o) = true then acc else acc ++ [o]
def insAll (acc xs : List OpR) : List OpR := xs.foldl insO acc

theorem any_same {acc : List OpR} {o : OpR} : acc.any (fun x => sameB x o) = true ↔ o ∈ acc := by
  rw [List.any_eq_true]
  constructor
  · rintro ⟨x, h1, h2⟩; rw [← sameB_iff.1 h2]; exact h1
  · intro h; exact ⟨o, h, sameB_iff.2 rfl⟩

theorem insO_yes {acc : List OpR} {o : OpR} (h : o ∈ acc) : insO acc o = acc := by unfold insO; rw [if_pos (any_same.2 h)]
theorem insO_no {acc : List OpR} {o : OpR} (h : o ∉ acc) : insO acc o = acc ++ [o] := by unfold insO; rw [if_neg (fun x => h (any_same.1 x))]

theorem mem_insO {acc : List OpR} {o x : OpR} : x ∈ insO acc o ↔ x ∈ acc ∨ x = o := by
  by_cases h : o ∈ acc
  · rw [insO_yes h]
    exact ⟨Or.inl, fun e => e.elim id (fun e => e ▸ h)⟩
  · rw [insO_no h]; simp

theorem mem_insAll {x : OpR} : ∀ (xs acc : List OpR), x ∈ insAll acc xs ↔ x ∈ acc ∨ x ∈ xs
  | [], acc => by simp [insAll]
  | o :: r, acc => by
    show x ∈ insAll (insO acc o) r ↔ _
    rw [mem_insAll r, mem_insO]
    simp only [List.mem_cons]
    constructor
    · rintro ((h | h) | h)
      · exact Or.inl h
      · exact Or.inr (Or.inl h)
      · exact Or.inr (Or.inr h)
    · rintro (h | h | h)
      · exact Or.inl (Or.inl h)
      · exact Or.inl (Or.inr h)
      · exact Or.inr h

theorem insAll_sub : ∀ (xs acc : List OpR), (∀ o ∈ xs, o ∈ acc) → insAll acc xs = acc
  | [], _, _ => rfl
  | o :: r, acc, h => by
    show insAll (insO acc o) r = acc
    rw [insO_yes (h o (by simp))]
    exact insAll_sub r acc (fun x hx => h x (by simp [hx]))

theorem insAll_append (acc xs ys : List OpR) : insAll acc (xs ++ ys) = insAll (insAll acc xs) ys := List.foldl_append

theorem nd_insO {acc : List OpR} {o : OpR} (h : acc.Nodup) : (insO acc o).Nodup := by
  by_cases ho : o ∈ acc
  · rw [insO_yes ho]; exact h
  · rw [insO_no ho]
    rw [List.nodup_append]
    exact ⟨h, by simp, fun a ha b hb e => by simp at hb; subst hb; subst e; exact ho ha⟩

theorem nd_insAll : ∀ (xs acc : List OpR), acc.Nodup → (insAll acc xs).Nodup
  | [], _, h => h
  | o :: r, acc, h => nd_insAll r _ (nd_insO h)

theorem insAll_nd : ∀ (xs acc : List OpR), (acc ++ xs).Nodup → insAll acc xs = acc ++ xs
  | [], acc, _ => by simp [insAll]
  | o :: r, acc, h => by
    have ho : o ∉ acc := fun ho => by
      rw [List.nodup_append] at h
      exact h.2.2 o ho o (by simp) rfl
    show insAll (insO acc o) r = _
    rw [insO_no ho, insAll_nd r (acc ++ [o]) (by simpa using h)]
    simp

theorem insO_len (acc : List OpR) (o : OpR) : acc.length ≤ (insO acc o).length := by
  by_cases h : o ∈ acc
  · rw [insO_yes h]; exact Nat.le_refl _
  · rw [insO_no h]; simp
theorem insAll_len : ∀ (xs acc : List OpR), acc.length ≤ (insAll acc xs).length
  | [], _ => Nat.le_refl _
  | o :: r, acc => Nat.le_trans (insO_len acc o) (insAll_len r _)

/-- A row without repetitions is no longer than one that has all it has. -/
theorem ndu_len {α : Type} : ∀ (xs ys : List α), xs.Nodup → (∀ x ∈ xs, x ∈ ys) → xs.length ≤ ys.length
  | [], _, _, _ => Nat.zero_le _
  | x :: r, ys, h, hs => by
    rw [List.nodup_cons] at h
    obtain ⟨a, b, rfl⟩ := List.append_of_mem (hs x (by simp))
    have := ndu_len r (a ++ b) h.2 (fun z hz => by
      have h1 := hs z (by simp [hz])
      simp only [List.mem_append, List.mem_cons] at h1 ⊢
      rcases h1 with h1 | h1 | h1
      · exact Or.inl h1
      · subst h1; exact absurd hz h.1
      · exact Or.inr h1)
    simp only [List.length_append, List.length_cons] at *
    omega

theorem atO_mem {zs : List OpR} {k : Nat} (h : k < zs.length) : atO zs k ∈ zs := by
  unfold atO
  rw [List.getD_eq_getElem?_getD, List.getElem?_eq_getElem h]
  exact List.getElem_mem h

theorem take_at {zs : List OpR} {k : Nat} (h : k < zs.length) : zs.take (k + 1) = zs.take k ++ [atO zs k] := by
  rw [List.take_add_one, List.getElem?_eq_getElem h]
  unfold atO
  rw [List.getD_eq_getElem?_getD, List.getElem?_eq_getElem h]
  rfl

theorem mem_take_at {zs : List OpR} {k : Nat} (hk : k ≤ zs.length) {o : OpR} : o ∈ zs.take k ↔ ∃ j, j < k ∧ atO zs j = o := by
  constructor
  · intro h
    obtain ⟨j, hj, e⟩ := List.getElem_of_mem h
    have hj2 : j < k := by rw [List.length_take] at hj; omega
    refine ⟨j, hj2, ?_⟩
    rw [← e, List.getElem_take]
    unfold atO
    rw [List.getD_eq_getElem?_getD, List.getElem?_eq_getElem (by omega)]
    rfl
  · rintro ⟨j, hj, rfl⟩
    have hl : j < (zs.take k).length := by rw [List.length_take]; omega
    have : (zs.take k)[j] = atO zs j := by
      rw [List.getElem_take]
      unfold atO
      rw [List.getD_eq_getElem?_getD, List.getElem?_eq_getElem (by omega)]
      rfl
    rw [← this]
    exact List.getElem_mem hl

/-- What Union makes of a row. -/
theorem uni_ins (zs : List OpR) : ∀ k, k ≤ zs.length → uniTo zs k = insAll [] (zs.take k)
  | 0, _ => by simp [uniTo, insAll]
  | k + 1, hk => by
    have ih := uni_ins zs k (by omega)
    rw [take_at (by omega), insAll_append]
    show _ = insO (insAll [] (zs.take k)) (atO zs k)
    rw [← ih]
    by_cases h : ∃ j, j < k ∧ atO zs j = atO zs k
    · rw [uni_hit h, insO_yes]
      rw [ih, mem_insAll]
      exact Or.inr ((mem_take_at (by omega)).2 h)
    · rw [uni_miss h, insO_no]
      rw [ih, mem_insAll]
      rintro (h1 | h1)
      · cases h1
      · exact h ((mem_take_at (by omega)).1 h1)

theorem uni_two {t s : List OpR} (ht : t.Nodup) : uniTo (t ++ s) (t ++ s).length = insAll t s := by
  rw [uni_ins _ _ (Nat.le_refl _), List.take_length, insAll_append, insAll_nd t [] (by simpa using ht)]
  rfl

/-! Ways. -/

/-- A way of k + 1 steps. -/
def Pth (E : Nat → Nat → Prop) : Nat → Nat → Nat → Prop
  | 0, i, j => E i j
  | k + 1, i, j => ∃ m, E i m ∧ Pth E k m j
def TC (E : Nat → Nat → Prop) (i j : Nat) : Prop := ∃ k, Pth E k i j

theorem Pth.trans {E : Nat → Nat → Prop} : ∀ {k l i j m : Nat}, Pth E k i m → Pth E l m j → TC E i j
  | 0, l, i, j, m, h1, h2 => ⟨l + 1, m, h1, h2⟩
  | k + 1, l, i, j, m, h1, h2 => by
    obtain ⟨q, h3, h4⟩ := h1
    obtain ⟨n, h5⟩ := Pth.trans h4 h2
    exact ⟨n + 1, q, h3, h5⟩
theorem TC.trans {E : Nat → Nat → Prop} {i j m : Nat} (h1 : TC E i m) (h2 : TC E m j) : TC E i j := by
  obtain ⟨k, h1⟩ := h1
  obtain ⟨l, h2⟩ := h2
  exact h1.trans h2
theorem TC.one {E : Nat → Nat → Prop} {i j : Nat} (h : E i j) : TC E i j := ⟨0, h⟩

/-- What a closed set of places holds. -/
theorem TC.closed {E : Nat → Nat → Prop} {P : Nat → Prop} (hc : ∀ i j, P i → E i j → P j) : ∀ {k i j : Nat}, Pth E k i j → (∀ m, E i m → P m) → P j
  | 0, i, j, h, h0 => h0 j h
  | k + 1, i, j, h, h0 => by
    obtain ⟨m, h1, h2⟩ := h
    exact TC.closed hc h2 (fun q hq => hc m q (h0 m h1) hq)

/-- One round of joining: ways through m. -/
def wr1 (M : Nat → Nat → Bool) (m : Nat) : Nat → Nat → Bool := fun i j => M i j || (M i m && M m j)
def wrN (M : Nat → Nat → Bool) : Nat → Nat → Nat → Bool
  | 0 => M
  | m + 1 => wr1 (wrN M m) m

theorem wrN_sound {E : Nat → Nat → Prop} {M : Nat → Nat → Bool} (h : ∀ i j, M i j = true → TC E i j) : ∀ m i j, wrN M m i j = true → TC E i j
  | 0, i, j, hm => h i j hm
  | m + 1, i, j, hm => by
    simp only [wrN, wr1, Bool.or_eq_true, Bool.and_eq_true] at hm
    rcases hm with hm | ⟨h1, h2⟩
    · exact wrN_sound h m i j hm
    · exact (wrN_sound h m _ _ h1).trans (wrN_sound h m _ _ h2)

theorem wrN_more {M : Nat → Nat → Bool} : ∀ m i j, M i j = true → wrN M m i j = true
  | 0, _, _, h => h
  | m + 1, i, j, h => by
    simp only [wrN, wr1, Bool.or_eq_true]
    exact Or.inl (wrN_more m i j h)

theorem wrN_trans {M : Nat → Nat → Bool} : ∀ m k, k < m → ∀ i j, wrN M m i k = true → wrN M m k j = true → wrN M m i j = true
  | 0, k, hk, _, _, _, _ => by omega
  | m + 1, k, hk, i, j, h1, h2 => by
    simp only [wrN, wr1, Bool.or_eq_true, Bool.and_eq_true] at h1 h2 ⊢
    by_cases e : k = m
    · subst e
      have a : wrN M k i k = true := by rcases h1 with h | ⟨h, _⟩ <;> exact h
      have b : wrN M k k j = true := by rcases h2 with h | ⟨_, h⟩ <;> exact h
      exact Or.inr ⟨a, b⟩
    · have ih := wrN_trans (M := M) m k (by omega)
      rcases h1 with h1 | ⟨h1, h1'⟩ <;> rcases h2 with h2 | ⟨h2, h2'⟩
      · exact Or.inl (ih i j h1 h2)
      · exact Or.inr ⟨ih i m h1 h2, h2'⟩
      · exact Or.inr ⟨h1, ih m j h1' h2⟩
      · exact Or.inr ⟨h1, h2'⟩

/-- The joined steps are the ways. -/
theorem wrN_is {n : Nat} {E : Nat → Nat → Prop} {M : Nat → Nat → Bool} (hM : ∀ i j, M i j = true ↔ E i j) (hE : ∀ i j, E i j → i < n ∧ j < n) (i j : Nat) : wrN M n i j = true ↔ TC E i j := by
  refine ⟨wrN_sound (fun i j h => TC.one ((hM i j).1 h)) n i j, ?_⟩
  rintro ⟨k, hk⟩
  induction k generalizing i with
  | zero => exact wrN_more n i j ((hM i j).2 hk)
  | succ k ih =>
    obtain ⟨m, h1, h2⟩ := hk
    exact wrN_trans n m (hE _ _ h1).2 i j (wrN_more n i m ((hM i m).2 h1)) (ih m h2)

/-- How many a place reaches. -/
def rkW (W : Nat → Nat → Bool) (n i : Nat) : Nat := ((List.range n).filter (fun j => W i j)).length

theorem filter_lt {p q : Nat → Bool} : ∀ (l : List Nat), (∀ x ∈ l, q x = true → p x = true) → (∃ x ∈ l, p x = true ∧ q x = false) → (l.filter q).length < (l.filter p).length
  | [], _, h => by obtain ⟨x, h, _⟩ := h; cases h
  | a :: r, hs, h => by
    have hle : (r.filter q).length ≤ (r.filter p).length := by
      have : ∀ (l : List Nat), (∀ x ∈ l, q x = true → p x = true) → (l.filter q).length ≤ (l.filter p).length := by
        intro l
        induction l with
        | nil => intro _; exact Nat.le_refl _
        | cons b t ih =>
          intro hb
          have := ih (fun x hx => hb x (by simp [hx]))
          have hb1 := hb b (by simp)
          by_cases h1 : q b = true
          · rw [List.filter_cons_of_pos h1, List.filter_cons_of_pos (hb1 h1)]; simp; omega
          · by_cases h2 : p b = true
            · rw [List.filter_cons_of_neg h1, List.filter_cons_of_pos h2]; simp; omega
            · rw [List.filter_cons_of_neg h1, List.filter_cons_of_neg h2]; exact this
      exact this r (fun x hx => hs x (by simp [hx]))
    have ha := hs a (by simp)
    obtain ⟨x, hx, h1, h2⟩ := h
    rcases List.mem_cons.1 hx with rfl | hx
    · rw [List.filter_cons_of_pos h1, List.filter_cons_of_neg (by simp [h2])]
      simp; omega
    · have ih := filter_lt r (fun y hy => hs y (by simp [hy])) ⟨x, hx, h1, h2⟩
      by_cases h3 : q a = true
      · rw [List.filter_cons_of_pos h3, List.filter_cons_of_pos (ha h3)]; simp; omega
      · by_cases h4 : p a = true
        · rw [List.filter_cons_of_neg h3, List.filter_cons_of_pos h4]; simp; omega
        · rw [List.filter_cons_of_neg h3, List.filter_cons_of_neg h4]; exact ih

/-- A step goes to a place that reaches fewer. -/
theorem rk_step {n : Nat} {E : Nat → Nat → Prop} {W : Nat → Nat → Bool} (hW : ∀ i j, W i j = true ↔ TC E i j) {i j : Nat} (he : E i j) (hj : j < n) (hn : ¬ TC E j j) : rkW W n j < rkW W n i := by
  unfold rkW
  refine filter_lt _ (fun x _ h => (hW i x).2 ((TC.one he).trans ((hW j x).1 h))) ⟨j, List.mem_range.2 hj, (hW i j).2 (TC.one he), ?_⟩
  cases h : W j j
  · rfl
  · exact absurd ((hW j j).1 h) hn

theorem rk_lt {n : Nat} {E : Nat → Nat → Prop} {W : Nat → Nat → Bool} (hW : ∀ i j, W i j = true ↔ TC E i j) {i : Nat} (hi : i < n) (hn : ¬ TC E i i) : rkW W n i < n := by
  have h := filter_lt (p := fun _ => true) (q := fun j => W i j) (List.range n) (fun _ _ _ => rfl) ⟨i, List.mem_range.2 hi, rfl, by
    cases h : W i i
    · rfl
    · exact absurd ((hW i i).1 h) hn⟩
  have e : ((List.range n).filter (fun _ => true)).length = n := by rw [List.filter_eq_self.2 (fun _ _ => rfl), List.length_range]
  rw [e] at h
  exact h

/-! Scopes. -/

/-- What the uses bring in. -/
def scAcc (nm : ByteArray → Nat) (S : Nat → List OpR) (acc : List OpR) (us : List ByteArray) : List OpR := us.foldl (fun a u => insAll a (S (nm u))) acc

theorem scAcc_cons (nm : ByteArray → Nat) (S : Nat → List OpR) (acc : List OpR) (u : ByteArray) (r : List ByteArray) : scAcc nm S acc (u :: r) = scAcc nm S (insAll acc (S (nm u))) r := rfl
theorem scAcc_snoc (nm : ByteArray → Nat) (S : Nat → List OpR) (acc : List OpR) (us : List ByteArray) (u : ByteArray) : scAcc nm S acc (us ++ [u]) = insAll (scAcc nm S acc us) (S (nm u)) := by
  unfold scAcc; rw [List.foldl_append]; rfl
theorem scAcc_len (nm : ByteArray → Nat) (S : Nat → List OpR) : ∀ (us : List ByteArray) (acc : List OpR), acc.length ≤ (scAcc nm S acc us).length
  | [], _ => Nat.le_refl _
  | u :: r, acc => Nat.le_trans (insAll_len _ acc) (scAcc_len nm S r _)
theorem scAcc_nd (nm : ByteArray → Nat) (S : Nat → List OpR) : ∀ (us : List ByteArray) (acc : List OpR), acc.Nodup → (scAcc nm S acc us).Nodup
  | [], _, h => h
  | u :: r, acc, h => scAcc_nd nm S r _ (nd_insAll _ _ h)
theorem scAcc_mem (nm : ByteArray → Nat) (S : Nat → List OpR) {x : OpR} : ∀ (us : List ByteArray) (acc : List OpR), x ∈ scAcc nm S acc us ↔ x ∈ acc ∨ ∃ u ∈ us, x ∈ S (nm u)
  | [], acc => by simp [scAcc]
  | u :: r, acc => by
    rw [scAcc_cons, scAcc_mem nm S r, mem_insAll]
    simp only [List.mem_cons, exists_eq_or_imp]
    constructor
    · rintro ((h | h) | h)
      · exact Or.inl h
      · exact Or.inr (Or.inl h)
      · exact Or.inr (Or.inr h)
    · rintro (h | h | h)
      · exact Or.inl (Or.inl h)
      · exact Or.inl (Or.inr h)
      · exact Or.inr h
theorem scAcc_congr {nm : ByteArray → Nat} {S T : Nat → List OpR} : ∀ (us : List ByteArray) (acc : List OpR), (∀ u ∈ us, S (nm u) = T (nm u)) → scAcc nm S acc us = scAcc nm T acc us
  | [], _, _ => rfl
  | u :: r, acc, h => by
    rw [scAcc_cons, scAcc_cons, h u (by simp)]
    exact scAcc_congr r _ (fun x hx => h x (by simp [hx]))

/-- Texts, each once. -/
def insB (acc : List ByteArray) (u : ByteArray) : List ByteArray := if acc.any (fun x => decide (x = u)) = true then acc else acc ++ [u]
def dst (us : List ByteArray) : List ByteArray := us.foldl insB []

theorem any_txt {acc : List ByteArray} {u : ByteArray} : acc.any (fun x => decide (x = u)) = true ↔ u ∈ acc := by
  rw [List.any_eq_true]
  constructor
  · rintro ⟨x, h1, h2⟩; rw [← of_decide_eq_true h2]; exact h1
  · intro h; exact ⟨u, h, decide_eq_true rfl⟩
theorem insB_yes {acc : List ByteArray} {u : ByteArray} (h : u ∈ acc) : insB acc u = acc := by unfold insB; rw [if_pos (any_txt.2 h)]
theorem insB_no {acc : List ByteArray} {u : ByteArray} (h : u ∉ acc) : insB acc u = acc ++ [u] := by unfold insB; rw [if_neg (fun x => h (any_txt.1 x))]

theorem mem_insB {acc : List ByteArray} {u x : ByteArray} : x ∈ insB acc u ↔ x ∈ acc ∨ x = u := by
  by_cases h : u ∈ acc
  · rw [insB_yes h]; exact ⟨Or.inl, fun e => e.elim id (fun e => e ▸ h)⟩
  · rw [insB_no h]; simp
theorem mem_insBs {x : ByteArray} : ∀ (us acc : List ByteArray), x ∈ us.foldl insB acc ↔ x ∈ acc ∨ x ∈ us
  | [], acc => by simp
  | u :: r, acc => by
    rw [List.foldl_cons, mem_insBs r, mem_insB]
    simp only [List.mem_cons]
    constructor
    · rintro ((h | h) | h)
      · exact Or.inl h
      · exact Or.inr (Or.inl h)
      · exact Or.inr (Or.inr h)
    · rintro (h | h | h)
      · exact Or.inl (Or.inl h)
      · exact Or.inl (Or.inr h)
      · exact Or.inr h
theorem nd_insB {acc : List ByteArray} {u : ByteArray} (h : acc.Nodup) : (insB acc u).Nodup := by
  by_cases ho : u ∈ acc
  · rw [insB_yes ho]; exact h
  · rw [insB_no ho, List.nodup_append]
    exact ⟨h, by simp, fun a ha b hb e => by simp at hb; subst hb; subst e; exact ho ha⟩
theorem nd_insBs : ∀ (us acc : List ByteArray), acc.Nodup → (us.foldl insB acc).Nodup
  | [], _, h => h
  | u :: r, acc, h => nd_insBs r _ (nd_insB h)
theorem insBs_len (us : List ByteArray) : ∀ (acc : List ByteArray), (us.foldl insB acc).length ≤ acc.length + us.length := by
  induction us with
  | nil => intro acc; exact Nat.le_refl _
  | cons u r ih =>
    intro acc
    rw [List.foldl_cons]
    have := ih (insB acc u)
    have h2 : (insB acc u).length ≤ acc.length + 1 := by
      by_cases h : u ∈ acc
      · rw [insB_yes h]; omega
      · rw [insB_no h]; simp
    simp only [List.length_cons]
    omega

/-- Each use once brings in the same. -/
theorem scAcc_dst (nm : ByteArray → Nat) (S : Nat → List OpR) : ∀ (us D : List ByteArray) (a : List OpR), scAcc nm S a (us.foldl insB D) = scAcc nm S (scAcc nm S a D) us
  | [], D, a => rfl
  | u :: r, D, a => by
    rw [List.foldl_cons, scAcc_dst nm S r, scAcc_cons]
    congr 1
    by_cases h : u ∈ D
    · rw [insB_yes h, insAll_sub]
      intro o ho
      rw [scAcc_mem]
      exact Or.inr ⟨u, h, ho⟩
    · rw [insB_no h, scAcc_snoc]

theorem scAcc_dst' (nm : ByteArray → Nat) (S : Nat → List OpR) (us : List ByteArray) (a : List OpR) : scAcc nm S a (dst us) = scAcc nm S a us := scAcc_dst nm S us [] a

/-- What the uses bring in while it is not too much. -/
def scBr (nm : ByteArray → Nat) (T : Nat → List OpR) : List OpR → List ByteArray → List OpR
  | acc, [] => acc
  | acc, u :: r => if 500 < acc.length then acc else scBr nm T (insAll acc (T (nm u))) r

/-- The same, or too much both. -/
def Near (s t : List OpR) : Prop := (s.length ≤ 500 → t = s) ∧ (500 < s.length → 500 < t.length)

theorem near_step {nm : ByteArray → Nat} {S T : Nat → List OpR} : ∀ (us : List ByteArray) (a b : List OpR), (∀ u ∈ us, Near (S (nm u)) (T (nm u)) ∧ (S (nm u)).Nodup ∧ (T (nm u)).Nodup) → Near a b → Near (scAcc nm S a us) (scBr nm T b us)
  | [], a, b, _, h => h
  | u :: r, a, b, hu, h => by
    rw [scAcc_cons]
    simp only [scBr]
    obtain ⟨h1, h2, h3⟩ := hu u (by simp)
    by_cases hb : 500 < b.length
    · rw [if_pos hb]
      have ha : 500 < a.length := by
        by_cases ha : a.length ≤ 500
        · rw [h.1 ha] at hb; omega
        · omega
      have hl : a.length ≤ (scAcc nm S (insAll a (S (nm u))) r).length := Nat.le_trans (insAll_len _ a) (scAcc_len nm S r _)
      exact ⟨fun e => by omega, fun _ => hb⟩
    · rw [if_neg hb]
      have ha : a.length ≤ 500 := by
        by_cases ha : 500 < a.length
        · exact absurd (h.2 ha) hb
        · omega
      obtain rfl := h.1 ha
      refine near_step r _ _ (fun x hx => hu x (by simp [hx])) ?_
      by_cases hs : (S (nm u)).length ≤ 500
      · rw [h1.1 hs]
        exact ⟨fun _ => rfl, fun x => x⟩
      · have q1 := ndu_len (S (nm u)) (insAll b (S (nm u))) h2 (fun x hx => (mem_insAll _ _).2 (Or.inr hx))
        have q2 := ndu_len (T (nm u)) (insAll b (T (nm u))) h3 (fun x hx => (mem_insAll _ _).2 (Or.inr hx))
        have q3 := h1.2 (by omega)
        exact ⟨fun e => by omega, fun _ => by omega⟩

theorem scBr_nd (nm : ByteArray → Nat) (T : Nat → List OpR) : ∀ (us : List ByteArray) (b : List OpR), b.Nodup → (scBr nm T b us).Nodup
  | [], _, h => h
  | u :: r, b, h => by
    simp only [scBr]
    split
    · exact h
    · exact scBr_nd nm T r _ (nd_insAll _ _ h)
end Go.Proofs.YtokabkhnidlcnabGreatDoor
