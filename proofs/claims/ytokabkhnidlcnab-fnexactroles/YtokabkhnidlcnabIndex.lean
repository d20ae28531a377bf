/-
  Walks: the index of a table.
-/
import Derived.Test.YtokabkhnidlcnabKeys
namespace Go.Proofs.Ytokabkhnidlcnab
set_option maxRecDepth 100000
open Go.RowKit Go.Maps

set_option maxHeartbeats 400000 in
theorem has_any (bo bs n : Nat) (D : DataW Unit) (t : ByteArray) (kd : Int) (w : World) (hown : w.ownsMap Try.prog 164 opElem bo n D) (ht : t.size ≤ maxLen) (hk : (Lit.int .i64 kd).wf = true) :
    Calls Try.prog 122 #[.agg #[.map (some bo), .map (some bs)], .string t, .int .i64 kd] w fun e w' => e = .returned (.bool (Maps.has D (klO t kd))) ∧ Below w.heap.size w w' := by
  go_enter Try.func122, Try.ntmps122
  go_wp2_with (first | (at_lookup; refine wpList_lookup_own_ok _ rfl _ _ 82 rfl 164 70 lawK Try.underlying82 opElem (zeroOp _) (opDat ⟨#[]⟩ 0 0 0) [] (opElem_mk _ _ _ _) bo n D rfl (hown.alloc _) _ _ rfl (keyK ht hk) ?_; intro v ps hv; obtain ⟨s', k', l', sd', rfl⟩ := opElem_inv hv))
  go_ret
  exact ⟨rfl, (below1 _ _).alloc (by simp) _⟩

/-- The index of the first k operators. -/
structure Idx (w : World) (bo bs : Nat) (xs : List OpR) (k : Nat) : Prop where
  ops : ∃ D : DataW Unit, w.ownsMap Try.prog 164 opElem bo k D ∧ ∀ (s : ByteArray) (kd : Int), s.size ≤ maxLen → (Lit.int .i64 kd).wf = true → (Maps.has D (klO s kd) = true ↔ ∃ j, j < k ∧ (atO xs j).s = s ∧ (atO xs j).k = kd) ∧ (Maps.has D (klO s kd) = true → ∃ j, j < k ∧ (atO xs j).s = s ∧ (atO xs j).k = kd ∧ D.atKey (klO s kd) (opDat ⟨#[]⟩ 0 0 0) = opDat (atO xs j).s (atO xs j).k (atO xs j).l (atO xs j).sd)
  srts : ∃ D : DataW Unit, w.ownsMap Try.prog 3 (plainElem Try.prog 3) bs k D ∧ ∀ l : Int, (Lit.int .i64 l).wf = true → (Maps.has D (.int .i64 l) = true ↔ ∃ j, j < k ∧ (atO xs j).l = l) ∧
    ∀ c : Int, D.atKey (.int .i64 l) (.lit (.int .i64 0)) = .lit (.int .i64 c) → Maps.has D (.int .i64 l) = true → ∃ j, j < k ∧ (atO xs j).l = l ∧ srt (atO xs j).k (atO xs j).sd = c
  ne : bo ≠ bs

theorem Idx.kept {w w' : World} {bo bs k : Nat} {xs : List OpR} (h : Idx w bo bs xs k) (hb : Below w.heap.size w w') : Idx w' bo bs xs k := by
  obtain ⟨⟨D, h1, h2⟩, ⟨E, h3, h4⟩, h5⟩ := h
  have hg : w.grownBy w' none := ⟨hb.os, hb.tape, hb.output, hb.size, fun i hi _ => hb.block i hi⟩
  exact ⟨⟨D, h1.kept hg (by simp), h2⟩, ⟨E, h3.kept hg (by simp), h4⟩, h5⟩

theorem wfK1 : (Lit.int .i64 1).wf = true := by decide
theorem wfK2 : (Lit.int .i64 2).wf = true := by decide
theorem wfK3 : (Lit.int .i64 3).wf = true := by decide

theorem ok_kind {o : OpR} (h : o.ok = true) : o.k = 1 ∨ o.k = 2 ∨ o.k = 3 := by
  obtain ⟨_, h⟩ := ok_shape _ _ _ _ h
  omega

set_option maxHeartbeats 1000000 in
theorem hasRival_any (bo bs k : Nat) (xs : List OpR) (w : World) (hi : Idx w bo bs xs k) (hok : okTo xs (k + 1)) (hs : (atO xs k).s.size ≤ maxLen) :
    Calls Try.prog 88 #[.agg #[.map (some bo), .map (some bs)], .agg #[.string (atO xs k).s, .int .i64 (atO xs k).k, .int .i64 (atO xs k).l, .int .i64 (atO xs k).sd]] w fun e w' => (∃ v, e = .returned (.bool v) ∧ (v = true ↔ ∃ j, j < k ∧ cl 3 (atO xs k) (atO xs j))) ∧ Below w.heap.size w w' := by
  obtain ⟨⟨D, hown, hD⟩, _, _⟩ := hi
  have h1 := (hD _ _ hs wfK1).1
  have h2 := (hD _ _ hs wfK2).1
  have h3 := (hD _ _ hs wfK3).1
  have hkk := ok_kind (hok k (by omega))
  have key1 : (atO xs k).k = 1 → (Maps.has D (klO (atO xs k).s 1) = true ↔ ∃ j, j < k ∧ cl 3 (atO xs k) (atO xs j)) := by
    intro hk
    rw [h1]
    simp only [cl, if_true, hk, true_iff]
    exact ⟨fun ⟨j, a, b, c⟩ => ⟨j, a, b.symm, c⟩, fun ⟨j, a, b, c⟩ => ⟨j, a, b.symm, c⟩⟩
  have key2 : (atO xs k).k ≠ 1 → ((Maps.has D (klO (atO xs k).s 2) = true ∨ Maps.has D (klO (atO xs k).s 3) = true) ↔ ∃ j, j < k ∧ cl 3 (atO xs k) (atO xs j)) := by
    intro hk
    rw [h2, h3]
    simp only [cl, if_true, hk, false_iff]
    constructor
    · rintro (⟨j, a, b, c⟩ | ⟨j, a, b, c⟩)
      · exact ⟨j, a, b.symm, by omega⟩
      · exact ⟨j, a, b.symm, by omega⟩
    · rintro ⟨j, a, b, c⟩
      have := ok_kind (hok j (by omega))
      rcases this with e | e | e
      · exact absurd e c
      · exact Or.inl ⟨j, a, b.symm, e⟩
      · exact Or.inr ⟨j, a, b.symm, e⟩
  have K1 := hide key1
  have K2 := hide key2
  clear key1 key2 h1 h2 h3 hD hok
  by_cases hk : (atO xs k).k = 1
  · have hk' : ((atO xs k).k == 1) = true := by simpa using hk
    have HK := hide hk
    clear hk hkk
    go_enter Try.func88, Try.ntmps88
    go_wp2_with (first | (go_at_call 122; refine (has_any bo bs k D _ _ _ ((hown.alloc _).alloc _) hs (by decide)).mono ?_; rintro e w1 ⟨rfl, hb1⟩))
    go_ret
    exact ⟨⟨_, rfl, (unhide K1) (unhide HK)⟩, ((below1 _ _).alloc (by simp) _).trans (hb1.mono (by simp; omega))⟩
  · have hk' : ((atO xs k).k == 1) = false := by simpa using hk
    have HK := hide hk
    clear hk hkk
    cases hh : Maps.has D (klO (atO xs k).s 2)
    · have HH := hide hh
      go_enter Try.func88, Try.ntmps88
      go_wp2_with fail
      refine (has_any bo bs k D _ _ _ ((hown.alloc _).alloc _) hs (by decide)).mono ?_
      rintro e w1 ⟨rfl, hb1⟩
      obtain ⟨hc1, hf1⟩ := bcell hb1
      have hown1 := ((hown.alloc (.cells #[.map (some bo), .map (some bs)] 85)).alloc (.cells #[.string (atO xs k).s, .int .i64 (atO xs k).k, .int .i64 (atO xs k).l, .int .i64 (atO xs k).sd] 70)).kept (w' := w1) (row := none) ⟨hb1.os, hb1.tape, hb1.output, hb1.size, fun i hi _ => hb1.block i hi⟩ (by simp)
      have HO := hide hown1
      clear hown1
      go_wp2_with fail
      refine (has_any bo bs k D _ _ _ (unhide HO) hs (by decide)).mono ?_
      rintro e w2 ⟨rfl, hb2⟩
      go_wp2_with fail
      go_ret
      refine ⟨⟨_, rfl, ?_⟩, (((below1 _ _).alloc (by simp) _).trans (hb1.mono (by simp; omega))).trans (hb2.mono (by have := hb1.size; simp at this; omega))⟩
      have := (unhide K2) (unhide HK)
      rw [unhide HH] at this
      simpa using this
    · have HH := hide hh
      go_enter Try.func88, Try.ntmps88
      go_wp2_with fail
      refine (has_any bo bs k D _ _ _ ((hown.alloc _).alloc _) hs (by decide)).mono ?_
      rintro e w1 ⟨rfl, hb1⟩
      go_wp2_with fail
      go_ret
      refine ⟨⟨_, rfl, ?_⟩, ((below1 _ _).alloc (by simp) _).trans (hb1.mono (by simp; omega))⟩
      have := (unhide K2) (unhide HK)
      rw [unhide HH] at this
      simpa using this
end Go.Proofs.Ytokabkhnidlcnab
