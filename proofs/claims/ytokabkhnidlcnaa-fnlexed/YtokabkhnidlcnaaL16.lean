import Derived.Maps.OwnSet
import Derived.DeepKeys4
import Derived.Test.YtokabkhnidlcnaaL06

/-
  The index of a table: its two maps.
-/
namespace Go.Proofs.Ytokabkhnidlcnaa
set_option maxRecDepth 100000
open Go.RowKit Go.Maps

theorem laidOutT : laidOutB Try.prog = true := by kernel_rfl
theorem rowK : (108 : TypeId) < Try.prog.types.size := of_decide_eq_true (by kernel_rfl)
theorem wideK : (match Try.prog.underlying 108 with | some (.array _ _) | some (.struct _) => true | _ => false) = true := by kernel_rfl
theorem lawK : Keyed Try.prog 108 := Keyed.of_law (deep_law_laid laidOutT (m := 3) (by omega) rowK (by kernel_rfl) wideK)
theorem lawI : Keyed Try.prog 3 := int_keyed Try.underlying3
theorem keyTyK : Try.prog.keyType 108 = true := by kernel_rfl
theorem sizeTypes : Try.prog.types.size + 1 = (Try.prog.types.size - 1) + 1 + 1 := by
  have h : decide (1 ≤ Try.prog.types.size) = true := by kernel_rfl
  have := of_decide_eq_true h
  omega
theorem cellsK : Try.prog.cellsOf 108 = 2 := by kernel_rfl
theorem cells9 : Try.prog.cellsOf 9 = 1 := by kernel_rfl
theorem cells3 : Try.prog.cellsOf 3 = 1 := by kernel_rfl

/-- What a text and a kind read as, as a key. -/
def klO (s : ByteArray) (k : Int) : Lit := .string (keyBytes [.string s.data.toList, .int .i64 k])

theorem litsS {s : ByteArray} (hs : s.size ≤ maxLen) (d : Nat) : Try.prog.keyLits (d + 1) 9 [.string s] = some [.string s.data.toList] := by
  unfold Program.keyLits
  rw [Try.underlying9]
  exact if_pos hs

theorem litsI {k : Int} (hk : (Lit.int .i64 k).wf = true) (d : Nat) : Try.prog.keyLits (d + 1) 3 [.int .i64 k] = some [.int .i64 k] := by
  unfold Program.keyLits
  rw [Try.underlying3]
  exact if_pos ⟨rfl, hk⟩

theorem litsK {s : ByteArray} {k : Int} (hs : s.size ≤ maxLen) (hk : (Lit.int .i64 k).wf = true) (d : Nat) :
    Try.prog.keyLits (d + 1 + 1) 108 [.string s, .int .i64 k] = some [.string s.data.toList, .int .i64 k] := by
  conv => lhs; unfold Program.keyLits
  rw [Try.underlying108]
  simp [cellsK, cells9, cells3, litsS hs d, litsI hk d]

theorem keyK {s : ByteArray} {k : Int} (hs : s.size ≤ maxLen) (hk : (Lit.int .i64 k).wf = true) : keyOf Try.prog 108 (.agg #[.string s, .int .i64 k]) = some (klO s k) := by
  unfold keyOf
  rw [Try.underlying108]
  have hf : (Value.agg #[.string s, .int .i64 k]).formed Try.prog 108 = true := by simp [Value.formed, Try.underlying108, cellsK]
  have hl := litsK hs hk (Try.prog.types.size - 1)
  rw [← sizeTypes] at hl
  simp only [keyTyK, hf, Bool.and_self, if_true]
  show (Try.prog.keyLits (Try.prog.types.size + 1) 108 [.string s, .int .i64 k]).map _ = _
  rw [hl]
  rfl

theorem klO_inj {s t : ByteArray} {k k' : Int} (hs : s.size ≤ maxLen) (ht : t.size ≤ maxLen) (hk : (Lit.int .i64 k).wf = true) (hk' : (Lit.int .i64 k').wf = true) (h : klO s k = klO t k') : s = t ∧ k = k' := by
  have a := keyK hs hk
  have b := keyK ht hk'
  rw [← h] at b
  have := lawK.inj a b
  simpa using this

theorem keyI {l : Int} (h : (Lit.int .i64 l).wf = true) : keyOf Try.prog 3 (.int .i64 l) = some (.int .i64 l) := keyOf_int_mk Try.underlying3 h

/-- What is told of an operator in a map: all its fields. -/
def opDat (s : ByteArray) (k l sd : Int) : DataW Unit := .agg [.lit (.string s.data.toList), .lit (.int .i64 k), .lit (.int .i64 l), .lit (.int .i64 sd)]

/-- How an operator in a map reads. -/
def opElem (v : Value) : Option (DataW Unit × List MemPlace) :=
  match v with
  | .agg cs => match cs.toList with
    | [.string s, .int .i64 k, .int .i64 l, .int .i64 sd] => some (opDat s k l sd, [])
    | _ => none
  | _ => none

theorem opElem_mk (s : ByteArray) (k l sd : Int) : opElem (.agg #[.string s, .int .i64 k, .int .i64 l, .int .i64 sd]) = some (opDat s k l sd, []) := rfl

theorem opElem_inv {v : Value} {z : DataW Unit × List MemPlace} (h : opElem v = some z) : ∃ s k l sd, v = .agg #[.string s, .int .i64 k, .int .i64 l, .int .i64 sd] := by
  unfold opElem at h
  split at h
  · rename_i cs
    split at h
    · rename_i a b c d e
      obtain ⟨cs⟩ := cs
      simp only at e
      subst e
      exact ⟨_, _, _, _, rfl⟩
    · cases h
  · cases h

theorem opDat_inj {s s' : ByteArray} {k k' l l' sd sd' : Int} (h : opDat s k l sd = opDat s' k' l' sd') : s = s' ∧ k = k' ∧ l = l' ∧ sd = sd' := by
  unfold opDat at h
  simp only [DataW.agg.injEq, List.cons.injEq, DataW.lit.injEq, Lit.string.injEq, Lit.int.injEq, true_and, and_true] at h
  obtain ⟨h1, h2, h3, h4⟩ := h
  refine ⟨?_, h2, h3, h4⟩
  obtain ⟨⟨a⟩⟩ := s
  obtain ⟨⟨b⟩⟩ := s'
  simp only at h1
  rw [h1]

/-- What has been read is the operator that the data tell of. -/
theorem opElem_dat {v : Value} {s : ByteArray} {k l sd : Int} {ps : List MemPlace} (h : opElem v = some (opDat s k l sd, ps)) : v = .agg #[.string s, .int .i64 k, .int .i64 l, .int .i64 sd] := by
  obtain ⟨s', k', l', sd', rfl⟩ := opElem_inv h
  rw [opElem_mk] at h
  simp only [Option.some.injEq, Prod.mk.injEq] at h
  obtain ⟨rfl, rfl, rfl, rfl⟩ := opDat_inj h.1
  rfl

theorem zeroOp (w : World) : (zeroValue 48).run Try.prog w = .ok (.agg #[.string ⟨#[]⟩, .int .i64 0, .int .i64 0, .int .i64 0]) w := by kernel_rfl
theorem zeroInt (w : World) : (zeroValue 3).run Try.prog w = .ok (.int .i64 0) w := by kernel_rfl
end Go.Proofs.Ytokabkhnidlcnaa

/-
  Walks: the index of a table.
-/
namespace Go.Proofs.Ytokabkhnidlcnaa
set_option maxRecDepth 100000
open Go.RowKit Go.Maps

set_option maxHeartbeats 400000 in
theorem has_any (bo bs n : Nat) (D : DataW Unit) (t : ByteArray) (kd : Int) (w : World) (hown : w.ownsMap Try.prog 108 opElem bo n D) (ht : t.size ≤ maxLen) (hk : (Lit.int .i64 kd).wf = true) :
    Calls Try.prog 69 #[.agg #[.map (some bo), .map (some bs)], .string t, .int .i64 kd] w fun e w' => e = .returned (.bool (Maps.has D (klO t kd))) ∧ Below w.heap.size w w' := by
  go_enter Try.func69, Try.ntmps69
  go_wp2_with (first | (at_lookup; refine wpList_lookup_own_ok _ rfl _ _ 63 rfl 108 48 lawK Try.underlying63 opElem (zeroOp _) (opDat ⟨#[]⟩ 0 0 0) [] (opElem_mk _ _ _ _) bo n D rfl (hown.alloc _) _ _ rfl (keyK ht hk) ?_; intro v ps hv; obtain ⟨s', k', l', sd', rfl⟩ := opElem_inv hv))
  go_ret
  exact ⟨rfl, (below1 _ _).alloc (by simp) _⟩

/-- The index of the first k operators. -/
structure Idx (w : World) (bo bs : Nat) (xs : List OpR) (k : Nat) : Prop where
  ops : ∃ D : DataW Unit, w.ownsMap Try.prog 108 opElem bo k D ∧ ∀ (s : ByteArray) (kd : Int), s.size ≤ maxLen → (Lit.int .i64 kd).wf = true → (Maps.has D (klO s kd) = true ↔ ∃ j, j < k ∧ (atO xs j).s = s ∧ (atO xs j).k = kd) ∧ (Maps.has D (klO s kd) = true → ∃ j, j < k ∧ (atO xs j).s = s ∧ (atO xs j).k = kd ∧ D.atKey (klO s kd) (opDat ⟨#[]⟩ 0 0 0) = opDat (atO xs j).s (atO xs j).k (atO xs j).l (atO xs j).sd)
  srts : ∃ D : DataW Unit, w.ownsMap Try.prog 3 (plainElem Try.prog 3) bs k D ∧ ∀ l : Int, (Lit.int .i64 l).wf = true → (Maps.has D (.int .i64 l) = true ↔ ∃ j, j < k ∧ (atO xs j).l = l) ∧
    ∀ c : Int, D.atKey (.int .i64 l) (.lit (.int .i64 0)) = .lit (.int .i64 c) → Maps.has D (.int .i64 l) = true → ∃ j, j < k ∧ (atO xs j).l = l ∧ srt (atO xs j).k (atO xs j).sd = c
  ne : bo ≠ bs

theorem Idx.kept {w w' : World} {bo bs k : Nat} {xs : List OpR} (h : Idx w bo bs xs k) (hb : Below w.heap.size w w') : Idx w' bo bs xs k := by
  obtain ⟨⟨D, h1, h2⟩, ⟨E, h3, h4⟩, h5⟩ := h
  have hg : w.grownBy w' none := ⟨hb.os, hb.tape, hb.output, hb.size, fun i hi _ => hb.block i hi⟩
  exact ⟨⟨D, h1.kept hg (by simp), h2⟩, ⟨E, h3.kept hg (by simp), h4⟩, h5⟩

theorem wfK1 : (Lit.int .i64 1).wf = true := by decide
theorem wfK2 : (Lit.int .i64 2).wf = true := by decide
theorem wfK3 : (Lit.int .i64 3).wf = true := by decide

theorem ok_kind {o : OpR} (h : o.ok = true) : o.k = 1 ∨ o.k = 2 ∨ o.k = 3 := by
  obtain ⟨_, h⟩ := ok_shape _ _ _ _ h
  omega

set_option maxHeartbeats 1000000 in
theorem hasRival_any (bo bs k : Nat) (xs : List OpR) (w : World) (hi : Idx w bo bs xs k) (hok : okTo xs (k + 1)) (hs : (atO xs k).s.size ≤ maxLen) :
    Calls Try.prog 52 #[.agg #[.map (some bo), .map (some bs)], .agg #[.string (atO xs k).s, .int .i64 (atO xs k).k, .int .i64 (atO xs k).l, .int .i64 (atO xs k).sd]] w fun e w' => (∃ v, e = .returned (.bool v) ∧ (v = true ↔ ∃ j, j < k ∧ cl 3 (atO xs k) (atO xs j))) ∧ Below w.heap.size w w' := by
  obtain ⟨⟨D, hown, hD⟩, _, _⟩ := hi
  have h1 := (hD _ _ hs wfK1).1
  have h2 := (hD _ _ hs wfK2).1
  have h3 := (hD _ _ hs wfK3).1
  have hkk := ok_kind (hok k (by omega))
  have key1 : (atO xs k).k = 1 → (Maps.has D (klO (atO xs k).s 1) = true ↔ ∃ j, j < k ∧ cl 3 (atO xs k) (atO xs j)) := by
    intro hk
    rw [h1]
    simp only [cl, if_true, hk, true_iff]
    exact ⟨fun ⟨j, a, b, c⟩ => ⟨j, a, b.symm, c⟩, fun ⟨j, a, b, c⟩ => ⟨j, a, b.symm, c⟩⟩
  have key2 : (atO xs k).k ≠ 1 → ((Maps.has D (klO (atO xs k).s 2) = true ∨ Maps.has D (klO (atO xs k).s 3) = true) ↔ ∃ j, j < k ∧ cl 3 (atO xs k) (atO xs j)) := by
    intro hk
    rw [h2, h3]
    simp only [cl, if_true, hk, false_iff]
    constructor
    · rintro (⟨j, a, b, c⟩ | ⟨j, a, b, c⟩)
      · exact ⟨j, a, b.symm, by omega⟩
      · exact ⟨j, a, b.symm, by omega⟩
    · rintro ⟨j, a, b, c⟩
      have := ok_kind (hok j (by omega))
      rcases this with e | e | e
      · exact absurd e c
      · exact Or.inl ⟨j, a, b.symm, e⟩
      · exact Or.inr ⟨j, a, b.symm, e⟩
  have K1 := hide key1
  have K2 := hide key2
  clear key1 key2 h1 h2 h3 hD hok
  by_cases hk : (atO xs k).k = 1
  · have hk' : ((atO xs k).k == 1) = true := by simpa using hk
    have HK := hide hk
    clear hk hkk
    go_enter Try.func52, Try.ntmps52
    go_wp2_with (first | (go_at_call 69; refine (has_any bo bs k D _ _ _ ((hown.alloc _).alloc _) hs (by decide)).mono ?_; rintro e w1 ⟨rfl, hb1⟩))
    go_ret
    exact ⟨⟨_, rfl, (unhide K1) (unhide HK)⟩, ((below1 _ _).alloc (by simp) _).trans (hb1.mono (by simp; omega))⟩
  · have hk' : ((atO xs k).k == 1) = false := by simpa using hk
    have HK := hide hk
    clear hk hkk
    cases hh : Maps.has D (klO (atO xs k).s 2)
    · have HH := hide hh
      go_enter Try.func52, Try.ntmps52
      go_wp2_with fail
      refine (has_any bo bs k D _ _ _ ((hown.alloc _).alloc _) hs (by decide)).mono ?_
      rintro e w1 ⟨rfl, hb1⟩
      obtain ⟨hc1, hf1⟩ := bcell hb1
      have hown1 := ((hown.alloc (.cells #[.map (some bo), .map (some bs)] 66)).alloc (.cells #[.string (atO xs k).s, .int .i64 (atO xs k).k, .int .i64 (atO xs k).l, .int .i64 (atO xs k).sd] 48)).kept (w' := w1) (row := none) ⟨hb1.os, hb1.tape, hb1.output, hb1.size, fun i hi _ => hb1.block i hi⟩ (by simp)
      have HO := hide hown1
      clear hown1
      go_wp2_with fail
      refine (has_any bo bs k D _ _ _ (unhide HO) hs (by decide)).mono ?_
      rintro e w2 ⟨rfl, hb2⟩
      go_wp2_with fail
      go_ret
      refine ⟨⟨_, rfl, ?_⟩, (((below1 _ _).alloc (by simp) _).trans (hb1.mono (by simp; omega))).trans (hb2.mono (by have := hb1.size; simp at this; omega))⟩
      have := (unhide K2) (unhide HK)
      rw [unhide HH] at this
      simpa using this
    · have HH := hide hh
      go_enter Try.func52, Try.ntmps52
      go_wp2_with fail
      refine (has_any bo bs k D _ _ _ ((hown.alloc _).alloc _) hs (by decide)).mono ?_
      rintro e w1 ⟨rfl, hb1⟩
      go_wp2_with fail
      go_ret
      refine ⟨⟨_, rfl, ?_⟩, ((below1 _ _).alloc (by simp) _).trans (hb1.mono (by simp; omega))⟩
      have := (unhide K2) (unhide HK)
      rw [unhide HH] at this
      simpa using this
end Go.Proofs.Ytokabkhnidlcnaa
