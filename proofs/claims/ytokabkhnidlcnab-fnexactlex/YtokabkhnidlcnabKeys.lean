/-
  The index of a table: its two maps.
-/
import Derived.Test.YtokabkhnidlcnabSpecTable
import Derived.Maps.OwnSet
import Derived.DeepKeys4
namespace Go.Proofs.Ytokabkhnidlcnab
set_option maxRecDepth 100000
open Go.RowKit Go.Maps

theorem laidOutT : laidOutB Try.prog = true := by kernel_rfl
theorem rowK : (164 : TypeId) < Try.prog.types.size := of_decide_eq_true (by kernel_rfl)
theorem wideK : (match Try.prog.underlying 164 with | some (.array _ _) | some (.struct _) => true | _ => false) = true := by kernel_rfl
theorem lawK : Keyed Try.prog 164 := Keyed.of_law (deep_law_laid laidOutT (m := 3) (by omega) rowK (by kernel_rfl) wideK)
theorem lawI : Keyed Try.prog 3 := int_keyed Try.underlying3
theorem keyTyK : Try.prog.keyType 164 = true := by kernel_rfl
theorem sizeTypes : Try.prog.types.size + 1 = (Try.prog.types.size - 1) + 1 + 1 := by
  have h : decide (1 ≤ Try.prog.types.size) = true := by kernel_rfl
  have := of_decide_eq_true h
  omega
theorem cellsK : Try.prog.cellsOf 164 = 2 := by kernel_rfl
theorem cells9 : Try.prog.cellsOf 9 = 1 := by kernel_rfl
theorem cells3 : Try.prog.cellsOf 3 = 1 := by kernel_rfl

/-- What a text and a kind read as, as a key. -/
def klO (s : ByteArray) (k : Int) : Lit := .string (keyBytes [.string s.data.toList, .int .i64 k])

theorem litsS {s : ByteArray} (hs : s.size ≤ maxLen) (d : Nat) : Try.prog.keyLits (d + 1) 9 [.string s] = some [.string s.data.toList] := by
  unfold Program.keyLits
  rw [Try.underlying9]
  exact if_pos hs

theorem litsI {k : Int} (hk : (Lit.int .i64 k).wf = true) (d : Nat) : Try.prog.keyLits (d + 1) 3 [.int .i64 k] = some [.int .i64 k] := by
  unfold Program.keyLits
  rw [Try.underlying3]
  exact if_pos ⟨rfl, hk⟩

theorem litsK {s : ByteArray} {k : Int} (hs : s.size ≤ maxLen) (hk : (Lit.int .i64 k).wf = true) (d : Nat) :
    Try.prog.keyLits (d + 1 + 1) 164 [.string s, .int .i64 k] = some [.string s.data.toList, .int .i64 k] := by
  conv => lhs; unfold Program.keyLits
  rw [Try.underlying164]
  simp [cellsK, cells9, cells3, litsS hs d, litsI hk d]

theorem keyK {s : ByteArray} {k : Int} (hs : s.size ≤ maxLen) (hk : (Lit.int .i64 k).wf = true) : keyOf Try.prog 164 (.agg #[.string s, .int .i64 k]) = some (klO s k) := by
  unfold keyOf
  rw [Try.underlying164]
  have hf : (Value.agg #[.string s, .int .i64 k]).formed Try.prog 164 = true := by simp [Value.formed, Try.underlying164, cellsK]
  have hl := litsK hs hk (Try.prog.types.size - 1)
  rw [← sizeTypes] at hl
  simp only [keyTyK, hf, Bool.and_self, if_true]
  show (Try.prog.keyLits (Try.prog.types.size + 1) 164 [.string s, .int .i64 k]).map _ = _
  rw [hl]
  rfl

theorem klO_inj {s t : ByteArray} {k k' : Int} (hs : s.size ≤ maxLen) (ht : t.size ≤ maxLen) (hk : (Lit.int .i64 k).wf = true) (hk' : (Lit.int .i64 k').wf = true) (h : klO s k = klO t k') : s = t ∧ k = k' := by
  have a := keyK hs hk
  have b := keyK ht hk'
  rw [← h] at b
  have := lawK.inj a b
  simpa using this

theorem keyI {l : Int} (h : (Lit.int .i64 l).wf = true) : keyOf Try.prog 3 (.int .i64 l) = some (.int .i64 l) := keyOf_int_mk Try.underlying3 h

/-- What is told of an operator in a map: all its fields. -/
def opDat (s : ByteArray) (k l sd : Int) : DataW Unit := .agg [.lit (.string s.data.toList), .lit (.int .i64 k), .lit (.int .i64 l), .lit (.int .i64 sd)]

/-- How an operator in a map reads. -/
def opElem (v : Value) : Option (DataW Unit × List MemPlace) :=
  match v with
  | .agg cs => match cs.toList with
    | [.string s, .int .i64 k, .int .i64 l, .int .i64 sd] => some (opDat s k l sd, [])
    | _ => none
  | _ => none

theorem opElem_mk (s : ByteArray) (k l sd : Int) : opElem (.agg #[.string s, .int .i64 k, .int .i64 l, .int .i64 sd]) = some (opDat s k l sd, []) := rfl

theorem opElem_inv {v : Value} {z : DataW Unit × List MemPlace} (h : opElem v = some z) : ∃ s k l sd, v = .agg #[.string s, .int .i64 k, .int .i64 l, .int .i64 sd] := by
  unfold opElem at h
  split at h
  · rename_i cs
    split at h
    · rename_i a b c d e
      obtain ⟨cs⟩ := cs
      simp only at e
      subst e
      exact ⟨_, _, _, _, rfl⟩
    · cases h
  · cases h

theorem opDat_inj {s s' : ByteArray} {k k' l l' sd sd' : Int} (h : opDat s k l sd = opDat s' k' l' sd') : s = s' ∧ k = k' ∧ l = l' ∧ sd = sd' := by
  unfold opDat at h
  simp only [DataW.agg.injEq, List.cons.injEq, DataW.lit.injEq, Lit.string.injEq, Lit.int.injEq, true_and, and_true] at h
  obtain ⟨h1, h2, h3, h4⟩ := h
  refine ⟨?_, h2, h3, h4⟩
  obtain ⟨⟨a⟩⟩ := s
  obtain ⟨⟨b⟩⟩ := s'
  simp only at h1
  rw [h1]

/-- What has been read is the operator that the data tell of. -/
theorem opElem_dat {v : Value} {s : ByteArray} {k l sd : Int} {ps : List MemPlace} (h : opElem v = some (opDat s k l sd, ps)) : v = .agg #[.string s, .int .i64 k, .int .i64 l, .int .i64 sd] := by
  obtain ⟨s', k', l', sd', rfl⟩ := opElem_inv h
  rw [opElem_mk] at h
  simp only [Option.some.injEq, Prod.mk.injEq] at h
  obtain ⟨rfl, rfl, rfl, rfl⟩ := opDat_inj h.1
  rfl

theorem zeroOp (w : World) : (zeroValue 70).run Try.prog w = .ok (.agg #[.string ⟨#[]⟩, .int .i64 0, .int .i64 0, .int .i64 0]) w := by kernel_rfl
theorem zeroInt (w : World) : (zeroValue 3).run Try.prog w = .ok (.int .i64 0) w := by kernel_rfl
end Go.Proofs.Ytokabkhnidlcnab
