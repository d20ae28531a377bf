import Derived.Maps.OwnSet
import Derived.DeepKeys4
import Derived.Test.YtokabkhnidlcnabT03
import Derived.Test.YtokabkhnidlcnabT05
import Derived.Test.YtokabkhnidlcnabT07

/-
  The plain mathematics of TreeOk: operators of nodes, levels, holes.
-/
namespace Go.Proofs.Ytokabkhnidlcnab
set_option maxRecDepth 100000
open Go.RowKit

/-- The first place from i on, within m places, of the operator with a text and a kind. -/
def fndFrom (xs : List OpR) (t : ByteArray) (kd : Int) : Nat → Nat → Option Nat
  | 0, _ => none
  | m + 1, i => if (atO xs i).s = t ∧ (atO xs i).k = kd then some i else fndFrom xs t kd m (i + 1)

def fnd (xs : List OpR) (t : ByteArray) (kd : Int) : Option Nat := fndFrom xs t kd xs.length 0

theorem fndFrom_some {xs : List OpR} {t : ByteArray} {kd : Int} : ∀ {m i j : Nat}, fndFrom xs t kd m i = some j → i ≤ j ∧ j < i + m ∧ (atO xs j).s = t ∧ (atO xs j).k = kd
  | 0, _, _, h => by cases h
  | m + 1, i, j, h => by
    unfold fndFrom at h
    split at h
    · rename_i hc
      injection h with h
      subst h
      exact ⟨Nat.le_refl _, by omega, hc.1, hc.2⟩
    · have := fndFrom_some h
      exact ⟨by omega, by omega, this.2.2⟩

theorem fndFrom_none {xs : List OpR} {t : ByteArray} {kd : Int} : ∀ {m i : Nat}, fndFrom xs t kd m i = none → ∀ j, i ≤ j → j < i + m → ¬ ((atO xs j).s = t ∧ (atO xs j).k = kd)
  | 0, _, _, _, h1, h2 => by omega
  | m + 1, i, h, j, h1, h2 => by
    unfold fndFrom at h
    split at h
    · cases h
    · rename_i hc
      by_cases e : j = i
      · subst e; exact hc
      · exact fndFrom_none h j (by omega) (by omega)

theorem fnd_some {xs : List OpR} {t : ByteArray} {kd : Int} {j : Nat} (h : fnd xs t kd = some j) : j < xs.length ∧ (atO xs j).s = t ∧ (atO xs j).k = kd := by
  have := fndFrom_some h
  exact ⟨by omega, this.2.2⟩
theorem fnd_none {xs : List OpR} {t : ByteArray} {kd : Int} (h : fnd xs t kd = none) {j : Nat} (hj : j < xs.length) : ¬ ((atO xs j).s = t ∧ (atO xs j).k = kd) :=
  fndFrom_none h j (Nat.zero_le _) (by omega)
theorem fndFrom_skip {xs : List OpR} {t : ByteArray} {kd : Int} : ∀ (k m i : Nat), (∀ j, i ≤ j → j < i + k → ¬ ((atO xs j).s = t ∧ (atO xs j).k = kd)) → fndFrom xs t kd (k + m) i = fndFrom xs t kd m (i + k)
  | 0, m, i, _ => by rw [Nat.zero_add, Nat.add_zero]
  | k + 1, m, i, h => by
    have e : k + 1 + m = (k + m) + 1 := by omega
    rw [e]
    show (if (atO xs i).s = t ∧ (atO xs i).k = kd then some i else fndFrom xs t kd (k + m) (i + 1)) = _
    rw [if_neg (h i (Nat.le_refl _) (by omega)), fndFrom_skip k m (i + 1) (fun j h1 h2 => h j (by omega) (by omega))]
    congr 1
    omega
theorem fnd_first {xs : List OpR} {t : ByteArray} {kd : Int} {k : Nat} (hk : k < xs.length) (h : ∀ j, j < k → ¬ ((atO xs j).s = t ∧ (atO xs j).k = kd)) (hk2 : (atO xs k).s = t ∧ (atO xs k).k = kd) : fnd xs t kd = some k := by
  have e : xs.length = k + ((xs.length - k - 1) + 1) := by omega
  unfold fnd
  rw [e, fndFrom_skip k _ 0 (fun j _ h2 => h j (by omega))]
  show (if (atO xs (0 + k)).s = t ∧ (atO xs (0 + k)).k = kd then some (0 + k) else _) = _
  rw [Nat.zero_add, if_pos hk2]
theorem fnd_not {xs : List OpR} {t : ByteArray} {kd : Int} (h : ∀ j, j < xs.length → ¬ ((atO xs j).s = t ∧ (atO xs j).k = kd)) : fnd xs t kd = none := by
  cases e : fnd xs t kd with
  | none => rfl
  | some j => exact absurd (fnd_some e).2 (h j (fnd_some e).1)

/-- Over a valid table there is no other. -/
theorem fnd_one {xs : List OpR} (hv : IsCode xs 0) {t : ByteArray} {kd : Int} {j : Nat} (hj : j < xs.length) (h : (atO xs j).s = t ∧ (atO xs j).k = kd) : fnd xs t kd = some j := by
  cases e : fnd xs t kd with
  | none => exact absurd h (fnd_none e hj)
  | some i =>
    obtain ⟨hi, h1, h2⟩ := fnd_some e
    by_cases hij : i = j
    · rw [hij]
    · exfalso
      have hpr : ¬ Pr 3 xs := by
        rcases hv with ⟨h, _⟩ | ⟨_, ⟨h, _⟩ | ⟨_, ⟨h, _⟩ | ⟨h, _⟩⟩⟩
        · exact absurd h (by decide)
        · exact absurd h (by decide)
        · exact absurd h (by decide)
        · exact h
      apply hpr
      rcases Nat.lt_trichotomy i j with e | e | e
      · exact ⟨j, i, e, hj, by simp [cl]; exact ⟨by rw [h1, h.1], by omega⟩⟩
      · exact absurd e hij
      · exact ⟨i, j, e, hi, by simp [cl]; exact ⟨by rw [h1, h.1], by omega⟩⟩

def isOpN (o : NodeR) : Prop := 3 ≤ o.k ∧ o.k ≤ 5

/-- The level of a node. -/
def levN (xs : List OpR) (o : NodeR) : Int := if 3 ≤ o.k ∧ o.k ≤ 5 then (match fnd xs o.t (o.k - 2) with
  | some j => (atO xs j).l
  | none => 1001) else 1001

/-- The least of a hole of the operator at a place. -/
def holeO (xs : List OpR) (j : Nat) (b : Bool) : Int := holeI (atO xs j).s (atO xs j).k (atO xs j).l (atO xs j).sd b

/-- Each operator node has an operator. -/
def Knows (xs : List OpR) (ns : List NodeR) : Prop := ∀ i, i < ns.length → isOpN (atN ns i) → fnd xs (atN ns i).t ((atN ns i).k - 2) ≠ none

/-- The kids of node i fit its holes. -/
def FitN (xs : List OpR) (ns : List NodeR) (i : Nat) : Prop := ∀ j, isOpN (atN ns i) → fnd xs (atN ns i).t ((atN ns i).k - 2) = some j →
  holeO xs j false ≤ levN xs (atN ns (atN ns i).a.toNat) ∧ (kids (atN ns i).k = 1 ∨ holeO xs j true ≤ levN xs (atN ns (atN ns i).b.toNat))

/-- What TreeOk answers. -/
def TreeOkIs (xs : List OpR) (ns : List NodeR) (c : Int) : Prop :=
  (¬ IsCode xs 0 ∧ c = 1) ∨ (IsCode xs 0 ∧ ((¬ (InOrd ns ∧ Knows xs ns) ∧ c = 2) ∨ ((InOrd ns ∧ Knows xs ns) ∧ ((¬ (∀ i, i < ns.length → FitN xs ns i) ∧ c = 3) ∨ ((∀ i, i < ns.length → FitN xs ns i) ∧ c = 0)))))

theorem TreeOkIs.one {xs : List OpR} {ns : List NodeR} {c c' : Int} (h : TreeOkIs xs ns c) (h' : TreeOkIs xs ns c') : c = c' := by
  rcases h with ⟨a, rfl⟩ | ⟨a, ⟨b, rfl⟩ | ⟨b, ⟨d, rfl⟩ | ⟨d, rfl⟩⟩⟩ <;> rcases h' with ⟨a', rfl⟩ | ⟨a', ⟨b', rfl⟩ | ⟨b', ⟨d', rfl⟩ | ⟨d', rfl⟩⟩⟩ <;> first | rfl | exact absurd a a' | exact absurd a' a | exact absurd b b' | exact absurd b' b | exact absurd d d' | exact absurd d' d
end Go.Proofs.Ytokabkhnidlcnab

/-
  The index of a table: its two maps.
-/
namespace Go.Proofs.Ytokabkhnidlcnab
set_option maxRecDepth 100000
open Go.RowKit Go.Maps

theorem laidOutT : laidOutB Try.prog = true := by kernel_rfl
theorem rowK : (164 : TypeId) < Try.prog.types.size := of_decide_eq_true (by kernel_rfl)
theorem wideK : (match Try.prog.underlying 164 with | some (.array _ _) | some (.struct _) => true | _ => false) = true := by kernel_rfl
theorem lawK : Keyed Try.prog 164 := Keyed.of_law (deep_law_laid laidOutT (m := 3) (by omega) rowK (by kernel_rfl) wideK)
theorem lawI : Keyed Try.prog 3 := int_keyed Try.underlying3
theorem keyTyK : Try.prog.keyType 164 = true := by kernel_rfl
theorem sizeTypes : Try.prog.types.size + 1 = (Try.prog.types.size - 1) + 1 + 1 := by
  have h : decide (1 ≤ Try.prog.types.size) = true := by kernel_rfl
  have := of_decide_eq_true h
  omega
theorem cellsK : Try.prog.cellsOf 164 = 2 := by kernel_rfl
theorem cells9 : Try.prog.cellsOf 9 = 1 := by kernel_rfl
theorem cells3 : Try.prog.cellsOf 3 = 1 := by kernel_rfl

/-- What a text and a kind read as, as a key. -/
def klO (s : ByteArray) (k : Int) : Lit := .string (keyBytes [.string s.data.toList, .int .i64 k])

theorem litsS {s : ByteArray} (hs : s.size ≤ maxLen) (d : Nat) : Try.prog.keyLits (d + 1) 9 [.string s] = some [.string s.data.toList] := by
  unfold Program.keyLits
  rw [Try.underlying9]
  exact if_pos hs

theorem litsI {k : Int} (hk : (Lit.int .i64 k).wf = true) (d : Nat) : Try.prog.keyLits (d + 1) 3 [.int .i64 k] = some [.int .i64 k] := by
  unfold Program.keyLits
  rw [Try.underlying3]
  exact if_pos ⟨rfl, hk⟩

theorem litsK {s : ByteArray} {k : Int} (hs : s.size ≤ maxLen) (hk : (Lit.int .i64 k).wf = true) (d : Nat) :
    Try.prog.keyLits (d + 1 + 1) 164 [.string s, .int .i64 k] = some [.string s.data.toList, .int .i64 k] := by
  conv => lhs; unfold Program.keyLits
  rw [Try.underlying164]
  simp [cellsK, cells9, cells3, litsS hs d, litsI hk d]

theorem keyK {s : ByteArray} {k : Int} (hs : s.size ≤ maxLen) (hk : (Lit.int .i64 k).wf = true) : keyOf Try.prog 164 (.agg #[.string s, .int .i64 k]) = some (klO s k) := by
  unfold keyOf
  rw [Try.underlying164]
  have hf : (Value.agg #[.string s, .int .i64 k]).formed Try.prog 164 = true := by simp [Value.formed, Try.underlying164, cellsK]
  have hl := litsK hs hk (Try.prog.types.size - 1)
  rw [← sizeTypes] at hl
  simp only [keyTyK, hf, Bool.and_self, if_true]
  show (Try.prog.keyLits (Try.prog.types.size + 1) 164 [.string s, .int .i64 k]).map _ = _
  rw [hl]
  rfl

theorem klO_inj {s t : ByteArray} {k k' : Int} (hs : s.size ≤ maxLen) (ht : t.size ≤ maxLen) (hk : (Lit.int .i64 k).wf = true) (hk' : (Lit.int .i64 k').wf = true) (h : klO s k = klO t k') : s = t ∧ k = k' := by
  have a := keyK hs hk
  have b := keyK ht hk'
  rw [← h] at b
  have := lawK.inj a b
  simpa using this

theorem keyI {l : Int} (h : (Lit.int .i64 l).wf = true) : keyOf Try.prog 3 (.int .i64 l) = some (.int .i64 l) := keyOf_int_mk Try.underlying3 h

/-- What is told of an operator in a map: all its fields. -/
def opDat (s : ByteArray) (k l sd : Int) : DataW Unit := .agg [.lit (.string s.data.toList), .lit (.int .i64 k), .lit (.int .i64 l), .lit (.int .i64 sd)]

/-- How an operator in a map reads. -/
def opElem (v : Value) : Option (DataW Unit × List MemPlace) :=
  match v with
  | .agg cs => match cs.toList with
    | [.string s, .int .i64 k, .int .i64 l, .int .i64 sd] => some (opDat s k l sd, [])
    | _ => none
  | _ => none

theorem opElem_mk (s : ByteArray) (k l sd : Int) : opElem (.agg #[.string s, .int .i64 k, .int .i64 l, .int .i64 sd]) = some (opDat s k l sd, []) := rfl

theorem opElem_inv {v : Value} {z : DataW Unit × List MemPlace} (h : opElem v = some z) : ∃ s k l sd, v = .agg #[.string s, .int .i64 k, .int .i64 l, .int .i64 sd] := by
  unfold opElem at h
  split at h
  · rename_i cs
    split at h
    · rename_i a b c d e
      obtain ⟨cs⟩ := cs
      simp only at e
      subst e
      exact ⟨_, _, _, _, rfl⟩
    · cases h
  · cases h

theorem opDat_inj {s s' : ByteArray} {k k' l l' sd sd' : Int} (h : opDat s k l sd = opDat s' k' l' sd') : s = s' ∧ k = k' ∧ l = l' ∧ sd = sd' := by
  unfold opDat at h
  simp only [DataW.agg.injEq, List.cons.injEq, DataW.lit.injEq, Lit.string.injEq, Lit.int.injEq, true_and, and_true] at h
  obtain ⟨h1, h2, h3, h4⟩ := h
  refine ⟨?_, h2, h3, h4⟩
  obtain ⟨⟨a⟩⟩ := s
  obtain ⟨⟨b⟩⟩ := s'
  simp only at h1
  rw [h1]

/-- What has been read is the operator that the data tell of. -/
theorem opElem_dat {v : Value} {s : ByteArray} {k l sd : Int} {ps : List MemPlace} (h : opElem v = some (opDat s k l sd, ps)) : v = .agg #[.string s, .int .i64 k, .int .i64 l, .int .i64 sd] := by
  obtain ⟨s', k', l', sd', rfl⟩ := opElem_inv h
  rw [opElem_mk] at h
  simp only [Option.some.injEq, Prod.mk.injEq] at h
  obtain ⟨rfl, rfl, rfl, rfl⟩ := opDat_inj h.1
  rfl

theorem zeroOp (w : World) : (zeroValue 70).run Try.prog w = .ok (.agg #[.string ⟨#[]⟩, .int .i64 0, .int .i64 0, .int .i64 0]) w := by kernel_rfl
theorem zeroInt (w : World) : (zeroValue 3).run Try.prog w = .ok (.int .i64 0) w := by kernel_rfl
end Go.Proofs.Ytokabkhnidlcnab
