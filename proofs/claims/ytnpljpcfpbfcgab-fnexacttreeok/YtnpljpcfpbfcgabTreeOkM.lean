/-
  The plain mathematics of TreeOk: operators of nodes, levels, holes.
-/
import Derived.Test.YtnpljpcfpbfcgabTreeM
import Derived.Test.YtnpljpcfpbfcgabHoleB
import Derived.Test.YtnpljpcfpbfcgabSpecTable
namespace Go.Proofs.Ytnpljpcfpbfcgab
set_option maxRecDepth 100000
open Go.RowKit

/-- The first place from i on, within m places, of the operator with a text and a kind. -/
def fndFrom (xs : List OpR) (t : ByteArray) (kd : Int) : Nat → Nat → Option Nat
  | 0, _ => none
  | m + 1, i => if (atO xs i).s = t ∧ (atO xs i).k = kd then some i else fndFrom xs t kd m (i + 1)

def fnd (xs : List OpR) (t : ByteArray) (kd : Int) : Option Nat := fndFrom xs t kd xs.length 0

theorem fndFrom_some {xs : List OpR} {t : ByteArray} {kd : Int} : ∀ {m i j : Nat}, fndFrom xs t kd m i = some j → i ≤ j ∧ j < i + m ∧ (atO xs j).s = t ∧ (atO xs j).k = kd
  | 0, _, _, h => by cases h
  | m + 1, i, j, h => by
    unfold fndFrom at h
    split at h
    · rename_i hc
      injection h with h
      subst h
      exact ⟨Nat.le_refl _, by omega, hc.1, hc.2⟩
    · have := fndFrom_some h
      exact ⟨by omega, by omega, this.2.2⟩

theorem fndFrom_none {xs : List OpR} {t : ByteArray} {kd : Int} : ∀ {m i : Nat}, fndFrom xs t kd m i = none → ∀ j, i ≤ j → j < i + m → ¬ ((atO xs j).s = t ∧ (atO xs j).k = kd)
  | 0, _, _, _, h1, h2 => by omega
  | m + 1, i, h, j, h1, h2 => by
    unfold fndFrom at h
    split at h
    · cases h
    · rename_i hc
      by_cases e : j = i
      · subst e; exact hc
      · exact fndFrom_none h j (by omega) (by omega)

theorem fnd_some {xs : List OpR} {t : ByteArray} {kd : Int} {j : Nat} (h : fnd xs t kd = some j) : j < xs.length ∧ (atO xs j).s = t ∧ (atO xs j).k = kd := by
  have := fndFrom_some h
  exact ⟨by omega, this.2.2⟩
theorem fnd_none {xs : List OpR} {t : ByteArray} {kd : Int} (h : fnd xs t kd = none) {j : Nat} (hj : j < xs.length) : ¬ ((atO xs j).s = t ∧ (atO xs j).k = kd) :=
  fndFrom_none h j (Nat.zero_le _) (by omega)
theorem fndFrom_skip {xs : List OpR} {t : ByteArray} {kd : Int} : ∀ (k m i : Nat), (∀ j, i ≤ j → j < i + k → ¬ ((atO xs j).s = t ∧ (atO xs j).k = kd)) → fndFrom xs t kd (k + m) i = fndFrom xs t kd m (i + k)
  | 0, m, i, _ => by rw [Nat.zero_add, Nat.add_zero]
  | k + 1, m, i, h => by
    have e : k + 1 + m = (k + m) + 1 := by omega
    rw [e]
    show (if (atO xs i).s = t ∧ (atO xs i).k = kd then some i else fndFrom xs t kd (k + m) (i + 1)) = _
    rw [if_neg (h i (Nat.le_refl _) (by omega)), fndFrom_skip k m (i + 1) (fun j h1 h2 => h j (by omega) (by omega))]
    congr 1
    omega
theorem fnd_first {xs : List OpR} {t : ByteArray} {kd : Int} {k : Nat} (hk : k < xs.length) (h : ∀ j, j < k → ¬ ((atO xs j).s = t ∧ (atO xs j).k = kd)) (hk2 : (atO xs k).s = t ∧ (atO xs k).k = kd) : fnd xs t kd = some k := by
  have e : xs.length = k + ((xs.length - k - 1) + 1) := by omega
  unfold fnd
  rw [e, fndFrom_skip k _ 0 (fun j _ h2 => h j (by omega))]
  show (if (atO xs (0 + k)).s = t ∧ (atO xs (0 + k)).k = kd then some (0 + k) else _) = _
  rw [Nat.zero_add, if_pos hk2]
theorem fnd_not {xs : List OpR} {t : ByteArray} {kd : Int} (h : ∀ j, j < xs.length → ¬ ((atO xs j).s = t ∧ (atO xs j).k = kd)) : fnd xs t kd = none := by
  cases e : fnd xs t kd with
  | none => rfl
  | some j => exact absurd (fnd_some e).2 (h j (fnd_some e).1)

/-- Over a valid table there is no other. -/
theorem fnd_one {xs : List OpR} (hv : IsCode xs 0) {t : ByteArray} {kd : Int} {j : Nat} (hj : j < xs.length) (h : (atO xs j).s = t ∧ (atO xs j).k = kd) : fnd xs t kd = some j := by
  cases e : fnd xs t kd with
  | none => exact absurd h (fnd_none e hj)
  | some i =>
    obtain ⟨hi, h1, h2⟩ := fnd_some e
    by_cases hij : i = j
    · rw [hij]
    · exfalso
      have hpr : ¬ Pr 3 xs := by
        rcases hv with ⟨h, _⟩ | ⟨_, ⟨h, _⟩ | ⟨_, ⟨h, _⟩ | ⟨h, _⟩⟩⟩
        · exact absurd h (by decide)
        · exact absurd h (by decide)
        · exact absurd h (by decide)
        · exact h
      apply hpr
      rcases Nat.lt_trichotomy i j with e | e | e
      · exact ⟨j, i, e, hj, by simp [cl]; exact ⟨by rw [h1, h.1], by omega⟩⟩
      · exact absurd e hij
      · exact ⟨i, j, e, hi, by simp [cl]; exact ⟨by rw [h1, h.1], by omega⟩⟩

def isOpN (o : NodeR) : Prop := 3 ≤ o.k ∧ o.k ≤ 5

/-- The level of a node. -/
def levN (xs : List OpR) (o : NodeR) : Int := if 3 ≤ o.k ∧ o.k ≤ 5 then (match fnd xs o.t (o.k - 2) with
  | some j => (atO xs j).l
  | none => 1001) else 1001

/-- The least of a hole of the operator at a place. -/
def holeO (xs : List OpR) (j : Nat) (b : Bool) : Int := holeI (atO xs j).s (atO xs j).k (atO xs j).l (atO xs j).sd b

/-- Each operator node has an operator. -/
def Knows (xs : List OpR) (ns : List NodeR) : Prop := ∀ i, i < ns.length → isOpN (atN ns i) → fnd xs (atN ns i).t ((atN ns i).k - 2) ≠ none

/-- The kids of node i fit its holes. -/
def FitN (xs : List OpR) (ns : List NodeR) (i : Nat) : Prop := ∀ j, isOpN (atN ns i) → fnd xs (atN ns i).t ((atN ns i).k - 2) = some j →
  holeO xs j false ≤ levN xs (atN ns (atN ns i).a.toNat) ∧ (kids (atN ns i).k = 1 ∨ holeO xs j true ≤ levN xs (atN ns (atN ns i).b.toNat))

/-- What TreeOk answers. -/
def TreeOkIs (xs : List OpR) (ns : List NodeR) (c : Int) : Prop :=
  (¬ IsCode xs 0 ∧ c = 1) ∨ (IsCode xs 0 ∧ ((¬ (InOrd ns ∧ Knows xs ns) ∧ c = 2) ∨ ((InOrd ns ∧ Knows xs ns) ∧ ((¬ (∀ i, i < ns.length → FitN xs ns i) ∧ c = 3) ∨ ((∀ i, i < ns.length → FitN xs ns i) ∧ c = 0)))))

theorem TreeOkIs.one {xs : List OpR} {ns : List NodeR} {c c' : Int} (h : TreeOkIs xs ns c) (h' : TreeOkIs xs ns c') : c = c' := by
  rcases h with ⟨a, rfl⟩ | ⟨a, ⟨b, rfl⟩ | ⟨b, ⟨d, rfl⟩ | ⟨d, rfl⟩⟩⟩ <;> rcases h' with ⟨a', rfl⟩ | ⟨a', ⟨b', rfl⟩ | ⟨b', ⟨d', rfl⟩ | ⟨d', rfl⟩⟩⟩ <;> first | rfl | exact absurd a a' | exact absurd a' a | exact absurd b b' | exact absurd b' b | exact absurd d d' | exact absurd d' d
end Go.Proofs.Ytnpljpcfpbfcgab
