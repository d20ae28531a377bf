/-
  Operators as keys of a map; the set of the operators seen.
-/
import Derived.Test.YtokabkhnidlcnabUni
import Derived.Maps.OwnSet
import Derived.DeepKeys4
namespace Go.Proofs.Ytokabkhnidlcnab
set_option maxRecDepth 100000
open Go.RowKit Go.Maps

theorem laidOutT : laidOutB Try.prog = true := by kernel_rfl
theorem rowQ : (70 : TypeId) < Try.prog.types.size := of_decide_eq_true (by kernel_rfl)
theorem wideQ : (match Try.prog.underlying 70 with | some (.array _ _) | some (.struct _) => true | _ => false) = true := by kernel_rfl
theorem lawQ : Keyed Try.prog 70 := Keyed.of_law (deep_law_laid laidOutT (m := 3) (by omega) rowQ (by kernel_rfl) wideQ)
theorem keyTyQ : Try.prog.keyType 70 = true := by kernel_rfl
theorem sizeTypes : Try.prog.types.size + 1 = (Try.prog.types.size - 1) + 1 + 1 := by
  have h : decide (1 ≤ Try.prog.types.size) = true := by kernel_rfl
  have := of_decide_eq_true h
  omega
theorem cellsQ : Try.prog.cellsOf 70 = 4 := by kernel_rfl
theorem cells9 : Try.prog.cellsOf 9 = 1 := by kernel_rfl
theorem cells3 : Try.prog.cellsOf 3 = 1 := by kernel_rfl

/-- An operator's fields fit their types. -/
def Fine (o : OpR) : Prop := o.s.size ≤ maxLen ∧ (Lit.int .i64 o.k).wf = true ∧ (Lit.int .i64 o.l).wf = true ∧ (Lit.int .i64 o.sd).wf = true

/-- What an operator reads as, as a key. -/
def klQ (o : OpR) : Lit := .string (keyBytes [.string o.s.data.toList, .int .i64 o.k, .int .i64 o.l, .int .i64 o.sd])

theorem litsS {s : ByteArray} (hs : s.size ≤ maxLen) (d : Nat) : Try.prog.keyLits (d + 1) 9 [.string s] = some [.string s.data.toList] := by
  unfold Program.keyLits
  rw [Try.underlying9]
  exact if_pos hs

theorem litsI {k : Int} (hk : (Lit.int .i64 k).wf = true) (d : Nat) : Try.prog.keyLits (d + 1) 3 [.int .i64 k] = some [.int .i64 k] := by
  unfold Program.keyLits
  rw [Try.underlying3]
  exact if_pos ⟨rfl, hk⟩

theorem litsQ {o : OpR} (h : Fine o) (d : Nat) :
    Try.prog.keyLits (d + 1 + 1) 70 [.string o.s, .int .i64 o.k, .int .i64 o.l, .int .i64 o.sd] = some [.string o.s.data.toList, .int .i64 o.k, .int .i64 o.l, .int .i64 o.sd] := by
  obtain ⟨h1, h2, h3, h4⟩ := h
  conv => lhs; unfold Program.keyLits
  rw [Try.underlying70]
  simp [cellsQ, cells9, cells3, litsS h1 d, litsI h2 d, litsI h3 d, litsI h4 d]

theorem keyQ {o : OpR} (h : Fine o) : keyOf Try.prog 70 (.agg #[.string o.s, .int .i64 o.k, .int .i64 o.l, .int .i64 o.sd]) = some (klQ o) := by
  unfold keyOf
  rw [Try.underlying70]
  have hf : (Value.agg #[.string o.s, .int .i64 o.k, .int .i64 o.l, .int .i64 o.sd]).formed Try.prog 70 = true := by simp [Value.formed, Try.underlying70, cellsQ]
  have hl := litsQ h (Try.prog.types.size - 1)
  rw [← sizeTypes] at hl
  simp only [keyTyQ, hf, Bool.and_self, if_true]
  show (Try.prog.keyLits (Try.prog.types.size + 1) 70 [.string o.s, .int .i64 o.k, .int .i64 o.l, .int .i64 o.sd]).map _ = _
  rw [hl]
  rfl

theorem klQ_inj {a b : OpR} (ha : Fine a) (hb : Fine b) (h : klQ a = klQ b) : a = b := by
  have p := keyQ ha
  have q := keyQ hb
  rw [← h] at q
  have := lawQ.inj p q
  obtain ⟨s, k, l, sd⟩ := a
  obtain ⟨s', k', l', sd'⟩ := b
  simp at this
  obtain ⟨rfl, rfl, rfl, rfl⟩ := this
  rfl

theorem zeroUnit (w : World) : (zeroValue 126).run Try.prog w = .ok (.agg #[]) w := by kernel_rfl

/-- The set of the first p operators. -/
structure Seen (w : World) (bm : Nat) (zs : List OpR) (p : Nat) : Prop where
  set : ∃ D : DataW Unit, w.ownsMap Try.prog 70 (unitElem (H := Unit)) bm p D ∧ ∀ o : OpR, Fine o → (Maps.has D (klQ o) = true ↔ ∃ j, j < p ∧ atO zs j = o)

theorem Seen.kept {w w' : World} {bm p : Nat} {zs : List OpR} {row : Option Nat} (h : Seen w bm zs p) (hg : w.grownBy w' row) (hne : some bm ≠ row) : Seen w' bm zs p := by
  obtain ⟨D, h1, h2⟩ := h
  exact ⟨D, h1.kept hg hne, h2⟩

theorem Seen.alloc {w : World} {bm p : Nat} {zs : List OpR} (h : Seen w bm zs p) (o : Obj) : Seen (w.alloc o) bm zs p := h.kept (World.grownBy_alloc w o none) (by simp)

theorem Seen.start (w : World) (zs : List OpR) : Seen (w.alloc (.map #[] 0)) w.heap.size zs 0 :=
  ⟨_, World.ownsMap_made (H := Unit) w Try.prog 70 unitElem, fun o _ => by simp [Maps.has]⟩

theorem seen_step {zs : List OpR} {p : Nat} {D : DataW Unit} (hm : IsMap D) (hf : Fine (atO zs p)) (h : ∀ o : OpR, Fine o → (Maps.has D (klQ o) = true ↔ ∃ j, j < p ∧ atO zs j = o)) :
    ∀ o : OpR, Fine o → (Maps.has (D.put (klQ (atO zs p)) (.agg [])) (klQ o) = true ↔ ∃ j, j < p + 1 ∧ atO zs j = o) := by
  intro o ho
  by_cases e : klQ o = klQ (atO zs p)
  · have e1 := klQ_inj ho hf e
    rw [e, has_put_same hm (lawQ.key (keyQ hf))]
    exact ⟨fun _ => ⟨p, by omega, e1.symm⟩, fun _ => rfl⟩
  · rw [has_put_other e, h o ho]
    constructor
    · rintro ⟨j, a, b⟩; exact ⟨j, by omega, b⟩
    · rintro ⟨j, a, b⟩
      by_cases ej : j = p
      · subst ej; exact absurd (by rw [b]) e
      · exact ⟨j, by omega, b⟩

/-- An operator that was seen: the set serves for one place more. -/
theorem seen_hit {zs : List OpR} {p : Nat} {D : DataW Unit} (hh : ∃ j, j < p ∧ atO zs j = atO zs p) (h : ∀ o : OpR, Fine o → (Maps.has D (klQ o) = true ↔ ∃ j, j < p ∧ atO zs j = o)) :
    ∀ o : OpR, Fine o → (Maps.has D (klQ o) = true ↔ ∃ j, j < p + 1 ∧ atO zs j = o) := by
  intro o ho
  rw [h o ho]
  constructor
  · rintro ⟨j, a, b⟩; exact ⟨j, by omega, b⟩
  · rintro ⟨j, a, b⟩
    by_cases ej : j = p
    · subst ej
      obtain ⟨i, hi, he⟩ := hh
      exact ⟨i, hi, he.trans b⟩
    · exact ⟨j, by omega, b⟩

/-- Below a number nothing but the set has turned. -/
structure KeptU (w w' : World) (bm base : Nat) : Prop where
  os : w'.os = w.os
  tape : w'.tape = w.tape
  output : w'.output = w.output
  size : w.heap.size ≤ w'.heap.size
  block : ∀ i, i < base → i ≠ bm → w'.heap[i]? = w.heap[i]?

theorem KeptU.refl (w : World) (bm base : Nat) : KeptU w w bm base := ⟨rfl, rfl, rfl, Nat.le_refl _, fun _ _ _ => rfl⟩
theorem KeptU.trans {w w1 w2 : World} {bm base : Nat} (h : KeptU w w1 bm base) (h' : KeptU w1 w2 bm base) : KeptU w w2 bm base :=
  ⟨h'.os.trans h.os, h'.tape.trans h.tape, h'.output.trans h.output, Nat.le_trans h.size h'.size, fun i hi a => (h'.block i hi a).trans (h.block i hi a)⟩
theorem KeptU.alloc {w w' : World} {bm base : Nat} (h : KeptU w w' bm base) (hb : base ≤ w'.heap.size) (o : Obj) : KeptU w (w'.alloc o) bm base :=
  h.trans ⟨rfl, rfl, rfl, by simp, fun i hi _ => Below.heap_alloc _ _ _ (by omega)⟩
theorem KeptU.row {w w' w'' : World} {bm base : Nat} {row : Option Nat} (h : KeptU w w' bm base) (hg : w'.grownBy w'' row) (hb : base ≤ w'.heap.size) (hr : ∀ k, row = some k → base ≤ k) : KeptU w w'' bm base :=
  h.trans ⟨hg.os, hg.tape, hg.output, hg.size, fun i hi _ => hg.block i (by omega) (fun e => by have := hr i e.symm; omega)⟩
theorem KeptU.map {w w' w'' : World} {bm base : Nat} (h : KeptU w w' bm base) (hg : w'.grownBy w'' (some bm)) (hb : base ≤ w'.heap.size) : KeptU w w'' bm base :=
  h.trans ⟨hg.os, hg.tape, hg.output, hg.size, fun i hi a => hg.block i (by omega) (fun e => a (Option.some.inj e))⟩
theorem KeptU.cell {w w' : World} {bm base : Nat} (h : KeptU w w' bm base) {b : Nat} (hb : b < base) (h1 : b ≠ bm) (o : Nat) : w'.cell? ⟨b, o, none⟩ = w.cell? ⟨b, o, none⟩ :=
  World.cell?_of_block (w := w) (h.block b hb h1)
theorem KeptU.frozen {w w' : World} {bm base : Nat} (h : KeptU w w' bm base) {b : Nat} (hb : b < base) (h1 : b ≠ bm) (o : Nat) : w'.frozen? ⟨b, o, none⟩ = w.frozen? ⟨b, o, none⟩ :=
  World.frozen?_of_block (w := w) (h.block b hb h1)
theorem KeptU.cellsAt {w w' : World} {bm base b off i : Nat} {xs : List OpR} (h : KeptU w w' bm base) (hc : CellsAt w b off xs i) (hb : b < base) (h1 : b ≠ bm) : CellsAt w' b off xs i := by
  obtain ⟨a0, a1, a2, a3⟩ := hc
  have e := h.cell hb h1
  exact ⟨(e _).trans a0, (e _).trans a1, (e _).trans a2, (e _).trans a3⟩
end Go.Proofs.Ytokabkhnidlcnab
