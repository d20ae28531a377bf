import Derived.Test.YtokabkhnidlcnabG01
import Derived.Test.YtokabkhnidlcnabG04
import Derived.Test.YtokabkhnidlcnabG05

/-
  The program's inner trees, as values: what stands for a node, and for a node in a hole.
-/
namespace Go.Proofs.Ytokabkhnidlcnab
set_option maxRecDepth 100000
set_option linter.unusedSimpArgs false
set_option linter.unusedVariables false
open Go.RowKit

def eNum (t : ByteArray) : Value := .iface 195 (.agg #[.string t])
def eName (t : ByteArray) : Value := .iface 196 (.agg #[.string t])
def ePre (p : OpR) (e : Value) : Value := .iface 184 (.agg #[.string p.s, .int .i64 p.k, .int .i64 p.l, .int .i64 p.sd, e])
def ePost (p : OpR) (e : Value) : Value := .iface 187 (.agg #[.string p.s, .int .i64 p.k, .int .i64 p.l, .int .i64 p.sd, e])
def eInf (p : OpR) (e e' : Value) : Value := .iface 186 (.agg #[.string p.s, .int .i64 p.k, .int .i64 p.l, .int .i64 p.sd, e, e'])
def eGrp (e : Value) : Value := .iface 180 (.agg #[e])

/-- The operator of a node. -/
def opA (ns : List OpR) (o : NodeR) : OpR := match fnd ns o.t (o.k - 2) with
  | some j => atO ns j
  | none => ⟨ByteArray.empty, 0, 0, 0⟩

/-- A node over its kids. -/
def exN (p : OpR) (o : NodeR) (e e' : Value) : Value :=
  if o.k = 1 then eNum o.t else if o.k = 2 then eName o.t else if o.k = 3 then ePre p e else if o.k = 4 then eInf p e e' else if o.k = 5 then ePost p e else eGrp e

/-- The first k nodes. -/
def exL (ns : List OpR) (xs : List NodeR) : Nat → List Value
  | 0 => []
  | k + 1 => exL ns xs k ++ [exN (opA ns (atN xs k)) (atN xs k) ((exL ns xs k).getD (atN xs k).a.toNat .nilIface) ((exL ns xs k).getD (atN xs k).b.toNat .nilIface)]

theorem exL_len (ns : List OpR) (xs : List NodeR) : ∀ k, (exL ns xs k).length = k
  | 0 => rfl
  | k + 1 => by simp [exL, exL_len ns xs k]

def exS (ns : List OpR) (xs : List NodeR) (i : Nat) : Value := (exL ns xs (i + 1)).getD i .nilIface

theorem exS_is (ns : List OpR) (xs : List NodeR) (i : Nat) : exS ns xs i = exN (opA ns (atN xs i)) (atN xs i) ((exL ns xs i).getD (atN xs i).a.toNat .nilIface) ((exL ns xs i).getD (atN xs i).b.toNat .nilIface) := by
  have h := exL_len ns xs i
  unfold exS
  show (exL ns xs i ++ [_]).getD i .nilIface = _
  simp [List.getD, List.getElem?_append, h]

theorem exL_get (ns : List OpR) (xs : List NodeR) : ∀ k i, i < k → (exL ns xs k).getD i .nilIface = exS ns xs i
  | 0, _, h => absurd h (Nat.not_lt_zero _)
  | k + 1, i, h => by
    by_cases e : i = k
    · subst e; rfl
    · have hl := exL_len ns xs k
      rw [← exL_get ns xs k i (by omega)]
      show (exL ns xs k ++ [_]).getD i .nilIface = _
      simp [List.getD, List.getElem?_append, hl, (by omega : i < k)]

theorem exS_one {ns : List OpR} {xs : List NodeR} {i : Nat} (h1 : 1 ≤ i) (ha : (atN xs i).a = (i : Int) - 1) (e' : Value) (hk : kids (atN xs i).k = 1) : exS ns xs i = exN (opA ns (atN xs i)) (atN xs i) (exS ns xs (i - 1)) e' := by
  rw [exS_is, ha]
  have : ((i : Int) - 1).toNat = i - 1 := by omega
  rw [this, exL_get ns xs i (i - 1) (by omega)]
  have h4 : (atN xs i).k ≠ 4 := fun e => by rw [e] at hk; simp [kids] at hk
  simp only [exN, if_neg h4]

theorem exS_two {ns : List OpR} {xs : List NodeR} {i j : Nat} (h1 : 1 ≤ i) (ha : (atN xs i).a = (j : Int)) (hj : j < i) (hb : (atN xs i).b = (i : Int) - 1) : exS ns xs i = exN (opA ns (atN xs i)) (atN xs i) (exS ns xs j) (exS ns xs (i - 1)) := by
  rw [exS_is, ha, hb]
  have : ((i : Int) - 1).toNat = i - 1 := by omega
  rw [this, exL_get ns xs i (i - 1) (by omega), Int.toNat_natCast, exL_get ns xs i j hj]

/-- Brackets, where they are wanted. -/
def closV (ns : List OpR) (o : NodeR) (least : Int) (e : Value) : Value := if levN ns o < least then eGrp e else e

/-- Node i in a hole with that least. -/
def ft (ns : List OpR) (xs : List NodeR) : Nat → Nat → Int → Value
  | 0, _, _ => .nilIface
  | n + 1, i, least =>
    if (atN xs i).k = 6 then ft ns xs n (i - 1) least
    else if kids (atN xs i).k = 0 then closV ns (atN xs i) least (exN (opA ns (atN xs i)) (atN xs i) .nilIface .nilIface)
    else if kids (atN xs i).k = 1 then closV ns (atN xs i) least (exN (opA ns (atN xs i)) (atN xs i) (ft ns xs n (i - 1) (holeN ns (atN xs i) false)) .nilIface)
    else closV ns (atN xs i) least (exN (opA ns (atN xs i)) (atN xs i) (ft ns xs n (atN xs i).a.toNat (holeN ns (atN xs i) false)) (ft ns xs n (i - 1) (holeN ns (atN xs i) true)))

theorem ft_fuel (ns : List OpR) (xs : List NodeR) : ∀ n m i f, i < n → i < m → frS xs i = some f → ∀ l, ft ns xs n i l = ft ns xs m i l
  | 0, _, _, _, h, _, _ => absurd h (Nat.not_lt_zero _)
  | _ + 1, 0, _, _, _, h, _ => absurd h (Nat.not_lt_zero _)
  | n + 1, m + 1, i, f, h, h', hf => by
    intro l
    rcases frS_some hf with ⟨hk, ha, hb, hfi⟩ | ⟨hk, h1i, ha, hbb, hf1⟩ | ⟨hk, h1i, hbb, f2, hf2, h2f, ha, hf1⟩
    · have h6 : (atN xs i).k ≠ 6 := fun e => by rw [e] at hk; simp [kids] at hk
      simp only [ft, if_neg h6, hk, if_true]
    · have e := ft_fuel ns xs n m (i - 1) f (by omega) (by omega) hf1
      simp only [ft, e]
      by_cases h6 : (atN xs i).k = 6
      · rw [if_pos h6, if_pos h6]
      · simp only [if_neg h6, hk, if_true, Nat.one_ne_zero, if_false]
    · have h6 : (atN xs i).k ≠ 6 := fun e => by rw [e] at hk; simp [kids] at hk
      have hle := frS_le hf2
      have e1 := ft_fuel ns xs n m (i - 1) f2 (by omega) (by omega) hf2
      have e2 := ft_fuel ns xs n m (f2 - 1) f (by omega) (by omega) hf1
      have ea : (atN xs i).a.toNat = f2 - 1 := by omega
      simp only [ft, if_neg h6, ea, e1, e2]

def fS (ns : List OpR) (xs : List NodeR) (i : Nat) (l : Int) : Value := ft ns xs (i + 1) i l

theorem fS_zero {ns : List OpR} {xs : List NodeR} {i : Nat} (hk : kids (atN xs i).k = 0) (l : Int) : fS ns xs i l = closV ns (atN xs i) l (exN (opA ns (atN xs i)) (atN xs i) .nilIface .nilIface) := by
  have h6 : (atN xs i).k ≠ 6 := fun e => by rw [e] at hk; simp [kids] at hk
  simp only [fS, ft, if_neg h6, hk, if_true]

theorem fS_group {ns : List OpR} {xs : List NodeR} {i f : Nat} (hk : (atN xs i).k = 6) (h1 : 1 ≤ i) (hf : frS xs (i - 1) = some f) (l : Int) : fS ns xs i l = fS ns xs (i - 1) l := by
  have e : fS ns xs i l = ft ns xs i (i - 1) l := by simp only [fS, ft, if_pos hk]
  rw [e]
  exact ft_fuel ns xs _ _ _ f (by omega) (by omega) hf l

theorem fS_one {ns : List OpR} {xs : List NodeR} {i f : Nat} (hk : kids (atN xs i).k = 1) (h6 : (atN xs i).k ≠ 6) (h1 : 1 ≤ i) (hf : frS xs (i - 1) = some f) (l : Int) :
    fS ns xs i l = closV ns (atN xs i) l (exN (opA ns (atN xs i)) (atN xs i) (fS ns xs (i - 1) (holeN ns (atN xs i) false)) .nilIface) := by
  have e := ft_fuel ns xs i (i - 1 + 1) (i - 1) f (by omega) (by omega) hf
  unfold fS
  conv => lhs; unfold ft
  simp only [if_neg h6, hk, if_true, Nat.one_ne_zero, if_false, e]

theorem fS_two {ns : List OpR} {xs : List NodeR} {i f f2 : Nat} (hk : kids (atN xs i).k = 2) (h1 : 1 ≤ i) (hf2 : frS xs (i - 1) = some f2) (h2 : 1 ≤ f2) (ha : (atN xs i).a = (f2 : Int) - 1) (hf : frS xs (f2 - 1) = some f) (l : Int) :
    fS ns xs i l = closV ns (atN xs i) l (exN (opA ns (atN xs i)) (atN xs i) (fS ns xs (f2 - 1) (holeN ns (atN xs i) false)) (fS ns xs (i - 1) (holeN ns (atN xs i) true))) := by
  have h6 : (atN xs i).k ≠ 6 := fun e => by rw [e] at hk; simp [kids] at hk
  have hle := frS_le hf2
  have e1 := ft_fuel ns xs i (i - 1 + 1) (i - 1) f2 (by omega) (by omega) hf2
  have e2 := ft_fuel ns xs i (f2 - 1 + 1) (f2 - 1) f (by omega) (by omega) hf
  have ea : (atN xs i).a.toNat = f2 - 1 := by omega
  unfold fS
  conv => lhs; unfold ft
  simp only [if_neg h6, ea, e1, e2, hk]
  rfl
end Go.Proofs.Ytokabkhnidlcnab

/-
  Rows of nodes that a call makes by append.
-/
namespace Go.Proofs.Ytokabkhnidlcnab
set_option maxRecDepth 100000
open Go.RowKit

theorem grown_belN {w w' : World} (h : Below w.heap.size w w') (row : Option Nat) : w.grownBy w' row := ⟨h.os, h.tape, h.output, h.size, fun i hi _ => h.block i hi⟩

/-- The cells of a list of nodes. -/
def cellsN (zs : List NodeR) : List Value := zs.flatMap fun o => [.int .i64 o.k, .string o.t, .int .i64 o.a, .int .i64 o.b]

theorem cellsN_append (xs ys : List NodeR) : cellsN (xs ++ ys) = cellsN xs ++ cellsN ys := by simp [cellsN]
theorem cellsN_len : ∀ zs : List NodeR, (cellsN zs).length = zs.length * 4
  | [] => rfl
  | o :: r => by
    have := cellsN_len r
    simp only [cellsN, List.flatMap_cons, List.length_append, List.length_cons, List.length_nil] at *
    omega

theorem cellsN_at : ∀ (zs : List NodeR) (i : Nat), i < zs.length → (cellsN zs)[i * 4]? = some (.int .i64 (atN zs i).k) ∧ (cellsN zs)[i * 4 + 1]? = some (.string (atN zs i).t) ∧ (cellsN zs)[i * 4 + 2]? = some (.int .i64 (atN zs i).a) ∧ (cellsN zs)[i * 4 + 3]? = some (.int .i64 (atN zs i).b)
  | [], i, h => absurd h (Nat.not_lt_zero i)
  | o :: r, 0, _ => ⟨rfl, rfl, rfl, rfl⟩
  | o :: r, i + 1, h => by
    have ih := cellsN_at r i (by simpa using h)
    have e : ∀ j, (cellsN (o :: r))[(i + 1) * 4 + j]? = (cellsN r)[i * 4 + j]? := fun j => by
      have : (i + 1) * 4 + j = (i * 4 + j) + 4 := by omega
      rw [this]
      rfl
    exact ⟨(e 0).trans ih.1, (e 1).trans ih.2.1, (e 2).trans ih.2.2.1, (e 3).trans ih.2.2.2⟩

theorem cellsN_one' (zs : List NodeR) : ∀ u ∈ cellsN zs, u.oneCell' = true := by
  intro u hu
  simp only [cellsN, List.mem_flatMap] at hu
  obtain ⟨o, _, ho⟩ := hu
  simp at ho
  rcases ho with rfl | rfl | rfl | rfl <;> rfl

/-- A row that the call owns, as a filled one. -/
theorem owns_filledN {w : World} {base g cap : Nat} {e : TypeId} {zs : List NodeR} (h : w.ownsRow base e 4 (.slice (some ⟨g, 0, none⟩) zs.length cap) zs.length (cellsN zs)) : base ≤ g ∧ FilledN w g zs zs.length := by
  have hlt := h.lt g rfl
  refine ⟨hlt.1, hlt.2, fun j hj => ⟨?_, h.frozenAt _⟩, fun i hi => ?_⟩
  · rw [h.cellAt (0 + j) (by omega)]
    have : 0 + j < (cellsN zs).length := by rw [cellsN_len]; omega
    rw [List.getElem?_eq_getElem this]
    rfl
  · obtain ⟨c0, c1, c2, c3⟩ := cellsN_at zs i hi
    have e := fun j (hj : j < 4) => h.cellAt (i * 4 + j) (by omega)
    exact ⟨by simpa using (e 0 (by omega)).trans c0, by simpa using (e 1 (by omega)).trans c1, by simpa using (e 2 (by omega)).trans c2, by simpa using (e 3 (by omega)).trans c3⟩

/-- What an owned row's value is, where it is not nil. -/
theorem owns_valueN {w : World} {base n size : Nat} {e : TypeId} {v : Value} {xs : List Value} (h : w.ownsRow base e size v n xs) (hv : v ≠ .slice none 0 0) : ∃ g cap, v = .slice (some ⟨g, 0, none⟩) n cap := by
  obtain ⟨_, h | ⟨g, cap, cur, hv', _⟩⟩ := h
  · exact absurd h.1 hv
  · exact ⟨g, cap, hv'⟩

theorem owns_capN {w : World} {base n size g cap : Nat} {e : TypeId} {xs : List Value} (h : w.ownsRow base e size (.slice (some ⟨g, 0, none⟩) n cap) n xs) : n ≤ cap ∧ cap ≤ maxLen := by
  obtain ⟨_, h | ⟨g', cap', cur, hv', _, _, h1, h2, _⟩⟩ := h
  · simp at h
  · simp only [Value.slice.injEq, Option.some.injEq] at hv'
    obtain ⟨_, _, rfl⟩ := hv'
    exact ⟨h1, h2⟩

/-- A new node in a block of its own. -/
theorem new_newsN (w : World) (o : NodeR) : ∀ j u, (cellsN [o])[j]? = some u → (w.alloc (.cells #[.int .i64 o.k, .string o.t, .int .i64 o.a, .int .i64 o.b] 115)).cell? ((⟨w.heap.size, 0, none⟩ : Addr).add j) = some u := by
  intro j u hj
  rw [Addr.add_mid]
  have := World.rangeAt_of_block (w := w.alloc (.cells #[.int .i64 o.k, .string o.t, .int .i64 o.a, .int .i64 o.b] 115)) (b := w.heap.size) (heap_alloc_new w _) 0 4
  exact this j u (by simpa [cellsN] using hj)

theorem FilledN.arg {w : World} {g : Nat} {us : List NodeR} (h : FilledN w g us us.length) : ArgN w (some ⟨g, 0, none⟩) us := Or.inr ⟨g, 0, rfl, h.ops, h.1⟩

/-- A list of nodes that a call has made: nil and empty, or a row of its own. -/
def OwnedN (w : World) (n : Nat) (a : Option Addr) (us : List NodeR) : Prop := (us.length = 0 ∧ a = none) ∨ ∃ g, a = some ⟨g, 0, none⟩ ∧ n ≤ g ∧ FilledN w g us us.length

theorem OwnedN.arg {w : World} {n : Nat} {a : Option Addr} {us : List NodeR} (h : OwnedN w n a us) : ArgN w a us := by
  rcases h with ⟨h, _⟩ | ⟨g, rfl, _, hf⟩
  · exact Or.inl h
  · exact hf.arg

theorem OwnedN.grown {w w' : World} {n : Nat} {a : Option Addr} {us : List NodeR} {row : Option Nat} (h : OwnedN w n a us) (hg : w.grownBy w' row) (hr : ∀ k, row = some k → k < n) : OwnedN w' n a us := by
  rcases h with h | ⟨g, rfl, hn, hf⟩
  · exact Or.inl h
  · exact Or.inr ⟨g, rfl, hn, hf.grown hg (fun e => by have := hr g e.symm; omega)⟩

theorem OwnedN.step {w w' : World} {n : Nat} {a : Option Addr} {us : List NodeR} (h : OwnedN w n a us) (hb : Below w.heap.size w w') : OwnedN w' n a us :=
  h.grown (grown_belN hb none) (fun k hk => by cases hk)

theorem OwnedN.lt {w : World} {n : Nat} {a : Option Addr} {us : List NodeR} (h : OwnedN w n a us) : ∀ k, a.map (·.block) = some k → n ≤ k ∧ k < w.heap.size := by
  rcases h with ⟨_, rfl⟩ | ⟨g, rfl, hn, hf⟩
  · intro k hk; cases hk
  · intro k hk; injection hk with hk; subst hk; exact ⟨hn, hf.1⟩
end Go.Proofs.Ytokabkhnidlcnab

/-
  Worlds in which one block alone has turned.
-/
namespace Go.Proofs.Ytokabkhnidlcnab
set_option maxRecDepth 100000
open Go.RowKit

/-- Nothing but one block has turned. -/
structure Kept1 (w w' : World) (g : Nat) : Prop where
  os : w'.os = w.os
  tape : w'.tape = w.tape
  output : w'.output = w.output
  size : w.heap.size ≤ w'.heap.size
  block : ∀ i, i < w.heap.size → i ≠ g → w'.heap[i]? = w.heap[i]?

theorem Kept1.refl (w : World) (g : Nat) : Kept1 w w g := ⟨rfl, rfl, rfl, Nat.le_refl _, fun _ _ _ => rfl⟩
theorem Kept1.trans {w w1 w2 : World} {g : Nat} (h : Kept1 w w1 g) (h' : Kept1 w1 w2 g) : Kept1 w w2 g :=
  ⟨h'.os.trans h.os, h'.tape.trans h.tape, h'.output.trans h.output, Nat.le_trans h.size h'.size, fun i hi a => (h'.block i (Nat.lt_of_lt_of_le hi h.size) a).trans (h.block i hi a)⟩
theorem Kept1.of_below {w w' : World} {g : Nat} (h : Below w.heap.size w w') : Kept1 w w' g := ⟨h.os, h.tape, h.output, h.size, fun i hi _ => h.block i hi⟩
theorem Kept1.cell {w w' : World} {g : Nat} (h : Kept1 w w' g) {b : Nat} (hb : b < w.heap.size) (h1 : b ≠ g) (o : Nat) : w'.cell? ⟨b, o, none⟩ = w.cell? ⟨b, o, none⟩ :=
  World.cell?_of_block (w := w) (h.block b hb h1)
theorem Kept1.frozen {w w' : World} {g : Nat} (h : Kept1 w w' g) {b : Nat} (hb : b < w.heap.size) (h1 : b ≠ g) (o : Nat) : w'.frozen? ⟨b, o, none⟩ = w.frozen? ⟨b, o, none⟩ :=
  World.frozen?_of_block (w := w) (h.block b hb h1)
theorem Kept1.below {w w' : World} {g B : Nat} (h : Kept1 w w' g) (hB : B ≤ w.heap.size) (h1 : B ≤ g) : Below B w w' :=
  ⟨h.os, h.tape, h.output, h.size, fun i hi => h.block i (by omega) (by omega)⟩
theorem kept1_setCells {g : Nat} : ∀ (vs : List Value) (o : Nat) (w : World), Kept1 w (w.setCells g o vs) g
  | [], _, w => Kept1.refl w g
  | v :: r, o, w => (show Kept1 w (w.setCell ⟨g, o, none⟩ v) g from ⟨rfl, rfl, rfl, by simp [World.setCell], fun _ _ hi => Below.heap_setCell _ _ _ _ hi⟩).trans (kept1_setCells r (o + 1) _)
theorem Kept1.ops {w w' : World} {g b off : Nat} {xs : List OpR} (h : Kept1 w w' g) (ho : Ops w b off xs) (hb : b < w.heap.size) (hne : b ≠ g) : Ops w' b off xs := fun i hi => by
  obtain ⟨a0, a1, a2, a3⟩ := ho i hi
  have e := h.cell hb hne
  exact ⟨(e _).trans a0, (e _).trans a1, (e _).trans a2, (e _).trans a3⟩
theorem Kept1.filled {w w' : World} {g b k : Nat} {xs : List OpR} (h : Kept1 w w' g) (ho : Filled w b xs k) (hne : b ≠ g) : Filled w' b xs k := by
  obtain ⟨h1, h2, h3⟩ := ho
  have e := h.cell h1 hne
  have f := h.frozen h1 hne
  refine ⟨Nat.lt_of_lt_of_le h1 h.size, fun j hj => ⟨by rw [e]; exact (h2 j hj).1, by rw [f]; exact (h2 j hj).2⟩, fun i hi => ?_⟩
  obtain ⟨a0, a1, a2, a3⟩ := h3 i hi
  exact ⟨(e _).trans a0, (e _).trans a1, (e _).trans a2, (e _).trans a3⟩

theorem grown_kept1 {w w' : World} {g : Nat} (h : Kept1 w w' g) : w.grownBy w' (some g) := ⟨h.os, h.tape, h.output, h.size, fun i hi e => h.block i hi (fun x => e (by rw [x]))⟩

end Go.Proofs.Ytokabkhnidlcnab
