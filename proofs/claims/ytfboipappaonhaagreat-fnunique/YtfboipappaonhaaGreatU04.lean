import Derived.Deep.MidRow
import Derived.Deep.RegionHeld
import Derived.Laws.MakeOwn
import Derived.OwnWalk
import Derived.Laws.OwnMore
import Derived.Test.YtfboipappaonhaaGreatU00
import Derived.Test.YtfboipappaonhaaGreatU03

/-
  Lists of nodes in memory.
-/
namespace Go.Proofs.YtfboipappaonhaaGreat
set_option maxRecDepth 100000
open Go.RowKit

structure NodeR where
  k : Int
  t : ByteArray
  a : Int
  b : Int

def NodeR.zero : NodeR := ⟨0, ⟨#[]⟩, 0, 0⟩
def atN (xs : List NodeR) (i : Nat) : NodeR := xs.getD i NodeR.zero

/-- The cells of the element at place i. -/
def CellsN (w : World) (b off : Nat) (xs : List NodeR) (i : Nat) : Prop :=
  w.cell? ⟨b, off + i * 4, none⟩ = some (.int .i64 (atN xs i).k) ∧ w.cell? ⟨b, off + i * 4 + 1, none⟩ = some (.string (atN xs i).t) ∧ w.cell? ⟨b, off + i * 4 + 2, none⟩ = some (.int .i64 (atN xs i).a) ∧ w.cell? ⟨b, off + i * 4 + 3, none⟩ = some (.int .i64 (atN xs i).b)

def OpsN (w : World) (b off : Nat) (xs : List NodeR) : Prop := ∀ i, i < xs.length → CellsN w b off xs i

/-- No text is too long for a text. -/
def SizedN (xs : List NodeR) : Prop := ∀ i, i < xs.length → (atN xs i).t.size ≤ maxLen

theorem CellsN.below {w w' : World} {b off i : Nat} {xs : List NodeR} {B : Nat} (h : CellsN w b off xs i) (hb : Below B w w') (hB : b < B) : CellsN w' b off xs i := by
  obtain ⟨h0, h1, h2, h3⟩ := h
  exact ⟨(hb.cell (p := ⟨b, _, none⟩) hB).trans h0, (hb.cell (p := ⟨b, _, none⟩) hB).trans h1, (hb.cell (p := ⟨b, _, none⟩) hB).trans h2, (hb.cell (p := ⟨b, _, none⟩) hB).trans h3⟩

theorem OpsN.below {w w' : World} {b off : Nat} {xs : List NodeR} {B : Nat} (h : OpsN w b off xs) (hb : Below B w w') (hB : b < B) : OpsN w' b off xs :=
  fun i hi => (h i hi).below hb hB

def ArgN (w : World) (a : Option Addr) (xs : List NodeR) : Prop := xs.length = 0 ∨ ∃ b off, a = some ⟨b, off, none⟩ ∧ OpsN w b off xs ∧ b < w.heap.size

theorem ArgN.below {w w' : World} {a : Option Addr} {xs : List NodeR} (h : ArgN w a xs) (hb : Below w.heap.size w w') : ArgN w' a xs := by
  rcases h with h | ⟨b, off, rfl, h1, h2⟩
  · exact Or.inl h
  · exact Or.inr ⟨b, off, rfl, h1.below hb h2, Nat.lt_of_lt_of_le h2 hb.size⟩

theorem ArgN.alloc {w : World} {a : Option Addr} {xs : List NodeR} (h : ArgN w a xs) (o : Obj) : ArgN (w.alloc o) a xs := h.below (below1 _ _)

/-- The bytes of an element. -/
def totN (o : NodeR) : Nat := o.t.size
def totToN (xs : List NodeR) : Nat → Nat
  | 0 => 0
  | k + 1 => totToN xs k + totN (atN xs k)

/-- A row that is being filled: k elements lie there; all its cells may be written. -/
def FilledN (w : World) (g : Nat) (xs : List NodeR) (k : Nat) : Prop :=
  g < w.heap.size ∧ w.there g 0 (xs.length * 4) ∧ ∀ i, i < k → CellsN w g 0 xs i

theorem FilledN.grown {w w' : World} {g k : Nat} {xs : List NodeR} {row : Option Nat} (h : FilledN w g xs k) (hg : w.grownBy w' row) (hne : some g ≠ row) : FilledN w' g xs k := by
  obtain ⟨h1, h2, h3⟩ := h
  have hb := hg.block g h1 hne
  have e : ∀ o, w'.cell? ⟨g, o, none⟩ = w.cell? ⟨g, o, none⟩ := fun o => World.cell?_of_block (w := w) hb
  have f : ∀ o, w'.frozen? ⟨g, o, none⟩ = w.frozen? ⟨g, o, none⟩ := fun o => World.frozen?_of_block (w := w) hb
  refine ⟨Nat.lt_of_lt_of_le h1 hg.size, fun j hj => ⟨by rw [e]; exact (h2 j hj).1, by rw [f]; exact (h2 j hj).2⟩, fun i hi => ?_⟩
  obtain ⟨a0, a1, a2, a3⟩ := h3 i hi
  exact ⟨(e _).trans a0, (e _).trans a1, (e _).trans a2, (e _).trans a3⟩

theorem FilledN.below {w w' : World} {g k : Nat} {xs : List NodeR} {B : Nat} (h : FilledN w g xs k) (hb : Below B w w') (hB : g < B) : FilledN w' g xs k := by
  obtain ⟨h1, h2, h3⟩ := h
  refine ⟨Nat.lt_of_lt_of_le h1 hb.size, fun j hj => ?_, fun i hi => (h3 i hi).below hb hB⟩
  have := h2 j hj
  exact ⟨by rw [hb.cell (p := ⟨g, _, none⟩) hB]; exact this.1, by rw [hb.frozen (p := ⟨g, _, none⟩) hB]; exact this.2⟩

theorem FilledN.setCell {w : World} {g k : Nat} {xs : List NodeR} (h : FilledN w g xs k) (b o : Nat) (v : Value) (hp : b ≠ g) : FilledN (w.setCell ⟨b, o, none⟩ v) g xs k :=
  h.grown (row := some b) ⟨rfl, rfl, rfl, by simp [World.setCell], fun i _ hi => Below.heap_setCell _ _ _ _ (fun e => hi (by rw [e]))⟩ (fun e => hp (Option.some.inj e).symm)

theorem FilledN.ops {w : World} {g : Nat} {xs : List NodeR} (h : FilledN w g xs xs.length) : OpsN w g 0 xs := fun i hi => h.2.2 i hi

theorem FilledN.anew {w : World} {g : Nat} {xs ys : List NodeR} {k : Nat} (h : FilledN w g xs k) (hl : xs.length = ys.length) : FilledN w g ys 0 :=
  ⟨h.1, hl ▸ h.2.1, fun i hi => absurd hi (Nat.not_lt_zero i)⟩

theorem FilledN.step {w : World} {g k : Nat} {xs : List NodeR} (h : FilledN w g xs k) (hk : k < xs.length) :
    FilledN (w.setCells g (k * 4) [.int .i64 (atN xs k).k, .string (atN xs k).t, .int .i64 (atN xs k).a, .int .i64 (atN xs k).b]) g xs (k + 1) := by
  obtain ⟨h1, h2, h3⟩ := h
  have hin := World.cell?_setCells_in g [.int .i64 (atN xs k).k, .string (atN xs k).t, .int .i64 (atN xs k).a, .int .i64 (atN xs k).b] (k * 4) w (fun j hj => by
    have := (h2 (k * 4 + j) (by simp at hj; omega)).1
    simpa using this)
  refine ⟨?_, World.there_setCells h2 _ _ _, fun i hi => ?_⟩
  · simpa [World.setCells, World.setCell] using h1
  · by_cases e : i = k
    · subst e
      exact ⟨by simpa using hin 0 (by simp), by simpa using hin 1 (by simp), by simpa using hin 2 (by simp), by simpa using hin 3 (by simp)⟩
    · have hi' : i < k := by omega
      obtain ⟨c0, c1, c2, c3⟩ := h3 i hi'
      refine ⟨?_, ?_, ?_, ?_⟩
      all_goals
        rw [World.cell?_setCells_out g _ _ _ _ (fun _ _ => Or.inl (by simp; omega))]
        assumption

theorem FilledN.step_of {w : World} {g k : Nat} {xs : List NodeR} (h : FilledN w g xs k) (hk : k < xs.length) {o : NodeR} (e : atN xs k = o) :
    FilledN (w.setCells g (k * 4) [.int .i64 o.k, .string o.t, .int .i64 o.a, .int .i64 o.b]) g xs (k + 1) := by
  subst e
  exact h.step hk

theorem fill_cellsN {w : World} {g k : Nat} {xs : List NodeR} (h : FilledN w g xs k) (hk : k < xs.length) :
    ((∃ v, w.cell? ⟨g, k * 4, none⟩ = some v) ∧ w.frozen? ⟨g, k * 4, none⟩ = false) ∧ ((∃ v, w.cell? ⟨g, k * 4 + 1, none⟩ = some v) ∧ w.frozen? ⟨g, k * 4 + 1, none⟩ = false) ∧ ((∃ v, w.cell? ⟨g, k * 4 + 2, none⟩ = some v) ∧ w.frozen? ⟨g, k * 4 + 2, none⟩ = false) ∧ ((∃ v, w.cell? ⟨g, k * 4 + 3, none⟩ = some v) ∧ w.frozen? ⟨g, k * 4 + 3, none⟩ = false) := by
  have h0 := h.2.1 (k * 4) (by omega)
  have h1 := h.2.1 (k * 4 + 1) (by omega)
  have h2 := h.2.1 (k * 4 + 2) (by omega)
  have h3 := h.2.1 (k * 4 + 3) (by omega)
  simp only [Nat.zero_add] at h0 h1 h2 h3
  exact ⟨⟨Option.isSome_iff_exists.1 h0.1, h0.2⟩, ⟨Option.isSome_iff_exists.1 h1.1, h1.2⟩, ⟨Option.isSome_iff_exists.1 h2.1, h2.2⟩, ⟨Option.isSome_iff_exists.1 h3.1, h3.2⟩⟩

theorem infoN : (Tryz.prog.info? 81).map (fun i => (i.zero, i.size, i.bytes)) = some (some (.agg #[.int .i64 0, .string ⟨#[]⟩, .int .i64 0, .int .i64 0]), 4, 40) := by kernel_rfl

theorem made_thereN (w : World) (z : Array Value) (n : Nat) (t : TypeId) : (w.alloc (.cells (madeCells z n) t)).there w.heap.size 0 n := by
  intro j hj
  have hb : (w.alloc (.cells (madeCells z n) t)).heap[w.heap.size]? = some (.cells (madeCells z n) t (0, 0)) := heap_alloc_new w _
  have hc := cell_of_row (w.alloc (.cells (madeCells z n) t)) w.heap.size (0 + j) (madeCells z n) t (0, 0) hb
  refine ⟨?_, frozen_of_row _ _ _ _ _ hb⟩
  rw [hc]
  have : j < (madeCells z n).size := by rw [size_madeCells]; exact hj
  simp [this]

end Go.Proofs.YtfboipappaonhaaGreat

/-
  The plain mathematics of chapter 3: stretches of nodes, trees in order, trees without groups.
-/
namespace Go.Proofs.YtfboipappaonhaaGreat
set_option maxRecDepth 100000
open Go.RowKit

/-- The number of kids. -/
def kids (k : Int) : Nat := if k = 4 then 2 else if k = 3 ∨ k = 5 ∨ k = 6 then 1 else 0

theorem kids_cases (k : Int) : kids k = 0 ∨ kids k = 1 ∨ kids k = 2 := by
  unfold kids
  split
  · exact Or.inr (Or.inr rfl)
  · split
    · exact Or.inr (Or.inl rfl)
    · exact Or.inl rfl

/-- The form of a node's text. -/
def TxtOk (o : NodeR) : Prop := o.t.size ≤ 20000 ∧ ((o.k = 1 ∧ NumT o.t) ∨ (o.k = 2 ∧ NameT o.t) ∨ (o.k = 6 ∧ o.t.size = 0) ∨ ((o.k = 3 ∨ o.k = 4 ∨ o.k = 5) ∧ txtB o.t = true))

/-- The first place of the stretch of node i. -/
def frm (xs : List NodeR) : Nat → Nat → Option Nat
  | 0, _ => none
  | n + 1, i =>
    if kids (atN xs i).k = 0 then (if (atN xs i).a = 0 ∧ (atN xs i).b = 0 then some i else none)
    else if kids (atN xs i).k = 1 then (if 1 ≤ i ∧ (atN xs i).a = (i : Int) - 1 ∧ (atN xs i).b = 0 then frm xs n (i - 1) else none)
    else if 1 ≤ i ∧ (atN xs i).b = (i : Int) - 1 then
      (match frm xs n (i - 1) with
      | none => none
      | some f => if 1 ≤ f ∧ (atN xs i).a = (f : Int) - 1 then frm xs n (f - 1) else none)
    else none

theorem frm_le (xs : List NodeR) : ∀ n i f, frm xs n i = some f → f ≤ i
  | 0, i, f, h => by simp [frm] at h
  | n + 1, i, f, h => by
    unfold frm at h
    split at h
    · split at h
      · injection h with h; omega
      · cases h
    · split at h
      · split at h
        · have := frm_le xs n _ _ h; omega
        · cases h
      · split at h
        · split at h
          · cases h
          · rename_i f' hf'
            have h1 := frm_le xs n _ _ hf'
            split at h
            · have := frm_le xs n _ _ h; omega
            · cases h
        · cases h

theorem frm_fuel (xs : List NodeR) : ∀ n m i, i < n → i < m → frm xs n i = frm xs m i
  | 0, _, _, h, _ => absurd h (Nat.not_lt_zero _)
  | _ + 1, 0, _, _, h => absurd h (Nat.not_lt_zero _)
  | n + 1, m + 1, i, h, h' => by
    unfold frm
    by_cases h1 : 1 ≤ i
    · have e := frm_fuel xs n m (i - 1) (by omega) (by omega)
      rw [e]
      cases hf : frm xs m (i - 1) with
      | none => rfl
      | some f =>
        have hle := frm_le xs _ _ _ hf
        have e' := frm_fuel xs n m (f - 1) (by omega) (by omega)
        simp only [e']
    · simp [h1]

/-- The first place of the stretch of node i, if it stands in order. -/
def frS (xs : List NodeR) (i : Nat) : Option Nat := frm xs (i + 1) i

theorem frS_le {xs : List NodeR} {i f : Nat} (h : frS xs i = some f) : f ≤ i := frm_le xs _ _ _ h

theorem frS_zero {xs : List NodeR} {i : Nat} (h : kids (atN xs i).k = 0) : frS xs i = if (atN xs i).a = 0 ∧ (atN xs i).b = 0 then some i else none := by
  unfold frS frm
  rw [if_pos h]

theorem frS_one {xs : List NodeR} {i : Nat} (h : kids (atN xs i).k = 1) : frS xs i = if 1 ≤ i ∧ (atN xs i).a = (i : Int) - 1 ∧ (atN xs i).b = 0 then frS xs (i - 1) else none := by
  have e : frS xs i = frm xs (i + 1) i := rfl
  rw [e]
  unfold frm
  rw [if_neg (by omega), if_pos h]
  by_cases h1 : 1 ≤ i
  · unfold frS
    rw [frm_fuel xs i (i - 1 + 1) (i - 1) (by omega) (by omega)]
  · simp [h1]

theorem frS_two {xs : List NodeR} {i : Nat} (h : kids (atN xs i).k = 2) (h1 : 1 ≤ i) (hb : (atN xs i).b = (i : Int) - 1) {f : Nat} (hf : frS xs (i - 1) = some f) (hf1 : 1 ≤ f) (ha : (atN xs i).a = (f : Int) - 1) : frS xs i = frS xs (f - 1) := by
  have hle := frS_le hf
  have e : frS xs i = frm xs (i + 1) i := rfl
  rw [e]
  unfold frm
  rw [if_neg (by omega), if_neg (by omega), if_pos ⟨h1, hb⟩]
  have e1 : frm xs i (i - 1) = some f := by rw [← hf]; exact frm_fuel xs i (i - 1 + 1) (i - 1) (by omega) (by omega)
  rw [e1]
  simp only
  rw [if_pos ⟨hf1, ha⟩]
  exact frm_fuel xs i (f - 1 + 1) (f - 1) (by omega) (by omega)

theorem frS_two_none {xs : List NodeR} {i : Nat} (h : kids (atN xs i).k = 2) (hn : ¬ (1 ≤ i ∧ (atN xs i).b = (i : Int) - 1 ∧ ∃ f, frS xs (i - 1) = some f ∧ 1 ≤ f ∧ (atN xs i).a = (f : Int) - 1)) : frS xs i = none := by
  have e : frS xs i = frm xs (i + 1) i := rfl
  rw [e]
  unfold frm
  rw [if_neg (by omega), if_neg (by omega)]
  by_cases hc : 1 ≤ i ∧ (atN xs i).b = (i : Int) - 1
  · rw [if_pos hc]
    cases hf : frm xs i (i - 1) with
    | none => rfl
    | some f =>
      have : frS xs (i - 1) = some f := by rw [← hf]; exact frm_fuel xs (i - 1 + 1) i (i - 1) (by omega) (by omega)
      simp only
      rw [if_neg]
      intro hc2
      exact hn ⟨hc.1, hc.2, f, this, hc2.1, hc2.2⟩
  · rw [if_neg hc]

/-- What a node that stands in order says of its kids. -/
theorem frS_some {xs : List NodeR} {i f : Nat} (h : frS xs i = some f) :
    (kids (atN xs i).k = 0 ∧ (atN xs i).a = 0 ∧ (atN xs i).b = 0 ∧ f = i) ∨
    (kids (atN xs i).k = 1 ∧ 1 ≤ i ∧ (atN xs i).a = (i : Int) - 1 ∧ (atN xs i).b = 0 ∧ frS xs (i - 1) = some f) ∨
    (kids (atN xs i).k = 2 ∧ 1 ≤ i ∧ (atN xs i).b = (i : Int) - 1 ∧ ∃ f2, frS xs (i - 1) = some f2 ∧ 1 ≤ f2 ∧ (atN xs i).a = (f2 : Int) - 1 ∧ frS xs (f2 - 1) = some f) := by
  rcases kids_cases (atN xs i).k with hk | hk | hk
  · rw [frS_zero hk] at h
    split at h
    · rename_i hc
      injection h with h
      exact Or.inl ⟨hk, hc.1, hc.2, h.symm⟩
    · cases h
  · rw [frS_one hk] at h
    split at h
    · rename_i hc
      exact Or.inr (Or.inl ⟨hk, hc.1, hc.2.1, hc.2.2, h⟩)
    · cases h
  · by_cases hn : 1 ≤ i ∧ (atN xs i).b = (i : Int) - 1 ∧ ∃ f, frS xs (i - 1) = some f ∧ 1 ≤ f ∧ (atN xs i).a = (f : Int) - 1
    · obtain ⟨h1, hb, f2, hf2, h2, ha⟩ := hn
      rw [frS_two hk h1 hb hf2 h2 ha] at h
      exact Or.inr (Or.inr ⟨hk, h1, hb, f2, hf2, h2, ha, h⟩)
    · rw [frS_two_none hk hn] at h
      cases h

/-- The places of the nodes that are no one's kid yet, the last one first: one node more. -/
def stepS (o : NodeR) (k : Nat) (st : List Nat) : Option (List Nat) :=
  if kids o.k = 0 then (if o.a = 0 ∧ o.b = 0 then some (k :: st) else none)
  else if kids o.k = 1 then (match st with
    | t :: r => if o.a = (t : Int) ∧ o.b = 0 then some (k :: r) else none
    | [] => none)
  else (match st with
    | t2 :: t1 :: r => if o.a = (t1 : Int) ∧ o.b = (t2 : Int) then some (k :: r) else none
    | _ => none)

def stk (xs : List NodeR) : Nat → Option (List Nat)
  | 0 => some []
  | k + 1 => (match stk xs k with
    | none => none
    | some st => stepS (atN xs k) k st)

theorem stk_succ {xs : List NodeR} {k : Nat} {st : List Nat} (h : stk xs k = some st) : stk xs (k + 1) = stepS (atN xs k) k st := by
  simp only [stk, h]

theorem stk_none {xs : List NodeR} {k : Nat} (h : stk xs k = none) : ∀ m, k ≤ m → stk xs m = none
  | 0, hm => by
    obtain rfl : k = 0 := by omega
    exact h
  | m + 1, hm => by
    by_cases e : k = m + 1
    · subst e; exact h
    · simp only [stk, stk_none h m (by omega)]

/-- A stretch puts its last place onto the places. -/
theorem stk_of_frS (xs : List NodeR) : ∀ n i f st, i < n → frS xs i = some f → stk xs f = some st → stk xs (i + 1) = some (i :: st)
  | 0, _, _, _, hi, _, _ => absurd hi (Nat.not_lt_zero _)
  | n + 1, i, f, st, hi, h, hs => by
    rcases frS_some h with ⟨hk, ha, hb, rfl⟩ | ⟨hk, h1, ha, hb, hf⟩ | ⟨hk, h1, hb, f2, hf2, h2, ha, hf⟩
    · rw [stk_succ hs]
      simp [stepS, hk, ha, hb]
    · have := stk_of_frS xs n (i - 1) f st (by omega) hf hs
      rw [Nat.sub_add_cancel h1] at this
      rw [stk_succ this]
      unfold stepS
      rw [if_neg (by omega), if_pos hk]
      simp only
      rw [if_pos ⟨by rw [ha]; omega, hb⟩]
    · have hle := frS_le hf2
      have s1 := stk_of_frS xs n (f2 - 1) f st (by omega) hf hs
      rw [Nat.sub_add_cancel h2] at s1
      have s2 := stk_of_frS xs n (i - 1) f2 ((f2 - 1) :: st) (by omega) hf2 s1
      rw [Nat.sub_add_cancel h1] at s2
      rw [stk_succ s2]
      unfold stepS
      rw [if_neg (by omega), if_neg (by omega)]
      simp only
      rw [if_pos ⟨by rw [ha]; omega, by rw [hb]; omega⟩]

/-- The places are the ends of stretches that lie side by side. -/
def Chain (xs : List NodeR) : Nat → List Nat → Prop
  | k, [] => k = 0
  | k, s :: r => s + 1 = k ∧ ∃ f, frS xs s = some f ∧ Chain xs f r

theorem chain_of_stk (xs : List NodeR) : ∀ k st, stk xs k = some st → Chain xs k st
  | 0, st, h => by
    simp only [stk, Option.some.injEq] at h
    subst h
    rfl
  | k + 1, st', h => by
    cases hs : stk xs k with
    | none => simp only [stk, hs] at h; cases h
    | some st =>
      have ih := chain_of_stk xs k st hs
      rw [stk_succ hs] at h
      unfold stepS at h
      split at h
      · rename_i hk
        split at h
        · rename_i hc
          injection h with h
          subst h
          exact ⟨rfl, k, by rw [frS_zero hk, if_pos hc], ih⟩
        · cases h
      · split at h
        · rename_i hk
          split at h
          · rename_i t r
            obtain ⟨e, f, hf, hr⟩ := ih
            split at h
            · rename_i hc
              injection h with h
              subst h
              refine ⟨rfl, f, ?_, hr⟩
              rw [frS_one hk, if_pos ⟨by omega, by rw [hc.1]; omega, hc.2⟩]
              have : k - 1 = t := by omega
              rw [this]; exact hf
            · cases h
          · cases h
        · rename_i hk0 hk1
          have hk : kids (atN xs k).k = 2 := by rcases kids_cases (atN xs k).k with h | h | h <;> omega
          split at h
          · rename_i t2 t1 r
            obtain ⟨e, f2, hf2, e1, f1, hf1, hr⟩ := ih
            split at h
            · rename_i hc
              injection h with h
              subst h
              refine ⟨rfl, f1, ?_, hr⟩
              have e2 : k - 1 = t2 := by omega
              rw [frS_two hk (by omega) (by rw [hc.2]; omega) (f := f2) (by rw [e2]; exact hf2) (by omega) (by rw [hc.1]; omega)]
              have : f2 - 1 = t1 := by omega
              rw [this]; exact hf1
            · cases h
          · cases h

/-- In order, but for the bound of the number of nodes and the texts. -/
theorem whole_iff {xs : List NodeR} (h : 1 ≤ xs.length) : frS xs (xs.length - 1) = some 0 ↔ ∃ st, stk xs xs.length = some st ∧ st.length = 1 := by
  constructor
  · intro hf
    have := stk_of_frS xs xs.length (xs.length - 1) 0 [] (by omega) hf rfl
    rw [Nat.sub_add_cancel h] at this
    exact ⟨_, this, rfl⟩
  · rintro ⟨st, hs, hl⟩
    have hc := chain_of_stk xs _ _ hs
    match st, hl with
    | [x], _ =>
      obtain ⟨e, f, hf, hr⟩ := hc
      have hf0 : f = 0 := hr
      subst hf0
      have : xs.length - 1 = x := by omega
      rw [this]; exact hf

def InOrd (xs : List NodeR) : Prop := 1 ≤ xs.length ∧ xs.length ≤ 20000 ∧ frS xs (xs.length - 1) = some 0 ∧ ∀ i, i < xs.length → TxtOk (atN xs i)

theorem InOrd.stkS {xs : List NodeR} (h : InOrd xs) {k : Nat} (hk : k ≤ xs.length) : ∃ st, stk xs k = some st := by
  obtain ⟨st, hs, _⟩ := (whole_iff h.1).1 h.2.2.1
  cases e : stk xs k with
  | some st' => exact ⟨st', rfl⟩
  | none => rw [stk_none e _ hk] at hs; cases hs

/-- What the kids of a node of a tree in order are. -/
def KidsAt (xs : List NodeR) (k : Nat) : Prop :=
  (kids (atN xs k).k = 0 ∧ (atN xs k).a = 0 ∧ (atN xs k).b = 0) ∨
  (kids (atN xs k).k = 1 ∧ 1 ≤ k ∧ (atN xs k).a = (k : Int) - 1 ∧ (atN xs k).b = 0) ∨
  (kids (atN xs k).k = 2 ∧ 2 ≤ k ∧ (atN xs k).b = (k : Int) - 1 ∧ 0 ≤ (atN xs k).a ∧ (atN xs k).a < (k : Int) - 1)

theorem InOrd.kidsAt {xs : List NodeR} (h : InOrd xs) {k : Nat} (hk : k < xs.length) : KidsAt xs k := by
  obtain ⟨st, hs⟩ := h.stkS (k := k + 1) (by omega)
  have hc := chain_of_stk xs _ _ hs
  match st, hc with
  | [], hc => cases hc
  | s :: r, hc =>
    obtain ⟨e, f, hf, _⟩ := hc
    obtain rfl : s = k := by omega
    rcases frS_some hf with ⟨hk, ha, hb, rfl⟩ | ⟨hk, h1, ha, hb, hf⟩ | ⟨hk, h1, hb, f2, hf2, h2, ha, hf⟩
    · exact Or.inl ⟨hk, ha, hb⟩
    · exact Or.inr (Or.inl ⟨hk, h1, ha, hb⟩)
    · have := frS_le hf2
      exact Or.inr (Or.inr ⟨hk, by omega, hb, by omega, by omega⟩)

theorem InOrd.first {xs : List NodeR} (h : InOrd xs) : kids (atN xs 0).k = 0 := by
  rcases h.kidsAt (k := 0) (by have := h.1; omega) with h | h | h
  · exact h.1
  · omega
  · omega

/-- The nodes of the first k places that are no groups. -/
def cnt (xs : List NodeR) : Nat → Nat
  | 0 => 0
  | k + 1 => if (atN xs k).k = 6 then cnt xs k else cnt xs k + 1

theorem cnt_le (xs : List NodeR) : ∀ k, cnt xs k ≤ k
  | 0 => Nat.le_refl _
  | k + 1 => by
    have := cnt_le xs k
    unfold cnt
    split <;> omega

theorem cnt_mono (xs : List NodeR) : ∀ j k, j ≤ k → cnt xs j ≤ cnt xs k
  | j, 0, h => by
    obtain rfl : j = 0 := by omega
    exact Nat.le_refl _
  | j, k + 1, h => by
    by_cases e : j = k + 1
    · subst e; exact Nat.le_refl _
    · have := cnt_mono xs j k (by omega)
      have h2 : cnt xs (k + 1) = if (atN xs k).k = 6 then cnt xs k else cnt xs k + 1 := rfl
      rw [h2]
      split <;> omega

/-- The new place of a node. -/
def mvd (xs : List NodeR) (a : Int) : Int := (cnt xs (a.toNat + 1) : Int) - 1

/-- The node at a place, its kids at their new places. -/
def erN (xs : List NodeR) (o : NodeR) : NodeR := ⟨o.k, o.t, if kids o.k = 0 then 0 else mvd xs o.a, if kids o.k = 2 then mvd xs o.b else 0⟩

/-- The first k nodes without groups. -/
def er (xs : List NodeR) : Nat → List NodeR
  | 0 => []
  | k + 1 => if (atN xs k).k = 6 then er xs k else er xs k ++ [erN xs (atN xs k)]

theorem er_len (xs : List NodeR) : ∀ k, (er xs k).length = cnt xs k
  | 0 => rfl
  | k + 1 => by
    unfold er cnt
    split
    · exact er_len xs k
    · simp [er_len xs k]

theorem er_group {xs : List NodeR} {k : Nat} (h : (atN xs k).k = 6) : er xs (k + 1) = er xs k := by
  show (if (atN xs k).k = 6 then er xs k else er xs k ++ [erN xs (atN xs k)]) = _
  rw [if_pos h]
theorem er_other {xs : List NodeR} {k : Nat} (h : (atN xs k).k ≠ 6) : er xs (k + 1) = er xs k ++ [erN xs (atN xs k)] := by
  show (if (atN xs k).k = 6 then er xs k else er xs k ++ [erN xs (atN xs k)]) = _
  rw [if_neg h]

theorem cnt_first {xs : List NodeR} (h : InOrd xs) : cnt xs 1 = 1 := by
  have := h.first
  unfold cnt cnt
  rw [if_neg]
  intro e
  rw [e] at this
  simp [kids] at this

/-- What Erase answers. -/
def EraseIs (xs us : List NodeR) (v : Bool) : Prop := (InOrd xs ∧ v = true ∧ us = er xs xs.length) ∨ (¬ InOrd xs ∧ v = false ∧ us = [])

theorem EraseIs.one {xs us us' : List NodeR} {v v' : Bool} (h : EraseIs xs us v) (h' : EraseIs xs us' v') : us = us' ∧ v = v' := by
  rcases h with ⟨a, rfl, rfl⟩ | ⟨a, rfl, rfl⟩
  · rcases h' with ⟨_, rfl, rfl⟩ | ⟨a', _⟩
    · exact ⟨rfl, rfl⟩
    · exact absurd a a'
  · rcases h' with ⟨a', _⟩ | ⟨_, rfl, rfl⟩
    · exact absurd a' a
    · exact ⟨rfl, rfl⟩

theorem EraseIs.len {xs us : List NodeR} {v : Bool} (h : EraseIs xs us v) : us.length ≤ 20000 := by
  rcases h with ⟨a, _, rfl⟩ | ⟨_, _, rfl⟩
  · rw [er_len]
    have := cnt_le xs xs.length
    have := a.2.1
    omega
  · simp
end Go.Proofs.YtfboipappaonhaaGreat

/-
  Walks: digits, numbers, in the specification.
-/
namespace Go.Proofs.YtfboipappaonhaaGreat
set_option maxRecDepth 100000
open Go.RowKit

theorem l2Digit_any (c : UInt8) (w : World) :
    Calls Tryz.prog 165 #[.int .u8 (c.toNat : Int)] w fun e w' => e = .returned (.bool (decide (cls c = 2))) ∧ w' = w := by
  go_enter Tryz.func165, Tryz.ntmps165
  go_wp2
  all_goals (go_ret; refine ⟨ret_bool ?_, rfl⟩; go_light; rw [Bool.eq_iff_iff]; simp [cls_dig] <;> omega)

/-- A Bool that says whether p holds. -/
def Says (v : Bool) (p : Prop) : Prop := v = true ↔ p
/-- The call gives a Bool that says whether p holds. -/
def RetB (e : Ending) (p : Prop) : Prop := ∃ v : Bool, e = .returned (.bool v) ∧ Says v p

set_option maxHeartbeats 400000 in
theorem l2IsNumber_any (s : ByteArray) (w : World) (hs : s.size ≤ maxLen) :
    Calls Tryz.prog 145 #[.string s] w fun e w' => RetB e (NumT s) ∧ w' = w := by
  unfold maxLen at hs
  go_enter Tryz.func145, Tryz.ntmps145
  go_wp2
  go_loop [3] (fun i => ∃ k : Nat, k ≤ s.size ∧ i = .int .i64 k ∧ Hid (∀ j, j < k → cls (bt s j) = 2)) (fun i => s.size - (intOf i).toNat)
  case atStart => exact ⟨0, Nat.zero_le _, rfl, hide (fun j h => by omega)⟩
  case round =>
    obtain ⟨k, hk, rfl, hn⟩ := hrel
    by_cases hlt : k < s.size
    · cases hb : decide (cls s[k] = 2)
      · have Hb := hide hb
        go_wp2_with (go_at_call 165; refine (l2Digit_any _ _).mono ?_; rintro e w' ⟨rfl, rfl⟩)
        go_ret
        refine ⟨⟨_, rfl, ⟨fun h => (by cases h), fun h => ?_⟩⟩, rfl⟩
        have h2 := h.2 k hlt
        have := unhide Hb
        rw [bt_get hlt] at this
        simp at this
        exact absurd h2 this
      · have Hb := hide hb
        go_wp2_with (go_at_call 165; refine (l2Digit_any _ _).mono ?_; rintro e w' ⟨rfl, rfl⟩)
        refine ⟨⟨k + 1, by omega, by go_num, hide (fun j hj => ?_)⟩, by simp [intOf]; omega⟩
        by_cases e : j = k
        · subst e
          have := unhide Hb
          rw [bt_get hlt] at this
          simpa using this
        · exact (unhide hn) j (by omega)
    · by_cases h1 : 1 ≤ s.size
      · have h1' : (1 : Int) ≤ (s.size : Int) := by omega
        go_wp2
        go_ret
        exact ⟨⟨_, rfl, ⟨fun _ => ⟨h1, fun j hj => (unhide hn) j (by omega)⟩, fun _ => by simp; omega⟩⟩, rfl⟩
      · go_wp2
        go_ret
        exact ⟨⟨decide (0 < s.size), rfl, ⟨fun h => absurd (of_decide_eq_true h) (by omega), fun h => absurd h.1 h1⟩⟩, rfl⟩

theorem bytes_inj {a b : ByteArray} (h : a.toList = b.toList) : a = b := by
  rw [ByteArray.toList_eq, ByteArray.toList_eq] at h
  obtain ⟨⟨l⟩⟩ := a
  obtain ⟨⟨l'⟩⟩ := b
  simpa using h
end Go.Proofs.YtfboipappaonhaaGreat
