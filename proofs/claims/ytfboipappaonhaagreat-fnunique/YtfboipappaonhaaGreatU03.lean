import Derived.Deep.MidRow
import Derived.Deep.RegionHeld
import Derived.Laws.MakeOwn
import Derived.OwnWalk
import Derived.Laws.OwnMore
import Derived.Test.YtfboipappaonhaaGreatU00

/-
  Kinds of bytes.
-/
namespace Go.Proofs.YtfboipappaonhaaGreat
set_option maxRecDepth 100000
open Go.RowKit

/-- The byte at a place. -/
def bt (s : ByteArray) (i : Nat) : UInt8 := s.data[i]?.getD 0

theorem bt_get {s : ByteArray} {i : Nat} (h : i < s.size) : s[i] = bt s i := by
  have h' : i < s.data.size := h
  show s.data[i] = _
  unfold bt
  rw [Array.getElem?_eq_getElem h']
  rfl

/-- The kind of a byte: 1 a blank, 2 a digit, 3 a letter, 4 and 5 the brackets, 6 a sign, 0 another. -/
def cls (c : UInt8) : Nat :=
  if c.toNat = 32 ∨ c.toNat = 9 ∨ c.toNat = 10 then 1
  else if 48 ≤ c.toNat ∧ c.toNat ≤ 57 then 2
  else if (65 ≤ c.toNat ∧ c.toNat ≤ 90) ∨ (97 ≤ c.toNat ∧ c.toNat ≤ 122) ∨ c.toNat = 95 then 3
  else if c.toNat = 40 then 4
  else if c.toNat = 41 then 5
  else if sgB c = true then 6
  else 0

theorem cls_sg (c : UInt8) : sgB c = decide (cls c = 6) := by
  obtain ⟨v⟩ := c
  revert v
  decide +kernel

theorem cls_blank (c : UInt8) : (cls c = 1) ↔ (c.toNat = 32 ∨ c.toNat = 9 ∨ c.toNat = 10) := by
  obtain ⟨v⟩ := c
  revert v
  decide +kernel
theorem cls_dig (c : UInt8) : (cls c = 2) ↔ (48 ≤ c.toNat ∧ c.toNat ≤ 57) := by
  obtain ⟨v⟩ := c
  revert v
  decide +kernel
theorem cls_let (c : UInt8) : (cls c = 3) ↔ ((65 ≤ c.toNat ∧ c.toNat ≤ 90) ∨ (97 ≤ c.toNat ∧ c.toNat ≤ 122) ∨ c.toNat = 95) := by
  obtain ⟨v⟩ := c
  revert v
  decide +kernel
theorem cls_open (c : UInt8) : (cls c = 4) ↔ c = 40 := by
  obtain ⟨v⟩ := c
  revert v
  decide +kernel
theorem cls_close (c : UInt8) : (cls c = 5) ↔ c = 41 := by
  obtain ⟨v⟩ := c
  revert v
  decide +kernel
theorem cls_lt (c : UInt8) : cls c < 7 := by
  unfold cls
  split
  · omega
  · split
    · omega
    · split
      · omega
      · split
        · omega
        · split
          · omega
          · split <;> omega

/-- What the bytes of a whole text make it. -/
def NumT (t : ByteArray) : Prop := 1 ≤ t.size ∧ ∀ j, j < t.size → cls (bt t j) = 2
def NameT (t : ByteArray) : Prop := 1 ≤ t.size ∧ ∀ j, j < t.size → (cls (bt t j) = 3 ∨ (j ≠ 0 ∧ cls (bt t j) = 2))

/-- The same as Bools. -/
def numB (t : ByteArray) : Bool := decide (1 ≤ t.size) && (List.range t.size).all fun j => cls (bt t j) == 2
def nameB (t : ByteArray) : Bool := decide (1 ≤ t.size) && (List.range t.size).all fun j => cls (bt t j) == 3 || (j != 0 && cls (bt t j) == 2)
theorem numB_iff (t : ByteArray) : numB t = true ↔ NumT t := by
  simp [numB, NumT, List.all_eq_true]
theorem nameB_iff (t : ByteArray) : nameB t = true ↔ NameT t := by
  simp [nameB, NameT, List.all_eq_true]
theorem data_eq (t : ByteArray) (a : Array UInt8) : t.data = a ↔ t = ⟨a⟩ := ⟨fun h => by cases t; simp_all, fun h => by rw [h]⟩
end Go.Proofs.YtfboipappaonhaaGreat

/-
  Lists of tokens in memory.
-/
namespace Go.Proofs.YtfboipappaonhaaGreat
set_option maxRecDepth 100000
open Go.RowKit

structure TokR where
  k : Int
  g : ByteArray
  t : ByteArray

def TokR.zero : TokR := ⟨0, ⟨#[]⟩, ⟨#[]⟩⟩
def atT (xs : List TokR) (i : Nat) : TokR := xs.getD i TokR.zero

/-- The cells of the element at place i. -/
def CellsT (w : World) (b off : Nat) (xs : List TokR) (i : Nat) : Prop :=
  w.cell? ⟨b, off + i * 3, none⟩ = some (.int .i64 (atT xs i).k) ∧ w.cell? ⟨b, off + i * 3 + 1, none⟩ = some (.string (atT xs i).g) ∧ w.cell? ⟨b, off + i * 3 + 2, none⟩ = some (.string (atT xs i).t)

def OpsT (w : World) (b off : Nat) (xs : List TokR) : Prop := ∀ i, i < xs.length → CellsT w b off xs i

/-- No text is too long for a text. -/
def SizedT (xs : List TokR) : Prop := ∀ i, i < xs.length → (atT xs i).g.size ≤ maxLen ∧ (atT xs i).t.size ≤ maxLen

theorem CellsT.below {w w' : World} {b off i : Nat} {xs : List TokR} {B : Nat} (h : CellsT w b off xs i) (hb : Below B w w') (hB : b < B) : CellsT w' b off xs i := by
  obtain ⟨h0, h1, h2⟩ := h
  exact ⟨(hb.cell (p := ⟨b, _, none⟩) hB).trans h0, (hb.cell (p := ⟨b, _, none⟩) hB).trans h1, (hb.cell (p := ⟨b, _, none⟩) hB).trans h2⟩

theorem OpsT.below {w w' : World} {b off : Nat} {xs : List TokR} {B : Nat} (h : OpsT w b off xs) (hb : Below B w w') (hB : b < B) : OpsT w' b off xs :=
  fun i hi => (h i hi).below hb hB

def ArgT (w : World) (a : Option Addr) (xs : List TokR) : Prop := xs.length = 0 ∨ ∃ b off, a = some ⟨b, off, none⟩ ∧ OpsT w b off xs ∧ b < w.heap.size

theorem ArgT.below {w w' : World} {a : Option Addr} {xs : List TokR} (h : ArgT w a xs) (hb : Below w.heap.size w w') : ArgT w' a xs := by
  rcases h with h | ⟨b, off, rfl, h1, h2⟩
  · exact Or.inl h
  · exact Or.inr ⟨b, off, rfl, h1.below hb h2, Nat.lt_of_lt_of_le h2 hb.size⟩

theorem ArgT.alloc {w : World} {a : Option Addr} {xs : List TokR} (h : ArgT w a xs) (o : Obj) : ArgT (w.alloc o) a xs := h.below (below1 _ _)

/-- The bytes of an element. -/
def totT (o : TokR) : Nat := o.g.size + o.t.size
def totToT (xs : List TokR) : Nat → Nat
  | 0 => 0
  | k + 1 => totToT xs k + totT (atT xs k)

/-- A row that is being filled: k elements lie there; all its cells may be written. -/
def FilledT (w : World) (g : Nat) (xs : List TokR) (k : Nat) : Prop :=
  g < w.heap.size ∧ w.there g 0 (xs.length * 3) ∧ ∀ i, i < k → CellsT w g 0 xs i

theorem FilledT.grown {w w' : World} {g k : Nat} {xs : List TokR} {row : Option Nat} (h : FilledT w g xs k) (hg : w.grownBy w' row) (hne : some g ≠ row) : FilledT w' g xs k := by
  obtain ⟨h1, h2, h3⟩ := h
  have hb := hg.block g h1 hne
  have e : ∀ o, w'.cell? ⟨g, o, none⟩ = w.cell? ⟨g, o, none⟩ := fun o => World.cell?_of_block (w := w) hb
  have f : ∀ o, w'.frozen? ⟨g, o, none⟩ = w.frozen? ⟨g, o, none⟩ := fun o => World.frozen?_of_block (w := w) hb
  refine ⟨Nat.lt_of_lt_of_le h1 hg.size, fun j hj => ⟨by rw [e]; exact (h2 j hj).1, by rw [f]; exact (h2 j hj).2⟩, fun i hi => ?_⟩
  obtain ⟨a0, a1, a2⟩ := h3 i hi
  exact ⟨(e _).trans a0, (e _).trans a1, (e _).trans a2⟩

theorem FilledT.below {w w' : World} {g k : Nat} {xs : List TokR} {B : Nat} (h : FilledT w g xs k) (hb : Below B w w') (hB : g < B) : FilledT w' g xs k := by
  obtain ⟨h1, h2, h3⟩ := h
  refine ⟨Nat.lt_of_lt_of_le h1 hb.size, fun j hj => ?_, fun i hi => (h3 i hi).below hb hB⟩
  have := h2 j hj
  exact ⟨by rw [hb.cell (p := ⟨g, _, none⟩) hB]; exact this.1, by rw [hb.frozen (p := ⟨g, _, none⟩) hB]; exact this.2⟩

theorem FilledT.setCell {w : World} {g k : Nat} {xs : List TokR} (h : FilledT w g xs k) (b o : Nat) (v : Value) (hp : b ≠ g) : FilledT (w.setCell ⟨b, o, none⟩ v) g xs k :=
  h.grown (row := some b) ⟨rfl, rfl, rfl, by simp [World.setCell], fun i _ hi => Below.heap_setCell _ _ _ _ (fun e => hi (by rw [e]))⟩ (fun e => hp (Option.some.inj e).symm)

theorem FilledT.ops {w : World} {g : Nat} {xs : List TokR} (h : FilledT w g xs xs.length) : OpsT w g 0 xs := fun i hi => h.2.2 i hi

theorem FilledT.anew {w : World} {g : Nat} {xs ys : List TokR} {k : Nat} (h : FilledT w g xs k) (hl : xs.length = ys.length) : FilledT w g ys 0 :=
  ⟨h.1, hl ▸ h.2.1, fun i hi => absurd hi (Nat.not_lt_zero i)⟩

theorem FilledT.step {w : World} {g k : Nat} {xs : List TokR} (h : FilledT w g xs k) (hk : k < xs.length) :
    FilledT (w.setCells g (k * 3) [.int .i64 (atT xs k).k, .string (atT xs k).g, .string (atT xs k).t]) g xs (k + 1) := by
  obtain ⟨h1, h2, h3⟩ := h
  have hin := World.cell?_setCells_in g [.int .i64 (atT xs k).k, .string (atT xs k).g, .string (atT xs k).t] (k * 3) w (fun j hj => by
    have := (h2 (k * 3 + j) (by simp at hj; omega)).1
    simpa using this)
  refine ⟨?_, World.there_setCells h2 _ _ _, fun i hi => ?_⟩
  · simpa [World.setCells, World.setCell] using h1
  · by_cases e : i = k
    · subst e
      exact ⟨by simpa using hin 0 (by simp), by simpa using hin 1 (by simp), by simpa using hin 2 (by simp)⟩
    · have hi' : i < k := by omega
      obtain ⟨c0, c1, c2⟩ := h3 i hi'
      refine ⟨?_, ?_, ?_⟩
      all_goals
        rw [World.cell?_setCells_out g _ _ _ _ (fun _ _ => Or.inl (by simp; omega))]
        assumption

theorem FilledT.step_of {w : World} {g k : Nat} {xs : List TokR} (h : FilledT w g xs k) (hk : k < xs.length) {o : TokR} (e : atT xs k = o) :
    FilledT (w.setCells g (k * 3) [.int .i64 o.k, .string o.g, .string o.t]) g xs (k + 1) := by
  subst e
  exact h.step hk

theorem fill_cellsT {w : World} {g k : Nat} {xs : List TokR} (h : FilledT w g xs k) (hk : k < xs.length) :
    ((∃ v, w.cell? ⟨g, k * 3, none⟩ = some v) ∧ w.frozen? ⟨g, k * 3, none⟩ = false) ∧ ((∃ v, w.cell? ⟨g, k * 3 + 1, none⟩ = some v) ∧ w.frozen? ⟨g, k * 3 + 1, none⟩ = false) ∧ ((∃ v, w.cell? ⟨g, k * 3 + 2, none⟩ = some v) ∧ w.frozen? ⟨g, k * 3 + 2, none⟩ = false) := by
  have h0 := h.2.1 (k * 3) (by omega)
  have h1 := h.2.1 (k * 3 + 1) (by omega)
  have h2 := h.2.1 (k * 3 + 2) (by omega)
  simp only [Nat.zero_add] at h0 h1 h2
  exact ⟨⟨Option.isSome_iff_exists.1 h0.1, h0.2⟩, ⟨Option.isSome_iff_exists.1 h1.1, h1.2⟩, ⟨Option.isSome_iff_exists.1 h2.1, h2.2⟩⟩

theorem infoT : (Tryz.prog.info? 97).map (fun i => (i.zero, i.size, i.bytes)) = some (some (.agg #[.int .i64 0, .string ⟨#[]⟩, .string ⟨#[]⟩]), 3, 40) := by kernel_rfl

theorem made_thereT (w : World) (z : Array Value) (n : Nat) (t : TypeId) : (w.alloc (.cells (madeCells z n) t)).there w.heap.size 0 n := by
  intro j hj
  have hb : (w.alloc (.cells (madeCells z n) t)).heap[w.heap.size]? = some (.cells (madeCells z n) t (0, 0)) := heap_alloc_new w _
  have hc := cell_of_row (w.alloc (.cells (madeCells z n) t)) w.heap.size (0 + j) (madeCells z n) t (0, 0) hb
  refine ⟨?_, frozen_of_row _ _ _ _ _ hb⟩
  rw [hc]
  have : j < (madeCells z n).size := by rw [size_madeCells]; exact hj
  simp [this]

end Go.Proofs.YtfboipappaonhaaGreat

/-
  The plain mathematics of chapter 2: kinds of bytes, what a token is, what the tokens of a text are.
-/
namespace Go.Proofs.YtfboipappaonhaaGreat
set_option maxRecDepth 100000
open Go.RowKit

/-- A stretch of a text. -/
def sub (s : ByteArray) (i n : Nat) : ByteArray := s.extract i (i + n)

theorem sub_size {s : ByteArray} {i n : Nat} (h : i + n ≤ s.size) : (sub s i n).size = n := by
  unfold sub
  rw [ByteArray.size_extract]
  omega

theorem sub_bt {s : ByteArray} {i n j : Nat} (h : i + n ≤ s.size) (hj : j < n) : bt (sub s i n) j = bt s (i + j) := by
  have h' : i + n ≤ s.data.size := h
  unfold bt sub
  rw [ByteArray.data_extract, Array.getElem?_extract, if_pos (by omega)]

theorem one_byte {t : ByteArray} {c : UInt8} (h : t.size = 1) : t = ⟨#[c]⟩ ↔ bt t 0 = c := by
  obtain ⟨⟨l⟩⟩ := t
  match l, h with
  | [x], _ => simp [bt]

/-- The text of an operator of the table. -/
def opT (xs : List OpR) (t : ByteArray) : Prop := ∃ j, j < xs.length ∧ (atO xs j).s = t

/-- At place i lies a token of n bytes and of kind k. -/
def IsTok (xs : List OpR) (s : ByteArray) (i n k : Nat) : Prop :=
  1 ≤ n ∧ i + n ≤ s.size ∧
  ((cls (bt s i) = 2 ∧ k = 1 ∧ (∀ j, j < n → cls (bt s (i + j)) = 2) ∧ (i + n < s.size → cls (bt s (i + n)) ≠ 2)) ∨
   (cls (bt s i) = 3 ∧ k = 2 ∧ (∀ j, j < n → (cls (bt s (i + j)) = 2 ∨ cls (bt s (i + j)) = 3)) ∧ (i + n < s.size → ¬ (cls (bt s (i + n)) = 2 ∨ cls (bt s (i + n)) = 3))) ∨
   (cls (bt s i) = 4 ∧ k = 4 ∧ n = 1) ∨ (cls (bt s i) = 5 ∧ k = 5 ∧ n = 1) ∨
   (cls (bt s i) = 6 ∧ ((k = 3 ∧ opT xs (sub s i n) ∧ ∀ m, n < m → i + m ≤ s.size → ¬ opT xs (sub s i m)) ∨ (k = 6 ∧ n = 1 ∧ ∀ m, 1 ≤ m → i + m ≤ s.size → ¬ opT xs (sub s i m)))) ∨
   (cls (bt s i) = 0 ∧ k = 6 ∧ n = 1))

theorem IsTok.one {xs : List OpR} {s : ByteArray} {i n k n' k' : Nat} (h : IsTok xs s i n k) (h' : IsTok xs s i n' k') : n = n' ∧ k = k' := by
  obtain ⟨h1, h2, h⟩ := h
  obtain ⟨h1', h2', h'⟩ := h'
  rcases h with ⟨c, rfl, a, b⟩ | ⟨c, rfl, a, b⟩ | ⟨c, rfl, rfl⟩ | ⟨c, rfl, rfl⟩ | ⟨c, h⟩ | ⟨c, rfl, rfl⟩
  · rcases h' with ⟨c', rfl, a', b'⟩ | ⟨c', _⟩ | ⟨c', _⟩ | ⟨c', _⟩ | ⟨c', _⟩ | ⟨c', _⟩ <;> try omega
    refine ⟨?_, rfl⟩
    rcases Nat.lt_trichotomy n n' with e | e | e
    · exact absurd (a' n e) (b (by omega))
    · exact e
    · exact absurd (a n' e) (b' (by omega))
  · rcases h' with ⟨c', _⟩ | ⟨c', rfl, a', b'⟩ | ⟨c', _⟩ | ⟨c', _⟩ | ⟨c', _⟩ | ⟨c', _⟩ <;> try omega
    refine ⟨?_, rfl⟩
    rcases Nat.lt_trichotomy n n' with e | e | e
    · exact absurd (a' n e) (b (by omega))
    · exact e
    · exact absurd (a n' e) (b' (by omega))
  · rcases h' with ⟨c', _⟩ | ⟨c', _⟩ | ⟨c', rfl, rfl⟩ | ⟨c', _⟩ | ⟨c', _⟩ | ⟨c', _⟩ <;> omega
  · rcases h' with ⟨c', _⟩ | ⟨c', _⟩ | ⟨c', _⟩ | ⟨c', rfl, rfl⟩ | ⟨c', _⟩ | ⟨c', _⟩ <;> omega
  · rcases h' with ⟨c', _⟩ | ⟨c', _⟩ | ⟨c', _⟩ | ⟨c', _⟩ | ⟨c', h'⟩ | ⟨c', _⟩ <;> try omega
    rcases h with ⟨rfl, a, b⟩ | ⟨rfl, rfl, b⟩
    · rcases h' with ⟨rfl, a', b'⟩ | ⟨rfl, rfl, b'⟩
      · refine ⟨?_, rfl⟩
        rcases Nat.lt_trichotomy n n' with e | e | e
        · exact absurd a' (b n' e h2')
        · exact e
        · exact absurd a (b' n e h2)
      · exact absurd a (b' n h1 h2)
    · rcases h' with ⟨rfl, a', b'⟩ | ⟨rfl, rfl, b'⟩
      · exact absurd a' (b n' h1' h2')
      · exact ⟨rfl, rfl⟩
  · rcases h' with ⟨c', _⟩ | ⟨c', _⟩ | ⟨c', _⟩ | ⟨c', _⟩ | ⟨c', _⟩ | ⟨c', rfl, rfl⟩ <;> omega

/-- Blanks from i on up to j. -/
def Blanks (s : ByteArray) (i j : Nat) : Prop := ∀ q, i ≤ q → q < j → cls (bt s q) = 1

/-- The tokens of a text from place i on. -/
def Lexed (xs : List OpR) (s : ByteArray) : Nat → List TokR → Prop
  | _, [] => False
  | i, t :: out => (out = [] ∧ i ≤ s.size ∧ Blanks s i s.size ∧ t = ⟨7, s.extract i s.size, ⟨#[]⟩⟩) ∨
      ∃ j n k : Nat, i ≤ j ∧ j < s.size ∧ Blanks s i j ∧ cls (bt s j) ≠ 1 ∧ IsTok xs s j n k ∧ t = ⟨(k : Int), s.extract i j, s.extract j (j + n)⟩ ∧ Lexed xs s (j + n) out

theorem Lexed.fin {xs : List OpR} {s : ByteArray} {i : Nat} (h1 : i ≤ s.size) (h2 : Blanks s i s.size) : Lexed xs s i [⟨7, s.extract i s.size, ⟨#[]⟩⟩] := Or.inl ⟨rfl, h1, h2, rfl⟩

theorem Lexed.tok {xs : List OpR} {s : ByteArray} {i j n k : Nat} {out : List TokR} (a : i ≤ j) (b : j < s.size) (c : Blanks s i j) (d : cls (bt s j) ≠ 1) (e : IsTok xs s j n k) (f : Lexed xs s (j + n) out) :
    Lexed xs s i (⟨(k : Int), s.extract i j, s.extract j (j + n)⟩ :: out) := Or.inr ⟨j, n, k, a, b, c, d, e, rfl, f⟩

theorem Lexed.one {xs : List OpR} {s : ByteArray} : ∀ (o o' : List TokR) (i : Nat), Lexed xs s i o → Lexed xs s i o' → o = o'
  | [], _, _, h, _ => h.elim
  | _ :: _, [], _, _, h => h.elim
  | t :: o, t' :: o', i, h, h' => by
    rcases h with ⟨rfl, hi, hb, rfl⟩ | ⟨j, n, k, a, b, c, d, e, rfl, f⟩
    · rcases h' with ⟨rfl, _, _, rfl⟩ | ⟨j', n', k', a', b', c', d', e', rfl, f'⟩
      · rfl
      · exact absurd (hb _ a' b') d'
    · rcases h' with ⟨rfl, hi, hb, rfl⟩ | ⟨j', n', k', a', b', c', d', e', rfl, f'⟩
      · exact absurd (hb _ a b) d
      · have hj : j = j' := by
          rcases Nat.lt_trichotomy j j' with x | x | x
          · exact absurd (c' j a x) d
          · exact x
          · exact absurd (c j' a' x) d'
        subst hj
        obtain ⟨rfl, rfl⟩ := e.one e'
        rw [Lexed.one o o' (j + n) f f']

theorem Lexed.len {xs : List OpR} {s : ByteArray} : ∀ (o : List TokR) (i : Nat), Lexed xs s i o → o.length + i ≤ s.size + 1
  | [], _, h => h.elim
  | t :: o, i, h => by
    rcases h with ⟨rfl, hi, hb, rfl⟩ | ⟨j, n, k, a, b, c, d, e, rfl, f⟩
    · simp; omega
    · have := e.1
      have := Lexed.len o (j + n) f
      simp only [List.length_cons]
      omega

def opB (xs : List OpR) (t : ByteArray) : Bool := (List.range xs.length).any fun j => (atO xs j).s.data == t.data

theorem opB_iff (xs : List OpR) (t : ByteArray) : opB xs t = true ↔ opT xs t := by
  have e : ∀ a b : ByteArray, (a.data = b.data) ↔ a = b := fun a b => ⟨fun h => by cases a; cases b; simp_all, fun h => by rw [h]⟩
  simp [opB, opT, List.any_eq_true, e]

/-- The kind of token that a text is as a whole. -/
def kindT (xs : List OpR) (t : ByteArray) : Nat :=
  if numB t = true then 1 else if nameB t = true then 2 else if t.data = #[40] then 4 else if t.data = #[41] then 5 else if opB xs t = true then 3 else 6

/-- All operators have texts of 1 to 16 signs. -/
def SignTexts (xs : List OpR) : Prop := ∀ j, j < xs.length → 1 ≤ (atO xs j).s.size ∧ (atO xs j).s.size ≤ 16 ∧ ∀ q, q < (atO xs j).s.size → cls (bt (atO xs j).s q) = 6

theorem signTexts_of {xs : List OpR} (h : okTo xs xs.length) : SignTexts xs := by
  intro j hj
  have hk := h j hj
  unfold OpR.ok okB txtB at hk
  simp only [Bool.and_eq_true, decide_eq_true_eq] at hk
  obtain ⟨⟨⟨⟨⟨h1, h2⟩, h3⟩, _⟩, _⟩, _⟩ := hk
  refine ⟨h2, h3, fun q hq => ?_⟩
  have hm : bt (atO xs j).s q ∈ (atO xs j).s.data.toList := by
    have hq' : q < (atO xs j).s.data.size := hq
    unfold bt
    rw [Array.getElem?_eq_getElem hq']
    simp
  have := List.all_eq_true.1 h1 _ hm
  rw [cls_sg] at this
  simpa using this

theorem opT_sub {xs : List OpR} {s : ByteArray} {i n : Nat} (hv : SignTexts xs) (_h1 : 1 ≤ n) (h : i + n ≤ s.size) (ho : opT xs (sub s i n)) : n ≤ 16 ∧ cls (bt s i) = 6 := by
  obtain ⟨j, hj, e⟩ := ho
  obtain ⟨a, b, c⟩ := hv j hj
  have hs := sub_size h
  rw [← e] at hs
  have := c 0 (by omega)
  rw [e, sub_bt h (by omega)] at this
  exact ⟨by omega, this⟩

theorem kind_dig {xs : List OpR} {s : ByteArray} {i n : Nat} (hv : SignTexts xs) (h1 : 1 ≤ n) (h : i + n ≤ s.size) (hc : cls (bt s i) = 2) :
    (kindT xs (sub s i n) = 1 ∧ ∀ j, j < n → cls (bt s (i + j)) = 2) ∨ (kindT xs (sub s i n) = 6 ∧ ¬ ∀ j, j < n → cls (bt s (i + j)) = 2) := by
  have hs := sub_size h
  have h0 : bt (sub s i n) 0 = bt s i := by rw [sub_bt h (by omega)]; rfl
  by_cases hn : NumT (sub s i n)
  · refine Or.inl ⟨by simp [kindT, numB_iff, hn], fun j hj => ?_⟩
    have := hn.2 j (by omega)
    rwa [sub_bt h hj] at this
  · refine Or.inr ⟨?_, fun ha => hn ⟨by omega, fun j hj => by rw [sub_bt h (by omega)]; exact ha j (by omega)⟩⟩
    have n2 : ¬ NameT (sub s i n) := fun hh => by
      have := hh.2 0 (by omega)
      rw [h0] at this
      omega
    have n3 : ¬ sub s i n = ⟨#[40]⟩ := fun e => by
      have e1 : n = 1 := by rw [e] at hs; exact hs.symm
      have := (one_byte (by omega)).1 e
      rw [h0] at this
      have := (cls_open _).2 this
      omega
    have n4 : ¬ sub s i n = ⟨#[41]⟩ := fun e => by
      have e1 : n = 1 := by rw [e] at hs; exact hs.symm
      have := (one_byte (by omega)).1 e
      rw [h0] at this
      have := (cls_close _).2 this
      omega
    have n5 : ¬ opT xs (sub s i n) := fun e => by
      have := (opT_sub hv h1 h e).2
      omega
    simp [kindT, numB_iff, nameB_iff, opB_iff, data_eq, hn, n2, n3, n4, n5]

theorem kind_let {xs : List OpR} {s : ByteArray} {i n : Nat} (h1 : 1 ≤ n) (h : i + n ≤ s.size) (hc : cls (bt s i) = 3) (ha : ∀ j, j < n → (cls (bt s (i + j)) = 2 ∨ cls (bt s (i + j)) = 3)) :
    kindT xs (sub s i n) = 2 := by
  have hs := sub_size h
  have h0 : bt (sub s i n) 0 = bt s i := by rw [sub_bt h (by omega)]; rfl
  have n1 : ¬ NumT (sub s i n) := fun hh => by
    have := hh.2 0 (by omega)
    rw [h0] at this
    omega
  have n2 : NameT (sub s i n) := by
    refine ⟨by omega, fun j hj => ?_⟩
    rw [hs] at hj
    rw [sub_bt h hj]
    by_cases e : j = 0
    · subst e; exact Or.inl hc
    · have := ha j hj
      omega
  simp [kindT, numB_iff, nameB_iff, n1, n2]

theorem kind_sign {xs : List OpR} {s : ByteArray} {i n : Nat} (h1 : 1 ≤ n) (h : i + n ≤ s.size) (hc : cls (bt s i) = 6) :
    (kindT xs (sub s i n) = 3 ∧ opT xs (sub s i n)) ∨ (kindT xs (sub s i n) = 6 ∧ ¬ opT xs (sub s i n)) := by
  have hs := sub_size h
  have h0 : bt (sub s i n) 0 = bt s i := by rw [sub_bt h (by omega)]; rfl
  have n1 : ¬ NumT (sub s i n) := fun hh => by
    have := hh.2 0 (by omega)
    rw [h0] at this
    omega
  have n2 : ¬ NameT (sub s i n) := fun hh => by
    have := hh.2 0 (by omega)
    rw [h0] at this
    omega
  have n3 : ¬ sub s i n = ⟨#[40]⟩ := fun e => by
    have e1 : n = 1 := by rw [e] at hs; exact hs.symm
    have := (one_byte (by omega)).1 e
    rw [h0] at this
    have := (cls_open _).2 this
    omega
  have n4 : ¬ sub s i n = ⟨#[41]⟩ := fun e => by
    have e1 : n = 1 := by rw [e] at hs; exact hs.symm
    have := (one_byte (by omega)).1 e
    rw [h0] at this
    have := (cls_close _).2 this
    omega
  by_cases n5 : opT xs (sub s i n)
  · exact Or.inl ⟨by simp [kindT, numB_iff, nameB_iff, opB_iff, data_eq, n1, n2, n3, n4, n5], n5⟩
  · exact Or.inr ⟨by simp [kindT, numB_iff, nameB_iff, opB_iff, data_eq, n1, n2, n3, n4, n5], n5⟩

theorem kind_one {xs : List OpR} {s : ByteArray} {i : Nat} (hv : SignTexts xs) (h : i + 1 ≤ s.size) (hc : cls (bt s i) = 4 ∨ cls (bt s i) = 5 ∨ cls (bt s i) = 0) :
    (cls (bt s i) = 4 ∧ kindT xs (sub s i 1) = 4) ∨ (cls (bt s i) = 5 ∧ kindT xs (sub s i 1) = 5) ∨ (cls (bt s i) = 0 ∧ kindT xs (sub s i 1) = 6) := by
  have hs := sub_size h
  have h0 : bt (sub s i 1) 0 = bt s i := by rw [sub_bt h (by omega)]; rfl
  have n1 : ¬ NumT (sub s i 1) := fun hh => by
    have := hh.2 0 (by omega)
    rw [h0] at this
    omega
  have n2 : ¬ NameT (sub s i 1) := fun hh => by
    have := hh.2 0 (by omega)
    rw [h0] at this
    omega
  have n5 : ¬ opT xs (sub s i 1) := fun e => by
    have := (opT_sub hv (by omega) h e).2
    omega
  have e4 : sub s i 1 = ⟨#[40]⟩ ↔ cls (bt s i) = 4 := by rw [one_byte hs, h0, cls_open]
  have e5 : sub s i 1 = ⟨#[41]⟩ ↔ cls (bt s i) = 5 := by rw [one_byte hs, h0, cls_close]
  rcases hc with c | c | c
  · exact Or.inl ⟨c, by simp [kindT, numB_iff, nameB_iff, data_eq, n1, n2, e4, c]⟩
  · exact Or.inr (Or.inl ⟨c, by simp [kindT, numB_iff, nameB_iff, data_eq, n1, n2, e4, e5, c]⟩)
  · exact Or.inr (Or.inr ⟨c, by simp [kindT, numB_iff, nameB_iff, opB_iff, data_eq, n1, n2, e4, e5, n5, c]⟩)

/-- How far a token may reach, as the specification has it. -/
def Reach (s : ByteArray) (i r : Nat) : Prop :=
  1 ≤ r ∧ i + r ≤ s.size ∧
  ((cls (bt s i) = 6 ∧ r ≤ 16 ∧ (r = 16 ∨ i + r = s.size)) ∨
   ((cls (bt s i) = 2 ∨ cls (bt s i) = 3) ∧ (∀ j, j < r → (cls (bt s (i + j)) = 2 ∨ cls (bt s (i + j)) = 3)) ∧ (i + r < s.size → ¬ (cls (bt s (i + r)) = 2 ∨ cls (bt s (i + r)) = 3))) ∨
   ((cls (bt s i) ≠ 6 ∧ cls (bt s i) ≠ 2 ∧ cls (bt s i) ≠ 3) ∧ r = 1))

/-- The longest token, as the specification has it. -/
def Longest (xs : List OpR) (s : ByteArray) (i r : Nat) : Prop :=
  1 ≤ r ∧ (r = 1 ∨ kindT xs (sub s i r) ≠ 6) ∧ ∃ m, Reach s i m ∧ r ≤ m ∧ ∀ q, r < q → q ≤ m → kindT xs (sub s i q) = 6

theorem longest_tok {xs : List OpR} {s : ByteArray} {i r : Nat} (hv : SignTexts xs) (h : Longest xs s i r) (hb : cls (bt s i) ≠ 1) : IsTok xs s i r (kindT xs (sub s i r)) := by
  obtain ⟨h1, h2, m, ⟨hm1, hms, hm⟩, hrm, hq⟩ := h
  refine ⟨h1, by omega, ?_⟩
  have hc7 := cls_lt (bt s i)
  rcases hm with ⟨c, hm, hm'⟩ | ⟨c, ha, hm⟩ | ⟨⟨c1, c2, c3⟩, rfl⟩
  · refine Or.inr (Or.inr (Or.inr (Or.inr (Or.inl ⟨c, ?_⟩))))
    have hno : ∀ q, r < q → i + q ≤ s.size → ¬ opT xs (sub s i q) := fun q hr hq2 ho => by
      have := (opT_sub hv (by omega) hq2 ho).1
      have hqm : q ≤ m := by omega
      have := hq q hr hqm
      rcases kind_sign (xs := xs) (by omega) hq2 c with ⟨x, _⟩ | ⟨_, x⟩
      · omega
      · exact x ho
    rcases kind_sign (xs := xs) h1 (by omega) c with ⟨x, y⟩ | ⟨x, y⟩
    · exact Or.inl ⟨x, y, hno⟩
    · have hr1 : r = 1 := by omega
      refine Or.inr ⟨x, hr1, fun q h1q hq2 => ?_⟩
      by_cases e : q = r
      · subst e; exact y
      · exact hno q (by omega) hq2
  · rcases c with c | c
    · refine Or.inl ?_
      have key := fun q (a : 1 ≤ q) (b : i + q ≤ s.size) => kind_dig (xs := xs) hv a b c
      have hall : kindT xs (sub s i r) = 1 ∧ ∀ j, j < r → cls (bt s (i + j)) = 2 := by
        rcases key r h1 (by omega) with x | ⟨x, y⟩
        · exact x
        · exfalso
          have hr1 : r = 1 := by omega
          subst hr1
          exact y (fun j hj => by have : j = 0 := by omega
                                  subst this; exact c)
      refine ⟨c, hall.1, hall.2, fun hlt hd => ?_⟩
      have hrm' : r + 1 ≤ m := by
        rcases Nat.lt_or_ge r m with x | x
        · exact x
        · have : r = m := by omega
          subst this
          exact absurd (Or.inl hd) (hm hlt)
      have h6 := hq (r + 1) (by omega) hrm'
      rcases key (r + 1) (by omega) (by omega) with ⟨x, _⟩ | ⟨_, y⟩
      · omega
      · refine y (fun j hj => ?_)
        by_cases e : j = r
        · subst e; exact hd
        · exact hall.2 j (by omega)
    · refine Or.inr (Or.inl ?_)
      have hrm' : r = m := by
        rcases Nat.lt_or_ge r m with x | x
        · have := hq m x (Nat.le_refl _)
          rw [kind_let (xs := xs) hm1 hms c ha] at this
          omega
        · omega
      subst hrm'
      exact ⟨c, kind_let hm1 hms c ha, ha, hm⟩
  · have hr1 : r = 1 := by omega
    subst hr1
    rcases kind_one (xs := xs) hv hms (by omega) with ⟨c, x⟩ | ⟨c, x⟩ | ⟨c, x⟩
    · exact Or.inr (Or.inr (Or.inl ⟨c, x, rfl⟩))
    · exact Or.inr (Or.inr (Or.inr (Or.inl ⟨c, x, rfl⟩)))
    · exact Or.inr (Or.inr (Or.inr (Or.inr (Or.inr ⟨c, x, rfl⟩))))
end Go.Proofs.YtfboipappaonhaaGreat
