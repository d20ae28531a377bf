import Derived.Laws.MakeOwn
import Derived.BigQuiet
import Derived.Test.YtokabkhnidlcnabGreatDoorL06
import Derived.Test.YtokabkhnidlcnabGreatDoorL07
import Derived.Test.YtokabkhnidlcnabGreatDoorL09
import Derived.Test.YtokabkhnidlcnabGreatDoorL10

/-
  Rows of truth values, and rows of such rows.
-/
namespace Go.Proofs.YtokabkhnidlcnabGreatDoor
set_option maxRecDepth 100000
set_option linter.unusedSimpArgs false
set_option linter.unusedVariables false
open Go.RowKit

/-- A row of n truth values that may be written. -/
def BRow (w : World) (b n : Nat) (f : Nat → Bool) : Prop := b < w.heap.size ∧ ∀ j, j < n → w.cell? ⟨b, j, none⟩ = some (.bool (f j)) ∧ w.frozen? ⟨b, j, none⟩ = false

theorem BRow.congr {w : World} {b n : Nat} {f g : Nat → Bool} (h : BRow w b n f) (he : ∀ j, j < n → f j = g j) : BRow w b n g := ⟨h.1, fun j hj => by rw [← he j hj]; exact h.2 j hj⟩
theorem BRow.grown {w w' : World} {b n : Nat} {f : Nat → Bool} {row : Option Nat} (h : BRow w b n f) (hg : w.grownBy w' row) (hne : row ≠ some b) : BRow w' b n f :=
  ⟨Nat.lt_of_lt_of_le h.1 hg.size, fun j hj => ⟨(grown_cell hg h.1 hne j).trans (h.2 j hj).1, (frozen_grown hg h.1 hne j).trans (h.2 j hj).2⟩⟩
theorem BRow.below {w w' : World} {b n : Nat} {f : Nat → Bool} (h : BRow w b n f) (hb : Below w.heap.size w w') : BRow w' b n f := h.grown (row := none) (grown_belN hb none) (by simp)
theorem BRow.belowB {w w' : World} {b n B : Nat} {f : Nat → Bool} (h : BRow w b n f) (hb : Below B w w') (hB : b < B) : BRow w' b n f :=
  ⟨Nat.lt_of_lt_of_le h.1 hb.size, fun j hj => ⟨(hb.cell (p := ⟨b, j, none⟩) hB).trans (h.2 j hj).1, (hb.frozen (p := ⟨b, j, none⟩) hB).trans (h.2 j hj).2⟩⟩
theorem BRow.set {w : World} {b n k : Nat} {f : Nat → Bool} (h : BRow w b n f) (hk : k < n) (v : Bool) : BRow (w.setCell ⟨b, k, none⟩ (.bool v)) b n (fun j => if j = k then v else f j) := by
  refine ⟨by simpa [World.setCell] using h.1, fun j hj => ⟨?_, (World.frozen?_setCell _ _ _ _).trans (h.2 j hj).2⟩⟩
  by_cases e : j = k
  · subst e
    simp only [if_true]
    exact World.cell?_setCell_same _ _ _ (h.2 j hj).1
  · simp only [e, if_false]
    rw [World.cell?_setCell_other _ _ _ _ (by simp; first | done | omega)]
    exact (h.2 j hj).1

theorem made_brow (w : World) (n : Nat) : BRow (w.alloc (.cells (madeCells #[.bool false] n) 4)) w.heap.size n (fun _ => false) := by
  refine ⟨by simp, fun j hj => ?_⟩
  have hs : (madeCells #[.bool false] n).size = n := by rw [size_madeCells]; first | done | simp
  have h := World.rangeAt_of_block (w := w.alloc (.cells (madeCells #[.bool false] n) 4)) (b := w.heap.size) (heap_alloc_new w _) 0 n
  have h1 := h j (.bool false) (by
    simp only [madeCells]
    simp [hj, Nat.mod_one])
  exact ⟨by simpa using h1, by simp [go_sem]⟩

/-- Where the rows lie. -/
def atR (rs : List Nat) (i : Nat) : Nat := rs.getD i 0
def cellsBq (n : Nat) (rs : List Nat) : List Value := rs.map fun r => .slice (some ⟨r, 0, none⟩) n n
theorem cellsBq_append (n : Nat) (a b : List Nat) : cellsBq n (a ++ b) = cellsBq n a ++ cellsBq n b := by simp [cellsBq]
theorem cellsB_at {n : Nat} {rs : List Nat} {i : Nat} (h : i < rs.length) : (cellsBq n rs)[i]? = some (.slice (some ⟨atR rs i, 0, none⟩) n n) := by
  simp [cellsBq, atR, List.getD_eq_getElem?_getD, List.getElem?_eq_getElem h]
theorem cellsB_one' (n : Nat) (rs : List Nat) : ∀ u ∈ cellsBq n rs, u.oneCell' = true := by
  intro u hu
  simp only [cellsBq, List.mem_map] at hu
  obtain ⟨r, _, rfl⟩ := hu
  rfl
theorem infoBs : (Tryz.prog.info? 50).map (fun i => (i.zero, i.size, i.bytes)) = some (some (.slice none 0 0), 1, 24) := by kernel_rfl
theorem new_newsBq (w : World) (v : Value) : ∀ j u, ([v] : List Value)[j]? = some u → (w.alloc (.cells #[v] 50)).cell? ((⟨w.heap.size, 0, none⟩ : Addr).add j) = some u := by
  intro j u hj
  rw [Addr.add_mid]
  have := World.rangeAt_of_block (w := w.alloc (.cells #[v] 50)) (b := w.heap.size) (heap_alloc_new w _) 0 1
  exact this j u (by simpa using hj)

def RowR (w : World) (B n : Nat) (v : Value) (rs : List Nat) : Prop := w.ownsRow B 50 1 v rs.length (cellsBq n rs)
theorem RowR.grown {w w' : World} {B n : Nat} {u : Value} {rs : List Nat} {row : Option Nat} (h : RowR w B n u rs) (hg : w.grownBy w' row) (hne : ∀ k, u.ownBlock = some k → row ≠ some k) : RowR w' B n u rs :=
  World.ownsRow.kept h hg (by
    cases e : u.ownBlock with
    | none => exact Or.inl rfl
    | some k => exact Or.inr (fun x => hne k e x.symm))
theorem RowR.below {w w' : World} {B n : Nat} {u : Value} {rs : List Nat} (h : RowR w B n u rs) (hb : Below w.heap.size w w') : RowR w' B n u rs := h.grown (row := none) (grown_belN hb none) (fun k _ e => by cases e)
theorem RowR.lt {w : World} {B n : Nat} {u : Value} {rs : List Nat} (h : RowR w B n u rs) : ∀ g, u.ownBlock = some g → B ≤ g ∧ g < w.heap.size := fun g hg => World.ownsRow.lt h g hg
theorem RowR.cell {w : World} {B n g c : Nat} {rs : List Nat} (h : RowR w B n (.slice (some ⟨g, 0, none⟩) rs.length c) rs) {i : Nat} (hi : i < rs.length) : w.cell? ⟨g, i, none⟩ = some (.slice (some ⟨atR rs i, 0, none⟩) n n) := by
  rw [World.ownsRow.cellAt h i (by omega)]
  exact cellsB_at hi

/-- A square of truth values. -/
def MatOk (w : World) (B n : Nat) (v : Value) (rs : List Nat) (M : Nat → Nat → Bool) : Prop := (∀ i, i < rs.length → BRow w (atR rs i) n (M i)) ∧ (∀ i j, i < rs.length → j < rs.length → atR rs i = atR rs j → i = j) ∧ (∀ i, i < rs.length → v.ownBlock ≠ some (atR rs i) ∧ B ≤ atR rs i)

theorem atR_left {rs : List Nat} {x i : Nat} (h : i < rs.length) : atR (rs ++ [x]) i = atR rs i := by
  unfold atR; rw [List.getD_eq_getElem?_getD, List.getD_eq_getElem?_getD, List.getElem?_append_left h]
theorem atR_last {rs : List Nat} {x : Nat} : atR (rs ++ [x]) rs.length = x := by
  unfold atR; rw [List.getD_eq_getElem?_getD, List.getElem?_append_right (Nat.le_refl _)]; simp

theorem MatOk.congr {w : World} {B n : Nat} {v : Value} {rs : List Nat} {M M' : Nat → Nat → Bool} (h : MatOk w B n v rs M) (he : ∀ i j, i < rs.length → j < n → M i j = M' i j) : MatOk w B n v rs M' :=
  ⟨fun i hi => (h.1 i hi).congr (fun j hj => he i j hi hj), h.2.1, h.2.2⟩
theorem MatOk.below {w w' : World} {B n : Nat} {v : Value} {rs : List Nat} {M : Nat → Nat → Bool} (h : MatOk w B n v rs M) (hb : Below w.heap.size w w') : MatOk w' B n v rs M :=
  ⟨fun i hi => (h.1 i hi).below hb, h.2.1, h.2.2⟩

/-- One row more. -/
theorem MatOk.push {w w1 w4 : World} {B n b : Nat} {v v4 : Value} {rs : List Nat} {M : Nat → Nat → Bool} {f : Nat → Bool} (h : MatOk w B n v rs M) (hb : Below w.heap.size w w1) (hB : B ≤ w.heap.size) (hv : ∀ g, v.ownBlock = some g → g < w.heap.size) (hr : BRow w1 b n f) (hwb : w.heap.size ≤ b) (hg : w1.grownBy w4 v.ownBlock) (hat : v4.ownBlock = v.ownBlock ∨ ∃ k, v4.ownBlock = some k ∧ w1.heap.size ≤ k) :
    MatOk w4 B n v4 (rs ++ [b]) (fun i => if i = rs.length then f else M i) := by
  have hz := hb.size
  have hlt : ∀ i, i < rs.length → atR rs i < w.heap.size := fun i hi => (h.1 i hi).1
  have hne : ∀ g, g < w1.heap.size → v.ownBlock ≠ some g → v4.ownBlock ≠ some g := fun g h1 h2 e => by
    rcases hat with h | ⟨k, h, hk⟩
    · exact h2 (h.symm.trans e)
    · rw [h] at e; injection e with e; omega
  have hvb : v.ownBlock ≠ some b := fun e => by have := hv b e; omega
  refine ⟨fun i hi => ?_, fun i j hi hj e => ?_, fun i hi => ?_⟩
  · by_cases e : i < rs.length
    · rw [atR_left e]
      simp only [show i ≠ rs.length by omega, if_false]
      exact ((h.1 i e).below hb).grown hg (h.2.2 i e).1
    · have e1 : i = rs.length := by simp at hi; omega
      subst e1
      rw [atR_last]
      simp only [if_true]
      exact hr.grown hg hvb
  · simp only [List.length_append, List.length_cons, List.length_nil] at hi hj
    by_cases e1 : i < rs.length <;> by_cases e2 : j < rs.length
    · rw [atR_left e1, atR_left e2] at e; exact h.2.1 i j e1 e2 e
    · have e3 : j = rs.length := by omega
      subst e3
      rw [atR_left e1, atR_last] at e
      have := hlt i e1
      omega
    · have e3 : i = rs.length := by omega
      subst e3
      rw [atR_left e2, atR_last] at e
      have := hlt j e2
      omega
    · omega
  · by_cases e : i < rs.length
    · rw [atR_left e]
      exact ⟨hne _ (by have := hlt i e; omega) (h.2.2 i e).1, (h.2.2 i e).2⟩
    · have e1 : i = rs.length := by simp at hi; omega
      subst e1
      rw [atR_last]
      exact ⟨hne _ hr.1 hvb, by omega⟩

/-- One place is set. -/
theorem MatOk.set {w : World} {B n : Nat} {v : Value} {rs : List Nat} {M : Nat → Nat → Bool} (h : MatOk w B n v rs M) {i j : Nat} (hi : i < rs.length) (hj : j < n) : MatOk (w.setCell ⟨atR rs i, j, none⟩ (.bool true)) B n v rs (fun i' j' => if i' = i ∧ j' = j then true else M i' j') := by
  refine ⟨fun i' hi' => ?_, h.2.1, h.2.2⟩
  by_cases e : i' = i
  · subst e
    refine ((h.1 i' hi').set hj true).congr (fun j' _ => ?_)
    by_cases e2 : j' = j <;> simp [e2]
  · refine ((h.1 i' hi').grown (set_grown w (atR rs i) j _) (fun x => e (h.2.1 i' i hi' hi (by injection x with x; exact x.symm)))).congr (fun j' _ => ?_)
    simp [e]

/-- A square while ways through m are joined. -/
def prt (M : Nat → Nat → Bool) (m i j : Nat) : Nat → Nat → Bool := fun i' j' => M i' j' || (decide (i' < i ∨ (i' = i ∧ j' < j)) && (M i' m && M m j'))

theorem prt_im (M : Nat → Nat → Bool) (m i j i' : Nat) : prt M m i j i' m = M i' m := by
  unfold prt
  cases h : M i' m <;> simp
theorem prt_mj (M : Nat → Nat → Bool) (m i j j' : Nat) : prt M m i j m j' = M m j' := by
  unfold prt
  cases h : M m j' <;> simp
theorem prt_start (M : Nat → Nat → Bool) (m : Nat) (i' j' : Nat) : prt M m 0 0 i' j' = M i' j' := by simp [prt]
theorem prt_row (M : Nat → Nat → Bool) (m i n : Nat) (i' j' : Nat) (hj : j' < n) : prt M m i n i' j' = prt M m (i + 1) 0 i' j' := by
  unfold prt
  have : (i' < i ∨ (i' = i ∧ j' < n)) ↔ (i' < i + 1 ∨ (i' = i + 1 ∧ j' < 0)) := by omega
  simp only [this]
theorem prt_end (M : Nat → Nat → Bool) (m n : Nat) (i' j' : Nat) (hi : i' < n) : prt M m n 0 i' j' = wr1 M m i' j' := by
  unfold prt wr1
  simp [hi]
theorem prt_yes (M : Nat → Nat → Bool) (m i j : Nat) (h1 : M i m = true) (h2 : M m j = true) (i' j' : Nat) : (if i' = i ∧ j' = j then true else prt M m i j i' j') = prt M m i (j + 1) i' j' := by
  unfold prt
  by_cases e : i' = i ∧ j' = j
  · obtain ⟨rfl, rfl⟩ := e
    simp [h1, h2]
  · rw [if_neg e]
    have : (i' < i ∨ (i' = i ∧ j' < j)) ↔ (i' < i ∨ (i' = i ∧ j' < j + 1)) := by omega
    simp only [this]
theorem prt_no (M : Nat → Nat → Bool) (m i j : Nat) (h : M i m = false ∨ M m j = false) (i' j' : Nat) : prt M m i j i' j' = prt M m i (j + 1) i' j' := by
  unfold prt
  by_cases e : i' = i ∧ j' = j
  · obtain ⟨rfl, rfl⟩ := e
    rcases h with h | h <;> simp [h]
  · have : (i' < i ∨ (i' = i ∧ j' < j)) ↔ (i' < i ∨ (i' = i ∧ j' < j + 1)) := by omega
    simp only [this]
end Go.Proofs.YtokabkhnidlcnabGreatDoor

/-
  What ReadUnit hands back, as it lies in memory.
-/
namespace Go.Proofs.YtokabkhnidlcnabGreatDoor
set_option maxRecDepth 100000
set_option linter.unusedSimpArgs false
set_option linter.unusedVariables false
open Go.RowKit

theorem RowS.base {w : World} {B B' : Nat} {v : Value} {ws : List ByteArray} (h : RowS w B v ws) (hb : B' ≤ B) : RowS w B' v ws := by
  obtain ⟨h1, h2 | ⟨g, cap, cur, hv, hg, h3⟩⟩ := h
  · exact ⟨h1, Or.inl h2⟩
  · exact ⟨h1, Or.inr ⟨g, cap, cur, hv, Nat.le_trans hb hg, h3⟩⟩
theorem RowO.base {w : World} {B B' : Nat} {v : Value} {ws : List OpR} (h : RowO w B v ws) (hb : B' ≤ B) : RowO w B' v ws := by
  obtain ⟨h1, h2 | ⟨g, cap, cur, hv, hg, h3⟩⟩ := h
  · exact ⟨h1, Or.inl h2⟩
  · exact ⟨h1, Or.inr ⟨g, cap, cur, hv, Nat.le_trans hb hg, h3⟩⟩

/-- What is handed back. -/
def UnitAns (w : World) (s : ByteArray) (e : Ending) (w' : World) : Prop :=
  ∃ (vu vo : Value) (us : List ByteArray) (os : List OpR) (b : ByteArray) (c l : Int), e = .returned (.tuple #[.agg #[vu, vo, .string b], .int .i64 c, .int .i64 l]) ∧ UnitIs s us os b c l ∧
    RowS w' w.heap.size vu us ∧ RowO w' w.heap.size vo os ∧ (∀ g, vu.ownBlock = some g → vo.ownBlock ≠ some g) ∧ us.length ≤ 20001 ∧ os.length ≤ 20001 ∧ Below w.heap.size w w'

/-- The answer that holds nothing. -/
theorem unitAns_none {w w' : World} {s : ByteArray} {c l : Int} (h : UnitIs s [] [] ByteArray.empty c l) (hb : Below w.heap.size w w') :
    UnitAns w s (.returned (.tuple #[.agg #[.slice none 0 0, .slice none 0 0, .string ⟨#[]⟩], .int .i64 c, .int .i64 l])) w' :=
  ⟨.slice none 0 0, .slice none 0 0, [], [], ByteArray.empty, c, l, rfl, h, World.ownsRow_nil _ _ _ _, World.ownsRow_nil _ _ _ _, (fun g e => by cases e), by simp, by simp, hb⟩

/-- The cells of a record that holds nothing, and that it may be written. -/
def ZeroU (w : World) (H : Nat) : Prop := w.cell? ⟨H, 0, none⟩ = some (.slice none 0 0) ∧ w.cell? ⟨H, 1, none⟩ = some (.slice none 0 0) ∧ w.cell? ⟨H, 2, none⟩ = some (.string ⟨#[]⟩) ∧ (∀ o, w.frozen? ⟨H, o, none⟩ = false)

theorem ZeroU.below {w w' : World} {H B : Nat} (h : ZeroU w H) (hb : Below B w w') (hB : H < B) : ZeroU w' H := by
  obtain ⟨h0, h1, h2, h3⟩ := h
  exact ⟨(hb.cell (p := ⟨H, 0, none⟩) hB).trans h0, (hb.cell (p := ⟨H, 1, none⟩) hB).trans h1, (hb.cell (p := ⟨H, 2, none⟩) hB).trans h2, fun o => (hb.frozen (p := ⟨H, o, none⟩) hB).trans (h3 o)⟩

/-- The answer that hands the record over. -/
theorem unitAns_some {w w3 : World} {s : ByteArray} {B U : Nat} {vu vo : Value} {us : List ByteArray} {os : List OpR} {b b' : ByteArray} (hU : w.heap.size < B) (h : UnM w3 B U vu vo us os b) (hb : Below w.heap.size w w3) (hi : UnitIs s us os b' 0 0) (h1 : us.length ≤ 20001) (h2 : os.length ≤ 20001) :
    UnitAns w s (.returned (.tuple #[.agg #[vu, vo, .string b'], .int .i64 0, .int .i64 0])) ((w3.setCell ⟨U, 2, none⟩ (.string b')).setCells w.heap.size 0 [vu, vo, .string b']) ∧
    UnitAns w s (.returned (.tuple #[.agg #[vu, vo, .string b'], .int .i64 0, .int .i64 0])) (w3.setCells w.heap.size 0 [vu, vo, .string b']) := by
  have hk := fun W => grown_kept1 (kept1_setCells (g := w.heap.size) [vu, vo, .string b'] 0 W)
  have hBU := h.hB
  have nu : ∀ k, vu.ownBlock = some k → some w.heap.size ≠ some k := fun k e x => by injection x with x; have := (h.ru.lt k e).1; omega
  have no : ∀ k, vo.ownBlock = some k → some w.heap.size ≠ some k := fun k e x => by injection x with x; have := (h.ro.lt k e).1; omega
  have nu2 : ∀ k, vu.ownBlock = some k → some U ≠ some k := fun k e x => h.nu (e.trans x.symm)
  have no2 : ∀ k, vo.ownBlock = some k → some U ≠ some k := fun k e x => h.no (e.trans x.symm)
  constructor
  · exact ⟨vu, vo, us, os, b', 0, 0, rfl, hi, ((h.ru.grown (set_grown _ U 2 _) nu2).grown (hk _) nu).base (by omega), ((h.ro.grown (set_grown _ U 2 _) no2).grown (hk _) no).base (by omega), h.ne, h1, h2, below_setCells (Nat.le_refl _) _ 0 _ (hb.setCell (p := ⟨U, 2, none⟩) (by show w.heap.size ≤ U; omega) _)⟩
  · exact ⟨vu, vo, us, os, b', 0, 0, rfl, hi, (h.ru.grown (hk _) nu).base (by omega), (h.ro.grown (hk _) no).base (by omega), h.ne, h1, h2, below_setCells (Nat.le_refl _) _ 0 _ hb⟩

theorem wds_size {l x : ByteArray} (h : x ∈ wds l) : x.size ≤ l.size := by
  unfold wds at h
  obtain ⟨p, _, rfl⟩ := List.mem_map.1 h
  rw [size_ext]
  omega

/-- From some line on. -/
def Then (s : ByteArray) (ls : List (Nat × Nat)) (n : Nat) (us : List ByteArray) (os : List OpR) : Prop := ∀ u o b c l, UnF s ls n us os u o b c l → UnitIs s u o b c l

theorem Then.start {s : ByteArray} (hs : s.size ≤ 20000) : Then s (pcs 10 s 0) 1 [] [] := fun u o b c l h => Or.inr ⟨hs, h⟩
theorem Then.begin {s : ByteArray} {p : Nat × Nat} {r : List (Nat × Nat)} {n : Nat} {us : List ByteArray} {os : List OpR} (h : Then s (p :: r) n us os) (hw : wds (s.extract p.1 p.2) = [wBegin]) : UnitIs s us os (bodyB s p.2) 0 0 :=
  h _ _ _ _ _ (Or.inl ⟨hw, rfl, rfl, rfl, rfl, rfl⟩)
theorem Then.bad {s : ByteArray} {p : Nat × Nat} {r : List (Nat × Nat)} {n : Nat} {us : List ByteArray} {os : List OpR} (h : Then s (p :: r) n us os) (hw : wds (s.extract p.1 p.2) ≠ [wBegin]) (hl : ∀ us' os', ¬ LineIs (wds (s.extract p.1 p.2)) us os us' os') : UnitIs s [] [] ByteArray.empty 2 (n : Int) :=
  h _ _ _ _ _ (Or.inr ⟨hw, Or.inr ⟨hl, rfl, rfl, rfl, rfl, rfl⟩⟩)
theorem Then.next {s : ByteArray} {p : Nat × Nat} {r : List (Nat × Nat)} {n : Nat} {us us' : List ByteArray} {os os' : List OpR} (h : Then s (p :: r) n us os) (hw : wds (s.extract p.1 p.2) ≠ [wBegin]) (hl : LineIs (wds (s.extract p.1 p.2)) us os us' os') : Then s r (n + 1) us' os' :=
  fun u o b c l hu => h _ _ _ _ _ (Or.inr ⟨hw, Or.inl ⟨us', os', hl, hu⟩⟩)
theorem Then.fin {s : ByteArray} {n : Nat} {us : List ByteArray} {os : List OpR} (h : Then s [] n us os) : UnitIs s [] [] ByteArray.empty 3 0 := h _ _ _ _ _ ⟨rfl, rfl, rfl, rfl, rfl⟩
end Go.Proofs.YtokabkhnidlcnabGreatDoor

/-
  Rows of operators, as they are read.
-/
namespace Go.Proofs.YtokabkhnidlcnabGreatDoor
set_option maxRecDepth 100000
set_option linter.unusedSimpArgs false
set_option linter.unusedVariables false
open Go.RowKit

/-- The text at a place. -/
def atS (us : List ByteArray) (i : Nat) : ByteArray := us.getD i ByteArray.empty
theorem atS_get {us : List ByteArray} {i : Nat} (h : i < us.length) : us[i]? = some (atS us i) := by
  unfold atS
  rw [List.getD_eq_getElem?_getD, List.getElem?_eq_getElem h]
  rfl

/-- A row of operators, as it is read. -/
def OpsAt (w : World) (v : Value) (os : List OpR) : Prop := ∃ a c, v = .slice a os.length c ∧ ((os.length = 0 ∧ a = none ∧ c = 0) ∨ ∃ g, a = some ⟨g, 0, none⟩ ∧ g < w.heap.size ∧ Ops w g 0 os)

theorem RowO.ops {w : World} {B : Nat} {v : Value} {os : List OpR} (h : RowO w B v os) : OpsAt w v os := by
  have h' := h
  obtain ⟨_, ⟨h1, h2⟩ | ⟨g, cap, cur, h1, _⟩⟩ := h'
  · exact ⟨none, 0, by rw [h1, h2], Or.inl ⟨h2, rfl, rfl⟩⟩
  · subst h1
    exact ⟨_, cap, rfl, Or.inr ⟨g, rfl, (h.lt g rfl).2, (owns_filled h).2.ops⟩⟩

theorem OpsAt.grown {w w' : World} {v : Value} {os : List OpR} {row : Option Nat} (h : OpsAt w v os) (hg : w.grownBy w' row) (hne : ∀ g, v.ownBlock = some g → row ≠ some g) : OpsAt w' v os := by
  obtain ⟨a, c, rfl, h⟩ := h
  refine ⟨a, c, rfl, h.imp id ?_⟩
  rintro ⟨g, rfl, h1, h2⟩
  refine ⟨g, rfl, Nat.lt_of_lt_of_le h1 hg.size, fun i hi => ?_⟩
  obtain ⟨q0, q1, q2, q3⟩ := h2 i hi
  have e := fun o => grown_cell hg h1 (hne g rfl) o
  exact ⟨(e _).trans q0, (e _).trans q1, (e _).trans q2, (e _).trans q3⟩
end Go.Proofs.YtokabkhnidlcnabGreatDoor
