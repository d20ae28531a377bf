/-
  Rows of lines; rows of texts that are read.
-/
import Derived.Test.YtokabkhnidlcnabDoorSpecWds
namespace Go.Proofs.YtokabkhnidlcnabDoor
set_option maxRecDepth 100000
set_option linter.unusedSimpArgs false
set_option linter.unusedVariables false
open Go.RowKit

/-- A row of texts, as it is read. -/
def StrsAt (w : World) (v : Value) (ws : List ByteArray) : Prop := ∃ a c, v = .slice a ws.length c ∧ (ws.length = 0 ∨ ∃ g, a = some ⟨g, 0, none⟩ ∧ g < w.heap.size ∧ ∀ (j : Nat) x, ws[j]? = some x → w.cell? ⟨g, j, none⟩ = some (.string x))

theorem RowS.strs {w : World} {B : Nat} {v : Value} {ws : List ByteArray} (h : RowS w B v ws) : StrsAt w v ws := by
  obtain ⟨a, c, rfl⟩ := rowS_slice h
  refine ⟨a, c, rfl, ?_⟩
  have h' := h
  obtain ⟨_, ⟨h1, h2⟩ | ⟨g, cap, cur, h1, _⟩⟩ := h'
  · exact Or.inl h2
  · simp only [Value.slice.injEq] at h1
    obtain ⟨rfl, _, rfl⟩ := h1
    exact Or.inr ⟨g, rfl, (h.lt g rfl).2, fun j x hj => by have := h.cells j x hj; simpa using this⟩

theorem StrsAt.grown {w w' : World} {v : Value} {ws : List ByteArray} {row : Option Nat} (h : StrsAt w v ws) (hg : w.grownBy w' row) (hne : ∀ g, v.ownBlock = some g → row ≠ some g) : StrsAt w' v ws := by
  obtain ⟨a, c, rfl, h⟩ := h
  refine ⟨a, c, rfl, h.imp id ?_⟩
  rintro ⟨g, rfl, h1, h2⟩
  exact ⟨g, rfl, Nat.lt_of_lt_of_le h1 hg.size, fun j x hj => (grown_cell hg h1 (hne g rfl) j).trans (h2 j x hj)⟩

theorem StrsAt.below {w w' : World} {v : Value} {ws : List ByteArray} (h : StrsAt w v ws) (hb : Below w.heap.size w w') : StrsAt w' v ws :=
  h.grown (row := none) (grown_belN hb none) (fun g _ e => by cases e)

theorem StrsAt.lt {w : World} {v : Value} {ws : List ByteArray} (h : StrsAt w v ws) (h1 : 1 ≤ ws.length) : ∃ g c, v = .slice (some ⟨g, 0, none⟩) ws.length c ∧ g < w.heap.size ∧ ∀ (j : Nat) x, ws[j]? = some x → w.cell? ⟨g, j, none⟩ = some (.string x) := by
  obtain ⟨a, c, rfl, h | ⟨g, rfl, h2, h3⟩⟩ := h
  · omega
  · exact ⟨g, c, rfl, h2, h3⟩

/-- A line: where its words lie, where it begins and ends. -/
structure LnR where
  wv : Value
  f : Nat
  t : Nat

def LnR.cells (l : LnR) : List Value := [l.wv, .int .i64 (l.f : Int), .int .i64 (l.t : Int)]
def atL (ls : List LnR) (i : Nat) : LnR := ls.getD i ⟨.slice none 0 0, 0, 0⟩
def cellsLn (zs : List LnR) : List Value := zs.flatMap fun x => [x.wv, .int .i64 (x.f : Int), .int .i64 (x.t : Int)]
theorem cellsLn_append (xs ys : List LnR) : cellsLn (xs ++ ys) = cellsLn xs ++ cellsLn ys := by simp [cellsLn]

theorem cellsLn_at : ∀ (zs : List LnR) (i : Nat), i < zs.length → (cellsLn zs)[i * 3]? = some (atL zs i).wv ∧ (cellsLn zs)[i * 3 + 1]? = some (.int .i64 ((atL zs i).f : Int)) ∧ (cellsLn zs)[i * 3 + 2]? = some (.int .i64 ((atL zs i).t : Int))
  | [], i, h => absurd h (Nat.not_lt_zero i)
  | o :: r, 0, _ => ⟨rfl, rfl, rfl⟩
  | o :: r, i + 1, h => by
    have ih := cellsLn_at r i (by simpa using h)
    have e : ∀ j, (cellsLn (o :: r))[(i + 1) * 3 + j]? = (cellsLn r)[i * 3 + j]? := fun j => by
      have : (i + 1) * 3 + j = (i * 3 + j) + 3 := by omega
      rw [this]
      rfl
    exact ⟨(e 0).trans ih.1, (e 1).trans ih.2.1, (e 2).trans ih.2.2⟩

theorem infoLn : (Tryd.prog.info? 35).map (fun i => (i.zero, i.size, i.bytes)) = some (some (.agg #[.slice none 0 0, .int .i64 0, .int .i64 0]), 3, 40) := by kernel_rfl

theorem new_newsLn (w : World) (x : LnR) : ∀ j u, (cellsLn [x])[j]? = some u → (w.alloc (.cells #[x.wv, .int .i64 (x.f : Int), .int .i64 (x.t : Int)] 35)).cell? ((⟨w.heap.size, 0, none⟩ : Addr).add j) = some u := by
  intro j u hj
  rw [Addr.add_mid]
  have := World.rangeAt_of_block (w := w.alloc (.cells #[x.wv, .int .i64 (x.f : Int), .int .i64 (x.t : Int)] 35)) (b := w.heap.size) (heap_alloc_new w _) 0 3
  exact this j u (by simpa [cellsLn] using hj)

def RowL (w : World) (B : Nat) (u : Value) (ls : List LnR) : Prop := w.ownsRow B 35 3 u ls.length (cellsLn ls)

theorem RowL.below {w w' : World} {B : Nat} {u : Value} {us : List LnR} (h : RowL w B u us) (hb : Below w.heap.size w w') : RowL w' B u us :=
  World.ownsRow.kept h (grown_belN hb none) (by cases u.ownBlock with
  | none => exact Or.inl rfl
  | some k => exact Or.inr (by simp))
theorem RowL.lt {w : World} {B : Nat} {u : Value} {us : List LnR} (h : RowL w B u us) : ∀ g, u.ownBlock = some g → B ≤ g ∧ g < w.heap.size := fun g hg => World.ownsRow.lt h g hg

/-- The lines of a row, as they lie in memory. -/
def OpsL (w : World) (g : Nat) (ls : List LnR) : Prop := ∀ i, i < ls.length → w.cell? ⟨g, i * 3, none⟩ = some (atL ls i).wv ∧ w.cell? ⟨g, i * 3 + 1, none⟩ = some (.int .i64 ((atL ls i).f : Int)) ∧ w.cell? ⟨g, i * 3 + 2, none⟩ = some (.int .i64 ((atL ls i).t : Int))

theorem OpsL.below {w w' : World} {g : Nat} {ls : List LnR} {B : Nat} (h : OpsL w g ls) (hb : Below B w w') (hB : g < B) : OpsL w' g ls := fun i hi => by
  obtain ⟨h0, h1, h2⟩ := h i hi
  exact ⟨(hb.cell (p := ⟨g, _, none⟩) hB).trans h0, (hb.cell (p := ⟨g, _, none⟩) hB).trans h1, (hb.cell (p := ⟨g, _, none⟩) hB).trans h2⟩

theorem RowL.ops {w : World} {B g c : Nat} {us : List LnR} (h : RowL w B (.slice (some ⟨g, 0, none⟩) us.length c) us) : OpsL w g us := fun i hi => by
  obtain ⟨c0, c1, c2⟩ := cellsLn_at us i hi
  have e := fun j (hj : j < 3) => World.ownsRow.cellAt h (i * 3 + j) (by omega)
  exact ⟨by simpa using (e 0 (by omega)).trans c0, by simpa using (e 1 (by omega)).trans c1, by simpa using (e 2 (by omega)).trans c2⟩

/-- The words of every line lie there, and nothing that is put behind the row touches them. -/
def LnsOk (w : World) (s : ByteArray) (v : Value) (ls : List LnR) : Prop := ∀ l ∈ ls, StrsAt w l.wv (wds (s.extract l.f l.t)) ∧ ∀ g, l.wv.ownBlock = some g → v.ownBlock ≠ some g ∧ g < w.heap.size

theorem LnsOk.one' {w : World} {s : ByteArray} {v : Value} {ls : List LnR} (h : LnsOk w s v ls) : ∀ u ∈ cellsLn ls, u.oneCell' = true := by
  intro u hu
  simp only [cellsLn, List.mem_flatMap] at hu
  obtain ⟨l, hl, ho⟩ := hu
  obtain ⟨⟨a, c, hv, _⟩, _⟩ := h l hl
  simp at ho
  rcases ho with rfl | rfl | rfl
  · rw [hv]; rfl
  · rfl
  · rfl

/-- One line more. -/
theorem LnsOk.step {w w1 w4 : World} {s : ByteArray} {v v4 nv : Value} {ls : List LnR} {f t : Nat} (h : LnsOk w s v ls) (hb : Below w.heap.size w w1) (hv : ∀ g, v.ownBlock = some g → g < w.heap.size) (hn : StrsAt w1 nv (wds (s.extract f t))) (hnb : ∀ g, nv.ownBlock = some g → w.heap.size ≤ g ∧ g < w1.heap.size)
    (hg : w1.grownBy w4 v.ownBlock) (hat : v4.ownBlock = v.ownBlock ∨ ∃ k, v4.ownBlock = some k ∧ w1.heap.size ≤ k) : LnsOk w4 s v4 (ls ++ [⟨nv, f, t⟩]) := by
  have hne : ∀ g, g < w1.heap.size → v.ownBlock ≠ some g → v4.ownBlock ≠ some g := fun g h1 h2 e => by
    rcases hat with h | ⟨k, h, hk⟩
    · exact h2 (h.symm.trans e)
    · rw [h] at e; injection e with e; omega
  have hz := hb.size
  have hz4 := hg.size
  intro l hl
  rcases List.mem_append.1 hl with hl | hl
  · obtain ⟨h1, h2⟩ := h l hl
    refine ⟨(h1.below hb).grown hg (fun g e => (h2 g e).1), fun g e => ⟨hne g ?_ (h2 g e).1, ?_⟩⟩
    · have := (h2 g e).2; omega
    · have := (h2 g e).2; omega
  · simp only [List.mem_singleton] at hl
    subst hl
    have hx : ∀ g, nv.ownBlock = some g → v.ownBlock ≠ some g := fun g e e2 => by
      have := hv g e2
      have := (hnb g e).1
      omega
    refine ⟨hn.grown hg hx, fun g e => ⟨hne g (hnb g e).2 (hx g e), ?_⟩⟩
    have := (hnb g e).2
    omega
end Go.Proofs.YtokabkhnidlcnabDoor
