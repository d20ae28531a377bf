/-
  Rows of texts that a call makes by append.
-/
import Derived.Test.YtokabkhnidlcnabDoorBase
import Derived.OwnWalk
import Derived.Laws.OwnMore
import Derived.Maps.AppendAt
namespace Go.Proofs.YtokabkhnidlcnabDoor
set_option maxRecDepth 100000
set_option linter.unusedSimpArgs false
set_option linter.unusedVariables false
open Go.RowKit

def cellsS (l : List ByteArray) : List Value := l.map fun s => .string s
theorem cellsS_len (l : List ByteArray) : (cellsS l).length = l.length := by simp [cellsS]
theorem cellsS_append (l l' : List ByteArray) : cellsS (l ++ l') = cellsS l ++ cellsS l' := by simp [cellsS]
theorem cellsS_one' (l : List ByteArray) : ∀ u ∈ cellsS l, u.oneCell' = true := by
  intro u hu
  simp only [cellsS, List.mem_map] at hu
  obtain ⟨b, _, rfl⟩ := hu
  rfl

theorem infoStr : (Tryd.prog.info? 9).map (fun i => (i.zero, i.size, i.bytes)) = some (some (.string ⟨#[]⟩), 1, 16) := by kernel_rfl

theorem new_newsS (w : World) (t : ByteArray) : ∀ j u, (cellsS [t])[j]? = some u → (w.alloc (.cells #[.string t] 9)).cell? ((⟨w.heap.size, 0, none⟩ : Addr).add j) = some u := by
  intro j u hj
  rw [Addr.add_mid]
  have := World.rangeAt_of_block (w := w.alloc (.cells #[.string t] 9)) (b := w.heap.size) (heap_alloc_new w _) 0 1
  exact this j u (by simpa [cellsS] using hj)

/-- A row of texts behind which one may be put. -/
def RowS (w : World) (B : Nat) (v : Value) (ps : List ByteArray) : Prop := w.ownsRow B 9 1 v ps.length (cellsS ps)

theorem rowS_slice {w : World} {B n : Nat} {e : TypeId} {size : Nat} {u : Value} {xs : List Value} (h : w.ownsRow B e size u n xs) : ∃ a c, u = .slice a n c := by
  obtain ⟨_, ⟨rfl, rfl⟩ | ⟨g, cap, cur, rfl, _⟩⟩ := h
  · exact ⟨none, 0, rfl⟩
  · exact ⟨_, _, rfl⟩

theorem RowS.grown {w w' : World} {B : Nat} {u : Value} {us : List ByteArray} {row : Option Nat} (h : RowS w B u us) (hg : w.grownBy w' row) (hne : ∀ k, u.ownBlock = some k → row ≠ some k) : RowS w' B u us :=
  World.ownsRow.kept h hg (by
    cases e : u.ownBlock with
    | none => exact Or.inl rfl
    | some k => exact Or.inr (fun x => hne k e x.symm))

theorem RowS.below {w w' : World} {B : Nat} {u : Value} {us : List ByteArray} (h : RowS w B u us) (hb : Below w.heap.size w w') : RowS w' B u us :=
  h.grown (row := none) ⟨hb.os, hb.tape, hb.output, hb.size, fun i hi _ => hb.block i hi⟩ (fun k _ e => by cases e)

theorem RowS.lt {w : World} {B : Nat} {u : Value} {us : List ByteArray} (h : RowS w B u us) : ∀ g, u.ownBlock = some g → B ≤ g ∧ g < w.heap.size := fun g hg => World.ownsRow.lt h g hg

/-- The texts of a row, as they lie in memory. -/
theorem RowS.cells {w : World} {B g n c : Nat} {us : List ByteArray} (h : RowS w B (.slice (some ⟨g, 0, none⟩) n c) us) : ∀ (j : Nat) x, us[j]? = some x → w.cell? ⟨g, 0 + j, none⟩ = some (.string x) := by
  intro j x hj
  have hl : j < us.length := (List.getElem?_eq_some_iff.1 hj).1
  obtain ⟨_, ⟨h1, _⟩ | ⟨g', cap, cur, h1, h2⟩⟩ := h
  · cases h1
  · have hh : RowS w B (.slice (some ⟨g', 0, none⟩) us.length cap) us := ⟨by assumption, Or.inr ⟨g', cap, cur, rfl, h2⟩⟩
    simp only [Value.slice.injEq, Option.some.injEq, Addr.mk.injEq] at h1
    obtain ⟨⟨rfl, _⟩, _⟩ := h1
    rw [Nat.zero_add, World.ownsRow.cellAt hh j (by omega)]
    simp [cellsS, hj]
end Go.Proofs.YtokabkhnidlcnabDoor
