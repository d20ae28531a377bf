/-
  Lists of operators in memory.
-/
import Derived.Test.YtokabkhnidlcnabBase
import Derived.Test.YtokabkhnidlcnabMath
import Derived.Deep.MidRow
import Derived.Laws.MakeOwn
namespace Go.Proofs.Ytokabkhnidlcnab
set_option maxRecDepth 100000
open Go.RowKit

theorem szOp_any (s : ByteArray) (k l sd : Int) (left : Int) (w : World) (hs : s.size ≤ maxLen) (h0 : 0 ≤ left) (h1 : left ≤ 1048576) :
    Calls Try.prog 78 #[.agg #[.string s, .int .i64 k, .int .i64 l, .int .i64 sd], .int .i64 left] w fun e w' => e = .returned (.int .i64 (szI left s.size)) ∧ Below w.heap.size w w' := by
  unfold maxLen at hs
  by_cases h : left < s.size
  · go_enter Try.func78, Try.ntmps78
    go_wp2
    go_ret
    exact ⟨ret_int (by simp [szI]; omega), below1 _ _⟩
  · go_enter Try.func78, Try.ntmps78
    go_wp2
    go_ret
    exact ⟨ret_int (by simp [szI]; omega), below1 _ _⟩

theorem toOp_any (s : ByteArray) (k l sd : Int) (w : World) :
    Calls Try.prog 79 #[.agg #[.string s, .int .i64 k, .int .i64 l, .int .i64 sd]] w fun e w' => e = .returned (.agg #[.string s, .int .i64 k, .int .i64 l, .int .i64 sd]) ∧ Below w.heap.size w w' := by
  go_enter Try.func79, Try.ntmps79
  go_wp2
  exact bodyPost_ret (v := .agg #[.string s, .int .i64 k, .int .i64 l, .int .i64 sd]) (by simp [results, Try.results79, go_sem]) rfl ⟨rfl, (((Below.refl _ _).alloc (Nat.le_refl _) _).alloc (by simp) _).alloc (by simp; omega) _⟩

/-- An operator, as its four fields. -/
structure OpR where
  s : ByteArray
  k : Int
  l : Int
  sd : Int

def OpR.ok (o : OpR) : Bool := okB o.s o.k o.l o.sd
def OpR.zero : OpR := ⟨⟨#[]⟩, 0, 0, 0⟩
def OpR.cells (o : OpR) : Array Value := #[.string o.s, .int .i64 o.k, .int .i64 o.l, .int .i64 o.sd]

/-- The operator at a place. -/
def atO (xs : List OpR) (i : Nat) : OpR := xs.getD i OpR.zero

/-- The four cells of the operator at place i. -/
def CellsAt (w : World) (b off : Nat) (xs : List OpR) (i : Nat) : Prop :=
  w.cell? ⟨b, off + i * 4, none⟩ = some (.string (atO xs i).s) ∧ w.cell? ⟨b, off + i * 4 + 1, none⟩ = some (.int .i64 (atO xs i).k) ∧
    w.cell? ⟨b, off + i * 4 + 2, none⟩ = some (.int .i64 (atO xs i).l) ∧ w.cell? ⟨b, off + i * 4 + 3, none⟩ = some (.int .i64 (atO xs i).sd)

/-- The cells of a row of operators. -/
def Ops (w : World) (b off : Nat) (xs : List OpR) : Prop := ∀ i, i < xs.length → CellsAt w b off xs i

/-- No text is too long for a text. -/
def Sized (xs : List OpR) : Prop := ∀ i, i < xs.length → (atO xs i).s.size ≤ maxLen

theorem CellsAt.below {w w' : World} {b off i : Nat} {xs : List OpR} {B : Nat} (h : CellsAt w b off xs i) (hb : Below B w w') (hB : b < B) : CellsAt w' b off xs i := by
  obtain ⟨h0, h1, h2, h3⟩ := h
  exact ⟨(hb.cell (p := ⟨b, _, none⟩) hB).trans h0, (hb.cell (p := ⟨b, _, none⟩) hB).trans h1, (hb.cell (p := ⟨b, _, none⟩) hB).trans h2, (hb.cell (p := ⟨b, _, none⟩) hB).trans h3⟩

theorem Ops.below {w w' : World} {b off : Nat} {xs : List OpR} {B : Nat} (h : Ops w b off xs) (hb : Below B w w') (hB : b < B) : Ops w' b off xs :=
  fun i hi => (h i hi).below hb hB

/-- A slice of operators that came in: empty, or its cells lie there. -/
def Arg (w : World) (a : Option Addr) (xs : List OpR) : Prop := xs.length = 0 ∨ ∃ b off, a = some ⟨b, off, none⟩ ∧ Ops w b off xs ∧ b < w.heap.size

def okTo (xs : List OpR) (k : Nat) : Prop := ∀ j, j < k → (atO xs j).ok = true

theorem okTo_succ {xs : List OpR} {k : Nat} (h : okTo xs k) (hk : (atO xs k).ok = true) : okTo xs (k + 1) := by
  intro j hj
  by_cases e : j = k
  · subst e; exact hk
  · exact h j (by omega)

/-- What is left of 'left', as szOpS has it: less than nothing, or the list and what is left fit. -/
def Left (left r : Int) (n : Nat) : Prop := r < 0 ∨ (0 ≤ r ∧ r + n ≤ left)

set_option maxHeartbeats 1000000 in
theorem szOpS_any (a : Option Addr) (cap : Nat) (xs : List OpR) (left : Int) (w : World) (hm : xs.length ≤ maxLen) (hw : Arg w a xs) (hs : Sized xs) (hl0 : 0 ≤ left) (hl1 : left ≤ 1048576) :
    Calls Try.prog 42 #[.slice a xs.length cap, .int .i64 left] w fun e w' => (∃ r, e = .returned (.int .i64 r) ∧ Left left r xs.length) ∧ Below w.heap.size w w' := by
  unfold maxLen at hm
  by_cases hneg : left < xs.length
  · go_enter Try.func42, Try.ntmps42
    go_wp2
    go_ret
    exact ⟨⟨-1, rfl, Or.inl (by omega)⟩, Below.refl _ _⟩
  rcases hw with h0 | ⟨b, off, rfl, hw, hB⟩
  · go_enter Try.func42, Try.ntmps42
    go_wp2
    refine wp_loop_rounds 1 ?_
    rw [rounds_succ]
    go_wp2
    go_ret
    exact ⟨⟨_, rfl, Or.inr (by omega)⟩, Below.refl _ _⟩
  · go_enter Try.func42, Try.ntmps42
    go_wp2
    go_loopw [1, 5] (fun lf i wr => ∃ (k : Nat) (r : Int), k ≤ xs.length ∧ i = .int .i64 k ∧ lf = .int .i64 r ∧ 0 ≤ r ∧ r ≤ left - xs.length ∧ Below w.heap.size w wr) (fun _ i _ => xs.length - (intOf i).toNat)
    case atStart => exact ⟨0, _, Nat.zero_le _, rfl, rfl, by omega, by omega, Below.refl _ _⟩
    case round =>
      obtain ⟨k, r, hk, rfl, rfl, hr0, hr1, hbel⟩ := hrel
      by_cases hlt : k < xs.length
      · obtain ⟨h0, h1, h2, h3⟩ := (hw k hlt).below hbel hB
        have hsz : szI r (atO xs k).s.size < 0 ∨ (0 ≤ szI r (atO xs k).s.size ∧ szI r (atO xs k).s.size ≤ r) := by unfold szI; split <;> omega
        rcases hsz with hsz | ⟨hsz, hszr⟩
        · go_wp2_with (go_at_call 78; refine (szOp_any _ _ _ _ _ _ (hs k hlt) hr0 (by omega)).mono ?_; rintro e w' ⟨rfl, hb⟩)
          go_ret
          exact ⟨⟨-1, rfl, Or.inl (by omega)⟩, hbel.trans (hb.mono hbel.size)⟩
        · go_wp2_with (go_at_call 78; refine (szOp_any _ _ _ _ _ _ (hs k hlt) hr0 (by omega)).mono ?_; rintro e w' ⟨rfl, hb⟩)
          exact ⟨⟨k + 1, _, by omega, by go_num, rfl, hsz, by omega, hbel.trans (hb.mono hbel.size)⟩, by simp [intOf]; omega⟩
      · go_wp2
        go_ret
        exact ⟨⟨_, rfl, Or.inr ⟨hr0, by omega⟩⟩, hbel⟩
end Go.Proofs.Ytokabkhnidlcnab
