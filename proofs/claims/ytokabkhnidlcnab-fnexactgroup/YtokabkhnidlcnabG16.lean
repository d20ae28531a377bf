import Derived.Laws.CopyOwn
import Derived.Laws.IdiomStrings
import Derived.Laws.BytesString
import Derived.OwnWalk
import Derived.Laws.OwnMore
import Derived.Test.YtokabkhnidlcnabG00
import Derived.Test.YtokabkhnidlcnabG08

/-
  Words: numbers and names (isWord).
-/
namespace Go.Proofs.Ytokabkhnidlcnab
set_option maxRecDepth 100000
open Go.RowKit

/-- A text of one word. -/
def WordT (first : Nat) (s : ByteArray) : Prop := 1 ≤ s.size ∧ cls (bt s 0) = first ∧ ∀ j, j < s.size → stays first (bt s j) = true

set_option maxHeartbeats 1000000 in
theorem isWord_any (first : Nat) (s : ByteArray) (w : World) (hs : s.size ≤ maxLen) :
    Calls Try.prog 134 #[.int .i64 (first : Int), .string s] w fun e w' => RetB e (WordT first s) ∧ w' = w := by
  unfold maxLen at hs
  by_cases h0 : s.size = 0
  · have HN := hide (show ¬ WordT first s from fun h => by have := h.1; omega)
    obtain rfl := bytes_nil h0
    go_enter Try.func134, Try.ntmps134
    go_wp2_with fail
    go_ret
    exact ⟨⟨_, rfl, says_false (unhide HN)⟩, rfl⟩
  have hne := not_empty h0
  have h0I : (0 : Int) < (s.size : Int) := by omega
  have h0N : 0 < s.size := by omega
  by_cases hc : cls (bt s 0) = first
  case neg =>
    have HN := hide (show ¬ WordT first s from fun h => hc h.2.1)
    have hb := bt_get h0N
    have hc' : ((cls s[0] : Int) != (first : Int)) = true := by rw [hb]; simp; omega
    clear hb
    go_enter Try.func134, Try.ntmps134
    go_wp2_with (go_at_call 124; refine (kindOfByte_any _ _).mono ?_; rintro e w' ⟨rfl, hx⟩; obtain rfl := hx.symm)
    go_ret
    exact ⟨⟨_, rfl, says_false (unhide HN)⟩, rfl⟩
  have HC := hide hc
  have hb := bt_get h0N
  have HX := hide (show (cls s[0] : Int) = (first : Int) by rw [hb]; omega)
  clear hb hc
  go_enter Try.func134, Try.ntmps134
  go_wp2_with (go_at_call 124; refine (kindOfByte_any _ _).mono ?_; rw [unhide HX]; rintro e w' ⟨rfl, hx⟩; obtain rfl := hx.symm)
  go_loop [17] (fun i => ∃ k : Nat, k ≤ s.size ∧ i = .int .i64 (k : Int) ∧ Hid (∀ j, j < k → stays first (bt s j) = true)) (fun i => s.size - (intOf i).toNat)
  case atStart => exact ⟨0, Nat.zero_le _, rfl, hide (fun j h => by omega)⟩
  case round =>
    obtain ⟨k, hk, rfl, hn⟩ := hrel
    by_cases hlt : k < s.size
    · have hltI : (k : Int) < (s.size : Int) := by omega
      cases hb : stays first s[k]
      · have Hb := hide (show stays first (bt s k) = false by rw [← bt_get hlt]; exact hb)
        go_wp2_with (go_at_call 140; refine (staysWord_any _ _ _).mono ?_; rintro e w' ⟨rfl, hx⟩; obtain rfl := hx.symm)
        go_ret
        exact ⟨⟨_, rfl, says_false (fun h => by have := h.2.2 k hlt; rw [unhide Hb] at this; cases this)⟩, rfl⟩
      · have Hb := hide (show stays first (bt s k) = true by rw [← bt_get hlt]; exact hb)
        go_wp2_with (go_at_call 140; refine (staysWord_any _ _ _).mono ?_; rintro e w' ⟨rfl, hx⟩; obtain rfl := hx.symm)
        refine ⟨⟨k + 1, by omega, by go_num, hide (fun j hj => ?_)⟩, by simp [intOf]; omega⟩
        by_cases e : j = k
        · subst e; exact unhide Hb
        · exact (unhide hn) j (by omega)
    · go_wp2_with fail
      go_ret
      exact ⟨⟨_, rfl, says_true ⟨by omega, unhide HC, fun j hj => (unhide hn) j (by omega)⟩⟩, rfl⟩

theorem WordT_2 (s : ByteArray) : WordT 2 s ↔ NumT s := by
  unfold WordT NumT stays
  constructor
  · rintro ⟨h1, h2, h3⟩
    refine ⟨h1, fun j hj => ?_⟩
    have := h3 j hj
    simpa using this
  · rintro ⟨h1, h2⟩
    exact ⟨h1, h2 0 (by omega), fun j hj => by simp [h2 j hj]⟩

theorem WordT_3 (s : ByteArray) : WordT 3 s ↔ NameT s := by
  unfold WordT NameT stays
  constructor
  · rintro ⟨h1, h2, h3⟩
    refine ⟨h1, fun j hj => ?_⟩
    have := h3 j hj
    simp at this
    by_cases e : j = 0
    · subst e; exact Or.inl h2
    · omega
  · rintro ⟨h1, h2⟩
    refine ⟨h1, ?_, fun j hj => ?_⟩
    · have := h2 0 (by omega); omega
    · have := h2 j hj; simp; omega
end Go.Proofs.Ytokabkhnidlcnab

/-
  Walks: the program's trees in order, its parts.
-/
namespace Go.Proofs.Ytokabkhnidlcnab
set_option maxRecDepth 100000
set_option linter.unusedVariables false
open Go.RowKit

theorem kidCount_any (k : Int) (w : World) :
    Calls Try.prog 111 #[.int .i64 k] w fun e w' => e = .returned (.int .i64 (kids k : Int)) ∧ w' = w := by
  by_cases h4 : k = 4
  · subst h4
    go_enter Try.func111, Try.ntmps111
    go_wp2
    go_ret
    exact ⟨ret_int (by simp [kids]), rfl⟩
  by_cases h3 : k = 3
  · subst h3
    go_enter Try.func111, Try.ntmps111
    go_wp2
    go_ret
    exact ⟨ret_int (by simp [kids]), rfl⟩
  by_cases h5 : k = 5
  · subst h5
    go_enter Try.func111, Try.ntmps111
    go_wp2
    go_ret
    exact ⟨ret_int (by simp [kids]), rfl⟩
  by_cases h6 : k = 6
  · subst h6
    go_enter Try.func111, Try.ntmps111
    go_wp2
    go_ret
    exact ⟨ret_int (by simp [kids]), rfl⟩
  have e4 : (k == 4) = false := by simpa using h4
  have e3 : (k == 3) = false := by simpa using h3
  have e5 : (k == 5) = false := by simpa using h5
  have e6 : (k == 6) = false := by simpa using h6
  have HK := hide (show kids k = 0 by simp [kids, h4, h3, h5, h6])
  clear h4 h3 h5 h6
  go_enter Try.func111, Try.ntmps111
  go_wp2
  go_ret
  exact ⟨ret_int (by rw [unhide HK]; rfl), rfl⟩

theorem kidCount_is {k : Int} {n : Nat} (h : kids k = n) (z : Int) (hz : (n : Int) = z) (w : World) :
    Calls Try.prog 111 #[.int .i64 k] w fun e w' => e = .returned (.int .i64 z) ∧ w' = w := by
  subst hz
  subst h
  exact kidCount_any k w

set_option maxHeartbeats 1000000 in
theorem textFits_any (o : NodeR) (w : World) (hs : o.t.size ≤ maxLen) :
    Calls Try.prog 113 #[.agg #[.int .i64 o.k, .string o.t, .int .i64 o.a, .int .i64 o.b]] w fun e w' => RetB e (TxtOk o) ∧ Below w.heap.size w w' := by
  have HS := hide hs
  unfold maxLen at hs
  by_cases hbig : 20000 < o.t.size
  · have hbigI : (20000 : Int) < (o.t.size : Int) := by omega
    have HN := hide (TxtOk_big hbig)
    clear hbig
    go_enter Try.func113, Try.ntmps113
    go_wp2_with fail
    go_ret
    exact ⟨⟨_, rfl, says_false (unhide HN)⟩, below1 _ _⟩
  have hbigI : ¬ (20000 : Int) < (o.t.size : Int) := by omega
  have hsm : o.t.size ≤ 20000 := by omega
  clear hbig
  by_cases k1 : o.k = 1
  · have HT := hide ((TxtOk_1 hsm k1).trans (WordT_2 _).symm)
    rw [k1]
    clear k1
    go_enter Try.func113, Try.ntmps113
    go_wp2_with (go_at_call 134; refine (isWord_any 2 _ _ (unhide HS)).mono ?_; rintro e w' ⟨⟨v, rfl, hv⟩, hx⟩; obtain rfl := hx.symm)
    go_ret
    exact ⟨⟨_, rfl, hv.trans (unhide HT).symm⟩, below1 _ _⟩
  by_cases k2 : o.k = 2
  · have HT := hide ((TxtOk_2 hsm k2).trans (WordT_3 _).symm)
    rw [k2]
    clear k1 k2
    go_enter Try.func113, Try.ntmps113
    go_wp2_with (go_at_call 134; refine (isWord_any 3 _ _ (unhide HS)).mono ?_; rintro e w' ⟨⟨v, rfl, hv⟩, hx⟩; obtain rfl := hx.symm)
    go_ret
    exact ⟨⟨_, rfl, hv.trans (unhide HT).symm⟩, below1 _ _⟩
  by_cases k6 : o.k = 6
  · have HT := hide (TxtOk_6 k6)
    rw [k6]
    clear k1 k2 k6
    by_cases h0 : o.t.size = 0
    · rw [bytes_nil h0]
      go_enter Try.func113, Try.ntmps113
      go_wp2_with fail
      go_ret
      exact ⟨⟨_, rfl, says_true ((unhide HT).2 h0)⟩, below1 _ _⟩
    · have hne : o.t.toList.isEmpty = false := not_empty h0
      go_enter Try.func113, Try.ntmps113
      go_wp2_with fail
      go_ret
      exact ⟨⟨_, rfl, says_false (fun h => h0 ((unhide HT).1 h))⟩, below1 _ _⟩
  have e1 : (o.k == 1) = false := by simpa using k1
  have e2 : (o.k == 2) = false := by simpa using k2
  have e6 : (o.k == 6) = false := by simpa using k6
  by_cases k3 : o.k = 3
  · have HT := hide (TxtOk_3 hsm (Or.inl k3))
    rw [k3]
    clear k1 k2 k6 e1 e2 e6 k3
    go_enter Try.func113, Try.ntmps113
    go_wp2_with (go_at_call 135; refine (isOpText_any _ _ (unhide HS)).mono ?_; rintro e w' ⟨rfl, hx⟩; obtain rfl := hx.symm)
    go_ret
    exact ⟨⟨_, rfl, (unhide HT).symm⟩, below1 _ _⟩
  by_cases k4 : o.k = 4
  · have HT := hide (TxtOk_3 hsm (Or.inr (Or.inl k4)))
    rw [k4]
    clear k1 k2 k6 e1 e2 e6 k3 k4
    go_enter Try.func113, Try.ntmps113
    go_wp2_with (go_at_call 135; refine (isOpText_any _ _ (unhide HS)).mono ?_; rintro e w' ⟨rfl, hx⟩; obtain rfl := hx.symm)
    go_ret
    exact ⟨⟨_, rfl, (unhide HT).symm⟩, below1 _ _⟩
  by_cases k5 : o.k = 5
  · have HT := hide (TxtOk_3 hsm (Or.inr (Or.inr k5)))
    rw [k5]
    clear k1 k2 k6 e1 e2 e6 k3 k4 k5
    go_enter Try.func113, Try.ntmps113
    go_wp2_with (go_at_call 135; refine (isOpText_any _ _ (unhide HS)).mono ?_; rintro e w' ⟨rfl, hx⟩; obtain rfl := hx.symm)
    go_ret
    exact ⟨⟨_, rfl, (unhide HT).symm⟩, below1 _ _⟩
  have e3 : (o.k == 3) = false := by simpa using k3
  have e4 : (o.k == 4) = false := by simpa using k4
  have e5 : (o.k == 5) = false := by simpa using k5
  have HT := hide (TxtOk_0 (o := o) (by omega))
  clear k1 k2 k6 k3 k4 k5
  go_enter Try.func113, Try.ntmps113
  go_wp2_with fail
  go_ret
  exact ⟨⟨_, rfl, says_false (unhide HT)⟩, below1 _ _⟩

theorem sizeI : (Try.prog.info? 3).map (·.size) = some 1 := by kernel_rfl

set_option maxHeartbeats 1000000 in
theorem kidsFit0 (o : NodeR) (a : Option Addr) (cap : Nat) (w : World) :
    Calls Try.prog 112 #[.agg #[.int .i64 o.k, .string o.t, .int .i64 o.a, .int .i64 o.b], .slice a 0 cap] w fun e w' => RetB e (o.a = 0 ∧ o.b = 0) ∧ Below w.heap.size w w' := by
  have hcp : ∀ W : World, (Builtin.copy_ #[45, 45] 3 #[.slice (some ⟨w.heap.size + 1, 0, none⟩) 2 2, .slice a 0 cap]).run Try.prog W = .ok (goInt 0) W := fun W => run_copy_none W _ _ _ 3 _ _ _ _ _ _ Try.underlying45 sizeI (by simp)
  have HC := hide hcp
  clear hcp
  by_cases ha : o.a = 0
  · rw [ha]
    by_cases hb : o.b = 0
    · rw [hb]
      clear ha hb
      go_enter Try.func112, Try.ntmps112
      go_wp2
      rw [unhide HC]
      simp only [Result.andThen]
      rw [Oper.upon_value]
      go_wp2
      go_ret
      exact ⟨⟨_, rfl, says_true (by simp)⟩, (below1 _ _).alloc (by simp) _⟩
    · have hb' : (o.b == 0) = false := by simpa using hb
      clear ha
      go_enter Try.func112, Try.ntmps112
      go_wp2
      rw [unhide HC]
      simp only [Result.andThen]
      rw [Oper.upon_value]
      go_wp2
      go_ret
      exact ⟨⟨_, rfl, says_false (fun h => hb h.2)⟩, (below1 _ _).alloc (by simp) _⟩
  · have ha' : (o.a == 0) = false := by simpa using ha
    go_enter Try.func112, Try.ntmps112
    go_wp2
    rw [unhide HC]
    simp only [Result.andThen]
    rw [Oper.upon_value]
    go_wp2
    go_ret
    exact ⟨⟨_, rfl, says_false (fun h => ha h.1)⟩, (below1 _ _).alloc (by simp) _⟩

set_option maxHeartbeats 1000000 in
theorem kidsFit1 (o : NodeR) (g off cap : Nat) (t : Int) (w : World) (h0 : w.cell? ⟨g, off, none⟩ = some (.int .i64 t)) :
    Calls Try.prog 112 #[.agg #[.int .i64 o.k, .string o.t, .int .i64 o.a, .int .i64 o.b], .slice (some ⟨g, off, none⟩) 1 cap] w fun e w' => RetB e (o.a = t ∧ o.b = 0) ∧ Below w.heap.size w w' := by
  have HC := hide (show ∀ (x y : Int), (Builtin.copy_ #[45, 45] 3 #[.slice (some ⟨w.heap.size + 1, 0, none⟩) 2 2, .slice (some ⟨g, off, none⟩) 1 cap]).run Try.prog ((w.alloc (.cells #[.int .i64 o.k, .string o.t, .int .i64 x, .int .i64 y] 115)).alloc (.cells #[.int .i64 0, .int .i64 0] 173)) = .ok (goInt 1) (((w.alloc (.cells #[.int .i64 o.k, .string o.t, .int .i64 x, .int .i64 y] 115)).alloc (.cells #[.int .i64 0, .int .i64 0] 173)).setCells (w.heap.size + 1) 0 [.int .i64 t]) from fun x y => by
    have hlt : g < w.heap.size := block_lt_of_cell h0
    have bel : Below w.heap.size w ((w.alloc (.cells #[.int .i64 o.k, .string o.t, .int .i64 x, .int .i64 y] 115)).alloc (.cells #[.int .i64 0, .int .i64 0] 173)) := (below1 _ _).alloc (by simp) _
    exact run_copy_cells _ _ _ _ 3 _ _ _ _ _ _ _ [.int .i64 t] Try.underlying45 sizeI rfl (fun j v hj => by
      rw [Addr.add_mid]
      match j, hj with
      | 0, hj =>
        simp only [List.getElem?_cons_zero, Option.some.injEq] at hj
        rw [← hj]
        exact (bel.cell (p := ⟨g, off, none⟩) hlt).trans h0) (fun j hj => by simp at hj; subst hj; simp [go_sem]) (fun j hj => by simp [go_sem]) (fun v hv => by simp at hv; rw [hv]; rfl))
  clear h0
  by_cases ha : o.a = t
  · rw [ha]
    by_cases hb : o.b = 0
    · rw [hb]
      clear ha hb
      go_enter Try.func112, Try.ntmps112
      go_wp2
      rw [unhide HC]
      simp only [Result.andThen, World.setCells]
      rw [Oper.upon_value]
      go_wp2
      go_ret
      exact ⟨⟨_, rfl, says_true (by simp)⟩, (below1 _ _).alloc (by simp) _⟩
    · have hb' : (o.b == 0) = false := by simpa using hb
      clear ha
      go_enter Try.func112, Try.ntmps112
      go_wp2
      rw [unhide HC]
      simp only [Result.andThen, World.setCells]
      rw [Oper.upon_value]
      go_wp2
      go_ret
      exact ⟨⟨_, rfl, says_false (fun h => hb h.2)⟩, (below1 _ _).alloc (by simp) _⟩
  · have ha' : (o.a == t) = false := by simpa using ha
    go_enter Try.func112, Try.ntmps112
    go_wp2
    rw [unhide HC]
    simp only [Result.andThen, World.setCells]
    rw [Oper.upon_value]
    go_wp2
    go_ret
    exact ⟨⟨_, rfl, says_false (fun h => ha h.1)⟩, (below1 _ _).alloc (by simp) _⟩

set_option maxHeartbeats 1000000 in
theorem kidsFit2 (o : NodeR) (g off cap : Nat) (t t' : Int) (w : World) (h0 : w.cell? ⟨g, off, none⟩ = some (.int .i64 t)) (h1 : w.cell? ⟨g, off + 1, none⟩ = some (.int .i64 t')) :
    Calls Try.prog 112 #[.agg #[.int .i64 o.k, .string o.t, .int .i64 o.a, .int .i64 o.b], .slice (some ⟨g, off, none⟩) 2 cap] w fun e w' => RetB e (o.a = t ∧ o.b = t') ∧ Below w.heap.size w w' := by
  have HC := hide (show ∀ (x y : Int), (Builtin.copy_ #[45, 45] 3 #[.slice (some ⟨w.heap.size + 1, 0, none⟩) 2 2, .slice (some ⟨g, off, none⟩) 2 cap]).run Try.prog ((w.alloc (.cells #[.int .i64 o.k, .string o.t, .int .i64 x, .int .i64 y] 115)).alloc (.cells #[.int .i64 0, .int .i64 0] 173)) = .ok (goInt 2) (((w.alloc (.cells #[.int .i64 o.k, .string o.t, .int .i64 x, .int .i64 y] 115)).alloc (.cells #[.int .i64 0, .int .i64 0] 173)).setCells (w.heap.size + 1) 0 [.int .i64 t, .int .i64 t']) from fun x y => by
    have hlt : g < w.heap.size := block_lt_of_cell h0
    have bel : Below w.heap.size w ((w.alloc (.cells #[.int .i64 o.k, .string o.t, .int .i64 x, .int .i64 y] 115)).alloc (.cells #[.int .i64 0, .int .i64 0] 173)) := (below1 _ _).alloc (by simp) _
    exact run_copy_cells _ _ _ _ 3 _ _ _ _ _ _ _ [.int .i64 t, .int .i64 t'] Try.underlying45 sizeI rfl (fun j v hj => by
      rw [Addr.add_mid]
      match j, hj with
      | 0, hj =>
        simp only [List.getElem?_cons_zero, Option.some.injEq] at hj
        rw [← hj]
        exact (bel.cell (p := ⟨g, off, none⟩) hlt).trans h0
      | 1, hj =>
        simp only [List.getElem?_cons_succ, List.getElem?_cons_zero, Option.some.injEq] at hj
        rw [← hj]
        exact (bel.cell (p := ⟨g, off + 1, none⟩) hlt).trans h1) (fun j hj => by simp at hj; rcases (by omega : j = 0 ∨ j = 1) with rfl | rfl <;> simp [go_sem]) (fun j hj => by simp [go_sem]) (fun v hv => by simp at hv; rcases hv with rfl | rfl <;> rfl))
  clear h0 h1
  by_cases ha : o.a = t
  · rw [ha]
    by_cases hb : o.b = t'
    · rw [hb]
      clear ha hb
      go_enter Try.func112, Try.ntmps112
      go_wp2
      rw [unhide HC]
      simp only [Result.andThen, World.setCells]
      rw [Oper.upon_value]
      go_wp2
      go_ret
      exact ⟨⟨_, rfl, says_true (by simp)⟩, (below1 _ _).alloc (by simp) _⟩
    · have hb' : (o.b == t') = false := by simpa using hb
      clear ha
      go_enter Try.func112, Try.ntmps112
      go_wp2
      rw [unhide HC]
      simp only [Result.andThen, World.setCells]
      rw [Oper.upon_value]
      go_wp2
      go_ret
      exact ⟨⟨_, rfl, says_false (fun h => hb h.2)⟩, (below1 _ _).alloc (by simp) _⟩
  · have ha' : (o.a == t) = false := by simpa using ha
    go_enter Try.func112, Try.ntmps112
    go_wp2
    rw [unhide HC]
    simp only [Result.andThen, World.setCells]
    rw [Oper.upon_value]
    go_wp2
    go_ret
    exact ⟨⟨_, rfl, says_false (fun h => ha h.1)⟩, (below1 _ _).alloc (by simp) _⟩

end Go.Proofs.Ytokabkhnidlcnab

/-
  Texts and lists of bytes: the conversions, rows of bytes.
-/
namespace Go.Proofs.Ytokabkhnidlcnab
set_option maxRecDepth 100000
open Go.RowKit

/-- The cells of a list of bytes. -/
def cellsB (l : List UInt8) : List Value := l.map fun b => .int .u8 (b.toNat : Int)

theorem cellsB_len (l : List UInt8) : (cellsB l).length = l.length := by simp [cellsB]
theorem cellsB_append (l l' : List UInt8) : cellsB (l ++ l') = cellsB l ++ cellsB l' := by simp [cellsB]
theorem cellsB_one (l : List UInt8) : ∀ u ∈ cellsB l, u.oneCell' = true := by
  intro u hu
  simp only [cellsB, List.mem_map] at hu
  obtain ⟨b, _, rfl⟩ := hu
  rfl

/-- '[]byte(s)' in whatever world. -/
theorem conv_bytes (W : World) (s : ByteArray) : ∃ (c : Nat) (W' : World), (convert 9 93 (.string s)).run Try.prog W = .ok (.slice (some ⟨W.heap.size, 0, none⟩) s.size c) W' ∧
    (∀ j u, (cellsB s.data.toList)[j]? = some u → W'.cell? ((⟨W.heap.size, 0, none⟩ : Addr).add j) = some u) ∧ Below W.heap.size W W' := by
  refine ⟨_, _, run_bytes_of_string (P := Try.prog) W 9 93 5 s Try.underlying9 Try.underlying93 Try.underlying5, ?_, ?_⟩
  · intro j u hj
    rw [Addr.add_mid, Nat.zero_add]
    have hlt : j < s.size := by
      have := (List.getElem?_eq_some_iff.1 hj).1
      rw [cellsB_len] at this
      simpa using this
    rw [cell_of_row _ W.heap.size j (bytesRow s (grownCap W s.size 0 5)) 5 _ (heap_alloc_new W.drew _)]
    have : j < s.data.size := hlt
    simp only [bytesRow]
    rw [Array.getElem?_append_left (by simpa using this)]
    simp only [cellsB, List.getElem?_map] at hj
    simpa using hj
  · exact (Below.refl _ _).drew.alloc (Nat.le_refl _) _

/-- 'string(b)' of a row of bytes. -/
theorem conv_string (W : World) (g n c : Nat) (l : List UInt8) (hn : n = l.length) (h : ∀ j u, (cellsB l)[j]? = some u → W.cell? ((⟨g, 0, none⟩ : Addr).add j) = some u) :
    (convert 93 9 (.slice (some ⟨g, 0, none⟩) n c)).run Try.prog W = .ok (.string ⟨l.toArray⟩) W := by
  rw [run_convert_bytes_string _ 93 9 5 _ _ _ Try.underlying93 Try.underlying5 Try.underlying9]
  have hl : (loadCells ⟨g, 0, none⟩ n).run Try.prog W = .ok ((l.map fun b => (b.toNat : Int)).map (Value.int .u8)).toArray W := by
    have := run_loadCells_list (P := Try.prog) W ⟨g, 0, none⟩ (cellsB l) h
    rw [cellsB_len, ← hn] at this
    rw [this]
    simp [cellsB]
  rw [run_bytesToString _ ⟨g, 0, none⟩ n c _ hl]
  congr 2
  clear hl h hn
  have key : ∀ (l : List UInt8) (acc : ByteArray), List.foldl (fun (r : ByteArray) (n : Int) => r.push (UInt8.ofNat n.toNat)) acc (l.map fun b => (b.toNat : Int)) = ⟨(acc.data.toList ++ l).toArray⟩ := by
    intro l
    induction l with
    | nil => intro acc; simp
    | cons b r ih =>
      intro acc
      rw [List.map_cons, List.foldl_cons, ih]
      congr 1
      simp [ByteArray.push]
  rw [key]
  simp

theorem infoByte : (Try.prog.info? 5).map (fun i => (i.zero, i.size, i.bytes)) = some (some (.int .u8 0), 1, 1) := by kernel_rfl
end Go.Proofs.Ytokabkhnidlcnab
