import Derived.Laws.CopyOwn
import Derived.Maps.AppendAt
import Derived.BigQuiet
import Derived.Test.YtfboipappaonhaaGreatU07
import Derived.Test.YtfboipappaonhaaGreatU08
import Derived.Test.YtfboipappaonhaaGreatU22
import Derived.Test.YtfboipappaonhaaGreatU39

/-
  Words: numbers and names (isWord).
-/
namespace Go.Proofs.YtfboipappaonhaaGreat
set_option maxRecDepth 100000
open Go.RowKit


end Go.Proofs.YtfboipappaonhaaGreat

/-
  Walks: the program's trees in order, its parts.
-/
namespace Go.Proofs.YtfboipappaonhaaGreat
set_option maxRecDepth 100000
set_option linter.unusedVariables false
open Go.RowKit

theorem kidCount_any (k : Int) (w : World) :
    Calls Tryz.prog 91 #[.int .i64 k] w fun e w' => e = .returned (.int .i64 (kids k : Int)) ∧ w' = w := by
  by_cases h4 : k = 4
  · subst h4
    go_enter Tryz.func91, Tryz.ntmps91
    go_wp2
    go_ret
    exact ⟨ret_int (by simp [kids]), rfl⟩
  by_cases h3 : k = 3
  · subst h3
    go_enter Tryz.func91, Tryz.ntmps91
    go_wp2
    go_ret
    exact ⟨ret_int (by simp [kids]), rfl⟩
  by_cases h5 : k = 5
  · subst h5
    go_enter Tryz.func91, Tryz.ntmps91
    go_wp2
    go_ret
    exact ⟨ret_int (by simp [kids]), rfl⟩
  by_cases h6 : k = 6
  · subst h6
    go_enter Tryz.func91, Tryz.ntmps91
    go_wp2
    go_ret
    exact ⟨ret_int (by simp [kids]), rfl⟩
  have e4 : (k == 4) = false := by simpa using h4
  have e3 : (k == 3) = false := by simpa using h3
  have e5 : (k == 5) = false := by simpa using h5
  have e6 : (k == 6) = false := by simpa using h6
  have HK := hide (show kids k = 0 by simp [kids, h4, h3, h5, h6])
  clear h4 h3 h5 h6
  go_enter Tryz.func91, Tryz.ntmps91
  go_wp2
  go_ret
  exact ⟨ret_int (by rw [unhide HK]; rfl), rfl⟩

theorem kidCount_is {k : Int} {n : Nat} (h : kids k = n) (z : Int) (hz : (n : Int) = z) (w : World) :
    Calls Tryz.prog 91 #[.int .i64 k] w fun e w' => e = .returned (.int .i64 z) ∧ w' = w := by
  subst hz
  subst h
  exact kidCount_any k w

set_option maxHeartbeats 1000000 in
theorem textFits_any (o : NodeR) (w : World) (hs : o.t.size ≤ maxLen) :
    Calls Tryz.prog 93 #[.agg #[.int .i64 o.k, .string o.t, .int .i64 o.a, .int .i64 o.b]] w fun e w' => RetB e (TxtOk o) ∧ Below w.heap.size w w' := by
  have HS := hide hs
  unfold maxLen at hs
  by_cases hbig : 20000 < o.t.size
  · have hbigI : (20000 : Int) < (o.t.size : Int) := by omega
    have HN := hide (TxtOk_big hbig)
    clear hbig
    go_enter Tryz.func93, Tryz.ntmps93
    go_wp2_with fail
    go_ret
    exact ⟨⟨_, rfl, says_false (unhide HN)⟩, below1 _ _⟩
  have hbigI : ¬ (20000 : Int) < (o.t.size : Int) := by omega
  have hsm : o.t.size ≤ 20000 := by omega
  clear hbig
  by_cases k1 : o.k = 1
  · have HT := hide ((TxtOk_1 hsm k1).trans (WordT_2 _).symm)
    rw [k1]
    clear k1
    go_enter Tryz.func93, Tryz.ntmps93
    go_wp2_with (go_at_call 139; refine (isWord_any 2 _ _ (unhide HS)).mono ?_; rintro e w' ⟨⟨v, rfl, hv⟩, hx⟩; obtain rfl := hx.symm)
    go_ret
    exact ⟨⟨_, rfl, hv.trans (unhide HT).symm⟩, below1 _ _⟩
  by_cases k2 : o.k = 2
  · have HT := hide ((TxtOk_2 hsm k2).trans (WordT_3 _).symm)
    rw [k2]
    clear k1 k2
    go_enter Tryz.func93, Tryz.ntmps93
    go_wp2_with (go_at_call 139; refine (isWord_any 3 _ _ (unhide HS)).mono ?_; rintro e w' ⟨⟨v, rfl, hv⟩, hx⟩; obtain rfl := hx.symm)
    go_ret
    exact ⟨⟨_, rfl, hv.trans (unhide HT).symm⟩, below1 _ _⟩
  by_cases k6 : o.k = 6
  · have HT := hide (TxtOk_6 k6)
    rw [k6]
    clear k1 k2 k6
    by_cases h0 : o.t.size = 0
    · rw [bytes_nil h0]
      go_enter Tryz.func93, Tryz.ntmps93
      go_wp2_with fail
      go_ret
      exact ⟨⟨_, rfl, says_true ((unhide HT).2 h0)⟩, below1 _ _⟩
    · have hne : o.t.toList.isEmpty = false := not_empty h0
      go_enter Tryz.func93, Tryz.ntmps93
      go_wp2_with fail
      go_ret
      exact ⟨⟨_, rfl, says_false (fun h => h0 ((unhide HT).1 h))⟩, below1 _ _⟩
  have e1 : (o.k == 1) = false := by simpa using k1
  have e2 : (o.k == 2) = false := by simpa using k2
  have e6 : (o.k == 6) = false := by simpa using k6
  by_cases k3 : o.k = 3
  · have HT := hide (TxtOk_3 hsm (Or.inl k3))
    rw [k3]
    clear k1 k2 k6 e1 e2 e6 k3
    go_enter Tryz.func93, Tryz.ntmps93
    go_wp2_with (go_at_call 140; refine (isOpText_any _ _ (unhide HS)).mono ?_; rintro e w' ⟨rfl, hx⟩; obtain rfl := hx.symm)
    go_ret
    exact ⟨⟨_, rfl, (unhide HT).symm⟩, below1 _ _⟩
  by_cases k4 : o.k = 4
  · have HT := hide (TxtOk_3 hsm (Or.inr (Or.inl k4)))
    rw [k4]
    clear k1 k2 k6 e1 e2 e6 k3 k4
    go_enter Tryz.func93, Tryz.ntmps93
    go_wp2_with (go_at_call 140; refine (isOpText_any _ _ (unhide HS)).mono ?_; rintro e w' ⟨rfl, hx⟩; obtain rfl := hx.symm)
    go_ret
    exact ⟨⟨_, rfl, (unhide HT).symm⟩, below1 _ _⟩
  by_cases k5 : o.k = 5
  · have HT := hide (TxtOk_3 hsm (Or.inr (Or.inr k5)))
    rw [k5]
    clear k1 k2 k6 e1 e2 e6 k3 k4 k5
    go_enter Tryz.func93, Tryz.ntmps93
    go_wp2_with (go_at_call 140; refine (isOpText_any _ _ (unhide HS)).mono ?_; rintro e w' ⟨rfl, hx⟩; obtain rfl := hx.symm)
    go_ret
    exact ⟨⟨_, rfl, (unhide HT).symm⟩, below1 _ _⟩
  have e3 : (o.k == 3) = false := by simpa using k3
  have e4 : (o.k == 4) = false := by simpa using k4
  have e5 : (o.k == 5) = false := by simpa using k5
  have HT := hide (TxtOk_0 (o := o) (by omega))
  clear k1 k2 k6 k3 k4 k5
  go_enter Tryz.func93, Tryz.ntmps93
  go_wp2_with fail
  go_ret
  exact ⟨⟨_, rfl, says_false (unhide HT)⟩, below1 _ _⟩

theorem sizeI : (Tryz.prog.info? 3).map (·.size) = some 1 := by kernel_rfl

set_option maxHeartbeats 1000000 in
theorem kidsFit0 (o : NodeR) (a : Option Addr) (cap : Nat) (w : World) :
    Calls Tryz.prog 92 #[.agg #[.int .i64 o.k, .string o.t, .int .i64 o.a, .int .i64 o.b], .slice a 0 cap] w fun e w' => RetB e (o.a = 0 ∧ o.b = 0) ∧ Below w.heap.size w w' := by
  have hcp : ∀ W : World, (Builtin.copy_ #[79, 79] 3 #[.slice (some ⟨w.heap.size + 1, 0, none⟩) 2 2, .slice a 0 cap]).run Tryz.prog W = .ok (goInt 0) W := fun W => run_copy_none W _ _ _ 3 _ _ _ _ _ _ Tryz.underlying79 sizeI (by simp)
  have HC := hide hcp
  clear hcp
  by_cases ha : o.a = 0
  · rw [ha]
    by_cases hb : o.b = 0
    · rw [hb]
      clear ha hb
      go_enter Tryz.func92, Tryz.ntmps92
      go_wp2
      rw [unhide HC]
      simp only [Result.andThen]
      rw [Oper.upon_value]
      go_wp2
      go_ret
      exact ⟨⟨_, rfl, says_true (by simp)⟩, (below1 _ _).alloc (by simp) _⟩
    · have hb' : (o.b == 0) = false := by simpa using hb
      clear ha
      go_enter Tryz.func92, Tryz.ntmps92
      go_wp2
      rw [unhide HC]
      simp only [Result.andThen]
      rw [Oper.upon_value]
      go_wp2
      go_ret
      exact ⟨⟨_, rfl, says_false (fun h => hb h.2)⟩, (below1 _ _).alloc (by simp) _⟩
  · have ha' : (o.a == 0) = false := by simpa using ha
    go_enter Tryz.func92, Tryz.ntmps92
    go_wp2
    rw [unhide HC]
    simp only [Result.andThen]
    rw [Oper.upon_value]
    go_wp2
    go_ret
    exact ⟨⟨_, rfl, says_false (fun h => ha h.1)⟩, (below1 _ _).alloc (by simp) _⟩

set_option maxHeartbeats 1000000 in
theorem kidsFit1 (o : NodeR) (g off cap : Nat) (t : Int) (w : World) (h0 : w.cell? ⟨g, off, none⟩ = some (.int .i64 t)) :
    Calls Tryz.prog 92 #[.agg #[.int .i64 o.k, .string o.t, .int .i64 o.a, .int .i64 o.b], .slice (some ⟨g, off, none⟩) 1 cap] w fun e w' => RetB e (o.a = t ∧ o.b = 0) ∧ Below w.heap.size w w' := by
  have HC := hide (show ∀ (x y : Int), (Builtin.copy_ #[79, 79] 3 #[.slice (some ⟨w.heap.size + 1, 0, none⟩) 2 2, .slice (some ⟨g, off, none⟩) 1 cap]).run Tryz.prog ((w.alloc (.cells #[.int .i64 o.k, .string o.t, .int .i64 x, .int .i64 y] 81)).alloc (.cells #[.int .i64 0, .int .i64 0] 209)) = .ok (goInt 1) (((w.alloc (.cells #[.int .i64 o.k, .string o.t, .int .i64 x, .int .i64 y] 81)).alloc (.cells #[.int .i64 0, .int .i64 0] 209)).setCells (w.heap.size + 1) 0 [.int .i64 t]) from fun x y => by
    have hlt : g < w.heap.size := block_lt_of_cell h0
    have bel : Below w.heap.size w ((w.alloc (.cells #[.int .i64 o.k, .string o.t, .int .i64 x, .int .i64 y] 81)).alloc (.cells #[.int .i64 0, .int .i64 0] 209)) := (below1 _ _).alloc (by simp) _
    exact run_copy_cells _ _ _ _ 3 _ _ _ _ _ _ _ [.int .i64 t] Tryz.underlying79 sizeI rfl (fun j v hj => by
      rw [Addr.add_mid]
      match j, hj with
      | 0, hj =>
        simp only [List.getElem?_cons_zero, Option.some.injEq] at hj
        rw [← hj]
        exact (bel.cell (p := ⟨g, off, none⟩) hlt).trans h0) (fun j hj => by simp at hj; subst hj; simp [go_sem]) (fun j hj => by simp [go_sem]) (fun v hv => by simp at hv; rw [hv]; rfl))
  clear h0
  by_cases ha : o.a = t
  · rw [ha]
    by_cases hb : o.b = 0
    · rw [hb]
      clear ha hb
      go_enter Tryz.func92, Tryz.ntmps92
      go_wp2
      rw [unhide HC]
      simp only [Result.andThen, World.setCells]
      rw [Oper.upon_value]
      go_wp2
      go_ret
      exact ⟨⟨_, rfl, says_true (by simp)⟩, (below1 _ _).alloc (by simp) _⟩
    · have hb' : (o.b == 0) = false := by simpa using hb
      clear ha
      go_enter Tryz.func92, Tryz.ntmps92
      go_wp2
      rw [unhide HC]
      simp only [Result.andThen, World.setCells]
      rw [Oper.upon_value]
      go_wp2
      go_ret
      exact ⟨⟨_, rfl, says_false (fun h => hb h.2)⟩, (below1 _ _).alloc (by simp) _⟩
  · have ha' : (o.a == t) = false := by simpa using ha
    go_enter Tryz.func92, Tryz.ntmps92
    go_wp2
    rw [unhide HC]
    simp only [Result.andThen, World.setCells]
    rw [Oper.upon_value]
    go_wp2
    go_ret
    exact ⟨⟨_, rfl, says_false (fun h => ha h.1)⟩, (below1 _ _).alloc (by simp) _⟩

set_option maxHeartbeats 1000000 in
theorem kidsFit2 (o : NodeR) (g off cap : Nat) (t t' : Int) (w : World) (h0 : w.cell? ⟨g, off, none⟩ = some (.int .i64 t)) (h1 : w.cell? ⟨g, off + 1, none⟩ = some (.int .i64 t')) :
    Calls Tryz.prog 92 #[.agg #[.int .i64 o.k, .string o.t, .int .i64 o.a, .int .i64 o.b], .slice (some ⟨g, off, none⟩) 2 cap] w fun e w' => RetB e (o.a = t ∧ o.b = t') ∧ Below w.heap.size w w' := by
  have HC := hide (show ∀ (x y : Int), (Builtin.copy_ #[79, 79] 3 #[.slice (some ⟨w.heap.size + 1, 0, none⟩) 2 2, .slice (some ⟨g, off, none⟩) 2 cap]).run Tryz.prog ((w.alloc (.cells #[.int .i64 o.k, .string o.t, .int .i64 x, .int .i64 y] 81)).alloc (.cells #[.int .i64 0, .int .i64 0] 209)) = .ok (goInt 2) (((w.alloc (.cells #[.int .i64 o.k, .string o.t, .int .i64 x, .int .i64 y] 81)).alloc (.cells #[.int .i64 0, .int .i64 0] 209)).setCells (w.heap.size + 1) 0 [.int .i64 t, .int .i64 t']) from fun x y => by
    have hlt : g < w.heap.size := block_lt_of_cell h0
    have bel : Below w.heap.size w ((w.alloc (.cells #[.int .i64 o.k, .string o.t, .int .i64 x, .int .i64 y] 81)).alloc (.cells #[.int .i64 0, .int .i64 0] 209)) := (below1 _ _).alloc (by simp) _
    exact run_copy_cells _ _ _ _ 3 _ _ _ _ _ _ _ [.int .i64 t, .int .i64 t'] Tryz.underlying79 sizeI rfl (fun j v hj => by
      rw [Addr.add_mid]
      match j, hj with
      | 0, hj =>
        simp only [List.getElem?_cons_zero, Option.some.injEq] at hj
        rw [← hj]
        exact (bel.cell (p := ⟨g, off, none⟩) hlt).trans h0
      | 1, hj =>
        simp only [List.getElem?_cons_succ, List.getElem?_cons_zero, Option.some.injEq] at hj
        rw [← hj]
        exact (bel.cell (p := ⟨g, off + 1, none⟩) hlt).trans h1) (fun j hj => by simp at hj; rcases (by omega : j = 0 ∨ j = 1) with rfl | rfl <;> simp [go_sem]) (fun j hj => by simp [go_sem]) (fun v hv => by simp at hv; rcases hv with rfl | rfl <;> rfl))
  clear h0 h1
  by_cases ha : o.a = t
  · rw [ha]
    by_cases hb : o.b = t'
    · rw [hb]
      clear ha hb
      go_enter Tryz.func92, Tryz.ntmps92
      go_wp2
      rw [unhide HC]
      simp only [Result.andThen, World.setCells]
      rw [Oper.upon_value]
      go_wp2
      go_ret
      exact ⟨⟨_, rfl, says_true (by simp)⟩, (below1 _ _).alloc (by simp) _⟩
    · have hb' : (o.b == t') = false := by simpa using hb
      clear ha
      go_enter Tryz.func92, Tryz.ntmps92
      go_wp2
      rw [unhide HC]
      simp only [Result.andThen, World.setCells]
      rw [Oper.upon_value]
      go_wp2
      go_ret
      exact ⟨⟨_, rfl, says_false (fun h => hb h.2)⟩, (below1 _ _).alloc (by simp) _⟩
  · have ha' : (o.a == t) = false := by simpa using ha
    go_enter Tryz.func92, Tryz.ntmps92
    go_wp2
    rw [unhide HC]
    simp only [Result.andThen, World.setCells]
    rw [Oper.upon_value]
    go_wp2
    go_ret
    exact ⟨⟨_, rfl, says_false (fun h => ha h.1)⟩, (below1 _ _).alloc (by simp) _⟩

end Go.Proofs.YtfboipappaonhaaGreat

/-
  Walk: the program's trees in order.
-/
namespace Go.Proofs.YtfboipappaonhaaGreat
set_option maxRecDepth 100000
set_option linter.unusedVariables false
set_option linter.unusedSimpArgs false
open Go.RowKit

/-- The places of the nodes that are no one's kid yet, the last one last. -/
def looseOf (st : List Nat) : List Int := st.reverse.map fun (n : Nat) => (n : Int)

theorem looseOf_len (st : List Nat) : (looseOf st).length = st.length := by simp [looseOf]

theorem stepS_short {o : NodeR} {k : Nat} {st : List Nat} (h : st.length < kids o.k) : stepS o k st = none := by
  unfold stepS
  rcases kids_cases o.k with hk | hk | hk
  · omega
  · rw [if_neg (by omega), if_pos hk]
    match st, h with
    | [], _ => rfl
    | _ :: _, h => simp [hk] at h
  · rw [if_neg (by omega), if_neg (by omega)]
    match st, h with
    | [], _ => rfl
    | [_], _ => rfl
    | _ :: _ :: _, h => simp [hk] at h; omega

theorem stepS_eq {o : NodeR} {k m : Nat} {st : List Nat} (h : m + kids o.k = st.length) :
    stepS o k st = if o.a = ((looseOf st).drop m).getD 0 0 ∧ o.b = ((looseOf st).drop m).getD 1 0 then some (k :: st.drop (kids o.k)) else none := by
  unfold stepS
  rcases kids_cases o.k with hk | hk | hk
  · rw [if_pos hk, hk]
    have : (looseOf st).drop m = [] := by apply List.drop_eq_nil_of_le; rw [looseOf_len]; omega
    rw [this]
    simp
  · rw [if_neg (by omega), if_pos hk, hk]
    match st, h with
    | [], h => simp [hk] at h
    | t :: r, h =>
      have hm : m = (looseOf r).length := by rw [looseOf_len]; simp [hk] at h; omega
      have : (looseOf (t :: r)).drop m = [(t : Int)] := by
        rw [hm]
        have e : looseOf (t :: r) = looseOf r ++ [(t : Int)] := by simp [looseOf]
        rw [e]
        simp
      rw [this]
      simp
  · rw [if_neg (by omega), if_neg (by omega), hk]
    match st, h with
    | [], h => simp [hk] at h
    | [_], h => simp [hk] at h
    | t2 :: t1 :: r, h =>
      have hm : m = (looseOf r).length := by rw [looseOf_len]; simp [hk] at h; omega
      have : (looseOf (t2 :: t1 :: r)).drop m = [(t1 : Int), (t2 : Int)] := by
        rw [hm]
        have e : looseOf (t2 :: t1 :: r) = looseOf r ++ [(t1 : Int), (t2 : Int)] := by simp [looseOf]
        rw [e]
        simp
      rw [this]
      simp

theorem looseOf_next {k m c : Nat} {st : List Nat} (h : m + c = st.length) : looseOf (k :: st.drop c) = (looseOf st).take m ++ [(k : Int)] := by
  unfold looseOf
  rw [List.reverse_cons, List.map_append, List.map_cons, List.map_nil, ← List.map_take, List.reverse_drop]
  congr 3
  omega

theorem kidsFit_gen (o : NodeR) (a : Option Addr) (cap : Nat) (vals : List Int) (w : World) (n : Nat) (hn : n = vals.length) (h2 : vals.length ≤ 2)
    (hc : vals.length = 0 ∨ ∃ g off, a = some ⟨g, off, none⟩ ∧ ∀ j, j < vals.length → w.cell? ⟨g, off + j, none⟩ = some (.int .i64 (vals.getD j 0))) :
    Calls Tryz.prog 92 #[.agg #[.int .i64 o.k, .string o.t, .int .i64 o.a, .int .i64 o.b], .slice a n cap] w fun e w' => RetB e (o.a = vals.getD 0 0 ∧ o.b = vals.getD 1 0) ∧ Below w.heap.size w w' := by
  subst hn
  match vals, h2, hc with
  | [], _, _ => exact kidsFit0 o a cap w
  | [t], _, hc =>
    rcases hc with hc | ⟨g, off, ha, hc'⟩
    · simp at hc
    · subst ha
      exact kidsFit1 o g off cap t w (hc' 0 (by simp))
  | [t, t'], _, hc =>
    rcases hc with hc | ⟨g, off, ha, hc'⟩
    · simp at hc
    · subst ha
      exact kidsFit2 o g off cap t t' w (hc' 0 (by simp)) (hc' 1 (by simp))

/-- A row, shortened. -/
theorem owns_take {w : World} {B e g c n m : Nat} {zs : List Int} (h : w.ownsRow B e 1 (.slice (some ⟨g, 0, none⟩) n c) n (cellsI zs)) (hm : m ≤ n) : w.ownsRow B e 1 (.slice (some ⟨g, 0, none⟩) m c) m (cellsI (zs.take m)) := by
  obtain ⟨hl, h | ⟨g', cap', cur, hv, hB, hheap, hn, hc, hcs, htk⟩⟩ := h
  · simp at h
  · simp only [Value.slice.injEq, Option.some.injEq, Addr.mk.injEq] at hv
    obtain ⟨⟨rfl, _⟩, _, rfl⟩ := hv
    rw [cellsI_len] at hl
    refine ⟨by rw [cellsI_len]; simp; omega, Or.inr ⟨g, c, cur, rfl, hB, hheap, by omega, hc, hcs, ?_⟩⟩
    have : cellsI (zs.take m) = (cellsI zs).take m := by simp [cellsI, List.map_take]
    rw [this, ← htk, List.take_take]
    congr 1
    omega

theorem infoInt0 : (Tryz.prog.info? 3).map (fun i => (i.zero, i.size, i.bytes)) = some (some (.int .i64 0), 1, 8) := by kernel_rfl

theorem new_newsI0 (w : World) (v : Int) : ∀ j u, (cellsI [v])[j]? = some u → (w.alloc (.cells #[.int .i64 v] 3)).cell? ((⟨w.heap.size, 0, none⟩ : Addr).add j) = some u := by
  intro j u hj
  rw [Addr.add_mid]
  have := World.rangeAt_of_block (w := w.alloc (.cells #[.int .i64 v] 3)) (b := w.heap.size) (heap_alloc_new w _) 0 1
  exact this j u (by simpa [cellsI] using hj)

theorem owns_form {w : World} {B e size n : Nat} {v : Value} {xs : List Value} (h : w.ownsRow B e size v n xs) : (v = .slice none 0 0 ∧ n = 0) ∨ ∃ g c, v = .slice (some ⟨g, 0, none⟩) n c ∧ B ≤ g ∧ g < w.heap.size ∧ n ≤ c := by
  have h' := h
  obtain ⟨_, hv | ⟨g, c, cur, hv, hB, hh, hn, _⟩⟩ := h
  · exact Or.inl hv
  · refine Or.inr ⟨g, c, hv, hB, ?_, hn⟩
    subst hv
    exact (h'.lt g rfl).2

theorem below_same {B : Nat} {a w w' : World} (h : Below B a w) (h1 : w'.os = w.os) (h2 : w'.tape = w.tape) (h3 : w'.output = w.output) (h4 : w'.heap = w.heap) : Below B a w' :=
  ⟨h1.trans h.os, h2.trans h.tape, h3.trans h.output, by rw [h4]; exact h.size, fun i hi => by rw [h4]; exact h.block i hi⟩

/-- What a round of inOrder finds. -/
def FitsAt (xs : List NodeR) (k m : Nat) (st : List Nat) : Prop := (atN xs k).a = ((looseOf st).drop m).getD 0 0 ∧ (atN xs k).b = ((looseOf st).drop m).getD 1 0

theorem not_ord_step {xs : List NodeR} {k : Nat} {st : List Nat} (hs : stk xs k = some st) (hk : k < xs.length) (h : stepS (atN xs k) k st = none) : ¬ InOrd xs := fun ho => by
  obtain ⟨st', hst⟩ := ho.stkS (k := k + 1) (by omega)
  rw [stk_succ hs, h] at hst
  cases hst

set_option maxHeartbeats 3000000 in
theorem inOrder_any (b off cap : Nat) (xs : List NodeR) (w : World) (hm : xs.length ≤ 1048576) (hw : OpsN w b off xs) (hs : SizedN xs) (hB : b < w.heap.size) :
    Calls Tryz.prog 46 #[.agg #[.slice (some ⟨b, off, none⟩) xs.length cap]] w fun e w' => RetB e (InOrd xs) ∧ Below w.heap.size w w' := by
  have HW := hide hw
  have HS := hide hs
  clear hw hs
  by_cases h2 : 20000 < xs.length
  · have h2I : (20000 : Int) < (xs.length : Int) := by omega
    have HN := hide (show ¬ InOrd xs from fun h => by have := h.2.1; omega)
    go_enter Tryz.func46, Tryz.ntmps46
    go_wp2_with fail
    go_ret
    exact ⟨⟨_, rfl, says_false (unhide HN)⟩, below1 _ _⟩
  have h2I : ¬ (20000 : Int) < (xs.length : Int) := by omega
  obtain ⟨i0, hi0, hz0, hz1, hz2⟩ : ∃ i, Tryz.prog.info? 3 = some i ∧ i.zero = some (.int .i64 0) ∧ i.size = 1 ∧ i.bytes = 8 := by
    obtain ⟨i, hi, hz⟩ := Option.map_eq_some_iff.1 infoInt0
    simp only [Prod.mk.injEq] at hz
    exact ⟨i, hi, hz.1, hz.2.1, hz.2.2⟩
  have HI := hide hi0
  have HZ := hide (And.intro hz0 (And.intro hz1 hz2))
  clear hi0 hz0 hz1 hz2
  go_enter Tryz.func46, Tryz.ntmps46
  go_wp2_with fail
  go_loopw [3, 14] (fun lv iv wr => ∃ (k : Nat) (st : List Nat) (v : Value), k ≤ xs.length ∧ iv = .int .i64 (k : Int) ∧ lv = v ∧ Hid (stk xs k = some st) ∧ Hid (wr.ownsRow w.heap.size 3 1 v st.length (cellsI (looseOf st))) ∧ Hid (st.length ≤ k) ∧ Hid (k = 0 → v = .slice none 0 0 ∧ st = []) ∧ Hid (0 < k → 0 < st.length) ∧ Hid (∀ j, j < k → TxtOk (atN xs j)) ∧ Below w.heap.size w wr) (fun _ iv _ => xs.length - (intOf iv).toNat)
  case atStart => exact ⟨0, [], _, Nat.zero_le _, rfl, rfl, hide rfl, hide (World.ownsRow_nil _ _ _ _), hide (Nat.zero_le _), hide (fun _ => ⟨rfl, rfl⟩), hide (fun h => absurd h (Nat.lt_irrefl _)), hide (fun j hj => absurd hj (Nat.not_lt_zero j)), below1 _ _⟩
  case round =>
    obtain ⟨k, st, v, hk, rfl, rfl, hst, hown, hsl, hk0, hkp, hok, hbel⟩ := hrel
    by_cases hlt : k < xs.length
    · obtain ⟨c0, c1, c2, c3⟩ := ((unhide HW) k hlt).below hbel hB
      have hltI : (k : Int) < (xs.length : Int) := by omega
      have hslk : st.length ≤ 20000 := by have := unhide hsl; omega
      obtain ⟨c, HC⟩ : ∃ c : Nat, Hid (kids (atN xs k).k = c) := ⟨_, hide rfl⟩
      have hcl : c ≤ 2 := by have := unhide HC; have := kids_cases (atN xs k).k; omega
      have hHT := hide ((unhide HS) k hlt)
      rcases owns_form (unhide hown) with ⟨hv, hn0⟩ | ⟨g, cp, hv, hg1, hg2, hg3⟩
      · subst hv
        obtain rfl : st = [] := List.eq_nil_of_length_eq_zero hn0
        clear hn0 hslk hkp hk0 hown hsl
        rcases (by omega : c = 1 ∨ c = 2 ∨ c = 0) with hc | hc | hc
        · subst hc
          have HNO := hide (not_ord_step (unhide hst) hlt (stepS_short (by rw [unhide HC]; decide)))
          go_wp2_with (go_at_call 91; refine (kidCount_is (unhide HC) _ rfl _).mono ?_; rintro e w' ⟨rfl, hx⟩; obtain rfl := hx.symm)
          go_quiet (fail)
          go_wp2
          go_ret
          exact ⟨⟨_, rfl, says_false (unhide HNO)⟩, below_same (hbel.alloc hbel.size _) rfl rfl rfl rfl⟩
        · subst hc
          have HNO := hide (not_ord_step (unhide hst) hlt (stepS_short (by rw [unhide HC]; decide)))
          go_wp2_with (go_at_call 91; refine (kidCount_is (unhide HC) _ rfl _).mono ?_; rintro e w' ⟨rfl, hx⟩; obtain rfl := hx.symm)
          go_quiet (fail)
          go_wp2
          go_ret
          exact ⟨⟨_, rfl, says_false (unhide HNO)⟩, below_same (hbel.alloc hbel.size _) rfl rfl rfl rfl⟩
        · subst hc
          have HZW := hide (show wr.heap.size < (wr.alloc (.cells #[.int .i64 (atN xs k).k, .string (atN xs k).t, .int .i64 (atN xs k).a, .int .i64 (atN xs k).b] 81)).drew.heap.size from (show wr.heap.size < (wr.alloc (.cells #[.int .i64 (atN xs k).k, .string (atN xs k).t, .int .i64 (atN xs k).a, .int .i64 (atN xs k).b] 81)).heap.size by simp))
          have HNW := hide (show (wr.alloc (.cells #[.int .i64 (atN xs k).k, .string (atN xs k).t, .int .i64 (atN xs k).a, .int .i64 (atN xs k).b] 81)).drew.cell? ⟨wr.heap.size, 0, none⟩ = some (.int .i64 (atN xs k).k) ∧ (wr.alloc (.cells #[.int .i64 (atN xs k).k, .string (atN xs k).t, .int .i64 (atN xs k).a, .int .i64 (atN xs k).b] 81)).drew.cell? ⟨wr.heap.size, 1, none⟩ = some (.string (atN xs k).t) ∧ (wr.alloc (.cells #[.int .i64 (atN xs k).k, .string (atN xs k).t, .int .i64 (atN xs k).a, .int .i64 (atN xs k).b] 81)).drew.cell? ⟨wr.heap.size, 2, none⟩ = some (.int .i64 (atN xs k).a) ∧ (wr.alloc (.cells #[.int .i64 (atN xs k).k, .string (atN xs k).t, .int .i64 (atN xs k).a, .int .i64 (atN xs k).b] 81)).drew.cell? ⟨wr.heap.size, 3, none⟩ = some (.int .i64 (atN xs k).b) from
            (show (wr.alloc (.cells #[.int .i64 (atN xs k).k, .string (atN xs k).t, .int .i64 (atN xs k).a, .int .i64 (atN xs k).b] 81)).cell? ⟨wr.heap.size, 0, none⟩ = some (.int .i64 (atN xs k).k) ∧ (wr.alloc (.cells #[.int .i64 (atN xs k).k, .string (atN xs k).t, .int .i64 (atN xs k).a, .int .i64 (atN xs k).b] 81)).cell? ⟨wr.heap.size, 1, none⟩ = some (.string (atN xs k).t) ∧ (wr.alloc (.cells #[.int .i64 (atN xs k).k, .string (atN xs k).t, .int .i64 (atN xs k).a, .int .i64 (atN xs k).b] 81)).cell? ⟨wr.heap.size, 2, none⟩ = some (.int .i64 (atN xs k).a) ∧ (wr.alloc (.cells #[.int .i64 (atN xs k).k, .string (atN xs k).t, .int .i64 (atN xs k).a, .int .i64 (atN xs k).b] 81)).cell? ⟨wr.heap.size, 3, none⟩ = some (.int .i64 (atN xs k).b) from ⟨by simp [go_sem], by simp [go_sem], by simp [go_sem], by simp [go_sem]⟩))
          have HSE := hide (show ((atN xs k).a = 0 ∧ (atN xs k).b = 0 → stepS (atN xs k) k [] = some [k]) ∧ (¬ ((atN xs k).a = 0 ∧ (atN xs k).b = 0) → stepS (atN xs k) k [] = none) by
            unfold stepS
            rw [if_pos (unhide HC)]
            exact ⟨fun h => if_pos h, fun h => if_neg h⟩)
          by_cases hfit : (atN xs k).a = 0 ∧ (atN xs k).b = 0
          case neg =>
            have HNO := hide (not_ord_step (unhide hst) hlt ((unhide HSE).2 hfit))
            have HFF := hide hfit
            clear hfit
            go_wp2_with (go_at_call 91; refine (kidCount_is (unhide HC) _ rfl _).mono ?_; rintro e w' ⟨rfl, hx⟩; obtain rfl := hx.symm)
            go_region_with (first | (go_at_call 92; have HB := (below1 wr (.cells #[.int .i64 (atN xs k).k, .string (atN xs k).t, .int .i64 (atN xs k).a, .int .i64 (atN xs k).b] 81)).drew; have HX := kidsFit0 (atN xs k) none 0 ((wr.alloc (.cells #[.int .i64 (atN xs k).k, .string (atN xs k).t, .int .i64 (atN xs k).a, .int .i64 (atN xs k).b] 81)).drew); refine HX.mono ?_; clear HX; rintro e w2 ⟨⟨v2, rfl, hv2⟩, hb2⟩; obtain rfl : v2 = false := Bool.eq_false_iff.2 (fun h => (unhide HFF) (hv2.1 h)); have z2 : wr.heap.size < w2.heap.size := Nat.lt_of_lt_of_le (unhide HZW) hb2.size; have q20 : w2.cell? ⟨wr.heap.size, 0, none⟩ = some (.int .i64 (atN xs k).k) := (hb2.cell (p := ⟨wr.heap.size, 0, none⟩) (unhide HZW)).trans (unhide HNW).1; have q21 : w2.cell? ⟨wr.heap.size, 1, none⟩ = some (.string (atN xs k).t) := (hb2.cell (p := ⟨wr.heap.size, 1, none⟩) (unhide HZW)).trans (unhide HNW).2.1; have q22 : w2.cell? ⟨wr.heap.size, 2, none⟩ = some (.int .i64 (atN xs k).a) := (hb2.cell (p := ⟨wr.heap.size, 2, none⟩) (unhide HZW)).trans (unhide HNW).2.2.1; have q23 : w2.cell? ⟨wr.heap.size, 3, none⟩ = some (.int .i64 (atN xs k).b) := (hb2.cell (p := ⟨wr.heap.size, 3, none⟩) (unhide HZW)).trans (unhide HNW).2.2.2; have B2 := hide (hbel.trans ((HB.trans (hb2.mono (Nat.le_of_lt (unhide HZW)))).mono hbel.size)); clear hb2 hv2 HB))
            go_wp2
            go_ret
            exact ⟨⟨_, rfl, says_false (unhide HNO)⟩, unhide B2⟩
          have HFT := hide hfit
          clear hfit
          by_cases htx : TxtOk (atN xs k)
          case neg =>
            have HNO := hide (show ¬ InOrd xs from fun h => htx (h.2.2.2 k hlt))
            have HXF := hide htx
            clear htx
            go_wp2_with (go_at_call 91; refine (kidCount_is (unhide HC) _ rfl _).mono ?_; rintro e w' ⟨rfl, hx⟩; obtain rfl := hx.symm)
            go_region_with (first | (go_at_call 92; have HB := (below1 wr (.cells #[.int .i64 (atN xs k).k, .string (atN xs k).t, .int .i64 (atN xs k).a, .int .i64 (atN xs k).b] 81)).drew; have HX := kidsFit0 (atN xs k) none 0 ((wr.alloc (.cells #[.int .i64 (atN xs k).k, .string (atN xs k).t, .int .i64 (atN xs k).a, .int .i64 (atN xs k).b] 81)).drew); refine HX.mono ?_; clear HX; rintro e w2 ⟨⟨v2, rfl, hv2⟩, hb2⟩; obtain rfl : v2 = true := hv2.2 (unhide HFT); have z2 : wr.heap.size < w2.heap.size := Nat.lt_of_lt_of_le (unhide HZW) hb2.size; have q20 : w2.cell? ⟨wr.heap.size, 0, none⟩ = some (.int .i64 (atN xs k).k) := (hb2.cell (p := ⟨wr.heap.size, 0, none⟩) (unhide HZW)).trans (unhide HNW).1; have q21 : w2.cell? ⟨wr.heap.size, 1, none⟩ = some (.string (atN xs k).t) := (hb2.cell (p := ⟨wr.heap.size, 1, none⟩) (unhide HZW)).trans (unhide HNW).2.1; have q22 : w2.cell? ⟨wr.heap.size, 2, none⟩ = some (.int .i64 (atN xs k).a) := (hb2.cell (p := ⟨wr.heap.size, 2, none⟩) (unhide HZW)).trans (unhide HNW).2.2.1; have q23 : w2.cell? ⟨wr.heap.size, 3, none⟩ = some (.int .i64 (atN xs k).b) := (hb2.cell (p := ⟨wr.heap.size, 3, none⟩) (unhide HZW)).trans (unhide HNW).2.2.2; have B2 := hide (hbel.trans ((HB.trans (hb2.mono (Nat.le_of_lt (unhide HZW)))).mono hbel.size)); clear hb2 hv2 HB) | (go_at_call 93; refine (textFits_any (atN xs k) _ (unhide hHT)).mono ?_; rintro e w3 ⟨⟨v3, rfl, hv3⟩, hb3⟩; obtain rfl : v3 = false := Bool.eq_false_iff.2 (fun h => (unhide HXF) (hv3.1 h)); have q30 : w3.cell? ⟨wr.heap.size, 0, none⟩ = some (.int .i64 (atN xs k).k) := (hb3.cell (p := ⟨wr.heap.size, 0, none⟩) z2).trans q20; have q31 : w3.cell? ⟨wr.heap.size, 1, none⟩ = some (.string (atN xs k).t) := (hb3.cell (p := ⟨wr.heap.size, 1, none⟩) z2).trans q21; have q32 : w3.cell? ⟨wr.heap.size, 2, none⟩ = some (.int .i64 (atN xs k).a) := (hb3.cell (p := ⟨wr.heap.size, 2, none⟩) z2).trans q22; have q33 : w3.cell? ⟨wr.heap.size, 3, none⟩ = some (.int .i64 (atN xs k).b) := (hb3.cell (p := ⟨wr.heap.size, 3, none⟩) z2).trans q23; have B3 := hide ((unhide B2).trans (hb3.mono (unhide B2).size)); clear hb3 hv3))
            go_wp2
            go_ret
            exact ⟨⟨_, rfl, says_false (unhide HNO)⟩, unhide B3⟩
          have HXT := hide htx
          clear htx
          go_wp2_with (go_at_call 91; refine (kidCount_is (unhide HC) _ rfl _).mono ?_; rintro e w' ⟨rfl, hx⟩; obtain rfl := hx.symm)
          go_region_with (first | (go_at_call 92; have HB := (below1 wr (.cells #[.int .i64 (atN xs k).k, .string (atN xs k).t, .int .i64 (atN xs k).a, .int .i64 (atN xs k).b] 81)).drew; have HX := kidsFit0 (atN xs k) none 0 ((wr.alloc (.cells #[.int .i64 (atN xs k).k, .string (atN xs k).t, .int .i64 (atN xs k).a, .int .i64 (atN xs k).b] 81)).drew); refine HX.mono ?_; clear HX; rintro e w2 ⟨⟨v2, rfl, hv2⟩, hb2⟩; obtain rfl : v2 = true := hv2.2 (unhide HFT); have z2 : wr.heap.size < w2.heap.size := Nat.lt_of_lt_of_le (unhide HZW) hb2.size; have q20 : w2.cell? ⟨wr.heap.size, 0, none⟩ = some (.int .i64 (atN xs k).k) := (hb2.cell (p := ⟨wr.heap.size, 0, none⟩) (unhide HZW)).trans (unhide HNW).1; have q21 : w2.cell? ⟨wr.heap.size, 1, none⟩ = some (.string (atN xs k).t) := (hb2.cell (p := ⟨wr.heap.size, 1, none⟩) (unhide HZW)).trans (unhide HNW).2.1; have q22 : w2.cell? ⟨wr.heap.size, 2, none⟩ = some (.int .i64 (atN xs k).a) := (hb2.cell (p := ⟨wr.heap.size, 2, none⟩) (unhide HZW)).trans (unhide HNW).2.2.1; have q23 : w2.cell? ⟨wr.heap.size, 3, none⟩ = some (.int .i64 (atN xs k).b) := (hb2.cell (p := ⟨wr.heap.size, 3, none⟩) (unhide HZW)).trans (unhide HNW).2.2.2; have B2 := hide (hbel.trans ((HB.trans (hb2.mono (Nat.le_of_lt (unhide HZW)))).mono hbel.size)); clear hb2 hv2 HB) | (go_at_call 93; refine (textFits_any (atN xs k) _ (unhide hHT)).mono ?_; rintro e w3 ⟨⟨v3, rfl, hv3⟩, hb3⟩; obtain rfl : v3 = true := hv3.2 (unhide HXT); have q30 : w3.cell? ⟨wr.heap.size, 0, none⟩ = some (.int .i64 (atN xs k).k) := (hb3.cell (p := ⟨wr.heap.size, 0, none⟩) z2).trans q20; have q31 : w3.cell? ⟨wr.heap.size, 1, none⟩ = some (.string (atN xs k).t) := (hb3.cell (p := ⟨wr.heap.size, 1, none⟩) z2).trans q21; have q32 : w3.cell? ⟨wr.heap.size, 2, none⟩ = some (.int .i64 (atN xs k).a) := (hb3.cell (p := ⟨wr.heap.size, 2, none⟩) z2).trans q22; have q33 : w3.cell? ⟨wr.heap.size, 3, none⟩ = some (.int .i64 (atN xs k).b) := (hb3.cell (p := ⟨wr.heap.size, 3, none⟩) z2).trans q23; have B3 := hide ((unhide B2).trans (hb3.mono (unhide B2).size)); clear hb3 hv3))
          have hw3 : w.heap.size ≤ w3.heap.size := (unhide B3).size
          clear q20 q21 q22 q23 q30 q31 q32 q33 B2
          go_wp2_with (at_builtin; refine wpList_append_own_at _ rfl (.tmp 42) (.tmp 44) 79 rfl w.heap.size 3 i0 _ 1 8 Tryz.underlying79 (unhide HI) (unhide HZ).1 (unhide HZ).2.1 (unhide HZ).2.2 rfl (by decide) _ 0 [] rfl (World.ownsRow_nil _ _ _ _) ⟨w3.heap.size, 0, none⟩ 1 1 (cellsI [(k : Int)]) rfl rfl (new_newsI0 w3 (k : Int)) (cellsI_one _) ?b1 ?b2 ?b3 ?next)
          case b1 => unfold maxLen; omega
          case b2 => omega
          case b3 => simp; omega
          case next =>
            intro v4 w4 hown4 hgrow4 hnil4 hat4
            have HB4 := hide (((unhide B3).alloc (unhide B3).size _).grown hgrow4 (by simp; omega) (fun q hq => by simp [Value.ownBlock] at hq))
            have HO4 := hide (show w4.ownsRow w.heap.size 3 1 v4 [k].length (cellsI (looseOf [k])) from hown4)
            have HS4 := hide (show stk xs (k + 1) = some [k] by rw [stk_succ (unhide hst), (unhide HSE).1 (unhide HFT)])
            clear hown4 hgrow4 hnil4 hat4 B3
            go_wp2_with fail
            refine ⟨⟨k + 1, [k], v4, by omega, by go_num, rfl, HS4, HO4, hide (by simp), hide (fun h => by omega), hide (fun _ => by simp), hide (fun j hj => ?_), unhide HB4⟩, by simp [intOf]; omega⟩
            by_cases e : j = k
            · subst e; exact unhide HXT
            · exact (unhide hok) j (by omega)
      · subst hv
        obtain ⟨n, hn⟩ : ∃ n, n = st.length := ⟨_, rfl⟩
        rw [← hn] at hslk hg3
        have HN := hide hn
        rw [← hn]
        have HO := hide (show wr.ownsRow w.heap.size 3 1 (.slice (some ⟨g, 0, none⟩) n cp) n (cellsI (looseOf st)) by rw [hn]; exact unhide hown)
        clear hn hown
        by_cases hsh : n < c
        · have HNO := hide (not_ord_step (unhide hst) hlt (stepS_short (by rw [unhide HC, ← unhide HN]; exact hsh)))
          have hneg : (n : Int) - (c : Int) < 0 := by omega
          go_wp2_with (go_at_call 91; refine (kidCount_is (unhide HC) _ rfl _).mono ?_; rintro e w' ⟨rfl, hx⟩; obtain rfl := hx.symm)
          go_quiet (fail)
          go_wp2
          go_ret
          exact ⟨⟨_, rfl, says_false (unhide HNO)⟩, below_same (hbel.alloc hbel.size _) rfl rfl rfl rfl⟩
        · obtain ⟨m, hm0⟩ : ∃ m, n = m + c := ⟨n - c, by omega⟩
          have hmI : (n : Int) - (c : Int) = (m : Int) := by omega
          have hmn : (m : Int) ≤ (n : Int) := by omega
          have hnm : n - m = c := by omega
          have hm0' := hide hm0
          have hmcp : (m : Int) ≤ (cp : Int) := by omega
          have hmd : decide ((m : Int) < 0) = false := by simp
          have hmk : m ≤ k := by have := unhide hsl; have := unhide HN; omega
          have HKF := hide (show ∀ (W : World) (a : Option Addr) (cp' : Nat), Below wr.heap.size wr W → (c = 0 ∨ a = some ⟨g, m, none⟩) → Calls Tryz.prog 92 #[.agg #[.int .i64 (atN xs k).k, .string (atN xs k).t, .int .i64 (atN xs k).a, .int .i64 (atN xs k).b], .slice a c cp'] W fun e w' => RetB e (FitsAt xs k m st) ∧ Below W.heap.size W w' from fun W a cp' hW ha => by
            have hl : ((looseOf st).drop m).length = c := by rw [List.length_drop, looseOf_len, ← unhide HN]; omega
            refine kidsFit_gen (atN xs k) _ cp' ((looseOf st).drop m) W c hl.symm (by omega) ?_
            rcases ha with ha | ha
            · exact Or.inl (by omega)
            · refine Or.inr ⟨g, m, ha, fun j hj => ?_⟩
              rw [hW.cell (p := ⟨g, m + j, none⟩) hg2]
              have hj' : m + j < n := by omega
              have e1 := (unhide HO).cellAt (m + j) (by omega)
              have e2 := cellsI_at (looseOf st) (m + j) (by rw [looseOf_len, ← unhide HN]; exact hj')
              rw [e1, e2]
              simp [atI, List.getElem?_drop])
          have HZW := hide (show wr.heap.size < (wr.alloc (.cells #[.int .i64 (atN xs k).k, .string (atN xs k).t, .int .i64 (atN xs k).a, .int .i64 (atN xs k).b] 81)).drew.heap.size from (show wr.heap.size < (wr.alloc (.cells #[.int .i64 (atN xs k).k, .string (atN xs k).t, .int .i64 (atN xs k).a, .int .i64 (atN xs k).b] 81)).heap.size by simp))
          have HNW := hide (show (wr.alloc (.cells #[.int .i64 (atN xs k).k, .string (atN xs k).t, .int .i64 (atN xs k).a, .int .i64 (atN xs k).b] 81)).drew.cell? ⟨wr.heap.size, 0, none⟩ = some (.int .i64 (atN xs k).k) ∧ (wr.alloc (.cells #[.int .i64 (atN xs k).k, .string (atN xs k).t, .int .i64 (atN xs k).a, .int .i64 (atN xs k).b] 81)).drew.cell? ⟨wr.heap.size, 1, none⟩ = some (.string (atN xs k).t) ∧ (wr.alloc (.cells #[.int .i64 (atN xs k).k, .string (atN xs k).t, .int .i64 (atN xs k).a, .int .i64 (atN xs k).b] 81)).drew.cell? ⟨wr.heap.size, 2, none⟩ = some (.int .i64 (atN xs k).a) ∧ (wr.alloc (.cells #[.int .i64 (atN xs k).k, .string (atN xs k).t, .int .i64 (atN xs k).a, .int .i64 (atN xs k).b] 81)).drew.cell? ⟨wr.heap.size, 3, none⟩ = some (.int .i64 (atN xs k).b) from
            (show (wr.alloc (.cells #[.int .i64 (atN xs k).k, .string (atN xs k).t, .int .i64 (atN xs k).a, .int .i64 (atN xs k).b] 81)).cell? ⟨wr.heap.size, 0, none⟩ = some (.int .i64 (atN xs k).k) ∧ (wr.alloc (.cells #[.int .i64 (atN xs k).k, .string (atN xs k).t, .int .i64 (atN xs k).a, .int .i64 (atN xs k).b] 81)).cell? ⟨wr.heap.size, 1, none⟩ = some (.string (atN xs k).t) ∧ (wr.alloc (.cells #[.int .i64 (atN xs k).k, .string (atN xs k).t, .int .i64 (atN xs k).a, .int .i64 (atN xs k).b] 81)).cell? ⟨wr.heap.size, 2, none⟩ = some (.int .i64 (atN xs k).a) ∧ (wr.alloc (.cells #[.int .i64 (atN xs k).k, .string (atN xs k).t, .int .i64 (atN xs k).a, .int .i64 (atN xs k).b] 81)).cell? ⟨wr.heap.size, 3, none⟩ = some (.int .i64 (atN xs k).b) from ⟨by simp [go_sem], by simp [go_sem], by simp [go_sem], by simp [go_sem]⟩))
          obtain ⟨ad, had⟩ : ∃ ad, (if cp = m then some (⟨g, 0, none⟩ : Addr) else some ⟨g, m, none⟩) = ad := ⟨_, rfl⟩
          have HAD := hide (show c = 0 ∨ ad = some ⟨g, m, none⟩ by
            by_cases h : cp = m
            · exact Or.inl (by omega)
            · exact Or.inr (had.symm.trans (if_neg h)))
          have HSE := hide (show (FitsAt xs k m st → stepS (atN xs k) k st = some (k :: st.drop c)) ∧ (¬ FitsAt xs k m st → stepS (atN xs k) k st = none) by
            have := stepS_eq (o := atN xs k) (k := k) (m := m) (st := st) (by rw [unhide HC, ← unhide HN]; exact hm0.symm)
            rw [unhide HC] at this
            exact ⟨fun h => this.trans (if_pos h), fun h => this.trans (if_neg h)⟩)
          clear hm0
          by_cases hfit : FitsAt xs k m st
          case neg =>
            have HNO := hide (not_ord_step (unhide hst) hlt ((unhide HSE).2 hfit))
            have HFF := hide hfit
            clear hfit
            go_wp2_with (go_at_call 91; refine (kidCount_is (unhide HC) _ rfl _).mono ?_; rintro e w' ⟨rfl, hx⟩; obtain rfl := hx.symm)
            go_region_with (first | (go_at_call 92; have HB := (below1 wr (.cells #[.int .i64 (atN xs k).k, .string (atN xs k).t, .int .i64 (atN xs k).a, .int .i64 (atN xs k).b] 81)).drew; have HX := (unhide HKF) ((wr.alloc (.cells #[.int .i64 (atN xs k).k, .string (atN xs k).t, .int .i64 (atN xs k).a, .int .i64 (atN xs k).b] 81)).drew) ad (cp - m) HB (unhide HAD); refine HX.mono ?_; clear HX; rintro e w2 ⟨⟨v2, rfl, hv2⟩, hb2⟩; obtain rfl : v2 = false := Bool.eq_false_iff.2 (fun h => (unhide HFF) (hv2.1 h)); have z2 : wr.heap.size < w2.heap.size := Nat.lt_of_lt_of_le (unhide HZW) hb2.size; have q20 : w2.cell? ⟨wr.heap.size, 0, none⟩ = some (.int .i64 (atN xs k).k) := (hb2.cell (p := ⟨wr.heap.size, 0, none⟩) (unhide HZW)).trans (unhide HNW).1; have q21 : w2.cell? ⟨wr.heap.size, 1, none⟩ = some (.string (atN xs k).t) := (hb2.cell (p := ⟨wr.heap.size, 1, none⟩) (unhide HZW)).trans (unhide HNW).2.1; have q22 : w2.cell? ⟨wr.heap.size, 2, none⟩ = some (.int .i64 (atN xs k).a) := (hb2.cell (p := ⟨wr.heap.size, 2, none⟩) (unhide HZW)).trans (unhide HNW).2.2.1; have q23 : w2.cell? ⟨wr.heap.size, 3, none⟩ = some (.int .i64 (atN xs k).b) := (hb2.cell (p := ⟨wr.heap.size, 3, none⟩) (unhide HZW)).trans (unhide HNW).2.2.2; have B2 := hide (hbel.trans ((HB.trans (hb2.mono (Nat.le_of_lt (unhide HZW)))).mono hbel.size)); have G2 := hide (HB.trans (hb2.mono (Nat.le_of_lt (unhide HZW)))); clear hb2 hv2 HB))
            go_wp2
            go_ret
            exact ⟨⟨_, rfl, says_false (unhide HNO)⟩, unhide B2⟩
          have HFT := hide hfit
          clear hfit
          by_cases htx : TxtOk (atN xs k)
          case neg =>
            have HNO := hide (show ¬ InOrd xs from fun h => htx (h.2.2.2 k hlt))
            have HXF := hide htx
            clear htx
            go_wp2_with (go_at_call 91; refine (kidCount_is (unhide HC) _ rfl _).mono ?_; rintro e w' ⟨rfl, hx⟩; obtain rfl := hx.symm)
            go_region_with (first | (go_at_call 92; have HB := (below1 wr (.cells #[.int .i64 (atN xs k).k, .string (atN xs k).t, .int .i64 (atN xs k).a, .int .i64 (atN xs k).b] 81)).drew; have HX := (unhide HKF) ((wr.alloc (.cells #[.int .i64 (atN xs k).k, .string (atN xs k).t, .int .i64 (atN xs k).a, .int .i64 (atN xs k).b] 81)).drew) ad (cp - m) HB (unhide HAD); refine HX.mono ?_; clear HX; rintro e w2 ⟨⟨v2, rfl, hv2⟩, hb2⟩; obtain rfl : v2 = true := hv2.2 (unhide HFT); have z2 : wr.heap.size < w2.heap.size := Nat.lt_of_lt_of_le (unhide HZW) hb2.size; have q20 : w2.cell? ⟨wr.heap.size, 0, none⟩ = some (.int .i64 (atN xs k).k) := (hb2.cell (p := ⟨wr.heap.size, 0, none⟩) (unhide HZW)).trans (unhide HNW).1; have q21 : w2.cell? ⟨wr.heap.size, 1, none⟩ = some (.string (atN xs k).t) := (hb2.cell (p := ⟨wr.heap.size, 1, none⟩) (unhide HZW)).trans (unhide HNW).2.1; have q22 : w2.cell? ⟨wr.heap.size, 2, none⟩ = some (.int .i64 (atN xs k).a) := (hb2.cell (p := ⟨wr.heap.size, 2, none⟩) (unhide HZW)).trans (unhide HNW).2.2.1; have q23 : w2.cell? ⟨wr.heap.size, 3, none⟩ = some (.int .i64 (atN xs k).b) := (hb2.cell (p := ⟨wr.heap.size, 3, none⟩) (unhide HZW)).trans (unhide HNW).2.2.2; have B2 := hide (hbel.trans ((HB.trans (hb2.mono (Nat.le_of_lt (unhide HZW)))).mono hbel.size)); have G2 := hide (HB.trans (hb2.mono (Nat.le_of_lt (unhide HZW)))); clear hb2 hv2 HB) | (go_at_call 93; refine (textFits_any (atN xs k) _ (unhide hHT)).mono ?_; rintro e w3 ⟨⟨v3, rfl, hv3⟩, hb3⟩; obtain rfl : v3 = false := Bool.eq_false_iff.2 (fun h => (unhide HXF) (hv3.1 h)); have q30 : w3.cell? ⟨wr.heap.size, 0, none⟩ = some (.int .i64 (atN xs k).k) := (hb3.cell (p := ⟨wr.heap.size, 0, none⟩) z2).trans q20; have q31 : w3.cell? ⟨wr.heap.size, 1, none⟩ = some (.string (atN xs k).t) := (hb3.cell (p := ⟨wr.heap.size, 1, none⟩) z2).trans q21; have q32 : w3.cell? ⟨wr.heap.size, 2, none⟩ = some (.int .i64 (atN xs k).a) := (hb3.cell (p := ⟨wr.heap.size, 2, none⟩) z2).trans q22; have q33 : w3.cell? ⟨wr.heap.size, 3, none⟩ = some (.int .i64 (atN xs k).b) := (hb3.cell (p := ⟨wr.heap.size, 3, none⟩) z2).trans q23; have B3 := hide ((unhide B2).trans (hb3.mono (unhide B2).size)); have G3 := hide ((unhide G2).trans (hb3.mono (unhide G2).size)); clear hb3 hv3))
            go_wp2
            go_ret
            exact ⟨⟨_, rfl, says_false (unhide HNO)⟩, unhide B3⟩
          have HXT := hide htx
          clear htx
          go_wp2_with (go_at_call 91; refine (kidCount_is (unhide HC) _ rfl _).mono ?_; rintro e w' ⟨rfl, hx⟩; obtain rfl := hx.symm)
          go_region_with (first | (go_at_call 92; have HB := (below1 wr (.cells #[.int .i64 (atN xs k).k, .string (atN xs k).t, .int .i64 (atN xs k).a, .int .i64 (atN xs k).b] 81)).drew; have HX := (unhide HKF) ((wr.alloc (.cells #[.int .i64 (atN xs k).k, .string (atN xs k).t, .int .i64 (atN xs k).a, .int .i64 (atN xs k).b] 81)).drew) ad (cp - m) HB (unhide HAD); refine HX.mono ?_; clear HX; rintro e w2 ⟨⟨v2, rfl, hv2⟩, hb2⟩; obtain rfl : v2 = true := hv2.2 (unhide HFT); have z2 : wr.heap.size < w2.heap.size := Nat.lt_of_lt_of_le (unhide HZW) hb2.size; have q20 : w2.cell? ⟨wr.heap.size, 0, none⟩ = some (.int .i64 (atN xs k).k) := (hb2.cell (p := ⟨wr.heap.size, 0, none⟩) (unhide HZW)).trans (unhide HNW).1; have q21 : w2.cell? ⟨wr.heap.size, 1, none⟩ = some (.string (atN xs k).t) := (hb2.cell (p := ⟨wr.heap.size, 1, none⟩) (unhide HZW)).trans (unhide HNW).2.1; have q22 : w2.cell? ⟨wr.heap.size, 2, none⟩ = some (.int .i64 (atN xs k).a) := (hb2.cell (p := ⟨wr.heap.size, 2, none⟩) (unhide HZW)).trans (unhide HNW).2.2.1; have q23 : w2.cell? ⟨wr.heap.size, 3, none⟩ = some (.int .i64 (atN xs k).b) := (hb2.cell (p := ⟨wr.heap.size, 3, none⟩) (unhide HZW)).trans (unhide HNW).2.2.2; have B2 := hide (hbel.trans ((HB.trans (hb2.mono (Nat.le_of_lt (unhide HZW)))).mono hbel.size)); have G2 := hide (HB.trans (hb2.mono (Nat.le_of_lt (unhide HZW)))); clear hb2 hv2 HB) | (go_at_call 93; refine (textFits_any (atN xs k) _ (unhide hHT)).mono ?_; rintro e w3 ⟨⟨v3, rfl, hv3⟩, hb3⟩; obtain rfl : v3 = true := hv3.2 (unhide HXT); have q30 : w3.cell? ⟨wr.heap.size, 0, none⟩ = some (.int .i64 (atN xs k).k) := (hb3.cell (p := ⟨wr.heap.size, 0, none⟩) z2).trans q20; have q31 : w3.cell? ⟨wr.heap.size, 1, none⟩ = some (.string (atN xs k).t) := (hb3.cell (p := ⟨wr.heap.size, 1, none⟩) z2).trans q21; have q32 : w3.cell? ⟨wr.heap.size, 2, none⟩ = some (.int .i64 (atN xs k).a) := (hb3.cell (p := ⟨wr.heap.size, 2, none⟩) z2).trans q22; have q33 : w3.cell? ⟨wr.heap.size, 3, none⟩ = some (.int .i64 (atN xs k).b) := (hb3.cell (p := ⟨wr.heap.size, 3, none⟩) z2).trans q23; have B3 := hide ((unhide B2).trans (hb3.mono (unhide B2).size)); have G3 := hide ((unhide G2).trans (hb3.mono (unhide G2).size)); clear hb3 hv3))
          have HO3 := hide (owns_take ((unhide HO).kept (grown_belN (unhide G3) none) (Or.inr (by simp [Value.ownBlock]))) (m := m) (by omega))
          have hw3 : w.heap.size ≤ w3.heap.size := (unhide B3).size
          have hl3 : ((looseOf st).take m).length = m := by rw [List.length_take, looseOf_len, ← unhide HN]; omega
          clear q20 q21 q22 q23 q30 q31 q32 q33 G2 G3 B2 HKF
          go_wp2_with (at_builtin; refine wpList_append_own_at _ rfl (.tmp 42) (.tmp 44) 79 rfl w.heap.size 3 i0 _ 1 8 Tryz.underlying79 (unhide HI) (unhide HZ).1 (unhide HZ).2.1 (unhide HZ).2.2 rfl (by decide) _ m (cellsI ((looseOf st).take m)) rfl ((unhide HO3).alloc _) ⟨w3.heap.size, 0, none⟩ 1 1 (cellsI [(k : Int)]) rfl rfl (new_newsI0 w3 (k : Int)) (cellsI_one _) ?b1 ?b2 ?b3 ?next)
          case b1 => unfold maxLen; omega
          case b2 => omega
          case b3 => simp; omega
          case next =>
            intro v4 w4 hown4 hgrow4 hnil4 hat4
            have HB4 := hide (((unhide B3).alloc (unhide B3).size _).grown hgrow4 (by simp; omega) (fun q hq => by simp [Value.ownBlock] at hq; omega))
            have HO4 := hide (show w4.ownsRow w.heap.size 3 1 v4 (k :: st.drop c).length (cellsI (looseOf (k :: st.drop c))) by
              rw [looseOf_next (m := m) (by rw [← unhide HN]; exact (unhide hm0').symm), cellsI_append]
              have : (k :: st.drop c).length = m + 1 := by have := unhide HN; have := unhide hm0'; simp; omega
              rw [this]
              exact hown4)
            have HL4 := hide (show (k :: st.drop c).length ≤ k + 1 by have := unhide HN; have := unhide hm0'; simp; omega)
            have HS4 := hide (show stk xs (k + 1) = some (k :: st.drop c) by rw [stk_succ (unhide hst), (unhide HSE).1 (unhide HFT)])
            clear hown4 hgrow4 hnil4 hat4 HO3 B3
            go_wp2_with fail
            refine ⟨⟨k + 1, k :: st.drop c, v4, by omega, by go_num, rfl, HS4, HO4, HL4, hide (fun h => by omega), hide (fun _ => by simp), hide (fun j hj => ?_), unhide HB4⟩, by simp [intOf]; omega⟩
            by_cases e : j = k
            · subst e; exact unhide HXT
            · exact (unhide hok) j (by omega)
    · have hkx : k = xs.length := by omega
      have HKX := hide hkx
      clear hkx
      rcases owns_form (unhide hown) with ⟨hv, hn0⟩ | ⟨g, cp, hv, hg1, hg2, hg3⟩
      · subst hv
        have HNO := hide (show ¬ InOrd xs from fun h => by have := (unhide hkp) (by have := h.1; have := unhide HKX; omega); omega)
        go_wp2_with fail
        go_ret
        exact ⟨⟨_, rfl, says_false (unhide HNO)⟩, hbel⟩
      · subst hv
        by_cases hn1 : st.length = 1
        · have HYES := hide (show InOrd xs by
            have h1 : 1 ≤ xs.length := by have := unhide hsl; have := unhide HKX; omega
            exact ⟨h1, by omega, (whole_iff h1).2 ⟨st, by rw [← unhide HKX]; exact unhide hst, hn1⟩, fun i hi => (unhide hok) i (by have := unhide HKX; omega)⟩)
          rw [hn1]
          clear hn1
          go_wp2_with fail
          go_ret
          exact ⟨⟨_, rfl, says_true (unhide HYES)⟩, hbel⟩
        · have HNO := hide (show ¬ InOrd xs from fun h => by
            obtain ⟨st', hs', hl'⟩ := (whole_iff h.1).1 h.2.2.1
            have e := unhide hst
            rw [unhide HKX, hs'] at e
            injection e with e
            subst e
            exact hn1 hl')
          have hn1' : ((st.length : Int) == 1) = false := by simp; omega
          clear hn1
          go_wp2_with fail
          go_ret
          exact ⟨⟨_, rfl, says_false (unhide HNO)⟩, hbel⟩
end Go.Proofs.YtfboipappaonhaaGreat
