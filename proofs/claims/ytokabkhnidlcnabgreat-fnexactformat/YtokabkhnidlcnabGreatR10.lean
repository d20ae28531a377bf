import Derived.Deep.RegionHeld
import Derived.BigQuiet
import Derived.Maps.AppendAt
import Derived.Test.YtokabkhnidlcnabGreatR01
import Derived.Test.YtokabkhnidlcnabGreatR03
import Derived.Test.YtokabkhnidlcnabGreatR06
import Derived.Test.YtokabkhnidlcnabGreatR09

/-
  Walks: the program's inner trees put into holes (level, enclose, fit).
-/
namespace Go.Proofs.YtokabkhnidlcnabGreat
set_option maxRecDepth 100000
set_option linter.unusedSimpArgs false
set_option linter.unusedVariables false
open Go.RowKit

/-- A value whose level is known. -/
def LevIs (e : Value) (l : Int) : Prop := ∃ T v f r, e = .iface T v ∧ (∀ w, (method 337 T v "loop.example/s0059/impl.level").run Tryz.prog w = .ok (f, r) w) ∧ (∀ a w, (callFunc f a).run Tryz.prog w = .ok (.enter f a) w) ∧
  ∀ w, Calls Tryz.prog f #[r] w fun x w' => x = .returned (.int .i64 l) ∧ Below w.heap.size w w'

theorem closed_level (w : World) : Calls Tryz.prog 167 #[.agg #[]] w fun x w' => x = .returned (.int .i64 1001) ∧ Below w.heap.size w w' := by
  go_enter Tryz.func167, Tryz.ntmps167
  go_wp2_with fail
  go_ret
  exact ⟨rfl, by first | exact below1 _ _ | exact Below.refl _ _⟩

theorem operated_level (p : OpR) (w : World) : Calls Tryz.prog 171 #[.agg #[.string p.s, .int .i64 p.k, .int .i64 p.l, .int .i64 p.sd]] w fun x w' => x = .returned (.int .i64 p.l) ∧ Below w.heap.size w w' := by
  go_enter Tryz.func171, Tryz.ntmps171
  go_wp2_with fail
  go_ret
  exact ⟨rfl, by first | exact below1 _ _ | exact Below.refl _ _⟩

theorem lev_num (t : ByteArray) : LevIs (eNum t) 1001 := ⟨_, _, 167, .agg #[], rfl, fun w => by kernel_rfl, fun a w => by kernel_rfl, closed_level⟩
theorem lev_name (t : ByteArray) : LevIs (eName t) 1001 := ⟨_, _, 167, .agg #[], rfl, fun w => by kernel_rfl, fun a w => by kernel_rfl, closed_level⟩
theorem lev_grp (e : Value) : LevIs (eGrp e) 1001 := ⟨_, _, 167, .agg #[], rfl, fun w => by kernel_rfl, fun a w => by kernel_rfl, closed_level⟩
theorem lev_pre (p : OpR) (e : Value) : LevIs (ePre p e) p.l := ⟨_, _, 171, .agg #[.string p.s, .int .i64 p.k, .int .i64 p.l, .int .i64 p.sd], rfl, fun w => by kernel_rfl, fun a w => by kernel_rfl, operated_level p⟩
theorem lev_post (p : OpR) (e : Value) : LevIs (ePost p e) p.l := ⟨_, _, 171, .agg #[.string p.s, .int .i64 p.k, .int .i64 p.l, .int .i64 p.sd], rfl, fun w => by kernel_rfl, fun a w => by kernel_rfl, operated_level p⟩
theorem lev_inf (p : OpR) (e e' : Value) : LevIs (eInf p e e') p.l := ⟨_, _, 171, .agg #[.string p.s, .int .i64 p.k, .int .i64 p.l, .int .i64 p.sd], rfl, fun w => by kernel_rfl, fun a w => by kernel_rfl, operated_level p⟩

/-- The grouper's count. -/
def GrAt (w : World) (g m : Nat) : Prop := w.cell? ⟨g, 0, none⟩ = some (.int .i64 (m : Int)) ∧ w.frozen? ⟨g, 0, none⟩ = false

theorem GrAt.below {w w' : World} {g m : Nat} (h : GrAt w g m) (hb : Below w.heap.size w w') : GrAt w' g m :=
  ⟨(hb.cell (p := ⟨g, 0, none⟩) (block_lt_of_cell h.1)).trans h.1, (hb.frozen (p := ⟨g, 0, none⟩) (block_lt_of_cell h.1)).trans h.2⟩

theorem GrAt.set {w : World} {g m : Nat} (h : GrAt w g m) (n : Nat) : GrAt (w.setCell ⟨g, 0, none⟩ (.int .i64 (n : Int))) g n :=
  ⟨World.cell?_setCell_same _ _ _ h.1, (World.frozen?_setCell _ _ _ _).trans h.2⟩

theorem Kept1.setG {w : World} {g : Nat} (v : Value) : Kept1 w (w.setCell ⟨g, 0, none⟩ v) g := ⟨rfl, rfl, rfl, by simp [World.setCell], fun _ _ hi => Below.heap_setCell _ _ _ _ hi⟩

def encN (l least : Int) : Nat := if l < least then 2 else 1
def encV (l least : Int) (e : Value) : Value := if l < least then eGrp e else e

set_option maxHeartbeats 1000000 in
theorem enclose_any {e : Value} {l : Int} (h : LevIs e l) (g m : Nat) (least : Int) (w : World) (hg : GrAt w g m) (hm : m ≤ 100000) :
    Calls Tryz.prog 123 #[.pointer (some ⟨g, 0, none⟩), e, .int .i64 least] w fun x w' => x = .returned (encV l least e) ∧ Hid (GrAt w' g (m + encN l least)) ∧ Hid (Kept1 w w' g) := by
  obtain ⟨T, v, f, r, rfl, hme, hcf, hcall⟩ := h
  have HC := hide hcall
  have c0 := hg.1
  have f0 := hg.2
  have hlt := block_lt_of_cell hg.1
  have HG1 := hide (hg.set (m + 1))
  have e1 : ((m + 1 : Nat) : Int) = (m : Int) + 1 := by omega
  have e2 : ((m + 1 + 1 : Nat) : Int) = (m : Int) + 1 + 1 := by omega
  rw [e1] at HG1
  clear hcall hg
  go_enter Tryz.func123, Tryz.ntmps123
  go_wp2_with fail
  refine ((unhide HC) _).mono ?_
  rintro x w1 ⟨rfl, hb1⟩
  have HK1 := hide ((Kept1.setG (w := w) (g := g) (.int .i64 ((m : Int) + 1))).trans (Kept1.of_below hb1))
  have HG2 := hide ((unhide HG1).below hb1)
  have c1 := (unhide HG2).1
  have f1 := (unhide HG2).2
  rw [e1] at c1
  clear hb1 HG1 c0 f0 hme hcf
  by_cases hl : l < least
  · have hl' : ¬ least ≤ l := by omega
    have HN := hide (show encN l least = 2 from if_pos hl)
    have HV := hide (show encV l least (.iface T v) = eGrp (.iface T v) from if_pos hl)
    have HG3 := hide ((unhide HG2).set (m + 1 + 1))
    rw [e2] at HG3
    have HK3 := hide ((unhide HK1).trans (Kept1.setG (w := w1) (g := g) (.int .i64 ((m : Int) + 1 + 1))))
    clear HG2 HK1
    go_wp2_with fail
    go_ret
    exact ⟨by rw [unhide HV]; rfl, by rw [unhide HN]; exact HG3, HK3⟩
  · have hl' : least ≤ l := by omega
    have HN := hide (show encN l least = 1 from if_neg hl)
    have HV := hide (show encV l least (.iface T v) = .iface T v from if_neg hl)
    clear hl
    go_wp2_with fail
    go_ret
    exact ⟨by rw [unhide HV]; rfl, by rw [unhide HN]; exact HG2, HK1⟩

theorem exN_iface (p : OpR) (o : NodeR) (e e' : Value) : ∃ T v, exN p o e e' = .iface T v := by
  unfold exN
  split
  · exact ⟨_, _, rfl⟩
  · split
    · exact ⟨_, _, rfl⟩
    · split
      · exact ⟨_, _, rfl⟩
      · split
        · exact ⟨_, _, rfl⟩
        · split
          · exact ⟨_, _, rfl⟩
          · exact ⟨_, _, rfl⟩
theorem exS_iface (ns : List OpR) (xs : List NodeR) (i : Nat) : ∃ T v, exS ns xs i = .iface T v := by
  rw [exS_is]; exact exN_iface _ _ _ _
theorem encV_iface (l least : Int) (T : TypeId) (v : Value) : ∃ T' v', encV l least (.iface T v) = .iface T' v' := by
  unfold encV
  split
  · exact ⟨_, _, rfl⟩
  · exact ⟨_, _, rfl⟩

/-- Not of another type. -/
def Nots (T : TypeId) (v : Value) (A : TypeId) (z : Value) : Prop := ∀ w, (Instr.typeAssert (.iface T v) 92 A true).run Tryz.prog w = .ok (.tuple #[z, .bool false]) w
def zG : Value := .agg #[.nilIface]
def zP : Value := .agg #[.string ⟨#[]⟩, .int .i64 0, .int .i64 0, .int .i64 0, .nilIface]
def zI : Value := .agg #[.string ⟨#[]⟩, .int .i64 0, .int .i64 0, .int .i64 0, .nilIface, .nilIface]

theorem no_num (v : Value) : Nots 162 v 175 zG ∧ Nots 162 v 170 zP ∧ Nots 162 v 172 zI ∧ Nots 162 v 173 zP :=
  ⟨fun w => by kernel_rfl, fun w => by kernel_rfl, fun w => by kernel_rfl, fun w => by kernel_rfl⟩
theorem no_name (v : Value) : Nots 164 v 175 zG ∧ Nots 164 v 170 zP ∧ Nots 164 v 172 zI ∧ Nots 164 v 173 zP :=
  ⟨fun w => by kernel_rfl, fun w => by kernel_rfl, fun w => by kernel_rfl, fun w => by kernel_rfl⟩
theorem no_pre (v : Value) : Nots 170 v 175 zG := fun w => by kernel_rfl
theorem no_inf (v : Value) : Nots 172 v 175 zG ∧ Nots 172 v 170 zP := ⟨fun w => by kernel_rfl, fun w => by kernel_rfl⟩
theorem no_post (v : Value) : Nots 173 v 175 zG ∧ Nots 173 v 170 zP ∧ Nots 173 v 172 zI := ⟨fun w => by kernel_rfl, fun w => by kernel_rfl, fun w => by kernel_rfl⟩
theorem is_grp (v : Value) : ∀ w, (Instr.typeAssert (.iface 175 v) 92 175 true).run Tryz.prog w = .ok (.tuple #[v, .bool true]) w := fun w => by kernel_rfl
theorem is_pre (v : Value) : ∀ w, (Instr.typeAssert (.iface 170 v) 92 170 true).run Tryz.prog w = .ok (.tuple #[v, .bool true]) w := fun w => by kernel_rfl
theorem is_inf (v : Value) : ∀ w, (Instr.typeAssert (.iface 172 v) 92 172 true).run Tryz.prog w = .ok (.tuple #[v, .bool true]) w := fun w => by kernel_rfl
theorem is_post (v : Value) : ∀ w, (Instr.typeAssert (.iface 173 v) 92 173 true).run Tryz.prog w = .ok (.tuple #[v, .bool true]) w := fun w => by kernel_rfl

/-- What fit hands back. -/
def FitPost (w : World) (g m : Nat) (e : Value) (x : Ending) (w' : World) : Prop := x = .returned e ∧ Hid (GrAt w' g m) ∧ Hid (Kept1 w w' g)

set_option maxHeartbeats 1000000 in
theorem fit_leaf {T : TypeId} {v : Value} (hn : Nots T v 175 zG ∧ Nots T v 170 zP ∧ Nots T v 172 zI ∧ Nots T v 173 zP) {l : Int} (h : LevIs (.iface T v) l) (g m : Nat) (least : Int) (w : World) (hg : GrAt w g m) (hm : m ≤ 100000) :
    Calls Tryz.prog 85 #[.pointer (some ⟨g, 0, none⟩), .iface T v, .int .i64 least] w (FitPost w g (m + encN l least) (encV l least (.iface T v))) := by
  obtain ⟨n1, n2, n3, n4⟩ := hn
  unfold Nots zG at n1
  unfold Nots zP at n2 n4
  unfold Nots zI at n3
  have HG := hide hg
  have HL := hide h
  clear hg h
  go_enter Tryz.func85, Tryz.ntmps85
  go_wp2_with fail
  refine (enclose_any (unhide HL) g m least _ (unhide HG) hm).mono ?_
  rintro x w1 ⟨rfl, h1, h2⟩
  obtain ⟨T', v', hTv⟩ := encV_iface l least T v
  rw [hTv]
  clear n1 n2 n3 n4
  go_wp2_with fail
  go_ret
  exact ⟨by rw [hTv]; rfl, h1, h2⟩

set_option maxHeartbeats 1000000 in
theorem fit_grp {T : TypeId} {v : Value} (g m : Nat) (least : Int) {e : Value} (w : World) (he : ∃ T' v', e = .iface T' v')
    (hc : ∀ o, Calls Tryz.prog 85 #[.pointer (some ⟨g, 0, none⟩), .iface T v, .int .i64 least] (w.alloc o) (FitPost (w.alloc o) g m e)) :
    Calls Tryz.prog 85 #[.pointer (some ⟨g, 0, none⟩), eGrp (.iface T v), .int .i64 least] w (FitPost w g m e) := by
  obtain ⟨T', v', rfl⟩ := he
  have i1 := is_grp (.agg #[.iface T v])
  have HC := hide hc
  clear hc
  unfold eGrp
  go_enter Tryz.func85, Tryz.ntmps85
  go_wp2_with fail
  refine ((unhide HC) _).mono ?_
  rintro x w1 ⟨rfl, h1, h2⟩
  have h3 := hide ((Kept1.of_below (below1 _ _)).trans (unhide h2))
  clear i1
  go_wp2_with fail
  go_ret
  exact ⟨rfl, h1, h3⟩
end Go.Proofs.YtokabkhnidlcnabGreat

/-
  Rows of nodes that a call makes by append.
-/
namespace Go.Proofs.YtokabkhnidlcnabGreat
set_option maxRecDepth 100000
open Go.RowKit

theorem grown_belN {w w' : World} (h : Below w.heap.size w w') (row : Option Nat) : w.grownBy w' row := ⟨h.os, h.tape, h.output, h.size, fun i hi _ => h.block i hi⟩

/-- The cells of a list of nodes. -/
def cellsN (zs : List NodeR) : List Value := zs.flatMap fun o => [.int .i64 o.k, .string o.t, .int .i64 o.a, .int .i64 o.b]

theorem cellsN_append (xs ys : List NodeR) : cellsN (xs ++ ys) = cellsN xs ++ cellsN ys := by simp [cellsN]
theorem cellsN_len : ∀ zs : List NodeR, (cellsN zs).length = zs.length * 4
  | [] => rfl
  | o :: r => by
    have := cellsN_len r
    simp only [cellsN, List.flatMap_cons, List.length_append, List.length_cons, List.length_nil] at *
    omega

theorem cellsN_at : ∀ (zs : List NodeR) (i : Nat), i < zs.length → (cellsN zs)[i * 4]? = some (.int .i64 (atN zs i).k) ∧ (cellsN zs)[i * 4 + 1]? = some (.string (atN zs i).t) ∧ (cellsN zs)[i * 4 + 2]? = some (.int .i64 (atN zs i).a) ∧ (cellsN zs)[i * 4 + 3]? = some (.int .i64 (atN zs i).b)
  | [], i, h => absurd h (Nat.not_lt_zero i)
  | o :: r, 0, _ => ⟨rfl, rfl, rfl, rfl⟩
  | o :: r, i + 1, h => by
    have ih := cellsN_at r i (by simpa using h)
    have e : ∀ j, (cellsN (o :: r))[(i + 1) * 4 + j]? = (cellsN r)[i * 4 + j]? := fun j => by
      have : (i + 1) * 4 + j = (i * 4 + j) + 4 := by omega
      rw [this]
      rfl
    exact ⟨(e 0).trans ih.1, (e 1).trans ih.2.1, (e 2).trans ih.2.2.1, (e 3).trans ih.2.2.2⟩

theorem cellsN_one' (zs : List NodeR) : ∀ u ∈ cellsN zs, u.oneCell' = true := by
  intro u hu
  simp only [cellsN, List.mem_flatMap] at hu
  obtain ⟨o, _, ho⟩ := hu
  simp at ho
  rcases ho with rfl | rfl | rfl | rfl <;> rfl

/-- A row that the call owns, as a filled one. -/
theorem owns_filledN {w : World} {base g cap : Nat} {e : TypeId} {zs : List NodeR} (h : w.ownsRow base e 4 (.slice (some ⟨g, 0, none⟩) zs.length cap) zs.length (cellsN zs)) : base ≤ g ∧ FilledN w g zs zs.length := by
  have hlt := h.lt g rfl
  refine ⟨hlt.1, hlt.2, fun j hj => ⟨?_, h.frozenAt _⟩, fun i hi => ?_⟩
  · rw [h.cellAt (0 + j) (by omega)]
    have : 0 + j < (cellsN zs).length := by rw [cellsN_len]; omega
    rw [List.getElem?_eq_getElem this]
    rfl
  · obtain ⟨c0, c1, c2, c3⟩ := cellsN_at zs i hi
    have e := fun j (hj : j < 4) => h.cellAt (i * 4 + j) (by omega)
    exact ⟨by simpa using (e 0 (by omega)).trans c0, by simpa using (e 1 (by omega)).trans c1, by simpa using (e 2 (by omega)).trans c2, by simpa using (e 3 (by omega)).trans c3⟩

/-- What an owned row's value is, where it is not nil. -/
theorem owns_valueN {w : World} {base n size : Nat} {e : TypeId} {v : Value} {xs : List Value} (h : w.ownsRow base e size v n xs) (hv : v ≠ .slice none 0 0) : ∃ g cap, v = .slice (some ⟨g, 0, none⟩) n cap := by
  obtain ⟨_, h | ⟨g, cap, cur, hv', _⟩⟩ := h
  · exact absurd h.1 hv
  · exact ⟨g, cap, hv'⟩

theorem owns_capN {w : World} {base n size g cap : Nat} {e : TypeId} {xs : List Value} (h : w.ownsRow base e size (.slice (some ⟨g, 0, none⟩) n cap) n xs) : n ≤ cap ∧ cap ≤ maxLen := by
  obtain ⟨_, h | ⟨g', cap', cur, hv', _, _, h1, h2, _⟩⟩ := h
  · simp at h
  · simp only [Value.slice.injEq, Option.some.injEq] at hv'
    obtain ⟨_, _, rfl⟩ := hv'
    exact ⟨h1, h2⟩

/-- A new node in a block of its own. -/
theorem new_newsN (w : World) (o : NodeR) : ∀ j u, (cellsN [o])[j]? = some u → (w.alloc (.cells #[.int .i64 o.k, .string o.t, .int .i64 o.a, .int .i64 o.b] 115)).cell? ((⟨w.heap.size, 0, none⟩ : Addr).add j) = some u := by
  intro j u hj
  rw [Addr.add_mid]
  have := World.rangeAt_of_block (w := w.alloc (.cells #[.int .i64 o.k, .string o.t, .int .i64 o.a, .int .i64 o.b] 115)) (b := w.heap.size) (heap_alloc_new w _) 0 4
  exact this j u (by simpa [cellsN] using hj)

theorem FilledN.arg {w : World} {g : Nat} {us : List NodeR} (h : FilledN w g us us.length) : ArgN w (some ⟨g, 0, none⟩) us := Or.inr ⟨g, 0, rfl, h.ops, h.1⟩

/-- A list of nodes that a call has made: nil and empty, or a row of its own. -/
def OwnedN (w : World) (n : Nat) (a : Option Addr) (us : List NodeR) : Prop := (us.length = 0 ∧ a = none) ∨ ∃ g, a = some ⟨g, 0, none⟩ ∧ n ≤ g ∧ FilledN w g us us.length

theorem OwnedN.arg {w : World} {n : Nat} {a : Option Addr} {us : List NodeR} (h : OwnedN w n a us) : ArgN w a us := by
  rcases h with ⟨h, _⟩ | ⟨g, rfl, _, hf⟩
  · exact Or.inl h
  · exact hf.arg

theorem OwnedN.grown {w w' : World} {n : Nat} {a : Option Addr} {us : List NodeR} {row : Option Nat} (h : OwnedN w n a us) (hg : w.grownBy w' row) (hr : ∀ k, row = some k → k < n) : OwnedN w' n a us := by
  rcases h with h | ⟨g, rfl, hn, hf⟩
  · exact Or.inl h
  · exact Or.inr ⟨g, rfl, hn, hf.grown hg (fun e => by have := hr g e.symm; omega)⟩

theorem OwnedN.step {w w' : World} {n : Nat} {a : Option Addr} {us : List NodeR} (h : OwnedN w n a us) (hb : Below w.heap.size w w') : OwnedN w' n a us :=
  h.grown (grown_belN hb none) (fun k hk => by cases hk)

theorem OwnedN.lt {w : World} {n : Nat} {a : Option Addr} {us : List NodeR} (h : OwnedN w n a us) : ∀ k, a.map (·.block) = some k → n ≤ k ∧ k < w.heap.size := by
  rcases h with ⟨_, rfl⟩ | ⟨g, rfl, hn, hf⟩
  · intro k hk; cases hk
  · intro k hk; injection hk with hk; subst hk; exact ⟨hn, hf.1⟩
end Go.Proofs.YtokabkhnidlcnabGreat

/-
  Walks: the nodes of the program's inner trees, put behind a row (appendTo).
-/
namespace Go.Proofs.YtokabkhnidlcnabGreat
set_option maxRecDepth 100000
set_option linter.unusedSimpArgs false
set_option linter.unusedVariables false
open Go.RowKit

theorem grown_below {w w1 w2 : World} {row : Option Nat} (h : Below w.heap.size w w1) (h2 : w1.grownBy w2 row) : w.grownBy w2 row :=
  ⟨h2.os.trans h.os, h2.tape.trans h.tape, h2.output.trans h.output, Nat.le_trans h.size h2.size, fun i hi hr => (h2.block i (Nat.lt_of_lt_of_le hi h.size) hr).trans (h.block i hi)⟩

theorem grown_trans {w w1 w2 : World} {row row' : Option Nat} (h : w.grownBy w1 row) (h2 : w1.grownBy w2 row') (hr : row' = row ∨ ∃ k, row' = some k ∧ w.heap.size ≤ k) : w.grownBy w2 row :=
  ⟨h2.os.trans h.os, h2.tape.trans h.tape, h2.output.trans h.output, Nat.le_trans h.size h2.size, fun i hi hne => (h2.block i (Nat.lt_of_lt_of_le hi h.size) (fun e => by
    rcases hr with rfl | ⟨k, rfl, hk⟩
    · exact hne e
    · injection e with e; omega)).trans (h.block i hi hne)⟩

theorem grown_cell {w w' : World} {row : Option Nat} (h : w.grownBy w' row) {b : Nat} (hb : b < w.heap.size) (hne : row ≠ some b) (o : Nat) : w'.cell? ⟨b, o, none⟩ = w.cell? ⟨b, o, none⟩ :=
  World.cell?_of_block (w := w) (h.block b hb (fun e => hne e.symm))

theorem row_slice {w : World} {B n : Nat} {e : TypeId} {u : Value} {xs : List Value} (h : w.ownsRow B e 4 u n xs) : ∃ a c, u = .slice a n c := by
  obtain ⟨_, ⟨rfl, rfl⟩ | ⟨g, cap, cur, rfl, _⟩⟩ := h
  · exact ⟨none, 0, rfl⟩
  · exact ⟨_, _, rfl⟩

/-- A row of nodes behind which one may be put. -/
def RowV (w : World) (B : Nat) (u : Value) (us : List NodeR) : Prop := w.ownsRow B 115 4 u us.length (cellsN us)

theorem RowV.below {w w' : World} {B : Nat} {u : Value} {us : List NodeR} (h : RowV w B u us) (hb : Below w.heap.size w w') : RowV w' B u us :=
  World.ownsRow.kept h (grown_belN hb none) (by cases u.ownBlock with
  | none => exact Or.inl rfl
  | some k => exact Or.inr (by simp))

theorem RowV.lt {w : World} {B : Nat} {u : Value} {us : List NodeR} (h : RowV w B u us) : ∀ g, u.ownBlock = some g → g < w.heap.size := fun g hg => (World.ownsRow.lt h g hg).2

/-- What a call of appendTo hands back. -/
def AppPost (w : World) (B : Nat) (u : Value) (vs : List NodeR) (x : Ending) (w' : World) : Prop :=
  ∃ u', x = .returned u' ∧ Hid (RowV w' B u' vs) ∧ Hid (w.grownBy w' u.ownBlock) ∧ Hid (u'.ownBlock = u.ownBlock ∨ ∃ k, u'.ownBlock = some k ∧ w.heap.size ≤ k)

/-- A value whose appendTo puts certain nodes behind a row. -/
def AppIs (e : Value) (F : Nat → List NodeR) : Prop := ∃ T v f, e = .iface T v ∧ (∀ w, (method 337 T v "loop.example/s0059/impl.appendTo").run Tryz.prog w = .ok (f, v) w) ∧ (∀ a w, (callFunc f a).run Tryz.prog w = .ok (.enter f a) w) ∧
  ∀ (B : Nat) (u : Value) (us vs : List NodeR) (w : World), RowV w B u us → B ≤ w.heap.size → us.length + (F us.length).length ≤ 100000 → vs = us ++ F us.length → Calls Tryz.prog f #[v, u] w (AppPost w B u vs)

set_option maxHeartbeats 1000000 in
theorem app_num (t : ByteArray) : AppIs (eNum t) (fun _ => [⟨1, t, 0, 0⟩]) := by
  refine ⟨_, _, 169, rfl, fun w => by kernel_rfl, fun a w => by kernel_rfl, ?_⟩
  intro B u us vs w hrow hB hlen hvs
  obtain ⟨i0, hi0, hz0, hz1, hz2⟩ : ∃ i, Tryz.prog.info? 115 = some i ∧ i.zero = some (.agg #[.int .i64 0, .string ⟨#[]⟩, .int .i64 0, .int .i64 0]) ∧ i.size = 4 ∧ i.bytes = 40 := by
    obtain ⟨i, hi, hz⟩ := Option.map_eq_some_iff.1 infoN
    simp only [Prod.mk.injEq] at hz
    exact ⟨i, hi, hz.1, hz.2.1, hz.2.2⟩
  have HI := hide hi0
  have HZ := hide (And.intro hz0 (And.intro hz1 hz2))
  clear hi0 hz0 hz1 hz2
  obtain ⟨a, c, rfl⟩ := row_slice hrow
  have HR := hide hrow
  have HV := hide hvs
  simp only [List.length_cons, List.length_nil] at hlen
  clear hrow hvs
  go_enter Tryz.func169, Tryz.ntmps169
  go_wp2_with (at_builtin; refine wpList_append_own_at _ rfl (.tmp 5) (.tmp 10) 26 rfl B 115 i0 _ 4 40 Tryz.underlying26 (unhide HI) (unhide HZ).1 (unhide HZ).2.1 (unhide HZ).2.2 rfl (by decide) _ us.length (cellsN us) rfl (((unhide HR).below (below1 _ _)).below (below1 _ _)) ⟨w.heap.size + 1, 0, none⟩ 1 1 (cellsN [⟨1, t, 0, 0⟩]) rfl rfl (by simpa using new_newsN (w.alloc _) ⟨1, t, 0, 0⟩) (cellsN_one' _) ?b1 ?b2 ?b3 ?next)
  case b1 => unfold maxLen; omega
  case b2 => omega
  case b3 => first | omega | (simp; omega)
  case next =>
    intro v4 w4 hown4 hgrow4 hnil4 hat4
    have HO := hide (show RowV w4 B v4 vs by
      rw [unhide HV]
      unfold RowV
      rw [cellsN_append, List.length_append]
      exact hown4)
    have HG := hide (grown_below ((below1 _ _).alloc (by simp) _) hgrow4)
    have HA := hide (show v4.ownBlock = (Value.slice a us.length c).ownBlock ∨ ∃ k, v4.ownBlock = some k ∧ w.heap.size ≤ k from hat4.imp id (fun h => ⟨_, h, by first | omega | (simp; omega)⟩))
    clear hown4 hgrow4 hnil4 hat4
    go_wp2_with fail
    go_ret
    exact ⟨v4, rfl, HO, HG, HA⟩

set_option maxHeartbeats 1000000 in
theorem app_name (t : ByteArray) : AppIs (eName t) (fun _ => [⟨2, t, 0, 0⟩]) := by
  refine ⟨_, _, 170, rfl, fun w => by kernel_rfl, fun a w => by kernel_rfl, ?_⟩
  intro B u us vs w hrow hB hlen hvs
  obtain ⟨i0, hi0, hz0, hz1, hz2⟩ : ∃ i, Tryz.prog.info? 115 = some i ∧ i.zero = some (.agg #[.int .i64 0, .string ⟨#[]⟩, .int .i64 0, .int .i64 0]) ∧ i.size = 4 ∧ i.bytes = 40 := by
    obtain ⟨i, hi, hz⟩ := Option.map_eq_some_iff.1 infoN
    simp only [Prod.mk.injEq] at hz
    exact ⟨i, hi, hz.1, hz.2.1, hz.2.2⟩
  have HI := hide hi0
  have HZ := hide (And.intro hz0 (And.intro hz1 hz2))
  clear hi0 hz0 hz1 hz2
  obtain ⟨a, c, rfl⟩ := row_slice hrow
  have HR := hide hrow
  have HV := hide hvs
  simp only [List.length_cons, List.length_nil] at hlen
  clear hrow hvs
  go_enter Tryz.func170, Tryz.ntmps170
  go_wp2_with (at_builtin; refine wpList_append_own_at _ rfl (.tmp 5) (.tmp 10) 26 rfl B 115 i0 _ 4 40 Tryz.underlying26 (unhide HI) (unhide HZ).1 (unhide HZ).2.1 (unhide HZ).2.2 rfl (by decide) _ us.length (cellsN us) rfl (((unhide HR).below (below1 _ _)).below (below1 _ _)) ⟨w.heap.size + 1, 0, none⟩ 1 1 (cellsN [⟨2, t, 0, 0⟩]) rfl rfl (by simpa using new_newsN (w.alloc _) ⟨2, t, 0, 0⟩) (cellsN_one' _) ?b1 ?b2 ?b3 ?next)
  case b1 => unfold maxLen; omega
  case b2 => omega
  case b3 => first | omega | (simp; omega)
  case next =>
    intro v4 w4 hown4 hgrow4 hnil4 hat4
    have HO := hide (show RowV w4 B v4 vs by
      rw [unhide HV]
      unfold RowV
      rw [cellsN_append, List.length_append]
      exact hown4)
    have HG := hide (grown_below ((below1 _ _).alloc (by simp) _) hgrow4)
    have HA := hide (show v4.ownBlock = (Value.slice a us.length c).ownBlock ∨ ∃ k, v4.ownBlock = some k ∧ w.heap.size ≤ k from hat4.imp id (fun h => ⟨_, h, by first | omega | (simp; omega)⟩))
    clear hown4 hgrow4 hnil4 hat4
    go_wp2_with fail
    go_ret
    exact ⟨v4, rfl, HO, HG, HA⟩

/-- The nodes of a kid and one over it. -/
def overF (F : Nat → List NodeR) (k : Int) (t : ByteArray) (s : Nat) : List NodeR := F s ++ [⟨k, t, ((s + (F s).length : Nat) : Int) - 1, 0⟩]

theorem grown_at {w w' : World} {row row' : Option Nat} (h : w.grownBy w' row) (hr : row' = row ∨ ∃ k, row' = some k ∧ w.heap.size ≤ k) (r : Option Nat) (hr2 : r = row' ∨ ∃ k, r = some k ∧ w'.heap.size ≤ k) : r = row ∨ ∃ k, r = some k ∧ w.heap.size ≤ k := by
  have := h.size
  rcases hr2 with rfl | ⟨k, rfl, hk⟩
  · exact hr
  · exact Or.inr ⟨k, rfl, by omega⟩

set_option maxHeartbeats 1000000 in
theorem appendOver_any {e : Value} {F : Nat → List NodeR} (h : AppIs e F) (k : Int) (t : ByteArray) (B : Nat) (u : Value) (us vs : List NodeR) (w : World) (hrow : RowV w B u us) (hB : B ≤ w.heap.size) (hlen : us.length + (overF F k t us.length).length ≤ 100000) (hvs : vs = us ++ overF F k t us.length) :
    Calls Tryz.prog 174 #[.agg #[e], u, .int .i64 k, .string t] w (AppPost w B u vs) := by
  obtain ⟨i0, hi0, hz0, hz1, hz2⟩ : ∃ i, Tryz.prog.info? 115 = some i ∧ i.zero = some (.agg #[.int .i64 0, .string ⟨#[]⟩, .int .i64 0, .int .i64 0]) ∧ i.size = 4 ∧ i.bytes = 40 := by
    obtain ⟨i, hi, hz⟩ := Option.map_eq_some_iff.1 infoN
    simp only [Prod.mk.injEq] at hz
    exact ⟨i, hi, hz.1, hz.2.1, hz.2.2⟩
  have HI := hide hi0
  have HZ := hide (And.intro hz0 (And.intro hz1 hz2))
  clear hi0 hz0 hz1 hz2
  obtain ⟨T, v, f, rfl, hm, hcf, hcall⟩ := h
  have HC := hide hcall
  obtain ⟨a, c, rfl⟩ := row_slice hrow
  have HR := hide hrow
  obtain ⟨us1, HU1⟩ : ∃ us1, Hid (us1 = us ++ F us.length) := ⟨_, hide rfl⟩
  have hl1 : us1.length = us.length + (F us.length).length := by rw [unhide HU1, List.length_append]
  have hlen1 : us1.length + 1 ≤ 100000 := by
    simp only [overF, List.length_append, List.length_cons, List.length_nil] at hlen
    omega
  have HL0 := hide (show us.length + (F us.length).length ≤ 100000 by omega)
  have HV := hide (show vs = us1 ++ [⟨k, t, (us1.length : Int) - 1, 0⟩] by
    rw [hvs, unhide HU1, overF, List.length_append, List.append_assoc])
  clear hcall hrow hvs hlen hl1
  go_enter Tryz.func174, Tryz.ntmps174
  go_wp2_with fail
  refine ((unhide HC) B _ us us1 _ ((unhide HR).below (below1 _ _)) (by simp; omega) (unhide HL0) (unhide HU1)).mono ?_
  rintro x w1 ⟨u1, rfl, hr1, hg1, ho1⟩
  obtain ⟨a1, c1, rfl⟩ := row_slice (unhide hr1)
  have HG1 := hide (grown_below (below1 _ _) (unhide hg1))
  have HA1 := hide (show (Value.slice a1 us1.length c1).ownBlock = (Value.slice a us.length c).ownBlock ∨ ∃ k, (Value.slice a1 us1.length c1).ownBlock = some k ∧ w.heap.size ≤ k from (unhide ho1).imp id (fun ⟨k, h1, h2⟩ => ⟨k, h1, by simp at h2; omega⟩))
  have hz := (unhide HG1).size
  clear hg1 ho1 hm hcf
  go_wp2_with (at_builtin; refine wpList_append_own_at _ rfl (.tmp 13) (.tmp 20) 26 rfl B 115 i0 _ 4 40 Tryz.underlying26 (unhide HI) (unhide HZ).1 (unhide HZ).2.1 (unhide HZ).2.2 rfl (by decide) _ us1.length (cellsN us1) rfl ((unhide hr1).below (below1 _ _)) ⟨w1.heap.size, 0, none⟩ 1 1 (cellsN [⟨k, t, (us1.length : Int) - 1, 0⟩]) rfl rfl (by simpa using new_newsN w1 ⟨k, t, (us1.length : Int) - 1, 0⟩) (cellsN_one' _) ?b1 ?b2 ?b3 ?next)
  case b1 => unfold maxLen; omega
  case b2 => omega
  case b3 => first | omega | (simp; omega)
  case next =>
    intro v4 w4 hown4 hgrow4 hnil4 hat4
    have HO := hide (show RowV w4 B v4 vs by
      rw [unhide HV]
      unfold RowV
      rw [cellsN_append, List.length_append]
      exact hown4)
    have HG2 := hide (grown_below (below1 _ _) hgrow4)
    have HG := hide (grown_trans (unhide HG1) (unhide HG2) (unhide HA1))
    have HA := hide (grown_at (unhide HG1) (unhide HA1) v4.ownBlock (hat4.imp id (fun h => ⟨_, h, by first | omega | simp⟩)))
    clear hown4 hgrow4 hnil4 hat4 HG1 HG2 HA1
    go_wp2_with fail
    go_ret
    exact ⟨v4, rfl, HO, HG, HA⟩

theorem post_up {w w1 : World} {B : Nat} {u : Value} {vs : List NodeR} (h : Below w.heap.size w w1) {x : Ending} {w' : World} (hp : AppPost w1 B u vs x w') : AppPost w B u vs x w' := by
  obtain ⟨u', rfl, hr, hg, ho⟩ := hp
  have := h.size
  exact ⟨u', rfl, hr, hide (grown_below h (unhide hg)), hide ((unhide ho).imp id (fun ⟨k, h1, h2⟩ => ⟨k, h1, by omega⟩))⟩

set_option maxHeartbeats 1000000 in
theorem app_grp {e : Value} {F : Nat → List NodeR} (h : AppIs e F) : AppIs (eGrp e) (overF F 6 ByteArray.empty) := by
  refine ⟨_, _, 178, rfl, fun w => by kernel_rfl, fun a w => by kernel_rfl, ?_⟩
  intro B u us vs w hrow hB hlen hvs
  have HH := hide h
  obtain ⟨T, v, f, rfl, hm, hcf, hcall⟩ := h
  have HR := hide hrow
  have HV := hide hvs
  clear hcall hrow hvs hm hcf
  go_enter Tryz.func178, Tryz.ntmps178
  go_wp2_with fail
  refine (appendOver_any (unhide HH) 6 ByteArray.empty B _ us vs _ ((unhide HR).below (below1 _ _)) (by simp; omega) hlen (unhide HV)).mono ?_
  intro x w1 hp
  obtain ⟨u', rfl, hr, hg, ho⟩ := post_up (below1 _ _) hp
  go_wp2_with fail
  go_ret
  exact ⟨u', rfl, hr, hg, ho⟩

set_option maxHeartbeats 1000000 in
theorem app_pre {e : Value} {F : Nat → List NodeR} (h : AppIs e F) (p : OpR) : AppIs (ePre p e) (overF F 3 p.s) := by
  refine ⟨_, _, 173, rfl, fun w => by kernel_rfl, fun a w => by kernel_rfl, ?_⟩
  intro B u us vs w hrow hB hlen hvs
  have HH := hide h
  obtain ⟨T, v, f, rfl, hm, hcf, hcall⟩ := h
  have HR := hide hrow
  have HV := hide hvs
  clear hcall hrow hvs hm hcf
  go_enter Tryz.func173, Tryz.ntmps173
  go_wp2_with fail
  refine (appendOver_any (unhide HH) 3 p.s B _ us vs _ ((unhide HR).below (below1 _ _)) (by simp; omega) hlen (unhide HV)).mono ?_
  intro x w1 hp
  obtain ⟨u', rfl, hr, hg, ho⟩ := post_up (below1 _ _) hp
  go_wp2_with fail
  go_ret
  exact ⟨u', rfl, hr, hg, ho⟩

set_option maxHeartbeats 1000000 in
theorem app_post {e : Value} {F : Nat → List NodeR} (h : AppIs e F) (p : OpR) : AppIs (ePost p e) (overF F 5 p.s) := by
  refine ⟨_, _, 177, rfl, fun w => by kernel_rfl, fun a w => by kernel_rfl, ?_⟩
  intro B u us vs w hrow hB hlen hvs
  have HH := hide h
  obtain ⟨T, v, f, rfl, hm, hcf, hcall⟩ := h
  have HR := hide hrow
  have HV := hide hvs
  clear hcall hrow hvs hm hcf
  go_enter Tryz.func177, Tryz.ntmps177
  go_wp2_with fail
  refine (appendOver_any (unhide HH) 5 p.s B _ us vs _ ((unhide HR).below (below1 _ _)) (by simp; omega) hlen (unhide HV)).mono ?_
  intro x w1 hp
  obtain ⟨u', rfl, hr, hg, ho⟩ := post_up (below1 _ _) hp
  go_wp2_with fail
  go_ret
  exact ⟨u', rfl, hr, hg, ho⟩

/-- The nodes of two kids and one over them. -/
def bothF (F G : Nat → List NodeR) (t : ByteArray) (s : Nat) : List NodeR := (F s ++ G (s + (F s).length)) ++ [⟨4, t, ((s + (F s).length : Nat) : Int) - 1, ((s + (F s).length + (G (s + (F s).length)).length : Nat) : Int) - 1⟩]

set_option maxHeartbeats 2000000 in
theorem app_inf {e e' : Value} {F G : Nat → List NodeR} (h : AppIs e F) (h' : AppIs e' G) (p : OpR) : AppIs (eInf p e e') (bothF F G p.s) := by
  refine ⟨_, _, 175, rfl, fun w => by kernel_rfl, fun a w => by kernel_rfl, ?_⟩
  intro B u us vs w hrow hB hlen hvs
  obtain ⟨i0, hi0, hz0, hz1, hz2⟩ : ∃ i, Tryz.prog.info? 115 = some i ∧ i.zero = some (.agg #[.int .i64 0, .string ⟨#[]⟩, .int .i64 0, .int .i64 0]) ∧ i.size = 4 ∧ i.bytes = 40 := by
    obtain ⟨i, hi, hz⟩ := Option.map_eq_some_iff.1 infoN
    simp only [Prod.mk.injEq] at hz
    exact ⟨i, hi, hz.1, hz.2.1, hz.2.2⟩
  have HI := hide hi0
  have HZ := hide (And.intro hz0 (And.intro hz1 hz2))
  clear hi0 hz0 hz1 hz2
  obtain ⟨T, v, f, rfl, hm, hcf, hcall⟩ := h
  obtain ⟨T', v', f', rfl, hm', hcf', hcall'⟩ := h'
  have HC := hide hcall
  have HC' := hide hcall'
  obtain ⟨a, c, rfl⟩ := row_slice hrow
  have HR := hide hrow
  obtain ⟨us1, HU1⟩ : ∃ us1, Hid (us1 = us ++ F us.length) := ⟨_, hide rfl⟩
  have hl1 : us1.length = us.length + (F us.length).length := by rw [unhide HU1, List.length_append]
  obtain ⟨us2, HU2⟩ : ∃ us2, Hid (us2 = us1 ++ G us1.length) := ⟨_, hide rfl⟩
  have hl2 : us2.length = us1.length + (G us1.length).length := by rw [unhide HU2, List.length_append]
  have hlen1 : us2.length + 1 ≤ 100000 := by
    simp only [bothF, List.length_append, List.length_cons, List.length_nil, ← hl1] at hlen
    omega
  have HL0 := hide (show us.length + (F us.length).length ≤ 100000 by omega)
  have HL1 := hide (show us1.length + (G us1.length).length ≤ 100000 by omega)
  have hlen2 : us1.length ≤ 100000 := by omega
  have HV := hide (show vs = us2 ++ [⟨4, p.s, (us1.length : Int) - 1, (us2.length : Int) - 1⟩] by
    have e : us2 = us ++ (F us.length ++ G us1.length) := (unhide HU2).trans ((congrArg (· ++ G us1.length) (unhide HU1)).trans (List.append_assoc _ _ _))
    rw [hvs]
    unfold bothF
    rw [← hl1, ← hl2, ← List.append_assoc, ← e])
  clear hcall hrow hvs hlen hcall' hl1 hl2
  go_enter Tryz.func175, Tryz.ntmps175
  go_wp2_with fail
  refine ((unhide HC) B _ us us1 _ ((unhide HR).below (below1 _ _)) (by simp; omega) (unhide HL0) (unhide HU1)).mono ?_
  rintro x w1 ⟨u1, rfl, hr1, hg1, ho1⟩
  obtain ⟨a1, c1, rfl⟩ := row_slice (unhide hr1)
  have hnb : (Value.slice a us.length c).ownBlock ≠ some w.heap.size := fun e => by have := (unhide HR).lt _ e; omega
  have q0 : w1.cell? ⟨w.heap.size, 0, none⟩ = some (.string p.s) := (grown_cell (unhide hg1) (b := w.heap.size) (by simp) hnb 0).trans (by simp [go_sem])
  have q5 : w1.cell? ⟨w.heap.size, 5, none⟩ = some (.iface T' v') := (grown_cell (unhide hg1) (b := w.heap.size) (by simp) hnb 5).trans (by simp [go_sem])
  have HG1 := hide (grown_below (below1 _ _) (unhide hg1))
  have HA0 := hide (unhide ho1)
  have HA1 := hide (show (Value.slice a1 us1.length c1).ownBlock = (Value.slice a us.length c).ownBlock ∨ ∃ k, (Value.slice a1 us1.length c1).ownBlock = some k ∧ w.heap.size ≤ k from (unhide ho1).imp id (fun ⟨k, h1, h2⟩ => ⟨k, h1, by simp at h2; omega⟩))
  have hz := (unhide HG1).size
  have hz1 : w.heap.size + 1 ≤ w1.heap.size := by have := (unhide hg1).size; simp at this; omega
  have hnb1 : (Value.slice a1 us1.length c1).ownBlock ≠ some w.heap.size := fun e => by
    rcases unhide HA0 with h | ⟨k, h1, h2⟩
    · exact hnb (h.symm.trans e)
    · rw [h1] at e; injection e with e; simp at h2; omega
  clear hg1 ho1 hm hcf HA0
  go_wp2_with fail
  refine ((unhide HC') B _ us1 us2 _ (unhide hr1) (by omega) (unhide HL1) (unhide HU2)).mono ?_
  rintro x w2 ⟨u2, rfl, hr2, hg2, ho2⟩
  obtain ⟨a2, c2, rfl⟩ := row_slice (unhide hr2)
  have r0 : w2.cell? ⟨w.heap.size, 0, none⟩ = some (.string p.s) := (grown_cell (unhide hg2) (b := w.heap.size) (by omega) hnb1 0).trans q0
  have HG2 := hide (grown_trans (unhide HG1) (unhide hg2) (unhide HA1))
  have HA2 := hide (grown_at (unhide HG1) (unhide HA1) _ (unhide ho2))
  have hz2 := (unhide HG2).size
  clear hg2 ho2 hm' hcf' HG1 HA1 q0 q5 hr1
  go_wp2_with (at_builtin; refine wpList_append_own_at _ rfl (.tmp 17) (.tmp 27) 26 rfl B 115 i0 _ 4 40 Tryz.underlying26 (unhide HI) (unhide HZ).1 (unhide HZ).2.1 (unhide HZ).2.2 rfl (by decide) _ us2.length (cellsN us2) rfl ((unhide hr2).below (below1 _ _)) ⟨w2.heap.size, 0, none⟩ 1 1 (cellsN [⟨4, p.s, (us1.length : Int) - 1, (us2.length : Int) - 1⟩]) rfl rfl (by simpa using new_newsN w2 ⟨4, p.s, (us1.length : Int) - 1, (us2.length : Int) - 1⟩) (cellsN_one' _) ?b1 ?b2 ?b3 ?next)
  case b1 => unfold maxLen; omega
  case b2 => omega
  case b3 => first | omega | (simp; omega)
  case next =>
    intro v4 w4 hown4 hgrow4 hnil4 hat4
    have HO := hide (show RowV w4 B v4 vs by
      rw [unhide HV]
      unfold RowV
      rw [cellsN_append, List.length_append]
      exact hown4)
    have HG3 := hide (grown_below (below1 _ _) hgrow4)
    have HG := hide (grown_trans (unhide HG2) (unhide HG3) (unhide HA2))
    have HA := hide (grown_at (unhide HG2) (unhide HA2) v4.ownBlock (hat4.imp id (fun h => ⟨_, h, by first | omega | simp⟩)))
    clear hown4 hgrow4 hnil4 hat4 HG2 HG3 HA2
    go_wp2_with fail
    go_ret
    exact ⟨v4, rfl, HO, HG, HA⟩

/-- The nodes of a stretch anew. -/
theorem app_fS (ns : List OpR) (xs : List NodeR) (htx : ∀ i, i < xs.length → TxtOk (atN xs i)) (hkn : Knows ns xs) : ∀ n i f, i < n → i < xs.length → frS xs i = some f → ∀ l, AppIs (fS ns xs i l) (gS ns xs i l)
  | 0, _, _, h, _, _ => absurd h (Nat.not_lt_zero _)
  | n + 1, i, f, h, hi, hf => by
    intro l
    have hcl : ∀ (e : Value) (F : Nat → List NodeR), AppIs e F → (∀ s, gS ns xs i l s = clos ns (atN xs i) l s (F s)) → AppIs (closV ns (atN xs i) l e) (gS ns xs i l) := by
      intro e F he hF
      unfold closV
      by_cases hl : levN ns (atN xs i) < l
      · rw [if_pos hl]
        have : gS ns xs i l = overF F 6 ByteArray.empty := by
          funext s
          rw [hF s, clos, if_pos hl, overF]
        rw [this]
        exact app_grp he
      · rw [if_neg hl]
        have : gS ns xs i l = F := by
          funext s
          rw [hF s, clos, if_neg hl]
        rw [this]
        exact he
    have hop : ∀ j, fnd ns (atN xs i).t ((atN xs i).k - 2) = some j → (opA ns (atN xs i)).s = (atN xs i).t := fun j hj => by
      unfold opA
      rw [hj]
      exact (fnd_some hj).2.1
    have hso : isOpN (atN xs i) → (opA ns (atN xs i)).s = (atN xs i).t := fun ho => by
      cases e : fnd ns (atN xs i).t ((atN xs i).k - 2) with
      | none => exact absurd e (hkn i hi ho)
      | some j => exact hop j e
    rcases frS_some hf with ⟨hk, ha, hb, hfi⟩ | ⟨hk, h1i, ha, hbb, hf1⟩ | ⟨hk, h1i, hbb, f2, hf2, h2f, ha, hf1⟩
    · rw [fS_zero hk]
      rcases (htx i hi).2 with ⟨h1, _⟩ | ⟨h2, _⟩ | ⟨h6, _⟩ | ⟨h345, _⟩
      · refine hcl _ _ ?_ (fun s => gS_zero hk l s)
        simp only [exN, h1, if_true]
        exact app_num _
      · refine hcl _ _ ?_ (fun s => gS_zero hk l s)
        simp only [exN, h2, if_true]
        exact app_name _
      · rw [h6] at hk; simp [kids] at hk
      · rcases h345 with h | h | h <;> rw [h] at hk <;> simp [kids] at hk
    · have ih := app_fS ns xs htx hkn n (i - 1) f (by omega) (by omega) hf1
      rcases (htx i hi).2 with ⟨h1, _⟩ | ⟨h2, _⟩ | ⟨h6, _⟩ | ⟨h345, _⟩
      · rw [h1] at hk; simp [kids] at hk
      · rw [h2] at hk; simp [kids] at hk
      · rw [fS_group h6 h1i hf1]
        have : gS ns xs i l = gS ns xs (i - 1) l := by funext s; exact gS_group h6 h1i hf1 l s
        rw [this]
        exact ih l
      · rcases h345 with h | h | h
        · rw [fS_one hk (by omega) h1i hf1]
          refine hcl _ (overF (gS ns xs (i - 1) (holeN ns (atN xs i) false)) 3 (atN xs i).t) ?_ (fun s => by rw [gS_one hk (by omega) h1i hf1 l s rfl, overF, h])
          simp only [exN, h]
          rw [← hso ⟨by omega, by omega⟩]
          exact app_pre (ih _) _
        · rw [h] at hk; simp [kids] at hk
        · rw [fS_one hk (by omega) h1i hf1]
          refine hcl _ (overF (gS ns xs (i - 1) (holeN ns (atN xs i) false)) 5 (atN xs i).t) ?_ (fun s => by rw [gS_one hk (by omega) h1i hf1 l s rfl, overF, h])
          simp only [exN, h]
          rw [← hso ⟨by omega, by omega⟩]
          exact app_post (ih _) _
    · have hle := frS_le hf2
      have h4 : (atN xs i).k = 4 := by
        unfold kids at hk
        split at hk
        · assumption
        · split at hk <;> omega
      rw [fS_two hk h1i hf2 h2f ha hf1]
      refine hcl _ (bothF (gS ns xs (f2 - 1) (holeN ns (atN xs i) false)) (gS ns xs (i - 1) (holeN ns (atN xs i) true)) (atN xs i).t) ?_ (fun s => by rw [gS_two hk h1i hf2 h2f ha hf1 l s rfl rfl, bothF, h4])
      simp only [exN, h4]
      rw [← hso ⟨by omega, by omega⟩]
      exact app_inf (app_fS ns xs htx hkn n (f2 - 1) f (by omega) (by omega) hf1 _) (app_fS ns xs htx hkn n (i - 1) f2 (by omega) (by omega) hf2 _) _
end Go.Proofs.YtokabkhnidlcnabGreat
