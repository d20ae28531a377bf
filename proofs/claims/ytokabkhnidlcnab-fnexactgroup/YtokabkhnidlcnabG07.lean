import Derived.Maps.AppendAt
import Derived.Test.YtokabkhnidlcnabG01
import Derived.Test.YtokabkhnidlcnabG02
import Derived.Test.YtokabkhnidlcnabG06

/-
  Walks: the nodes of the program's inner trees, put behind a row (appendTo).
-/
namespace Go.Proofs.Ytokabkhnidlcnab
set_option maxRecDepth 100000
set_option linter.unusedSimpArgs false
set_option linter.unusedVariables false
open Go.RowKit

theorem grown_below {w w1 w2 : World} {row : Option Nat} (h : Below w.heap.size w w1) (h2 : w1.grownBy w2 row) : w.grownBy w2 row :=
  ⟨h2.os.trans h.os, h2.tape.trans h.tape, h2.output.trans h.output, Nat.le_trans h.size h2.size, fun i hi hr => (h2.block i (Nat.lt_of_lt_of_le hi h.size) hr).trans (h.block i hi)⟩

theorem grown_trans {w w1 w2 : World} {row row' : Option Nat} (h : w.grownBy w1 row) (h2 : w1.grownBy w2 row') (hr : row' = row ∨ ∃ k, row' = some k ∧ w.heap.size ≤ k) : w.grownBy w2 row :=
  ⟨h2.os.trans h.os, h2.tape.trans h.tape, h2.output.trans h.output, Nat.le_trans h.size h2.size, fun i hi hne => (h2.block i (Nat.lt_of_lt_of_le hi h.size) (fun e => by
    rcases hr with rfl | ⟨k, rfl, hk⟩
    · exact hne e
    · injection e with e; omega)).trans (h.block i hi hne)⟩

theorem grown_cell {w w' : World} {row : Option Nat} (h : w.grownBy w' row) {b : Nat} (hb : b < w.heap.size) (hne : row ≠ some b) (o : Nat) : w'.cell? ⟨b, o, none⟩ = w.cell? ⟨b, o, none⟩ :=
  World.cell?_of_block (w := w) (h.block b hb (fun e => hne e.symm))

theorem row_slice {w : World} {B n : Nat} {e : TypeId} {u : Value} {xs : List Value} (h : w.ownsRow B e 4 u n xs) : ∃ a c, u = .slice a n c := by
  obtain ⟨_, ⟨rfl, rfl⟩ | ⟨g, cap, cur, rfl, _⟩⟩ := h
  · exact ⟨none, 0, rfl⟩
  · exact ⟨_, _, rfl⟩

/-- A row of nodes behind which one may be put. -/
def RowV (w : World) (B : Nat) (u : Value) (us : List NodeR) : Prop := w.ownsRow B 115 4 u us.length (cellsN us)

theorem RowV.below {w w' : World} {B : Nat} {u : Value} {us : List NodeR} (h : RowV w B u us) (hb : Below w.heap.size w w') : RowV w' B u us :=
  World.ownsRow.kept h (grown_belN hb none) (by cases u.ownBlock with
  | none => exact Or.inl rfl
  | some k => exact Or.inr (by simp))

theorem RowV.lt {w : World} {B : Nat} {u : Value} {us : List NodeR} (h : RowV w B u us) : ∀ g, u.ownBlock = some g → g < w.heap.size := fun g hg => (World.ownsRow.lt h g hg).2

/-- What a call of appendTo hands back. -/
def AppPost (w : World) (B : Nat) (u : Value) (vs : List NodeR) (x : Ending) (w' : World) : Prop :=
  ∃ u', x = .returned u' ∧ Hid (RowV w' B u' vs) ∧ Hid (w.grownBy w' u.ownBlock) ∧ Hid (u'.ownBlock = u.ownBlock ∨ ∃ k, u'.ownBlock = some k ∧ w.heap.size ≤ k)

/-- A value whose appendTo puts certain nodes behind a row. -/
def AppIs (e : Value) (F : Nat → List NodeR) : Prop := ∃ T v f, e = .iface T v ∧ (∀ w, (method 312 T v "loop.example/s0059/impl.appendTo").run Try.prog w = .ok (f, v) w) ∧ (∀ a w, (callFunc f a).run Try.prog w = .ok (.enter f a) w) ∧
  ∀ (B : Nat) (u : Value) (us vs : List NodeR) (w : World), RowV w B u us → B ≤ w.heap.size → us.length + (F us.length).length ≤ 100000 → vs = us ++ F us.length → Calls Try.prog f #[v, u] w (AppPost w B u vs)

set_option maxHeartbeats 1000000 in
theorem app_num (t : ByteArray) : AppIs (eNum t) (fun _ => [⟨1, t, 0, 0⟩]) := by
  refine ⟨_, _, 171, rfl, fun w => by kernel_rfl, fun a w => by kernel_rfl, ?_⟩
  intro B u us vs w hrow hB hlen hvs
  obtain ⟨i0, hi0, hz0, hz1, hz2⟩ : ∃ i, Try.prog.info? 115 = some i ∧ i.zero = some (.agg #[.int .i64 0, .string ⟨#[]⟩, .int .i64 0, .int .i64 0]) ∧ i.size = 4 ∧ i.bytes = 40 := by
    obtain ⟨i, hi, hz⟩ := Option.map_eq_some_iff.1 infoN
    simp only [Prod.mk.injEq] at hz
    exact ⟨i, hi, hz.1, hz.2.1, hz.2.2⟩
  have HI := hide hi0
  have HZ := hide (And.intro hz0 (And.intro hz1 hz2))
  clear hi0 hz0 hz1 hz2
  obtain ⟨a, c, rfl⟩ := row_slice hrow
  have HR := hide hrow
  have HV := hide hvs
  simp only [List.length_cons, List.length_nil] at hlen
  clear hrow hvs
  go_enter Try.func171, Try.ntmps171
  go_wp2_with (at_builtin; refine wpList_append_own_at _ rfl (.tmp 5) (.tmp 10) 56 rfl B 115 i0 _ 4 40 Try.underlying56 (unhide HI) (unhide HZ).1 (unhide HZ).2.1 (unhide HZ).2.2 rfl (by decide) _ us.length (cellsN us) rfl (((unhide HR).below (below1 _ _)).below (below1 _ _)) ⟨w.heap.size + 1, 0, none⟩ 1 1 (cellsN [⟨1, t, 0, 0⟩]) rfl rfl (by simpa using new_newsN (w.alloc _) ⟨1, t, 0, 0⟩) (cellsN_one' _) ?b1 ?b2 ?b3 ?next)
  case b1 => unfold maxLen; omega
  case b2 => omega
  case b3 => first | omega | (simp; omega)
  case next =>
    intro v4 w4 hown4 hgrow4 hnil4 hat4
    have HO := hide (show RowV w4 B v4 vs by
      rw [unhide HV]
      unfold RowV
      rw [cellsN_append, List.length_append]
      exact hown4)
    have HG := hide (grown_below ((below1 _ _).alloc (by simp) _) hgrow4)
    have HA := hide (show v4.ownBlock = (Value.slice a us.length c).ownBlock ∨ ∃ k, v4.ownBlock = some k ∧ w.heap.size ≤ k from hat4.imp id (fun h => ⟨_, h, by first | omega | (simp; omega)⟩))
    clear hown4 hgrow4 hnil4 hat4
    go_wp2_with fail
    go_ret
    exact ⟨v4, rfl, HO, HG, HA⟩

set_option maxHeartbeats 1000000 in
theorem app_name (t : ByteArray) : AppIs (eName t) (fun _ => [⟨2, t, 0, 0⟩]) := by
  refine ⟨_, _, 172, rfl, fun w => by kernel_rfl, fun a w => by kernel_rfl, ?_⟩
  intro B u us vs w hrow hB hlen hvs
  obtain ⟨i0, hi0, hz0, hz1, hz2⟩ : ∃ i, Try.prog.info? 115 = some i ∧ i.zero = some (.agg #[.int .i64 0, .string ⟨#[]⟩, .int .i64 0, .int .i64 0]) ∧ i.size = 4 ∧ i.bytes = 40 := by
    obtain ⟨i, hi, hz⟩ := Option.map_eq_some_iff.1 infoN
    simp only [Prod.mk.injEq] at hz
    exact ⟨i, hi, hz.1, hz.2.1, hz.2.2⟩
  have HI := hide hi0
  have HZ := hide (And.intro hz0 (And.intro hz1 hz2))
  clear hi0 hz0 hz1 hz2
  obtain ⟨a, c, rfl⟩ := row_slice hrow
  have HR := hide hrow
  have HV := hide hvs
  simp only [List.length_cons, List.length_nil] at hlen
  clear hrow hvs
  go_enter Try.func172, Try.ntmps172
  go_wp2_with (at_builtin; refine wpList_append_own_at _ rfl (.tmp 5) (.tmp 10) 56 rfl B 115 i0 _ 4 40 Try.underlying56 (unhide HI) (unhide HZ).1 (unhide HZ).2.1 (unhide HZ).2.2 rfl (by decide) _ us.length (cellsN us) rfl (((unhide HR).below (below1 _ _)).below (below1 _ _)) ⟨w.heap.size + 1, 0, none⟩ 1 1 (cellsN [⟨2, t, 0, 0⟩]) rfl rfl (by simpa using new_newsN (w.alloc _) ⟨2, t, 0, 0⟩) (cellsN_one' _) ?b1 ?b2 ?b3 ?next)
  case b1 => unfold maxLen; omega
  case b2 => omega
  case b3 => first | omega | (simp; omega)
  case next =>
    intro v4 w4 hown4 hgrow4 hnil4 hat4
    have HO := hide (show RowV w4 B v4 vs by
      rw [unhide HV]
      unfold RowV
      rw [cellsN_append, List.length_append]
      exact hown4)
    have HG := hide (grown_below ((below1 _ _).alloc (by simp) _) hgrow4)
    have HA := hide (show v4.ownBlock = (Value.slice a us.length c).ownBlock ∨ ∃ k, v4.ownBlock = some k ∧ w.heap.size ≤ k from hat4.imp id (fun h => ⟨_, h, by first | omega | (simp; omega)⟩))
    clear hown4 hgrow4 hnil4 hat4
    go_wp2_with fail
    go_ret
    exact ⟨v4, rfl, HO, HG, HA⟩

/-- The nodes of a kid and one over it. -/
def overF (F : Nat → List NodeR) (k : Int) (t : ByteArray) (s : Nat) : List NodeR := F s ++ [⟨k, t, ((s + (F s).length : Nat) : Int) - 1, 0⟩]

theorem grown_at {w w' : World} {row row' : Option Nat} (h : w.grownBy w' row) (hr : row' = row ∨ ∃ k, row' = some k ∧ w.heap.size ≤ k) (r : Option Nat) (hr2 : r = row' ∨ ∃ k, r = some k ∧ w'.heap.size ≤ k) : r = row ∨ ∃ k, r = some k ∧ w.heap.size ≤ k := by
  have := h.size
  rcases hr2 with rfl | ⟨k, rfl, hk⟩
  · exact hr
  · exact Or.inr ⟨k, rfl, by omega⟩

set_option maxHeartbeats 1000000 in
theorem appendOver_any {e : Value} {F : Nat → List NodeR} (h : AppIs e F) (k : Int) (t : ByteArray) (B : Nat) (u : Value) (us vs : List NodeR) (w : World) (hrow : RowV w B u us) (hB : B ≤ w.heap.size) (hlen : us.length + (overF F k t us.length).length ≤ 100000) (hvs : vs = us ++ overF F k t us.length) :
    Calls Try.prog 164 #[.agg #[e], u, .int .i64 k, .string t] w (AppPost w B u vs) := by
  obtain ⟨i0, hi0, hz0, hz1, hz2⟩ : ∃ i, Try.prog.info? 115 = some i ∧ i.zero = some (.agg #[.int .i64 0, .string ⟨#[]⟩, .int .i64 0, .int .i64 0]) ∧ i.size = 4 ∧ i.bytes = 40 := by
    obtain ⟨i, hi, hz⟩ := Option.map_eq_some_iff.1 infoN
    simp only [Prod.mk.injEq] at hz
    exact ⟨i, hi, hz.1, hz.2.1, hz.2.2⟩
  have HI := hide hi0
  have HZ := hide (And.intro hz0 (And.intro hz1 hz2))
  clear hi0 hz0 hz1 hz2
  obtain ⟨T, v, f, rfl, hm, hcf, hcall⟩ := h
  have HC := hide hcall
  obtain ⟨a, c, rfl⟩ := row_slice hrow
  have HR := hide hrow
  obtain ⟨us1, HU1⟩ : ∃ us1, Hid (us1 = us ++ F us.length) := ⟨_, hide rfl⟩
  have hl1 : us1.length = us.length + (F us.length).length := by rw [unhide HU1, List.length_append]
  have hlen1 : us1.length + 1 ≤ 100000 := by
    simp only [overF, List.length_append, List.length_cons, List.length_nil] at hlen
    omega
  have HL0 := hide (show us.length + (F us.length).length ≤ 100000 by omega)
  have HV := hide (show vs = us1 ++ [⟨k, t, (us1.length : Int) - 1, 0⟩] by
    rw [hvs, unhide HU1, overF, List.length_append, List.append_assoc])
  clear hcall hrow hvs hlen hl1
  go_enter Try.func164, Try.ntmps164
  go_wp2_with fail
  refine ((unhide HC) B _ us us1 _ ((unhide HR).below (below1 _ _)) (by simp; omega) (unhide HL0) (unhide HU1)).mono ?_
  rintro x w1 ⟨u1, rfl, hr1, hg1, ho1⟩
  obtain ⟨a1, c1, rfl⟩ := row_slice (unhide hr1)
  have HG1 := hide (grown_below (below1 _ _) (unhide hg1))
  have HA1 := hide (show (Value.slice a1 us1.length c1).ownBlock = (Value.slice a us.length c).ownBlock ∨ ∃ k, (Value.slice a1 us1.length c1).ownBlock = some k ∧ w.heap.size ≤ k from (unhide ho1).imp id (fun ⟨k, h1, h2⟩ => ⟨k, h1, by simp at h2; omega⟩))
  have hz := (unhide HG1).size
  clear hg1 ho1 hm hcf
  go_wp2_with (at_builtin; refine wpList_append_own_at _ rfl (.tmp 13) (.tmp 20) 56 rfl B 115 i0 _ 4 40 Try.underlying56 (unhide HI) (unhide HZ).1 (unhide HZ).2.1 (unhide HZ).2.2 rfl (by decide) _ us1.length (cellsN us1) rfl ((unhide hr1).below (below1 _ _)) ⟨w1.heap.size, 0, none⟩ 1 1 (cellsN [⟨k, t, (us1.length : Int) - 1, 0⟩]) rfl rfl (by simpa using new_newsN w1 ⟨k, t, (us1.length : Int) - 1, 0⟩) (cellsN_one' _) ?b1 ?b2 ?b3 ?next)
  case b1 => unfold maxLen; omega
  case b2 => omega
  case b3 => first | omega | (simp; omega)
  case next =>
    intro v4 w4 hown4 hgrow4 hnil4 hat4
    have HO := hide (show RowV w4 B v4 vs by
      rw [unhide HV]
      unfold RowV
      rw [cellsN_append, List.length_append]
      exact hown4)
    have HG2 := hide (grown_below (below1 _ _) hgrow4)
    have HG := hide (grown_trans (unhide HG1) (unhide HG2) (unhide HA1))
    have HA := hide (grown_at (unhide HG1) (unhide HA1) v4.ownBlock (hat4.imp id (fun h => ⟨_, h, by first | omega | simp⟩)))
    clear hown4 hgrow4 hnil4 hat4 HG1 HG2 HA1
    go_wp2_with fail
    go_ret
    exact ⟨v4, rfl, HO, HG, HA⟩

theorem post_up {w w1 : World} {B : Nat} {u : Value} {vs : List NodeR} (h : Below w.heap.size w w1) {x : Ending} {w' : World} (hp : AppPost w1 B u vs x w') : AppPost w B u vs x w' := by
  obtain ⟨u', rfl, hr, hg, ho⟩ := hp
  have := h.size
  exact ⟨u', rfl, hr, hide (grown_below h (unhide hg)), hide ((unhide ho).imp id (fun ⟨k, h1, h2⟩ => ⟨k, h1, by omega⟩))⟩

set_option maxHeartbeats 1000000 in
theorem app_grp {e : Value} {F : Nat → List NodeR} (h : AppIs e F) : AppIs (eGrp e) (overF F 6 ByteArray.empty) := by
  refine ⟨_, _, 163, rfl, fun w => by kernel_rfl, fun a w => by kernel_rfl, ?_⟩
  intro B u us vs w hrow hB hlen hvs
  have HH := hide h
  obtain ⟨T, v, f, rfl, hm, hcf, hcall⟩ := h
  have HR := hide hrow
  have HV := hide hvs
  clear hcall hrow hvs hm hcf
  go_enter Try.func163, Try.ntmps163
  go_wp2_with fail
  refine (appendOver_any (unhide HH) 6 ByteArray.empty B _ us vs _ ((unhide HR).below (below1 _ _)) (by simp; omega) hlen (unhide HV)).mono ?_
  intro x w1 hp
  obtain ⟨u', rfl, hr, hg, ho⟩ := post_up (below1 _ _) hp
  go_wp2_with fail
  go_ret
  exact ⟨u', rfl, hr, hg, ho⟩

set_option maxHeartbeats 1000000 in
theorem app_pre {e : Value} {F : Nat → List NodeR} (h : AppIs e F) (p : OpR) : AppIs (ePre p e) (overF F 3 p.s) := by
  refine ⟨_, _, 166, rfl, fun w => by kernel_rfl, fun a w => by kernel_rfl, ?_⟩
  intro B u us vs w hrow hB hlen hvs
  have HH := hide h
  obtain ⟨T, v, f, rfl, hm, hcf, hcall⟩ := h
  have HR := hide hrow
  have HV := hide hvs
  clear hcall hrow hvs hm hcf
  go_enter Try.func166, Try.ntmps166
  go_wp2_with fail
  refine (appendOver_any (unhide HH) 3 p.s B _ us vs _ ((unhide HR).below (below1 _ _)) (by simp; omega) hlen (unhide HV)).mono ?_
  intro x w1 hp
  obtain ⟨u', rfl, hr, hg, ho⟩ := post_up (below1 _ _) hp
  go_wp2_with fail
  go_ret
  exact ⟨u', rfl, hr, hg, ho⟩

set_option maxHeartbeats 1000000 in
theorem app_post {e : Value} {F : Nat → List NodeR} (h : AppIs e F) (p : OpR) : AppIs (ePost p e) (overF F 5 p.s) := by
  refine ⟨_, _, 169, rfl, fun w => by kernel_rfl, fun a w => by kernel_rfl, ?_⟩
  intro B u us vs w hrow hB hlen hvs
  have HH := hide h
  obtain ⟨T, v, f, rfl, hm, hcf, hcall⟩ := h
  have HR := hide hrow
  have HV := hide hvs
  clear hcall hrow hvs hm hcf
  go_enter Try.func169, Try.ntmps169
  go_wp2_with fail
  refine (appendOver_any (unhide HH) 5 p.s B _ us vs _ ((unhide HR).below (below1 _ _)) (by simp; omega) hlen (unhide HV)).mono ?_
  intro x w1 hp
  obtain ⟨u', rfl, hr, hg, ho⟩ := post_up (below1 _ _) hp
  go_wp2_with fail
  go_ret
  exact ⟨u', rfl, hr, hg, ho⟩

/-- The nodes of two kids and one over them. -/
def bothF (F G : Nat → List NodeR) (t : ByteArray) (s : Nat) : List NodeR := (F s ++ G (s + (F s).length)) ++ [⟨4, t, ((s + (F s).length : Nat) : Int) - 1, ((s + (F s).length + (G (s + (F s).length)).length : Nat) : Int) - 1⟩]

set_option maxHeartbeats 2000000 in
theorem app_inf {e e' : Value} {F G : Nat → List NodeR} (h : AppIs e F) (h' : AppIs e' G) (p : OpR) : AppIs (eInf p e e') (bothF F G p.s) := by
  refine ⟨_, _, 167, rfl, fun w => by kernel_rfl, fun a w => by kernel_rfl, ?_⟩
  intro B u us vs w hrow hB hlen hvs
  obtain ⟨i0, hi0, hz0, hz1, hz2⟩ : ∃ i, Try.prog.info? 115 = some i ∧ i.zero = some (.agg #[.int .i64 0, .string ⟨#[]⟩, .int .i64 0, .int .i64 0]) ∧ i.size = 4 ∧ i.bytes = 40 := by
    obtain ⟨i, hi, hz⟩ := Option.map_eq_some_iff.1 infoN
    simp only [Prod.mk.injEq] at hz
    exact ⟨i, hi, hz.1, hz.2.1, hz.2.2⟩
  have HI := hide hi0
  have HZ := hide (And.intro hz0 (And.intro hz1 hz2))
  clear hi0 hz0 hz1 hz2
  obtain ⟨T, v, f, rfl, hm, hcf, hcall⟩ := h
  obtain ⟨T', v', f', rfl, hm', hcf', hcall'⟩ := h'
  have HC := hide hcall
  have HC' := hide hcall'
  obtain ⟨a, c, rfl⟩ := row_slice hrow
  have HR := hide hrow
  obtain ⟨us1, HU1⟩ : ∃ us1, Hid (us1 = us ++ F us.length) := ⟨_, hide rfl⟩
  have hl1 : us1.length = us.length + (F us.length).length := by rw [unhide HU1, List.length_append]
  obtain ⟨us2, HU2⟩ : ∃ us2, Hid (us2 = us1 ++ G us1.length) := ⟨_, hide rfl⟩
  have hl2 : us2.length = us1.length + (G us1.length).length := by rw [unhide HU2, List.length_append]
  have hlen1 : us2.length + 1 ≤ 100000 := by
    simp only [bothF, List.length_append, List.length_cons, List.length_nil, ← hl1] at hlen
    omega
  have HL0 := hide (show us.length + (F us.length).length ≤ 100000 by omega)
  have HL1 := hide (show us1.length + (G us1.length).length ≤ 100000 by omega)
  have hlen2 : us1.length ≤ 100000 := by omega
  have HV := hide (show vs = us2 ++ [⟨4, p.s, (us1.length : Int) - 1, (us2.length : Int) - 1⟩] by
    have e : us2 = us ++ (F us.length ++ G us1.length) := (unhide HU2).trans ((congrArg (· ++ G us1.length) (unhide HU1)).trans (List.append_assoc _ _ _))
    rw [hvs]
    unfold bothF
    rw [← hl1, ← hl2, ← List.append_assoc, ← e])
  clear hcall hrow hvs hlen hcall' hl1 hl2
  go_enter Try.func167, Try.ntmps167
  go_wp2_with fail
  refine ((unhide HC) B _ us us1 _ ((unhide HR).below (below1 _ _)) (by simp; omega) (unhide HL0) (unhide HU1)).mono ?_
  rintro x w1 ⟨u1, rfl, hr1, hg1, ho1⟩
  obtain ⟨a1, c1, rfl⟩ := row_slice (unhide hr1)
  have hnb : (Value.slice a us.length c).ownBlock ≠ some w.heap.size := fun e => by have := (unhide HR).lt _ e; omega
  have q0 : w1.cell? ⟨w.heap.size, 0, none⟩ = some (.string p.s) := (grown_cell (unhide hg1) (b := w.heap.size) (by simp) hnb 0).trans (by simp [go_sem])
  have q5 : w1.cell? ⟨w.heap.size, 5, none⟩ = some (.iface T' v') := (grown_cell (unhide hg1) (b := w.heap.size) (by simp) hnb 5).trans (by simp [go_sem])
  have HG1 := hide (grown_below (below1 _ _) (unhide hg1))
  have HA0 := hide (unhide ho1)
  have HA1 := hide (show (Value.slice a1 us1.length c1).ownBlock = (Value.slice a us.length c).ownBlock ∨ ∃ k, (Value.slice a1 us1.length c1).ownBlock = some k ∧ w.heap.size ≤ k from (unhide ho1).imp id (fun ⟨k, h1, h2⟩ => ⟨k, h1, by simp at h2; omega⟩))
  have hz := (unhide HG1).size
  have hz1 : w.heap.size + 1 ≤ w1.heap.size := by have := (unhide hg1).size; simp at this; omega
  have hnb1 : (Value.slice a1 us1.length c1).ownBlock ≠ some w.heap.size := fun e => by
    rcases unhide HA0 with h | ⟨k, h1, h2⟩
    · exact hnb (h.symm.trans e)
    · rw [h1] at e; injection e with e; simp at h2; omega
  clear hg1 ho1 hm hcf HA0
  go_wp2_with fail
  refine ((unhide HC') B _ us1 us2 _ (unhide hr1) (by omega) (unhide HL1) (unhide HU2)).mono ?_
  rintro x w2 ⟨u2, rfl, hr2, hg2, ho2⟩
  obtain ⟨a2, c2, rfl⟩ := row_slice (unhide hr2)
  have r0 : w2.cell? ⟨w.heap.size, 0, none⟩ = some (.string p.s) := (grown_cell (unhide hg2) (b := w.heap.size) (by omega) hnb1 0).trans q0
  have HG2 := hide (grown_trans (unhide HG1) (unhide hg2) (unhide HA1))
  have HA2 := hide (grown_at (unhide HG1) (unhide HA1) _ (unhide ho2))
  have hz2 := (unhide HG2).size
  clear hg2 ho2 hm' hcf' HG1 HA1 q0 q5 hr1
  go_wp2_with (at_builtin; refine wpList_append_own_at _ rfl (.tmp 17) (.tmp 27) 56 rfl B 115 i0 _ 4 40 Try.underlying56 (unhide HI) (unhide HZ).1 (unhide HZ).2.1 (unhide HZ).2.2 rfl (by decide) _ us2.length (cellsN us2) rfl ((unhide hr2).below (below1 _ _)) ⟨w2.heap.size, 0, none⟩ 1 1 (cellsN [⟨4, p.s, (us1.length : Int) - 1, (us2.length : Int) - 1⟩]) rfl rfl (by simpa using new_newsN w2 ⟨4, p.s, (us1.length : Int) - 1, (us2.length : Int) - 1⟩) (cellsN_one' _) ?b1 ?b2 ?b3 ?next)
  case b1 => unfold maxLen; omega
  case b2 => omega
  case b3 => first | omega | (simp; omega)
  case next =>
    intro v4 w4 hown4 hgrow4 hnil4 hat4
    have HO := hide (show RowV w4 B v4 vs by
      rw [unhide HV]
      unfold RowV
      rw [cellsN_append, List.length_append]
      exact hown4)
    have HG3 := hide (grown_below (below1 _ _) hgrow4)
    have HG := hide (grown_trans (unhide HG2) (unhide HG3) (unhide HA2))
    have HA := hide (grown_at (unhide HG2) (unhide HA2) v4.ownBlock (hat4.imp id (fun h => ⟨_, h, by first | omega | simp⟩)))
    clear hown4 hgrow4 hnil4 hat4 HG2 HG3 HA2
    go_wp2_with fail
    go_ret
    exact ⟨v4, rfl, HO, HG, HA⟩

/-- The nodes of a stretch anew. -/
theorem app_fS (ns : List OpR) (xs : List NodeR) (htx : ∀ i, i < xs.length → TxtOk (atN xs i)) (hkn : Knows ns xs) : ∀ n i f, i < n → i < xs.length → frS xs i = some f → ∀ l, AppIs (fS ns xs i l) (gS ns xs i l)
  | 0, _, _, h, _, _ => absurd h (Nat.not_lt_zero _)
  | n + 1, i, f, h, hi, hf => by
    intro l
    have hcl : ∀ (e : Value) (F : Nat → List NodeR), AppIs e F → (∀ s, gS ns xs i l s = clos ns (atN xs i) l s (F s)) → AppIs (closV ns (atN xs i) l e) (gS ns xs i l) := by
      intro e F he hF
      unfold closV
      by_cases hl : levN ns (atN xs i) < l
      · rw [if_pos hl]
        have : gS ns xs i l = overF F 6 ByteArray.empty := by
          funext s
          rw [hF s, clos, if_pos hl, overF]
        rw [this]
        exact app_grp he
      · rw [if_neg hl]
        have : gS ns xs i l = F := by
          funext s
          rw [hF s, clos, if_neg hl]
        rw [this]
        exact he
    have hop : ∀ j, fnd ns (atN xs i).t ((atN xs i).k - 2) = some j → (opA ns (atN xs i)).s = (atN xs i).t := fun j hj => by
      unfold opA
      rw [hj]
      exact (fnd_some hj).2.1
    have hso : isOpN (atN xs i) → (opA ns (atN xs i)).s = (atN xs i).t := fun ho => by
      cases e : fnd ns (atN xs i).t ((atN xs i).k - 2) with
      | none => exact absurd e (hkn i hi ho)
      | some j => exact hop j e
    rcases frS_some hf with ⟨hk, ha, hb, hfi⟩ | ⟨hk, h1i, ha, hbb, hf1⟩ | ⟨hk, h1i, hbb, f2, hf2, h2f, ha, hf1⟩
    · rw [fS_zero hk]
      rcases (htx i hi).2 with ⟨h1, _⟩ | ⟨h2, _⟩ | ⟨h6, _⟩ | ⟨h345, _⟩
      · refine hcl _ _ ?_ (fun s => gS_zero hk l s)
        simp only [exN, h1, if_true]
        exact app_num _
      · refine hcl _ _ ?_ (fun s => gS_zero hk l s)
        simp only [exN, h2, if_true]
        exact app_name _
      · rw [h6] at hk; simp [kids] at hk
      · rcases h345 with h | h | h <;> rw [h] at hk <;> simp [kids] at hk
    · have ih := app_fS ns xs htx hkn n (i - 1) f (by omega) (by omega) hf1
      rcases (htx i hi).2 with ⟨h1, _⟩ | ⟨h2, _⟩ | ⟨h6, _⟩ | ⟨h345, _⟩
      · rw [h1] at hk; simp [kids] at hk
      · rw [h2] at hk; simp [kids] at hk
      · rw [fS_group h6 h1i hf1]
        have : gS ns xs i l = gS ns xs (i - 1) l := by funext s; exact gS_group h6 h1i hf1 l s
        rw [this]
        exact ih l
      · rcases h345 with h | h | h
        · rw [fS_one hk (by omega) h1i hf1]
          refine hcl _ (overF (gS ns xs (i - 1) (holeN ns (atN xs i) false)) 3 (atN xs i).t) ?_ (fun s => by rw [gS_one hk (by omega) h1i hf1 l s rfl, overF, h])
          simp only [exN, h]
          rw [← hso ⟨by omega, by omega⟩]
          exact app_pre (ih _) _
        · rw [h] at hk; simp [kids] at hk
        · rw [fS_one hk (by omega) h1i hf1]
          refine hcl _ (overF (gS ns xs (i - 1) (holeN ns (atN xs i) false)) 5 (atN xs i).t) ?_ (fun s => by rw [gS_one hk (by omega) h1i hf1 l s rfl, overF, h])
          simp only [exN, h]
          rw [← hso ⟨by omega, by omega⟩]
          exact app_post (ih _) _
    · have hle := frS_le hf2
      have h4 : (atN xs i).k = 4 := by
        unfold kids at hk
        split at hk
        · assumption
        · split at hk <;> omega
      rw [fS_two hk h1i hf2 h2f ha hf1]
      refine hcl _ (bothF (gS ns xs (f2 - 1) (holeN ns (atN xs i) false)) (gS ns xs (i - 1) (holeN ns (atN xs i) true)) (atN xs i).t) ?_ (fun s => by rw [gS_two hk h1i hf2 h2f ha hf1 l s rfl rfl, bothF, h4])
      simp only [exN, h4]
      rw [← hso ⟨by omega, by omega⟩]
      exact app_inf (app_fS ns xs htx hkn n (f2 - 1) f (by omega) (by omega) hf1 _) (app_fS ns xs htx hkn n (i - 1) f2 (by omega) (by omega) hf2 _) _
end Go.Proofs.Ytokabkhnidlcnab

/-
  Walks: the specification's kinds of bytes, forms of texts.
-/
namespace Go.Proofs.Ytokabkhnidlcnab
set_option maxRecDepth 100000
open Go.RowKit

theorem l2Digit_any (c : UInt8) (w : World) :
    Calls Try.prog 120 #[.int .u8 (c.toNat : Int)] w fun e w' => e = .returned (.bool (decide (cls c = 2))) ∧ w' = w := by
  go_enter Try.func120, Try.ntmps120
  go_wp2
  all_goals (go_ret; refine ⟨ret_bool ?_, rfl⟩; go_light; rw [Bool.eq_iff_iff]; simp [cls_dig] <;> omega)

theorem l2Letter_any (c : UInt8) (w : World) :
    Calls Try.prog 119 #[.int .u8 (c.toNat : Int)] w fun e w' => e = .returned (.bool (decide (cls c = 3))) ∧ w' = w := by
  go_enter Try.func119, Try.ntmps119
  go_wp2
  all_goals (go_ret; refine ⟨ret_bool ?_, rfl⟩; go_light; rw [Bool.eq_iff_iff]; simp [cls_let] <;> omega)

theorem l2Blank_any (c : UInt8) (w : World) :
    Calls Try.prog 50 #[.int .u8 (c.toNat : Int)] w fun e w' => e = .returned (.bool (decide (cls c = 1))) ∧ w' = w := by
  go_enter Try.func50, Try.ntmps50
  go_wp2
  all_goals (go_ret; refine ⟨ret_bool ?_, rfl⟩; go_light; (try simp only [beq_iff_eq, beq_eq_false_iff_ne, ne_eq] at *); rw [Bool.eq_iff_iff]; simp [cls_blank] <;> omega)

/-- A Bool that says whether p holds. -/
def Says (v : Bool) (p : Prop) : Prop := v = true ↔ p
/-- The call gives a Bool that says whether p holds. -/
def RetB (e : Ending) (p : Prop) : Prop := ∃ v : Bool, e = .returned (.bool v) ∧ Says v p

set_option maxHeartbeats 400000 in
theorem l2IsNumber_any (s : ByteArray) (w : World) (hs : s.size ≤ maxLen) :
    Calls Try.prog 84 #[.string s] w fun e w' => RetB e (NumT s) ∧ w' = w := by
  unfold maxLen at hs
  go_enter Try.func84, Try.ntmps84
  go_wp2
  go_loop [3] (fun i => ∃ k : Nat, k ≤ s.size ∧ i = .int .i64 k ∧ Hid (∀ j, j < k → cls (bt s j) = 2)) (fun i => s.size - (intOf i).toNat)
  case atStart => exact ⟨0, Nat.zero_le _, rfl, hide (fun j h => by omega)⟩
  case round =>
    obtain ⟨k, hk, rfl, hn⟩ := hrel
    by_cases hlt : k < s.size
    · cases hb : decide (cls s[k] = 2)
      · have Hb := hide hb
        go_wp2_with (go_at_call 120; refine (l2Digit_any _ _).mono ?_; rintro e w' ⟨rfl, rfl⟩)
        go_ret
        refine ⟨⟨_, rfl, ⟨fun h => (by cases h), fun h => ?_⟩⟩, rfl⟩
        have h2 := h.2 k hlt
        have := unhide Hb
        rw [bt_get hlt] at this
        simp at this
        exact absurd h2 this
      · have Hb := hide hb
        go_wp2_with (go_at_call 120; refine (l2Digit_any _ _).mono ?_; rintro e w' ⟨rfl, rfl⟩)
        refine ⟨⟨k + 1, by omega, by go_num, hide (fun j hj => ?_)⟩, by simp [intOf]; omega⟩
        by_cases e : j = k
        · subst e
          have := unhide Hb
          rw [bt_get hlt] at this
          simpa using this
        · exact (unhide hn) j (by omega)
    · by_cases h1 : 1 ≤ s.size
      · have h1' : (1 : Int) ≤ (s.size : Int) := by omega
        go_wp2
        go_ret
        exact ⟨⟨_, rfl, ⟨fun _ => ⟨h1, fun j hj => (unhide hn) j (by omega)⟩, fun _ => by simp; omega⟩⟩, rfl⟩
      · go_wp2
        go_ret
        exact ⟨⟨decide (0 < s.size), rfl, ⟨fun h => absurd (of_decide_eq_true h) (by omega), fun h => absurd h.1 h1⟩⟩, rfl⟩

set_option maxHeartbeats 400000 in
theorem l2IsName_any (s : ByteArray) (w : World) (hs : s.size ≤ maxLen) :
    Calls Try.prog 85 #[.string s] w fun e w' => RetB e (NameT s) ∧ w' = w := by
  unfold maxLen at hs
  go_enter Try.func85, Try.ntmps85
  go_wp2
  go_loop [3] (fun i => ∃ k : Nat, k ≤ s.size ∧ i = .int .i64 k ∧ Hid (∀ j, j < k → (cls (bt s j) = 3 ∨ (j ≠ 0 ∧ cls (bt s j) = 2)))) (fun i => s.size - (intOf i).toNat)
  case atStart => exact ⟨0, Nat.zero_le _, rfl, hide (fun j h => by omega)⟩
  case round =>
    obtain ⟨k, hk, rfl, hn⟩ := hrel
    by_cases hlt : k < s.size
    · have hbk := hide (bt_get hlt)
      have no : (¬ cls (bt s k) = 3) → (k = 0 ∨ ¬ cls (bt s k) = 2) → ∀ v, v = false → Says v (NameT s) := fun h1 h2 v hv => by
        subst hv
        refine ⟨fun h => (by cases h), fun h => ?_⟩
        have := h.2 k hlt
        omega
      have NO := hide no
      clear no
      cases hb : decide (cls s[k] = 3)
      · have hb3 := hide (show ¬ cls (bt s k) = 3 by rw [bt_get hlt] at hb; simpa using hb)
        by_cases hk0 : k = 0
        · subst hk0
          go_wp2_with (go_at_call 119; refine (l2Letter_any _ _).mono ?_; rintro e w' ⟨rfl, rfl⟩)
          go_ret
          exact ⟨⟨_, rfl, (unhide NO) (unhide hb3) (Or.inl trivial) _ rfl⟩, rfl⟩
        · have hk0' : ((k : Int) == 0) = false := by simp; omega
          cases hd : decide (cls s[k] = 2)
          · have hd2 := hide (show ¬ cls (bt s k) = 2 by rw [bt_get hlt] at hd; simpa using hd)
            go_wp2_with (first | (go_at_call 119; refine (l2Letter_any _ _).mono ?_; rintro e w' ⟨rfl, rfl⟩) | (go_at_call 120; refine (l2Digit_any _ _).mono ?_; rintro e w' ⟨rfl, rfl⟩))
            go_ret
            exact ⟨⟨_, rfl, (unhide NO) (unhide hb3) (Or.inr (unhide hd2)) _ rfl⟩, rfl⟩
          · have hd2 := hide (show cls (bt s k) = 2 by rw [bt_get hlt] at hd; simpa using hd)
            go_wp2_with (first | (go_at_call 119; refine (l2Letter_any _ _).mono ?_; rintro e w' ⟨rfl, rfl⟩) | (go_at_call 120; refine (l2Digit_any _ _).mono ?_; rintro e w' ⟨rfl, rfl⟩))
            refine ⟨⟨k + 1, by omega, by go_num, hide (fun j hj => ?_)⟩, by simp [intOf]; omega⟩
            by_cases e : j = k
            · subst e
              exact Or.inr ⟨hk0, unhide hd2⟩
            · exact (unhide hn) j (by omega)
      · have hb3 := hide (show cls (bt s k) = 3 by rw [bt_get hlt] at hb; simpa using hb)
        go_wp2_with (go_at_call 119; refine (l2Letter_any _ _).mono ?_; rintro e w' ⟨rfl, rfl⟩)
        refine ⟨⟨k + 1, by omega, by go_num, hide (fun j hj => ?_)⟩, by simp [intOf]; omega⟩
        by_cases e : j = k
        · subst e
          exact Or.inl (unhide hb3)
        · exact (unhide hn) j (by omega)
    · by_cases h1 : 1 ≤ s.size
      · have h1' : (1 : Int) ≤ (s.size : Int) := by omega
        go_wp2
        go_ret
        exact ⟨⟨_, rfl, ⟨fun _ => ⟨h1, fun j hj => (unhide hn) j (by omega)⟩, fun _ => by simp; omega⟩⟩, rfl⟩
      · go_wp2
        go_ret
        exact ⟨⟨decide (0 < s.size), rfl, ⟨fun h => absurd (of_decide_eq_true h) (by omega), fun h => absurd h.1 h1⟩⟩, rfl⟩

theorem bytes_inj {a b : ByteArray} (h : a.toList = b.toList) : a = b := by
  rw [ByteArray.toList_eq, ByteArray.toList_eq] at h
  obtain ⟨⟨l⟩⟩ := a
  obtain ⟨⟨l'⟩⟩ := b
  simpa using h

set_option maxHeartbeats 400000 in
theorem l2Find_any (b off cap : Nat) (xs : List OpR) (t : ByteArray) (kd : Int) (w : World) (hm : xs.length ≤ 1048576) (hw : Ops w b off xs) (hB : b < w.heap.size) :
    Calls Try.prog 94 #[.agg #[.slice (some ⟨b, off, none⟩) xs.length cap], .string t, .int .i64 kd] w fun e w' => (∃ r : Int, e = .returned (.int .i64 r) ∧ (0 ≤ r ↔ ∃ j, j < xs.length ∧ (atO xs j).s = t ∧ (atO xs j).k = kd)) ∧ Below w.heap.size w w' := by
  go_enter Try.func94, Try.ntmps94
  go_wp2
  have hops : Ops (w.alloc (.cells #[.slice (some ⟨b, off, none⟩) xs.length cap] 28)) b off xs := hw.below (below1 _ _) hB
  have HO := hide hops
  clear hops hw
  go_loop [7] (fun i => ∃ k : Nat, k ≤ xs.length ∧ i = .int .i64 k ∧ Hid (∀ j, j < k → ¬ ((atO xs j).s = t ∧ (atO xs j).k = kd))) (fun i => xs.length - (intOf i).toNat)
  case atStart => exact ⟨0, Nat.zero_le _, rfl, hide (fun j h => by omega)⟩
  case round =>
    obtain ⟨k, hk, rfl, hn⟩ := hrel
    by_cases hlt : k < xs.length
    · obtain ⟨a0, a1, a2, a3⟩ := (unhide HO) k hlt
      have hnx := hide (show ∀ (_ : ¬ ((atO xs k).s = t ∧ (atO xs k).k = kd)), ∀ j, j < k + 1 → ¬ ((atO xs j).s = t ∧ (atO xs j).k = kd) from fun hne j hj => by
        by_cases e : j = k
        · subst e; exact hne
        · exact (unhide hn) j (by omega))
      go_wp2
      · rename_i hs1 hk1 _
        go_ret
        exact ⟨⟨(k : Int), rfl, ⟨fun _ => ⟨k, hlt, bytes_inj hs1, by simpa using hk1⟩, fun _ => by omega⟩⟩, below1 _ _⟩
      · refine ⟨⟨k + 1, by omega, by go_num, hide ((unhide hnx) ?_)⟩, by simp [intOf]; omega⟩
        rintro ⟨_, h⟩
        simp_all
      · refine ⟨⟨k + 1, by omega, by go_num, hide ((unhide hnx) ?_)⟩, by simp [intOf]; omega⟩
        rintro ⟨h, _⟩
        simp_all
    · go_wp2
      go_ret
      refine ⟨⟨-1, rfl, ⟨fun h => absurd h (by decide), fun ⟨j, hj, h⟩ => absurd h ((unhide hn) j (by omega))⟩⟩, below1 _ _⟩
end Go.Proofs.Ytokabkhnidlcnab

/-
  Walks: the specification's trees in order.
-/
namespace Go.Proofs.Ytokabkhnidlcnab
set_option maxRecDepth 100000
open Go.RowKit

theorem l3Kids_any (k : Int) (w : World) :
    Calls Try.prog 102 #[.int .i64 k] w fun e w' => e = .returned (.int .i64 (kids k : Int)) ∧ w' = w := by
  by_cases h4 : k = 4
  · subst h4
    go_enter Try.func102, Try.ntmps102
    go_wp2
    go_ret
    exact ⟨ret_int (by simp [kids]), rfl⟩
  by_cases h3 : k = 3
  · subst h3
    go_enter Try.func102, Try.ntmps102
    go_wp2
    go_ret
    exact ⟨ret_int (by simp [kids]), rfl⟩
  by_cases h5 : k = 5
  · subst h5
    go_enter Try.func102, Try.ntmps102
    go_wp2
    go_ret
    exact ⟨ret_int (by simp [kids]), rfl⟩
  by_cases h6 : k = 6
  · subst h6
    go_enter Try.func102, Try.ntmps102
    go_wp2
    go_ret
    exact ⟨ret_int (by simp [kids]), rfl⟩
  have e4 : (k == 4) = false := by simpa using h4
  have e3 : (k == 3) = false := by simpa using h3
  have e5 : (k == 5) = false := by simpa using h5
  have e6 : (k == 6) = false := by simpa using h6
  have HK := hide (show kids k = 0 by simp [kids, h4, h3, h5, h6])
  clear h4 h3 h5 h6
  go_enter Try.func102, Try.ntmps102
  go_wp2
  go_ret
  exact ⟨ret_int (by rw [unhide HK]; rfl), rfl⟩

theorem l3Kids_is {k : Int} {n : Nat} (h : kids k = n) (z : Int) (hz : (n : Int) = z) (w : World) :
    Calls Try.prog 102 #[.int .i64 k] w fun e w' => e = .returned (.int .i64 z) ∧ w' = w := by
  subst hz
  subst h
  exact l3Kids_any k w

/-- What l3From gives. -/
def frI (xs : List NodeR) (i : Nat) : Int := match frS xs i with
  | some f => (f : Int)
  | none => -1

theorem frI_some {xs : List NodeR} {i f : Nat} (h : frS xs i = some f) : frI xs i = (f : Int) := by unfold frI; rw [h]
theorem frI_none {xs : List NodeR} {i : Nat} (h : frS xs i = none) : frI xs i = -1 := by unfold frI; rw [h]

theorem l3From_neg (a : Option Addr) (n cap : Nat) (w : World) :
    Calls Try.prog 109 #[.slice a n cap, .int .i64 (-1)] w fun e w' => e = .returned (.int .i64 (-1)) ∧ w' = w := by
  go_enter Try.func109, Try.ntmps109
  go_wp2
  go_ret
  exact ⟨rfl, rfl⟩

set_option maxHeartbeats 4000000 in
theorem l3From_any (b off cap : Nat) (xs : List NodeR) (hm : xs.length ≤ 1048576) : ∀ (n i : Nat) (w : World), i < n → i < xs.length → OpsN w b off xs → b < w.heap.size →
    Calls Try.prog 109 #[.slice (some ⟨b, off, none⟩) xs.length cap, .int .i64 (i : Int)] w fun e w' => e = .returned (.int .i64 (frI xs i)) ∧ Below w.heap.size w w'
  | 0, _, _, h, _, _, _ => absurd h (Nat.not_lt_zero _)
  | n + 1, i, w, hin, hi, hw, hB => by
    obtain ⟨h0, h1, h2, h3⟩ := hw i hi
    have IH := hide (l3From_any b off cap xs hm n)
    have HW := hide hw
    have hiI : (i : Int) < (xs.length : Int) := by omega
    have hi0 : ¬ (i : Int) < 0 := by omega
    clear hw
    rcases kids_cases (atN xs i).k with hk | hk | hk
    · have HK := hide hk
      have HF := hide (frS_zero hk)
      clear hk
      by_cases ha : (atN xs i).a = 0
      · rw [ha] at h2
        by_cases hb : (atN xs i).b = 0
        · rw [hb] at h3
          have HR := hide (show frI xs i = (i : Int) from frI_some (by rw [unhide HF, if_pos ⟨ha, hb⟩]))
          clear ha hb
          go_enter Try.func109, Try.ntmps109
          go_wp2_with (go_at_call 102; refine (l3Kids_is (unhide HK) 0 rfl _).mono ?_; rintro e w' ⟨rfl, rfl⟩)
          go_ret
          exact ⟨ret_int (unhide HR).symm, below1 _ _⟩
        · have hb' : ((atN xs i).b == 0) = false := by simpa using hb
          have hb'' : ((atN xs i).b != 0) = true := by simpa using hb
          have HR := hide (show frI xs i = -1 from frI_none (by rw [unhide HF, if_neg (fun h => hb h.2)]))
          clear ha hb
          go_enter Try.func109, Try.ntmps109
          go_wp2_with (go_at_call 102; refine (l3Kids_is (unhide HK) 0 rfl _).mono ?_; rintro e w' ⟨rfl, rfl⟩)
          go_ret
          exact ⟨ret_int (unhide HR).symm, below1 _ _⟩
      · have ha' : ((atN xs i).a == 0) = false := by simpa using ha
        have ha'' : ((atN xs i).a != 0) = true := by simpa using ha
        have HR := hide (show frI xs i = -1 from frI_none (by rw [unhide HF, if_neg (fun h => ha h.1)]))
        clear ha
        go_enter Try.func109, Try.ntmps109
        go_wp2_with (go_at_call 102; refine (l3Kids_is (unhide HK) 0 rfl _).mono ?_; rintro e w' ⟨rfl, rfl⟩)
        go_ret
        exact ⟨ret_int (unhide HR).symm, below1 _ _⟩
    · have HK := hide hk
      have HF := hide (frS_one hk)
      clear hk
      by_cases ha : (atN xs i).a = (i : Int) - 1
      · rw [ha] at h2
        by_cases hb : (atN xs i).b = 0
        · rw [hb] at h3
          by_cases h1i : 1 ≤ i
          · have HR := hide (show frI xs i = frI xs (i - 1) by unfold frI; rw [unhide HF, if_pos ⟨h1i, ha, hb⟩])
            have ei : (i : Int) - 1 = ((i - 1 : Nat) : Int) := by omega
            clear ha hb
            go_enter Try.func109, Try.ntmps109
            go_wp2_with (first | (go_at_call 102; refine (l3Kids_is (unhide HK) 1 rfl _).mono ?_; rintro e w' ⟨rfl, rfl⟩) | (go_at_call 109; refine ((unhide IH) (i - 1) _ (by omega) (by omega) ((unhide HW).below (below1 _ _) hB) (by simp; omega)).mono ?_; rintro e w' ⟨rfl, hb1⟩))
            go_ret
            exact ⟨ret_int (unhide HR).symm, (below1 _ _).trans (hb1.mono (by simp))⟩
          · have HR := hide (show frI xs i = -1 from frI_none (by rw [unhide HF, if_neg (fun h => h1i h.1)]))
            have ei : (i : Int) - 1 = -1 := by omega
            clear ha hb h1i
            go_enter Try.func109, Try.ntmps109
            go_wp2_with (first | (go_at_call 102; refine (l3Kids_is (unhide HK) 1 rfl _).mono ?_; rintro e w' ⟨rfl, rfl⟩) | (go_at_call 109; refine (l3From_neg _ _ _ _).mono ?_; rintro e w' ⟨rfl, rfl⟩))
            go_ret
            exact ⟨ret_int (unhide HR).symm, below1 _ _⟩
        · have hb' : ((atN xs i).b == 0) = false := by simpa using hb
          have hb'' : ((atN xs i).b != 0) = true := by simpa using hb
          have HR := hide (show frI xs i = -1 from frI_none (by rw [unhide HF, if_neg (fun h => hb h.2.2)]))
          clear ha hb
          go_enter Try.func109, Try.ntmps109
          go_wp2_with (go_at_call 102; refine (l3Kids_is (unhide HK) 1 rfl _).mono ?_; rintro e w' ⟨rfl, rfl⟩)
          go_ret
          exact ⟨ret_int (unhide HR).symm, below1 _ _⟩
      · have ha' : ((atN xs i).a == (i : Int) - 1) = false := by simpa using ha
        have ha'' : ((atN xs i).a != (i : Int) - 1) = true := by simpa using ha
        have HR := hide (show frI xs i = -1 from frI_none (by rw [unhide HF, if_neg (fun h => ha h.2.1)]))
        clear ha
        go_enter Try.func109, Try.ntmps109
        go_wp2_with (go_at_call 102; refine (l3Kids_is (unhide HK) 1 rfl _).mono ?_; rintro e w' ⟨rfl, rfl⟩)
        go_ret
        exact ⟨ret_int (unhide HR).symm, below1 _ _⟩
    · have HK := hide hk
      have HN := hide (frS_two_none (xs := xs) (i := i) hk)
      have HP := hide (fun (p1 : 1 ≤ i) p2 f p3 p4 p5 => frS_two (xs := xs) (i := i) (f := f) hk p1 p2 p3 p4 p5)
      clear hk
      by_cases hb : (atN xs i).b = (i : Int) - 1
      case neg =>
        have hb' : ((atN xs i).b == (i : Int) - 1) = false := by simpa using hb
        have hb'' : ((atN xs i).b != (i : Int) - 1) = true := by simpa using hb
        have HR := hide (show frI xs i = -1 from frI_none ((unhide HN) (fun h => hb h.2.1)))
        clear hb
        go_enter Try.func109, Try.ntmps109
        go_wp2_with (go_at_call 102; refine (l3Kids_is (unhide HK) 2 rfl _).mono ?_; rintro e w' ⟨rfl, rfl⟩)
        go_ret
        exact ⟨ret_int (unhide HR).symm, below1 _ _⟩
      rw [hb] at h3
      by_cases h1i : 1 ≤ i
      case neg =>
        have HR := hide (show frI xs i = -1 from frI_none ((unhide HN) (fun h => h1i h.1)))
        have ei : (i : Int) - 1 = -1 := by omega
        clear hb h1i
        go_enter Try.func109, Try.ntmps109
        go_wp2_with (first | (go_at_call 102; refine (l3Kids_is (unhide HK) 2 rfl _).mono ?_; rintro e w' ⟨rfl, rfl⟩) | (go_at_call 109; refine (l3From_neg _ _ _ _).mono ?_; rintro e w' ⟨rfl, rfl⟩))
        go_ret
        exact ⟨ret_int (unhide HR).symm, below1 _ _⟩
      have ei : (i : Int) - 1 = ((i - 1 : Nat) : Int) := by omega
      cases hf : frS xs (i - 1) with
      | none =>
        have HR := hide (show frI xs i = -1 from frI_none ((unhide HN) (fun ⟨_, _, f, h, _⟩ => by rw [hf] at h; cases h)))
        have HI := hide (frI_none hf)
        clear hb hf
        go_enter Try.func109, Try.ntmps109
        go_wp2_with (first | (go_at_call 102; refine (l3Kids_is (unhide HK) 2 rfl _).mono ?_; rintro e w' ⟨rfl, rfl⟩) | (go_at_call 109; refine ((unhide IH) (i - 1) _ (by omega) (by omega) ((unhide HW).below (below1 _ _) hB) (by simp; omega)).mono ?_; rw [unhide HI]; rintro e w' ⟨rfl, hb1⟩))
        go_ret
        exact ⟨ret_int (unhide HR).symm, (below1 _ _).trans (hb1.mono (by simp))⟩
      | some f =>
        have hle := frS_le hf
        have HI := hide (frI_some hf)
        by_cases hf1 : 1 ≤ f
        case neg =>
          have HR := hide (show frI xs i = -1 from frI_none ((unhide HN) (fun ⟨_, _, f', h, h', _⟩ => by rw [hf] at h; injection h with h; omega)))
          have hf0 : (f : Int) < 1 := by omega
          clear hb hf
          go_enter Try.func109, Try.ntmps109
          go_wp2_with (first | (go_at_call 102; refine (l3Kids_is (unhide HK) 2 rfl _).mono ?_; rintro e w' ⟨rfl, rfl⟩) | (go_at_call 109; refine ((unhide IH) (i - 1) _ (by omega) (by omega) ((unhide HW).below (below1 _ _) hB) (by simp; omega)).mono ?_; rw [unhide HI]; rintro e w' ⟨rfl, hb1⟩))
          go_ret
          exact ⟨ret_int (unhide HR).symm, (below1 _ _).trans (hb1.mono (by simp))⟩
        have hf0 : ¬ (f : Int) < 1 := by omega
        have hfm : (f : Int) ≤ 1048576 := by omega
        by_cases ha : (atN xs i).a = (f : Int) - 1
        case neg =>
          have ha' : ((atN xs i).a == (f : Int) - 1) = false := by simpa using ha
          have ha'' : ((atN xs i).a != (f : Int) - 1) = true := by simpa using ha
          have HR := hide (show frI xs i = -1 from frI_none ((unhide HN) (fun ⟨_, _, f', h, _, h'⟩ => by rw [hf] at h; injection h with h; subst h; exact ha h')))
          clear hb hf ha
          go_enter Try.func109, Try.ntmps109
          go_wp2_with (first | (go_at_call 102; refine (l3Kids_is (unhide HK) 2 rfl _).mono ?_; rintro e w' ⟨rfl, rfl⟩) | (go_at_call 109; refine ((unhide IH) (i - 1) _ (by omega) (by omega) ((unhide HW).below (below1 _ _) hB) (by simp; omega)).mono ?_; rw [unhide HI]; rintro e w' ⟨rfl, hb1⟩; have c1 : w'.cell? ⟨w.heap.size, 2, none⟩ = some (.int .i64 (atN xs i).a) := (hb1.cell (p := ⟨w.heap.size, 2, none⟩) (by simp)).trans (by simp [go_sem])))
          go_ret
          exact ⟨ret_int (unhide HR).symm, (below1 _ _).trans (hb1.mono (by simp))⟩
        rw [ha] at h2
        have HR := hide (show frI xs i = frI xs (f - 1) by unfold frI; rw [(unhide HP) h1i hb f hf hf1 ha])
        have ef : (f : Int) - 1 = ((f - 1 : Nat) : Int) := by omega
        clear hb hf ha
        go_enter Try.func109, Try.ntmps109
        go_wp2_with (go_at_call 102; refine (l3Kids_is (unhide HK) 2 rfl _).mono ?_; rintro e w' ⟨rfl, rfl⟩)
        refine ((unhide IH) (i - 1) _ (by omega) (by omega) ((unhide HW).below (below1 _ _) hB) (by simp; omega)).mono ?_
        rw [unhide HI]
        rintro e w1 ⟨rfl, hb1⟩
        have c1 : w1.cell? ⟨w.heap.size, 2, none⟩ = some (.int .i64 ((f : Int) - 1)) := (hb1.cell (p := ⟨w.heap.size, 2, none⟩) (by simp)).trans (by simp [go_sem, ef])
        go_wp2_with fail
        refine ((unhide IH) (f - 1) _ (by omega) (by omega) ((unhide HW).below ((below1 _ _).trans (hb1.mono (by simp))) hB) (by have := hb1.size; simp at this; omega)).mono ?_
        rintro e w2 ⟨rfl, hb2⟩
        go_wp2_with fail
        go_ret
        exact ⟨ret_int (unhide HR).symm, ((below1 _ _).trans (hb1.mono (by simp))).trans (hb2.mono (by have := hb1.size; simp at this; omega))⟩

end Go.Proofs.Ytokabkhnidlcnab
