import Derived.Maps.AppendAt
import Derived.Deep.AppendLies
import Derived.Deep.RegionHeldLaw
import Derived.Test.YtokabkhnidlcnabGreatP05
import Derived.Test.YtokabkhnidlcnabGreatP06
import Derived.Test.YtokabkhnidlcnabGreatP08
import Derived.Test.YtokabkhnidlcnabGreatP09
import Derived.Test.YtokabkhnidlcnabGreatP12
import Derived.Test.YtokabkhnidlcnabGreatP16
import Derived.Test.YtokabkhnidlcnabGreatP17
import Derived.Test.YtokabkhnidlcnabGreatP19

/-
  Walks: the nodes of the program's inner trees, put behind a row (appendTo).
-/
namespace Go.Proofs.YtokabkhnidlcnabGreat
set_option maxRecDepth 100000
set_option linter.unusedSimpArgs false
set_option linter.unusedVariables false
open Go.RowKit

theorem grown_below {w w1 w2 : World} {row : Option Nat} (h : Below w.heap.size w w1) (h2 : w1.grownBy w2 row) : w.grownBy w2 row :=
  ⟨h2.os.trans h.os, h2.tape.trans h.tape, h2.output.trans h.output, Nat.le_trans h.size h2.size, fun i hi hr => (h2.block i (Nat.lt_of_lt_of_le hi h.size) hr).trans (h.block i hi)⟩

theorem grown_trans {w w1 w2 : World} {row row' : Option Nat} (h : w.grownBy w1 row) (h2 : w1.grownBy w2 row') (hr : row' = row ∨ ∃ k, row' = some k ∧ w.heap.size ≤ k) : w.grownBy w2 row :=
  ⟨h2.os.trans h.os, h2.tape.trans h.tape, h2.output.trans h.output, Nat.le_trans h.size h2.size, fun i hi hne => (h2.block i (Nat.lt_of_lt_of_le hi h.size) (fun e => by
    rcases hr with rfl | ⟨k, rfl, hk⟩
    · exact hne e
    · injection e with e; omega)).trans (h.block i hi hne)⟩

theorem grown_cell {w w' : World} {row : Option Nat} (h : w.grownBy w' row) {b : Nat} (hb : b < w.heap.size) (hne : row ≠ some b) (o : Nat) : w'.cell? ⟨b, o, none⟩ = w.cell? ⟨b, o, none⟩ :=
  World.cell?_of_block (w := w) (h.block b hb (fun e => hne e.symm))

theorem row_slice {w : World} {B n : Nat} {e : TypeId} {u : Value} {xs : List Value} (h : w.ownsRow B e 4 u n xs) : ∃ a c, u = .slice a n c := by
  obtain ⟨_, ⟨rfl, rfl⟩ | ⟨g, cap, cur, rfl, _⟩⟩ := h
  · exact ⟨none, 0, rfl⟩
  · exact ⟨_, _, rfl⟩

/-- A row of nodes behind which one may be put. -/
def RowV (w : World) (B : Nat) (u : Value) (us : List NodeR) : Prop := w.ownsRow B 115 4 u us.length (cellsN us)

theorem RowV.below {w w' : World} {B : Nat} {u : Value} {us : List NodeR} (h : RowV w B u us) (hb : Below w.heap.size w w') : RowV w' B u us :=
  World.ownsRow.kept h (grown_belN hb none) (by cases u.ownBlock with
  | none => exact Or.inl rfl
  | some k => exact Or.inr (by simp))

theorem RowV.lt {w : World} {B : Nat} {u : Value} {us : List NodeR} (h : RowV w B u us) : ∀ g, u.ownBlock = some g → g < w.heap.size := fun g hg => (World.ownsRow.lt h g hg).2

/-- What a call of appendTo hands back. -/
def AppPost (w : World) (B : Nat) (u : Value) (vs : List NodeR) (x : Ending) (w' : World) : Prop :=
  ∃ u', x = .returned u' ∧ Hid (RowV w' B u' vs) ∧ Hid (w.grownBy w' u.ownBlock) ∧ Hid (u'.ownBlock = u.ownBlock ∨ ∃ k, u'.ownBlock = some k ∧ w.heap.size ≤ k)

/-- A value whose appendTo puts certain nodes behind a row. -/
def AppIs (e : Value) (F : Nat → List NodeR) : Prop := ∃ T v f, e = .iface T v ∧ (∀ w, (method 337 T v "loop.example/s0059/impl.appendTo").run Tryz.prog w = .ok (f, v) w) ∧ (∀ a w, (callFunc f a).run Tryz.prog w = .ok (.enter f a) w) ∧
  ∀ (B : Nat) (u : Value) (us vs : List NodeR) (w : World), RowV w B u us → B ≤ w.heap.size → us.length + (F us.length).length ≤ 100000 → vs = us ++ F us.length → Calls Tryz.prog f #[v, u] w (AppPost w B u vs)

set_option maxHeartbeats 1000000 in
theorem app_num (t : ByteArray) : AppIs (eNum t) (fun _ => [⟨1, t, 0, 0⟩]) := by
  refine ⟨_, _, 169, rfl, fun w => by kernel_rfl, fun a w => by kernel_rfl, ?_⟩
  intro B u us vs w hrow hB hlen hvs
  obtain ⟨i0, hi0, hz0, hz1, hz2⟩ : ∃ i, Tryz.prog.info? 115 = some i ∧ i.zero = some (.agg #[.int .i64 0, .string ⟨#[]⟩, .int .i64 0, .int .i64 0]) ∧ i.size = 4 ∧ i.bytes = 40 := by
    obtain ⟨i, hi, hz⟩ := Option.map_eq_some_iff.1 infoN
    simp only [Prod.mk.injEq] at hz
    exact ⟨i, hi, hz.1, hz.2.1, hz.2.2⟩
  have HI := hide hi0
  have HZ := hide (And.intro hz0 (And.intro hz1 hz2))
  clear hi0 hz0 hz1 hz2
  obtain ⟨a, c, rfl⟩ := row_slice hrow
  have HR := hide hrow
  have HV := hide hvs
  simp only [List.length_cons, List.length_nil] at hlen
  clear hrow hvs
  go_enter Tryz.func169, Tryz.ntmps169
  go_wp2_with (at_builtin; refine wpList_append_own_at _ rfl (.tmp 5) (.tmp 10) 26 rfl B 115 i0 _ 4 40 Tryz.underlying26 (unhide HI) (unhide HZ).1 (unhide HZ).2.1 (unhide HZ).2.2 rfl (by decide) _ us.length (cellsN us) rfl (((unhide HR).below (below1 _ _)).below (below1 _ _)) ⟨w.heap.size + 1, 0, none⟩ 1 1 (cellsN [⟨1, t, 0, 0⟩]) rfl rfl (by simpa using new_newsN (w.alloc _) ⟨1, t, 0, 0⟩) (cellsN_one' _) ?b1 ?b2 ?b3 ?next)
  case b1 => unfold maxLen; omega
  case b2 => omega
  case b3 => first | omega | (simp; omega)
  case next =>
    intro v4 w4 hown4 hgrow4 hnil4 hat4
    have HO := hide (show RowV w4 B v4 vs by
      rw [unhide HV]
      unfold RowV
      rw [cellsN_append, List.length_append]
      exact hown4)
    have HG := hide (grown_below ((below1 _ _).alloc (by simp) _) hgrow4)
    have HA := hide (show v4.ownBlock = (Value.slice a us.length c).ownBlock ∨ ∃ k, v4.ownBlock = some k ∧ w.heap.size ≤ k from hat4.imp id (fun h => ⟨_, h, by first | omega | (simp; omega)⟩))
    clear hown4 hgrow4 hnil4 hat4
    go_wp2_with fail
    go_ret
    exact ⟨v4, rfl, HO, HG, HA⟩

set_option maxHeartbeats 1000000 in
theorem app_name (t : ByteArray) : AppIs (eName t) (fun _ => [⟨2, t, 0, 0⟩]) := by
  refine ⟨_, _, 170, rfl, fun w => by kernel_rfl, fun a w => by kernel_rfl, ?_⟩
  intro B u us vs w hrow hB hlen hvs
  obtain ⟨i0, hi0, hz0, hz1, hz2⟩ : ∃ i, Tryz.prog.info? 115 = some i ∧ i.zero = some (.agg #[.int .i64 0, .string ⟨#[]⟩, .int .i64 0, .int .i64 0]) ∧ i.size = 4 ∧ i.bytes = 40 := by
    obtain ⟨i, hi, hz⟩ := Option.map_eq_some_iff.1 infoN
    simp only [Prod.mk.injEq] at hz
    exact ⟨i, hi, hz.1, hz.2.1, hz.2.2⟩
  have HI := hide hi0
  have HZ := hide (And.intro hz0 (And.intro hz1 hz2))
  clear hi0 hz0 hz1 hz2
  obtain ⟨a, c, rfl⟩ := row_slice hrow
  have HR := hide hrow
  have HV := hide hvs
  simp only [List.length_cons, List.length_nil] at hlen
  clear hrow hvs
  go_enter Tryz.func170, Tryz.ntmps170
  go_wp2_with (at_builtin; refine wpList_append_own_at _ rfl (.tmp 5) (.tmp 10) 26 rfl B 115 i0 _ 4 40 Tryz.underlying26 (unhide HI) (unhide HZ).1 (unhide HZ).2.1 (unhide HZ).2.2 rfl (by decide) _ us.length (cellsN us) rfl (((unhide HR).below (below1 _ _)).below (below1 _ _)) ⟨w.heap.size + 1, 0, none⟩ 1 1 (cellsN [⟨2, t, 0, 0⟩]) rfl rfl (by simpa using new_newsN (w.alloc _) ⟨2, t, 0, 0⟩) (cellsN_one' _) ?b1 ?b2 ?b3 ?next)
  case b1 => unfold maxLen; omega
  case b2 => omega
  case b3 => first | omega | (simp; omega)
  case next =>
    intro v4 w4 hown4 hgrow4 hnil4 hat4
    have HO := hide (show RowV w4 B v4 vs by
      rw [unhide HV]
      unfold RowV
      rw [cellsN_append, List.length_append]
      exact hown4)
    have HG := hide (grown_below ((below1 _ _).alloc (by simp) _) hgrow4)
    have HA := hide (show v4.ownBlock = (Value.slice a us.length c).ownBlock ∨ ∃ k, v4.ownBlock = some k ∧ w.heap.size ≤ k from hat4.imp id (fun h => ⟨_, h, by first | omega | (simp; omega)⟩))
    clear hown4 hgrow4 hnil4 hat4
    go_wp2_with fail
    go_ret
    exact ⟨v4, rfl, HO, HG, HA⟩

/-- The nodes of a kid and one over it. -/
def overF (F : Nat → List NodeR) (k : Int) (t : ByteArray) (s : Nat) : List NodeR := F s ++ [⟨k, t, ((s + (F s).length : Nat) : Int) - 1, 0⟩]

theorem grown_at {w w' : World} {row row' : Option Nat} (h : w.grownBy w' row) (hr : row' = row ∨ ∃ k, row' = some k ∧ w.heap.size ≤ k) (r : Option Nat) (hr2 : r = row' ∨ ∃ k, r = some k ∧ w'.heap.size ≤ k) : r = row ∨ ∃ k, r = some k ∧ w.heap.size ≤ k := by
  have := h.size
  rcases hr2 with rfl | ⟨k, rfl, hk⟩
  · exact hr
  · exact Or.inr ⟨k, rfl, by omega⟩

set_option maxHeartbeats 1000000 in
theorem appendOver_any {e : Value} {F : Nat → List NodeR} (h : AppIs e F) (k : Int) (t : ByteArray) (B : Nat) (u : Value) (us vs : List NodeR) (w : World) (hrow : RowV w B u us) (hB : B ≤ w.heap.size) (hlen : us.length + (overF F k t us.length).length ≤ 100000) (hvs : vs = us ++ overF F k t us.length) :
    Calls Tryz.prog 174 #[.agg #[e], u, .int .i64 k, .string t] w (AppPost w B u vs) := by
  obtain ⟨i0, hi0, hz0, hz1, hz2⟩ : ∃ i, Tryz.prog.info? 115 = some i ∧ i.zero = some (.agg #[.int .i64 0, .string ⟨#[]⟩, .int .i64 0, .int .i64 0]) ∧ i.size = 4 ∧ i.bytes = 40 := by
    obtain ⟨i, hi, hz⟩ := Option.map_eq_some_iff.1 infoN
    simp only [Prod.mk.injEq] at hz
    exact ⟨i, hi, hz.1, hz.2.1, hz.2.2⟩
  have HI := hide hi0
  have HZ := hide (And.intro hz0 (And.intro hz1 hz2))
  clear hi0 hz0 hz1 hz2
  obtain ⟨T, v, f, rfl, hm, hcf, hcall⟩ := h
  have HC := hide hcall
  obtain ⟨a, c, rfl⟩ := row_slice hrow
  have HR := hide hrow
  obtain ⟨us1, HU1⟩ : ∃ us1, Hid (us1 = us ++ F us.length) := ⟨_, hide rfl⟩
  have hl1 : us1.length = us.length + (F us.length).length := by rw [unhide HU1, List.length_append]
  have hlen1 : us1.length + 1 ≤ 100000 := by
    simp only [overF, List.length_append, List.length_cons, List.length_nil] at hlen
    omega
  have HL0 := hide (show us.length + (F us.length).length ≤ 100000 by omega)
  have HV := hide (show vs = us1 ++ [⟨k, t, (us1.length : Int) - 1, 0⟩] by
    rw [hvs, unhide HU1, overF, List.length_append, List.append_assoc])
  clear hcall hrow hvs hlen hl1
  go_enter Tryz.func174, Tryz.ntmps174
  go_wp2_with fail
  refine ((unhide HC) B _ us us1 _ ((unhide HR).below (below1 _ _)) (by simp; omega) (unhide HL0) (unhide HU1)).mono ?_
  rintro x w1 ⟨u1, rfl, hr1, hg1, ho1⟩
  obtain ⟨a1, c1, rfl⟩ := row_slice (unhide hr1)
  have HG1 := hide (grown_below (below1 _ _) (unhide hg1))
  have HA1 := hide (show (Value.slice a1 us1.length c1).ownBlock = (Value.slice a us.length c).ownBlock ∨ ∃ k, (Value.slice a1 us1.length c1).ownBlock = some k ∧ w.heap.size ≤ k from (unhide ho1).imp id (fun ⟨k, h1, h2⟩ => ⟨k, h1, by simp at h2; omega⟩))
  have hz := (unhide HG1).size
  clear hg1 ho1 hm hcf
  go_wp2_with (at_builtin; refine wpList_append_own_at _ rfl (.tmp 13) (.tmp 20) 26 rfl B 115 i0 _ 4 40 Tryz.underlying26 (unhide HI) (unhide HZ).1 (unhide HZ).2.1 (unhide HZ).2.2 rfl (by decide) _ us1.length (cellsN us1) rfl ((unhide hr1).below (below1 _ _)) ⟨w1.heap.size, 0, none⟩ 1 1 (cellsN [⟨k, t, (us1.length : Int) - 1, 0⟩]) rfl rfl (by simpa using new_newsN w1 ⟨k, t, (us1.length : Int) - 1, 0⟩) (cellsN_one' _) ?b1 ?b2 ?b3 ?next)
  case b1 => unfold maxLen; omega
  case b2 => omega
  case b3 => first | omega | (simp; omega)
  case next =>
    intro v4 w4 hown4 hgrow4 hnil4 hat4
    have HO := hide (show RowV w4 B v4 vs by
      rw [unhide HV]
      unfold RowV
      rw [cellsN_append, List.length_append]
      exact hown4)
    have HG2 := hide (grown_below (below1 _ _) hgrow4)
    have HG := hide (grown_trans (unhide HG1) (unhide HG2) (unhide HA1))
    have HA := hide (grown_at (unhide HG1) (unhide HA1) v4.ownBlock (hat4.imp id (fun h => ⟨_, h, by first | omega | simp⟩)))
    clear hown4 hgrow4 hnil4 hat4 HG1 HG2 HA1
    go_wp2_with fail
    go_ret
    exact ⟨v4, rfl, HO, HG, HA⟩

theorem post_up {w w1 : World} {B : Nat} {u : Value} {vs : List NodeR} (h : Below w.heap.size w w1) {x : Ending} {w' : World} (hp : AppPost w1 B u vs x w') : AppPost w B u vs x w' := by
  obtain ⟨u', rfl, hr, hg, ho⟩ := hp
  have := h.size
  exact ⟨u', rfl, hr, hide (grown_below h (unhide hg)), hide ((unhide ho).imp id (fun ⟨k, h1, h2⟩ => ⟨k, h1, by omega⟩))⟩

set_option maxHeartbeats 1000000 in
theorem app_grp {e : Value} {F : Nat → List NodeR} (h : AppIs e F) : AppIs (eGrp e) (overF F 6 ByteArray.empty) := by
  refine ⟨_, _, 178, rfl, fun w => by kernel_rfl, fun a w => by kernel_rfl, ?_⟩
  intro B u us vs w hrow hB hlen hvs
  have HH := hide h
  obtain ⟨T, v, f, rfl, hm, hcf, hcall⟩ := h
  have HR := hide hrow
  have HV := hide hvs
  clear hcall hrow hvs hm hcf
  go_enter Tryz.func178, Tryz.ntmps178
  go_wp2_with fail
  refine (appendOver_any (unhide HH) 6 ByteArray.empty B _ us vs _ ((unhide HR).below (below1 _ _)) (by simp; omega) hlen (unhide HV)).mono ?_
  intro x w1 hp
  obtain ⟨u', rfl, hr, hg, ho⟩ := post_up (below1 _ _) hp
  go_wp2_with fail
  go_ret
  exact ⟨u', rfl, hr, hg, ho⟩

set_option maxHeartbeats 1000000 in
theorem app_pre {e : Value} {F : Nat → List NodeR} (h : AppIs e F) (p : OpR) : AppIs (ePre p e) (overF F 3 p.s) := by
  refine ⟨_, _, 173, rfl, fun w => by kernel_rfl, fun a w => by kernel_rfl, ?_⟩
  intro B u us vs w hrow hB hlen hvs
  have HH := hide h
  obtain ⟨T, v, f, rfl, hm, hcf, hcall⟩ := h
  have HR := hide hrow
  have HV := hide hvs
  clear hcall hrow hvs hm hcf
  go_enter Tryz.func173, Tryz.ntmps173
  go_wp2_with fail
  refine (appendOver_any (unhide HH) 3 p.s B _ us vs _ ((unhide HR).below (below1 _ _)) (by simp; omega) hlen (unhide HV)).mono ?_
  intro x w1 hp
  obtain ⟨u', rfl, hr, hg, ho⟩ := post_up (below1 _ _) hp
  go_wp2_with fail
  go_ret
  exact ⟨u', rfl, hr, hg, ho⟩

set_option maxHeartbeats 1000000 in
theorem app_post {e : Value} {F : Nat → List NodeR} (h : AppIs e F) (p : OpR) : AppIs (ePost p e) (overF F 5 p.s) := by
  refine ⟨_, _, 177, rfl, fun w => by kernel_rfl, fun a w => by kernel_rfl, ?_⟩
  intro B u us vs w hrow hB hlen hvs
  have HH := hide h
  obtain ⟨T, v, f, rfl, hm, hcf, hcall⟩ := h
  have HR := hide hrow
  have HV := hide hvs
  clear hcall hrow hvs hm hcf
  go_enter Tryz.func177, Tryz.ntmps177
  go_wp2_with fail
  refine (appendOver_any (unhide HH) 5 p.s B _ us vs _ ((unhide HR).below (below1 _ _)) (by simp; omega) hlen (unhide HV)).mono ?_
  intro x w1 hp
  obtain ⟨u', rfl, hr, hg, ho⟩ := post_up (below1 _ _) hp
  go_wp2_with fail
  go_ret
  exact ⟨u', rfl, hr, hg, ho⟩

/-- The nodes of two kids and one over them. -/
def bothF (F G : Nat → List NodeR) (t : ByteArray) (s : Nat) : List NodeR := (F s ++ G (s + (F s).length)) ++ [⟨4, t, ((s + (F s).length : Nat) : Int) - 1, ((s + (F s).length + (G (s + (F s).length)).length : Nat) : Int) - 1⟩]

set_option maxHeartbeats 2000000 in
theorem app_inf {e e' : Value} {F G : Nat → List NodeR} (h : AppIs e F) (h' : AppIs e' G) (p : OpR) : AppIs (eInf p e e') (bothF F G p.s) := by
  refine ⟨_, _, 175, rfl, fun w => by kernel_rfl, fun a w => by kernel_rfl, ?_⟩
  intro B u us vs w hrow hB hlen hvs
  obtain ⟨i0, hi0, hz0, hz1, hz2⟩ : ∃ i, Tryz.prog.info? 115 = some i ∧ i.zero = some (.agg #[.int .i64 0, .string ⟨#[]⟩, .int .i64 0, .int .i64 0]) ∧ i.size = 4 ∧ i.bytes = 40 := by
    obtain ⟨i, hi, hz⟩ := Option.map_eq_some_iff.1 infoN
    simp only [Prod.mk.injEq] at hz
    exact ⟨i, hi, hz.1, hz.2.1, hz.2.2⟩
  have HI := hide hi0
  have HZ := hide (And.intro hz0 (And.intro hz1 hz2))
  clear hi0 hz0 hz1 hz2
  obtain ⟨T, v, f, rfl, hm, hcf, hcall⟩ := h
  obtain ⟨T', v', f', rfl, hm', hcf', hcall'⟩ := h'
  have HC := hide hcall
  have HC' := hide hcall'
  obtain ⟨a, c, rfl⟩ := row_slice hrow
  have HR := hide hrow
  obtain ⟨us1, HU1⟩ : ∃ us1, Hid (us1 = us ++ F us.length) := ⟨_, hide rfl⟩
  have hl1 : us1.length = us.length + (F us.length).length := by rw [unhide HU1, List.length_append]
  obtain ⟨us2, HU2⟩ : ∃ us2, Hid (us2 = us1 ++ G us1.length) := ⟨_, hide rfl⟩
  have hl2 : us2.length = us1.length + (G us1.length).length := by rw [unhide HU2, List.length_append]
  have hlen1 : us2.length + 1 ≤ 100000 := by
    simp only [bothF, List.length_append, List.length_cons, List.length_nil, ← hl1] at hlen
    omega
  have HL0 := hide (show us.length + (F us.length).length ≤ 100000 by omega)
  have HL1 := hide (show us1.length + (G us1.length).length ≤ 100000 by omega)
  have hlen2 : us1.length ≤ 100000 := by omega
  have HV := hide (show vs = us2 ++ [⟨4, p.s, (us1.length : Int) - 1, (us2.length : Int) - 1⟩] by
    have e : us2 = us ++ (F us.length ++ G us1.length) := (unhide HU2).trans ((congrArg (· ++ G us1.length) (unhide HU1)).trans (List.append_assoc _ _ _))
    rw [hvs]
    unfold bothF
    rw [← hl1, ← hl2, ← List.append_assoc, ← e])
  clear hcall hrow hvs hlen hcall' hl1 hl2
  go_enter Tryz.func175, Tryz.ntmps175
  go_wp2_with fail
  refine ((unhide HC) B _ us us1 _ ((unhide HR).below (below1 _ _)) (by simp; omega) (unhide HL0) (unhide HU1)).mono ?_
  rintro x w1 ⟨u1, rfl, hr1, hg1, ho1⟩
  obtain ⟨a1, c1, rfl⟩ := row_slice (unhide hr1)
  have hnb : (Value.slice a us.length c).ownBlock ≠ some w.heap.size := fun e => by have := (unhide HR).lt _ e; omega
  have q0 : w1.cell? ⟨w.heap.size, 0, none⟩ = some (.string p.s) := (grown_cell (unhide hg1) (b := w.heap.size) (by simp) hnb 0).trans (by simp [go_sem])
  have q5 : w1.cell? ⟨w.heap.size, 5, none⟩ = some (.iface T' v') := (grown_cell (unhide hg1) (b := w.heap.size) (by simp) hnb 5).trans (by simp [go_sem])
  have HG1 := hide (grown_below (below1 _ _) (unhide hg1))
  have HA0 := hide (unhide ho1)
  have HA1 := hide (show (Value.slice a1 us1.length c1).ownBlock = (Value.slice a us.length c).ownBlock ∨ ∃ k, (Value.slice a1 us1.length c1).ownBlock = some k ∧ w.heap.size ≤ k from (unhide ho1).imp id (fun ⟨k, h1, h2⟩ => ⟨k, h1, by simp at h2; omega⟩))
  have hz := (unhide HG1).size
  have hz1 : w.heap.size + 1 ≤ w1.heap.size := by have := (unhide hg1).size; simp at this; omega
  have hnb1 : (Value.slice a1 us1.length c1).ownBlock ≠ some w.heap.size := fun e => by
    rcases unhide HA0 with h | ⟨k, h1, h2⟩
    · exact hnb (h.symm.trans e)
    · rw [h1] at e; injection e with e; simp at h2; omega
  clear hg1 ho1 hm hcf HA0
  go_wp2_with fail
  refine ((unhide HC') B _ us1 us2 _ (unhide hr1) (by omega) (unhide HL1) (unhide HU2)).mono ?_
  rintro x w2 ⟨u2, rfl, hr2, hg2, ho2⟩
  obtain ⟨a2, c2, rfl⟩ := row_slice (unhide hr2)
  have r0 : w2.cell? ⟨w.heap.size, 0, none⟩ = some (.string p.s) := (grown_cell (unhide hg2) (b := w.heap.size) (by omega) hnb1 0).trans q0
  have HG2 := hide (grown_trans (unhide HG1) (unhide hg2) (unhide HA1))
  have HA2 := hide (grown_at (unhide HG1) (unhide HA1) _ (unhide ho2))
  have hz2 := (unhide HG2).size
  clear hg2 ho2 hm' hcf' HG1 HA1 q0 q5 hr1
  go_wp2_with (at_builtin; refine wpList_append_own_at _ rfl (.tmp 17) (.tmp 27) 26 rfl B 115 i0 _ 4 40 Tryz.underlying26 (unhide HI) (unhide HZ).1 (unhide HZ).2.1 (unhide HZ).2.2 rfl (by decide) _ us2.length (cellsN us2) rfl ((unhide hr2).below (below1 _ _)) ⟨w2.heap.size, 0, none⟩ 1 1 (cellsN [⟨4, p.s, (us1.length : Int) - 1, (us2.length : Int) - 1⟩]) rfl rfl (by simpa using new_newsN w2 ⟨4, p.s, (us1.length : Int) - 1, (us2.length : Int) - 1⟩) (cellsN_one' _) ?b1 ?b2 ?b3 ?next)
  case b1 => unfold maxLen; omega
  case b2 => omega
  case b3 => first | omega | (simp; omega)
  case next =>
    intro v4 w4 hown4 hgrow4 hnil4 hat4
    have HO := hide (show RowV w4 B v4 vs by
      rw [unhide HV]
      unfold RowV
      rw [cellsN_append, List.length_append]
      exact hown4)
    have HG3 := hide (grown_below (below1 _ _) hgrow4)
    have HG := hide (grown_trans (unhide HG2) (unhide HG3) (unhide HA2))
    have HA := hide (grown_at (unhide HG2) (unhide HA2) v4.ownBlock (hat4.imp id (fun h => ⟨_, h, by first | omega | simp⟩)))
    clear hown4 hgrow4 hnil4 hat4 HG2 HG3 HA2
    go_wp2_with fail
    go_ret
    exact ⟨v4, rfl, HO, HG, HA⟩

/-- The nodes of a stretch anew. -/
theorem app_fS (ns : List OpR) (xs : List NodeR) (htx : ∀ i, i < xs.length → TxtOk (atN xs i)) (hkn : Knows ns xs) : ∀ n i f, i < n → i < xs.length → frS xs i = some f → ∀ l, AppIs (fS ns xs i l) (gS ns xs i l)
  | 0, _, _, h, _, _ => absurd h (Nat.not_lt_zero _)
  | n + 1, i, f, h, hi, hf => by
    intro l
    have hcl : ∀ (e : Value) (F : Nat → List NodeR), AppIs e F → (∀ s, gS ns xs i l s = clos ns (atN xs i) l s (F s)) → AppIs (closV ns (atN xs i) l e) (gS ns xs i l) := by
      intro e F he hF
      unfold closV
      by_cases hl : levN ns (atN xs i) < l
      · rw [if_pos hl]
        have : gS ns xs i l = overF F 6 ByteArray.empty := by
          funext s
          rw [hF s, clos, if_pos hl, overF]
        rw [this]
        exact app_grp he
      · rw [if_neg hl]
        have : gS ns xs i l = F := by
          funext s
          rw [hF s, clos, if_neg hl]
        rw [this]
        exact he
    have hop : ∀ j, fnd ns (atN xs i).t ((atN xs i).k - 2) = some j → (opA ns (atN xs i)).s = (atN xs i).t := fun j hj => by
      unfold opA
      rw [hj]
      exact (fnd_some hj).2.1
    have hso : isOpN (atN xs i) → (opA ns (atN xs i)).s = (atN xs i).t := fun ho => by
      cases e : fnd ns (atN xs i).t ((atN xs i).k - 2) with
      | none => exact absurd e (hkn i hi ho)
      | some j => exact hop j e
    rcases frS_some hf with ⟨hk, ha, hb, hfi⟩ | ⟨hk, h1i, ha, hbb, hf1⟩ | ⟨hk, h1i, hbb, f2, hf2, h2f, ha, hf1⟩
    · rw [fS_zero hk]
      rcases (htx i hi).2 with ⟨h1, _⟩ | ⟨h2, _⟩ | ⟨h6, _⟩ | ⟨h345, _⟩
      · refine hcl _ _ ?_ (fun s => gS_zero hk l s)
        simp only [exN, h1, if_true]
        exact app_num _
      · refine hcl _ _ ?_ (fun s => gS_zero hk l s)
        simp only [exN, h2, if_true]
        exact app_name _
      · rw [h6] at hk; simp [kids] at hk
      · rcases h345 with h | h | h <;> rw [h] at hk <;> simp [kids] at hk
    · have ih := app_fS ns xs htx hkn n (i - 1) f (by omega) (by omega) hf1
      rcases (htx i hi).2 with ⟨h1, _⟩ | ⟨h2, _⟩ | ⟨h6, _⟩ | ⟨h345, _⟩
      · rw [h1] at hk; simp [kids] at hk
      · rw [h2] at hk; simp [kids] at hk
      · rw [fS_group h6 h1i hf1]
        have : gS ns xs i l = gS ns xs (i - 1) l := by funext s; exact gS_group h6 h1i hf1 l s
        rw [this]
        exact ih l
      · rcases h345 with h | h | h
        · rw [fS_one hk (by omega) h1i hf1]
          refine hcl _ (overF (gS ns xs (i - 1) (holeN ns (atN xs i) false)) 3 (atN xs i).t) ?_ (fun s => by rw [gS_one hk (by omega) h1i hf1 l s rfl, overF, h])
          simp only [exN, h]
          rw [← hso ⟨by omega, by omega⟩]
          exact app_pre (ih _) _
        · rw [h] at hk; simp [kids] at hk
        · rw [fS_one hk (by omega) h1i hf1]
          refine hcl _ (overF (gS ns xs (i - 1) (holeN ns (atN xs i) false)) 5 (atN xs i).t) ?_ (fun s => by rw [gS_one hk (by omega) h1i hf1 l s rfl, overF, h])
          simp only [exN, h]
          rw [← hso ⟨by omega, by omega⟩]
          exact app_post (ih _) _
    · have hle := frS_le hf2
      have h4 : (atN xs i).k = 4 := by
        unfold kids at hk
        split at hk
        · assumption
        · split at hk <;> omega
      rw [fS_two hk h1i hf2 h2f ha hf1]
      refine hcl _ (bothF (gS ns xs (f2 - 1) (holeN ns (atN xs i) false)) (gS ns xs (i - 1) (holeN ns (atN xs i) true)) (atN xs i).t) ?_ (fun s => by rw [gS_two hk h1i hf2 h2f ha hf1 l s rfl rfl, bothF, h4])
      simp only [exN, h4]
      rw [← hso ⟨by omega, by omega⟩]
      exact app_inf (app_fS ns xs htx hkn n (f2 - 1) f (by omega) (by omega) hf1 _) (app_fS ns xs htx hkn n (i - 1) f2 (by omega) (by omega) hf2 _) _
end Go.Proofs.YtokabkhnidlcnabGreat

/-
  Walk: the specification's Lex.
-/
namespace Go.Proofs.YtokabkhnidlcnabGreat
set_option maxRecDepth 100000
open Go.RowKit

theorem code_ok {xs : List OpR} (h : IsCode xs 0) : okTo xs xs.length := by
  rcases h with ⟨h, _⟩ | ⟨_, ⟨h, _⟩ | ⟨h, _⟩⟩
  · exact absurd h (by decide)
  · exact absurd h (by decide)
  · exact h

set_option maxHeartbeats 4000000 in
theorem specLex_any (b off cap : Nat) (xs : List OpR) (s : ByteArray) (w : World) (hm : xs.length ≤ 1048576) (hw : Ops w b off xs) (hsz : Sized xs) (hB : b < w.heap.size) (hs : s.size ≤ maxLen) :
    Calls Tryz.prog 23 #[.agg #[.slice (some ⟨b, off, none⟩) xs.length cap], .string s] w fun e w' => (∃ (g c : Nat) (us : List TokR) (v : Bool), e = .returned (.tuple #[.slice (some ⟨g, 0, none⟩) us.length c, .bool v]) ∧ w.heap.size ≤ g ∧ FilledT w' g us us.length ∧ LexIs xs (IsCode xs 0) s us v) ∧ Below w.heap.size w w' := by
  unfold maxLen at hs
  have HW := hide hw
  have HS := hide hsz
  clear hw hsz
  go_enter Tryz.func23, Tryz.ntmps23
  go_wp2_with fail
  refine (specTableOk_any b off cap xs _ hm ((unhide HW).below ((below1 _ _).alloc (by simp) _) hB) (unhide HS) (by simp; omega)).mono ?_
  rintro e w1 ⟨⟨c, rfl, hc⟩, hb1⟩
  have HC := hide hc
  have z1 : w.heap.size + 2 ≤ w1.heap.size := by have := hb1.size; simp at this; omega
  have bel1 : Below w.heap.size w w1 := ((below1 _ _).alloc (by simp) _).trans (hb1.mono (by simp; omega))
  have c1 : w1.cell? ⟨w.heap.size, 0, none⟩ = some (.slice (some ⟨b, off, none⟩) xs.length cap) := by rw [hb1.cell (p := ⟨w.heap.size, 0, none⟩) (by simp; omega)]; simp [go_sem]
  have HO := hide (show w1.ownsRow (w.heap.size + 1) 56 3 (.slice (some ⟨w.heap.size + 1, 0, none⟩) 0 0) 0 (cellsTk []) by
    have h0 := World.ownsRow_lit (base := w.heap.size + 1) (e := 56) (size := 3) (w.alloc (.cells #[.slice (some ⟨b, off, none⟩) xs.length cap] 33)) #[] 0 (by simp) (Nat.zero_le _) rfl
    have h1 := h0.kept (grown_bel hb1 none) (Or.inr (by simp [Value.ownBlock]))
    simpa [cellsTk] using h1)
  have bel1' : Below (w.heap.size + 1) (w.alloc (.cells #[.slice (some ⟨b, off, none⟩) xs.length cap] 33)) w1 := ((below1 _ _).mono (by simp)).trans (hb1.mono (by simp))
  clear hb1 hc
  by_cases hc0 : c = 0
  case neg =>
    have hc0' : (c != 0) = true := by simpa using hc0
    have HN := hide (show ¬ (IsCode xs 0 ∧ s.size ≤ 20000) from fun h => hc0 (IsCode_one (unhide HC) h.1))
    clear hc0
    go_wp2_with fail
    go_ret2
    obtain ⟨hg, hf⟩ := owns_filledT (zs := []) (unhide HO)
    exact ⟨⟨w.heap.size + 1, 0, [], false, rfl, by omega, hf, Or.inr ⟨unhide HN, rfl, rfl⟩⟩, bel1⟩
  subst hc0
  by_cases h2 : 20000 < s.size
  · have HN := hide (show ¬ (IsCode xs 0 ∧ s.size ≤ 20000) from fun h => by omega)
    have h2' : (20000 : Int) < (s.size : Int) := by omega
    go_wp2_with fail
    go_ret2
    obtain ⟨hg, hf⟩ := owns_filledT (zs := []) (unhide HO)
    exact ⟨⟨w.heap.size + 1, 0, [], false, rfl, by omega, hf, Or.inr ⟨unhide HN, rfl, rfl⟩⟩, bel1⟩
  have HV := hide (signTexts_of (code_ok (unhide HC)))
  have HK := hide (kinds_of (code_ok (unhide HC)))
  have h20 : s.size ≤ 20000 := by omega
  clear hs h2
  go_wp2_with fail
  obtain ⟨i0, hi, hz0, hz1, hz2⟩ := info_parts infoT
  have HI := hide hi
  have HZ := hide (And.intro hz0 (And.intro hz1 hz2))
  clear hi hz0 hz1 hz2 c1
  go_loopw [6, 7] (fun out i wr => ∃ (p go co : Nat) (acc : List TokR), p ≤ s.size ∧ i = .int .i64 (p : Int) ∧ out = .slice (some ⟨go, 0, none⟩) acc.length co ∧ Hid (Read xs s p acc) ∧ Hid (wr.ownsRow (w.heap.size + 1) 56 3 (.slice (some ⟨go, 0, none⟩) acc.length co) acc.length (cellsTk acc)) ∧ Below (w.heap.size + 1) (w.alloc (.cells #[.slice (some ⟨b, off, none⟩) xs.length cap] 33)) wr) (fun _ i _ => s.size - (intOf i).toNat)
  case atStart => exact ⟨0, w.heap.size + 1, 0, [], Nat.zero_le _, rfl, rfl, hide (Read.start xs s), HO, bel1'⟩
  case round =>
    clear HO bel1'
    obtain ⟨p, go, co, acc, hp, rfl, rfl, hrd, hown, hbel⟩ := hrel
    have hbw : Below w.heap.size w wr := (below1 _ _).trans (hbel.mono (by omega))
    have zw : w.heap.size < wr.heap.size := by have := hbel.size; simp at this; omega
    have c0 : wr.cell? ⟨w.heap.size, 0, none⟩ = some (.slice (some ⟨b, off, none⟩) xs.length cap) := by
      rw [hbel.cell (p := ⟨w.heap.size, 0, none⟩) (show w.heap.size < _ by omega)]; simp [go_sem]
    go_wp2_with fail
    go_loop [7] (fun iv => ∃ j : Nat, p ≤ j ∧ j ≤ s.size ∧ iv = .int .i64 (j : Int) ∧ Hid (Blanks s p j)) (fun iv => s.size - (intOf iv).toNat)
    case atStart => exact ⟨p, Nat.le_refl _, hp, rfl, hide (fun q h1 h2 => by omega)⟩
    case round =>
      obtain ⟨j, hpj, hj, rfl, hbl⟩ := hrel
      by_cases hlt : j < s.size
      · cases hb : decide (cls s[j] = 1)
        · have hnb := hide (show cls (bt s j) ≠ 1 by rw [bt_get hlt] at hb; simpa using hb)
          have hj' : ((j : Int) == (s.size : Int)) = false := by simp; omega
          have hal : acc.length ≤ 20000 := by have := (unhide hrd).1; omega
          go_wp2_with (go_at_call 52; refine (l2Blank_any _ _).mono ?_; rintro e w2 ⟨rfl, hx⟩; obtain rfl := hx.symm)
          refine (l2Longest_any b off cap xs s j _ hm ((unhide HW).below hbw hB) (by omega) (unhide HK) (by omega) hlt).mono ?_
          rintro e w2 ⟨⟨n, rfl, hn⟩, hb2⟩
          have htok := longest_tok (unhide HV) hn (unhide hnb)
          have hjn : j + n ≤ s.size := htok.2.1
          have hn1 : 1 ≤ n := htok.1
          have HT := hide htok
          have hbel2 := hbel.trans (hb2.mono zw)
          have hbw2 : Below w.heap.size w w2 := (below1 _ _).trans (hbel2.mono (by omega))
          have z2 : w.heap.size < w2.heap.size := Nat.lt_of_lt_of_le zw hb2.size
          have hown2 := hide ((unhide hown).kept (grown_bel hb2 none) (Or.inr (by simp [Value.ownBlock])))
          have d0 : w2.cell? ⟨w.heap.size, 0, none⟩ = some (.slice (some ⟨b, off, none⟩) xs.length cap) := (hb2.cell (p := ⟨w.heap.size, 0, none⟩) zw).trans c0
          have hwr : IntKind.i64.wrap ((j : Int) + (n : Int)) = (j : Int) + (n : Int) := by rw [IntKind.wrap_i64]; omega
          have hs1 : (j : Int) ≤ (j : Int) + (n : Int) := by omega
          have hs2 : (j : Int) + (n : Int) ≤ (s.size : Int) := by omega
          have hs3 : (0 : Int) ≤ (j : Int) + (n : Int) := by omega
          have htn : ((j : Int) + (n : Int)).toNat = j + n := by omega
          have hs4 : (p : Int) ≤ (j : Int) := by omega
          have hs5 : (j : Int) ≤ (s.size : Int) := by omega
          have zb : b < w2.heap.size := by omega
          clear hn htok hb2 hown hbel hbw c0
          go_wp2_with fail
          go_region_held_law (fun w' => w'.cell? ⟨w.heap.size, 0, none⟩ = some (.slice (some ⟨b, off, none⟩) xs.length cap)) (go_keep)
            (first | (go_at_call 54; refine (l2Kind_any b off cap xs (sub s j n) _ hm ((unhide HW).below hbw2.drew hB) zb (unhide HK) (by rw [sub_size hjn]; unfold maxLen; omega)).mono ?_; rintro e w3 ⟨rfl, hb3⟩; have c3 := (hb3.cell (p := ⟨w.heap.size, 0, none⟩) z2).trans (show w2.drew.cell? ⟨w.heap.size, 0, none⟩ = _ from d0); have hbel3 := hbel2.drew.trans (hb3.mono z2); have hown3 := hide ((unhide hown2).drew.kept (grown_bel hb3 none) (Or.inr (by simp [Value.ownBlock]))); have z3 := Nat.lt_of_lt_of_le z2 hb3.size; have hgo := hide ((unhide hown3).lt go rfl)) | (refine step_append_lies _ (by rfl) (.tmp 49) (.tmp 69) 52 (by rfl) (w.heap.size + 1) 56 i0 _ 3 40 Tryz.underlying52 (unhide HI) (unhide HZ).1 (unhide HZ).2.1 (unhide HZ).2.2 rfl (by decide) _ acc.length (cellsTk acc) (by rfl) ((unhide hown3).alloc _) ⟨w3.heap.size, 0, none⟩ 1 1 (cellsTk [⟨(kindT xs (sub s j n) : Int), s.extract p j, s.extract j (j + n)⟩]) (by rfl) rfl (new_newsT w3 ⟨(kindT xs (sub s j n) : Int), s.extract p j, s.extract j (j + n)⟩) (cellsTk_one' _) (by decide) (by unfold maxLen; omega) (by omega) (by simp; omega) _ rfl ?_; intro g4 c4 w4 hown4 hgrow4 _ hlt4; have q4 := (hgrow4.cell_far ⟨w.heap.size, 0, none⟩ (by simp; omega) (by have := unhide hgo; simp [Value.ownBlock]; omega)).trans (((below1 w3 _).cell (p := ⟨w.heap.size, 0, none⟩) z3).trans c3); simp only [List.getElem_toArray, List.getElem_cons_succ, List.getElem_cons_zero]; simp only [Act.put, List.setIfInBounds_toArray, List.set_cons_zero, List.set_cons_succ]))
          have hbel4 : Below (w.heap.size + 1) _ w4 := (hbel3.alloc z3 _).grown hgrow4 (by simp; omega) (fun q hq => by have := unhide hgo; simp [Value.ownBlock] at hq; omega)
          rw [← cellsTk_append] at hown4
          have hl4 : acc.length + 1 = (acc ++ [(⟨(kindT xs (sub s j n) : Int), s.extract p j, s.extract j (j + n)⟩ : TokR)]).length := by simp
          rw [hl4] at hown4 ⊢
          have HW4 := hide hown4
          clear hown4 hgrow4 hown3 hown2 hbel3 hbel2 c3 q4
          go_wp2
          refine ⟨⟨j + n, g4, c4, _, hjn, by go_num, rfl, hide ((unhide hrd).step hpj hlt (unhide hbl) (unhide hnb) (unhide HT)), HW4, hbel4⟩, by simp [intOf]; omega⟩
        · have Hb := hide (show Blanks s p (j + 1) from fun q h1 h2 => by
            by_cases e : q = j
            · subst e
              rw [bt_get hlt] at hb
              simpa using hb
            · exact (unhide hbl) q h1 (by omega))
          go_wp2_with (go_at_call 52; refine (l2Blank_any _ _).mono ?_; rintro e w' ⟨rfl, rfl⟩)
          exact ⟨⟨j + 1, by omega, by omega, by go_num, Hb⟩, by simp [intOf]; omega⟩
      · have HJ := hide (show j = s.size by omega)
        have hj' : ((j : Int) == (s.size : Int)) = true := by simp; omega
        have hal : acc.length ≤ 20000 := by have := (unhide hrd).1; omega
        go_wp2_with (at_builtin; refine wpList_append_own _ rfl (.tmp 37) (.tmp 43) 52 rfl (w.heap.size + 1) 56 i0 _ 3 40 Tryz.underlying52 (unhide HI) (unhide HZ).1 (unhide HZ).2.1 (unhide HZ).2.2 rfl (by decide) _ acc.length (cellsTk acc) rfl ((unhide hown).alloc _) ⟨wr.heap.size, 0, none⟩ 1 1 (cellsTk [⟨7, s.extract p j, ⟨#[]⟩⟩]) rfl rfl (new_newsT wr ⟨7, s.extract p j, ⟨#[]⟩⟩) (cellsTk_one' _) ?b1 ?b2 ?b3 ?next)
        case b1 => unfold maxLen; omega
        case b2 => omega
        case b3 => have := hbel.size; simp; omega
        case next =>
          intro v4 w4 hown4 hgrow4 hnil4
          have hgo := (unhide hown).lt go rfl
          have hbel4 : Below w.heap.size w w4 := (hbw.alloc hbw.size _).grown hgrow4 (by have := hbw.size; simp; omega) (fun q hq => by simp [Value.ownBlock] at hq; omega)
          obtain ⟨g4, c4, rfl⟩ := owns_bval hown4 (by simp [hnil4])
          rw [← cellsTk_append] at hown4
          have hl4 : acc.length + 1 = (acc ++ [(⟨7, s.extract p j, ⟨#[]⟩⟩ : TokR)]).length := by simp
          rw [hl4] at hown4 ⊢
          have HW4 := hide hown4
          clear hown4 hgrow4 hnil4
          go_wp2
          go_ret2
          obtain ⟨hg, hf⟩ := owns_filledT (unhide HW4)
          have hdn := (unhide hrd).done hp (unhide HJ ▸ unhide hbl)
          rw [← unhide HJ] at hdn
          exact ⟨⟨g4, c4, _, true, rfl, by omega, hf, Or.inl ⟨⟨unhide HC, h20⟩, rfl, hdn⟩⟩, hbel4⟩
end Go.Proofs.YtokabkhnidlcnabGreat

/-
  Walks: the program's Group.
-/
namespace Go.Proofs.YtokabkhnidlcnabGreat
set_option maxRecDepth 100000
set_option linter.unusedSimpArgs false
set_option linter.unusedVariables false
open Go.RowKit Go.Maps

theorem code_oneG {xs : List OpR} {c : Int} (h : IsCode xs c) (h0 : IsCode xs 0) : c = 0 := IsCode_one h h0

/-- What grouped hands back. -/
def GrpPost (ns : List OpR) (xs : List NodeR) (x : Ending) : Prop :=
  (∃ v : Value, x = .returned (.tuple #[v, .bool false]) ∧ Hid (¬ ((IsCode ns 0 ∧ InOrd xs ∧ Knows ns xs) ∧ (gS ns xs (xs.length - 1) 0 0).length ≤ 20000)) ∧ (v = .nilIface ∨ ∃ T u, v = .iface T u)) ∨
  (x = .returned (.tuple #[fS ns xs (xs.length - 1) 0, .bool true]) ∧ Hid ((IsCode ns 0 ∧ InOrd xs ∧ Knows ns xs) ∧ (gS ns xs (xs.length - 1) 0 0).length ≤ 20000))

set_option maxHeartbeats 2000000 in
theorem grouped_any (b off cap bn offn cn : Nat) (ns : List OpR) (xs : List NodeR) (w : World) (hm : ns.length ≤ 1048576) (hmn : xs.length ≤ 1048576) (hw : Ops w b off ns) (hsz : Sized ns) (hB : b < w.heap.size) (hwn : OpsN w bn offn xs) (hsn : SizedN xs) (hBn : bn < w.heap.size) :
    Calls Tryz.prog 46 #[.agg #[.slice (some ⟨b, off, none⟩) ns.length cap], .agg #[.slice (some ⟨bn, offn, none⟩) xs.length cn]] w fun x w' => GrpPost ns xs x ∧ Below w.heap.size w w' := by
  have HW := hide hw
  have HWN := hide hwn
  have HZ := hide hsz
  have HZN := hide hsn
  clear hw hwn hsz hsn
  go_enter Tryz.func46, Tryz.ntmps46
  go_wp2_with fail
  refine (indexTable_any b off cap ns _ hm ((unhide HW).below ((below1 _ _).alloc (by simp) _) hB) (unhide HZ) (by simp; omega)).mono ?_
  rintro e w1 ⟨⟨x, y, c, rfl, hc, hix⟩, hb1⟩
  have HC := hide hc
  have HIX := hide hix
  have bel1 : Below w.heap.size w w1 := ((below1 _ _).alloc (by simp) _).trans (hb1.mono (by simp; omega))
  have c1 : w1.cell? ⟨w.heap.size + 1, 0, none⟩ = some (.slice (some ⟨bn, offn, none⟩) xs.length cn) := (hb1.cell (p := ⟨w.heap.size + 1, 0, none⟩) (by simp)).trans (by simp [go_sem])
  have z1 : w.heap.size + 2 ≤ w1.heap.size := by have := hb1.size; simp at this; omega
  clear hc hix hb1
  by_cases hc0 : c = 0
  case neg =>
    have hc0' : (c != 0) = true := by simpa using hc0
    have HN := hide (show ¬ IsCode ns 0 from fun h => hc0 (IsCode_one (unhide HC) h))
    clear hc0
    go_wp2_with fail
    refine bodyPost_ret (v := .tuple #[.nilIface, .bool false]) ?res rfl ⟨Or.inl ⟨.nilIface, rfl, hide (fun h => (unhide HN) h.1.1), Or.inl rfl⟩, bel1.alloc bel1.size _⟩
    case res => simp [results, Tryz.results46, go_sem]
  subst hc0
  obtain ⟨bo, bs, rfl, rfl, hidx⟩ := (unhide HIX) rfl
  have HID := hide (hidx.kept (below1 w1 (.cells #[.map (some bo), .map (some bs)] 70)))
  have HOK := hide (code_ok (unhide HC))
  have belA : Below w.heap.size w (w1.alloc (.cells #[.map (some bo), .map (some bs)] 70)) := bel1.alloc bel1.size _
  have HCS := hide (show Cs [(w.heap.size + 1, 0, .slice (some ⟨bn, offn, none⟩) xs.length cn), (w1.heap.size, 0, .map (some bo)), (w1.heap.size, 1, .map (some bs))] (w1.alloc (.cells #[.map (some bo), .map (some bs)] 70)) from fun p hp => by
    simp only [List.mem_cons, List.not_mem_nil, or_false] at hp
    rcases hp with rfl | rfl | rfl
    · exact ((below1 _ _).cell (p := ⟨w.heap.size + 1, 0, none⟩) (show w.heap.size + 1 < w1.heap.size by omega)).trans c1
    · simp [go_sem]
    · simp [go_sem])
  clear HIX hidx c1
  have k1 := (unhide HCS) (w.heap.size + 1, 0, .slice (some ⟨bn, offn, none⟩) xs.length cn) (by simp)
  have k2 := (unhide HCS) (w1.heap.size, 0, .map (some bo)) (by simp)
  have k3 := (unhide HCS) (w1.heap.size, 1, .map (some bs)) (by simp)
  simp only at k1 k2 k3
  go_wp2_with fail
  refine (isWellFormed_any bo bs bn offn cn ns xs _ hmn (unhide HID) (unhide HC) (unhide HOK) ((unhide HWN).below belA hBn) (unhide HZN) (Nat.lt_of_lt_of_le hBn belA.size)).mono ?_
  rintro e w3 ⟨⟨v, rfl, hv⟩, hb3⟩
  have HV := hide hv
  have bel3 := belA.trans (hb3.mono belA.size)
  have z3 : w1.heap.size + 1 ≤ w3.heap.size := by have := hb3.size; simp at this; omega
  have HC3 := hide ((unhide HCS).below hb3)
  have HI3 := hide ((unhide HID).kept hb3)
  clear hv hb3 HCS HID k1 k2 k3 belA
  cases v
  · go_wp2_with fail
    refine bodyPost_ret (v := .tuple #[.nilIface, .bool false]) ?res rfl ⟨Or.inl ⟨.nilIface, rfl, hide (fun h => Bool.false_ne_true ((unhide HV).2 ⟨h.1.2.1, h.1.2.2⟩)), Or.inl rfl⟩, bel3⟩
    case res => simp [results, Tryz.results46, go_sem]
  have HO := hide ((unhide HV).1 rfl).1
  have HK := hide ((unhide HV).1 rfl).2
  clear HV
  have hlx := (unhide HO).2.1
  have hlx1 := (unhide HO).1
  have HG0 := hide (show GrAt (w3.alloc (.cells #[.int .i64 0] 153)) w3.heap.size 0 from ⟨by simp [go_sem], by simp [go_sem]⟩)
  have HC4 := hide ((unhide HC3).below (below1 w3 (.cells #[.int .i64 0] 153)))
  have HI4 := hide ((unhide HI3).kept (below1 w3 (.cells #[.int .i64 0] 153)))
  have bel4 : Below w.heap.size w (w3.alloc (.cells #[.int .i64 0] 153)) := bel3.alloc bel3.size _
  have k1 := (unhide HC4) (w.heap.size + 1, 0, .slice (some ⟨bn, offn, none⟩) xs.length cn) (by simp)
  have k2 := (unhide HC4) (w1.heap.size, 0, .map (some bo)) (by simp)
  have k3 := (unhide HC4) (w1.heap.size, 1, .map (some bs)) (by simp)
  simp only at k1 k2 k3
  clear HC3 HI3 HC4
  go_wp2_with fail
  refine (exprOf_any bo bs bn offn cn ns xs _ (unhide HI4) (unhide HC) (unhide HOK) ((unhide HWN).below bel4 hBn) (unhide HZN) (Nat.lt_of_lt_of_le hBn bel4.size) (unhide HO) (unhide HK)).mono ?_
  rintro e w5 ⟨rfl, hb5⟩
  have HG5 := hide ((unhide HG0).below hb5)
  have bel5 := bel4.trans (hb5.mono bel4.size)
  have HFIT := hide (fit_any ns xs (unhide HO).2.2.2 (unhide HK) (unhide HZ) xs.length (xs.length - 1) 0 (by omega) (by omega) (unhide HO).2.2.1 w3.heap.size 0 0 w5 (unhide HG5) (by omega))
  obtain ⟨T, u, hTu⟩ := exS_iface ns xs (xs.length - 1)
  obtain ⟨T2, u2, hTu2⟩ := fS_iface ns xs xs.length (xs.length - 1) 0 (by omega) (unhide HO).2.2.1 0
  rw [hTu, hTu2] at HFIT
  have HT2 := hide hTu2
  have hln := (gS_len ns xs xs.length (xs.length - 1) 0 (by omega) (unhide HO).2.2.1 0 0).2
  rw [hTu]
  clear hb5 HG0 HI4 k1 k2 k3 hTu hTu2 bel4
  go_wp2_with fail
  refine (unhide HFIT).mono ?_
  rintro e w6 ⟨rfl, hg6, hk6⟩
  have bel6 : Below w.heap.size w w6 := bel5.trans ((unhide hk6).below (by exact bel5.size) (by omega))
  have cg := (unhide hg6).1
  obtain ⟨q, hq⟩ : ∃ q, q = (gS ns xs (xs.length - 1) 0 0).length := ⟨_, rfl⟩
  rw [← hq] at cg hln
  rw [Nat.zero_add] at cg
  have HQ := hide hq
  clear hg6 hk6 HFIT HG5 hq
  by_cases hq2 : q ≤ 20000
  · have hqI : (q : Int) ≤ 20000 := by omega
    go_wp2_with fail
    go_quiet (fail)
    go_wp2
    refine bodyPost_ret (v := .tuple #[.iface T2 u2, .bool true]) ?res rfl ⟨Or.inr ⟨by rw [unhide HT2], hide ⟨⟨unhide HC, unhide HO, unhide HK⟩, by rw [← unhide HQ]; exact hq2⟩⟩, below_samS bel6 rfl rfl rfl rfl⟩
    case res => simp [results, Tryz.results46, go_sem, hqI]
  · have hqI : ¬ (q : Int) ≤ 20000 := by omega
    go_wp2_with fail
    go_quiet (fail)
    go_wp2
    refine bodyPost_ret (v := .tuple #[.iface T2 u2, .bool false]) ?res rfl ⟨Or.inl ⟨_, rfl, hide (fun h => hq2 (by rw [unhide HQ]; exact h.2)), Or.inr ⟨_, _, rfl⟩⟩, below_samS bel6 rfl rfl rfl rfl⟩
    case res => simp [results, Tryz.results46, go_sem, hqI]
end Go.Proofs.YtokabkhnidlcnabGreat
