import Derived.Test.YtokabkhnidlcnabGreatR10
import Derived.Test.YtokabkhnidlcnabGreatS00
import Derived.Test.YtokabkhnidlcnabGreatS04

/-
  Walks: the program's printer over an inner tree.
-/
namespace Go.Proofs.YtokabkhnidlcnabGreat
set_option maxRecDepth 100000
set_option linter.unusedSimpArgs false
set_option linter.unusedVariables false
open Go.RowKit Go.Maps

/-- A value whose words are written. -/
def WrIs (e : Value) (W : List WordR) : Prop := (∃ T v, e = .iface T v) ∧ ∀ (b : Nat) (v : Value) (ps : List ByteArray) (last : Int) (w : World) (st : List ByteArray × Int), PrAt w b v ps last → ps.length + 2 * W.length ≤ 200000 → st = W.foldl put1 (ps, last) →
  Calls Tryz.prog 47 #[.pointer (some ⟨b, 0, none⟩), e] w (PrPost w b v st)

def zL : Value := .agg #[.string ⟨#[]⟩]

theorem is_num (v : Value) : ∀ w, (Instr.typeAssert (.iface 162 v) 92 162 true).run Tryz.prog w = .ok (.tuple #[v, .bool true]) w := fun w => by kernel_rfl
theorem is_name (v : Value) : ∀ w, (Instr.typeAssert (.iface 164 v) 92 164 true).run Tryz.prog w = .ok (.tuple #[v, .bool true]) w := fun w => by kernel_rfl
theorem nw_name (v : Value) : Nots 164 v 162 zL := fun w => by kernel_rfl
theorem nw_pre (v : Value) : Nots 170 v 162 zL ∧ Nots 170 v 164 zL := ⟨fun w => by kernel_rfl, fun w => by kernel_rfl⟩
theorem nw_inf (v : Value) : Nots 172 v 162 zL ∧ Nots 172 v 164 zL := ⟨fun w => by kernel_rfl, fun w => by kernel_rfl⟩
theorem nw_post (v : Value) : Nots 173 v 162 zL ∧ Nots 173 v 164 zL := ⟨fun w => by kernel_rfl, fun w => by kernel_rfl⟩
theorem nw_grp (v : Value) : Nots 175 v 162 zL ∧ Nots 175 v 164 zL ∧ Nots 175 v 170 zP ∧ Nots 175 v 172 zI ∧ Nots 175 v 173 zP :=
  ⟨fun w => by kernel_rfl, fun w => by kernel_rfl, fun w => by kernel_rfl, fun w => by kernel_rfl, fun w => by kernel_rfl⟩

theorem put1_fst (ps : List ByteArray) (last : Int) (x : WordR) : put1 (ps, last) x = (ps ++ ((if blankB last (kW x) then [blk] else []) ++ [x.t]), kW x) := rfl
theorem put1_len (st : List ByteArray × Int) (x : WordR) : (put1 st x).1.length ≤ st.1.length + 2 := by
  unfold put1
  simp only [List.length_append, List.length_cons, List.length_nil]
  split <;> simp
theorem fold_len : ∀ (W : List WordR) (st : List ByteArray × Int), (W.foldl put1 st).1.length ≤ st.1.length + 2 * W.length
  | [], st => by simp
  | x :: r, st => by
    have h1 := put1_len st x
    have h2 := fold_len r (put1 st x)
    simp only [List.foldl_cons, List.length_cons] at *
    omega

theorem PrPost.up {w w1 : World} {b : Nat} {v : Value} {st : List ByteArray × Int} (h : Below w.heap.size w w1) {x : Ending} {w' : World} (hp : PrPost w1 b v st x w') : PrPost w b v st x w' := by
  obtain ⟨rfl, v', h1, h2, h3⟩ := hp
  have := h.size
  exact ⟨rfl, v', h1, hide (KeptS.below h (unhide h2)), hide ((unhide h3).imp id (fun ⟨k, a, b⟩ => ⟨k, a, by omega⟩))⟩
theorem PrPost.join {w w1 : World} {b : Nat} {v v1 : Value} {st : List ByteArray × Int} (h2 : KeptS w w1 b v.ownBlock) (h3 : v1.ownBlock = v.ownBlock ∨ ∃ k, v1.ownBlock = some k ∧ w.heap.size ≤ k) {x : Ending} {w' : World} (hp : PrPost w1 b v1 st x w') : PrPost w b v st x w' := by
  obtain ⟨rfl, v', p1, p2, p3⟩ := hp
  exact ⟨rfl, v', p1, hide (h2.trans (unhide p2) h3), hide (h2.at h3 _ (unhide p3))⟩

set_option maxHeartbeats 1000000 in
theorem wr_num (t : ByteArray) : WrIs (eNum t) [⟨t, false, false⟩] := by
  refine ⟨⟨_, _, rfl⟩, ?_⟩
  intro b v ps last w st h hl hst
  have n0 := is_num (.agg #[.string t])
  have HP := hide h
  have HST := hide (show st = (ps ++ ((if blankB last 1 then [blk] else []) ++ [t]), 1) from hst)
  simp only [List.length_cons, List.length_nil] at hl
  clear h hst
  unfold eNum
  go_enter Tryz.func47, Tryz.ntmps47
  go_wp2_with fail
  refine (put_any b v ps last 1 t _ ((unhide HP).below (below1 _ _)) (by omega)).mono ?_
  intro x w1 hp
  rw [← unhide HST] at hp
  obtain ⟨rfl, v1, p1, p2, p3⟩ := hp.up (below1 _ _)
  go_wp2_with fail
  go_end0
  exact ⟨rfl, v1, p1, p2, p3⟩

set_option maxHeartbeats 1000000 in
theorem wr_name (t : ByteArray) : WrIs (eName t) [⟨t, false, false⟩] := by
  refine ⟨⟨_, _, rfl⟩, ?_⟩
  intro b v ps last w st h hl hst
  have n0 := is_name (.agg #[.string t])
  have n1 := nw_name (.agg #[.string t])
  unfold Nots zL at n1
  have HP := hide h
  have HST := hide (show st = (ps ++ ((if blankB last 1 then [blk] else []) ++ [t]), 1) from hst)
  simp only [List.length_cons, List.length_nil] at hl
  clear h hst
  unfold eName
  go_enter Tryz.func47, Tryz.ntmps47
  go_wp2_with fail
  refine (put_any b v ps last 1 t _ ((unhide HP).below (below1 _ _)) (by omega)).mono ?_
  intro x w1 hp
  rw [← unhide HST] at hp
  obtain ⟨rfl, v1, p1, p2, p3⟩ := hp.up (below1 _ _)
  go_wp2_with fail
  go_end0
  exact ⟨rfl, v1, p1, p2, p3⟩

set_option maxHeartbeats 2000000 in
theorem wr_pre {e : Value} {W : List WordR} (he : WrIs e W) (p : OpR) : WrIs (ePre p e) (⟨p.s, true, false⟩ :: W) := by
  refine ⟨⟨_, _, rfl⟩, ?_⟩
  intro b v ps last w st h hl hst
  obtain ⟨⟨T, u, rfl⟩, hcall⟩ := he
  have n0 := is_pre (.agg #[.string p.s, .int .i64 p.k, .int .i64 p.l, .int .i64 p.sd, .iface T u])
  have n1 := nw_pre (.agg #[.string p.s, .int .i64 p.k, .int .i64 p.l, .int .i64 p.sd, .iface T u])
  unfold Nots zL at n1
  obtain ⟨n1, n2⟩ := n1
  have HP := hide h
  have hlt : b < w.heap.size := block_lt_of_cell h.c0
  have hv : v.ownBlock ≠ some w.heap.size := fun e => by have := (h.row.lt _ e).2; omega
  have hl1 := fold_len [⟨p.s, true, false⟩] (ps, last)
  obtain ⟨st1, HS1⟩ : ∃ st1, Hid (st1 = put1 (ps, last) ⟨p.s, true, false⟩) := ⟨_, hide rfl⟩
  have HS1' := hide (show st1 = (ps ++ ((if blankB last 2 then [blk] else []) ++ [p.s]), 2) from unhide HS1)
  have HST := hide (show st = W.foldl put1 (st1.1, st1.2) by rw [hst, List.foldl_cons, ← unhide HS1])
  have hl2 : st1.1.length + 2 * W.length ≤ 200000 := by
    simp only [List.foldl_cons, List.foldl_nil, List.length_cons, List.length_nil] at hl hl1
    rw [← unhide HS1] at hl1
    omega
  simp only [List.length_cons] at hl
  have HC := hide hcall
  clear h hst hcall hl1
  unfold ePre
  go_enter Tryz.func47, Tryz.ntmps47
  go_wp2_with fail
  refine (put_any b v ps last 2 p.s _ ((unhide HP).below (below1 _ _)) (by omega)).mono ?_
  intro x w1 hp
  rw [← unhide HS1'] at hp
  obtain ⟨rfl, v1, p1, p2, p3⟩ := hp
  have q4 : w1.cell? ⟨w.heap.size, 4, none⟩ = some (.iface T u) := ((unhide p2).cell (b := w.heap.size) (by simp) (by omega) hv 4).trans (by simp [go_sem])
  have HK := hide (KeptS.below (below1 _ _) (unhide p2))
  have HA := hide ((unhide p3).imp id (fun ⟨k, a, b⟩ => ⟨k, a, by simp at b; omega⟩) : v1.ownBlock = v.ownBlock ∨ ∃ k, v1.ownBlock = some k ∧ w.heap.size ≤ k)
  clear p2 p3 n0 n1 n2
  go_wp2_with fail
  refine ((unhide HC) b v1 st1.1 st1.2 _ st (unhide p1) hl2 (unhide HST)).mono ?_
  intro x w2 hp
  obtain ⟨rfl, v2, r1, r2, r3⟩ := hp.join (unhide HK) (unhide HA)
  clear q4
  go_wp2_with fail
  go_end0
  exact ⟨rfl, v2, r1, r2, r3⟩

set_option maxHeartbeats 2000000 in
theorem wr_post {e : Value} {W : List WordR} (he : WrIs e W) (p : OpR) : WrIs (ePost p e) (W ++ [⟨p.s, true, false⟩]) := by
  refine ⟨⟨_, _, rfl⟩, ?_⟩
  intro b v ps last w st h hl hst
  obtain ⟨⟨T, u, rfl⟩, hcall⟩ := he
  have n0 := is_post (.agg #[.string p.s, .int .i64 p.k, .int .i64 p.l, .int .i64 p.sd, .iface T u])
  have n1 := nw_post (.agg #[.string p.s, .int .i64 p.k, .int .i64 p.l, .int .i64 p.sd, .iface T u])
  have n3 := no_post (.agg #[.string p.s, .int .i64 p.k, .int .i64 p.l, .int .i64 p.sd, .iface T u])
  unfold Nots zL at n1
  obtain ⟨n1, n2⟩ := n1
  obtain ⟨_, n3, n4⟩ := n3
  unfold Nots zP at n3
  unfold Nots zI at n4
  have HP := hide h
  have hlt : b < w.heap.size := block_lt_of_cell h.c0
  have hv : v.ownBlock ≠ some w.heap.size := fun e => by have := (h.row.lt _ e).2; omega
  obtain ⟨st1, HS1⟩ : ∃ st1, Hid (st1 = W.foldl put1 (ps, last)) := ⟨_, hide rfl⟩
  have hl1 := fold_len W (ps, last)
  rw [← unhide HS1] at hl1
  have HST := hide (show st = (st1.1 ++ ((if blankB st1.2 2 then [blk] else []) ++ [p.s]), 2) by rw [hst, List.foldl_append, ← unhide HS1]; rfl)
  simp only [List.length_append, List.length_cons, List.length_nil] at hl hl1
  have hl2 : st1.1.length + 2 ≤ 200000 := by omega
  have HC := hide hcall
  clear h hst hcall hl1
  unfold ePost
  go_enter Tryz.func47, Tryz.ntmps47
  go_wp2_with fail
  refine ((unhide HC) b v ps last _ st1 ((unhide HP).below (below1 _ _)) (by omega) (unhide HS1)).mono ?_
  intro x w1 hp
  obtain ⟨rfl, v1, p1, p2, p3⟩ := hp
  have q4 : w1.cell? ⟨w.heap.size, 0, none⟩ = some (.string p.s) := ((unhide p2).cell (b := w.heap.size) (by simp) (by omega) hv 0).trans (by simp [go_sem])
  have HK := hide (KeptS.below (below1 _ _) (unhide p2))
  have HA := hide ((unhide p3).imp id (fun ⟨k, a, b⟩ => ⟨k, a, by simp at b; omega⟩) : v1.ownBlock = v.ownBlock ∨ ∃ k, v1.ownBlock = some k ∧ w.heap.size ≤ k)
  clear p2 p3 n0 n1 n2 n3 n4
  go_wp2_with fail
  refine (put_any b v1 st1.1 st1.2 2 p.s _ (unhide p1) hl2).mono ?_
  intro x w2 hp
  rw [← unhide HST] at hp
  obtain ⟨rfl, v2, r1, r2, r3⟩ := hp.join (unhide HK) (unhide HA)
  clear q4
  go_wp2_with fail
  go_end0
  exact ⟨rfl, v2, r1, r2, r3⟩

set_option maxHeartbeats 2000000 in
theorem wr_inf {e e' : Value} {W W' : List WordR} (he : WrIs e W) (he' : WrIs e' W') (p : OpR) : WrIs (eInf p e e') (W ++ (⟨p.s, true, true⟩ :: W')) := by
  refine ⟨⟨_, _, rfl⟩, ?_⟩
  intro b v ps last w st h hl hst
  obtain ⟨⟨T, u, rfl⟩, hcall⟩ := he
  obtain ⟨⟨T', u', rfl⟩, hcall'⟩ := he'
  have n0 := is_inf (.agg #[.string p.s, .int .i64 p.k, .int .i64 p.l, .int .i64 p.sd, .iface T u, .iface T' u'])
  have n1 := nw_inf (.agg #[.string p.s, .int .i64 p.k, .int .i64 p.l, .int .i64 p.sd, .iface T u, .iface T' u'])
  have n3 := no_inf (.agg #[.string p.s, .int .i64 p.k, .int .i64 p.l, .int .i64 p.sd, .iface T u, .iface T' u'])
  unfold Nots zL at n1
  obtain ⟨n1, n2⟩ := n1
  obtain ⟨_, n3⟩ := n3
  unfold Nots zP at n3
  have HP := hide h
  have hlt : b < w.heap.size := block_lt_of_cell h.c0
  have hv : v.ownBlock ≠ some w.heap.size := fun e => by have := (h.row.lt _ e).2; omega
  obtain ⟨st1, HS1⟩ : ∃ st1, Hid (st1 = W.foldl put1 (ps, last)) := ⟨_, hide rfl⟩
  have hl1 := fold_len W (ps, last)
  rw [← unhide HS1] at hl1
  obtain ⟨st2, HS2⟩ : ∃ st2, Hid (st2 = put1 st1 ⟨p.s, true, true⟩) := ⟨_, hide rfl⟩
  have hl2 := put1_len st1 ⟨p.s, true, true⟩
  rw [← unhide HS2] at hl2
  have HS2' := hide (show st2 = (st1.1 ++ ((if blankB st1.2 3 then [blk] else []) ++ [p.s]), 3) from unhide HS2)
  have HST := hide (show st = W'.foldl put1 (st2.1, st2.2) by rw [hst, List.foldl_append, ← unhide HS1, List.foldl_cons, ← unhide HS2])
  simp only [List.length_append, List.length_cons, List.length_nil] at hl hl1
  have hl3 : st1.1.length + 2 ≤ 200000 := by omega
  have hl4 : st2.1.length + 2 * W'.length ≤ 200000 := by omega
  have HC := hide hcall
  have HC' := hide hcall'
  clear h hst hcall hcall' hl1 hl2
  unfold eInf
  go_enter Tryz.func47, Tryz.ntmps47
  go_wp2_with fail
  refine ((unhide HC) b v ps last _ st1 ((unhide HP).below (below1 _ _)) (by omega) (unhide HS1)).mono ?_
  intro x w1 hp
  obtain ⟨rfl, v1, p1, p2, p3⟩ := hp
  have q0 : w1.cell? ⟨w.heap.size, 0, none⟩ = some (.string p.s) := ((unhide p2).cell (b := w.heap.size) (by simp) (by omega) hv 0).trans (by simp [go_sem])
  have q5 : w1.cell? ⟨w.heap.size, 5, none⟩ = some (.iface T' u') := ((unhide p2).cell (b := w.heap.size) (by simp) (by omega) hv 5).trans (by simp [go_sem])
  have HK := hide (KeptS.below (below1 _ _) (unhide p2))
  have hz : w.heap.size < w1.heap.size := by have := (unhide p2).size; simp at this; omega
  have hv1 : v1.ownBlock ≠ some w.heap.size := fun e => by
    rcases unhide p3 with h | ⟨k, h1, h2⟩
    · exact hv (h.symm.trans e)
    · rw [h1] at e; injection e with e; simp at h2; omega
  have HA := hide ((unhide p3).imp id (fun ⟨k, a, b⟩ => ⟨k, a, by simp at b; omega⟩) : v1.ownBlock = v.ownBlock ∨ ∃ k, v1.ownBlock = some k ∧ w.heap.size ≤ k)
  clear p2 p3 n0 n1 n2 n3
  go_wp2_with fail
  refine (put_any b v1 st1.1 st1.2 3 p.s _ (unhide p1) hl3).mono ?_
  intro x w2 hp
  rw [← unhide HS2'] at hp
  obtain ⟨rfl, v2, r1, r2, r3⟩ := hp
  have s5 : w2.cell? ⟨w.heap.size, 5, none⟩ = some (.iface T' u') := ((unhide r2).cell (b := w.heap.size) hz (by omega) hv1 5).trans q5
  have HK2 := hide ((unhide HK).trans (unhide r2) (unhide HA))
  have HA2 := hide ((unhide HK).at (unhide HA) _ (unhide r3))
  clear r2 r3 HK HA q0 q5
  go_wp2_with fail
  refine ((unhide HC') b v2 st2.1 st2.2 _ st (unhide r1) hl4 (unhide HST)).mono ?_
  intro x w3 hp
  obtain ⟨rfl, v3, t1, t2, t3⟩ := hp.join (unhide HK2) (unhide HA2)
  clear s5
  go_wp2_with fail
  go_end0
  exact ⟨rfl, v3, t1, t2, t3⟩

set_option maxHeartbeats 2000000 in
theorem wr_grp {e : Value} {W : List WordR} (he : WrIs e W) : WrIs (eGrp e) (⟨opn, false, false⟩ :: (W ++ [⟨cls1, false, false⟩])) := by
  refine ⟨⟨_, _, rfl⟩, ?_⟩
  intro b v ps last w st h hl hst
  obtain ⟨⟨T, u, rfl⟩, hcall⟩ := he
  have n0 := is_grp (.agg #[.iface T u])
  have n1 := nw_grp (.agg #[.iface T u])
  obtain ⟨n1, n2, n3, n4, n5⟩ := n1
  unfold Nots zL at n1 n2
  unfold Nots zP at n3 n5
  unfold Nots zI at n4
  have HP := hide h
  have hlt : b < w.heap.size := block_lt_of_cell h.c0
  have hv : v.ownBlock ≠ some w.heap.size := fun e => by have := (h.row.lt _ e).2; omega
  obtain ⟨st1, HS1⟩ : ∃ st1, Hid (st1 = put1 (ps, last) ⟨opn, false, false⟩) := ⟨_, hide rfl⟩
  have hl1 := put1_len (ps, last) ⟨opn, false, false⟩
  rw [← unhide HS1] at hl1
  have HS1' := hide (show st1 = (ps ++ ((if blankB last 1 then [blk] else []) ++ [⟨#[40]⟩]), 1) from unhide HS1)
  obtain ⟨st2, HS2⟩ : ∃ st2, Hid (st2 = W.foldl put1 (st1.1, st1.2)) := ⟨_, hide rfl⟩
  have hl2 := fold_len W (st1.1, st1.2)
  rw [← unhide HS2] at hl2
  have HST := hide (show st = (st2.1 ++ ((if blankB st2.2 1 then [blk] else []) ++ [⟨#[41]⟩]), 1) by
    rw [hst, List.foldl_cons, ← unhide HS1, List.foldl_append]
    show List.foldl put1 (List.foldl put1 (st1.1, st1.2) W) _ = _
    rw [← unhide HS2]
    rfl)
  simp only [List.length_append, List.length_cons, List.length_nil] at hl hl1 hl2
  have hl3 : st1.1.length + 2 * W.length ≤ 200000 := by omega
  have hl4 : st2.1.length + 2 ≤ 200000 := by omega
  have HC := hide hcall
  clear h hst hcall hl1 hl2
  unfold eGrp
  go_enter Tryz.func47, Tryz.ntmps47
  go_wp2_with fail
  refine (put_any b v ps last 1 ⟨#[40]⟩ _ ((unhide HP).below (below1 _ _)) (by omega)).mono ?_
  intro x w1 hp
  rw [← unhide HS1'] at hp
  obtain ⟨rfl, v1, p1, p2, p3⟩ := hp
  have q4 : w1.cell? ⟨w.heap.size, 0, none⟩ = some (.iface T u) := ((unhide p2).cell (b := w.heap.size) (by simp) (by omega) hv 0).trans (by simp [go_sem])
  have HK := hide (KeptS.below (below1 _ _) (unhide p2))
  have HA := hide ((unhide p3).imp id (fun ⟨k, a, b⟩ => ⟨k, a, by simp at b; omega⟩) : v1.ownBlock = v.ownBlock ∨ ∃ k, v1.ownBlock = some k ∧ w.heap.size ≤ k)
  clear p2 p3 n0 n1 n2 n3 n4 n5
  go_wp2_with fail
  refine ((unhide HC) b v1 st1.1 st1.2 _ st2 (unhide p1) hl3 (unhide HS2)).mono ?_
  intro x w2 hp
  obtain ⟨rfl, v2, r1, r2, r3⟩ := hp
  have HK2 := hide ((unhide HK).trans (unhide r2) (unhide HA))
  have HA2 := hide ((unhide HK).at (unhide HA) _ (unhide r3))
  clear r2 r3 HK HA q4
  go_wp2_with fail
  refine (put_any b v2 st2.1 st2.2 1 ⟨#[41]⟩ _ (unhide r1) hl4).mono ?_
  intro x w3 hp
  rw [← unhide HST] at hp
  obtain ⟨rfl, v3, t1, t2, t3⟩ := hp.join (unhide HK2) (unhide HA2)
  go_wp2_with fail
  go_end0
  exact ⟨rfl, v3, t1, t2, t3⟩

/-- Every tree over the table. -/
theorem wr_tree (ns : List OpR) : ∀ T : ET, WellT ns T → WrIs (exT ns T) (yT T) := by
  intro T
  induction T with
  | nil => intro h; exact h.elim
  | node b o t l r ihl ihr =>
    rintro ⟨rfl, h⟩
    rcases h with ⟨h | h, rfl, rfl⟩ | ⟨rfl, rfl, hl, rfl⟩ | ⟨h | h, hk, hl, rfl⟩ | ⟨rfl, hk, hl, hr⟩
    · subst h
      exact wr_num t
    · subst h
      exact wr_name t
    · have e : yT (.node 6 0 ByteArray.empty l .nil) = ⟨opn, false, false⟩ :: (yT l ++ [⟨cls1, false, false⟩]) := by simp [yT, ySy, wS]
      rw [e]
      exact wr_grp (ihl hl)
    · subst h
      have e : yT (.node 3 0 t l .nil) = ⟨(opA ns (rt 3 t)).s, true, false⟩ :: yT l := by rw [op_text hk]; simp [yT, ySy, wS]
      rw [e]
      exact wr_pre (ihl hl) _
    · subst h
      have e : yT (.node 5 0 t l .nil) = yT l ++ [⟨(opA ns (rt 5 t)).s, true, false⟩] := by rw [op_text hk]; simp [yT, ySy, wS]
      rw [e]
      exact wr_post (ihl hl) _
    · have e : yT (.node 4 0 t l r) = yT l ++ (⟨(opA ns (rt 4 t)).s, true, true⟩ :: yT r) := by rw [op_text hk]; simp [yT, ySy, wS]
      rw [e]
      exact wr_inf (ihl hl) (ihr hr) _
end Go.Proofs.YtokabkhnidlcnabGreat

/-
  Walks: fit at operator nodes.
-/
namespace Go.Proofs.YtokabkhnidlcnabGreat
set_option maxRecDepth 100000
set_option linter.unusedSimpArgs false
set_option linter.unusedVariables false
open Go.RowKit

/-- An inner node in a variable. -/
def PreAt (w : World) (N : Nat) (p : OpR) (e : Value) : Prop := w.cell? ⟨N, 0, none⟩ = some (.string p.s) ∧ w.cell? ⟨N, 1, none⟩ = some (.int .i64 p.k) ∧ w.cell? ⟨N, 2, none⟩ = some (.int .i64 p.l) ∧ w.cell? ⟨N, 3, none⟩ = some (.int .i64 p.sd) ∧ w.cell? ⟨N, 4, none⟩ = some e ∧ w.frozen? ⟨N, 4, none⟩ = false

theorem PreAt.kept {w w' : World} {N g : Nat} {p : OpR} {e : Value} (h : PreAt w N p e) (hk : Kept1 w w' g) (hne : N ≠ g) : PreAt w' N p e := by
  obtain ⟨h0, h1, h2, h3, h4, h5⟩ := h
  have hlt := block_lt_of_cell h0
  have c := hk.cell hlt hne
  exact ⟨(c 0).trans h0, (c 1).trans h1, (c 2).trans h2, (c 3).trans h3, (c 4).trans h4, (hk.frozen hlt hne 4).trans h5⟩

theorem PreAt.below {w w' : World} {N : Nat} {p : OpR} {e : Value} (h : PreAt w N p e) (hb : Below w.heap.size w w') : PreAt w' N p e :=
  h.kept (g := w.heap.size) (Kept1.of_below hb) (by have : N < w.heap.size := block_lt_of_cell h.1; omega)

theorem PreAt.set {w : World} {N : Nat} {p : OpR} {e : Value} (h : PreAt w N p e) (e' : Value) : PreAt (w.setCell ⟨N, 4, none⟩ e') N p e' := by
  obtain ⟨h0, h1, h2, h3, h4, h5⟩ := h
  have c : ∀ o, o ≠ 4 → (w.setCell ⟨N, 4, none⟩ e').cell? ⟨N, o, none⟩ = w.cell? ⟨N, o, none⟩ := fun o ho => World.cell?_setCell_other _ _ _ _ (fun x => ho (by injection x with _ x; exact x.symm))
  exact ⟨(c 0 (by omega)).trans h0, (c 1 (by omega)).trans h1, (c 2 (by omega)).trans h2, (c 3 (by omega)).trans h3, World.cell?_setCell_same _ _ _ h4, (World.frozen?_setCell _ _ _ _).trans h5⟩

theorem GrAt.other {w : World} {g m N o : Nat} (h : GrAt w g m) (hne : N ≠ g) (v : Value) : GrAt (w.setCell ⟨N, o, none⟩ v) g m :=
  ⟨(World.cell?_setCell_other _ _ _ _ (fun x => hne (by injection x))).trans h.1, (World.frozen?_setCell _ _ _ _).trans h.2⟩

theorem Kept1.far {w w1 : World} {g N : Nat} (h : Kept1 w w1 g) (o : Nat) (v : Value) (hN : w.heap.size ≤ N) : Kept1 w (w1.setCell ⟨N, o, none⟩ v) g :=
  ⟨h.os, h.tape, h.output, by simpa [World.setCell] using h.size, fun i hi a => (Below.heap_setCell _ _ _ _ (fun e => by have : i = N := e; omega)).trans (h.block i hi a)⟩

set_option maxHeartbeats 1000000 in
theorem fit_pre {T : TypeId} {v : Value} (p : OpR) (g m m1 : Nat) (least : Int) {e1 : Value} (w : World) (he : ∃ T' v', e1 = .iface T' v') (hg : GrAt w g m) (hsz : p.s.size ≤ maxLen) (hm1 : m1 ≤ 100000)
    (hc : ∀ W, GrAt W g m → Calls Tryz.prog 85 #[.pointer (some ⟨g, 0, none⟩), .iface T v, .int .i64 (holeI p.s p.k p.l p.sd false)] W (FitPost W g m1 e1)) :
    Calls Tryz.prog 85 #[.pointer (some ⟨g, 0, none⟩), ePre p (.iface T v), .int .i64 least] w (FitPost w g (m1 + encN p.l least) (encV p.l least (ePre p e1))) := by
  obtain ⟨T', v', rfl⟩ := he
  have n1 := no_pre (.agg #[.string p.s, .int .i64 p.k, .int .i64 p.l, .int .i64 p.sd, .iface T v])
  have i1 := is_pre (.agg #[.string p.s, .int .i64 p.k, .int .i64 p.l, .int .i64 p.sd, .iface T v])
  unfold Nots zG at n1
  have hlt := block_lt_of_cell hg.1
  have HC := hide hc
  have HGC := hide (show GrAt (w.alloc (.cells #[.string p.s, .int .i64 p.k, .int .i64 p.l, .int .i64 p.sd, .iface T v] 170)).drew g m from hg.below ((below1 _ _).drew))
  have HPC := hide (show PreAt (w.alloc (.cells #[.string p.s, .int .i64 p.k, .int .i64 p.l, .int .i64 p.sd, .iface T v] 170)).drew w.heap.size p (.iface T v) from
    (show PreAt (w.alloc (.cells #[.string p.s, .int .i64 p.k, .int .i64 p.l, .int .i64 p.sd, .iface T v] 170)) w.heap.size p (.iface T v) from ⟨by simp [go_sem], by simp [go_sem], by simp [go_sem], by simp [go_sem], by simp [go_sem], by simp [go_sem]⟩).below ((Below.refl _ _).drew))
  have HKC := hide (show Kept1 w (w.alloc (.cells #[.string p.s, .int .i64 p.k, .int .i64 p.l, .int .i64 p.sd, .iface T v] 170)).drew g from Kept1.of_below ((below1 _ _).drew))
  clear hc hg
  unfold ePre
  go_enter Tryz.func85, Tryz.ntmps85
  go_wp2_with fail
  clear n1 i1
  obtain ⟨k0, k1, k2, k3, k4, k5⟩ := unhide HPC
  go_region_with
    (first | (go_at_call 113; refine (implHole_any p.s p.k p.l p.sd false _ hsz).mono ?_; rintro e w3 ⟨rfl, hb3⟩; replace HPC := hide ((unhide HPC).below hb3); replace ⟨k0, k1, k2, k3, k4, k5⟩ := unhide HPC; replace HGC := hide ((unhide HGC).below hb3); replace HKC := hide ((unhide HKC).trans (Kept1.of_below hb3)); clear hb3) | (go_at_call 85; refine ((unhide HC) _ (unhide HGC)).mono ?_; rintro e w4 ⟨rfl, hg4, hk4⟩; replace HPC := hide ((unhide HPC).kept (unhide hk4) (by omega)); replace HGC := hg4; replace HKC := hide ((unhide HKC).trans (unhide hk4)); clear hk4 hg4; replace ⟨k0, k1, k2, k3, k4, k5⟩ := unhide HPC))
  all_goals
    replace HPC := hide ((unhide HPC).set (.iface T' v'))
    replace HGC := hide ((unhide HGC).other (N := w.heap.size) (o := 4) (by omega) (.iface T' v'))
    replace HKC := hide ((unhide HKC).far 4 (.iface T' v') (Nat.le_refl _))
    clear k0 k1 k2 k3 k4 k5
    obtain ⟨k0, k1, k2, k3, k4, k5⟩ := unhide HPC
    go_wp2_with fail
    refine (enclose_any (lev_pre p (.iface T' v')) g m1 least _ (unhide HGC) hm1).mono ?_
    rintro x w6 ⟨rfl, h1, h2⟩
    obtain ⟨T6, v6, hTv⟩ := encV_iface p.l least 170 (.agg #[.string p.s, .int .i64 p.k, .int .i64 p.l, .int .i64 p.sd, .iface T' v'])
    have HK6 := hide ((unhide HKC).trans (unhide h2))
    unfold ePre
    rw [hTv]
    clear k0 k1 k2 k3 k4 k5 HPC HGC HKC h2
    go_wp2_with fail
    go_ret
    exact ⟨by first | rfl | (rw [hTv]; rfl), h1, HK6⟩
end Go.Proofs.YtokabkhnidlcnabGreat

/-
  Walks: fit at postfix nodes.
-/
namespace Go.Proofs.YtokabkhnidlcnabGreat
set_option maxRecDepth 100000
set_option linter.unusedSimpArgs false
set_option linter.unusedVariables false
open Go.RowKit

set_option maxHeartbeats 1000000 in
theorem fit_post {T : TypeId} {v : Value} (p : OpR) (g m m1 : Nat) (least : Int) {e1 : Value} (w : World) (he : ∃ T' v', e1 = .iface T' v') (hg : GrAt w g m) (hsz : p.s.size ≤ maxLen) (hm1 : m1 ≤ 100000)
    (hc : ∀ W, GrAt W g m → Calls Tryz.prog 85 #[.pointer (some ⟨g, 0, none⟩), .iface T v, .int .i64 (holeI p.s p.k p.l p.sd false)] W (FitPost W g m1 e1)) :
    Calls Tryz.prog 85 #[.pointer (some ⟨g, 0, none⟩), ePost p (.iface T v), .int .i64 least] w (FitPost w g (m1 + encN p.l least) (encV p.l least (ePost p e1))) := by
  obtain ⟨T', v', rfl⟩ := he
  obtain ⟨n1, n2, n3⟩ := no_post (.agg #[.string p.s, .int .i64 p.k, .int .i64 p.l, .int .i64 p.sd, .iface T v])
  have i1 := is_post (.agg #[.string p.s, .int .i64 p.k, .int .i64 p.l, .int .i64 p.sd, .iface T v])
  unfold Nots zG at n1
  unfold Nots zP at n2
  unfold Nots zI at n3
  have hlt := block_lt_of_cell hg.1
  have HC := hide hc
  have HGC := hide (show GrAt (w.alloc (.cells #[.string p.s, .int .i64 p.k, .int .i64 p.l, .int .i64 p.sd, .iface T v] 173)).drew g m from hg.below ((below1 _ _).drew))
  have HPC := hide (show PreAt (w.alloc (.cells #[.string p.s, .int .i64 p.k, .int .i64 p.l, .int .i64 p.sd, .iface T v] 173)).drew w.heap.size p (.iface T v) from
    (show PreAt (w.alloc (.cells #[.string p.s, .int .i64 p.k, .int .i64 p.l, .int .i64 p.sd, .iface T v] 173)) w.heap.size p (.iface T v) from ⟨by simp [go_sem], by simp [go_sem], by simp [go_sem], by simp [go_sem], by simp [go_sem], by simp [go_sem]⟩).below ((Below.refl _ _).drew))
  have HKC := hide (show Kept1 w (w.alloc (.cells #[.string p.s, .int .i64 p.k, .int .i64 p.l, .int .i64 p.sd, .iface T v] 173)).drew g from Kept1.of_below ((below1 _ _).drew))
  clear hc hg
  unfold ePost
  go_enter Tryz.func85, Tryz.ntmps85
  go_wp2_with fail
  clear n1 n2 n3 i1
  obtain ⟨k0, k1, k2, k3, k4, k5⟩ := unhide HPC
  go_region_with
    (first | (go_at_call 113; refine (implHole_any p.s p.k p.l p.sd false _ hsz).mono ?_; rintro e w3 ⟨rfl, hb3⟩; replace HPC := hide ((unhide HPC).below hb3); replace ⟨k0, k1, k2, k3, k4, k5⟩ := unhide HPC; replace HGC := hide ((unhide HGC).below hb3); replace HKC := hide ((unhide HKC).trans (Kept1.of_below hb3)); clear hb3) | (go_at_call 85; refine ((unhide HC) _ (unhide HGC)).mono ?_; rintro e w4 ⟨rfl, hg4, hk4⟩; replace HPC := hide ((unhide HPC).kept (unhide hk4) (by omega)); replace HGC := hg4; replace HKC := hide ((unhide HKC).trans (unhide hk4)); clear hk4 hg4; replace ⟨k0, k1, k2, k3, k4, k5⟩ := unhide HPC))
  all_goals
    replace HPC := hide ((unhide HPC).set (.iface T' v'))
    replace HGC := hide ((unhide HGC).other (N := w.heap.size) (o := 4) (by omega) (.iface T' v'))
    replace HKC := hide ((unhide HKC).far 4 (.iface T' v') (Nat.le_refl _))
    clear k0 k1 k2 k3 k4 k5
    obtain ⟨k0, k1, k2, k3, k4, k5⟩ := unhide HPC
    go_wp2_with fail
    refine (enclose_any (lev_post p (.iface T' v')) g m1 least _ (unhide HGC) hm1).mono ?_
    rintro x w6 ⟨rfl, h1, h2⟩
    obtain ⟨T6, v6, hTv⟩ := encV_iface p.l least 173 (.agg #[.string p.s, .int .i64 p.k, .int .i64 p.l, .int .i64 p.sd, .iface T' v'])
    have HK6 := hide ((unhide HKC).trans (unhide h2))
    unfold ePost
    rw [hTv]
    clear k0 k1 k2 k3 k4 k5 HPC HGC HKC h2
    go_wp2_with fail
    go_ret
    exact ⟨by first | rfl | (rw [hTv]; rfl), h1, HK6⟩
end Go.Proofs.YtokabkhnidlcnabGreat
