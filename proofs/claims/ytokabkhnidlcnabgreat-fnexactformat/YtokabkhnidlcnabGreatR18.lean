import Derived.Test.YtokabkhnidlcnabGreatR10
import Derived.Test.YtokabkhnidlcnabGreatR12
import Derived.Test.YtokabkhnidlcnabGreatR17

/-
  Walks: the specification's l3WellFormed, the whole of it.
-/
namespace Go.Proofs.YtokabkhnidlcnabGreat
set_option maxRecDepth 100000
set_option linter.unusedSimpArgs false
set_option linter.unusedVariables false
open Go.RowKit

theorem specTableOk_zero (b off cap : Nat) (xs : List OpR) (w : World) (hm : xs.length ≤ 1048576) (hw : Ops w b off xs) (hs : Sized xs) (hB : b < w.heap.size) (hc : IsCode xs 0) :
    Calls Tryz.prog 22 #[.agg #[.slice (some ⟨b, off, none⟩) xs.length cap]] w fun e w' => e = .returned (.int .i64 0) ∧ Below w.heap.size w w' := by
  refine (specTableOk_any b off cap xs w hm hw hs hB).mono ?_
  rintro e w' ⟨⟨c, rfl, h⟩, hb⟩
  exact ⟨by rw [IsCode_one h hc], hb⟩

set_option maxHeartbeats 2000000 in
theorem l3WellFormed_any (b off cap bn offn cn : Nat) (xs : List OpR) (ns : List NodeR) (w : World) (hm : xs.length ≤ 1048576) (hmn : ns.length ≤ 1048576) (hw : Ops w b off xs) (hsz : Sized xs) (hB : b < w.heap.size) (hwn : OpsN w bn offn ns) (hsn : SizedN ns) (hBn : bn < w.heap.size) (hc : IsCode xs 0) :
    Calls Tryz.prog 79 #[.agg #[.slice (some ⟨b, off, none⟩) xs.length cap], .agg #[.slice (some ⟨bn, offn, none⟩) ns.length cn]] w fun e w' => RetB e (InOrd ns ∧ Knows xs ns) ∧ Below w.heap.size w w' := by
  have HW := hide hw
  have HWN := hide hwn
  have HZ := hide hsz
  have HZN := hide hsn
  have HC := hide hc
  clear hw hwn hsz hsn hc
  go_enter Tryz.func79, Tryz.ntmps79
  go_wp2_with fail
  refine (specTableOk_zero b off cap xs _ hm ((unhide HW).below ((below1 _ _).alloc (by simp) _) hB) (unhide HZ) (by simp; omega) (unhide HC)).mono ?_
  rintro e w1 ⟨rfl, hb1⟩
  have bel1 : Below w.heap.size w w1 := ((below1 _ _).alloc (by simp) _).trans (hb1.mono (by simp; omega))
  have c0 : w1.cell? ⟨w.heap.size, 0, none⟩ = some (.slice (some ⟨b, off, none⟩) xs.length cap) := (hb1.cell (p := ⟨w.heap.size, 0, none⟩) (by simp; omega)).trans (by simp [go_sem])
  have c1 : w1.cell? ⟨w.heap.size + 1, 0, none⟩ = some (.slice (some ⟨bn, offn, none⟩) ns.length cn) := (hb1.cell (p := ⟨w.heap.size + 1, 0, none⟩) (by simp)).trans (by simp [go_sem])
  have z1 : w.heap.size + 2 ≤ w1.heap.size := by have := hb1.size; simp at this; omega
  clear hb1
  go_wp2_with fail
  refine (l3InOrder_any bn offn cn ns _ hmn ((unhide HWN).below bel1 hBn) (unhide HZN) (by omega)).mono ?_
  rintro e w2 ⟨⟨v, rfl, hv⟩, hb2⟩
  have HV := hide hv
  have bel2 := bel1.trans (hb2.mono bel1.size)
  have e0 := (hb2.cell (p := ⟨w.heap.size, 0, none⟩) (show w.heap.size < w1.heap.size by omega)).trans c0
  have e1 := (hb2.cell (p := ⟨w.heap.size + 1, 0, none⟩) (show w.heap.size + 1 < w1.heap.size by omega)).trans c1
  have z2 : w.heap.size + 2 ≤ w2.heap.size := Nat.le_trans z1 hb2.size
  clear hb2 hv c0 c1 bel1 z1
  cases v
  · go_wp2_with fail
    go_ret
    exact ⟨⟨_, rfl, says_false (fun h => Bool.false_ne_true ((unhide HV).2 h.1))⟩, bel2⟩
  have HO := hide ((unhide HV).1 rfl)
  clear HV
  have HCS := hide (show Cs [(w.heap.size, 0, .slice (some ⟨b, off, none⟩) xs.length cap), (w.heap.size + 1, 0, .slice (some ⟨bn, offn, none⟩) ns.length cn)] w2 from fun p hp => by
    simp only [List.mem_cons, List.not_mem_nil, or_false] at hp
    rcases hp with rfl | rfl
    · exact e0
    · exact e1)
  go_wp2_with fail
  go_loopw [5] (fun iv wr => ∃ k : Nat, k ≤ ns.length ∧ iv = .int .i64 (k : Int) ∧ Hid (∀ i, i < k → isOpN (atN ns i) → fnd xs (atN ns i).t ((atN ns i).k - 2) ≠ none) ∧ Hid (Cs [(w.heap.size, 0, .slice (some ⟨b, off, none⟩) xs.length cap), (w.heap.size + 1, 0, .slice (some ⟨bn, offn, none⟩) ns.length cn)] wr) ∧ Below w.heap.size w wr) (fun iv _ => ns.length - (intOf iv).toNat)
  case atStart => exact ⟨0, Nat.zero_le _, rfl, hide (fun i hi => absurd hi (Nat.not_lt_zero i)), HCS, bel2⟩
  case round =>
    clear HCS e0 e1 bel2 z2
    obtain ⟨k, hk, rfl, hkn, hcs, hbel⟩ := hrel
    have c0 := (unhide hcs) (w.heap.size, 0, .slice (some ⟨b, off, none⟩) xs.length cap) (by simp)
    have c1 := (unhide hcs) (w.heap.size + 1, 0, .slice (some ⟨bn, offn, none⟩) ns.length cn) (by simp)
    simp only at c0 c1
    by_cases hlt : k < ns.length
    · have hltI : (k : Int) < (ns.length : Int) := by omega
      obtain ⟨a0, a1, a2, a3⟩ := ((unhide HWN) k hlt).below hbel hBn
      have HC1 := hide ((unhide hcs).below (below1 wr (.cells #[.int .i64 (atN ns k).k, .string (atN ns k).t, .int .i64 (atN ns k).a, .int .i64 (atN ns k).b] 115)))
      have bel1 : Below w.heap.size w (wr.alloc (.cells #[.int .i64 (atN ns k).k, .string (atN ns k).t, .int .i64 (atN ns k).a, .int .i64 (atN ns k).b] 115)) := hbel.alloc hbel.size _
      by_cases ho : isOpN (atN ns k)
      · have HD := hide (show true = decide (3 ≤ (atN ns k).k ∧ (atN ns k).k ≤ 5) by rw [eq_comm, decide_eq_true_iff]; exact ho)
        have h3 := ho.1
        have h5 := ho.2
        have HOP := hide ho
        clear ho
        go_wp2_with fail
        refine (l3IsOp_any (atN ns k) _ true (unhide HD)).mono ?_
        rintro e w3 ⟨rfl, hb3⟩
        have HC3 := hide ((unhide HC1).below hb3)
        have bel3 := bel1.trans (hb3.mono bel1.size)
        have n0 : w3.cell? ⟨wr.heap.size, 0, none⟩ = some (.int .i64 (atN ns k).k) := (hb3.cell (p := ⟨wr.heap.size, 0, none⟩) (by simp)).trans (by simp [go_sem])
        have n1 : w3.cell? ⟨wr.heap.size, 1, none⟩ = some (.string (atN ns k).t) := (hb3.cell (p := ⟨wr.heap.size, 1, none⟩) (by simp)).trans (by simp [go_sem])
        have d0 := (unhide HC3) (w.heap.size, 0, .slice (some ⟨b, off, none⟩) xs.length cap) (by simp)
        simp only at d0
        have hwr : IntKind.i64.wrap ((atN ns k).k - 2) = (atN ns k).k - 2 := by rw [IntKind.wrap_i64]; omega
        clear hb3 c0 c1
        cases hf : fnd xs (atN ns k).t ((atN ns k).k - 2) with
        | none =>
          have HF := hide hf
          have HFI := hide (show fI (fnd xs (atN ns k).t ((atN ns k).k - 2)) = -1 by rw [hf]; rfl)
          clear hf
          go_wp2_with fail
          refine (l2Find_ix b off cap xs (atN ns k).t ((atN ns k).k - 2) _ hm ((unhide HW).below bel3 hB) (Nat.lt_of_lt_of_le hB bel3.size)).mono ?_
          rw [unhide HFI]
          rintro e w4 ⟨rfl, hb4⟩
          go_wp2_with fail
          go_ret
          exact ⟨⟨_, rfl, says_false (fun h => h.2 k hlt (unhide HOP) (unhide HF))⟩, bel3.trans (hb4.mono bel3.size)⟩
        | some j =>
          have HF := hide hf
          have HFI := hide (show fI (fnd xs (atN ns k).t ((atN ns k).k - 2)) = (j : Int) by rw [hf]; rfl)
          clear hf
          go_wp2_with fail
          refine (l2Find_ix b off cap xs (atN ns k).t ((atN ns k).k - 2) _ hm ((unhide HW).below bel3 hB) (Nat.lt_of_lt_of_le hB bel3.size)).mono ?_
          rw [unhide HFI]
          rintro e w4 ⟨rfl, hb4⟩
          have hj0 : ¬ (j : Int) < 0 := by omega
          go_wp2_with fail
          refine ⟨⟨k + 1, by omega, by go_num, hide (fun i hi hop => ?_), hide ((unhide HC3).below hb4), bel3.trans (hb4.mono bel3.size)⟩, by simp [intOf]; omega⟩
          by_cases e : i = k
          · subst e; rw [unhide HF]; simp
          · exact (unhide hkn) i (by omega) hop
      · have HD := hide (show false = decide (3 ≤ (atN ns k).k ∧ (atN ns k).k ≤ 5) by rw [eq_comm, decide_eq_false_iff_not]; exact ho)
        have HOP := hide ho
        clear ho
        go_wp2_with fail
        refine (l3IsOp_any (atN ns k) _ false (unhide HD)).mono ?_
        rintro e w3 ⟨rfl, hb3⟩
        go_wp2_with fail
        refine ⟨⟨k + 1, by omega, by go_num, hide (fun i hi hop => ?_), hide ((unhide HC1).below hb3), bel1.trans (hb3.mono bel1.size)⟩, by simp [intOf]; omega⟩
        by_cases e : i = k
        · subst e; exact absurd hop (unhide HOP)
        · exact (unhide hkn) i (by omega) hop
    · have hkx : k = ns.length := by omega
      go_wp2_with fail
      go_ret
      exact ⟨⟨_, rfl, says_true ⟨unhide HO, fun i hi hop => (unhide hkn) i (by omega) hop⟩⟩, hbel⟩
end Go.Proofs.YtokabkhnidlcnabGreat

/-
  Walks: the specification's Group.
-/
namespace Go.Proofs.YtokabkhnidlcnabGreat
set_option maxRecDepth 100000
set_option linter.unusedSimpArgs false
set_option linter.unusedVariables false
open Go.RowKit

/-- A node in a variable. -/
def NodAt (w : World) (N : Nat) (o : NodeR) : Prop := w.cell? ⟨N, 0, none⟩ = some (.int .i64 o.k) ∧ w.cell? ⟨N, 1, none⟩ = some (.string o.t) ∧ w.cell? ⟨N, 2, none⟩ = some (.int .i64 o.a) ∧ w.cell? ⟨N, 3, none⟩ = some (.int .i64 o.b) ∧ w.frozen? ⟨N, 2, none⟩ = false ∧ w.frozen? ⟨N, 3, none⟩ = false

theorem NodAt.grown {w w' : World} {N : Nat} {o : NodeR} {row : Option Nat} (h : NodAt w N o) (hg : w.grownBy w' row) (hne : row ≠ some N) : NodAt w' N o := by
  obtain ⟨h0, h1, h2, h3, h4, h5⟩ := h
  have hlt : N < w.heap.size := block_lt_of_cell h0
  have c := grown_cell hg hlt hne
  have f : ∀ o, w'.frozen? ⟨N, o, none⟩ = w.frozen? ⟨N, o, none⟩ := fun o => World.frozen?_of_block (w := w) (hg.block N hlt (fun e => hne e.symm))
  exact ⟨(c 0).trans h0, (c 1).trans h1, (c 2).trans h2, (c 3).trans h3, (f 2).trans h4, (f 3).trans h5⟩

theorem NodAt.below {w w' : World} {N : Nat} {o : NodeR} (h : NodAt w N o) (hb : Below w.heap.size w w') : NodAt w' N o := h.grown (grown_belN hb none) (by simp)

theorem NodAt.set2 {w : World} {N : Nat} {o : NodeR} (h : NodAt w N o) (v : Int) : NodAt (w.setCell ⟨N, 2, none⟩ (.int .i64 v)) N ⟨o.k, o.t, v, o.b⟩ := by
  obtain ⟨h0, h1, h2, h3, h4, h5⟩ := h
  have c : ∀ j, j ≠ 2 → (w.setCell ⟨N, 2, none⟩ (.int .i64 v)).cell? ⟨N, j, none⟩ = w.cell? ⟨N, j, none⟩ := fun j hj => World.cell?_setCell_other _ _ _ _ (fun x => hj (by injection x with _ x; exact x.symm))
  exact ⟨(c 0 (by omega)).trans h0, (c 1 (by omega)).trans h1, World.cell?_setCell_same _ _ _ h2, (c 3 (by omega)).trans h3, (World.frozen?_setCell _ _ _ _).trans h4, (World.frozen?_setCell _ _ _ _).trans h5⟩
theorem NodAt.set3 {w : World} {N : Nat} {o : NodeR} (h : NodAt w N o) (v : Int) : NodAt (w.setCell ⟨N, 3, none⟩ (.int .i64 v)) N ⟨o.k, o.t, o.a, v⟩ := by
  obtain ⟨h0, h1, h2, h3, h4, h5⟩ := h
  have c : ∀ j, j ≠ 3 → (w.setCell ⟨N, 3, none⟩ (.int .i64 v)).cell? ⟨N, j, none⟩ = w.cell? ⟨N, j, none⟩ := fun j hj => World.cell?_setCell_other _ _ _ _ (fun x => hj (by injection x with _ x; exact x.symm))
  exact ⟨(c 0 (by omega)).trans h0, (c 1 (by omega)).trans h1, (c 2 (by omega)).trans h2, World.cell?_setCell_same _ _ _ h3, (World.frozen?_setCell _ _ _ _).trans h4, (World.frozen?_setCell _ _ _ _).trans h5⟩
theorem NodAt.other {w : World} {N g j : Nat} {o : NodeR} (h : NodAt w N o) (v : Value) (hne : g ≠ N) : NodAt (w.setCell ⟨g, j, none⟩ v) N o :=
  h.grown (row := some g) ⟨rfl, rfl, rfl, by simp [World.setCell], fun i _ hi => Below.heap_setCell _ _ _ _ (fun e => hi (by rw [e]))⟩ (by simpa using hne)

/-- An operator in a variable. -/
def OpAt (w : World) (N : Nat) (p : OpR) : Prop := w.cell? ⟨N, 0, none⟩ = some (.string p.s) ∧ w.cell? ⟨N, 1, none⟩ = some (.int .i64 p.k) ∧ w.cell? ⟨N, 2, none⟩ = some (.int .i64 p.l) ∧ w.cell? ⟨N, 3, none⟩ = some (.int .i64 p.sd)
theorem OpAt.grown {w w' : World} {N : Nat} {o : OpR} {row : Option Nat} (h : OpAt w N o) (hg : w.grownBy w' row) (hne : row ≠ some N) : OpAt w' N o := by
  obtain ⟨h0, h1, h2, h3⟩ := h
  have hlt : N < w.heap.size := block_lt_of_cell h0
  have c := grown_cell hg hlt hne
  exact ⟨(c 0).trans h0, (c 1).trans h1, (c 2).trans h2, (c 3).trans h3⟩
theorem OpAt.below {w w' : World} {N : Nat} {o : OpR} (h : OpAt w N o) (hb : Below w.heap.size w w') : OpAt w' N o := h.grown (grown_belN hb none) (by simp)
theorem OpAt.other {w : World} {N g j : Nat} {o : OpR} (h : OpAt w N o) (v : Value) (hne : g ≠ N) : OpAt (w.setCell ⟨g, j, none⟩ v) N o :=
  h.grown (row := some g) ⟨rfl, rfl, rfl, by simp [World.setCell], fun i _ hi => Below.heap_setCell _ _ _ _ (fun e => hi (by rw [e]))⟩ (by simpa using hne)

/-- The row of a table stays behind a call that writes into new rows alone. -/
theorem ops_grown {w w' : World} {b off B : Nat} {xs : List OpR} {row : Option Nat} (h : Ops w b off xs) (hg : w.grownBy w' row) (hb : b < B) (hB : B ≤ w.heap.size) (hr : ∀ k, row = some k → B ≤ k) : Ops w' b off xs := fun i hi => by
  obtain ⟨a0, a1, a2, a3⟩ := h i hi
  have c := grown_cell hg (b := b) (by omega) (fun e => by have := hr _ e; omega)
  exact ⟨(c _).trans a0, (c _).trans a1, (c _).trans a2, (c _).trans a3⟩
theorem opsN_grown {w w' : World} {b off B : Nat} {xs : List NodeR} {row : Option Nat} (h : OpsN w b off xs) (hg : w.grownBy w' row) (hb : b < B) (hB : B ≤ w.heap.size) (hr : ∀ k, row = some k → B ≤ k) : OpsN w' b off xs := fun i hi => by
  obtain ⟨a0, a1, a2, a3⟩ := h i hi
  have c := grown_cell hg (b := b) (by omega) (fun e => by have := hr _ e; omega)
  exact ⟨(c _).trans a0, (c _).trans a1, (c _).trans a2, (c _).trans a3⟩
theorem RowV.base {w : World} {B : Nat} {u : Value} {us : List NodeR} (h : RowV w B u us) : ∀ g, u.ownBlock = some g → B ≤ g := fun g hg => (World.ownsRow.lt h g hg).1
theorem RowV.other {w : World} {B g j : Nat} {u : Value} {us : List NodeR} (h : RowV w B u us) (v : Value) (hne : u.ownBlock ≠ some g) : RowV (w.setCell ⟨g, j, none⟩ v) B u us := owns_set h g j v hne

/-- A node of the tree without groups, at its new place. -/
theorem er_prefix (xs : List NodeR) : ∀ m i, i ≤ m → ∃ r, er xs m = er xs i ++ r
  | 0, i, h => by
    obtain rfl : i = 0 := by omega
    exact ⟨[], rfl⟩
  | m + 1, i, h => by
    by_cases e : i = m + 1
    · subst e; exact ⟨[], by simp⟩
    · obtain ⟨r, hr⟩ := er_prefix xs m i (by omega)
      by_cases h6 : (atN xs m).k = 6
      · rw [er_group h6]; exact ⟨r, hr⟩
      · rw [er_other h6, hr]; exact ⟨r ++ [erN xs (atN xs m)], by simp⟩

theorem er_at {xs : List NodeR} {m i : Nat} (hi : i < m) (h6 : (atN xs i).k ≠ 6) : cnt xs i < (er xs m).length ∧ atN (er xs m) (cnt xs i) = erN xs (atN xs i) := by
  obtain ⟨r, hr⟩ := er_prefix xs m (i + 1) hi
  have hl := er_len xs i
  rw [er_other h6] at hr
  rw [hr]
  refine ⟨by simp [hl], ?_⟩
  unfold atN
  simp [List.getD, List.getElem?_append, hl]

theorem cnt_other {xs : List NodeR} {i : Nat} (h6 : (atN xs i).k ≠ 6) : cnt xs (i + 1) = cnt xs i + 1 := by
  show (if (atN xs i).k = 6 then cnt xs i else cnt xs i + 1) = _
  rw [if_neg h6]
theorem cnt_group {xs : List NodeR} {i : Nat} (h6 : (atN xs i).k = 6) : cnt xs (i + 1) = cnt xs i := by
  show (if (atN xs i).k = 6 then cnt xs i else cnt xs i + 1) = _
  rw [if_pos h6]
end Go.Proofs.YtokabkhnidlcnabGreat

/-
  Walks: the specification's tree of a row of tokens: leaves and groups.
-/
namespace Go.Proofs.YtokabkhnidlcnabGreat
set_option maxRecDepth 100000
set_option linter.unusedSimpArgs false
set_option linter.unusedVariables false
open Go.RowKit

/-- What l3Build reads. -/
def BE (w : World) (B b off gt ot gr : Nat) (xs : List OpR) (ts : List TokR) (us : List Int) : Prop := Ops w b off xs ∧ b < B ∧ OpsT w gt ot ts ∧ gt < B ∧ RolR w gr us ∧ gr < B ∧ B ≤ w.heap.size

theorem BE.grown {w w' : World} {B b off gt ot gr : Nat} {xs : List OpR} {ts : List TokR} {us : List Int} {row : Option Nat} (h : BE w B b off gt ot gr xs ts us) (hg : w.grownBy w' row) (hr : ∀ k, row = some k → B ≤ k) : BE w' B b off gt ot gr xs ts us := by
  obtain ⟨h1, h2, h3, h4, h5, h6, h7⟩ := h
  have c : ∀ q, q < B → ∀ o, w'.cell? ⟨q, o, none⟩ = w.cell? ⟨q, o, none⟩ := fun q hq o => grown_cell hg (b := q) (by omega) (fun e => by have := hr _ e; omega) o
  refine ⟨ops_grown h1 hg h2 h7 hr, h2, fun i hi => ?_, h4, ⟨Nat.lt_of_lt_of_le h5.1 hg.size, fun i hi => (c _ h6 _).trans (h5.2 i hi)⟩, h6, Nat.le_trans h7 hg.size⟩
  obtain ⟨a0, a1, a2⟩ := h3 i hi
  exact ⟨(c _ h4 _).trans a0, (c _ h4 _).trans a1, (c _ h4 _).trans a2⟩
theorem BE.below {w w' : World} {B b off gt ot gr : Nat} {xs : List OpR} {ts : List TokR} {us : List Int} (h : BE w B b off gt ot gr xs ts us) (hb : Below w.heap.size w w') : BE w' B b off gt ot gr xs ts us := h.grown (grown_belN hb none) (fun k hk => by cases hk)

/-- What is known of all tokens. -/
structure TF (xs : List OpR) (ts : List TokR) (us : List Int) : Prop where
  len : ts.length ≤ 100000
  us : us = rolesTo xs ts ts.length
  all : ∀ i, i < ts.length → TkF xs ts i ∧ 1 ≤ (atT ts i).k ∧ (atT ts i).k ≤ 7 ∧ (atT ts i).k ≠ 6

/-- What l3Build hands back. -/
def BldPost (w : World) (B : Nat) (u : Value) (us : List NodeR) (r : Option ET) (m : Nat) (x : Ending) (w' : World) : Prop :=
  ∃ u' vs ok, x = .returned (.tuple #[u', .bool ok]) ∧ Hid (RowV w' B u' vs) ∧ Hid (w.grownBy w' u.ownBlock) ∧ Hid (u'.ownBlock = u.ownBlock ∨ ∃ k, u'.ownBlock = some k ∧ w.heap.size ≤ k) ∧ vs.length ≤ us.length + m ∧
    Hid ((∃ T, r = some T ∧ ok = true ∧ vs = us ++ nd T us.length) ∨ (r = none ∧ ok = false))

theorem root_calls {b off cap gt ot ct gr cr lo hi : Nat} {xs : List OpR} {ts : List TokR} {us : List Int} {w : World} {B : Nat} (hm : xs.length ≤ 1048576) (hE : BE w B b off gt ot gr xs ts us) (hF : TF xs ts us) (hlo : lo ≤ hi) (hhi : hi ≤ ts.length) {R : Int} (hR : rootI (rtF xs (sgs xs ts lo (hi - lo)) lo 0 none) = R) :
    Calls Tryz.prog 58 #[.agg #[.slice (some ⟨b, off, none⟩) xs.length cap], .slice (some ⟨gt, ot, none⟩) ts.length ct, .slice (some ⟨gr, 0, none⟩) us.length cr, .int .i64 (lo : Int), .int .i64 (hi : Int)] (w.alloc (.cells #[.slice (some ⟨b, off, none⟩) xs.length cap] 33)) fun e w' => e = .returned (.int .i64 R) ∧ Below (w.alloc (.cells #[.slice (some ⟨b, off, none⟩) xs.length cap] 33)).heap.size (w.alloc (.cells #[.slice (some ⟨b, off, none⟩) xs.length cap] 33)) w' := by
  obtain ⟨h1, h2, h3, h4, h5, h6, h7⟩ := hE.below (below1 w (.cells #[.slice (some ⟨b, off, none⟩) xs.length cap] 33))
  rw [← hR]
  exact l3Root_any b off cap gt ot ct gr cr lo hi xs ts us _ hm h1 (by omega) h3 (by omega) h5 hF.us hF.len hlo hhi hF.all

set_option maxHeartbeats 4000000 in
theorem lb_leaf (b off cap gt ot ct gr cr lo hi : Nat) (xs : List OpR) (ts : List TokR) (us : List Int) (B : Nat) (u : Value) (ns : List NodeR) (w : World) (hm : xs.length ≤ 1048576) (hE : BE w B b off gt ot gr xs ts us) (hF : TF xs ts us) (hlo : lo < hi) (hhi : hi ≤ ts.length) (hR : rootI (rtF xs (sgs xs ts lo (hi - lo)) lo 0 none) = -1)
    (hrow : RowV w B u ns) (hlen : ns.length ≤ 90000) (hk : (atT ts lo).k = 1 ∨ (atT ts lo).k = 2) {T : ET} (hT : T = .node (atT ts lo).k.toNat 0 (atT ts lo).t .nil .nil) (hsz : 1 ≤ hi - lo) :
    Calls Tryz.prog 26 #[.agg #[.slice (some ⟨b, off, none⟩) xs.length cap], .slice (some ⟨gt, ot, none⟩) ts.length ct, .slice (some ⟨gr, 0, none⟩) us.length cr, .int .i64 (lo : Int), .int .i64 (hi : Int), u] w (BldPost w B u ns (some T) (hi - lo)) := by
  obtain ⟨i0, hi0, hz0, hz1, hz2⟩ := info_parts' infoN
  have HI := hide hi0
  have HZ := hide (And.intro hz0 (And.intro hz1 hz2))
  clear hi0 hz0 hz1 hz2
  have HX := root_calls (cap := cap) (ct := ct) (cr := cr) hm hE hF (by omega) hhi hR
  have hloI : (lo : Int) < (ts.length : Int) := by omega
  have HND := hide (show nd T ns.length = [⟨(atT ts lo).k, (atT ts lo).t, 0, 0⟩] by
    rw [hT]
    rcases hk with e | e <;> rw [e] <;> rfl)
  obtain ⟨h1, h2, h3, h4, h5, h6, h7⟩ := hE
  obtain ⟨k0, k1, k2⟩ := h3 lo (by omega)
  have hB1 := below1 w (.cells #[.slice (some ⟨b, off, none⟩) xs.length cap] 33)
  have HROW := hide hrow
  have HUB := hide hrow.base
  obtain ⟨a0, c0, hu⟩ := row_slice hrow
  have hw4 : gt < w.heap.size := by omega
  clear hrow h1 h3 h5 hT hF hR
  subst hu
  obtain ⟨u, hu⟩ : ∃ u, u = Value.slice a0 ns.length c0 := ⟨_, rfl⟩
  have HPU := hide (show BldPost w B (Value.slice a0 ns.length c0) ns (some T) (hi - lo) = BldPost w B u ns (some T) (hi - lo) by rw [hu])
  rw [unhide HPU]
  have HUE := hide hu
  clear hu HPU
  go_enter Tryz.func26, Tryz.ntmps26
  go_wp2_with fail
  refine HX.mono ?_
  clear HX
  rintro e w1 ⟨rfl, hb1⟩
  have bel1 : Below w.heap.size w w1 := hB1.trans (hb1.mono hB1.size)
  have z1 : w.heap.size + 1 ≤ w1.heap.size := by have := hb1.size; simp at this; omega
  replace k0 := (bel1.cell (p := ⟨gt, ot + lo * 3, none⟩) hw4).trans k0
  replace k2 := (bel1.cell (p := ⟨gt, ot + lo * 3 + 2, none⟩) hw4).trans k2
  have hgl : gt < w1.heap.size := by omega
  have hgn : gt ≠ w1.heap.size := by omega
  clear hb1 k1 hB1
  rcases hk with hk | hk
  · have e4 : ((atT ts lo).k == 4) = false := by rw [hk]; rfl
    have e2 : ((atT ts lo).k == 2) = false := by rw [hk]; rfl
    have HROW1 := hide ((unhide HROW).below bel1)
    have HB2 := hide (show Below w.heap.size w ((w1.alloc (.cells #[.int .i64 1, .string (atT ts lo).t, .int .i64 0, .int .i64 0] 115))) from bel1.alloc bel1.size _)
    rw [hk] at HND
    clear hk HROW
    go_wp2_with (at_builtin; refine wpList_append_own_at _ rfl (.tmp 65) (.tmp 67) 26 rfl B 115 i0 _ 4 40 Tryz.underlying26 (unhide HI) (unhide HZ).1 (unhide HZ).2.1 (unhide HZ).2.2 rfl (by decide) _ ns.length (cellsN ns) rfl (((unhide HROW1).below (below1 _ _)).below (below1 _ _)) ⟨w1.heap.size + 1, 0, none⟩ 1 1 (cellsN [⟨1, (atT ts lo).t, 0, 0⟩]) rfl rfl (by simpa using new_newsAt (w1.alloc (.cells #[.int .i64 1, .string (atT ts lo).t, .int .i64 0, .int .i64 0] 115)) (w1.heap.size + 1) ⟨1, (atT ts lo).t, 0, 0⟩ (by simp)) (cellsN_one' _) ?b1 ?b2 ?b3 ?next)
    case b1 => unfold maxLen; omega
    case b2 => omega
    case b3 => first | omega | (simp; omega)
    case next =>
      intro v4 w4 hown4 hgrow4 hnil4 hat4
      have HR4 := hide (show RowV w4 B v4 (ns ++ nd T ns.length) by
        rw [unhide HND]
        unfold RowV
        rw [cellsN_append, List.length_append]
        exact hown4)
      have HG4 := hide (show w.grownBy w4 u.ownBlock by rw [unhide HUE]; exact grown_below ((unhide HB2).alloc (unhide HB2).size _) hgrow4)
      have HA4 := hide (show v4.ownBlock = u.ownBlock ∨ ∃ k, v4.ownBlock = some k ∧ w.heap.size ≤ k by rw [unhide HUE]; exact hat4.imp id (fun h => ⟨_, h, by have := bel1.size; first | omega | (simp; omega)⟩))
      clear hown4 hgrow4 hnil4 hat4
      go_wp2_with fail
      refine bodyPost_ret (v := .tuple #[v4, .bool true]) (by simp [results, Tryz.results26, go_sem]) rfl ⟨v4, ns ++ nd T ns.length, true, rfl, HR4, HG4, HA4, ?_, hide (Or.inl ⟨T, rfl, rfl, rfl⟩)⟩
      rw [unhide HND, List.length_append, List.length_singleton]
      omega
  · have e4 : ((atT ts lo).k == 4) = false := by rw [hk]; rfl
    have e2 : ((atT ts lo).k == 2) = true := by rw [hk]; rfl
    have HROW1 := hide ((unhide HROW).below bel1)
    have HB2 := hide (show Below w.heap.size w ((w1.alloc (.cells #[.int .i64 2, .string (atT ts lo).t, .int .i64 0, .int .i64 0] 115))) from bel1.alloc bel1.size _)
    rw [hk] at HND
    clear hk HROW
    go_wp2_with (at_builtin; refine wpList_append_own_at _ rfl (.tmp 65) (.tmp 67) 26 rfl B 115 i0 _ 4 40 Tryz.underlying26 (unhide HI) (unhide HZ).1 (unhide HZ).2.1 (unhide HZ).2.2 rfl (by decide) _ ns.length (cellsN ns) rfl (((unhide HROW1).below (below1 _ _)).below (below1 _ _)) ⟨w1.heap.size + 1, 0, none⟩ 1 1 (cellsN [⟨2, (atT ts lo).t, 0, 0⟩]) rfl rfl (by simpa using new_newsAt (w1.alloc (.cells #[.int .i64 2, .string (atT ts lo).t, .int .i64 0, .int .i64 0] 115)) (w1.heap.size + 1) ⟨2, (atT ts lo).t, 0, 0⟩ (by simp)) (cellsN_one' _) ?b1 ?b2 ?b3 ?next)
    case b1 => unfold maxLen; omega
    case b2 => omega
    case b3 => first | omega | (simp; omega)
    case next =>
      intro v4 w4 hown4 hgrow4 hnil4 hat4
      have HR4 := hide (show RowV w4 B v4 (ns ++ nd T ns.length) by
        rw [unhide HND]
        unfold RowV
        rw [cellsN_append, List.length_append]
        exact hown4)
      have HG4 := hide (show w.grownBy w4 u.ownBlock by rw [unhide HUE]; exact grown_below ((unhide HB2).alloc (unhide HB2).size _) hgrow4)
      have HA4 := hide (show v4.ownBlock = u.ownBlock ∨ ∃ k, v4.ownBlock = some k ∧ w.heap.size ≤ k by rw [unhide HUE]; exact hat4.imp id (fun h => ⟨_, h, by have := bel1.size; first | omega | (simp; omega)⟩))
      clear hown4 hgrow4 hnil4 hat4
      go_wp2_with fail
      refine bodyPost_ret (v := .tuple #[v4, .bool true]) (by simp [results, Tryz.results26, go_sem]) rfl ⟨v4, ns ++ nd T ns.length, true, rfl, HR4, HG4, HA4, ?_, hide (Or.inl ⟨T, rfl, rfl, rfl⟩)⟩
      rw [unhide HND, List.length_append, List.length_singleton]
      omega

theorem nd_one {b : Nat} (hk : kids (b : Int) = 1) (t : ByteArray) (T : ET) (ns : List NodeR) : ns ++ nd (.node b 0 t T .nil) ns.length = (ns ++ nd T ns.length) ++ [⟨(b : Int), t, ((ns ++ nd T ns.length).length : Int) - 1, 0⟩] := by
  simp only [nd, tN, hk, List.length_append, nd_len]
  simp

theorem nd_two (t : ByteArray) (L R : ET) (ns : List NodeR) : ns ++ nd (.node 4 0 t L R) ns.length = ((ns ++ nd L ns.length) ++ nd R (ns ++ nd L ns.length).length) ++ [⟨4, t, ((ns ++ nd L ns.length).length : Int) - 1, (((ns ++ nd L ns.length) ++ nd R (ns ++ nd L ns.length).length).length : Int) - 1⟩] := by
  have hk : kids ((4 : Nat) : Int) = 2 := rfl
  simp only [nd, tN, hk, List.length_append, nd_len]
  simp

set_option maxHeartbeats 4000000 in
theorem lb_group (b off cap gt ot ct gr cr lo hi : Nat) (xs : List OpR) (ts : List TokR) (us : List Int) (B : Nat) (u : Value) (ns : List NodeR) (w : World) (hm : xs.length ≤ 1048576) (hE : BE w B b off gt ot gr xs ts us) (hF : TF xs ts us) (hlo : lo + 2 ≤ hi) (hhi : hi ≤ ts.length) (hR : rootI (rtF xs (sgs xs ts lo (hi - lo)) lo 0 none) = -1)
    (hrow : RowV w B u ns) (hlen : ns.length + (hi - lo) ≤ 90000) (hk : (atT ts lo).k = 4) (r1 : Option ET)
    (hc : ∀ W, BE W B b off gt ot gr xs ts us → RowV W B u ns → Calls Tryz.prog 26 #[.agg #[.slice (some ⟨b, off, none⟩) xs.length cap], .slice (some ⟨gt, ot, none⟩) ts.length ct, .slice (some ⟨gr, 0, none⟩) us.length cr, .int .i64 ((lo : Int) + 1), .int .i64 ((hi : Int) - 1), u] W (BldPost W B u ns r1 (hi - lo - 2))) :
    Calls Tryz.prog 26 #[.agg #[.slice (some ⟨b, off, none⟩) xs.length cap], .slice (some ⟨gt, ot, none⟩) ts.length ct, .slice (some ⟨gr, 0, none⟩) us.length cr, .int .i64 (lo : Int), .int .i64 (hi : Int), u] w (BldPost w B u ns (r1.map (fun T => .node 6 0 ByteArray.empty T .nil)) (hi - lo)) := by
  obtain ⟨i0, hi0, hz0, hz1, hz2⟩ := info_parts' infoN
  have HI := hide hi0
  have HZ := hide (And.intro hz0 (And.intro hz1 hz2))
  clear hi0 hz0 hz1 hz2
  have HX := root_calls (cap := cap) (ct := ct) (cr := cr) hm hE hF (by omega) hhi hR
  have hloI : (lo : Int) < (ts.length : Int) := by omega
  have hln : ts.length ≤ 100000 := hF.len
  have HE := hide hE
  obtain ⟨h1, h2, h3, h4, h5, h6, h7⟩ := hE
  obtain ⟨k0, k1, k2⟩ := h3 lo (by omega)
  have hB1 := below1 w (.cells #[.slice (some ⟨b, off, none⟩) xs.length cap] 33)
  have HROW := hide hrow
  have HUB := hide hrow.base
  have HC := hide hc
  have hw4 : gt < w.heap.size := by omega
  have e4 : ((atT ts lo).k == 4) = true := by rw [hk]; rfl
  clear hrow h1 h3 h5 hF hR hc hk
  go_enter Tryz.func26, Tryz.ntmps26
  go_wp2_with fail
  refine HX.mono ?_
  clear HX
  rintro e w1 ⟨rfl, hb1⟩
  have bel1 : Below w.heap.size w w1 := hB1.trans (hb1.mono hB1.size)
  have z1 : w.heap.size + 1 ≤ w1.heap.size := by have := hb1.size; simp at this; omega
  have t1 : w1.cell? ⟨w.heap.size, 0, none⟩ = some (.slice (some ⟨b, off, none⟩) xs.length cap) := (hb1.cell (p := ⟨w.heap.size, 0, none⟩) (by simp)).trans (by simp [go_sem])
  replace k0 := (bel1.cell (p := ⟨gt, ot + lo * 3, none⟩) hw4).trans k0
  have HX := (unhide HC) w1 ((unhide HE).below bel1) ((unhide HROW).below bel1)
  clear hb1 k1 k2 hB1 HC
  go_wp2_with fail
  refine HX.mono ?_
  clear HX
  rintro e w2 ⟨u1, vs1, ok, rfl, HR2, HG2, HA2, hl2, HO2⟩
  obtain ⟨a1, c1, rfl⟩ := row_slice (unhide HR2)
  have HG := hide (grown_below bel1 (unhide HG2))
  have HA := hide (show (Value.slice a1 vs1.length c1).ownBlock = u.ownBlock ∨ ∃ k, (Value.slice a1 vs1.length c1).ownBlock = some k ∧ w.heap.size ≤ k from (unhide HA2).imp id (fun ⟨k, h, h'⟩ => ⟨k, h, by omega⟩))
  have z2 := (unhide HG2).size
  clear HG2 HA2 t1 k0
  go_wp2_with (at_builtin; refine wpList_append_own_at _ rfl (.tmp 44) (.tmp 49) 26 rfl B 115 i0 _ 4 40 Tryz.underlying26 (unhide HI) (unhide HZ).1 (unhide HZ).2.1 (unhide HZ).2.2 rfl (by decide) _ vs1.length (cellsN vs1) rfl ((unhide HR2).below (below1 _ _)) ⟨w2.heap.size, 0, none⟩ 1 1 (cellsN [⟨6, ⟨#[]⟩, (vs1.length : Int) - 1, 0⟩]) rfl rfl (by simpa using new_newsN w2 ⟨6, ⟨#[]⟩, (vs1.length : Int) - 1, 0⟩) (cellsN_one' _) ?b1 ?b2 ?b3 ?next)
  case b1 => unfold maxLen; omega
  case b2 => omega
  case b3 => first | omega | (simp; omega)
  case next =>
    intro v4 w4 hown4 hgrow4 hnil4 hat4
    have HR4 := hide (show RowV w4 B v4 (vs1 ++ [⟨6, ⟨#[]⟩, (vs1.length : Int) - 1, 0⟩]) by
      unfold RowV
      rw [cellsN_append, List.length_append]
      exact hown4)
    have HG4 := hide (grown_trans (unhide HG) (grown_below (below1 w2 _) hgrow4) (unhide HA))
    have HA4 := hide (grown_at (unhide HG) (unhide HA) v4.ownBlock (hat4.imp id (fun h => ⟨_, h, by first | exact Nat.le_refl _ | simp⟩)))
    clear hown4 hgrow4 hnil4 hat4
    go_wp2_with fail
    refine bodyPost_ret (v := .tuple #[v4, .bool ok]) (by simp [results, Tryz.results26, go_sem]) rfl ⟨v4, _, ok, rfl, HR4, HG4, HA4, ?_, hide ?_⟩
    · rw [List.length_append, List.length_singleton]
      omega
    · rcases unhide HO2 with ⟨T, rfl, rfl, rfl⟩ | ⟨rfl, rfl⟩
      · exact Or.inl ⟨_, rfl, rfl, (nd_one (b := 6) rfl ByteArray.empty T ns).symm⟩
      · exact Or.inr ⟨rfl, rfl⟩
end Go.Proofs.YtokabkhnidlcnabGreat
