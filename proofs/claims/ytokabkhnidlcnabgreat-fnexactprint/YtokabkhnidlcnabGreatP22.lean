import Derived.Test.YtokabkhnidlcnabGreatP07
import Derived.Test.YtokabkhnidlcnabGreatP17
import Derived.Test.YtokabkhnidlcnabGreatP19
import Derived.Test.YtokabkhnidlcnabGreatP20

/-
  Rows of words that a call makes by append.
-/
namespace Go.Proofs.YtokabkhnidlcnabGreat
set_option maxRecDepth 100000
set_option linter.unusedSimpArgs false
set_option linter.unusedVariables false
open Go.RowKit

def cellsW (zs : List WordR) : List Value := zs.flatMap fun x => [.string x.t, .bool x.o, .bool x.i]
theorem cellsW_append (xs ys : List WordR) : cellsW (xs ++ ys) = cellsW xs ++ cellsW ys := by simp [cellsW]
theorem cellsW_len : ∀ zs : List WordR, (cellsW zs).length = zs.length * 3
  | [] => rfl
  | o :: r => by
    have := cellsW_len r
    simp only [cellsW, List.flatMap_cons, List.length_append, List.length_cons, List.length_nil] at *
    omega

theorem cellsW_at : ∀ (zs : List WordR) (i : Nat), i < zs.length → (cellsW zs)[i * 3]? = some (.string (atW zs i).t) ∧ (cellsW zs)[i * 3 + 1]? = some (.bool (atW zs i).o) ∧ (cellsW zs)[i * 3 + 2]? = some (.bool (atW zs i).i)
  | [], i, h => absurd h (Nat.not_lt_zero i)
  | o :: r, 0, _ => ⟨rfl, rfl, rfl⟩
  | o :: r, i + 1, h => by
    have ih := cellsW_at r i (by simpa using h)
    have e : ∀ j, (cellsW (o :: r))[(i + 1) * 3 + j]? = (cellsW r)[i * 3 + j]? := fun j => by
      have : (i + 1) * 3 + j = (i * 3 + j) + 3 := by omega
      rw [this]
      rfl
    exact ⟨(e 0).trans ih.1, (e 1).trans ih.2.1, (e 2).trans ih.2.2⟩

theorem cellsW_one' (zs : List WordR) : ∀ u ∈ cellsW zs, u.oneCell' = true := by
  intro u hu
  simp only [cellsW, List.mem_flatMap] at hu
  obtain ⟨o, _, ho⟩ := hu
  simp at ho
  rcases ho with rfl | rfl | rfl <;> rfl

theorem infoW : (Tryz.prog.info? 89).map (fun i => (i.zero, i.size, i.bytes)) = some (some (.agg #[.string ⟨#[]⟩, .bool false, .bool false]), 3, 24) := by kernel_rfl

/-- A new word in a block of its own. -/
theorem new_newsW (w : World) (x : WordR) : ∀ j u, (cellsW [x])[j]? = some u → (w.alloc (.cells #[.string x.t, .bool x.o, .bool x.i] 89)).cell? ((⟨w.heap.size, 0, none⟩ : Addr).add j) = some u := by
  intro j u hj
  rw [Addr.add_mid]
  have := World.rangeAt_of_block (w := w.alloc (.cells #[.string x.t, .bool x.o, .bool x.i] 89)) (b := w.heap.size) (heap_alloc_new w _) 0 3
  exact this j u (by simpa [cellsW] using hj)

/-- A row of words behind which one may be put. -/
def RowW (w : World) (B : Nat) (u : Value) (us : List WordR) : Prop := w.ownsRow B 89 3 u us.length (cellsW us)

theorem rowW_slice {w : World} {B : Nat} {u : Value} {us : List WordR} (h : RowW w B u us) : ∃ a c, u = .slice a us.length c := by
  obtain ⟨_, ⟨h1, h2⟩ | ⟨g, cap, cur, h1, _⟩⟩ := h
  · exact ⟨none, 0, by rw [h2]; exact h1⟩
  · exact ⟨_, _, h1⟩

theorem RowW.below {w w' : World} {B : Nat} {u : Value} {us : List WordR} (h : RowW w B u us) (hb : Below w.heap.size w w') : RowW w' B u us :=
  World.ownsRow.kept h (grown_belN hb none) (by cases u.ownBlock with
  | none => exact Or.inl rfl
  | some k => exact Or.inr (by simp))

theorem RowW.lt {w : World} {B : Nat} {u : Value} {us : List WordR} (h : RowW w B u us) : ∀ g, u.ownBlock = some g → B ≤ g ∧ g < w.heap.size := fun g hg => World.ownsRow.lt h g hg

/-- The words of a row, as they lie in memory. -/
def OpsW (w : World) (g : Nat) (ws : List WordR) : Prop := ∀ i, i < ws.length → w.cell? ⟨g, i * 3, none⟩ = some (.string (atW ws i).t) ∧ w.cell? ⟨g, i * 3 + 1, none⟩ = some (.bool (atW ws i).o) ∧ w.cell? ⟨g, i * 3 + 2, none⟩ = some (.bool (atW ws i).i)

theorem OpsW.below {w w' : World} {g : Nat} {ws : List WordR} {B : Nat} (h : OpsW w g ws) (hb : Below B w w') (hB : g < B) : OpsW w' g ws := fun i hi => by
  obtain ⟨h0, h1, h2⟩ := h i hi
  exact ⟨(hb.cell (p := ⟨g, _, none⟩) hB).trans h0, (hb.cell (p := ⟨g, _, none⟩) hB).trans h1, (hb.cell (p := ⟨g, _, none⟩) hB).trans h2⟩

theorem RowW.ops {w : World} {B g c : Nat} {us : List WordR} (h : RowW w B (.slice (some ⟨g, 0, none⟩) us.length c) us) : OpsW w g us := fun i hi => by
  obtain ⟨c0, c1, c2⟩ := cellsW_at us i hi
  have e := fun j (hj : j < 3) => World.ownsRow.cellAt h (i * 3 + j) (by omega)
  exact ⟨by simpa using (e 0 (by omega)).trans c0, by simpa using (e 1 (by omega)).trans c1, by simpa using (e 2 (by omega)).trans c2⟩

/-- What a call of l4Yield hands back. -/
def YPost (w : World) (B : Nat) (u : Value) (vs : List WordR) (x : Ending) (w' : World) : Prop :=
  ∃ u', x = .returned u' ∧ Hid (RowW w' B u' vs) ∧ Hid (w.grownBy w' u.ownBlock) ∧ Hid (u'.ownBlock = u.ownBlock ∨ ∃ k, u'.ownBlock = some k ∧ w.heap.size ≤ k)

theorem YPost.up {w w1 : World} {B : Nat} {u : Value} {vs : List WordR} (h : Below w.heap.size w w1) {x : Ending} {w' : World} (hp : YPost w1 B u vs x w') : YPost w B u vs x w' := by
  obtain ⟨u', rfl, hr, hg, ho⟩ := hp
  have := h.size
  exact ⟨u', rfl, hr, hide (grown_below h (unhide hg)), hide ((unhide ho).imp id (fun ⟨k, h1, h2⟩ => ⟨k, h1, by omega⟩))⟩

theorem YPost.join {w w1 : World} {B : Nat} {u u1 : Value} {vs : List WordR} (h2 : w.grownBy w1 u.ownBlock) (h3 : u1.ownBlock = u.ownBlock ∨ ∃ k, u1.ownBlock = some k ∧ w.heap.size ≤ k) {x : Ending} {w' : World} (hp : YPost w1 B u1 vs x w') : YPost w B u vs x w' := by
  obtain ⟨u', rfl, p1, p2, p3⟩ := hp
  exact ⟨u', rfl, p1, hide (grown_trans h2 (unhide p2) h3), hide (grown_at h2 h3 _ (unhide p3))⟩
end Go.Proofs.YtokabkhnidlcnabGreat

/-
  Walks: the specification's l3WellFormed, the whole of it.
-/
namespace Go.Proofs.YtokabkhnidlcnabGreat
set_option maxRecDepth 100000
set_option linter.unusedSimpArgs false
set_option linter.unusedVariables false
open Go.RowKit

theorem specTableOk_zero (b off cap : Nat) (xs : List OpR) (w : World) (hm : xs.length ≤ 1048576) (hw : Ops w b off xs) (hs : Sized xs) (hB : b < w.heap.size) (hc : IsCode xs 0) :
    Calls Tryz.prog 22 #[.agg #[.slice (some ⟨b, off, none⟩) xs.length cap]] w fun e w' => e = .returned (.int .i64 0) ∧ Below w.heap.size w w' := by
  refine (specTableOk_any b off cap xs w hm hw hs hB).mono ?_
  rintro e w' ⟨⟨c, rfl, h⟩, hb⟩
  exact ⟨by rw [IsCode_one h hc], hb⟩

set_option maxHeartbeats 2000000 in
theorem l3WellFormed_any (b off cap bn offn cn : Nat) (xs : List OpR) (ns : List NodeR) (w : World) (hm : xs.length ≤ 1048576) (hmn : ns.length ≤ 1048576) (hw : Ops w b off xs) (hsz : Sized xs) (hB : b < w.heap.size) (hwn : OpsN w bn offn ns) (hsn : SizedN ns) (hBn : bn < w.heap.size) (hc : IsCode xs 0) :
    Calls Tryz.prog 79 #[.agg #[.slice (some ⟨b, off, none⟩) xs.length cap], .agg #[.slice (some ⟨bn, offn, none⟩) ns.length cn]] w fun e w' => RetB e (InOrd ns ∧ Knows xs ns) ∧ Below w.heap.size w w' := by
  have HW := hide hw
  have HWN := hide hwn
  have HZ := hide hsz
  have HZN := hide hsn
  have HC := hide hc
  clear hw hwn hsz hsn hc
  go_enter Tryz.func79, Tryz.ntmps79
  go_wp2_with fail
  refine (specTableOk_zero b off cap xs _ hm ((unhide HW).below ((below1 _ _).alloc (by simp) _) hB) (unhide HZ) (by simp; omega) (unhide HC)).mono ?_
  rintro e w1 ⟨rfl, hb1⟩
  have bel1 : Below w.heap.size w w1 := ((below1 _ _).alloc (by simp) _).trans (hb1.mono (by simp; omega))
  have c0 : w1.cell? ⟨w.heap.size, 0, none⟩ = some (.slice (some ⟨b, off, none⟩) xs.length cap) := (hb1.cell (p := ⟨w.heap.size, 0, none⟩) (by simp; omega)).trans (by simp [go_sem])
  have c1 : w1.cell? ⟨w.heap.size + 1, 0, none⟩ = some (.slice (some ⟨bn, offn, none⟩) ns.length cn) := (hb1.cell (p := ⟨w.heap.size + 1, 0, none⟩) (by simp)).trans (by simp [go_sem])
  have z1 : w.heap.size + 2 ≤ w1.heap.size := by have := hb1.size; simp at this; omega
  clear hb1
  go_wp2_with fail
  refine (l3InOrder_any bn offn cn ns _ hmn ((unhide HWN).below bel1 hBn) (unhide HZN) (by omega)).mono ?_
  rintro e w2 ⟨⟨v, rfl, hv⟩, hb2⟩
  have HV := hide hv
  have bel2 := bel1.trans (hb2.mono bel1.size)
  have e0 := (hb2.cell (p := ⟨w.heap.size, 0, none⟩) (show w.heap.size < w1.heap.size by omega)).trans c0
  have e1 := (hb2.cell (p := ⟨w.heap.size + 1, 0, none⟩) (show w.heap.size + 1 < w1.heap.size by omega)).trans c1
  have z2 : w.heap.size + 2 ≤ w2.heap.size := Nat.le_trans z1 hb2.size
  clear hb2 hv c0 c1 bel1 z1
  cases v
  · go_wp2_with fail
    go_ret
    exact ⟨⟨_, rfl, says_false (fun h => Bool.false_ne_true ((unhide HV).2 h.1))⟩, bel2⟩
  have HO := hide ((unhide HV).1 rfl)
  clear HV
  have HCS := hide (show Cs [(w.heap.size, 0, .slice (some ⟨b, off, none⟩) xs.length cap), (w.heap.size + 1, 0, .slice (some ⟨bn, offn, none⟩) ns.length cn)] w2 from fun p hp => by
    simp only [List.mem_cons, List.not_mem_nil, or_false] at hp
    rcases hp with rfl | rfl
    · exact e0
    · exact e1)
  go_wp2_with fail
  go_loopw [5] (fun iv wr => ∃ k : Nat, k ≤ ns.length ∧ iv = .int .i64 (k : Int) ∧ Hid (∀ i, i < k → isOpN (atN ns i) → fnd xs (atN ns i).t ((atN ns i).k - 2) ≠ none) ∧ Hid (Cs [(w.heap.size, 0, .slice (some ⟨b, off, none⟩) xs.length cap), (w.heap.size + 1, 0, .slice (some ⟨bn, offn, none⟩) ns.length cn)] wr) ∧ Below w.heap.size w wr) (fun iv _ => ns.length - (intOf iv).toNat)
  case atStart => exact ⟨0, Nat.zero_le _, rfl, hide (fun i hi => absurd hi (Nat.not_lt_zero i)), HCS, bel2⟩
  case round =>
    clear HCS e0 e1 bel2 z2
    obtain ⟨k, hk, rfl, hkn, hcs, hbel⟩ := hrel
    have c0 := (unhide hcs) (w.heap.size, 0, .slice (some ⟨b, off, none⟩) xs.length cap) (by simp)
    have c1 := (unhide hcs) (w.heap.size + 1, 0, .slice (some ⟨bn, offn, none⟩) ns.length cn) (by simp)
    simp only at c0 c1
    by_cases hlt : k < ns.length
    · have hltI : (k : Int) < (ns.length : Int) := by omega
      obtain ⟨a0, a1, a2, a3⟩ := ((unhide HWN) k hlt).below hbel hBn
      have HC1 := hide ((unhide hcs).below (below1 wr (.cells #[.int .i64 (atN ns k).k, .string (atN ns k).t, .int .i64 (atN ns k).a, .int .i64 (atN ns k).b] 115)))
      have bel1 : Below w.heap.size w (wr.alloc (.cells #[.int .i64 (atN ns k).k, .string (atN ns k).t, .int .i64 (atN ns k).a, .int .i64 (atN ns k).b] 115)) := hbel.alloc hbel.size _
      by_cases ho : isOpN (atN ns k)
      · have HD := hide (show true = decide (3 ≤ (atN ns k).k ∧ (atN ns k).k ≤ 5) by rw [eq_comm, decide_eq_true_iff]; exact ho)
        have h3 := ho.1
        have h5 := ho.2
        have HOP := hide ho
        clear ho
        go_wp2_with fail
        refine (l3IsOp_any (atN ns k) _ true (unhide HD)).mono ?_
        rintro e w3 ⟨rfl, hb3⟩
        have HC3 := hide ((unhide HC1).below hb3)
        have bel3 := bel1.trans (hb3.mono bel1.size)
        have n0 : w3.cell? ⟨wr.heap.size, 0, none⟩ = some (.int .i64 (atN ns k).k) := (hb3.cell (p := ⟨wr.heap.size, 0, none⟩) (by simp)).trans (by simp [go_sem])
        have n1 : w3.cell? ⟨wr.heap.size, 1, none⟩ = some (.string (atN ns k).t) := (hb3.cell (p := ⟨wr.heap.size, 1, none⟩) (by simp)).trans (by simp [go_sem])
        have d0 := (unhide HC3) (w.heap.size, 0, .slice (some ⟨b, off, none⟩) xs.length cap) (by simp)
        simp only at d0
        have hwr : IntKind.i64.wrap ((atN ns k).k - 2) = (atN ns k).k - 2 := by rw [IntKind.wrap_i64]; omega
        clear hb3 c0 c1
        cases hf : fnd xs (atN ns k).t ((atN ns k).k - 2) with
        | none =>
          have HF := hide hf
          have HFI := hide (show fI (fnd xs (atN ns k).t ((atN ns k).k - 2)) = -1 by rw [hf]; rfl)
          clear hf
          go_wp2_with fail
          refine (l2Find_ix b off cap xs (atN ns k).t ((atN ns k).k - 2) _ hm ((unhide HW).below bel3 hB) (Nat.lt_of_lt_of_le hB bel3.size)).mono ?_
          rw [unhide HFI]
          rintro e w4 ⟨rfl, hb4⟩
          go_wp2_with fail
          go_ret
          exact ⟨⟨_, rfl, says_false (fun h => h.2 k hlt (unhide HOP) (unhide HF))⟩, bel3.trans (hb4.mono bel3.size)⟩
        | some j =>
          have HF := hide hf
          have HFI := hide (show fI (fnd xs (atN ns k).t ((atN ns k).k - 2)) = (j : Int) by rw [hf]; rfl)
          clear hf
          go_wp2_with fail
          refine (l2Find_ix b off cap xs (atN ns k).t ((atN ns k).k - 2) _ hm ((unhide HW).below bel3 hB) (Nat.lt_of_lt_of_le hB bel3.size)).mono ?_
          rw [unhide HFI]
          rintro e w4 ⟨rfl, hb4⟩
          have hj0 : ¬ (j : Int) < 0 := by omega
          go_wp2_with fail
          refine ⟨⟨k + 1, by omega, by go_num, hide (fun i hi hop => ?_), hide ((unhide HC3).below hb4), bel3.trans (hb4.mono bel3.size)⟩, by simp [intOf]; omega⟩
          by_cases e : i = k
          · subst e; rw [unhide HF]; simp
          · exact (unhide hkn) i (by omega) hop
      · have HD := hide (show false = decide (3 ≤ (atN ns k).k ∧ (atN ns k).k ≤ 5) by rw [eq_comm, decide_eq_false_iff_not]; exact ho)
        have HOP := hide ho
        clear ho
        go_wp2_with fail
        refine (l3IsOp_any (atN ns k) _ false (unhide HD)).mono ?_
        rintro e w3 ⟨rfl, hb3⟩
        go_wp2_with fail
        refine ⟨⟨k + 1, by omega, by go_num, hide (fun i hi hop => ?_), hide ((unhide HC1).below hb3), bel1.trans (hb3.mono bel1.size)⟩, by simp [intOf]; omega⟩
        by_cases e : i = k
        · subst e; exact absurd hop (unhide HOP)
        · exact (unhide hkn) i (by omega) hop
    · have hkx : k = ns.length := by omega
      go_wp2_with fail
      go_ret
      exact ⟨⟨_, rfl, says_true ⟨unhide HO, fun i hi hop => (unhide hkn) i (by omega) hop⟩⟩, hbel⟩
end Go.Proofs.YtokabkhnidlcnabGreat

/-
  Walks: the specification's Group.
-/
namespace Go.Proofs.YtokabkhnidlcnabGreat
set_option maxRecDepth 100000
set_option linter.unusedSimpArgs false
set_option linter.unusedVariables false
open Go.RowKit

/-- A node in a variable. -/
def NodAt (w : World) (N : Nat) (o : NodeR) : Prop := w.cell? ⟨N, 0, none⟩ = some (.int .i64 o.k) ∧ w.cell? ⟨N, 1, none⟩ = some (.string o.t) ∧ w.cell? ⟨N, 2, none⟩ = some (.int .i64 o.a) ∧ w.cell? ⟨N, 3, none⟩ = some (.int .i64 o.b) ∧ w.frozen? ⟨N, 2, none⟩ = false ∧ w.frozen? ⟨N, 3, none⟩ = false

theorem NodAt.grown {w w' : World} {N : Nat} {o : NodeR} {row : Option Nat} (h : NodAt w N o) (hg : w.grownBy w' row) (hne : row ≠ some N) : NodAt w' N o := by
  obtain ⟨h0, h1, h2, h3, h4, h5⟩ := h
  have hlt : N < w.heap.size := block_lt_of_cell h0
  have c := grown_cell hg hlt hne
  have f : ∀ o, w'.frozen? ⟨N, o, none⟩ = w.frozen? ⟨N, o, none⟩ := fun o => World.frozen?_of_block (w := w) (hg.block N hlt (fun e => hne e.symm))
  exact ⟨(c 0).trans h0, (c 1).trans h1, (c 2).trans h2, (c 3).trans h3, (f 2).trans h4, (f 3).trans h5⟩

theorem NodAt.below {w w' : World} {N : Nat} {o : NodeR} (h : NodAt w N o) (hb : Below w.heap.size w w') : NodAt w' N o := h.grown (grown_belN hb none) (by simp)

theorem NodAt.set2 {w : World} {N : Nat} {o : NodeR} (h : NodAt w N o) (v : Int) : NodAt (w.setCell ⟨N, 2, none⟩ (.int .i64 v)) N ⟨o.k, o.t, v, o.b⟩ := by
  obtain ⟨h0, h1, h2, h3, h4, h5⟩ := h
  have c : ∀ j, j ≠ 2 → (w.setCell ⟨N, 2, none⟩ (.int .i64 v)).cell? ⟨N, j, none⟩ = w.cell? ⟨N, j, none⟩ := fun j hj => World.cell?_setCell_other _ _ _ _ (fun x => hj (by injection x with _ x; exact x.symm))
  exact ⟨(c 0 (by omega)).trans h0, (c 1 (by omega)).trans h1, World.cell?_setCell_same _ _ _ h2, (c 3 (by omega)).trans h3, (World.frozen?_setCell _ _ _ _).trans h4, (World.frozen?_setCell _ _ _ _).trans h5⟩
theorem NodAt.set3 {w : World} {N : Nat} {o : NodeR} (h : NodAt w N o) (v : Int) : NodAt (w.setCell ⟨N, 3, none⟩ (.int .i64 v)) N ⟨o.k, o.t, o.a, v⟩ := by
  obtain ⟨h0, h1, h2, h3, h4, h5⟩ := h
  have c : ∀ j, j ≠ 3 → (w.setCell ⟨N, 3, none⟩ (.int .i64 v)).cell? ⟨N, j, none⟩ = w.cell? ⟨N, j, none⟩ := fun j hj => World.cell?_setCell_other _ _ _ _ (fun x => hj (by injection x with _ x; exact x.symm))
  exact ⟨(c 0 (by omega)).trans h0, (c 1 (by omega)).trans h1, (c 2 (by omega)).trans h2, World.cell?_setCell_same _ _ _ h3, (World.frozen?_setCell _ _ _ _).trans h4, (World.frozen?_setCell _ _ _ _).trans h5⟩
theorem NodAt.other {w : World} {N g j : Nat} {o : NodeR} (h : NodAt w N o) (v : Value) (hne : g ≠ N) : NodAt (w.setCell ⟨g, j, none⟩ v) N o :=
  h.grown (row := some g) ⟨rfl, rfl, rfl, by simp [World.setCell], fun i _ hi => Below.heap_setCell _ _ _ _ (fun e => hi (by rw [e]))⟩ (by simpa using hne)

/-- An operator in a variable. -/
def OpAt (w : World) (N : Nat) (p : OpR) : Prop := w.cell? ⟨N, 0, none⟩ = some (.string p.s) ∧ w.cell? ⟨N, 1, none⟩ = some (.int .i64 p.k) ∧ w.cell? ⟨N, 2, none⟩ = some (.int .i64 p.l) ∧ w.cell? ⟨N, 3, none⟩ = some (.int .i64 p.sd)
theorem OpAt.grown {w w' : World} {N : Nat} {o : OpR} {row : Option Nat} (h : OpAt w N o) (hg : w.grownBy w' row) (hne : row ≠ some N) : OpAt w' N o := by
  obtain ⟨h0, h1, h2, h3⟩ := h
  have hlt : N < w.heap.size := block_lt_of_cell h0
  have c := grown_cell hg hlt hne
  exact ⟨(c 0).trans h0, (c 1).trans h1, (c 2).trans h2, (c 3).trans h3⟩
theorem OpAt.below {w w' : World} {N : Nat} {o : OpR} (h : OpAt w N o) (hb : Below w.heap.size w w') : OpAt w' N o := h.grown (grown_belN hb none) (by simp)
theorem OpAt.other {w : World} {N g j : Nat} {o : OpR} (h : OpAt w N o) (v : Value) (hne : g ≠ N) : OpAt (w.setCell ⟨g, j, none⟩ v) N o :=
  h.grown (row := some g) ⟨rfl, rfl, rfl, by simp [World.setCell], fun i _ hi => Below.heap_setCell _ _ _ _ (fun e => hi (by rw [e]))⟩ (by simpa using hne)

/-- The row of a table stays behind a call that writes into new rows alone. -/
theorem ops_grown {w w' : World} {b off B : Nat} {xs : List OpR} {row : Option Nat} (h : Ops w b off xs) (hg : w.grownBy w' row) (hb : b < B) (hB : B ≤ w.heap.size) (hr : ∀ k, row = some k → B ≤ k) : Ops w' b off xs := fun i hi => by
  obtain ⟨a0, a1, a2, a3⟩ := h i hi
  have c := grown_cell hg (b := b) (by omega) (fun e => by have := hr _ e; omega)
  exact ⟨(c _).trans a0, (c _).trans a1, (c _).trans a2, (c _).trans a3⟩
theorem opsN_grown {w w' : World} {b off B : Nat} {xs : List NodeR} {row : Option Nat} (h : OpsN w b off xs) (hg : w.grownBy w' row) (hb : b < B) (hB : B ≤ w.heap.size) (hr : ∀ k, row = some k → B ≤ k) : OpsN w' b off xs := fun i hi => by
  obtain ⟨a0, a1, a2, a3⟩ := h i hi
  have c := grown_cell hg (b := b) (by omega) (fun e => by have := hr _ e; omega)
  exact ⟨(c _).trans a0, (c _).trans a1, (c _).trans a2, (c _).trans a3⟩
theorem RowV.base {w : World} {B : Nat} {u : Value} {us : List NodeR} (h : RowV w B u us) : ∀ g, u.ownBlock = some g → B ≤ g := fun g hg => (World.ownsRow.lt h g hg).1
theorem RowV.other {w : World} {B g j : Nat} {u : Value} {us : List NodeR} (h : RowV w B u us) (v : Value) (hne : u.ownBlock ≠ some g) : RowV (w.setCell ⟨g, j, none⟩ v) B u us := owns_set h g j v hne

/-- A node of the tree without groups, at its new place. -/
theorem er_prefix (xs : List NodeR) : ∀ m i, i ≤ m → ∃ r, er xs m = er xs i ++ r
  | 0, i, h => by
    obtain rfl : i = 0 := by omega
    exact ⟨[], rfl⟩
  | m + 1, i, h => by
    by_cases e : i = m + 1
    · subst e; exact ⟨[], by simp⟩
    · obtain ⟨r, hr⟩ := er_prefix xs m i (by omega)
      by_cases h6 : (atN xs m).k = 6
      · rw [er_group h6]; exact ⟨r, hr⟩
      · rw [er_other h6, hr]; exact ⟨r ++ [erN xs (atN xs m)], by simp⟩

theorem er_at {xs : List NodeR} {m i : Nat} (hi : i < m) (h6 : (atN xs i).k ≠ 6) : cnt xs i < (er xs m).length ∧ atN (er xs m) (cnt xs i) = erN xs (atN xs i) := by
  obtain ⟨r, hr⟩ := er_prefix xs m (i + 1) hi
  have hl := er_len xs i
  rw [er_other h6] at hr
  rw [hr]
  refine ⟨by simp [hl], ?_⟩
  unfold atN
  simp [List.getD, List.getElem?_append, hl]

theorem cnt_other {xs : List NodeR} {i : Nat} (h6 : (atN xs i).k ≠ 6) : cnt xs (i + 1) = cnt xs i + 1 := by
  show (if (atN xs i).k = 6 then cnt xs i else cnt xs i + 1) = _
  rw [if_neg h6]
theorem cnt_group {xs : List NodeR} {i : Nat} (h6 : (atN xs i).k = 6) : cnt xs (i + 1) = cnt xs i := by
  show (if (atN xs i).k = 6 then cnt xs i else cnt xs i + 1) = _
  rw [if_pos h6]
end Go.Proofs.YtokabkhnidlcnabGreat
