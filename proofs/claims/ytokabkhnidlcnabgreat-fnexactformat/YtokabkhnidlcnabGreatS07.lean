import Derived.Laws.CopyOwn
import Derived.Test.YtokabkhnidlcnabGreatR11
import Derived.Test.YtokabkhnidlcnabGreatR12
import Derived.Test.YtokabkhnidlcnabGreatR17
import Derived.Test.YtokabkhnidlcnabGreatS06

/-
  Walk: the inner tree of a row of nodes (exprOf).
-/
namespace Go.Proofs.YtokabkhnidlcnabGreat
set_option maxRecDepth 100000
set_option linter.unusedSimpArgs false
set_option linter.unusedVariables false
open Go.RowKit Go.Maps

theorem exprOver_any (bo bs : Nat) (ns : List OpR) (o : NodeR) (T T' : TypeId) (u u' : Value) (w : World) (hi : Idx w bo bs ns ns.length) (hc : IsCode ns 0) (hok : okTo ns ns.length) (ht : o.t.size ≤ maxLen) (hk : TxtOk o) (hkn : isOpN o → fnd ns o.t (o.k - 2) ≠ none) :
    Calls Tryz.prog 124 #[.agg #[.map (some bo), .map (some bs)], .agg #[.int .i64 o.k, .string o.t, .int .i64 o.a, .int .i64 o.b], .iface T u, .iface T' u'] w fun x w' => x = .returned (exN (opA ns o) o (.iface T u) (.iface T' u')) ∧ Below w.heap.size w w' := by
  rcases hk.2 with ⟨h, _⟩ | ⟨h, _⟩ | ⟨h, _⟩ | ⟨h | h | h, _⟩
  · exact exprOver_leaf bo bs ns o _ _ w hi hc hok ht (Or.inl h)
  · exact exprOver_leaf bo bs ns o _ _ w hi hc hok ht (Or.inr h)
  · exact exprOver_one bo bs ns o _ _ _ w hi hc hok ht (Or.inr (Or.inr h)) hkn
  · exact exprOver_one bo bs ns o _ _ _ w hi hc hok ht (Or.inl h) hkn
  · exact exprOver_two bo bs ns o _ _ _ _ w hi hc hok ht h hkn
  · exact exprOver_one bo bs ns o _ _ _ w hi hc hok ht (Or.inr (Or.inl h)) hkn

/-- The row 'made' when k nodes are done. -/
def ExS (w : World) (g : Nat) (ns : List OpR) (xs : List NodeR) (k : Nat) : Prop := g < w.heap.size ∧ ∀ j, j < xs.length → w.cell? ⟨g, j, none⟩ = some ((exL ns xs k).getD j .nilIface) ∧ w.frozen? ⟨g, j, none⟩ = false

theorem ExS.below {w w' : World} {g k : Nat} {ns : List OpR} {xs : List NodeR} (h : ExS w g ns xs k) (hb : Below w.heap.size w w') : ExS w' g ns xs k :=
  ⟨Nat.lt_of_lt_of_le h.1 hb.size, fun j hj => ⟨(hb.cell (p := ⟨g, j, none⟩) h.1).trans (h.2 j hj).1, (hb.frozen (p := ⟨g, j, none⟩) h.1).trans (h.2 j hj).2⟩⟩

theorem ExS.set {w : World} {g k : Nat} {ns : List OpR} {xs : List NodeR} (h : ExS w g ns xs k) (hk : k < xs.length) {v : Value} (hv : v = exS ns xs k) : ExS (w.setCell ⟨g, k, none⟩ v) g ns xs (k + 1) := by
  refine ⟨by simpa [World.setCell] using h.1, fun j hj => ⟨?_, (World.frozen?_setCell _ _ _ _).trans (h.2 j hj).2⟩⟩
  by_cases e : j = k
  · subst e
    rw [World.cell?_setCell_same _ _ _ (h.2 j hj).1, hv]
    rfl
  · rw [World.cell?_setCell_other _ _ _ _ (fun x => e (by injection x with _ x; exact x.symm)), (h.2 j hj).1]
    have hl := exL_len ns xs k
    congr 1
    show _ = (exL ns xs k ++ [_]).getD j .nilIface
    simp only [List.getD, List.getElem?_append, hl]
    by_cases h1 : j < k
    · rw [if_pos h1]
    · rw [if_neg h1, List.getElem?_eq_none (by omega), List.getElem?_eq_none (by simp; omega)]

theorem infoX : (Tryz.prog.info? 92).map (fun i => (i.zero, i.size, i.bytes)) = some (some .nilIface, 1, 16) := by kernel_rfl

theorem made_ex (W : World) (n j : Nat) (hj : j < n) : (W.alloc (.cells (madeCells #[.nilIface] n) 92)).cell? ⟨W.heap.size, j, none⟩ = some .nilIface ∧ (W.alloc (.cells (madeCells #[.nilIface] n) 92)).frozen? ⟨W.heap.size, j, none⟩ = false := by
  have hb : (W.alloc (.cells (madeCells #[.nilIface] n) 92)).heap[W.heap.size]? = some (.cells (madeCells #[.nilIface] n) 92 (0, 0)) := heap_alloc_new W _
  refine ⟨?_, frozen_of_row _ _ _ _ _ hb⟩
  rw [cell_of_row _ W.heap.size j _ 92 (0, 0) hb]
  simp [madeCells, hj, Nat.mod_one]

/-- The kids of a node behind the first one, as places before it. -/
theorem kid_places {xs : List NodeR} (h : InOrd xs) {k : Nat} (hk : k < xs.length) (h1 : 1 ≤ k) : ∃ ja jb : Nat, (atN xs k).a = (ja : Int) ∧ (atN xs k).b = (jb : Int) ∧ ja < k ∧ jb < k := by
  rcases h.kidsAt hk with ⟨h0, ha, hb⟩ | ⟨_, h2, ha, hb⟩ | ⟨_, h2, hb, ha0, ha1⟩
  · exact ⟨0, 0, ha, hb, h1, h1⟩
  · exact ⟨k - 1, 0, by omega, hb, by omega, by omega⟩
  · exact ⟨(atN xs k).a.toNat, k - 1, by omega, by omega, by omega, by omega⟩

/-- What a round of the loop reads. -/
def EO (w : World) (X N g ja jb bo bs : Nat) (o : NodeR) (ea eb : Value) : Prop :=
  w.cell? ⟨X, 0, none⟩ = some (.map (some bo)) ∧ w.cell? ⟨X, 1, none⟩ = some (.map (some bs)) ∧ w.cell? ⟨N, 0, none⟩ = some (.int .i64 o.k) ∧ w.cell? ⟨N, 1, none⟩ = some (.string o.t) ∧ w.cell? ⟨N, 2, none⟩ = some (.int .i64 o.a) ∧ w.cell? ⟨N, 3, none⟩ = some (.int .i64 o.b) ∧ w.cell? ⟨g, ja, none⟩ = some ea ∧ w.cell? ⟨g, jb, none⟩ = some eb

theorem EO.below {w w' : World} {X N g ja jb bo bs : Nat} {o : NodeR} {ea eb : Value} (h : EO w X N g ja jb bo bs o ea eb) (hb : Below w.heap.size w w') : EO w' X N g ja jb bo bs o ea eb := by
  have c : ∀ {b o' : Nat} {v : Value}, w.cell? ⟨b, o', none⟩ = some v → w'.cell? ⟨b, o', none⟩ = some v := fun h => (hb.cell (p := ⟨_, _, none⟩) (block_lt_of_cell h)).trans h
  obtain ⟨h0, h1, h2, h3, h4, h5, h6, h7⟩ := h
  exact ⟨c h0, c h1, c h2, c h3, c h4, c h5, c h6, c h7⟩

theorem EO.set {w : World} {X N g ja jb bo bs k : Nat} {o : NodeR} {ea eb : Value} (h : EO w X N g ja jb bo bs o ea eb) (hX : X ≠ g) (hN : N ≠ g) (ha : ja ≠ k) (hb : jb ≠ k) (v : Value) : EO (w.setCell ⟨g, k, none⟩ v) X N g ja jb bo bs o ea eb := by
  have c : ∀ {b o' : Nat} {u : Value}, (b ≠ g ∨ o' ≠ k) → w.cell? ⟨b, o', none⟩ = some u → (w.setCell ⟨g, k, none⟩ v).cell? ⟨b, o', none⟩ = some u := fun hne h => (World.cell?_setCell_other _ _ _ _ (fun x => by
    injection x with x1 x2
    rcases hne with h | h
    · exact h x1.symm
    · exact h x2.symm)).trans h
  obtain ⟨h0, h1, h2, h3, h4, h5, h6, h7⟩ := h
  exact ⟨c (Or.inl hX) h0, c (Or.inl hX) h1, c (Or.inl hN) h2, c (Or.inl hN) h3, c (Or.inl hN) h4, c (Or.inl hN) h5, c (Or.inr ha) h6, c (Or.inr hb) h7⟩

set_option maxHeartbeats 600000 in
theorem exprOf_any (bo bs bn offn cn : Nat) (ns : List OpR) (xs : List NodeR) (w : World) (hi : Idx w bo bs ns ns.length) (hc : IsCode ns 0) (hok : okTo ns ns.length) (hwn : OpsN w bn offn xs) (hsn : SizedN xs) (hBn : bn < w.heap.size) (hord : InOrd xs) (hkn : Knows ns xs) :
    Calls Tryz.prog 86 #[.agg #[.map (some bo), .map (some bs)], .agg #[.slice (some ⟨bn, offn, none⟩) xs.length cn]] w fun x w' => x = .returned (exS ns xs (xs.length - 1)) ∧ Below w.heap.size w w' := by
  have HI := hide hi
  have HC := hide hc
  have HOK := hide hok
  have HWN := hide hwn
  have HZN := hide hsn
  have HO := hide hord
  have HKN := hide hkn
  have hl1 := hord.1
  have hl2 := hord.2.1
  obtain ⟨iX, hiX, hzX0, hzX1, hzX2⟩ := info_parts' infoX
  have hmk : ∀ W : World, (Instr.makeSlice 206 (.int .i64 (xs.length : Int)) (.int .i64 (xs.length : Int))).run Tryz.prog W = .ok (.slice (some ⟨W.heap.size, 0, none⟩) xs.length xs.length) (W.alloc (.cells (madeCells #[.nilIface] xs.length) 92)) := by
    intro W
    have := run_make (P := Tryz.prog) W 206 92 iX _ Tryz.underlying206 hiX hzX0 .i64 .i64 xs.length xs.length (by omega) (Int.le_refl _) (by rw [hzX2]; omega) (by omega)
    simpa [hzX1, Value.cells] using this
  clear hi hc hok hwn hsn hord hkn hiX hzX0 hzX1 hzX2
  obtain ⟨W1, HW1⟩ : ∃ W1, Hid (W1 = ((w.alloc (.cells #[.map (some bo), .map (some bs)] 70)).alloc (.cells #[.slice (some ⟨bn, offn, none⟩) xs.length cn] 28)).alloc (.cells (madeCells #[.nilIface] xs.length) 92)) := ⟨_, hide rfl⟩
  have hb1 : Below w.heap.size w W1 := by rw [unhide HW1]; exact ((below1 _ _).alloc (by simp) _).alloc (by simp; omega) _
  have hs1 : W1.heap.size = w.heap.size + 3 := by rw [unhide HW1]; simp
  have HEX := hide (show ExS W1 (w.heap.size + 1 + 1) ns xs 0 by
    rw [unhide HW1]
    refine ⟨by simp, fun j hj => ?_⟩
    have := made_ex ((w.alloc (.cells #[.map (some bo), .map (some bs)] 70)).alloc (.cells #[.slice (some ⟨bn, offn, none⟩) xs.length cn] 28)) xs.length j hj
    simpa [exL] using this)
  have X0 : W1.cell? ⟨w.heap.size, 0, none⟩ = some (.map (some bo)) := by rw [unhide HW1]; simp [go_sem]
  have X1 : W1.cell? ⟨w.heap.size, 1, none⟩ = some (.map (some bs)) := by rw [unhide HW1]; simp [go_sem]
  have HX := hide (And.intro X0 X1)
  have HT : W1.cell? ⟨w.heap.size + 1, 0, none⟩ = some (.slice (some ⟨bn, offn, none⟩) xs.length cn) := by rw [unhide HW1]; simp [go_sem]
  clear X0 X1
  go_enter Tryz.func86, Tryz.ntmps86
  go_wp2_with fail
  go_loopw [15] (fun iv wr => ∃ k : Nat, k ≤ xs.length ∧ iv = .int .i64 (k : Int) ∧ Hid (ExS wr (w.heap.size + 1 + 1) ns xs k) ∧ Hid (wr.cell? ⟨w.heap.size, 0, none⟩ = some (.map (some bo)) ∧ wr.cell? ⟨w.heap.size, 1, none⟩ = some (.map (some bs))) ∧ Below w.heap.size w wr ∧ w.heap.size + 3 ≤ wr.heap.size) (fun iv _ => xs.length - (intOf iv).toNat)
  case atStart =>
    rw [← unhide HW1]
    exact ⟨0, Nat.zero_le _, rfl, HEX, HX, hb1, by omega⟩
  case round =>
    clear HEX HX HT hs1 hb1 HW1 hmk
    obtain ⟨k, hk, rfl, hex, hx, hbel, hsz⟩ := hrel
    by_cases hlt : k < xs.length
    · have hltI : (k : Int) < (xs.length : Int) := by omega
      obtain ⟨a0, a1, a2, a3⟩ := ((unhide HWN) k hlt).below hbel hBn
      obtain ⟨m0, m1⟩ := (unhide hex).2 k hlt
      have bel1 : Below w.heap.size w (wr.alloc (.cells #[.int .i64 (atN xs k).k, .string (atN xs k).t, .int .i64 (atN xs k).a, .int .i64 (atN xs k).b] 115)).drew := (hbel.alloc hbel.size _).drew
      by_cases hk0 : k = 0
      · subst hk0
        have hk0 := (unhide HO).first
        obtain ⟨ha0, hb0⟩ : (atN xs 0).a = 0 ∧ (atN xs 0).b = 0 := by
          rcases (unhide HO).kidsAt (k := 0) (by omega) with ⟨_, ha, hb⟩ | ⟨_, h, _⟩ | ⟨_, h, _⟩
          · exact ⟨ha, hb⟩
          · omega
          · omega
        rw [ha0] at a2
        rw [hb0] at a3
        simp only [Nat.zero_mul, Nat.add_zero] at a0 a1 a2 a3
        have e0 : ((exL ns xs 0).getD 0 Value.nilIface) = .nilIface := rfl
        rw [e0] at m0
        obtain ⟨T, u, hTu⟩ := exN_iface (opA ns (atN xs 0)) (atN xs 0) .nilIface .nilIface
        have HRES := hide (show (Value.iface T u) = exS ns xs 0 by
          rw [exS_is, ← hTu]
          simp [exL])
        have hkk : (atN xs 0).k = 1 ∨ (atN xs 0).k = 2 := by
          rcases ((unhide HO).2.2.2 0 (by omega)).2 with ⟨h, _⟩ | ⟨h, _⟩ | ⟨h, _⟩ | ⟨h | h | h, _⟩
          · exact Or.inl h
          · exact Or.inr h
          all_goals (rw [h] at hk0; simp [kids] at hk0)
        have HCALL := hide (fun (W : World) (h1 : Idx W bo bs ns ns.length) => exprOver_leaf bo bs ns (atN xs 0) .nilIface .nilIface W h1 (unhide HC) (unhide HOK) ((unhide HZN) 0 hlt) hkk)
        rw [hTu, ha0, hb0] at HCALL
        have HEO := hide (show EO (wr.alloc (.cells #[.int .i64 (atN xs 0).k, .string (atN xs 0).t, .int .i64 0, .int .i64 0] 115)).drew w.heap.size wr.heap.size (w.heap.size + 1 + 1) 0 0 bo bs ⟨(atN xs 0).k, (atN xs 0).t, 0, 0⟩ .nilIface .nilIface from by
          have hb0 := below1 wr (.cells #[.int .i64 (atN xs 0).k, .string (atN xs 0).t, .int .i64 0, .int .i64 0] 115)
          refine EO.below (w := wr.alloc (.cells #[.int .i64 (atN xs 0).k, .string (atN xs 0).t, .int .i64 0, .int .i64 0] 115)) ?_ (Below.refl _ _).drew
          refine ⟨?_, ?_, by simp [go_sem], by simp [go_sem], by simp [go_sem], by simp [go_sem], ?_, ?_⟩
          · exact (hb0.cell (p := ⟨w.heap.size, 0, none⟩) (show w.heap.size < wr.heap.size by omega)).trans (unhide hx).1
          · exact (hb0.cell (p := ⟨w.heap.size, 1, none⟩) (show w.heap.size < wr.heap.size by omega)).trans (unhide hx).2
          · exact (hb0.cell (p := ⟨w.heap.size + 1 + 1, 0, none⟩) (show w.heap.size + 1 + 1 < wr.heap.size by omega)).trans m0
          · exact (hb0.cell (p := ⟨w.heap.size + 1 + 1, 0, none⟩) (show w.heap.size + 1 + 1 < wr.heap.size by omega)).trans m0)
        have HXC := hide (((unhide hex).below (below1 wr (.cells #[.int .i64 (atN xs 0).k, .string (atN xs 0).t, .int .i64 0, .int .i64 0] 115))).below (Below.refl _ _).drew)
        have HBC := hide (show Below w.heap.size w (wr.alloc (.cells #[.int .i64 (atN xs 0).k, .string (atN xs 0).t, .int .i64 0, .int .i64 0] 115)).drew from (hbel.alloc hbel.size _).drew)
        have HZC := hide (show wr.heap.size + 1 ≤ (wr.alloc (.cells #[.int .i64 (atN xs 0).k, .string (atN xs 0).t, .int .i64 0, .int .i64 0] 115)).drew.heap.size by simp)
        obtain ⟨q0, q1, q2, q3, q4, q5, q6, q7⟩ := unhide HEO
        clear hTu ha0 hb0 m0 m1 bel1 hkk hk0 e0
        go_wp2_with fail
        refine wp_region_held_drew (S := fun w' => w'.cell? ⟨w.heap.size, 0, none⟩ = some (.map (some bo)) ∧ w'.cell? ⟨w.heap.size, 1, none⟩ = some (.map (some bs)) ∧ w'.cell? ⟨wr.heap.size, 0, none⟩ = some (.int .i64 (atN xs 0).k) ∧ w'.cell? ⟨wr.heap.size, 1, none⟩ = some (.string (atN xs 0).t) ∧ w'.cell? ⟨wr.heap.size, 2, none⟩ = some (.int .i64 0) ∧ w'.cell? ⟨wr.heap.size, 3, none⟩ = some (.int .i64 0)) (by kernel_rfl) ⟨q0, q1, q2, q3, q4, q5⟩ (fun hHeld => ?_)
        refine wpAnyH_take (i := 0) (v := ?v0) rfl (by kernel_rfl) (by kernel_rfl) (by kernel_rfl) (fun _ _ _ h => h) (Or.inl ⟨by rfl, ?y0⟩) (by assumption) ?r0
        case y0 => (intro w hSw; (try dsimp only at hSw); go_simp; try (with_reducible rfl))
        simp only [List.getElem_toArray, List.getElem_cons_zero, List.getElem_cons_succ, Act.put, List.setIfInBounds_toArray, List.set_cons_zero, List.set_cons_succ]
        refine wpAnyH_take (i := 1) (v := ?v1) rfl (by kernel_rfl) (by kernel_rfl) (by kernel_rfl) (fun _ _ _ h => h) (Or.inl ⟨by rfl, ?y1⟩) (by assumption) ?r1
        case y1 => (intro w hSw; (try dsimp only at hSw); go_simp; try (with_reducible rfl))
        simp only [List.getElem_toArray, List.getElem_cons_zero, List.getElem_cons_succ, Act.put, List.setIfInBounds_toArray, List.set_cons_zero, List.set_cons_succ]
        refine wpAnyH_take (i := 2) (v := ?v2) rfl (by kernel_rfl) (by kernel_rfl) (by kernel_rfl) (fun _ _ _ h => h) (Or.inl ⟨by rfl, ?y2⟩) (by assumption) ?r2
        case y2 => (intro w hSw; (try dsimp only at hSw); go_simp; try (with_reducible rfl))
        simp only [List.getElem_toArray, List.getElem_cons_zero, List.getElem_cons_succ, Act.put, List.setIfInBounds_toArray, List.set_cons_zero, List.set_cons_succ]
        refine wpAnyH_take (i := 3) (v := ?v3) rfl (by kernel_rfl) (by kernel_rfl) (by kernel_rfl) (fun _ _ _ h => h) (Or.inl ⟨by rfl, ?y3⟩) (by assumption) ?r3
        case y3 => (intro w hSw; (try dsimp only at hSw); go_simp; try (with_reducible rfl))
        simp only [List.getElem_toArray, List.getElem_cons_zero, List.getElem_cons_succ, Act.put, List.setIfInBounds_toArray, List.set_cons_zero, List.set_cons_succ]
        refine wpAnyH_take (i := 4) (v := ?v4) rfl (by kernel_rfl) (by kernel_rfl) (by kernel_rfl) (fun _ _ _ h => h) (Or.inl ⟨by rfl, ?y4⟩) (by assumption) ?r4
        case y4 => (intro w hSw; (try dsimp only at hSw); go_simp; try (with_reducible rfl))
        simp only [List.getElem_toArray, List.getElem_cons_zero, List.getElem_cons_succ, Act.put, List.setIfInBounds_toArray, List.set_cons_zero, List.set_cons_succ]
        refine wpAnyH_take (i := 5) (v := ?v5) rfl (by kernel_rfl) (by kernel_rfl) (by kernel_rfl) (fun _ _ _ h => h) (Or.inl ⟨by rfl, ?y5⟩) (by assumption) ?r5
        case y5 => (intro w hSw; (try dsimp only at hSw); go_simp; try (with_reducible rfl))
        simp only [List.getElem_toArray, List.getElem_cons_zero, List.getElem_cons_succ, Act.put, List.setIfInBounds_toArray, List.set_cons_zero, List.set_cons_succ]
        refine wpAnyH_take (i := 6) (v := ?v6) rfl (by kernel_rfl) (by kernel_rfl) (by kernel_rfl) (fun _ _ _ h => h) (Or.inl ⟨by rfl, ?y6⟩) (by assumption) ?r6
        case y6 => (intro w hSw; (try dsimp only at hSw); go_simp; try (with_reducible rfl))
        simp only [List.getElem_toArray, List.getElem_cons_zero, List.getElem_cons_succ, Act.put, List.setIfInBounds_toArray, List.set_cons_zero, List.set_cons_succ]
        refine wpAnyH_take (i := 7) (v := ?v7) rfl (by kernel_rfl) (by kernel_rfl) (by kernel_rfl) (fun _ _ _ h => h) (Or.inl ⟨by rfl, ?y7⟩) (by assumption) ?r7
        case y7 => (intro w hSw; (try dsimp only at hSw); go_simp; try (with_reducible rfl))
        simp only [List.getElem_toArray, List.getElem_cons_zero, List.getElem_cons_succ, Act.put, List.setIfInBounds_toArray, List.set_cons_zero, List.set_cons_succ]
        refine wpAnyH_take (i := 9) (v := ?v9) rfl (by kernel_rfl) (by kernel_rfl) (by kernel_rfl) (fun _ _ _ h => h) (Or.inl ⟨by rfl, ?y9⟩) (by assumption) ?r9
        case y9 => (intro w hSw; (try dsimp only at hSw); go_simp; try (with_reducible rfl))
        simp only [List.getElem_toArray, List.getElem_cons_zero, List.getElem_cons_succ, Act.put, List.setIfInBounds_toArray, List.set_cons_zero, List.set_cons_succ]
        refine wpAnyH_take (i := 10) (v := ?v10) rfl (by kernel_rfl) (by kernel_rfl) (by kernel_rfl) (fun _ _ _ h => h) (Or.inl ⟨by rfl, ?y10⟩) (by assumption) ?r10
        case y10 => (intro w hSw; (try dsimp only at hSw); go_simp; try (with_reducible rfl))
        simp only [List.getElem_toArray, List.getElem_cons_zero, List.getElem_cons_succ, Act.put, List.setIfInBounds_toArray, List.set_cons_zero, List.set_cons_succ]
        refine wpAnyH_take (i := 11) (v := ?v11) rfl (by kernel_rfl) (by kernel_rfl) (by kernel_rfl) (fun _ _ _ h => h) (Or.inl ⟨by rfl, ?y11⟩) (by assumption) ?r11
        case y11 => (intro w hSw; (try dsimp only at hSw); go_simp; try (with_reducible rfl))
        simp only [List.getElem_toArray, List.getElem_cons_zero, List.getElem_cons_succ, Act.put, List.setIfInBounds_toArray, List.set_cons_zero, List.set_cons_succ]
        refine wpAnyH_take (i := 12) (v := ?v12) rfl (by kernel_rfl) (by kernel_rfl) (by kernel_rfl) (fun _ _ _ h => h) (Or.inl ⟨by rfl, ?y12⟩) (by assumption) ?r12
        case y12 => (intro w hSw; (try dsimp only at hSw); go_simp; try (with_reducible rfl))
        simp only [List.getElem_toArray, List.getElem_cons_zero, List.getElem_cons_succ, Act.put, List.setIfInBounds_toArray, List.set_cons_zero, List.set_cons_succ]
        refine wpAnyH_ready (rs := [8, 13]) (by kernel_rfl) (by simp) ?_
        refine AllReadyH.cons rfl (fun K hK => ?_) (AllReadyH.cons rfl (fun K hK => ?_) AllReadyH.nil)
        · go_simp
          refine hK.out _ _ hHeld (fun _ => ?_)
          clear hK K
          refine wpAnyH_ready (rs := [13]) (by kernel_rfl) (by simp) ?_
          refine AllReadyH.cons rfl (fun K hK => ?_) AllReadyH.nil
          go_simp
          refine hK.out _ _ hHeld (fun _ => ?_)
          clear hK K
          refine wpAnyH_ready (rs := [14]) (by kernel_rfl) (by simp) ?_
          refine AllReadyH.cons rfl (fun K hK => ?_) AllReadyH.nil
          go_simp
          go_wp2_with ((go_at_call 124; refine ((unhide HCALL) _ ((unhide HI).kept (unhide HBC))).mono ?_; rintro x w3 ⟨rfl, hb3⟩; replace HEO := hide ((unhide HEO).below hb3); replace HXC := hide ((unhide HXC).below hb3); replace HBC := hide ((unhide HBC).trans (hb3.mono (unhide HBC).size)); replace HZC := hide (Nat.le_trans (unhide HZC) hb3.size); clear hb3))
          replace ⟨q0, q1, q2, q3, q4, q5, q6, q7⟩ := unhide HEO
          refine hK.out _ _ ⟨q0, q1, q2, q3, q4, q5⟩ (fun hHeld => ?_)
          clear hK K
          obtain ⟨m0, m1⟩ := (unhide HXC).2 0 hlt
          have e0 : ((exL ns xs 0).getD 0 Value.nilIface) = .nilIface := rfl
          rw [e0] at m0
          clear e0
          refine wpAnyH_take (i := 15) (v := ?va15) rfl (by kernel_rfl) (by kernel_rfl) (by kernel_rfl) (fun _ _ _ h => h) (Or.inl ⟨by rfl, ?ya15⟩) (by assumption) ?ra15
          case ya15 => (intro w hSw; (try dsimp only at hSw); go_simp; try (with_reducible rfl))
          simp only [List.getElem_toArray, List.getElem_cons_zero, List.getElem_cons_succ, Act.put, List.setIfInBounds_toArray, List.set_cons_zero, List.set_cons_succ]
          refine wpAnyH_ready (rs := [16]) (by kernel_rfl) (by simp) ?_
          refine AllReadyH.cons rfl (fun K hK => ?_) AllReadyH.nil
          go_simp
          have HX2 := hide (show (w3.setCell ⟨w.heap.size + 1 + 1, 0, none⟩ (.iface T u)).cell? ⟨w.heap.size, 0, none⟩ = some (.map (some bo)) ∧ (w3.setCell ⟨w.heap.size + 1 + 1, 0, none⟩ (.iface T u)).cell? ⟨w.heap.size, 1, none⟩ = some (.map (some bs)) ∧ (w3.setCell ⟨w.heap.size + 1 + 1, 0, none⟩ (.iface T u)).cell? ⟨wr.heap.size, 0, none⟩ = some (.int .i64 (atN xs 0).k) ∧ (w3.setCell ⟨w.heap.size + 1 + 1, 0, none⟩ (.iface T u)).cell? ⟨wr.heap.size, 1, none⟩ = some (.string (atN xs 0).t) ∧ (w3.setCell ⟨w.heap.size + 1 + 1, 0, none⟩ (.iface T u)).cell? ⟨wr.heap.size, 2, none⟩ = some (.int .i64 0) ∧ (w3.setCell ⟨w.heap.size + 1 + 1, 0, none⟩ (.iface T u)).cell? ⟨wr.heap.size, 3, none⟩ = some (.int .i64 0) from
            have c : ∀ {b o' : Nat} {x : Value}, b ≠ w.heap.size + 1 + 1 → w3.cell? ⟨b, o', none⟩ = some x → (w3.setCell ⟨w.heap.size + 1 + 1, 0, none⟩ (.iface T u)).cell? ⟨b, o', none⟩ = some x := fun hne h => (World.cell?_setCell_other _ _ _ _ (fun x => hne (by injection x with x1; exact x1.symm))).trans h
            ⟨c (by omega) q0, c (by omega) q1, c (by omega) q2, c (by omega) q3, c (by omega) q4, c (by omega) q5⟩)
          refine hK.out _ _ (unhide HX2) (fun _ => ?_)
          clear hK K
          refine wpAnyH_done (by kernel_rfl) ?_ _
          have HEX2 := hide ((unhide HXC).set hlt (unhide HRES))
          have HX3 := hide (And.intro (unhide HX2).1 (unhide HX2).2.1)
          have HB2 : Below w.heap.size w (w3.setCell ⟨w.heap.size + 1 + 1, 0, none⟩ (.iface T u)) := (unhide HBC).setCell (by simp; omega) _
          have HZ2 : w.heap.size + 3 ≤ (w3.setCell ⟨w.heap.size + 1 + 1, 0, none⟩ (.iface T u)).heap.size := by have := unhide HZC; simp [World.setCell]; omega
          clear HEO HXC HBC HZC m0 m1 HX2 q0 q1 q2 q3 q4 q5 q6 q7 hHeld
          go_wp2_with fail
          exact ⟨⟨1, by omega, by go_num, HEX2, HX3, HB2, HZ2⟩, by simp [intOf]; omega⟩
        · go_simp
          refine hK.out _ _ hHeld (fun _ => ?_)
          clear hK K
          refine wpAnyH_ready (rs := [8]) (by kernel_rfl) (by simp) ?_
          refine AllReadyH.cons rfl (fun K hK => ?_) AllReadyH.nil
          go_simp
          refine hK.out _ _ hHeld (fun _ => ?_)
          clear hK K
          refine wpAnyH_ready (rs := [14]) (by kernel_rfl) (by simp) ?_
          refine AllReadyH.cons rfl (fun K hK => ?_) AllReadyH.nil
          go_simp
          go_wp2_with ((go_at_call 124; refine ((unhide HCALL) _ ((unhide HI).kept (unhide HBC))).mono ?_; rintro x w3 ⟨rfl, hb3⟩; replace HEO := hide ((unhide HEO).below hb3); replace HXC := hide ((unhide HXC).below hb3); replace HBC := hide ((unhide HBC).trans (hb3.mono (unhide HBC).size)); replace HZC := hide (Nat.le_trans (unhide HZC) hb3.size); clear hb3))
          replace ⟨q0, q1, q2, q3, q4, q5, q6, q7⟩ := unhide HEO
          refine hK.out _ _ ⟨q0, q1, q2, q3, q4, q5⟩ (fun hHeld => ?_)
          clear hK K
          obtain ⟨m0, m1⟩ := (unhide HXC).2 0 hlt
          have e0 : ((exL ns xs 0).getD 0 Value.nilIface) = .nilIface := rfl
          rw [e0] at m0
          clear e0
          refine wpAnyH_take (i := 15) (v := ?vb15) rfl (by kernel_rfl) (by kernel_rfl) (by kernel_rfl) (fun _ _ _ h => h) (Or.inl ⟨by rfl, ?yb15⟩) (by assumption) ?rb15
          case yb15 => (intro w hSw; (try dsimp only at hSw); go_simp; try (with_reducible rfl))
          simp only [List.getElem_toArray, List.getElem_cons_zero, List.getElem_cons_succ, Act.put, List.setIfInBounds_toArray, List.set_cons_zero, List.set_cons_succ]
          refine wpAnyH_ready (rs := [16]) (by kernel_rfl) (by simp) ?_
          refine AllReadyH.cons rfl (fun K hK => ?_) AllReadyH.nil
          go_simp
          have HX2 := hide (show (w3.setCell ⟨w.heap.size + 1 + 1, 0, none⟩ (.iface T u)).cell? ⟨w.heap.size, 0, none⟩ = some (.map (some bo)) ∧ (w3.setCell ⟨w.heap.size + 1 + 1, 0, none⟩ (.iface T u)).cell? ⟨w.heap.size, 1, none⟩ = some (.map (some bs)) ∧ (w3.setCell ⟨w.heap.size + 1 + 1, 0, none⟩ (.iface T u)).cell? ⟨wr.heap.size, 0, none⟩ = some (.int .i64 (atN xs 0).k) ∧ (w3.setCell ⟨w.heap.size + 1 + 1, 0, none⟩ (.iface T u)).cell? ⟨wr.heap.size, 1, none⟩ = some (.string (atN xs 0).t) ∧ (w3.setCell ⟨w.heap.size + 1 + 1, 0, none⟩ (.iface T u)).cell? ⟨wr.heap.size, 2, none⟩ = some (.int .i64 0) ∧ (w3.setCell ⟨w.heap.size + 1 + 1, 0, none⟩ (.iface T u)).cell? ⟨wr.heap.size, 3, none⟩ = some (.int .i64 0) from
            have c : ∀ {b o' : Nat} {x : Value}, b ≠ w.heap.size + 1 + 1 → w3.cell? ⟨b, o', none⟩ = some x → (w3.setCell ⟨w.heap.size + 1 + 1, 0, none⟩ (.iface T u)).cell? ⟨b, o', none⟩ = some x := fun hne h => (World.cell?_setCell_other _ _ _ _ (fun x => hne (by injection x with x1; exact x1.symm))).trans h
            ⟨c (by omega) q0, c (by omega) q1, c (by omega) q2, c (by omega) q3, c (by omega) q4, c (by omega) q5⟩)
          refine hK.out _ _ (unhide HX2) (fun _ => ?_)
          clear hK K
          refine wpAnyH_done (by kernel_rfl) ?_ _
          have HEX2 := hide ((unhide HXC).set hlt (unhide HRES))
          have HX3 := hide (And.intro (unhide HX2).1 (unhide HX2).2.1)
          have HB2 : Below w.heap.size w (w3.setCell ⟨w.heap.size + 1 + 1, 0, none⟩ (.iface T u)) := (unhide HBC).setCell (by simp; omega) _
          have HZ2 : w.heap.size + 3 ≤ (w3.setCell ⟨w.heap.size + 1 + 1, 0, none⟩ (.iface T u)).heap.size := by have := unhide HZC; simp [World.setCell]; omega
          clear HEO HXC HBC HZC m0 m1 HX2 q0 q1 q2 q3 q4 q5 q6 q7 hHeld
          go_wp2_with fail
          exact ⟨⟨1, by omega, by go_num, HEX2, HX3, HB2, HZ2⟩, by simp [intOf]; omega⟩
      · obtain ⟨ja, jb, hja, hjb, hjak, hjbk⟩ := kid_places (unhide HO) hlt (by omega)
        obtain ⟨Ta, ua, hTa⟩ := exS_iface ns xs ja
        obtain ⟨Tb, ub, hTb⟩ := exS_iface ns xs jb
        have ca := (unhide hex).2 ja (by omega)
        have cb := (unhide hex).2 jb (by omega)
        rw [exL_get ns xs k ja hjak, hTa] at ca
        rw [exL_get ns xs k jb hjbk, hTb] at cb
        obtain ⟨T, u, hTu⟩ := exN_iface (opA ns (atN xs k)) (atN xs k) (.iface Ta ua) (.iface Tb ub)
        have HRES := hide (show (Value.iface T u) = exS ns xs k by
          rw [exS_is, hja, hjb, Int.toNat_natCast, Int.toNat_natCast, exL_get ns xs k ja hjak, exL_get ns xs k jb hjbk, hTa, hTb, hTu])
        have HCALL := hide (fun (W : World) (h1 : Idx W bo bs ns ns.length) => exprOver_any bo bs ns (atN xs k) Ta Tb ua ub W h1 (unhide HC) (unhide HOK) ((unhide HZN) k hlt) ((unhide HO).2.2.2 k hlt) ((unhide HKN) k hlt))
        rw [hTu, hja, hjb] at HCALL
        rw [hja] at a2
        rw [hjb] at a3
        have hjaI : (ja : Int) < (xs.length : Int) := by omega
        have hjbI : (jb : Int) < (xs.length : Int) := by omega
        have HEO := hide (show EO (wr.alloc (.cells #[.int .i64 (atN xs k).k, .string (atN xs k).t, .int .i64 (ja : Int), .int .i64 (jb : Int)] 115)).drew w.heap.size wr.heap.size (w.heap.size + 1 + 1) ja jb bo bs ⟨(atN xs k).k, (atN xs k).t, (ja : Int), (jb : Int)⟩ (.iface Ta ua) (.iface Tb ub) from by
          have hb0 := below1 wr (.cells #[.int .i64 (atN xs k).k, .string (atN xs k).t, .int .i64 (ja : Int), .int .i64 (jb : Int)] 115)
          refine EO.below (w := wr.alloc (.cells #[.int .i64 (atN xs k).k, .string (atN xs k).t, .int .i64 (ja : Int), .int .i64 (jb : Int)] 115)) ?_ (Below.refl _ _).drew
          refine ⟨?_, ?_, by simp [go_sem], by simp [go_sem], by simp [go_sem], by simp [go_sem], ?_, ?_⟩
          · exact (hb0.cell (p := ⟨w.heap.size, 0, none⟩) (show w.heap.size < wr.heap.size by omega)).trans (unhide hx).1
          · exact (hb0.cell (p := ⟨w.heap.size, 1, none⟩) (show w.heap.size < wr.heap.size by omega)).trans (unhide hx).2
          · exact (hb0.cell (p := ⟨w.heap.size + 1 + 1, ja, none⟩) (show w.heap.size + 1 + 1 < wr.heap.size by omega)).trans ca.1
          · exact (hb0.cell (p := ⟨w.heap.size + 1 + 1, jb, none⟩) (show w.heap.size + 1 + 1 < wr.heap.size by omega)).trans cb.1)
        have HXC := hide (((unhide hex).below (below1 wr (.cells #[.int .i64 (atN xs k).k, .string (atN xs k).t, .int .i64 (ja : Int), .int .i64 (jb : Int)] 115))).below (Below.refl _ _).drew)
        have HBC := hide (show Below w.heap.size w (wr.alloc (.cells #[.int .i64 (atN xs k).k, .string (atN xs k).t, .int .i64 (ja : Int), .int .i64 (jb : Int)] 115)).drew from (hbel.alloc hbel.size _).drew)
        have HZC : wr.heap.size + 1 ≤ (wr.alloc (.cells #[.int .i64 (atN xs k).k, .string (atN xs k).t, .int .i64 (ja : Int), .int .i64 (jb : Int)] 115)).drew.heap.size := by simp
        have HZC := hide HZC
        clear ca cb hTa hTb hTu hja hjb m0 m1 bel1
        go_wp2_with fail
        go_region_held (fun w' => w'.cell? ⟨w.heap.size, 0, none⟩ = some (.map (some bo)) ∧ w'.cell? ⟨w.heap.size, 1, none⟩ = some (.map (some bs)) ∧ w'.cell? ⟨wr.heap.size, 0, none⟩ = some (.int .i64 (atN xs k).k) ∧ w'.cell? ⟨wr.heap.size, 1, none⟩ = some (.string (atN xs k).t) ∧ w'.cell? ⟨wr.heap.size, 2, none⟩ = some (.int .i64 (ja : Int)) ∧ w'.cell? ⟨wr.heap.size, 3, none⟩ = some (.int .i64 (jb : Int)) ∧ w'.cell? ⟨w.heap.size + 1 + 1, ja, none⟩ = some (.iface Ta ua) ∧ w'.cell? ⟨w.heap.size + 1 + 1, jb, none⟩ = some (.iface Tb ub)) (first | exact unhide HEO | exact (unhide HEO).set (by omega) (by omega) (by omega) (by omega) _)
          ((go_at_call 124; refine ((unhide HCALL) _ ((unhide HI).kept (unhide HBC))).mono ?_; rintro x w3 ⟨rfl, hb3⟩; replace HEO := hide ((unhide HEO).below hb3); replace HXC := hide ((unhide HXC).below hb3); replace HBC := hide ((unhide HBC).trans (hb3.mono (unhide HBC).size)); replace HZC := hide (Nat.le_trans (unhide HZC) hb3.size); clear hb3; obtain ⟨m0, m1⟩ := (unhide HXC).2 k hlt))
        have HEX2 := hide ((unhide HXC).set hlt (unhide HRES))
        have HX2 := hide (show (w3.setCell ⟨w.heap.size + 1 + 1, k, none⟩ (.iface T u)).cell? ⟨w.heap.size, 0, none⟩ = some (.map (some bo)) ∧ (w3.setCell ⟨w.heap.size + 1 + 1, k, none⟩ (.iface T u)).cell? ⟨w.heap.size, 1, none⟩ = some (.map (some bs)) from
          have h := (unhide HEO).set (k := k) (by omega) (by omega) (by omega) (by omega) (.iface T u)
          ⟨h.1, h.2.1⟩)
        have HB2 : Below w.heap.size w (w3.setCell ⟨w.heap.size + 1 + 1, k, none⟩ (.iface T u)) := (unhide HBC).setCell (by simp; omega) _
        have HZ2 : w.heap.size + 3 ≤ (w3.setCell ⟨w.heap.size + 1 + 1, k, none⟩ (.iface T u)).heap.size := by have := unhide HZC; simp [World.setCell]; omega
        clear HEO HXC HBC HZC m0 m1
        go_wp2_with fail
        exact ⟨⟨k + 1, by omega, by go_num, HEX2, HX2, HB2, HZ2⟩, by simp [intOf]; omega⟩
    · have hkx : k = xs.length := by omega
      have HL := hide ((unhide hex).2 (xs.length - 1) (by omega))
      rw [exL_get ns xs k (xs.length - 1) (by omega)] at HL
      obtain ⟨T, u, hTu⟩ := exS_iface ns xs (xs.length - 1)
      rw [hTu] at HL
      have HTU := hide hTu
      have c1 := (unhide HL).1
      have ei : (xs.length : Int) - 1 = ((xs.length - 1 : Nat) : Int) := by omega
      have e2 : ((xs.length - 1 : Nat) : Int) < (xs.length : Int) := by omega
      clear hTu HL
      go_wp2_with fail
      go_ret
      exact ⟨by rw [unhide HTU]; rfl, hbel⟩
end Go.Proofs.YtokabkhnidlcnabGreat

/-
  Words: numbers and names (isWord).
-/
namespace Go.Proofs.YtokabkhnidlcnabGreat
set_option maxRecDepth 100000
open Go.RowKit

/-- A text of one word. -/
def WordT (first : Nat) (s : ByteArray) : Prop := 1 ≤ s.size ∧ cls (bt s 0) = first ∧ ∀ j, j < s.size → stays first (bt s j) = true

set_option maxHeartbeats 1000000 in
theorem isWord_any (first : Nat) (s : ByteArray) (w : World) (hs : s.size ≤ maxLen) :
    Calls Tryz.prog 149 #[.int .i64 (first : Int), .string s] w fun e w' => RetB e (WordT first s) ∧ w' = w := by
  unfold maxLen at hs
  by_cases h0 : s.size = 0
  · have HN := hide (show ¬ WordT first s from fun h => by have := h.1; omega)
    obtain rfl := bytes_nil h0
    go_enter Tryz.func149, Tryz.ntmps149
    go_wp2_with fail
    go_ret
    exact ⟨⟨_, rfl, says_false (unhide HN)⟩, rfl⟩
  have hne := not_empty h0
  have h0I : (0 : Int) < (s.size : Int) := by omega
  have h0N : 0 < s.size := by omega
  by_cases hc : cls (bt s 0) = first
  case neg =>
    have HN := hide (show ¬ WordT first s from fun h => hc h.2.1)
    have hb := bt_get h0N
    have hc' : ((cls s[0] : Int) != (first : Int)) = true := by rw [hb]; simp; omega
    clear hb
    go_enter Tryz.func149, Tryz.ntmps149
    go_wp2_with (go_at_call 106; refine (kindOfByte_any _ _).mono ?_; rintro e w' ⟨rfl, hx⟩; obtain rfl := hx.symm)
    go_ret
    exact ⟨⟨_, rfl, says_false (unhide HN)⟩, rfl⟩
  have HC := hide hc
  have hb := bt_get h0N
  have HX := hide (show (cls s[0] : Int) = (first : Int) by rw [hb]; omega)
  clear hb hc
  go_enter Tryz.func149, Tryz.ntmps149
  go_wp2_with (go_at_call 106; refine (kindOfByte_any _ _).mono ?_; rw [unhide HX]; rintro e w' ⟨rfl, hx⟩; obtain rfl := hx.symm)
  go_loop [17] (fun i => ∃ k : Nat, k ≤ s.size ∧ i = .int .i64 (k : Int) ∧ Hid (∀ j, j < k → stays first (bt s j) = true)) (fun i => s.size - (intOf i).toNat)
  case atStart => exact ⟨0, Nat.zero_le _, rfl, hide (fun j h => by omega)⟩
  case round =>
    obtain ⟨k, hk, rfl, hn⟩ := hrel
    by_cases hlt : k < s.size
    · have hltI : (k : Int) < (s.size : Int) := by omega
      cases hb : stays first s[k]
      · have Hb := hide (show stays first (bt s k) = false by rw [← bt_get hlt]; exact hb)
        go_wp2_with (go_at_call 134; refine (staysWord_any _ _ _).mono ?_; rintro e w' ⟨rfl, hx⟩; obtain rfl := hx.symm)
        go_ret
        exact ⟨⟨_, rfl, says_false (fun h => by have := h.2.2 k hlt; rw [unhide Hb] at this; cases this)⟩, rfl⟩
      · have Hb := hide (show stays first (bt s k) = true by rw [← bt_get hlt]; exact hb)
        go_wp2_with (go_at_call 134; refine (staysWord_any _ _ _).mono ?_; rintro e w' ⟨rfl, hx⟩; obtain rfl := hx.symm)
        refine ⟨⟨k + 1, by omega, by go_num, hide (fun j hj => ?_)⟩, by simp [intOf]; omega⟩
        by_cases e : j = k
        · subst e; exact unhide Hb
        · exact (unhide hn) j (by omega)
    · go_wp2_with fail
      go_ret
      exact ⟨⟨_, rfl, says_true ⟨by omega, unhide HC, fun j hj => (unhide hn) j (by omega)⟩⟩, rfl⟩

theorem WordT_2 (s : ByteArray) : WordT 2 s ↔ NumT s := by
  unfold WordT NumT stays
  constructor
  · rintro ⟨h1, h2, h3⟩
    refine ⟨h1, fun j hj => ?_⟩
    have := h3 j hj
    simpa using this
  · rintro ⟨h1, h2⟩
    exact ⟨h1, h2 0 (by omega), fun j hj => by simp [h2 j hj]⟩

theorem WordT_3 (s : ByteArray) : WordT 3 s ↔ NameT s := by
  unfold WordT NameT stays
  constructor
  · rintro ⟨h1, h2, h3⟩
    refine ⟨h1, fun j hj => ?_⟩
    have := h3 j hj
    simp at this
    by_cases e : j = 0
    · subst e; exact Or.inl h2
    · omega
  · rintro ⟨h1, h2⟩
    refine ⟨h1, ?_, fun j hj => ?_⟩
    · have := h2 0 (by omega); omega
    · have := h2 j hj; simp; omega
end Go.Proofs.YtokabkhnidlcnabGreat

/-
  Walks: the program's trees in order, its parts.
-/
namespace Go.Proofs.YtokabkhnidlcnabGreat
set_option maxRecDepth 100000
set_option linter.unusedVariables false
open Go.RowKit

theorem kidCount_any (k : Int) (w : World) :
    Calls Tryz.prog 140 #[.int .i64 k] w fun e w' => e = .returned (.int .i64 (kids k : Int)) ∧ w' = w := by
  by_cases h4 : k = 4
  · subst h4
    go_enter Tryz.func140, Tryz.ntmps140
    go_wp2
    go_ret
    exact ⟨ret_int (by simp [kids]), rfl⟩
  by_cases h3 : k = 3
  · subst h3
    go_enter Tryz.func140, Tryz.ntmps140
    go_wp2
    go_ret
    exact ⟨ret_int (by simp [kids]), rfl⟩
  by_cases h5 : k = 5
  · subst h5
    go_enter Tryz.func140, Tryz.ntmps140
    go_wp2
    go_ret
    exact ⟨ret_int (by simp [kids]), rfl⟩
  by_cases h6 : k = 6
  · subst h6
    go_enter Tryz.func140, Tryz.ntmps140
    go_wp2
    go_ret
    exact ⟨ret_int (by simp [kids]), rfl⟩
  have e4 : (k == 4) = false := by simpa using h4
  have e3 : (k == 3) = false := by simpa using h3
  have e5 : (k == 5) = false := by simpa using h5
  have e6 : (k == 6) = false := by simpa using h6
  have HK := hide (show kids k = 0 by simp [kids, h4, h3, h5, h6])
  clear h4 h3 h5 h6
  go_enter Tryz.func140, Tryz.ntmps140
  go_wp2
  go_ret
  exact ⟨ret_int (by rw [unhide HK]; rfl), rfl⟩

theorem kidCount_is {k : Int} {n : Nat} (h : kids k = n) (z : Int) (hz : (n : Int) = z) (w : World) :
    Calls Tryz.prog 140 #[.int .i64 k] w fun e w' => e = .returned (.int .i64 z) ∧ w' = w := by
  subst hz
  subst h
  exact kidCount_any k w

set_option maxHeartbeats 1000000 in
theorem textFits_any (o : NodeR) (w : World) (hs : o.t.size ≤ maxLen) :
    Calls Tryz.prog 142 #[.agg #[.int .i64 o.k, .string o.t, .int .i64 o.a, .int .i64 o.b]] w fun e w' => RetB e (TxtOk o) ∧ Below w.heap.size w w' := by
  have HS := hide hs
  unfold maxLen at hs
  by_cases hbig : 20000 < o.t.size
  · have hbigI : (20000 : Int) < (o.t.size : Int) := by omega
    have HN := hide (TxtOk_big hbig)
    clear hbig
    go_enter Tryz.func142, Tryz.ntmps142
    go_wp2_with fail
    go_ret
    exact ⟨⟨_, rfl, says_false (unhide HN)⟩, below1 _ _⟩
  have hbigI : ¬ (20000 : Int) < (o.t.size : Int) := by omega
  have hsm : o.t.size ≤ 20000 := by omega
  clear hbig
  by_cases k1 : o.k = 1
  · have HT := hide ((TxtOk_1 hsm k1).trans (WordT_2 _).symm)
    rw [k1]
    clear k1
    go_enter Tryz.func142, Tryz.ntmps142
    go_wp2_with (go_at_call 149; refine (isWord_any 2 _ _ (unhide HS)).mono ?_; rintro e w' ⟨⟨v, rfl, hv⟩, hx⟩; obtain rfl := hx.symm)
    go_ret
    exact ⟨⟨_, rfl, hv.trans (unhide HT).symm⟩, below1 _ _⟩
  by_cases k2 : o.k = 2
  · have HT := hide ((TxtOk_2 hsm k2).trans (WordT_3 _).symm)
    rw [k2]
    clear k1 k2
    go_enter Tryz.func142, Tryz.ntmps142
    go_wp2_with (go_at_call 149; refine (isWord_any 3 _ _ (unhide HS)).mono ?_; rintro e w' ⟨⟨v, rfl, hv⟩, hx⟩; obtain rfl := hx.symm)
    go_ret
    exact ⟨⟨_, rfl, hv.trans (unhide HT).symm⟩, below1 _ _⟩
  by_cases k6 : o.k = 6
  · have HT := hide (TxtOk_6 k6)
    rw [k6]
    clear k1 k2 k6
    by_cases h0 : o.t.size = 0
    · rw [bytes_nil h0]
      go_enter Tryz.func142, Tryz.ntmps142
      go_wp2_with fail
      go_ret
      exact ⟨⟨_, rfl, says_true ((unhide HT).2 h0)⟩, below1 _ _⟩
    · have hne : o.t.toList.isEmpty = false := not_empty h0
      go_enter Tryz.func142, Tryz.ntmps142
      go_wp2_with fail
      go_ret
      exact ⟨⟨_, rfl, says_false (fun h => h0 ((unhide HT).1 h))⟩, below1 _ _⟩
  have e1 : (o.k == 1) = false := by simpa using k1
  have e2 : (o.k == 2) = false := by simpa using k2
  have e6 : (o.k == 6) = false := by simpa using k6
  by_cases k3 : o.k = 3
  · have HT := hide (TxtOk_3 hsm (Or.inl k3))
    rw [k3]
    clear k1 k2 k6 e1 e2 e6 k3
    go_enter Tryz.func142, Tryz.ntmps142
    go_wp2_with (go_at_call 131; refine (isOpText_any _ _ (unhide HS)).mono ?_; rintro e w' ⟨rfl, hx⟩; obtain rfl := hx.symm)
    go_ret
    exact ⟨⟨_, rfl, (unhide HT).symm⟩, below1 _ _⟩
  by_cases k4 : o.k = 4
  · have HT := hide (TxtOk_3 hsm (Or.inr (Or.inl k4)))
    rw [k4]
    clear k1 k2 k6 e1 e2 e6 k3 k4
    go_enter Tryz.func142, Tryz.ntmps142
    go_wp2_with (go_at_call 131; refine (isOpText_any _ _ (unhide HS)).mono ?_; rintro e w' ⟨rfl, hx⟩; obtain rfl := hx.symm)
    go_ret
    exact ⟨⟨_, rfl, (unhide HT).symm⟩, below1 _ _⟩
  by_cases k5 : o.k = 5
  · have HT := hide (TxtOk_3 hsm (Or.inr (Or.inr k5)))
    rw [k5]
    clear k1 k2 k6 e1 e2 e6 k3 k4 k5
    go_enter Tryz.func142, Tryz.ntmps142
    go_wp2_with (go_at_call 131; refine (isOpText_any _ _ (unhide HS)).mono ?_; rintro e w' ⟨rfl, hx⟩; obtain rfl := hx.symm)
    go_ret
    exact ⟨⟨_, rfl, (unhide HT).symm⟩, below1 _ _⟩
  have e3 : (o.k == 3) = false := by simpa using k3
  have e4 : (o.k == 4) = false := by simpa using k4
  have e5 : (o.k == 5) = false := by simpa using k5
  have HT := hide (TxtOk_0 (o := o) (by omega))
  clear k1 k2 k6 k3 k4 k5
  go_enter Tryz.func142, Tryz.ntmps142
  go_wp2_with fail
  go_ret
  exact ⟨⟨_, rfl, says_false (unhide HT)⟩, below1 _ _⟩

theorem sizeI : (Tryz.prog.info? 3).map (·.size) = some 1 := by kernel_rfl

set_option maxHeartbeats 1000000 in
theorem kidsFit0 (o : NodeR) (a : Option Addr) (cap : Nat) (w : World) :
    Calls Tryz.prog 141 #[.agg #[.int .i64 o.k, .string o.t, .int .i64 o.a, .int .i64 o.b], .slice a 0 cap] w fun e w' => RetB e (o.a = 0 ∧ o.b = 0) ∧ Below w.heap.size w w' := by
  have hcp : ∀ W : World, (Builtin.copy_ #[58, 58] 3 #[.slice (some ⟨w.heap.size + 1, 0, none⟩) 2 2, .slice a 0 cap]).run Tryz.prog W = .ok (goInt 0) W := fun W => run_copy_none W _ _ _ 3 _ _ _ _ _ _ Tryz.underlying58 sizeI (by simp)
  have HC := hide hcp
  clear hcp
  by_cases ha : o.a = 0
  · rw [ha]
    by_cases hb : o.b = 0
    · rw [hb]
      clear ha hb
      go_enter Tryz.func141, Tryz.ntmps141
      go_wp2
      rw [unhide HC]
      simp only [Result.andThen]
      rw [Oper.upon_value]
      go_wp2
      go_ret
      exact ⟨⟨_, rfl, says_true (by simp)⟩, (below1 _ _).alloc (by simp) _⟩
    · have hb' : (o.b == 0) = false := by simpa using hb
      clear ha
      go_enter Tryz.func141, Tryz.ntmps141
      go_wp2
      rw [unhide HC]
      simp only [Result.andThen]
      rw [Oper.upon_value]
      go_wp2
      go_ret
      exact ⟨⟨_, rfl, says_false (fun h => hb h.2)⟩, (below1 _ _).alloc (by simp) _⟩
  · have ha' : (o.a == 0) = false := by simpa using ha
    go_enter Tryz.func141, Tryz.ntmps141
    go_wp2
    rw [unhide HC]
    simp only [Result.andThen]
    rw [Oper.upon_value]
    go_wp2
    go_ret
    exact ⟨⟨_, rfl, says_false (fun h => ha h.1)⟩, (below1 _ _).alloc (by simp) _⟩

set_option maxHeartbeats 1000000 in
theorem kidsFit1 (o : NodeR) (g off cap : Nat) (t : Int) (w : World) (h0 : w.cell? ⟨g, off, none⟩ = some (.int .i64 t)) :
    Calls Tryz.prog 141 #[.agg #[.int .i64 o.k, .string o.t, .int .i64 o.a, .int .i64 o.b], .slice (some ⟨g, off, none⟩) 1 cap] w fun e w' => RetB e (o.a = t ∧ o.b = 0) ∧ Below w.heap.size w w' := by
  have HC := hide (show ∀ (x y : Int), (Builtin.copy_ #[58, 58] 3 #[.slice (some ⟨w.heap.size + 1, 0, none⟩) 2 2, .slice (some ⟨g, off, none⟩) 1 cap]).run Tryz.prog ((w.alloc (.cells #[.int .i64 o.k, .string o.t, .int .i64 x, .int .i64 y] 115)).alloc (.cells #[.int .i64 0, .int .i64 0] 221)) = .ok (goInt 1) (((w.alloc (.cells #[.int .i64 o.k, .string o.t, .int .i64 x, .int .i64 y] 115)).alloc (.cells #[.int .i64 0, .int .i64 0] 221)).setCells (w.heap.size + 1) 0 [.int .i64 t]) from fun x y => by
    have hlt : g < w.heap.size := block_lt_of_cell h0
    have bel : Below w.heap.size w ((w.alloc (.cells #[.int .i64 o.k, .string o.t, .int .i64 x, .int .i64 y] 115)).alloc (.cells #[.int .i64 0, .int .i64 0] 221)) := (below1 _ _).alloc (by simp) _
    exact run_copy_cells _ _ _ _ 3 _ _ _ _ _ _ _ [.int .i64 t] Tryz.underlying58 sizeI rfl (fun j v hj => by
      rw [Addr.add_mid]
      match j, hj with
      | 0, hj =>
        simp only [List.getElem?_cons_zero, Option.some.injEq] at hj
        rw [← hj]
        exact (bel.cell (p := ⟨g, off, none⟩) hlt).trans h0) (fun j hj => by simp at hj; subst hj; simp [go_sem]) (fun j hj => by simp [go_sem]) (fun v hv => by simp at hv; rw [hv]; rfl))
  clear h0
  by_cases ha : o.a = t
  · rw [ha]
    by_cases hb : o.b = 0
    · rw [hb]
      clear ha hb
      go_enter Tryz.func141, Tryz.ntmps141
      go_wp2
      rw [unhide HC]
      simp only [Result.andThen, World.setCells]
      rw [Oper.upon_value]
      go_wp2
      go_ret
      exact ⟨⟨_, rfl, says_true (by simp)⟩, (below1 _ _).alloc (by simp) _⟩
    · have hb' : (o.b == 0) = false := by simpa using hb
      clear ha
      go_enter Tryz.func141, Tryz.ntmps141
      go_wp2
      rw [unhide HC]
      simp only [Result.andThen, World.setCells]
      rw [Oper.upon_value]
      go_wp2
      go_ret
      exact ⟨⟨_, rfl, says_false (fun h => hb h.2)⟩, (below1 _ _).alloc (by simp) _⟩
  · have ha' : (o.a == t) = false := by simpa using ha
    go_enter Tryz.func141, Tryz.ntmps141
    go_wp2
    rw [unhide HC]
    simp only [Result.andThen, World.setCells]
    rw [Oper.upon_value]
    go_wp2
    go_ret
    exact ⟨⟨_, rfl, says_false (fun h => ha h.1)⟩, (below1 _ _).alloc (by simp) _⟩

set_option maxHeartbeats 1000000 in
theorem kidsFit2 (o : NodeR) (g off cap : Nat) (t t' : Int) (w : World) (h0 : w.cell? ⟨g, off, none⟩ = some (.int .i64 t)) (h1 : w.cell? ⟨g, off + 1, none⟩ = some (.int .i64 t')) :
    Calls Tryz.prog 141 #[.agg #[.int .i64 o.k, .string o.t, .int .i64 o.a, .int .i64 o.b], .slice (some ⟨g, off, none⟩) 2 cap] w fun e w' => RetB e (o.a = t ∧ o.b = t') ∧ Below w.heap.size w w' := by
  have HC := hide (show ∀ (x y : Int), (Builtin.copy_ #[58, 58] 3 #[.slice (some ⟨w.heap.size + 1, 0, none⟩) 2 2, .slice (some ⟨g, off, none⟩) 2 cap]).run Tryz.prog ((w.alloc (.cells #[.int .i64 o.k, .string o.t, .int .i64 x, .int .i64 y] 115)).alloc (.cells #[.int .i64 0, .int .i64 0] 221)) = .ok (goInt 2) (((w.alloc (.cells #[.int .i64 o.k, .string o.t, .int .i64 x, .int .i64 y] 115)).alloc (.cells #[.int .i64 0, .int .i64 0] 221)).setCells (w.heap.size + 1) 0 [.int .i64 t, .int .i64 t']) from fun x y => by
    have hlt : g < w.heap.size := block_lt_of_cell h0
    have bel : Below w.heap.size w ((w.alloc (.cells #[.int .i64 o.k, .string o.t, .int .i64 x, .int .i64 y] 115)).alloc (.cells #[.int .i64 0, .int .i64 0] 221)) := (below1 _ _).alloc (by simp) _
    exact run_copy_cells _ _ _ _ 3 _ _ _ _ _ _ _ [.int .i64 t, .int .i64 t'] Tryz.underlying58 sizeI rfl (fun j v hj => by
      rw [Addr.add_mid]
      match j, hj with
      | 0, hj =>
        simp only [List.getElem?_cons_zero, Option.some.injEq] at hj
        rw [← hj]
        exact (bel.cell (p := ⟨g, off, none⟩) hlt).trans h0
      | 1, hj =>
        simp only [List.getElem?_cons_succ, List.getElem?_cons_zero, Option.some.injEq] at hj
        rw [← hj]
        exact (bel.cell (p := ⟨g, off + 1, none⟩) hlt).trans h1) (fun j hj => by simp at hj; rcases (by omega : j = 0 ∨ j = 1) with rfl | rfl <;> simp [go_sem]) (fun j hj => by simp [go_sem]) (fun v hv => by simp at hv; rcases hv with rfl | rfl <;> rfl))
  clear h0 h1
  by_cases ha : o.a = t
  · rw [ha]
    by_cases hb : o.b = t'
    · rw [hb]
      clear ha hb
      go_enter Tryz.func141, Tryz.ntmps141
      go_wp2
      rw [unhide HC]
      simp only [Result.andThen, World.setCells]
      rw [Oper.upon_value]
      go_wp2
      go_ret
      exact ⟨⟨_, rfl, says_true (by simp)⟩, (below1 _ _).alloc (by simp) _⟩
    · have hb' : (o.b == t') = false := by simpa using hb
      clear ha
      go_enter Tryz.func141, Tryz.ntmps141
      go_wp2
      rw [unhide HC]
      simp only [Result.andThen, World.setCells]
      rw [Oper.upon_value]
      go_wp2
      go_ret
      exact ⟨⟨_, rfl, says_false (fun h => hb h.2)⟩, (below1 _ _).alloc (by simp) _⟩
  · have ha' : (o.a == t) = false := by simpa using ha
    go_enter Tryz.func141, Tryz.ntmps141
    go_wp2
    rw [unhide HC]
    simp only [Result.andThen, World.setCells]
    rw [Oper.upon_value]
    go_wp2
    go_ret
    exact ⟨⟨_, rfl, says_false (fun h => ha h.1)⟩, (below1 _ _).alloc (by simp) _⟩

end Go.Proofs.YtokabkhnidlcnabGreat
