import Derived.Deep.RegionHeldLaw
import Derived.Test.YtokabkhnidlcnabGreatR11
import Derived.Test.YtokabkhnidlcnabGreatR13
import Derived.Test.YtokabkhnidlcnabGreatR15
import Derived.Test.YtokabkhnidlcnabGreatR26

/-
  Walk: the program's Roles.
-/
namespace Go.Proofs.YtokabkhnidlcnabGreat
set_option maxRecDepth 100000
set_option linter.unusedSimpArgs false
open Go.RowKit Go.Maps

theorem infoInt : (Tryz.prog.info? 3).map (fun i => (i.zero, i.size, i.bytes)) = some (some (.int .i64 0), 1, 8) := by kernel_rfl

theorem new_newsI (w : World) (v : Int) : ∀ j u, (cellsI [v])[j]? = some u → (w.alloc (.cells #[.int .i64 v] 3)).cell? ((⟨w.heap.size, 0, none⟩ : Addr).add j) = some u := by
  intro j u hj
  rw [Addr.add_mid]
  have := World.rangeAt_of_block (w := w.alloc (.cells #[.int .i64 v] 3)) (b := w.heap.size) (heap_alloc_new w _) 0 1
  exact this j u (by simpa [cellsI] using hj)

theorem opTo_le (ts : List TokR) : ∀ k, opTo ts k ≤ k
  | 0 => Nat.le_refl _
  | k + 1 => by
    have := opTo_le ts k
    simp only [opTo, opOf]
    split
    · omega
    · split <;> omega

theorem role_range (xs : List OpR) (ts : List TokR) (k : Nat) : roleTo xs ts k = -1 ∨ 0 ≤ roleTo xs ts k := by
  unfold roleTo roleOf
  (repeat' split) <;> omega

set_option maxHeartbeats 4000000 in
theorem rolesM_any (bo bs b' off' cap' : Nat) (xs : List OpR) (ts : List TokR) (w : World) (hm : ts.length ≤ 1048576) (hidx : Idx w bo bs xs xs.length) (hc : IsCode xs 0) (hw' : OpsT w b' off' ts) (hst : SizedT ts) (hB' : b' < w.heap.size) :
    Calls Tryz.prog 69 #[.agg #[.map (some bo), .map (some bs)], .slice (some ⟨b', off', none⟩) ts.length cap'] w fun e w' => (∃ (a : Option Addr) (c : Nat) (us : List Int) (v : Int), e = .returned (.tuple #[.slice a us.length c, .int .i64 v]) ∧ OwnedI w' w.heap.size a us ∧ RolesIs xs (IsCode xs 0) ts us v) ∧ Below w.heap.size w w' := by
  have HT := hide hw'
  have HST := hide hst
  have HC := hide hc
  have HID := hide hidx
  clear hw' hst hc hidx
  have hmk : ∀ W : World, (Instr.makeSlice 58 (.int .i64 0) (.int .i64 (ts.length : Int))).run Tryz.prog W = .ok (.slice (some ⟨W.heap.size, 0, none⟩) 0 ts.length) (W.alloc (.cells (madeCells #[.int .i64 0] ts.length) 3)) := by
    obtain ⟨inf, hi, hz⟩ := Option.map_eq_some_iff.1 infoInt
    simp only [Prod.mk.injEq] at hz
    obtain ⟨hz, hsz, hby⟩ := hz
    intro W
    have := run_make (P := Tryz.prog) W 58 3 inf _ Tryz.underlying58 hi hz .i64 .i64 0 ts.length (by omega) (by omega) (by rw [hby]; omega) (by omega)
    simpa [hsz, Value.cells] using this
  have hbo : bo < w.heap.size := by obtain ⟨D, hD, _⟩ := (unhide HID).ops; exact hD.lt
  have hbs : bs < w.heap.size := by obtain ⟨D, hD, _⟩ := (unhide HID).srts; exact hD.lt
  obtain ⟨i0, hi0, hz0, hz1, hz2⟩ := info_parts infoInt
  have HI0 := hide hi0
  have HZ0 := hide (And.intro hz0 (And.intro hz1 hz2))
  clear hi0 hz0 hz1 hz2
  go_enter Tryz.func69, Tryz.ntmps69
  go_wp2_with fail
  clear hmk
  obtain ⟨W0, hW0⟩ : ∃ W0, W0 = ((w.alloc (.cells #[.map (some bo), .map (some bs)] 70)).alloc (.cells #[.map (some bo), .map (some bs), .bool false, .int .i64 0] 200)).alloc (.cells (madeCells #[.int .i64 0] ts.length) 3) := ⟨_, rfl⟩
  have HF0 := hide (show Ft W0 (w.heap.size + 1) bo bs false 0 by
    rw [hW0]
    refine ⟨?_, ?_, ?_, ?_, fun o => ?_⟩ <;> simp [go_sem])
  have HX0 := hide (show Idx W0 bo bs xs xs.length by
    rw [hW0]
    exact (((unhide HID).kept (below1 _ _)).kept (below1 _ _)).kept (below1 _ _))
  have HO0 := hide (show W0.ownsRow (w.heap.size + 2) 3 1 (.slice (some ⟨w.heap.size + 1 + 1, 0, none⟩) 0 ts.length) 0 (cellsI []) by
    rw [hW0]
    have h0 := World.ownsRow_made (base := w.heap.size + 2) (e := 3) (size := 1) ((w.alloc (.cells #[.map (some bo), .map (some bs)] 70)).alloc (.cells #[.map (some bo), .map (some bs), .bool false, .int .i64 0] 200)) (madeCells #[.int .i64 0] ts.length) ts.length (by simp) (by unfold maxLen; omega) (by rw [size_madeCells]; omega)
    simpa [cellsI] using h0)
  have HB0 := hide (show Below w.heap.size w W0 by
    rw [hW0]
    exact ((below1 _ _).alloc (by simp) _).alloc (by simp; omega) _)
  rw [← hW0]
  clear hW0 HID
  go_loopw [7, 19] (fun rv iv wr => ∃ (k g c : Nat), k ≤ ts.length ∧ iv = .int .i64 (k : Int) ∧ rv = .slice (some ⟨g, 0, none⟩) k c ∧ Hid (FitTo xs ts k) ∧ Hid (Ft wr (w.heap.size + 1) bo bs (bhTo xs ts k) (opTo ts k)) ∧ Hid (Idx wr bo bs xs xs.length) ∧ Hid (wr.ownsRow (w.heap.size + 2) 3 1 (.slice (some ⟨g, 0, none⟩) k c) k (cellsI (rolesTo xs ts k))) ∧ Hid (Below w.heap.size w wr) ∧ Hid (k = ts.length → ¬ (0 < ts.length ∧ (atT ts (ts.length - 1)).k = 7))) (fun _ iv _ => ts.length - (intOf iv).toNat)
  case atStart => exact ⟨0, w.heap.size + 1 + 1, ts.length, Nat.zero_le _, rfl, rfl, hide (fun i hi => by omega), HF0, HX0, HO0, HB0, hide (fun h => by omega)⟩
  case round =>
    clear HF0 HX0 HO0 HB0
    obtain ⟨k, g, c, hk, rfl, rfl, hfit, hft, hix, hown, hbl, hend⟩ := hrel
    by_cases hlt : k < ts.length
    · obtain ⟨a0, a1, a2⟩ := ((unhide HT) k hlt).below (unhide hbl) hB'
      have hzp := block_lt_of_cell (unhide hft).c0
      have HF1 := hide ((unhide hft).kept (below1 wr (.cells #[.int .i64 (atT ts k).k, .string (atT ts k).g, .string (atT ts k).t] 56)))
      have HX1 := hide ((unhide hix).kept (below1 wr (.cells #[.int .i64 (atT ts k).k, .string (atT ts k).g, .string (atT ts k).t] 56)))
      have hop : opTo ts k ≤ 1048576 := by
        have := opTo_le ts k
        omega
      have hgl := (unhide hown).lt g rfl
      have hlast : (((k : Int) == (ts.length : Int) - 1)) = decide (k + 1 = ts.length) := by
        rw [Bool.eq_iff_iff]; simp; omega
      go_wp2_with fail
      refine (step_any (w.heap.size + 1) bo bs (opTo ts k) (bhTo xs ts k) (decide (k + 1 = ts.length)) xs (atT ts k) _ (unhide HF1) (unhide HX1) ((unhide HST) k hlt).2 hop).mono ?_
      rintro e w2 ⟨rfl, hs2, hk2⟩
      have HR := hide (show roleOf xs (decide (k + 1 = ts.length)) (atT ts k) (bhTo xs ts k) (opTo ts k) = roleTo xs ts k from rfl)
      rw [unhide HR] at hs2 ⊢
      have hrng := role_range xs ts k
      have zr : wr.heap.size < w2.heap.size := by have := hk2.size; simp at this; omega
      have q0 : w2.cell? ⟨wr.heap.size, 0, none⟩ = some (.int .i64 (atT ts k).k) := by rw [hk2.cell (by simp) (by omega)]; simp [go_sem]
      have HX2 := hide ((unhide HX1).of_blocks (hk2.block bo (by simp; omega) (by omega)) (hk2.block bs (by simp; omega) (by omega)))
      have HO2 := hide ((((unhide hown).alloc (.cells #[.int .i64 (atT ts k).k, .string (atT ts k).g, .string (atT ts k).t] 56))).kept (grown_kept1 hk2) (Or.inr (by simp [Value.ownBlock]; omega)))
      have HB2 := hide (((unhide hbl).alloc (unhide hbl).size (.cells #[.int .i64 (atT ts k).k, .string (atT ts k).g, .string (atT ts k).t] 56)).trans (hk2.below (by have := (unhide hbl).size; simp; omega) (by omega)))
      have HS2 := hide hs2
      have hz2 := (unhide HB2).size
      clear hs2 hk2 hown hbl HX1 HF1 hix hft
      by_cases hr : roleTo xs ts k = -1
      · have HRR := hide hr
        have hr' : (roleTo xs ts k == -1) = true := by simpa using hr
        clear hr hrng
        go_wp2_with fail
        go_ret2
        exact ⟨⟨none, 0, [], (k : Int), rfl, Or.inl ⟨rfl, rfl⟩, Or.inr ⟨unhide HC, Or.inl ⟨k, hlt, unhide hfit, by have := unhide HRR; omega, rfl, rfl⟩⟩⟩, unhide HB2⟩
      have hr' : (roleTo xs ts k == -1) = false := by simpa using hr
      have hr0 : 0 ≤ roleTo xs ts k := by omega
      have HFT := hide (show Ft w2 (w.heap.size + 1) bo bs (bhTo xs ts (k + 1)) (opTo ts (k + 1)) from (unhide HS2) hr0)
      have HFI := hide (show FitTo xs ts (k + 1) from fun i hi => by
        by_cases e : i = k
        · subst e; exact hr0
        · exact (unhide hfit) i (by omega))
      clear hr hrng HS2 hfit
      go_wp2_with (at_builtin; refine wpList_append_own _ rfl (.tmp 35) (.tmp 37) 58 rfl (w.heap.size + 2) 3 i0 _ 1 8 Tryz.underlying58 (unhide HI0) (unhide HZ0).1 (unhide HZ0).2.1 (unhide HZ0).2.2 rfl (by decide) _ k (cellsI (rolesTo xs ts k)) rfl ((unhide HO2).alloc _) ⟨w2.heap.size, 0, none⟩ 1 1 (cellsI [roleTo xs ts k]) rfl rfl (new_newsI w2 (roleTo xs ts k)) (cellsI_one _) ?b1 ?b2 ?b3 ?next)
      case b1 => unfold maxLen; omega
      case b2 => omega
      case b3 => simp; omega
      case next =>
        intro v4 w4 hown4 hgrow4 hnil4
        have hbel4 : Below w.heap.size w w4 := ((unhide HB2).alloc (by omega) _).grown hgrow4 (by simp; omega) (fun q hq => by simp [Value.ownBlock] at hq; omega)
        have hfar : ∀ bb, bb < w2.heap.size → bb ≠ g → w4.heap[bb]? = w2.heap[bb]? := fun bb h1 h2 => (hgrow4.block bb (by simp; omega) (by simp [Value.ownBlock]; omega)).trans ((below1 w2 _).block bb h1)
        have q4 : w4.cell? ⟨wr.heap.size, 0, none⟩ = some (.int .i64 (atT ts k).k) := (World.cell?_of_block (hfar wr.heap.size zr (by omega))).trans q0
        have HX4 := hide ((unhide HX2).of_blocks (hfar bo (by omega) (by omega)) (hfar bs (by omega) (by omega)))
        have hp2 : w.heap.size + 1 < w2.heap.size := by omega
        have HF4 := hide (show Ft w4 (w.heap.size + 1) bo bs (bhTo xs ts (k + 1)) (opTo ts (k + 1)) from by
          have e := fun o => World.cell?_of_block (w := w2) (a := ⟨w.heap.size + 1, o, none⟩) (hfar (w.heap.size + 1) hp2 (by omega))
          have f := fun o => World.frozen?_of_block (w := w2) (a := ⟨w.heap.size + 1, o, none⟩) (hfar (w.heap.size + 1) hp2 (by omega))
          have h := unhide HFT
          exact ⟨(e _).trans h.c0, (e _).trans h.c1, (e _).trans h.c2, (e _).trans h.c3, fun o => (f o).trans (h.fz o)⟩)
        obtain ⟨g4, c4, rfl⟩ := owns_bval hown4 (by simp [hnil4])
        rw [← cellsI_append, ← rolesTo_succ] at hown4
        have HO4 := hide hown4
        have HB4 := hide hbel4
        clear hown4 hgrow4 hnil4 hfar hbel4 HO2 HX2 HFT HB2
        by_cases hl : k + 1 = ts.length
        · have hl' : decide (k + 1 = ts.length) = true := decide_eq_true hl
          by_cases h7 : (atT ts k).k = 7
          · have h7' : ((atT ts k).k == 7) = true := by simpa using h7
            have H7 := hide h7
            have HL := hide hl
            clear h7 hl
            go_wp2_with fail
            go_ret2
            have hl := unhide HL
            have ho := unhide HO4
            have hlen : (rolesTo xs ts (k + 1)).length = k + 1 := rolesTo_len _ _ _
            rw [← hlen] at ho
            obtain ⟨hg, hf⟩ := owns_filledI (by rw [hlen] at ho ⊢; exact ho)
            refine ⟨⟨some ⟨g4, 0, none⟩, c4, rolesTo xs ts (k + 1), -1, by rw [hlen]; first | rfl | (rw [hl]; rfl), Or.inr ⟨g4, rfl, by omega, hf⟩, Or.inr ⟨unhide HC, Or.inr ⟨hl ▸ unhide HFI, Or.inl ⟨⟨by omega, ?_⟩, by rw [hl], rfl⟩⟩⟩⟩, unhide HB4⟩
            rw [← hl]
            exact unhide H7
          · have h7' : ((atT ts k).k == 7) = false := by simpa using h7
            have HE := hide (show k + 1 = ts.length → ¬ (0 < ts.length ∧ (atT ts (ts.length - 1)).k = 7) from fun e => by
              rw [← e]
              exact fun h => h7 h.2)
            have HL := hide hl
            clear hl
            go_wp2_with fail
            have hl := unhide HL
            exact ⟨⟨k + 1, g4, c4, by omega, by go_num, by first | rfl | (rw [hl]), HFI, HF4, HX4, HO4, HB4, HE⟩, by simp [intOf]; omega⟩
        · have hl' : decide (k + 1 = ts.length) = false := decide_eq_false hl
          have HE := hide (show k + 1 = ts.length → ¬ (0 < ts.length ∧ (atT ts (ts.length - 1)).k = 7) from fun e => absurd e hl)
          go_wp2_with fail
          exact ⟨⟨k + 1, g4, c4, by omega, by go_num, rfl, HFI, HF4, HX4, HO4, HB4, HE⟩, by simp [intOf]; omega⟩
    · have HX := hide (show k = ts.length by omega)
      go_wp2_with fail
      go_ret2
      have e := unhide HX
      subst e
      exact ⟨⟨none, 0, [], (ts.length : Int), rfl, Or.inl ⟨rfl, rfl⟩, Or.inr ⟨unhide HC, Or.inr ⟨unhide hfit, Or.inr ⟨(unhide hend) rfl, rfl, rfl⟩⟩⟩⟩, unhide hbl⟩
end Go.Proofs.YtokabkhnidlcnabGreat

/-
  Walk: the specification's height of a tree.
-/
namespace Go.Proofs.YtokabkhnidlcnabGreat
set_option maxRecDepth 100000
set_option linter.unusedSimpArgs false
set_option linter.unusedVariables false
open Go.RowKit

/-- The heights of a tree's nodes. -/
def hL : ET → List Int
  | .nil => []
  | .node _ _ _ l r => hL l ++ hL r ++ [((1 + max (hT l) (hT r) : Nat) : Int)]

theorem hL_len : ∀ T : ET, (hL T).length = tsz T
  | .nil => rfl
  | .node _ _ _ l r => by simp [hL, tsz, hL_len l, hL_len r]; omega

theorem atI_app {a b : List Int} {i : Nat} (h : i < a.length) : atI (a ++ b) i = atI a i := by
  simp [atI, List.getD, List.getElem?_append, h]
theorem atI_app2 {a b : List Int} {i : Nat} (h : a.length ≤ i) : atI (a ++ b) i = atI b (i - a.length) := by
  simp [atI, List.getD, List.getElem?_append_right h]
theorem atN_app1 {a b : List NodeR} {i : Nat} (h : i < a.length) : atN (a ++ b) i = atN a i := by
  simp [atN, List.getD, List.getElem?_append, h]
theorem atN_app2 {a b : List NodeR} {i : Nat} (h : a.length ≤ i) : atN (a ++ b) i = atN b (i - a.length) := by
  simp [atN, List.getD, List.getElem?_append_right h]

theorem hL_last : ∀ {T : ET}, Sh T → atI (hL T) (tsz T - 1) = (hT T : Int)
  | .nil, h => h.elim
  | .node b o t l r, _ => by
    have e : tsz (.node b o t l r : ET) - 1 = (hL l ++ hL r).length := by simp [tsz, hL_len]
    rw [e]
    simp only [hL, hT]
    rw [atI_app2 (Nat.le_refl _)]
    simp [atI]

/-- The height at a node, by those of its kids. -/
def HtAt (n : NodeR) (H : List Int) (s i : Nat) : Prop :=
  (kids n.k = 0 ∧ atI H i = 1) ∨ (kids n.k = 1 ∧ ∃ a, n.a = ((s + a : Nat) : Int) ∧ a < i ∧ atI H i = atI H a + 1) ∨
  (kids n.k = 2 ∧ ∃ a c, n.a = ((s + a : Nat) : Int) ∧ n.b = ((s + c : Nat) : Int) ∧ a < i ∧ c < i ∧ atI H i = max (atI H a) (atI H c) + 1)

theorem hL_at : ∀ (T : ET), Sh T → ∀ (s i : Nat), i < tsz T → HtAt (atN (nd T s) i) (hL T) s i
  | .nil, h, _, _, _ => h.elim
  | .node b o t l r, h, s, i, hi => by
    simp only [tsz] at hi
    have el := hL_len l
    have er := hL_len r
    have nl := nd_len l s
    have nr := nd_len r (s + tsz l)
    by_cases h1 : i < tsz l
    · have hsl : Sh l := by
        rcases h.2 with ⟨_, rfl, _⟩ | ⟨_, hl, _⟩ | ⟨_, hl, _⟩
        · simp [tsz] at h1
        · exact hl
        · exact hl
      have ih := hL_at l hsl s i h1
      have en : atN (nd (.node b o t l r) s) i = atN (nd l s) i := by
        simp only [nd]; rw [List.append_assoc, atN_app1 (by omega)]
      have eH : ∀ k, k < tsz l → atI (hL (.node b o t l r)) k = atI (hL l) k := fun k hk => by
        simp only [hL]; rw [List.append_assoc, atI_app (by omega)]
      unfold HtAt
      rw [en]
      rcases ih with ⟨k0, e⟩ | ⟨k1, a, e1, e2, e3⟩ | ⟨k2, a, c, e1, e2, e3, e4, e5⟩
      · exact Or.inl ⟨k0, by rw [eH i h1]; exact e⟩
      · exact Or.inr (Or.inl ⟨k1, a, e1, e2, by rw [eH i h1, eH a (by omega)]; exact e3⟩)
      · exact Or.inr (Or.inr ⟨k2, a, c, e1, e2, e3, e4, by rw [eH i h1, eH a (by omega), eH c (by omega)]; exact e5⟩)
    · by_cases h2 : i < tsz l + tsz r
      · have hsr : Sh r := by
          rcases h.2 with ⟨_, rfl, rfl⟩ | ⟨_, hl, rfl⟩ | ⟨_, _, hr⟩
          · simp [tsz] at h2
          · simp [tsz] at h2; omega
          · exact hr
        have ih := hL_at r hsr (s + tsz l) (i - tsz l) (by omega)
        have en : atN (nd (.node b o t l r) s) i = atN (nd r (s + tsz l)) (i - tsz l) := by
          simp only [nd]; rw [List.append_assoc, atN_app2 (by omega), nl, atN_app1 (by omega)]
        have eH : ∀ k, k < tsz r → atI (hL (.node b o t l r)) (tsz l + k) = atI (hL r) k := fun k hk => by
          simp only [hL]; rw [List.append_assoc, atI_app2 (by omega), el, atI_app (by omega)]; congr 1; omega
        have ei : i = tsz l + (i - tsz l) := by omega
        unfold HtAt
        rw [en]
        rcases ih with ⟨k0, e⟩ | ⟨k1, a, e1, e2, e3⟩ | ⟨k2, a, c, e1, e2, e3, e4, e5⟩
        · exact Or.inl ⟨k0, by rw [ei, eH _ (by omega)]; exact e⟩
        · refine Or.inr (Or.inl ⟨k1, tsz l + a, by rw [e1]; congr 1; omega, by omega, ?_⟩)
          conv => lhs; rw [ei]
          rw [eH _ (by omega), eH a (by omega)]; exact e3
        · refine Or.inr (Or.inr ⟨k2, tsz l + a, tsz l + c, by rw [e1]; congr 1; omega, by rw [e2]; congr 1; omega, by omega, by omega, ?_⟩)
          conv => lhs; rw [ei]
          rw [eH _ (by omega), eH a (by omega), eH c (by omega)]; exact e5
      · have ei : i = tsz l + tsz r := by omega
        have en : atN (nd (.node b o t l r) s) i = tN b t l r s := by
          simp only [nd]; rw [atN_app2 (by simp; omega)]
          have : i - (nd l s ++ nd r (s + tsz l)).length = 0 := by simp; omega
          rw [this]; rfl
        have eI : atI (hL (.node b o t l r)) i = ((1 + max (hT l) (hT r) : Nat) : Int) := by
          simp only [hL]; rw [atI_app2 (by simp; omega)]
          have : i - (hL l ++ hL r).length = 0 := by simp; omega
          rw [this]; rfl
        unfold HtAt
        rw [en, eI]
        rcases h.2 with ⟨k0, rfl, rfl⟩ | ⟨k1, hl, rfl⟩ | ⟨k2, hl, hr⟩
        · exact Or.inl ⟨k0, rfl⟩
        · have hp := Sh.pos hl
          refine Or.inr (Or.inl ⟨k1, tsz l - 1, ?_, by omega, ?_⟩)
          · simp only [tN, k1]
            rw [if_neg (by decide)]
            omega
          · have e : atI (hL (.node b o t l .nil)) (tsz l - 1) = (hT l : Int) := by
              simp only [hL]; rw [List.append_assoc, atI_app (by omega)]; exact hL_last hl
            rw [e]
            simp only [hT]
            omega
        · have hp := Sh.pos hl
          have hp2 := Sh.pos hr
          refine Or.inr (Or.inr ⟨k2, tsz l - 1, tsz l + tsz r - 1, ?_, ?_, by omega, by omega, ?_⟩)
          · simp only [tN, k2]
            rw [if_neg (by decide)]
            omega
          · simp only [tN, k2]
            rw [if_pos trivial]
            omega
          · have e : atI (hL (.node b o t l r)) (tsz l - 1) = (hT l : Int) := by
              simp only [hL]; rw [List.append_assoc, atI_app (by omega)]; exact hL_last hl
            have e2 : atI (hL (.node b o t l r)) (tsz l + tsz r - 1) = (hT r : Int) := by
              simp only [hL]; rw [List.append_assoc, atI_app2 (by omega), el, atI_app (by omega)]
              have : tsz l + tsz r - 1 - tsz l = tsz r - 1 := by omega
              rw [this]
              exact hL_last hr
            rw [e, e2]
            omega
end Go.Proofs.YtokabkhnidlcnabGreat

/-
  Walk: the specification's height of a tree.
-/
namespace Go.Proofs.YtokabkhnidlcnabGreat
set_option maxRecDepth 100000
set_option linter.unusedSimpArgs false
set_option linter.unusedVariables false
open Go.RowKit

theorem take_succ_at {H : List Int} {k : Nat} (h : k < H.length) : H.take (k + 1) = H.take k ++ [atI H k] := by
  rw [List.take_add_one]
  simp [atI, List.getD, h]
theorem atI_take {H : List Int} {i k : Nat} (h : i < k) : atI (H.take k) i = atI H i := by
  simp [atI, List.getD, List.getElem?_take, h]

set_option maxHeartbeats 4000000 in
theorem l3Height_any (bn cn : Nat) (ns : List NodeR) (H : List Int) (w : World) (hw : OpsN w bn 0 ns) (hB : bn < w.heap.size) (hl : ns.length ≤ 100000) (h1 : 1 ≤ ns.length) (hH : H.length = ns.length) (hat : ∀ i, i < ns.length → HtAt (atN ns i) H 0 i) (hbd : ∀ i, i < ns.length → 0 ≤ atI H i ∧ atI H i ≤ 100000) :
    Calls Tryz.prog 27 #[.agg #[.slice (some ⟨bn, 0, none⟩) ns.length cn]] w fun e w' => e = .returned (.int .i64 (atI H (ns.length - 1))) ∧ Below w.heap.size w w' := by
  obtain ⟨i0, hi0, hz0, hz1, hz2⟩ := info_parts infoInt
  have HI0 := hide hi0
  have HZ0 := hide (And.intro hz0 (And.intro hz1 hz2))
  have HW := hide hw
  have HAT := hide hat
  have HBD := hide hbd
  have HLN := hide hH
  clear hi0 hz0 hz1 hz2 hw hat hbd hH
  have HO := hide (show ((w.alloc (.cells #[.slice (some ⟨bn, 0, none⟩) ns.length cn] 28)).alloc (.cells #[] 3)).ownsRow (w.heap.size + 1) 3 1 (.slice (some ⟨w.heap.size + 1, 0, none⟩) 0 0) 0 (cellsI []) by
    have h0 := World.ownsRow_lit (base := w.heap.size + 1) (e := 3) (size := 1) (w.alloc (.cells #[.slice (some ⟨bn, 0, none⟩) ns.length cn] 28)) #[] 0 (by simp) (Nat.zero_le _) rfl
    simpa [cellsI] using h0)
  have hb0 : Below (w.heap.size + 1) (w.alloc (.cells #[.slice (some ⟨bn, 0, none⟩) ns.length cn] 28)) ((w.alloc (.cells #[.slice (some ⟨bn, 0, none⟩) ns.length cn] 28)).alloc (.cells #[] 3)) := (below1 _ _).mono (by simp)
  go_enter Tryz.func27, Tryz.ntmps27
  go_wp2_with fail
  go_loopw [3, 4] (fun hv iv wr => ∃ (k go co : Nat), k ≤ ns.length ∧ iv = .int .i64 (k : Int) ∧ hv = .slice (some ⟨go, 0, none⟩) k co ∧ Hid (wr.ownsRow (w.heap.size + 1) 3 1 (.slice (some ⟨go, 0, none⟩) k co) k (cellsI (H.take k))) ∧ Hid (Below (w.heap.size + 1) (w.alloc (.cells #[.slice (some ⟨bn, 0, none⟩) ns.length cn] 28)) wr) ∧ w.heap.size + 1 < wr.heap.size) (fun _ iv _ => ns.length - (intOf iv).toNat)
  case atStart => exact ⟨0, w.heap.size + 1, 0, Nat.zero_le _, rfl, rfl, HO, hide hb0, by simp⟩
  case round =>
    clear HO hb0
    obtain ⟨k, go, co, hk, rfl, rfl, hown, hbel, hz⟩ := hrel
    have tc : wr.cell? ⟨w.heap.size, 0, none⟩ = some (.slice (some ⟨bn, 0, none⟩) ns.length cn) := by
      rw [(unhide hbel).cell (p := ⟨w.heap.size, 0, none⟩) (show w.heap.size < _ by omega)]; simp [go_sem]
    have hbw : Below w.heap.size w wr := (below1 _ _).trans ((unhide hbel).mono (by omega))
    have HFI := hide (show FilledI wr go (H.take k) (H.take k).length by
      have hlk : (H.take k).length = k := by rw [List.length_take, unhide HLN]; omega
      have ho := unhide hown
      refine (owns_filledI (base := w.heap.size + 1) (cap := co) (e := 3) ?_).2
      rw [hlk]; exact ho)
    have hlk : (H.take k).length = k := by rw [List.length_take, unhide HLN]; omega
    have HLK := hide hlk
    have hgo := (unhide hown).lt go rfl
    have HGO := hide hgo
    by_cases hlt : k < ns.length
    · have hltI : (k : Int) < (ns.length : Int) := by omega
      obtain ⟨a0, a1, a2, a3⟩ := ((unhide HW) k hlt).below hbw hB
      rw [Nat.zero_add] at a0 a1 a2 a3
      have hb1 := (unhide HBD) k hlt
      have hbn : bn < wr.heap.size := by have := hbw.size; omega
      have HTK := hide (take_succ_at (H := H) (k := k) (by rw [unhide HLN]; exact hlt))
      have HCL := hide (show ∀ i, i < k → wr.cell? ⟨go, i, none⟩ = some (.int .i64 (atI H i)) from fun i hi => by
        have := (unhide HFI).2.2 i (by rw [unhide HLK]; exact hi)
        rw [this, atI_take hi])
      rcases (unhide HAT) k hlt with ⟨k0, e⟩ | ⟨k1, a, e1, e2, e3⟩ | ⟨k2, a, c, e1, e2, e3, e4, e5⟩
      · have HKK := hide k0
        have HVE := hide e
        clear k0 e
        go_wp2_with (first | (go_at_call 60; refine (l3Kids_is (unhide HKK) 0 rfl _).mono ?_; rintro e w' ⟨rfl, hx⟩; obtain rfl := hx.symm) | (at_builtin; refine wpList_append_own _ rfl (.tmp 47) (.tmp 50) 58 rfl (w.heap.size + 1) 3 i0 _ 1 8 Tryz.underlying58 (unhide HI0) (unhide HZ0).1 (unhide HZ0).2.1 (unhide HZ0).2.2 rfl (by decide) _ k (cellsI (H.take k)) rfl (((unhide hown).alloc _).alloc _) ⟨wr.heap.size + 1, 0, none⟩ 1 1 (cellsI [1]) rfl rfl (by simpa using new_newsI (wr.alloc (.cells #[.int .i64 (atN ns k).k, .string (atN ns k).t, .int .i64 (atN ns k).a, .int .i64 (atN ns k).b] 115)) (1)) (cellsI_one _) ?b1 ?b2 ?b3 ?next))
        case b1 => unfold maxLen; omega
        case b2 => omega
        case b3 => simp; omega
        case next =>
          intro v4 w4 hown4 hgrow4 hnil4
          have hbel4 : Below (w.heap.size + 1) (w.alloc (.cells #[.slice (some ⟨bn, 0, none⟩) ns.length cn] 28)) w4 := (((unhide hbel).alloc (by omega) _).alloc (by simp; omega) _).grown hgrow4 (by simp; omega) (fun q hq => by have := (unhide HGO).1; simp [Value.ownBlock] at hq; omega)
          have z4 : w.heap.size + 1 < w4.heap.size := by have := hgrow4.size; simp at this; omega
          obtain ⟨g4, c4, rfl⟩ := owns_bval hown4 (by simp [hnil4])
          rw [← cellsI_append, ← unhide HVE, ← unhide HTK] at hown4
          have HO4 := hide hown4
          have HB4 := hide hbel4
          clear hown4 hgrow4 hnil4 hbel4
          go_wp2_with fail
          exact ⟨⟨k + 1, g4, c4, by omega, by go_num, rfl, HO4, HB4, z4⟩, by simp [intOf]; omega⟩
      · have HKK := hide k1
        have HVE := hide e3
        rw [Nat.zero_add] at e1
        have ca := (unhide HCL) a e2
        have hgl : go < wr.heap.size := (unhide HGO).2
        have hgn : go ≠ wr.heap.size := by omega
        have hba := (unhide HBD) a (by omega)
        obtain ⟨hba1, hba2⟩ := hba
        have haI : (a : Int) < (k : Int) := by omega
        rw [e1] at a2
        clear k1 e3 e1
        go_wp2_with (first | (go_at_call 60; refine (l3Kids_is (unhide HKK) 1 rfl _).mono ?_; rintro e w' ⟨rfl, hx⟩; obtain rfl := hx.symm) | (at_builtin; refine wpList_append_own _ rfl (.tmp 47) (.tmp 50) 58 rfl (w.heap.size + 1) 3 i0 _ 1 8 Tryz.underlying58 (unhide HI0) (unhide HZ0).1 (unhide HZ0).2.1 (unhide HZ0).2.2 rfl (by decide) _ k (cellsI (H.take k)) rfl (((unhide hown).alloc _).alloc _) ⟨wr.heap.size + 1, 0, none⟩ 1 1 (cellsI [atI H a + 1]) rfl rfl (by simpa using new_newsI (wr.alloc (.cells #[.int .i64 (atN ns k).k, .string (atN ns k).t, .int .i64 (a : Int), .int .i64 (atN ns k).b] 115)) (atI H a + 1)) (cellsI_one _) ?b1 ?b2 ?b3 ?next))
        case b1 => unfold maxLen; omega
        case b2 => omega
        case b3 => simp; omega
        case next =>
          intro v4 w4 hown4 hgrow4 hnil4
          have hbel4 : Below (w.heap.size + 1) (w.alloc (.cells #[.slice (some ⟨bn, 0, none⟩) ns.length cn] 28)) w4 := (((unhide hbel).alloc (by omega) _).alloc (by simp; omega) _).grown hgrow4 (by simp; omega) (fun q hq => by have := (unhide HGO).1; simp [Value.ownBlock] at hq; omega)
          have z4 : w.heap.size + 1 < w4.heap.size := by have := hgrow4.size; simp at this; omega
          obtain ⟨g4, c4, rfl⟩ := owns_bval hown4 (by simp [hnil4])
          rw [← cellsI_append, ← unhide HVE, ← unhide HTK] at hown4
          have HO4 := hide hown4
          have HB4 := hide hbel4
          clear hown4 hgrow4 hnil4 hbel4
          go_wp2_with fail
          exact ⟨⟨k + 1, g4, c4, by omega, by go_num, rfl, HO4, HB4, z4⟩, by simp [intOf]; omega⟩
      · have HKK := hide k2
        rw [Nat.zero_add] at e1 e2
        have ca := (unhide HCL) a e3
        have cc := (unhide HCL) c e4
        have hgl : go < wr.heap.size := (unhide HGO).2
        have hgn : go ≠ wr.heap.size := by omega
        obtain ⟨hba1, hba2⟩ := (unhide HBD) a (by omega)
        obtain ⟨hbc1, hbc2⟩ := (unhide HBD) c (by omega)
        have haI : (a : Int) < (k : Int) := by omega
        have hcI : (c : Int) < (k : Int) := by omega
        rw [e1] at a2
        rw [e2] at a3
        by_cases hg : atI H a < atI H c
        · have HVE := hide (show atI H k = atI H c + 1 by omega)
          clear k2 e5 e1 e2 hb1
          go_wp2_with (first | (go_at_call 60; refine (l3Kids_is (unhide HKK) 2 rfl _).mono ?_; rintro e w' ⟨rfl, hx⟩; obtain rfl := hx.symm) | (at_builtin; refine wpList_append_own _ rfl (.tmp 47) (.tmp 50) 58 rfl (w.heap.size + 1) 3 i0 _ 1 8 Tryz.underlying58 (unhide HI0) (unhide HZ0).1 (unhide HZ0).2.1 (unhide HZ0).2.2 rfl (by decide) _ k (cellsI (H.take k)) rfl (((unhide hown).alloc _).alloc _) ⟨wr.heap.size + 1, 0, none⟩ 1 1 (cellsI [atI H c + 1]) rfl rfl (by simpa using new_newsI (wr.alloc (.cells #[.int .i64 (atN ns k).k, .string (atN ns k).t, .int .i64 (a : Int), .int .i64 (c : Int)] 115)) (atI H c + 1)) (cellsI_one _) ?b1 ?b2 ?b3 ?next))
          case b1 => unfold maxLen; omega
          case b2 => omega
          case b3 => simp; omega
          case next =>
            intro v4 w4 hown4 hgrow4 hnil4
            have hbel4 : Below (w.heap.size + 1) (w.alloc (.cells #[.slice (some ⟨bn, 0, none⟩) ns.length cn] 28)) w4 := (((unhide hbel).alloc (by omega) _).alloc (by simp; omega) _).grown hgrow4 (by simp; omega) (fun q hq => by have := (unhide HGO).1; simp [Value.ownBlock] at hq; omega)
            have z4 : w.heap.size + 1 < w4.heap.size := by have := hgrow4.size; simp at this; omega
            obtain ⟨g4, c4, rfl⟩ := owns_bval hown4 (by simp [hnil4])
            rw [← cellsI_append, ← unhide HVE, ← unhide HTK] at hown4
            have HO4 := hide hown4
            have HB4 := hide hbel4
            clear hown4 hgrow4 hnil4 hbel4
            go_wp2_with fail
            exact ⟨⟨k + 1, g4, c4, by omega, by go_num, rfl, HO4, HB4, z4⟩, by simp [intOf]; omega⟩
        · have HVE := hide (show atI H k = atI H a + 1 by omega)
          clear k2 e5 e1 e2 hb1
          go_wp2_with (first | (go_at_call 60; refine (l3Kids_is (unhide HKK) 2 rfl _).mono ?_; rintro e w' ⟨rfl, hx⟩; obtain rfl := hx.symm) | (at_builtin; refine wpList_append_own _ rfl (.tmp 47) (.tmp 50) 58 rfl (w.heap.size + 1) 3 i0 _ 1 8 Tryz.underlying58 (unhide HI0) (unhide HZ0).1 (unhide HZ0).2.1 (unhide HZ0).2.2 rfl (by decide) _ k (cellsI (H.take k)) rfl (((unhide hown).alloc _).alloc _) ⟨wr.heap.size + 1, 0, none⟩ 1 1 (cellsI [atI H a + 1]) rfl rfl (by simpa using new_newsI (wr.alloc (.cells #[.int .i64 (atN ns k).k, .string (atN ns k).t, .int .i64 (a : Int), .int .i64 (c : Int)] 115)) (atI H a + 1)) (cellsI_one _) ?b1 ?b2 ?b3 ?next))
          case b1 => unfold maxLen; omega
          case b2 => omega
          case b3 => simp; omega
          case next =>
            intro v4 w4 hown4 hgrow4 hnil4
            have hbel4 : Below (w.heap.size + 1) (w.alloc (.cells #[.slice (some ⟨bn, 0, none⟩) ns.length cn] 28)) w4 := (((unhide hbel).alloc (by omega) _).alloc (by simp; omega) _).grown hgrow4 (by simp; omega) (fun q hq => by have := (unhide HGO).1; simp [Value.ownBlock] at hq; omega)
            have z4 : w.heap.size + 1 < w4.heap.size := by have := hgrow4.size; simp at this; omega
            obtain ⟨g4, c4, rfl⟩ := owns_bval hown4 (by simp [hnil4])
            rw [← cellsI_append, ← unhide HVE, ← unhide HTK] at hown4
            have HO4 := hide hown4
            have HB4 := hide hbel4
            clear hown4 hgrow4 hnil4 hbel4
            go_wp2_with fail
            exact ⟨⟨k + 1, g4, c4, by omega, by go_num, rfl, HO4, HB4, z4⟩, by simp [intOf]; omega⟩
    · have hltI : ¬ (k : Int) < (ns.length : Int) := by omega
      have e : k = ns.length := by omega
      subst e
      have hlast := (unhide HFI).2.2 (ns.length - 1) (by rw [unhide HLK]; omega)
      rw [atI_take (by omega)] at hlast
      have ec : ((ns.length : Int) - 1) = ((ns.length - 1 : Nat) : Int) := by omega
      have hs1 : ((ns.length : Int) - 1) < (ns.length : Int) := by omega
      have hs0 : (0 : Int) ≤ (ns.length : Int) - 1 := by omega
      have et : ((ns.length : Int) - 1).toNat = ns.length - 1 := by omega
      go_wp2_with fail
      go_ret
      exact ⟨rfl, hbw⟩
end Go.Proofs.YtokabkhnidlcnabGreat
