/-
  Walk: the program's Roles.
-/
import Derived.Test.YtokabkhnidlcnabImplRol1
import Derived.Test.YtokabkhnidlcnabSpecLex3
import Derived.Test.YtokabkhnidlcnabImplLex4
namespace Go.Proofs.Ytokabkhnidlcnab
set_option maxRecDepth 100000
set_option linter.unusedSimpArgs false
open Go.RowKit Go.Maps

theorem infoInt : (Try.prog.info? 3).map (fun i => (i.zero, i.size, i.bytes)) = some (some (.int .i64 0), 1, 8) := by kernel_rfl

theorem new_newsI (w : World) (v : Int) : ∀ j u, (cellsI [v])[j]? = some u → (w.alloc (.cells #[.int .i64 v] 3)).cell? ((⟨w.heap.size, 0, none⟩ : Addr).add j) = some u := by
  intro j u hj
  rw [Addr.add_mid]
  have := World.rangeAt_of_block (w := w.alloc (.cells #[.int .i64 v] 3)) (b := w.heap.size) (heap_alloc_new w _) 0 1
  exact this j u (by simpa [cellsI] using hj)

theorem opTo_le (ts : List TokR) : ∀ k, opTo ts k ≤ k
  | 0 => Nat.le_refl _
  | k + 1 => by
    have := opTo_le ts k
    simp only [opTo, opOf]
    split
    · omega
    · split <;> omega

theorem role_range (xs : List OpR) (ts : List TokR) (k : Nat) : roleTo xs ts k = -1 ∨ 0 ≤ roleTo xs ts k := by
  unfold roleTo roleOf
  (repeat' split) <;> omega

set_option maxHeartbeats 4000000 in
theorem rolesM_any (bo bs b' off' cap' : Nat) (xs : List OpR) (ts : List TokR) (w : World) (hm : ts.length ≤ 1048576) (hidx : Idx w bo bs xs xs.length) (hc : IsCode xs 0) (hw' : OpsT w b' off' ts) (hst : SizedT ts) (hB' : b' < w.heap.size) :
    Calls Try.prog 63 #[.agg #[.map (some bo), .map (some bs)], .slice (some ⟨b', off', none⟩) ts.length cap'] w fun e w' => (∃ (a : Option Addr) (c : Nat) (us : List Int) (v : Int), e = .returned (.tuple #[.slice a us.length c, .int .i64 v]) ∧ OwnedI w' w.heap.size a us ∧ RolesIs xs (IsCode xs 0) ts us v) ∧ Below w.heap.size w w' := by
  have HT := hide hw'
  have HST := hide hst
  have HC := hide hc
  have HID := hide hidx
  clear hw' hst hc hidx
  have hmk : ∀ W : World, (Instr.makeSlice 45 (.int .i64 0) (.int .i64 (ts.length : Int))).run Try.prog W = .ok (.slice (some ⟨W.heap.size, 0, none⟩) 0 ts.length) (W.alloc (.cells (madeCells #[.int .i64 0] ts.length) 3)) := by
    obtain ⟨inf, hi, hz⟩ := Option.map_eq_some_iff.1 infoInt
    simp only [Prod.mk.injEq] at hz
    obtain ⟨hz, hsz, hby⟩ := hz
    intro W
    have := run_make (P := Try.prog) W 45 3 inf _ Try.underlying45 hi hz .i64 .i64 0 ts.length (by omega) (by omega) (by rw [hby]; omega) (by omega)
    simpa [hsz, Value.cells] using this
  have hbo : bo < w.heap.size := by obtain ⟨D, hD, _⟩ := (unhide HID).ops; exact hD.lt
  have hbs : bs < w.heap.size := by obtain ⟨D, hD, _⟩ := (unhide HID).srts; exact hD.lt
  obtain ⟨i0, hi0, hz0, hz1, hz2⟩ := info_parts infoInt
  have HI0 := hide hi0
  have HZ0 := hide (And.intro hz0 (And.intro hz1 hz2))
  clear hi0 hz0 hz1 hz2
  go_enter Try.func63, Try.ntmps63
  go_wp2_with fail
  clear hmk
  obtain ⟨W0, hW0⟩ : ∃ W0, W0 = ((w.alloc (.cells #[.map (some bo), .map (some bs)] 85)).alloc (.cells #[.map (some bo), .map (some bs), .bool false, .int .i64 0] 141)).alloc (.cells (madeCells #[.int .i64 0] ts.length) 3) := ⟨_, rfl⟩
  have HF0 := hide (show Ft W0 (w.heap.size + 1) bo bs false 0 by
    rw [hW0]
    refine ⟨?_, ?_, ?_, ?_, fun o => ?_⟩ <;> simp [go_sem])
  have HX0 := hide (show Idx W0 bo bs xs xs.length by
    rw [hW0]
    exact (((unhide HID).kept (below1 _ _)).kept (below1 _ _)).kept (below1 _ _))
  have HO0 := hide (show W0.ownsRow (w.heap.size + 2) 3 1 (.slice (some ⟨w.heap.size + 1 + 1, 0, none⟩) 0 ts.length) 0 (cellsI []) by
    rw [hW0]
    have h0 := World.ownsRow_made (base := w.heap.size + 2) (e := 3) (size := 1) ((w.alloc (.cells #[.map (some bo), .map (some bs)] 85)).alloc (.cells #[.map (some bo), .map (some bs), .bool false, .int .i64 0] 141)) (madeCells #[.int .i64 0] ts.length) ts.length (by simp) (by unfold maxLen; omega) (by rw [size_madeCells]; omega)
    simpa [cellsI] using h0)
  have HB0 := hide (show Below w.heap.size w W0 by
    rw [hW0]
    exact ((below1 _ _).alloc (by simp) _).alloc (by simp; omega) _)
  rw [← hW0]
  clear hW0 HID
  go_loopw [7, 19] (fun rv iv wr => ∃ (k g c : Nat), k ≤ ts.length ∧ iv = .int .i64 (k : Int) ∧ rv = .slice (some ⟨g, 0, none⟩) k c ∧ Hid (FitTo xs ts k) ∧ Hid (Ft wr (w.heap.size + 1) bo bs (bhTo xs ts k) (opTo ts k)) ∧ Hid (Idx wr bo bs xs xs.length) ∧ Hid (wr.ownsRow (w.heap.size + 2) 3 1 (.slice (some ⟨g, 0, none⟩) k c) k (cellsI (rolesTo xs ts k))) ∧ Hid (Below w.heap.size w wr) ∧ Hid (k = ts.length → ¬ (0 < ts.length ∧ (atT ts (ts.length - 1)).k = 7))) (fun _ iv _ => ts.length - (intOf iv).toNat)
  case atStart => exact ⟨0, w.heap.size + 1 + 1, ts.length, Nat.zero_le _, rfl, rfl, hide (fun i hi => by omega), HF0, HX0, HO0, HB0, hide (fun h => by omega)⟩
  case round =>
    clear HF0 HX0 HO0 HB0
    obtain ⟨k, g, c, hk, rfl, rfl, hfit, hft, hix, hown, hbl, hend⟩ := hrel
    by_cases hlt : k < ts.length
    · obtain ⟨a0, a1, a2⟩ := ((unhide HT) k hlt).below (unhide hbl) hB'
      have hzp := block_lt_of_cell (unhide hft).c0
      have HF1 := hide ((unhide hft).kept (below1 wr (.cells #[.int .i64 (atT ts k).k, .string (atT ts k).g, .string (atT ts k).t] 79)))
      have HX1 := hide ((unhide hix).kept (below1 wr (.cells #[.int .i64 (atT ts k).k, .string (atT ts k).g, .string (atT ts k).t] 79)))
      have hop : opTo ts k ≤ 1048576 := by
        have := opTo_le ts k
        omega
      have hgl := (unhide hown).lt g rfl
      have hlast : (((k : Int) == (ts.length : Int) - 1)) = decide (k + 1 = ts.length) := by
        rw [Bool.eq_iff_iff]; simp; omega
      go_wp2_with fail
      refine (step_any (w.heap.size + 1) bo bs (opTo ts k) (bhTo xs ts k) (decide (k + 1 = ts.length)) xs (atT ts k) _ (unhide HF1) (unhide HX1) ((unhide HST) k hlt).2 hop).mono ?_
      rintro e w2 ⟨rfl, hs2, hk2⟩
      have HR := hide (show roleOf xs (decide (k + 1 = ts.length)) (atT ts k) (bhTo xs ts k) (opTo ts k) = roleTo xs ts k from rfl)
      rw [unhide HR] at hs2 ⊢
      have hrng := role_range xs ts k
      have zr : wr.heap.size < w2.heap.size := by have := hk2.size; simp at this; omega
      have q0 : w2.cell? ⟨wr.heap.size, 0, none⟩ = some (.int .i64 (atT ts k).k) := by rw [hk2.cell (by simp) (by omega)]; simp [go_sem]
      have HX2 := hide ((unhide HX1).of_blocks (hk2.block bo (by simp; omega) (by omega)) (hk2.block bs (by simp; omega) (by omega)))
      have HO2 := hide ((((unhide hown).alloc (.cells #[.int .i64 (atT ts k).k, .string (atT ts k).g, .string (atT ts k).t] 79))).kept (grown_kept1 hk2) (Or.inr (by simp [Value.ownBlock]; omega)))
      have HB2 := hide (((unhide hbl).alloc (unhide hbl).size (.cells #[.int .i64 (atT ts k).k, .string (atT ts k).g, .string (atT ts k).t] 79)).trans (hk2.below (by have := (unhide hbl).size; simp; omega) (by omega)))
      have HS2 := hide hs2
      have hz2 := (unhide HB2).size
      clear hs2 hk2 hown hbl HX1 HF1 hix hft
      by_cases hr : roleTo xs ts k = -1
      · have HRR := hide hr
        have hr' : (roleTo xs ts k == -1) = true := by simpa using hr
        clear hr hrng
        go_wp2_with fail
        go_ret2
        exact ⟨⟨none, 0, [], (k : Int), rfl, Or.inl ⟨rfl, rfl⟩, Or.inr ⟨unhide HC, Or.inl ⟨k, hlt, unhide hfit, by have := unhide HRR; omega, rfl, rfl⟩⟩⟩, unhide HB2⟩
      have hr' : (roleTo xs ts k == -1) = false := by simpa using hr
      have hr0 : 0 ≤ roleTo xs ts k := by omega
      have HFT := hide (show Ft w2 (w.heap.size + 1) bo bs (bhTo xs ts (k + 1)) (opTo ts (k + 1)) from (unhide HS2) hr0)
      have HFI := hide (show FitTo xs ts (k + 1) from fun i hi => by
        by_cases e : i = k
        · subst e; exact hr0
        · exact (unhide hfit) i (by omega))
      clear hr hrng HS2 hfit
      go_wp2_with (at_builtin; refine wpList_append_own _ rfl (.tmp 35) (.tmp 37) 45 rfl (w.heap.size + 2) 3 i0 _ 1 8 Try.underlying45 (unhide HI0) (unhide HZ0).1 (unhide HZ0).2.1 (unhide HZ0).2.2 rfl (by decide) _ k (cellsI (rolesTo xs ts k)) rfl ((unhide HO2).alloc _) ⟨w2.heap.size, 0, none⟩ 1 1 (cellsI [roleTo xs ts k]) rfl rfl (new_newsI w2 (roleTo xs ts k)) (cellsI_one _) ?b1 ?b2 ?b3 ?next)
      case b1 => unfold maxLen; omega
      case b2 => omega
      case b3 => simp; omega
      case next =>
        intro v4 w4 hown4 hgrow4 hnil4
        have hbel4 : Below w.heap.size w w4 := ((unhide HB2).alloc (by omega) _).grown hgrow4 (by simp; omega) (fun q hq => by simp [Value.ownBlock] at hq; omega)
        have hfar : ∀ bb, bb < w2.heap.size → bb ≠ g → w4.heap[bb]? = w2.heap[bb]? := fun bb h1 h2 => (hgrow4.block bb (by simp; omega) (by simp [Value.ownBlock]; omega)).trans ((below1 w2 _).block bb h1)
        have q4 : w4.cell? ⟨wr.heap.size, 0, none⟩ = some (.int .i64 (atT ts k).k) := (World.cell?_of_block (hfar wr.heap.size zr (by omega))).trans q0
        have HX4 := hide ((unhide HX2).of_blocks (hfar bo (by omega) (by omega)) (hfar bs (by omega) (by omega)))
        have hp2 : w.heap.size + 1 < w2.heap.size := by omega
        have HF4 := hide (show Ft w4 (w.heap.size + 1) bo bs (bhTo xs ts (k + 1)) (opTo ts (k + 1)) from by
          have e := fun o => World.cell?_of_block (w := w2) (a := ⟨w.heap.size + 1, o, none⟩) (hfar (w.heap.size + 1) hp2 (by omega))
          have f := fun o => World.frozen?_of_block (w := w2) (a := ⟨w.heap.size + 1, o, none⟩) (hfar (w.heap.size + 1) hp2 (by omega))
          have h := unhide HFT
          exact ⟨(e _).trans h.c0, (e _).trans h.c1, (e _).trans h.c2, (e _).trans h.c3, fun o => (f o).trans (h.fz o)⟩)
        obtain ⟨g4, c4, rfl⟩ := owns_bval hown4 (by simp [hnil4])
        rw [← cellsI_append, ← rolesTo_succ] at hown4
        have HO4 := hide hown4
        have HB4 := hide hbel4
        clear hown4 hgrow4 hnil4 hfar hbel4 HO2 HX2 HFT HB2
        by_cases hl : k + 1 = ts.length
        · have hl' : decide (k + 1 = ts.length) = true := decide_eq_true hl
          by_cases h7 : (atT ts k).k = 7
          · have h7' : ((atT ts k).k == 7) = true := by simpa using h7
            have H7 := hide h7
            have HL := hide hl
            clear h7 hl
            go_wp2_with fail
            go_ret2
            have hl := unhide HL
            have ho := unhide HO4
            have hlen : (rolesTo xs ts (k + 1)).length = k + 1 := rolesTo_len _ _ _
            rw [← hlen] at ho
            obtain ⟨hg, hf⟩ := owns_filledI (by rw [hlen] at ho ⊢; exact ho)
            refine ⟨⟨some ⟨g4, 0, none⟩, c4, rolesTo xs ts (k + 1), -1, by rw [hlen]; first | rfl | (rw [hl]; rfl), Or.inr ⟨g4, rfl, by omega, hf⟩, Or.inr ⟨unhide HC, Or.inr ⟨hl ▸ unhide HFI, Or.inl ⟨⟨by omega, ?_⟩, by rw [hl], rfl⟩⟩⟩⟩, unhide HB4⟩
            rw [← hl]
            exact unhide H7
          · have h7' : ((atT ts k).k == 7) = false := by simpa using h7
            have HE := hide (show k + 1 = ts.length → ¬ (0 < ts.length ∧ (atT ts (ts.length - 1)).k = 7) from fun e => by
              rw [← e]
              exact fun h => h7 h.2)
            have HL := hide hl
            clear hl
            go_wp2_with fail
            have hl := unhide HL
            exact ⟨⟨k + 1, g4, c4, by omega, by go_num, by first | rfl | (rw [hl]), HFI, HF4, HX4, HO4, HB4, HE⟩, by simp [intOf]; omega⟩
        · have hl' : decide (k + 1 = ts.length) = false := decide_eq_false hl
          have HE := hide (show k + 1 = ts.length → ¬ (0 < ts.length ∧ (atT ts (ts.length - 1)).k = 7) from fun e => absurd e hl)
          go_wp2_with fail
          exact ⟨⟨k + 1, g4, c4, by omega, by go_num, rfl, HFI, HF4, HX4, HO4, HB4, HE⟩, by simp [intOf]; omega⟩
    · have HX := hide (show k = ts.length by omega)
      go_wp2_with fail
      go_ret2
      have e := unhide HX
      subst e
      exact ⟨⟨none, 0, [], (ts.length : Int), rfl, Or.inl ⟨rfl, rfl⟩, Or.inr ⟨unhide HC, Or.inr ⟨unhide hfit, Or.inr ⟨(unhide hend) rfl, rfl, rfl⟩⟩⟩⟩, unhide hbl⟩
end Go.Proofs.Ytokabkhnidlcnab
