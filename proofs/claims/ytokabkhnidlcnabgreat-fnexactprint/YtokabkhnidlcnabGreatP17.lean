import Derived.Maps.AppendAt
import Derived.Test.YtokabkhnidlcnabGreatP08
import Derived.Test.YtokabkhnidlcnabGreatP12
import Derived.Test.YtokabkhnidlcnabGreatP15
import Derived.Test.YtokabkhnidlcnabGreatP16

/-
  Walks: the specification's trees without groups.
-/
namespace Go.Proofs.YtokabkhnidlcnabGreat
set_option maxRecDepth 100000
set_option linter.unusedVariables false
set_option linter.unusedSimpArgs false
open Go.RowKit

theorem Kept1.grownRow {w w1 w2 : World} {g : Nat} {row : Option Nat} (h : Kept1 w w1 g) (hg : w1.grownBy w2 row) (hr : ∀ k, row = some k → k = g ∨ w.heap.size ≤ k) : Kept1 w w2 g :=
  ⟨hg.os.trans h.os, hg.tape.trans h.tape, hg.output.trans h.output, Nat.le_trans h.size hg.size, fun i hi a => (hg.block i (Nat.lt_of_lt_of_le hi h.size) (fun e => by rcases hr i e.symm with h | h; exact a h; omega)).trans (h.block i hi a)⟩

theorem Kept1.setRow {w w1 : World} {g : Nat} (h : Kept1 w w1 g) (b o : Nat) (v : Value) (hb : b = g ∨ w.heap.size ≤ b) : Kept1 w (w1.setCell ⟨b, o, none⟩ v) g :=
  h.grownRow (row := some b) ⟨rfl, rfl, rfl, by simp [World.setCell], fun i _ hi => Below.heap_setCell _ _ _ _ (fun e => hi (by rw [e]))⟩ (fun k hk => by injection hk with hk; subst hk; exact hb)

theorem owns_set {w : World} {B e size n : Nat} {v : Value} {xs : List Value} (h : w.ownsRow B e size v n xs) (b o : Nat) (u : Value) (hb : v.ownBlock ≠ some b) : (w.setCell ⟨b, o, none⟩ u).ownsRow B e size v n xs :=
  h.kept (row := some b) ⟨rfl, rfl, rfl, by simp [World.setCell], fun i _ hi => Below.heap_setCell _ _ _ _ (fun e => hi (by rw [e]))⟩ (Or.inr hb)

/-- A row of nodes that belongs to the call. -/
def RowN (w : World) (B g c : Nat) (us : List NodeR) : Prop := w.ownsRow B 115 4 (.slice (some ⟨g, 0, none⟩) us.length c) us.length (cellsN us)

theorem RowN.kept {w w' : World} {B g c g' : Nat} {us : List NodeR} (h : RowN w B g c us) (hk : Kept1 w w' g') (hne : g' ≠ g) : RowN w' B g c us :=
  World.ownsRow.kept h (grown_kept1 hk) (Or.inr (by simp [Value.ownBlock]; omega))
theorem RowN.below {w w' : World} {B g c : Nat} {us : List NodeR} (h : RowN w B g c us) (hb : Below w.heap.size w w') : RowN w' B g c us :=
  World.ownsRow.kept h (grown_belN hb none) (Or.inr (by simp [Value.ownBlock]))
theorem RowN.set {w : World} {B g c : Nat} {us : List NodeR} (h : RowN w B g c us) (b o : Nat) (u : Value) (hb : b ≠ g) : RowN (w.setCell ⟨b, o, none⟩ u) B g c us :=
  owns_set h b o u (by simp [Value.ownBlock]; omega)
theorem RowN.lt {w : World} {B g c : Nat} {us : List NodeR} (h : RowN w B g c us) : B ≤ g ∧ g < w.heap.size := World.ownsRow.lt h g rfl

/-- A row with one node more. -/
theorem RowN.snoc {w : World} {B : Nat} {v : Value} {us vs : List NodeR} {o : NodeR} (h : w.ownsRow B 115 4 v (us.length + 1) (cellsN us ++ cellsN [o])) (hv : v ≠ .slice none 0 0) (e : vs = us ++ [o]) : ∃ g c, v = .slice (some ⟨g, 0, none⟩) vs.length c ∧ RowN w B g c vs := by
  subst e
  obtain ⟨g, c, rfl⟩ := owns_valueN h hv
  have hl : us.length + 1 = (us ++ [o]).length := by simp
  rw [← cellsN_append, hl] at h
  exact ⟨g, c, by rw [hl], h⟩

theorem new_newsAt (w : World) (n : Nat) (o : NodeR) (hn : w.heap.size = n) : ∀ j u, (cellsN [o])[j]? = some u → (w.alloc (.cells #[.int .i64 o.k, .string o.t, .int .i64 o.a, .int .i64 o.b] 115)).cell? ((⟨n, 0, none⟩ : Addr).add j) = some u := by
  subst hn
  exact new_newsN w o

theorem info_parts' {t : TypeId} {z : Value} {s b : Nat} (h : (Tryz.prog.info? t).map (fun i => (i.zero, i.size, i.bytes)) = some (some z, s, b)) : ∃ i, Tryz.prog.info? t = some i ∧ i.zero = some z ∧ i.size = s ∧ i.bytes = b := by
  obtain ⟨i, hi, hz⟩ := Option.map_eq_some_iff.1 h
  simp only [Prod.mk.injEq] at hz
  exact ⟨i, hi, hz.1, hz.2.1, hz.2.2⟩

set_option maxHeartbeats 8000000 in
theorem l3Erased_any (b off cap : Nat) (xs : List NodeR) (hm : xs.length ≤ 20000) : ∀ (n i f B g c : Nat) (us vs : List NodeR) (w : World), i < n → i < xs.length → Hid (frS xs i = some f) → Hid (us = er xs f) → Hid (vs = er xs (i + 1)) → OpsN w b off xs → b < B → B ≤ w.heap.size → RowN w B g c us →
    Calls Tryz.prog 120 #[.slice (some ⟨b, off, none⟩) xs.length cap, .int .i64 (i : Int), .slice (some ⟨g, 0, none⟩) us.length c] w fun e w' => (∃ g' c', e = .returned (.slice (some ⟨g', 0, none⟩) vs.length c') ∧ Hid (RowN w' B g' c' vs) ∧ (g' = g ∨ w.heap.size ≤ g')) ∧ Hid (Kept1 w w' g)
  | 0, _, _, _, _, _, _, _, _, h, _, _, _, _, _, _, _, _ => absurd h (Nat.not_lt_zero _)
  | n + 1, i, f, B, g, c, us, vs, w, hin, hi, hf, hus, hvs, hw, hb, hB, hrow => by
    obtain ⟨i0, hi0, hz0, hz1, hz2⟩ := info_parts' infoN
    have HI := hide hi0
    have HZ := hide (And.intro hz0 (And.intro hz1 hz2))
    clear hi0 hz0 hz1 hz2
    obtain ⟨h0, h1, h2, h3⟩ := hw i hi
    have IH := hide (l3Erased_any b off cap xs hm n)
    have HW := hide hw
    have HR := hide hrow
    have hg := hrow.lt
    have hiI : (i : Int) < (xs.length : Int) := by omega
    have hul : us.length ≤ 20000 := by
      have a1 := cnt_le xs f
      have a2 := frS_le (unhide hf)
      rw [unhide hus, er_len]; omega
    clear hw hrow
    rcases frS_some (unhide hf) with ⟨hk, ha, hbb, hfi⟩ | ⟨hk, h1i, ha, hbb, hf1⟩ | ⟨hk, h1i, hbb, f2, hf2, h2f, ha, hf1⟩
    · have HK := hide hk
      have h6 : ((atN xs i).k == 6) = false := by
        rw [beq_eq_false_iff_ne]; intro e; rw [e] at hk; simp [kids] at hk
      have HV := hide (show vs = us ++ [⟨(atN xs i).k, (atN xs i).t, 0, 0⟩] by
        rw [unhide hvs, unhide hus, hfi, er_other (by simpa using h6)]
        simp [erN, hk])
      clear hk ha hbb hfi
      go_enter Tryz.func120, Tryz.ntmps120
      go_wp2_with (first | (go_at_call 60; refine (l3Kids_is (unhide HK) 0 rfl _).mono ?_; rintro e w' ⟨rfl, rfl⟩) | (at_builtin; refine wpList_append_own_at _ rfl (.tmp 52) (.tmp 54) 26 rfl B 115 i0 _ 4 40 Tryz.underlying26 (unhide HI) (unhide HZ).1 (unhide HZ).2.1 (unhide HZ).2.2 rfl (by decide) _ us.length (cellsN us) rfl ((((unhide HR).below (below1 _ _)).below (below1 _ _)).below (below1 _ _)) ⟨w.heap.size + 1 + 1, 0, none⟩ 1 1 (cellsN [⟨(atN xs i).k, (atN xs i).t, 0, 0⟩]) rfl rfl (by simpa using new_newsN ((w.alloc _).alloc _) ⟨(atN xs i).k, (atN xs i).t, 0, 0⟩) (cellsN_one' _) ?b1 ?b2 ?b3 ?next))
      case b1 => unfold maxLen; omega
      case b2 => omega
      case b3 => simp; omega
      case next =>
        intro v4 w4 hown4 hgrow4 hnil4 hat4
        obtain ⟨g4, c4, rfl, hr4⟩ := RowN.snoc hown4 (by simp [hnil4]) (unhide HV)
        have HR4 := hide hr4
        have HKp := hide (((Kept1.of_below (g := g) (((below1 _ _).alloc (by simp) _).alloc (by simp; omega) _))).grownRow hgrow4 (fun k hk => by simp [Value.ownBlock] at hk; omega))
        have hgg : g4 = g ∨ w.heap.size ≤ g4 := by simp [Value.ownBlock] at hat4; omega
        clear hown4 hgrow4 hnil4 hr4 hat4
        go_wp2_with fail
        go_ret
        exact ⟨⟨g4, c4, rfl, HR4, hgg⟩, HKp⟩
    · have HK := hide hk
      have ei : (i : Int) - 1 = ((i - 1 : Nat) : Int) := by omega
      rw [ha, ei] at h2
      have hii : i - 1 + 1 = i := by omega
      by_cases h6 : (atN xs i).k = 6
      · have HVS := hide (show vs = er xs (i - 1 + 1) by rw [unhide hvs, er_group h6, hii])
        rw [h6] at h0
        clear hk ha hbb h6
        go_enter Tryz.func120, Tryz.ntmps120
        go_wp2_with fail
        refine ((unhide IH) (i - 1) f B g c us vs _ (by omega) (by omega) (hide hf1) hus HVS ((unhide HW).below (below1 _ _) (by omega)) hb (by simp; omega) ((unhide HR).below (below1 _ _))).mono ?_
        rintro e w1 ⟨⟨g1, c1, rfl, hr1, hg1⟩, hk1⟩
        have hk1' := hide ((Kept1.of_below (g := g) (below1 _ _)).trans (unhide hk1))
        have hg1' : g1 = g ∨ w.heap.size ≤ g1 := by simp at hg1; omega
        go_wp2_with fail
        go_ret
        exact ⟨⟨g1, c1, rfl, hr1, hg1'⟩, hk1'⟩
      · have h6' : ((atN xs i).k == 6) = false := by simpa using h6
        obtain ⟨us1, HU1⟩ : ∃ us1, Hid (us1 = er xs (i - 1 + 1)) := ⟨_, hide rfl⟩
        have hl1 : us1.length ≤ 20000 := by
          have := cnt_le xs (i - 1 + 1)
          rw [unhide HU1, er_len]; omega
        obtain ⟨nd, HND⟩ : ∃ nd : NodeR, Hid (nd = ⟨(atN xs i).k, (atN xs i).t, (us1.length : Int) - 1, 0⟩) := ⟨_, hide rfl⟩
        have HVS := hide (show vs = us1 ++ [nd] by
          rw [unhide hvs, er_other h6, unhide HND, unhide HU1, er_len, hii]
          congr 2
          unfold erN mvd
          rw [hk, ha]
          have : ((i : Int) - 1).toNat + 1 = i := by omega
          rw [this]
          simp)
        clear hk ha hbb h6
        go_enter Tryz.func120, Tryz.ntmps120
        go_wp2_with (go_at_call 60; refine (l3Kids_is (unhide HK) 1 rfl _).mono ?_; rintro e w' ⟨rfl, rfl⟩)
        refine ((unhide IH) (i - 1) f B g c us us1 _ (by omega) (by omega) (hide hf1) hus HU1 ((unhide HW).below ((below1 _ _).alloc (by simp) _) (by omega)) hb (by simp; omega) (((unhide HR).below (below1 _ _)).below (below1 _ _))).mono ?_
        rintro e w1 ⟨⟨g1, c1, rfl, hr1, hg1⟩, hk1⟩
        have hg1l := (unhide hr1).lt
        have hsz1 : w.heap.size + 2 ≤ w1.heap.size := by have := (unhide hk1).size; simp at this; omega
        have hg1' : g1 = g ∨ w.heap.size + 2 ≤ g1 := by simp at hg1; omega
        have p0 : w1.cell? ⟨w.heap.size, 0, none⟩ = some (.int .i64 (atN xs i).k) := ((unhide hk1).cell (b := w.heap.size) (by simp; omega) (by omega) 0).trans (by simp [go_sem])
        have q0 : w1.cell? ⟨w.heap.size + 1, 0, none⟩ = some (.int .i64 (atN xs i).k) := ((unhide hk1).cell (b := w.heap.size + 1) (by simp) (by omega) 0).trans (by simp [go_sem])
        have q1 : w1.cell? ⟨w.heap.size + 1, 1, none⟩ = some (.string (atN xs i).t) := ((unhide hk1).cell (b := w.heap.size + 1) (by simp) (by omega) 1).trans (by simp [go_sem])
        have q2 : w1.cell? ⟨w.heap.size + 1, 2, none⟩ = some (.int .i64 0) := ((unhide hk1).cell (b := w.heap.size + 1) (by simp) (by omega) 2).trans (by simp [go_sem])
        have q3 : w1.cell? ⟨w.heap.size + 1, 3, none⟩ = some (.int .i64 0) := ((unhide hk1).cell (b := w.heap.size + 1) (by simp) (by omega) 3).trans (by simp [go_sem])
        have r2 : w1.frozen? ⟨w.heap.size + 1, 2, none⟩ = false := ((unhide hk1).frozen (b := w.heap.size + 1) (by simp) (by omega) 2).trans (by simp [go_sem])
        have HKA := hide ((Kept1.of_below (g := g) ((below1 w _).alloc (by simp) _)).trans (unhide hk1))
        clear hk1
        have ST := hide (show RowN ((w1.setCell ⟨w.heap.size + 1, 2, none⟩ (.int .i64 ((us1.length : Int) - 1))).alloc (.cells #[.int .i64 nd.k, .string nd.t, .int .i64 nd.a, .int .i64 nd.b] 115)) B g1 c1 us1 from ((unhide hr1).set _ _ _ (by omega)).below (below1 _ _))
        have NW := hide (new_newsAt (w1.setCell ⟨w.heap.size + 1, 2, none⟩ (.int .i64 ((us1.length : Int) - 1))) w1.heap.size nd (by simp [World.setCell]))
        rw [unhide HND] at ST NW
        simp only at ST NW
        go_wp2_with (first | (go_at_call 60; refine (l3Kids_is (unhide HK) 1 rfl _).mono ?_; rintro e w' ⟨rfl, rfl⟩) | (at_builtin; refine wpList_append_own_at _ rfl (.tmp 52) (.tmp 54) 26 rfl B 115 i0 _ 4 40 Tryz.underlying26 (unhide HI) (unhide HZ).1 (unhide HZ).2.1 (unhide HZ).2.2 rfl (by decide) _ us1.length (cellsN us1) rfl (unhide ST) ⟨w1.heap.size, 0, none⟩ 1 1 (cellsN [nd]) rfl rfl (by rw [unhide HND]; exact unhide NW) (cellsN_one' _) ?b1 ?b2 ?b3 ?next))
        case b1 => unfold maxLen; omega
        case b2 => omega
        case b3 => simp; omega
        case next =>
          intro v4 w4 hown4 hgrow4 hnil4 hat4
          obtain ⟨g4, c4, rfl, hr4⟩ := RowN.snoc hown4 (by simp [hnil4]) (unhide HVS)
          have HR4 := hide hr4
          have HKp := hide ((((unhide HKA).setRow (w.heap.size + 1) 2 (.int .i64 ((us1.length : Int) - 1)) (by omega)).trans (Kept1.of_below (below1 _ _))).grownRow hgrow4 (fun k hk => by simp [Value.ownBlock] at hk; omega))
          have hgg : g4 = g ∨ w.heap.size ≤ g4 := by simp [Value.ownBlock] at hat4; omega
          clear hown4 hgrow4 hnil4 hr4 hat4
          go_wp2_with fail
          go_ret
          exact ⟨⟨g4, c4, rfl, HR4, hgg⟩, HKp⟩
    · have HK := hide hk
      have ei : (i : Int) - 1 = ((i - 1 : Nat) : Int) := by omega
      have ef : (f2 : Int) - 1 = ((f2 - 1 : Nat) : Int) := by omega
      rw [ha, ef] at h2
      rw [hbb, ei] at h3
      have hle := frS_le hf2
      have hii : i - 1 + 1 = i := by omega
      have hff : f2 - 1 + 1 = f2 := by omega
      have h6 : (atN xs i).k ≠ 6 := fun e => by rw [e] at hk; simp [kids] at hk
      have h6' : ((atN xs i).k == 6) = false := by simpa using h6
      obtain ⟨us1, HU1⟩ : ∃ us1, Hid (us1 = er xs (f2 - 1 + 1)) := ⟨_, hide rfl⟩
      obtain ⟨us2, HU2⟩ : ∃ us2, Hid (us2 = er xs (i - 1 + 1)) := ⟨_, hide rfl⟩
      have hl1 : us1.length ≤ 20000 := by
        have := cnt_le xs (f2 - 1 + 1)
        rw [unhide HU1, er_len]; omega
      have hl2 : us2.length ≤ 20000 := by
        have := cnt_le xs (i - 1 + 1)
        rw [unhide HU2, er_len]; omega
      obtain ⟨nd, HND⟩ : ∃ nd : NodeR, Hid (nd = ⟨(atN xs i).k, (atN xs i).t, (us1.length : Int) - 1, (us2.length : Int) - 1⟩) := ⟨_, hide rfl⟩
      have HVS := hide (show vs = us2 ++ [nd] by
        rw [unhide hvs, er_other h6, unhide HND, unhide HU1, unhide HU2, er_len, er_len, hii, hff]
        congr 2
        unfold erN mvd
        rw [hk, ha, hbb]
        have e1 : ((i : Int) - 1).toNat + 1 = i := by omega
        have e2 : ((f2 : Int) - 1).toNat + 1 = f2 := by omega
        rw [e1, e2]
        simp)
      have HU1' := hide (show us1 = er xs f2 by rw [unhide HU1, hff])
      clear hk ha hbb h6
      go_enter Tryz.func120, Tryz.ntmps120
      go_wp2_with (go_at_call 60; refine (l3Kids_is (unhide HK) 2 rfl _).mono ?_; rintro e w' ⟨rfl, rfl⟩)
      refine ((unhide IH) (f2 - 1) f B g c us us1 _ (by omega) (by omega) (hide hf1) hus HU1 ((unhide HW).below ((below1 _ _).alloc (by simp) _) (by omega)) hb (by simp; omega) (((unhide HR).below (below1 _ _)).below (below1 _ _))).mono ?_
      rintro e w1 ⟨⟨g1, c1, rfl, hr1, hg1⟩, hk1⟩
      have hg1l := (unhide hr1).lt
      have hsz1 : w.heap.size + 2 ≤ w1.heap.size := by have := (unhide hk1).size; simp at this; omega
      have hg1' : g1 = g ∨ w.heap.size + 2 ≤ g1 := by simp at hg1; omega
      have p0 : w1.cell? ⟨w.heap.size, 0, none⟩ = some (.int .i64 (atN xs i).k) := ((unhide hk1).cell (b := w.heap.size) (by simp; omega) (by omega) 0).trans (by simp [go_sem])
      have p3 : w1.cell? ⟨w.heap.size, 3, none⟩ = some (.int .i64 ((i - 1 : Nat) : Int)) := ((unhide hk1).cell (b := w.heap.size) (by simp; omega) (by omega) 3).trans (by simp [go_sem])
      have q0 : w1.cell? ⟨w.heap.size + 1, 0, none⟩ = some (.int .i64 (atN xs i).k) := ((unhide hk1).cell (b := w.heap.size + 1) (by simp) (by omega) 0).trans (by simp [go_sem])
      have q1 : w1.cell? ⟨w.heap.size + 1, 1, none⟩ = some (.string (atN xs i).t) := ((unhide hk1).cell (b := w.heap.size + 1) (by simp) (by omega) 1).trans (by simp [go_sem])
      have q2 : w1.cell? ⟨w.heap.size + 1, 2, none⟩ = some (.int .i64 0) := ((unhide hk1).cell (b := w.heap.size + 1) (by simp) (by omega) 2).trans (by simp [go_sem])
      have q3 : w1.cell? ⟨w.heap.size + 1, 3, none⟩ = some (.int .i64 0) := ((unhide hk1).cell (b := w.heap.size + 1) (by simp) (by omega) 3).trans (by simp [go_sem])
      have r2 : w1.frozen? ⟨w.heap.size + 1, 2, none⟩ = false := ((unhide hk1).frozen (b := w.heap.size + 1) (by simp) (by omega) 2).trans (by simp [go_sem])
      have r3 : w1.frozen? ⟨w.heap.size + 1, 3, none⟩ = false := ((unhide hk1).frozen (b := w.heap.size + 1) (by simp) (by omega) 3).trans (by simp [go_sem])
      have HKA := hide ((Kept1.of_below (g := g) ((below1 w _).alloc (by simp) _)).trans (unhide hk1))
      clear hk1
      go_wp2_with (go_at_call 60; refine (l3Kids_is (unhide HK) 2 rfl _).mono ?_; rintro e w' ⟨rfl, rfl⟩)
      have HKB := hide ((unhide HKA).setRow (w.heap.size + 1) 2 (.int .i64 ((us1.length : Int) - 1)) (Or.inr (by omega)))
      refine ((unhide IH) (i - 1) f2 B g1 c1 us1 us2 _ (by omega) (by omega) (hide hf2) HU1' HU2 (fun j hj => ?_) hb (by simp [World.setCell]; omega) ((unhide hr1).set _ _ _ (by omega))).mono ?_
      · have e := (unhide HKB).cell (b := b) (by omega) (by omega)
        obtain ⟨a0, a1, a2, a3⟩ := (unhide HW) j hj
        exact ⟨(e _).trans a0, (e _).trans a1, (e _).trans a2, (e _).trans a3⟩
      rintro e w2 ⟨⟨g2, c2, rfl, hr2, hg2⟩, hk2⟩
      have hg2l := (unhide hr2).lt
      have hsz2 : w1.heap.size ≤ w2.heap.size := by have := (unhide hk2).size; simpa [World.setCell] using this
      have hg2' : g2 = g1 ∨ w1.heap.size ≤ g2 := by simpa [World.setCell] using hg2
      have sc : ∀ o, (w1.setCell ⟨w.heap.size + 1, 2, none⟩ (.int .i64 ((us1.length : Int) - 1))).heap.size = w1.heap.size ∧ (o ≠ 2 → (w1.setCell ⟨w.heap.size + 1, 2, none⟩ (.int .i64 ((us1.length : Int) - 1))).cell? ⟨w.heap.size + 1, o, none⟩ = w1.cell? ⟨w.heap.size + 1, o, none⟩) := fun o => ⟨by simp [World.setCell], fun ho => World.cell?_setCell_other _ _ _ _ (fun e => ho (by injection e with _ e; exact e.symm))⟩
      have s0 : w2.cell? ⟨w.heap.size + 1, 0, none⟩ = some (.int .i64 (atN xs i).k) := ((unhide hk2).cell (b := w.heap.size + 1) (by rw [(sc 0).1]; omega) (by omega) 0).trans (((sc 0).2 (by omega)).trans q0)
      have s1 : w2.cell? ⟨w.heap.size + 1, 1, none⟩ = some (.string (atN xs i).t) := ((unhide hk2).cell (b := w.heap.size + 1) (by rw [(sc 0).1]; omega) (by omega) 1).trans (((sc 1).2 (by omega)).trans q1)
      have s2 : w2.cell? ⟨w.heap.size + 1, 2, none⟩ = some (.int .i64 ((us1.length : Int) - 1)) := ((unhide hk2).cell (b := w.heap.size + 1) (by rw [(sc 0).1]; omega) (by omega) 2).trans (World.cell?_setCell_same _ _ _ q2)
      have s3 : w2.cell? ⟨w.heap.size + 1, 3, none⟩ = some (.int .i64 0) := ((unhide hk2).cell (b := w.heap.size + 1) (by rw [(sc 0).1]; omega) (by omega) 3).trans (((sc 3).2 (by omega)).trans q3)
      have t3 : w2.frozen? ⟨w.heap.size + 1, 3, none⟩ = false := ((unhide hk2).frozen (b := w.heap.size + 1) (by rw [(sc 0).1]; omega) (by omega) 3).trans ((World.frozen?_setCell _ _ _ _).trans r3)
      have HKC := hide ((unhide HKB).grownRow (grown_kept1 (unhide hk2)) (fun k hk => by injection hk with hk; subst hk; omega))
      clear hk2 sc p0 p3 q0 q1 q2 q3 r2 r3 HKA HKB hr1
      have ST := hide (show RowN ((w2.setCell ⟨w.heap.size + 1, 3, none⟩ (.int .i64 ((us2.length : Int) - 1))).alloc (.cells #[.int .i64 nd.k, .string nd.t, .int .i64 nd.a, .int .i64 nd.b] 115)) B g2 c2 us2 from ((unhide hr2).set _ _ _ (by omega)).below (below1 _ _))
      have NW := hide (new_newsAt (w2.setCell ⟨w.heap.size + 1, 3, none⟩ (.int .i64 ((us2.length : Int) - 1))) w2.heap.size nd (by simp [World.setCell]))
      rw [unhide HND] at ST NW
      simp only at ST NW
      go_wp2_with (at_builtin; refine wpList_append_own_at _ rfl (.tmp 52) (.tmp 54) 26 rfl B 115 i0 _ 4 40 Tryz.underlying26 (unhide HI) (unhide HZ).1 (unhide HZ).2.1 (unhide HZ).2.2 rfl (by decide) _ us2.length (cellsN us2) rfl (unhide ST) ⟨w2.heap.size, 0, none⟩ 1 1 (cellsN [nd]) rfl rfl (by rw [unhide HND]; exact unhide NW) (cellsN_one' _) ?b1 ?b2 ?b3 ?next)
      case b1 => unfold maxLen; omega
      case b2 => omega
      case b3 => simp; omega
      case next =>
        intro v4 w4 hown4 hgrow4 hnil4 hat4
        obtain ⟨g4, c4, rfl, hr4⟩ := RowN.snoc hown4 (by simp [hnil4]) (unhide HVS)
        have HR4 := hide hr4
        have HKp := hide ((((unhide HKC).setRow (w.heap.size + 1) 3 (.int .i64 ((us2.length : Int) - 1)) (by omega)).trans (Kept1.of_below (below1 _ _))).grownRow hgrow4 (fun k hk => by simp [Value.ownBlock] at hk; omega))
        have hgg : g4 = g ∨ w.heap.size ≤ g4 := by simp [Value.ownBlock] at hat4; omega
        clear hown4 hgrow4 hnil4 hr4 hat4
        go_wp2_with fail
        go_ret
        exact ⟨⟨g4, c4, rfl, HR4, hgg⟩, HKp⟩

set_option maxHeartbeats 4000000 in
theorem specErase_any (b off cap : Nat) (xs : List NodeR) (w : World) (hm : xs.length ≤ 1048576) (hw : OpsN w b off xs) (hs : SizedN xs) (hB : b < w.heap.size) :
    Calls Tryz.prog 80 #[.agg #[.slice (some ⟨b, off, none⟩) xs.length cap]] w fun e w' => (∃ (a : Option Addr) (c : Nat) (us : List NodeR) (v : Bool), e = .returned (.tuple #[.agg #[.slice a us.length c], .bool v]) ∧ Hid (OwnedN w' w.heap.size a us) ∧ Hid (EraseIs xs us v)) ∧ Below w.heap.size w w' := by
  have HW := hide hw
  have HS := hide hs
  clear hw hs
  go_enter Tryz.func80, Tryz.ntmps80
  go_wp2_with fail
  refine (l3InOrder_any b off cap xs _ hm ((unhide HW).below ((below1 _ _).alloc (by simp) _) hB) (unhide HS) (by simp; omega)).mono ?_
  rintro e w1 ⟨⟨v, rfl, hv⟩, hb1⟩
  have HV := hide hv
  have bel1 : Below w.heap.size w w1 := ((below1 _ _).alloc (by simp) _).trans (hb1.mono (by simp; omega))
  have z1 : w.heap.size + 2 ≤ w1.heap.size := by have := hb1.size; simp at this; omega
  have c0 : w1.cell? ⟨w.heap.size, 0, none⟩ = some (.slice (some ⟨b, off, none⟩) xs.length cap) := (hb1.cell (p := ⟨w.heap.size, 0, none⟩) (by simp; omega)).trans (by simp [go_sem])
  have c1 : w1.cell? ⟨w.heap.size + 1, 0, none⟩ = some (.slice none 0 0) := (hb1.cell (p := ⟨w.heap.size + 1, 0, none⟩) (by simp)).trans (by simp [go_sem])
  have d1 : w1.frozen? ⟨w.heap.size + 1, 0, none⟩ = false := (hb1.frozen (p := ⟨w.heap.size + 1, 0, none⟩) (by simp)).trans (by simp [go_sem])
  clear hv hb1
  cases v
  · go_wp2_with fail
    refine bodyPost_ret (v := .tuple #[.agg #[.slice none 0 0], .bool false]) ?res rfl ⟨⟨none, 0, [], false, rfl, hide (Or.inl ⟨rfl, rfl⟩), hide (Or.inr ⟨fun h => Bool.false_ne_true ((unhide HV).2 h), rfl, rfl⟩)⟩, ?_⟩
    case res => simp [results, Tryz.results80, go_sem, c1]
    exact bel1.setCell (by simp) _
  · have HO := hide ((unhide HV).1 rfl)
    have h20 := (unhide HO).2.1
    have h1 := (unhide HO).1
    have ei : (xs.length : Int) - 1 = ((xs.length - 1 : Nat) : Int) := by omega
    have hii : xs.length - 1 + 1 = xs.length := by omega
    obtain ⟨vs, HVS⟩ : ∃ vs, Hid (vs = er xs (xs.length - 1 + 1)) := ⟨_, hide rfl⟩
    have HR0 := hide (show RowN (w1.alloc (.cells #[] 115)) w1.heap.size w1.heap.size 0 [] by
      have := World.ownsRow_lit (base := w1.heap.size) (e := 115) (size := 4) w1 #[] 0 (Nat.le_refl _) (Nat.zero_le _) rfl
      simpa [RowN, cellsN] using this)
    go_wp2_with fail
    refine (l3Erased_any b off cap xs h20 xs.length (xs.length - 1) 0 w1.heap.size w1.heap.size 0 [] vs _ (by omega) (by omega) (hide (unhide HO).2.2.1) (hide rfl) HVS ((unhide HW).below (bel1.trans ((below1 _ _).mono bel1.size)) hB) (by omega) (by simp) (unhide HR0)).mono ?_
    rintro e w2 ⟨⟨g2, c2, rfl, hr2, hg2⟩, hk2⟩
    have hg2l := (unhide hr2).lt
    have z2 : w1.heap.size < w2.heap.size := by have := (unhide hk2).size; simp at this; omega
    have e1 : w2.cell? ⟨w.heap.size + 1, 0, none⟩ = some (.slice none 0 0) := ((unhide hk2).cell (b := w.heap.size + 1) (by simp; omega) (by omega) 0).trans (((below1 _ _).cell (p := ⟨w.heap.size + 1, 0, none⟩) (show w.heap.size + 1 < w1.heap.size by omega)).trans c1)
    have f1 : w2.frozen? ⟨w.heap.size + 1, 0, none⟩ = false := ((unhide hk2).frozen (b := w.heap.size + 1) (by simp; omega) (by omega) 0).trans (((below1 _ _).frozen (p := ⟨w.heap.size + 1, 0, none⟩) (show w.heap.size + 1 < w1.heap.size by omega)).trans d1)
    have bel2 : Below w.heap.size w w2 := (bel1.trans ((below1 _ _).mono bel1.size)).trans ((unhide hk2).below (by simp; omega) (by omega))
    clear c0 c1 d1 hk2 HR0
    go_wp2_with fail
    refine bodyPost_ret (v := .tuple #[.agg #[.slice (some ⟨g2, 0, none⟩) vs.length c2], .bool true]) ?res rfl ⟨⟨some ⟨g2, 0, none⟩, c2, vs, true, rfl, hide (Or.inr ⟨g2, rfl, by omega, ?_⟩), hide (Or.inl ⟨unhide HO, rfl, by rw [unhide HVS, hii]⟩)⟩, ?_⟩
    case res => simp [results, Tryz.results80, go_sem, e1]
    · exact (owns_filledN (unhide hr2)).2.setCell _ _ _ (by omega)
    · exact bel2.setCell (by simp) _
end Go.Proofs.YtokabkhnidlcnabGreat

/-
  Walk: the inner tree of a row of nodes (exprOf).
-/
namespace Go.Proofs.YtokabkhnidlcnabGreat
set_option maxRecDepth 100000
set_option linter.unusedSimpArgs false
set_option linter.unusedVariables false
open Go.RowKit Go.Maps

theorem exprOver_any (bo bs : Nat) (ns : List OpR) (o : NodeR) (T T' : TypeId) (u u' : Value) (w : World) (hi : Idx w bo bs ns ns.length) (hc : IsCode ns 0) (hok : okTo ns ns.length) (ht : o.t.size ≤ maxLen) (hk : TxtOk o) (hkn : isOpN o → fnd ns o.t (o.k - 2) ≠ none) :
    Calls Tryz.prog 124 #[.agg #[.map (some bo), .map (some bs)], .agg #[.int .i64 o.k, .string o.t, .int .i64 o.a, .int .i64 o.b], .iface T u, .iface T' u'] w fun x w' => x = .returned (exN (opA ns o) o (.iface T u) (.iface T' u')) ∧ Below w.heap.size w w' := by
  rcases hk.2 with ⟨h, _⟩ | ⟨h, _⟩ | ⟨h, _⟩ | ⟨h | h | h, _⟩
  · exact exprOver_leaf bo bs ns o _ _ w hi hc hok ht (Or.inl h)
  · exact exprOver_leaf bo bs ns o _ _ w hi hc hok ht (Or.inr h)
  · exact exprOver_one bo bs ns o _ _ _ w hi hc hok ht (Or.inr (Or.inr h)) hkn
  · exact exprOver_one bo bs ns o _ _ _ w hi hc hok ht (Or.inl h) hkn
  · exact exprOver_two bo bs ns o _ _ _ _ w hi hc hok ht h hkn
  · exact exprOver_one bo bs ns o _ _ _ w hi hc hok ht (Or.inr (Or.inl h)) hkn

/-- The row 'made' when k nodes are done. -/
def ExS (w : World) (g : Nat) (ns : List OpR) (xs : List NodeR) (k : Nat) : Prop := g < w.heap.size ∧ ∀ j, j < xs.length → w.cell? ⟨g, j, none⟩ = some ((exL ns xs k).getD j .nilIface) ∧ w.frozen? ⟨g, j, none⟩ = false

theorem ExS.below {w w' : World} {g k : Nat} {ns : List OpR} {xs : List NodeR} (h : ExS w g ns xs k) (hb : Below w.heap.size w w') : ExS w' g ns xs k :=
  ⟨Nat.lt_of_lt_of_le h.1 hb.size, fun j hj => ⟨(hb.cell (p := ⟨g, j, none⟩) h.1).trans (h.2 j hj).1, (hb.frozen (p := ⟨g, j, none⟩) h.1).trans (h.2 j hj).2⟩⟩

theorem ExS.set {w : World} {g k : Nat} {ns : List OpR} {xs : List NodeR} (h : ExS w g ns xs k) (hk : k < xs.length) {v : Value} (hv : v = exS ns xs k) : ExS (w.setCell ⟨g, k, none⟩ v) g ns xs (k + 1) := by
  refine ⟨by simpa [World.setCell] using h.1, fun j hj => ⟨?_, (World.frozen?_setCell _ _ _ _).trans (h.2 j hj).2⟩⟩
  by_cases e : j = k
  · subst e
    rw [World.cell?_setCell_same _ _ _ (h.2 j hj).1, hv]
    rfl
  · rw [World.cell?_setCell_other _ _ _ _ (fun x => e (by injection x with _ x; exact x.symm)), (h.2 j hj).1]
    have hl := exL_len ns xs k
    congr 1
    show _ = (exL ns xs k ++ [_]).getD j .nilIface
    simp only [List.getD, List.getElem?_append, hl]
    by_cases h1 : j < k
    · rw [if_pos h1]
    · rw [if_neg h1, List.getElem?_eq_none (by omega), List.getElem?_eq_none (by simp; omega)]

theorem infoX : (Tryz.prog.info? 92).map (fun i => (i.zero, i.size, i.bytes)) = some (some .nilIface, 1, 16) := by kernel_rfl

theorem made_ex (W : World) (n j : Nat) (hj : j < n) : (W.alloc (.cells (madeCells #[.nilIface] n) 92)).cell? ⟨W.heap.size, j, none⟩ = some .nilIface ∧ (W.alloc (.cells (madeCells #[.nilIface] n) 92)).frozen? ⟨W.heap.size, j, none⟩ = false := by
  have hb : (W.alloc (.cells (madeCells #[.nilIface] n) 92)).heap[W.heap.size]? = some (.cells (madeCells #[.nilIface] n) 92 (0, 0)) := heap_alloc_new W _
  refine ⟨?_, frozen_of_row _ _ _ _ _ hb⟩
  rw [cell_of_row _ W.heap.size j _ 92 (0, 0) hb]
  simp [madeCells, hj, Nat.mod_one]

/-- The kids of a node behind the first one, as places before it. -/
theorem kid_places {xs : List NodeR} (h : InOrd xs) {k : Nat} (hk : k < xs.length) (h1 : 1 ≤ k) : ∃ ja jb : Nat, (atN xs k).a = (ja : Int) ∧ (atN xs k).b = (jb : Int) ∧ ja < k ∧ jb < k := by
  rcases h.kidsAt hk with ⟨h0, ha, hb⟩ | ⟨_, h2, ha, hb⟩ | ⟨_, h2, hb, ha0, ha1⟩
  · exact ⟨0, 0, ha, hb, h1, h1⟩
  · exact ⟨k - 1, 0, by omega, hb, by omega, by omega⟩
  · exact ⟨(atN xs k).a.toNat, k - 1, by omega, by omega, by omega, by omega⟩

/-- What a round of the loop reads. -/
def EO (w : World) (X N g ja jb bo bs : Nat) (o : NodeR) (ea eb : Value) : Prop :=
  w.cell? ⟨X, 0, none⟩ = some (.map (some bo)) ∧ w.cell? ⟨X, 1, none⟩ = some (.map (some bs)) ∧ w.cell? ⟨N, 0, none⟩ = some (.int .i64 o.k) ∧ w.cell? ⟨N, 1, none⟩ = some (.string o.t) ∧ w.cell? ⟨N, 2, none⟩ = some (.int .i64 o.a) ∧ w.cell? ⟨N, 3, none⟩ = some (.int .i64 o.b) ∧ w.cell? ⟨g, ja, none⟩ = some ea ∧ w.cell? ⟨g, jb, none⟩ = some eb

theorem EO.below {w w' : World} {X N g ja jb bo bs : Nat} {o : NodeR} {ea eb : Value} (h : EO w X N g ja jb bo bs o ea eb) (hb : Below w.heap.size w w') : EO w' X N g ja jb bo bs o ea eb := by
  have c : ∀ {b o' : Nat} {v : Value}, w.cell? ⟨b, o', none⟩ = some v → w'.cell? ⟨b, o', none⟩ = some v := fun h => (hb.cell (p := ⟨_, _, none⟩) (block_lt_of_cell h)).trans h
  obtain ⟨h0, h1, h2, h3, h4, h5, h6, h7⟩ := h
  exact ⟨c h0, c h1, c h2, c h3, c h4, c h5, c h6, c h7⟩

theorem EO.set {w : World} {X N g ja jb bo bs k : Nat} {o : NodeR} {ea eb : Value} (h : EO w X N g ja jb bo bs o ea eb) (hX : X ≠ g) (hN : N ≠ g) (ha : ja ≠ k) (hb : jb ≠ k) (v : Value) : EO (w.setCell ⟨g, k, none⟩ v) X N g ja jb bo bs o ea eb := by
  have c : ∀ {b o' : Nat} {u : Value}, (b ≠ g ∨ o' ≠ k) → w.cell? ⟨b, o', none⟩ = some u → (w.setCell ⟨g, k, none⟩ v).cell? ⟨b, o', none⟩ = some u := fun hne h => (World.cell?_setCell_other _ _ _ _ (fun x => by
    injection x with x1 x2
    rcases hne with h | h
    · exact h x1.symm
    · exact h x2.symm)).trans h
  obtain ⟨h0, h1, h2, h3, h4, h5, h6, h7⟩ := h
  exact ⟨c (Or.inl hX) h0, c (Or.inl hX) h1, c (Or.inl hN) h2, c (Or.inl hN) h3, c (Or.inl hN) h4, c (Or.inl hN) h5, c (Or.inr ha) h6, c (Or.inr hb) h7⟩

set_option maxHeartbeats 600000 in
theorem exprOf_any (bo bs bn offn cn : Nat) (ns : List OpR) (xs : List NodeR) (w : World) (hi : Idx w bo bs ns ns.length) (hc : IsCode ns 0) (hok : okTo ns ns.length) (hwn : OpsN w bn offn xs) (hsn : SizedN xs) (hBn : bn < w.heap.size) (hord : InOrd xs) (hkn : Knows ns xs) :
    Calls Tryz.prog 86 #[.agg #[.map (some bo), .map (some bs)], .agg #[.slice (some ⟨bn, offn, none⟩) xs.length cn]] w fun x w' => x = .returned (exS ns xs (xs.length - 1)) ∧ Below w.heap.size w w' := by
  have HI := hide hi
  have HC := hide hc
  have HOK := hide hok
  have HWN := hide hwn
  have HZN := hide hsn
  have HO := hide hord
  have HKN := hide hkn
  have hl1 := hord.1
  have hl2 := hord.2.1
  obtain ⟨iX, hiX, hzX0, hzX1, hzX2⟩ := info_parts' infoX
  have hmk : ∀ W : World, (Instr.makeSlice 206 (.int .i64 (xs.length : Int)) (.int .i64 (xs.length : Int))).run Tryz.prog W = .ok (.slice (some ⟨W.heap.size, 0, none⟩) xs.length xs.length) (W.alloc (.cells (madeCells #[.nilIface] xs.length) 92)) := by
    intro W
    have := run_make (P := Tryz.prog) W 206 92 iX _ Tryz.underlying206 hiX hzX0 .i64 .i64 xs.length xs.length (by omega) (Int.le_refl _) (by rw [hzX2]; omega) (by omega)
    simpa [hzX1, Value.cells] using this
  clear hi hc hok hwn hsn hord hkn hiX hzX0 hzX1 hzX2
  obtain ⟨W1, HW1⟩ : ∃ W1, Hid (W1 = ((w.alloc (.cells #[.map (some bo), .map (some bs)] 70)).alloc (.cells #[.slice (some ⟨bn, offn, none⟩) xs.length cn] 28)).alloc (.cells (madeCells #[.nilIface] xs.length) 92)) := ⟨_, hide rfl⟩
  have hb1 : Below w.heap.size w W1 := by rw [unhide HW1]; exact ((below1 _ _).alloc (by simp) _).alloc (by simp; omega) _
  have hs1 : W1.heap.size = w.heap.size + 3 := by rw [unhide HW1]; simp
  have HEX := hide (show ExS W1 (w.heap.size + 1 + 1) ns xs 0 by
    rw [unhide HW1]
    refine ⟨by simp, fun j hj => ?_⟩
    have := made_ex ((w.alloc (.cells #[.map (some bo), .map (some bs)] 70)).alloc (.cells #[.slice (some ⟨bn, offn, none⟩) xs.length cn] 28)) xs.length j hj
    simpa [exL] using this)
  have X0 : W1.cell? ⟨w.heap.size, 0, none⟩ = some (.map (some bo)) := by rw [unhide HW1]; simp [go_sem]
  have X1 : W1.cell? ⟨w.heap.size, 1, none⟩ = some (.map (some bs)) := by rw [unhide HW1]; simp [go_sem]
  have HX := hide (And.intro X0 X1)
  have HT : W1.cell? ⟨w.heap.size + 1, 0, none⟩ = some (.slice (some ⟨bn, offn, none⟩) xs.length cn) := by rw [unhide HW1]; simp [go_sem]
  clear X0 X1
  go_enter Tryz.func86, Tryz.ntmps86
  go_wp2_with fail
  go_loopw [15] (fun iv wr => ∃ k : Nat, k ≤ xs.length ∧ iv = .int .i64 (k : Int) ∧ Hid (ExS wr (w.heap.size + 1 + 1) ns xs k) ∧ Hid (wr.cell? ⟨w.heap.size, 0, none⟩ = some (.map (some bo)) ∧ wr.cell? ⟨w.heap.size, 1, none⟩ = some (.map (some bs))) ∧ Below w.heap.size w wr ∧ w.heap.size + 3 ≤ wr.heap.size) (fun iv _ => xs.length - (intOf iv).toNat)
  case atStart =>
    rw [← unhide HW1]
    exact ⟨0, Nat.zero_le _, rfl, HEX, HX, hb1, by omega⟩
  case round =>
    clear HEX HX HT hs1 hb1 HW1 hmk
    obtain ⟨k, hk, rfl, hex, hx, hbel, hsz⟩ := hrel
    by_cases hlt : k < xs.length
    · have hltI : (k : Int) < (xs.length : Int) := by omega
      obtain ⟨a0, a1, a2, a3⟩ := ((unhide HWN) k hlt).below hbel hBn
      obtain ⟨m0, m1⟩ := (unhide hex).2 k hlt
      have bel1 : Below w.heap.size w (wr.alloc (.cells #[.int .i64 (atN xs k).k, .string (atN xs k).t, .int .i64 (atN xs k).a, .int .i64 (atN xs k).b] 115)).drew := (hbel.alloc hbel.size _).drew
      by_cases hk0 : k = 0
      · subst hk0
        have hk0 := (unhide HO).first
        obtain ⟨ha0, hb0⟩ : (atN xs 0).a = 0 ∧ (atN xs 0).b = 0 := by
          rcases (unhide HO).kidsAt (k := 0) (by omega) with ⟨_, ha, hb⟩ | ⟨_, h, _⟩ | ⟨_, h, _⟩
          · exact ⟨ha, hb⟩
          · omega
          · omega
        rw [ha0] at a2
        rw [hb0] at a3
        simp only [Nat.zero_mul, Nat.add_zero] at a0 a1 a2 a3
        have e0 : ((exL ns xs 0).getD 0 Value.nilIface) = .nilIface := rfl
        rw [e0] at m0
        obtain ⟨T, u, hTu⟩ := exN_iface (opA ns (atN xs 0)) (atN xs 0) .nilIface .nilIface
        have HRES := hide (show (Value.iface T u) = exS ns xs 0 by
          rw [exS_is, ← hTu]
          simp [exL])
        have hkk : (atN xs 0).k = 1 ∨ (atN xs 0).k = 2 := by
          rcases ((unhide HO).2.2.2 0 (by omega)).2 with ⟨h, _⟩ | ⟨h, _⟩ | ⟨h, _⟩ | ⟨h | h | h, _⟩
          · exact Or.inl h
          · exact Or.inr h
          all_goals (rw [h] at hk0; simp [kids] at hk0)
        have HCALL := hide (fun (W : World) (h1 : Idx W bo bs ns ns.length) => exprOver_leaf bo bs ns (atN xs 0) .nilIface .nilIface W h1 (unhide HC) (unhide HOK) ((unhide HZN) 0 hlt) hkk)
        rw [hTu, ha0, hb0] at HCALL
        have HEO := hide (show EO (wr.alloc (.cells #[.int .i64 (atN xs 0).k, .string (atN xs 0).t, .int .i64 0, .int .i64 0] 115)).drew w.heap.size wr.heap.size (w.heap.size + 1 + 1) 0 0 bo bs ⟨(atN xs 0).k, (atN xs 0).t, 0, 0⟩ .nilIface .nilIface from by
          have hb0 := below1 wr (.cells #[.int .i64 (atN xs 0).k, .string (atN xs 0).t, .int .i64 0, .int .i64 0] 115)
          refine EO.below (w := wr.alloc (.cells #[.int .i64 (atN xs 0).k, .string (atN xs 0).t, .int .i64 0, .int .i64 0] 115)) ?_ (Below.refl _ _).drew
          refine ⟨?_, ?_, by simp [go_sem], by simp [go_sem], by simp [go_sem], by simp [go_sem], ?_, ?_⟩
          · exact (hb0.cell (p := ⟨w.heap.size, 0, none⟩) (show w.heap.size < wr.heap.size by omega)).trans (unhide hx).1
          · exact (hb0.cell (p := ⟨w.heap.size, 1, none⟩) (show w.heap.size < wr.heap.size by omega)).trans (unhide hx).2
          · exact (hb0.cell (p := ⟨w.heap.size + 1 + 1, 0, none⟩) (show w.heap.size + 1 + 1 < wr.heap.size by omega)).trans m0
          · exact (hb0.cell (p := ⟨w.heap.size + 1 + 1, 0, none⟩) (show w.heap.size + 1 + 1 < wr.heap.size by omega)).trans m0)
        have HXC := hide (((unhide hex).below (below1 wr (.cells #[.int .i64 (atN xs 0).k, .string (atN xs 0).t, .int .i64 0, .int .i64 0] 115))).below (Below.refl _ _).drew)
        have HBC := hide (show Below w.heap.size w (wr.alloc (.cells #[.int .i64 (atN xs 0).k, .string (atN xs 0).t, .int .i64 0, .int .i64 0] 115)).drew from (hbel.alloc hbel.size _).drew)
        have HZC := hide (show wr.heap.size + 1 ≤ (wr.alloc (.cells #[.int .i64 (atN xs 0).k, .string (atN xs 0).t, .int .i64 0, .int .i64 0] 115)).drew.heap.size by simp)
        obtain ⟨q0, q1, q2, q3, q4, q5, q6, q7⟩ := unhide HEO
        clear hTu ha0 hb0 m0 m1 bel1 hkk hk0 e0
        go_wp2_with fail
        refine wp_region_held_drew (S := fun w' => w'.cell? ⟨w.heap.size, 0, none⟩ = some (.map (some bo)) ∧ w'.cell? ⟨w.heap.size, 1, none⟩ = some (.map (some bs)) ∧ w'.cell? ⟨wr.heap.size, 0, none⟩ = some (.int .i64 (atN xs 0).k) ∧ w'.cell? ⟨wr.heap.size, 1, none⟩ = some (.string (atN xs 0).t) ∧ w'.cell? ⟨wr.heap.size, 2, none⟩ = some (.int .i64 0) ∧ w'.cell? ⟨wr.heap.size, 3, none⟩ = some (.int .i64 0)) (by kernel_rfl) ⟨q0, q1, q2, q3, q4, q5⟩ (fun hHeld => ?_)
        refine wpAnyH_take (i := 0) (v := ?v0) rfl (by kernel_rfl) (by kernel_rfl) (by kernel_rfl) (fun _ _ _ h => h) (Or.inl ⟨by rfl, ?y0⟩) (by assumption) ?r0
        case y0 => (intro w hSw; (try dsimp only at hSw); go_simp; try (with_reducible rfl))
        simp only [List.getElem_toArray, List.getElem_cons_zero, List.getElem_cons_succ, Act.put, List.setIfInBounds_toArray, List.set_cons_zero, List.set_cons_succ]
        refine wpAnyH_take (i := 1) (v := ?v1) rfl (by kernel_rfl) (by kernel_rfl) (by kernel_rfl) (fun _ _ _ h => h) (Or.inl ⟨by rfl, ?y1⟩) (by assumption) ?r1
        case y1 => (intro w hSw; (try dsimp only at hSw); go_simp; try (with_reducible rfl))
        simp only [List.getElem_toArray, List.getElem_cons_zero, List.getElem_cons_succ, Act.put, List.setIfInBounds_toArray, List.set_cons_zero, List.set_cons_succ]
        refine wpAnyH_take (i := 2) (v := ?v2) rfl (by kernel_rfl) (by kernel_rfl) (by kernel_rfl) (fun _ _ _ h => h) (Or.inl ⟨by rfl, ?y2⟩) (by assumption) ?r2
        case y2 => (intro w hSw; (try dsimp only at hSw); go_simp; try (with_reducible rfl))
        simp only [List.getElem_toArray, List.getElem_cons_zero, List.getElem_cons_succ, Act.put, List.setIfInBounds_toArray, List.set_cons_zero, List.set_cons_succ]
        refine wpAnyH_take (i := 3) (v := ?v3) rfl (by kernel_rfl) (by kernel_rfl) (by kernel_rfl) (fun _ _ _ h => h) (Or.inl ⟨by rfl, ?y3⟩) (by assumption) ?r3
        case y3 => (intro w hSw; (try dsimp only at hSw); go_simp; try (with_reducible rfl))
        simp only [List.getElem_toArray, List.getElem_cons_zero, List.getElem_cons_succ, Act.put, List.setIfInBounds_toArray, List.set_cons_zero, List.set_cons_succ]
        refine wpAnyH_take (i := 4) (v := ?v4) rfl (by kernel_rfl) (by kernel_rfl) (by kernel_rfl) (fun _ _ _ h => h) (Or.inl ⟨by rfl, ?y4⟩) (by assumption) ?r4
        case y4 => (intro w hSw; (try dsimp only at hSw); go_simp; try (with_reducible rfl))
        simp only [List.getElem_toArray, List.getElem_cons_zero, List.getElem_cons_succ, Act.put, List.setIfInBounds_toArray, List.set_cons_zero, List.set_cons_succ]
        refine wpAnyH_take (i := 5) (v := ?v5) rfl (by kernel_rfl) (by kernel_rfl) (by kernel_rfl) (fun _ _ _ h => h) (Or.inl ⟨by rfl, ?y5⟩) (by assumption) ?r5
        case y5 => (intro w hSw; (try dsimp only at hSw); go_simp; try (with_reducible rfl))
        simp only [List.getElem_toArray, List.getElem_cons_zero, List.getElem_cons_succ, Act.put, List.setIfInBounds_toArray, List.set_cons_zero, List.set_cons_succ]
        refine wpAnyH_take (i := 6) (v := ?v6) rfl (by kernel_rfl) (by kernel_rfl) (by kernel_rfl) (fun _ _ _ h => h) (Or.inl ⟨by rfl, ?y6⟩) (by assumption) ?r6
        case y6 => (intro w hSw; (try dsimp only at hSw); go_simp; try (with_reducible rfl))
        simp only [List.getElem_toArray, List.getElem_cons_zero, List.getElem_cons_succ, Act.put, List.setIfInBounds_toArray, List.set_cons_zero, List.set_cons_succ]
        refine wpAnyH_take (i := 7) (v := ?v7) rfl (by kernel_rfl) (by kernel_rfl) (by kernel_rfl) (fun _ _ _ h => h) (Or.inl ⟨by rfl, ?y7⟩) (by assumption) ?r7
        case y7 => (intro w hSw; (try dsimp only at hSw); go_simp; try (with_reducible rfl))
        simp only [List.getElem_toArray, List.getElem_cons_zero, List.getElem_cons_succ, Act.put, List.setIfInBounds_toArray, List.set_cons_zero, List.set_cons_succ]
        refine wpAnyH_take (i := 9) (v := ?v9) rfl (by kernel_rfl) (by kernel_rfl) (by kernel_rfl) (fun _ _ _ h => h) (Or.inl ⟨by rfl, ?y9⟩) (by assumption) ?r9
        case y9 => (intro w hSw; (try dsimp only at hSw); go_simp; try (with_reducible rfl))
        simp only [List.getElem_toArray, List.getElem_cons_zero, List.getElem_cons_succ, Act.put, List.setIfInBounds_toArray, List.set_cons_zero, List.set_cons_succ]
        refine wpAnyH_take (i := 10) (v := ?v10) rfl (by kernel_rfl) (by kernel_rfl) (by kernel_rfl) (fun _ _ _ h => h) (Or.inl ⟨by rfl, ?y10⟩) (by assumption) ?r10
        case y10 => (intro w hSw; (try dsimp only at hSw); go_simp; try (with_reducible rfl))
        simp only [List.getElem_toArray, List.getElem_cons_zero, List.getElem_cons_succ, Act.put, List.setIfInBounds_toArray, List.set_cons_zero, List.set_cons_succ]
        refine wpAnyH_take (i := 11) (v := ?v11) rfl (by kernel_rfl) (by kernel_rfl) (by kernel_rfl) (fun _ _ _ h => h) (Or.inl ⟨by rfl, ?y11⟩) (by assumption) ?r11
        case y11 => (intro w hSw; (try dsimp only at hSw); go_simp; try (with_reducible rfl))
        simp only [List.getElem_toArray, List.getElem_cons_zero, List.getElem_cons_succ, Act.put, List.setIfInBounds_toArray, List.set_cons_zero, List.set_cons_succ]
        refine wpAnyH_take (i := 12) (v := ?v12) rfl (by kernel_rfl) (by kernel_rfl) (by kernel_rfl) (fun _ _ _ h => h) (Or.inl ⟨by rfl, ?y12⟩) (by assumption) ?r12
        case y12 => (intro w hSw; (try dsimp only at hSw); go_simp; try (with_reducible rfl))
        simp only [List.getElem_toArray, List.getElem_cons_zero, List.getElem_cons_succ, Act.put, List.setIfInBounds_toArray, List.set_cons_zero, List.set_cons_succ]
        refine wpAnyH_ready (rs := [8, 13]) (by kernel_rfl) (by simp) ?_
        refine AllReadyH.cons rfl (fun K hK => ?_) (AllReadyH.cons rfl (fun K hK => ?_) AllReadyH.nil)
        · go_simp
          refine hK.out _ _ hHeld (fun _ => ?_)
          clear hK K
          refine wpAnyH_ready (rs := [13]) (by kernel_rfl) (by simp) ?_
          refine AllReadyH.cons rfl (fun K hK => ?_) AllReadyH.nil
          go_simp
          refine hK.out _ _ hHeld (fun _ => ?_)
          clear hK K
          refine wpAnyH_ready (rs := [14]) (by kernel_rfl) (by simp) ?_
          refine AllReadyH.cons rfl (fun K hK => ?_) AllReadyH.nil
          go_simp
          go_wp2_with ((go_at_call 124; refine ((unhide HCALL) _ ((unhide HI).kept (unhide HBC))).mono ?_; rintro x w3 ⟨rfl, hb3⟩; replace HEO := hide ((unhide HEO).below hb3); replace HXC := hide ((unhide HXC).below hb3); replace HBC := hide ((unhide HBC).trans (hb3.mono (unhide HBC).size)); replace HZC := hide (Nat.le_trans (unhide HZC) hb3.size); clear hb3))
          replace ⟨q0, q1, q2, q3, q4, q5, q6, q7⟩ := unhide HEO
          refine hK.out _ _ ⟨q0, q1, q2, q3, q4, q5⟩ (fun hHeld => ?_)
          clear hK K
          obtain ⟨m0, m1⟩ := (unhide HXC).2 0 hlt
          have e0 : ((exL ns xs 0).getD 0 Value.nilIface) = .nilIface := rfl
          rw [e0] at m0
          clear e0
          refine wpAnyH_take (i := 15) (v := ?va15) rfl (by kernel_rfl) (by kernel_rfl) (by kernel_rfl) (fun _ _ _ h => h) (Or.inl ⟨by rfl, ?ya15⟩) (by assumption) ?ra15
          case ya15 => (intro w hSw; (try dsimp only at hSw); go_simp; try (with_reducible rfl))
          simp only [List.getElem_toArray, List.getElem_cons_zero, List.getElem_cons_succ, Act.put, List.setIfInBounds_toArray, List.set_cons_zero, List.set_cons_succ]
          refine wpAnyH_ready (rs := [16]) (by kernel_rfl) (by simp) ?_
          refine AllReadyH.cons rfl (fun K hK => ?_) AllReadyH.nil
          go_simp
          have HX2 := hide (show (w3.setCell ⟨w.heap.size + 1 + 1, 0, none⟩ (.iface T u)).cell? ⟨w.heap.size, 0, none⟩ = some (.map (some bo)) ∧ (w3.setCell ⟨w.heap.size + 1 + 1, 0, none⟩ (.iface T u)).cell? ⟨w.heap.size, 1, none⟩ = some (.map (some bs)) ∧ (w3.setCell ⟨w.heap.size + 1 + 1, 0, none⟩ (.iface T u)).cell? ⟨wr.heap.size, 0, none⟩ = some (.int .i64 (atN xs 0).k) ∧ (w3.setCell ⟨w.heap.size + 1 + 1, 0, none⟩ (.iface T u)).cell? ⟨wr.heap.size, 1, none⟩ = some (.string (atN xs 0).t) ∧ (w3.setCell ⟨w.heap.size + 1 + 1, 0, none⟩ (.iface T u)).cell? ⟨wr.heap.size, 2, none⟩ = some (.int .i64 0) ∧ (w3.setCell ⟨w.heap.size + 1 + 1, 0, none⟩ (.iface T u)).cell? ⟨wr.heap.size, 3, none⟩ = some (.int .i64 0) from
            have c : ∀ {b o' : Nat} {x : Value}, b ≠ w.heap.size + 1 + 1 → w3.cell? ⟨b, o', none⟩ = some x → (w3.setCell ⟨w.heap.size + 1 + 1, 0, none⟩ (.iface T u)).cell? ⟨b, o', none⟩ = some x := fun hne h => (World.cell?_setCell_other _ _ _ _ (fun x => hne (by injection x with x1; exact x1.symm))).trans h
            ⟨c (by omega) q0, c (by omega) q1, c (by omega) q2, c (by omega) q3, c (by omega) q4, c (by omega) q5⟩)
          refine hK.out _ _ (unhide HX2) (fun _ => ?_)
          clear hK K
          refine wpAnyH_done (by kernel_rfl) ?_ _
          have HEX2 := hide ((unhide HXC).set hlt (unhide HRES))
          have HX3 := hide (And.intro (unhide HX2).1 (unhide HX2).2.1)
          have HB2 : Below w.heap.size w (w3.setCell ⟨w.heap.size + 1 + 1, 0, none⟩ (.iface T u)) := (unhide HBC).setCell (by simp; omega) _
          have HZ2 : w.heap.size + 3 ≤ (w3.setCell ⟨w.heap.size + 1 + 1, 0, none⟩ (.iface T u)).heap.size := by have := unhide HZC; simp [World.setCell]; omega
          clear HEO HXC HBC HZC m0 m1 HX2 q0 q1 q2 q3 q4 q5 q6 q7 hHeld
          go_wp2_with fail
          exact ⟨⟨1, by omega, by go_num, HEX2, HX3, HB2, HZ2⟩, by simp [intOf]; omega⟩
        · go_simp
          refine hK.out _ _ hHeld (fun _ => ?_)
          clear hK K
          refine wpAnyH_ready (rs := [8]) (by kernel_rfl) (by simp) ?_
          refine AllReadyH.cons rfl (fun K hK => ?_) AllReadyH.nil
          go_simp
          refine hK.out _ _ hHeld (fun _ => ?_)
          clear hK K
          refine wpAnyH_ready (rs := [14]) (by kernel_rfl) (by simp) ?_
          refine AllReadyH.cons rfl (fun K hK => ?_) AllReadyH.nil
          go_simp
          go_wp2_with ((go_at_call 124; refine ((unhide HCALL) _ ((unhide HI).kept (unhide HBC))).mono ?_; rintro x w3 ⟨rfl, hb3⟩; replace HEO := hide ((unhide HEO).below hb3); replace HXC := hide ((unhide HXC).below hb3); replace HBC := hide ((unhide HBC).trans (hb3.mono (unhide HBC).size)); replace HZC := hide (Nat.le_trans (unhide HZC) hb3.size); clear hb3))
          replace ⟨q0, q1, q2, q3, q4, q5, q6, q7⟩ := unhide HEO
          refine hK.out _ _ ⟨q0, q1, q2, q3, q4, q5⟩ (fun hHeld => ?_)
          clear hK K
          obtain ⟨m0, m1⟩ := (unhide HXC).2 0 hlt
          have e0 : ((exL ns xs 0).getD 0 Value.nilIface) = .nilIface := rfl
          rw [e0] at m0
          clear e0
          refine wpAnyH_take (i := 15) (v := ?vb15) rfl (by kernel_rfl) (by kernel_rfl) (by kernel_rfl) (fun _ _ _ h => h) (Or.inl ⟨by rfl, ?yb15⟩) (by assumption) ?rb15
          case yb15 => (intro w hSw; (try dsimp only at hSw); go_simp; try (with_reducible rfl))
          simp only [List.getElem_toArray, List.getElem_cons_zero, List.getElem_cons_succ, Act.put, List.setIfInBounds_toArray, List.set_cons_zero, List.set_cons_succ]
          refine wpAnyH_ready (rs := [16]) (by kernel_rfl) (by simp) ?_
          refine AllReadyH.cons rfl (fun K hK => ?_) AllReadyH.nil
          go_simp
          have HX2 := hide (show (w3.setCell ⟨w.heap.size + 1 + 1, 0, none⟩ (.iface T u)).cell? ⟨w.heap.size, 0, none⟩ = some (.map (some bo)) ∧ (w3.setCell ⟨w.heap.size + 1 + 1, 0, none⟩ (.iface T u)).cell? ⟨w.heap.size, 1, none⟩ = some (.map (some bs)) ∧ (w3.setCell ⟨w.heap.size + 1 + 1, 0, none⟩ (.iface T u)).cell? ⟨wr.heap.size, 0, none⟩ = some (.int .i64 (atN xs 0).k) ∧ (w3.setCell ⟨w.heap.size + 1 + 1, 0, none⟩ (.iface T u)).cell? ⟨wr.heap.size, 1, none⟩ = some (.string (atN xs 0).t) ∧ (w3.setCell ⟨w.heap.size + 1 + 1, 0, none⟩ (.iface T u)).cell? ⟨wr.heap.size, 2, none⟩ = some (.int .i64 0) ∧ (w3.setCell ⟨w.heap.size + 1 + 1, 0, none⟩ (.iface T u)).cell? ⟨wr.heap.size, 3, none⟩ = some (.int .i64 0) from
            have c : ∀ {b o' : Nat} {x : Value}, b ≠ w.heap.size + 1 + 1 → w3.cell? ⟨b, o', none⟩ = some x → (w3.setCell ⟨w.heap.size + 1 + 1, 0, none⟩ (.iface T u)).cell? ⟨b, o', none⟩ = some x := fun hne h => (World.cell?_setCell_other _ _ _ _ (fun x => hne (by injection x with x1; exact x1.symm))).trans h
            ⟨c (by omega) q0, c (by omega) q1, c (by omega) q2, c (by omega) q3, c (by omega) q4, c (by omega) q5⟩)
          refine hK.out _ _ (unhide HX2) (fun _ => ?_)
          clear hK K
          refine wpAnyH_done (by kernel_rfl) ?_ _
          have HEX2 := hide ((unhide HXC).set hlt (unhide HRES))
          have HX3 := hide (And.intro (unhide HX2).1 (unhide HX2).2.1)
          have HB2 : Below w.heap.size w (w3.setCell ⟨w.heap.size + 1 + 1, 0, none⟩ (.iface T u)) := (unhide HBC).setCell (by simp; omega) _
          have HZ2 : w.heap.size + 3 ≤ (w3.setCell ⟨w.heap.size + 1 + 1, 0, none⟩ (.iface T u)).heap.size := by have := unhide HZC; simp [World.setCell]; omega
          clear HEO HXC HBC HZC m0 m1 HX2 q0 q1 q2 q3 q4 q5 q6 q7 hHeld
          go_wp2_with fail
          exact ⟨⟨1, by omega, by go_num, HEX2, HX3, HB2, HZ2⟩, by simp [intOf]; omega⟩
      · obtain ⟨ja, jb, hja, hjb, hjak, hjbk⟩ := kid_places (unhide HO) hlt (by omega)
        obtain ⟨Ta, ua, hTa⟩ := exS_iface ns xs ja
        obtain ⟨Tb, ub, hTb⟩ := exS_iface ns xs jb
        have ca := (unhide hex).2 ja (by omega)
        have cb := (unhide hex).2 jb (by omega)
        rw [exL_get ns xs k ja hjak, hTa] at ca
        rw [exL_get ns xs k jb hjbk, hTb] at cb
        obtain ⟨T, u, hTu⟩ := exN_iface (opA ns (atN xs k)) (atN xs k) (.iface Ta ua) (.iface Tb ub)
        have HRES := hide (show (Value.iface T u) = exS ns xs k by
          rw [exS_is, hja, hjb, Int.toNat_natCast, Int.toNat_natCast, exL_get ns xs k ja hjak, exL_get ns xs k jb hjbk, hTa, hTb, hTu])
        have HCALL := hide (fun (W : World) (h1 : Idx W bo bs ns ns.length) => exprOver_any bo bs ns (atN xs k) Ta Tb ua ub W h1 (unhide HC) (unhide HOK) ((unhide HZN) k hlt) ((unhide HO).2.2.2 k hlt) ((unhide HKN) k hlt))
        rw [hTu, hja, hjb] at HCALL
        rw [hja] at a2
        rw [hjb] at a3
        have hjaI : (ja : Int) < (xs.length : Int) := by omega
        have hjbI : (jb : Int) < (xs.length : Int) := by omega
        have HEO := hide (show EO (wr.alloc (.cells #[.int .i64 (atN xs k).k, .string (atN xs k).t, .int .i64 (ja : Int), .int .i64 (jb : Int)] 115)).drew w.heap.size wr.heap.size (w.heap.size + 1 + 1) ja jb bo bs ⟨(atN xs k).k, (atN xs k).t, (ja : Int), (jb : Int)⟩ (.iface Ta ua) (.iface Tb ub) from by
          have hb0 := below1 wr (.cells #[.int .i64 (atN xs k).k, .string (atN xs k).t, .int .i64 (ja : Int), .int .i64 (jb : Int)] 115)
          refine EO.below (w := wr.alloc (.cells #[.int .i64 (atN xs k).k, .string (atN xs k).t, .int .i64 (ja : Int), .int .i64 (jb : Int)] 115)) ?_ (Below.refl _ _).drew
          refine ⟨?_, ?_, by simp [go_sem], by simp [go_sem], by simp [go_sem], by simp [go_sem], ?_, ?_⟩
          · exact (hb0.cell (p := ⟨w.heap.size, 0, none⟩) (show w.heap.size < wr.heap.size by omega)).trans (unhide hx).1
          · exact (hb0.cell (p := ⟨w.heap.size, 1, none⟩) (show w.heap.size < wr.heap.size by omega)).trans (unhide hx).2
          · exact (hb0.cell (p := ⟨w.heap.size + 1 + 1, ja, none⟩) (show w.heap.size + 1 + 1 < wr.heap.size by omega)).trans ca.1
          · exact (hb0.cell (p := ⟨w.heap.size + 1 + 1, jb, none⟩) (show w.heap.size + 1 + 1 < wr.heap.size by omega)).trans cb.1)
        have HXC := hide (((unhide hex).below (below1 wr (.cells #[.int .i64 (atN xs k).k, .string (atN xs k).t, .int .i64 (ja : Int), .int .i64 (jb : Int)] 115))).below (Below.refl _ _).drew)
        have HBC := hide (show Below w.heap.size w (wr.alloc (.cells #[.int .i64 (atN xs k).k, .string (atN xs k).t, .int .i64 (ja : Int), .int .i64 (jb : Int)] 115)).drew from (hbel.alloc hbel.size _).drew)
        have HZC : wr.heap.size + 1 ≤ (wr.alloc (.cells #[.int .i64 (atN xs k).k, .string (atN xs k).t, .int .i64 (ja : Int), .int .i64 (jb : Int)] 115)).drew.heap.size := by simp
        have HZC := hide HZC
        clear ca cb hTa hTb hTu hja hjb m0 m1 bel1
        go_wp2_with fail
        go_region_held (fun w' => w'.cell? ⟨w.heap.size, 0, none⟩ = some (.map (some bo)) ∧ w'.cell? ⟨w.heap.size, 1, none⟩ = some (.map (some bs)) ∧ w'.cell? ⟨wr.heap.size, 0, none⟩ = some (.int .i64 (atN xs k).k) ∧ w'.cell? ⟨wr.heap.size, 1, none⟩ = some (.string (atN xs k).t) ∧ w'.cell? ⟨wr.heap.size, 2, none⟩ = some (.int .i64 (ja : Int)) ∧ w'.cell? ⟨wr.heap.size, 3, none⟩ = some (.int .i64 (jb : Int)) ∧ w'.cell? ⟨w.heap.size + 1 + 1, ja, none⟩ = some (.iface Ta ua) ∧ w'.cell? ⟨w.heap.size + 1 + 1, jb, none⟩ = some (.iface Tb ub)) (first | exact unhide HEO | exact (unhide HEO).set (by omega) (by omega) (by omega) (by omega) _)
          ((go_at_call 124; refine ((unhide HCALL) _ ((unhide HI).kept (unhide HBC))).mono ?_; rintro x w3 ⟨rfl, hb3⟩; replace HEO := hide ((unhide HEO).below hb3); replace HXC := hide ((unhide HXC).below hb3); replace HBC := hide ((unhide HBC).trans (hb3.mono (unhide HBC).size)); replace HZC := hide (Nat.le_trans (unhide HZC) hb3.size); clear hb3; obtain ⟨m0, m1⟩ := (unhide HXC).2 k hlt))
        have HEX2 := hide ((unhide HXC).set hlt (unhide HRES))
        have HX2 := hide (show (w3.setCell ⟨w.heap.size + 1 + 1, k, none⟩ (.iface T u)).cell? ⟨w.heap.size, 0, none⟩ = some (.map (some bo)) ∧ (w3.setCell ⟨w.heap.size + 1 + 1, k, none⟩ (.iface T u)).cell? ⟨w.heap.size, 1, none⟩ = some (.map (some bs)) from
          have h := (unhide HEO).set (k := k) (by omega) (by omega) (by omega) (by omega) (.iface T u)
          ⟨h.1, h.2.1⟩)
        have HB2 : Below w.heap.size w (w3.setCell ⟨w.heap.size + 1 + 1, k, none⟩ (.iface T u)) := (unhide HBC).setCell (by simp; omega) _
        have HZ2 : w.heap.size + 3 ≤ (w3.setCell ⟨w.heap.size + 1 + 1, k, none⟩ (.iface T u)).heap.size := by have := unhide HZC; simp [World.setCell]; omega
        clear HEO HXC HBC HZC m0 m1
        go_wp2_with fail
        exact ⟨⟨k + 1, by omega, by go_num, HEX2, HX2, HB2, HZ2⟩, by simp [intOf]; omega⟩
    · have hkx : k = xs.length := by omega
      have HL := hide ((unhide hex).2 (xs.length - 1) (by omega))
      rw [exL_get ns xs k (xs.length - 1) (by omega)] at HL
      obtain ⟨T, u, hTu⟩ := exS_iface ns xs (xs.length - 1)
      rw [hTu] at HL
      have HTU := hide hTu
      have c1 := (unhide HL).1
      have ei : (xs.length : Int) - 1 = ((xs.length - 1 : Nat) : Int) := by omega
      have e2 : ((xs.length - 1 : Nat) : Int) < (xs.length : Int) := by omega
      clear hTu HL
      go_wp2_with fail
      go_ret
      exact ⟨by rw [unhide HTU]; rfl, hbel⟩
end Go.Proofs.YtokabkhnidlcnabGreat

/-
  Words: numbers and names (isWord).
-/
namespace Go.Proofs.YtokabkhnidlcnabGreat
set_option maxRecDepth 100000
open Go.RowKit

/-- A text of one word. -/
def WordT (first : Nat) (s : ByteArray) : Prop := 1 ≤ s.size ∧ cls (bt s 0) = first ∧ ∀ j, j < s.size → stays first (bt s j) = true

set_option maxHeartbeats 1000000 in
theorem isWord_any (first : Nat) (s : ByteArray) (w : World) (hs : s.size ≤ maxLen) :
    Calls Tryz.prog 149 #[.int .i64 (first : Int), .string s] w fun e w' => RetB e (WordT first s) ∧ w' = w := by
  unfold maxLen at hs
  by_cases h0 : s.size = 0
  · have HN := hide (show ¬ WordT first s from fun h => by have := h.1; omega)
    obtain rfl := bytes_nil h0
    go_enter Tryz.func149, Tryz.ntmps149
    go_wp2_with fail
    go_ret
    exact ⟨⟨_, rfl, says_false (unhide HN)⟩, rfl⟩
  have hne := not_empty h0
  have h0I : (0 : Int) < (s.size : Int) := by omega
  have h0N : 0 < s.size := by omega
  by_cases hc : cls (bt s 0) = first
  case neg =>
    have HN := hide (show ¬ WordT first s from fun h => hc h.2.1)
    have hb := bt_get h0N
    have hc' : ((cls s[0] : Int) != (first : Int)) = true := by rw [hb]; simp; omega
    clear hb
    go_enter Tryz.func149, Tryz.ntmps149
    go_wp2_with (go_at_call 106; refine (kindOfByte_any _ _).mono ?_; rintro e w' ⟨rfl, hx⟩; obtain rfl := hx.symm)
    go_ret
    exact ⟨⟨_, rfl, says_false (unhide HN)⟩, rfl⟩
  have HC := hide hc
  have hb := bt_get h0N
  have HX := hide (show (cls s[0] : Int) = (first : Int) by rw [hb]; omega)
  clear hb hc
  go_enter Tryz.func149, Tryz.ntmps149
  go_wp2_with (go_at_call 106; refine (kindOfByte_any _ _).mono ?_; rw [unhide HX]; rintro e w' ⟨rfl, hx⟩; obtain rfl := hx.symm)
  go_loop [17] (fun i => ∃ k : Nat, k ≤ s.size ∧ i = .int .i64 (k : Int) ∧ Hid (∀ j, j < k → stays first (bt s j) = true)) (fun i => s.size - (intOf i).toNat)
  case atStart => exact ⟨0, Nat.zero_le _, rfl, hide (fun j h => by omega)⟩
  case round =>
    obtain ⟨k, hk, rfl, hn⟩ := hrel
    by_cases hlt : k < s.size
    · have hltI : (k : Int) < (s.size : Int) := by omega
      cases hb : stays first s[k]
      · have Hb := hide (show stays first (bt s k) = false by rw [← bt_get hlt]; exact hb)
        go_wp2_with (go_at_call 134; refine (staysWord_any _ _ _).mono ?_; rintro e w' ⟨rfl, hx⟩; obtain rfl := hx.symm)
        go_ret
        exact ⟨⟨_, rfl, says_false (fun h => by have := h.2.2 k hlt; rw [unhide Hb] at this; cases this)⟩, rfl⟩
      · have Hb := hide (show stays first (bt s k) = true by rw [← bt_get hlt]; exact hb)
        go_wp2_with (go_at_call 134; refine (staysWord_any _ _ _).mono ?_; rintro e w' ⟨rfl, hx⟩; obtain rfl := hx.symm)
        refine ⟨⟨k + 1, by omega, by go_num, hide (fun j hj => ?_)⟩, by simp [intOf]; omega⟩
        by_cases e : j = k
        · subst e; exact unhide Hb
        · exact (unhide hn) j (by omega)
    · go_wp2_with fail
      go_ret
      exact ⟨⟨_, rfl, says_true ⟨by omega, unhide HC, fun j hj => (unhide hn) j (by omega)⟩⟩, rfl⟩

theorem WordT_2 (s : ByteArray) : WordT 2 s ↔ NumT s := by
  unfold WordT NumT stays
  constructor
  · rintro ⟨h1, h2, h3⟩
    refine ⟨h1, fun j hj => ?_⟩
    have := h3 j hj
    simpa using this
  · rintro ⟨h1, h2⟩
    exact ⟨h1, h2 0 (by omega), fun j hj => by simp [h2 j hj]⟩

theorem WordT_3 (s : ByteArray) : WordT 3 s ↔ NameT s := by
  unfold WordT NameT stays
  constructor
  · rintro ⟨h1, h2, h3⟩
    refine ⟨h1, fun j hj => ?_⟩
    have := h3 j hj
    simp at this
    by_cases e : j = 0
    · subst e; exact Or.inl h2
    · omega
  · rintro ⟨h1, h2⟩
    refine ⟨h1, ?_, fun j hj => ?_⟩
    · have := h2 0 (by omega); omega
    · have := h2 j hj; simp; omega
end Go.Proofs.YtokabkhnidlcnabGreat
