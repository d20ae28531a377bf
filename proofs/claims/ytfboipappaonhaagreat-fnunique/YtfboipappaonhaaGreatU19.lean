import Derived.Test.YtfboipappaonhaaGreatU18

/-
  Walks: the specification's l4Grouped, at nodes without kids.
-/
namespace Go.Proofs.YtfboipappaonhaaGreat
set_option maxRecDepth 100000
set_option linter.unusedSimpArgs false
set_option linter.unusedVariables false
open Go.RowKit

theorem clos_row {ns : List OpR} {o : NodeR} {least : Int} {us us4 vs U : List NodeR} (hv : vs = us ++ clos ns o least us.length U) (h4 : us4 = us ++ U) : (levN ns o < least → vs = us4 ++ [⟨6, ByteArray.empty, (us4.length : Int) - 1, 0⟩]) ∧ (¬ levN ns o < least → vs = us4) := by
  constructor
  · intro h
    rw [hv, clos, if_pos h, h4, List.append_assoc, List.length_append]
  · intro h
    rw [hv, clos, if_neg h, h4]

set_option maxHeartbeats 2000000 in
theorem lg_leaf (b off cap bz offz cz j : Nat) (ns : List OpR) (zs : List NodeR) (o : NodeR) (least : Int) (B : Nat) (u : Value) (us vs : List NodeR) (w : World) (hm : ns.length ≤ 1048576) (hw : Ops w b off ns) (hb : b < B) (hwz : OpsN w bz offz zs) (hbz : bz < B) (hB : B ≤ w.heap.size) (hrow : RowV w B u us) (hj : j < zs.length) (hzl : zs.length ≤ 20000) (ho : atN zs j = ⟨o.k, o.t, 0, 0⟩) (hk : kids o.k = 0) (hlen : us.length ≤ 90000) (hvs : vs = us ++ clos ns o least us.length [⟨o.k, o.t, 0, 0⟩]) :
    Calls Tryz.prog 52 #[.agg #[.slice (some ⟨b, off, none⟩) ns.length cap], .slice (some ⟨bz, offz, none⟩) zs.length cz, .int .i64 (j : Int), .int .i64 least, u] w (AppPost w B u vs) := by
  obtain ⟨i0, hi0, hz0, hz1, hz2⟩ := info_parts' infoN
  have HI := hide hi0
  have HZ := hide (And.intro hz0 (And.intro hz1 hz2))
  clear hi0 hz0 hz1 hz2
  have hjI : (j : Int) < (zs.length : Int) := by omega
  have hbzw : bz < w.heap.size := by omega
  obtain ⟨h0, h1, h2, h3⟩ := hwz j hj
  rw [ho] at h0 h1 h2 h3
  simp only at h0 h1 h2 h3
  have hnop : ¬ (3 ≤ o.k ∧ o.k ≤ 5) := by
    intro h
    have : o.k = 3 ∨ o.k = 4 ∨ o.k = 5 := by omega
    rcases this with e | e | e <;> rw [e] at hk <;> simp [kids] at hk
  have HD := hide (show false = decide (3 ≤ o.k ∧ o.k ≤ 5) by rw [eq_comm, decide_eq_false_iff_not]; exact hnop)
  have HKN := hide (show 3 ≤ o.k → o.k ≤ 5 → fnd ns o.t (o.k - 2) ≠ none from fun a b => absurd ⟨a, b⟩ hnop)
  obtain ⟨us4, HU4⟩ : ∃ us4, Hid (us4 = us ++ [⟨o.k, o.t, 0, 0⟩]) := ⟨_, hide rfl⟩
  have hl4 : us4.length ≤ 90001 := by rw [unhide HU4, List.length_append]; simp; omega
  have HV4 := hide (clos_row hvs (unhide HU4))
  have HUB := hide hrow.base
  have hne0 : ∀ x, w.heap.size ≤ x → x < w.heap.size + 3 → u.ownBlock ≠ some x := fun x hx _ e => by have := hrow.lt _ e; omega
  obtain ⟨a1, c1, rfl⟩ := row_slice hrow
  obtain ⟨u, hu⟩ : ∃ u, u = Value.slice a1 us.length c1 := ⟨_, rfl⟩
  have HneX := hide hne0
  have HW := hide hw
  have HR := hide hrow
  have HB3 := hide (show ∀ o1 o2 o3 : Obj, Below w.heap.size w (((w.alloc o1).alloc o2).alloc o3) from fun o1 o2 o3 => ((below1 w o1).alloc (by simp) o2).alloc (by simp; omega) o3)
  have HPU := hide (show AppPost w B (Value.slice a1 us.length c1) vs = AppPost w B u vs by rw [hu])
  rw [unhide HPU]
  have HUE := hide hu
  clear hw hwz hrow ho hvs hnop hk hne0 hu HPU
  go_enter Tryz.func52, Tryz.ntmps52
  go_wp2_with fail
  refine (l3IsOp_any ⟨o.k, o.t, 0, 0⟩ _ false (unhide HD)).mono ?_
  rintro e w1 ⟨rfl, hb1⟩
  have bel1 : Below w.heap.size w w1 := ((unhide HB3) _ _ _).trans (hb1.mono (by simp; omega))
  have HRX := hide ((unhide HR).below bel1)
  have HGX := hide (show w.grownBy w1 u.ownBlock from grown_belN bel1 _)
  have HAX := hide (show (Value.slice a1 us.length c1).ownBlock = u.ownBlock ∨ ∃ k, (Value.slice a1 us.length c1).ownBlock = some k ∧ w.heap.size ≤ k from Or.inl (by rw [unhide HUE]))
  rw [← unhide HUE] at HUB
  have HTX := hide (show w1.cell? ⟨w.heap.size, 0, none⟩ = some (.slice (some ⟨b, off, none⟩) ns.length cap) from (hb1.cell (p := ⟨w.heap.size, 0, none⟩) (by simp; omega)).trans (by simp [go_sem]))
  have HNX := hide (show NodAt w1 (w.heap.size + 1) ⟨o.k, o.t, 0, 0⟩ from NodAt.below ⟨by simp [go_sem], by simp [go_sem], by simp [go_sem], by simp [go_sem], by simp [go_sem], by simp [go_sem]⟩ hb1)
  have HMX := hide (show NodAt w1 (w.heap.size + 1 + 1) ⟨o.k, o.t, 0, 0⟩ from NodAt.below ⟨by simp [go_sem], by simp [go_sem], by simp [go_sem], by simp [go_sem], by simp [go_sem], by simp [go_sem]⟩ hb1)
  have z1 := bel1.size
  clear hb1 HR HB3
  obtain ⟨mk0, mk1, mk2, mk3, _, _⟩ := unhide HMX
  simp only at mk0 mk1 mk2 mk3
  go_wp2_with (at_builtin; refine wpList_append_own_at _ rfl (.tmp 56) (.tmp 58) 26 rfl B 81 i0 _ 4 40 Tryz.underlying26 (unhide HI) (unhide HZ).1 (unhide HZ).2.1 (unhide HZ).2.2 rfl (by decide) _ us.length (cellsN us) rfl ((unhide HRX).below (below1 _ _)) ⟨(w1).heap.size, 0, none⟩ 1 1 (cellsN [⟨o.k, o.t, 0, 0⟩]) rfl rfl (by simpa using new_newsN (w1) ⟨o.k, o.t, 0, 0⟩) (cellsN_one' _) ?b1 ?b2 ?b3 ?next)
  case b1 => unfold maxLen; omega
  case b2 => omega
  case b3 => first | omega | (have := (unhide HGX).size; simp at this ⊢; omega)
  case next =>
    intro v4 w4 hown4 hgrow4 hnil4 hat4
    have hr4 : RowV w4 B v4 (us ++ [⟨o.k, o.t, 0, 0⟩]) := by
      unfold RowV
      rw [cellsN_append, List.length_append]
      exact hown4
    rw [← unhide HU4] at hr4
    have HGb := hide (grown_below (below1 (w1) _) hgrow4)
    have HAb := hide (show v4.ownBlock = (Value.slice a1 us.length c1).ownBlock ∨ ∃ k, v4.ownBlock = some k ∧ (w1).heap.size ≤ k from hat4.imp id (fun h => ⟨_, h, by first | exact Nat.le_refl _ | simp⟩))
    have HG4 := hide (grown_trans (unhide HGX) (unhide HGb) (unhide HAX))
    have HA4 := hide (grown_at (unhide HGX) (unhide HAX) v4.ownBlock (unhide HAb))
    have HN4 := hide ((unhide HNX).grown (unhide HGb) (unhide HneX _ (by omega) (by omega)))
    have t4 : w4.cell? ⟨w.heap.size, 0, none⟩ = some (.slice (some ⟨b, off, none⟩) ns.length cap) := (grown_cell (unhide HGb) (b := w.heap.size) (block_lt_of_cell (unhide HTX)) (unhide HneX _ (by omega) (by omega)) 0).trans (unhide HTX)
    have HW4 := hide (ops_grown (unhide HW) (unhide HG4) hb hB (unhide HUB))
    have z4 := (unhide HG4).size
    obtain ⟨n0, n1, n2, n3, _, _⟩ := unhide HN4
    simp only at n0 n1 n2 n3
    obtain ⟨a4, c4, rfl⟩ := row_slice hr4
    have HR4 := hide hr4
    clear hown4 hgrow4 hnil4 hat4 hr4 HGb HAb mk0 mk1 mk2 mk3 HMX HNX HTX HRX HneX HGX HAX
    go_wp2_with fail
    refine (l3Level_any b off cap ns ⟨o.k, o.t, 0, 0⟩ _ hm (unhide HW4) (by omega) (unhide HKN)).mono ?_
    rintro e w5 ⟨rfl, hb5⟩
    have hlv : levN ns ⟨o.k, o.t, 0, 0⟩ = levN ns o := rfl
    rw [hlv]
    have HG5 := hide (grown_trans (unhide HG4) (grown_belN hb5 u.ownBlock) (Or.inl rfl))
    have HR5 := hide ((unhide HR4).below hb5)
    have z5 : w.heap.size ≤ w5.heap.size := Nat.le_trans z4 hb5.size
    clear hlv hb5 HG4 HR4 HN4 HW4 t4 n0 n1 n2 n3 z4
    by_cases hl : levN ns o < least
    · have HVS := hide ((unhide HV4).1 (by omega))
      clear HV4
      go_wp2_with (at_builtin; refine wpList_append_own_at _ rfl (.tmp 65) (.tmp 70) 26 rfl B 81 i0 _ 4 40 Tryz.underlying26 (unhide HI) (unhide HZ).1 (unhide HZ).2.1 (unhide HZ).2.2 rfl (by decide) _ us4.length (cellsN us4) rfl ((unhide HR5).below (below1 _ _)) ⟨w5.heap.size, 0, none⟩ 1 1 (cellsN [⟨6, ⟨#[]⟩, (us4.length : Int) - 1, 0⟩]) rfl rfl (by simpa using new_newsN w5 ⟨6, ⟨#[]⟩, (us4.length : Int) - 1, 0⟩) (cellsN_one' _) ?b4 ?b5 ?b6 ?next2)
      case b4 => unfold maxLen; omega
      case b5 => omega
      case b6 => first | omega | (simp; omega)
      case next2 =>
        intro v6 w6 hown6 hgrow6 hnil6 hat6
        have HO6 := hide (show RowV w6 B v6 vs by
          rw [unhide HVS]
          unfold RowV
          rw [cellsN_append, List.length_append]
          exact hown6)
        have HGc := hide (grown_below (below1 w5 _) hgrow6)
        have HG6 := hide (grown_trans (unhide HG5) (unhide HGc) (unhide HA4))
        have HA6 := hide (grown_at (unhide HG5) (unhide HA4) v6.ownBlock (hat6.imp id (fun h => ⟨_, h, by first | exact Nat.le_refl _ | simp⟩)))
        clear hown6 hgrow6 hnil6 hat6 HGc HG5 HR5
        go_wp2_with fail
        go_ret
        exact ⟨v6, rfl, HO6, HG6, HA6⟩
    · have HVS := hide ((unhide HV4).2 (by omega))
      clear HV4
      go_wp2_with fail
      go_ret
      exact ⟨_, rfl, by rw [unhide HVS]; exact HR5, HG5, HA4⟩
end Go.Proofs.YtfboipappaonhaaGreat

/-
  Walks: the specification's l4Grouped, at nodes with one kid.
-/
namespace Go.Proofs.YtfboipappaonhaaGreat
set_option maxRecDepth 100000
set_option linter.unusedSimpArgs false
set_option linter.unusedVariables false
open Go.RowKit

set_option maxHeartbeats 4000000 in
theorem lg_one (b off cap bz offz cz j ja jj : Nat) (ns : List OpR) (zs : List NodeR) (o : NodeR) (least : Int) (B : Nat) (u : Value) (us us1 vs : List NodeR) (w : World) (hm : ns.length ≤ 1048576) (hsz : Sized ns) (hw : Ops w b off ns) (hb : b < B) (hwz : OpsN w bz offz zs) (hbz : bz < B) (hB : B ≤ w.heap.size) (hrow : RowV w B u us) (hj : j < zs.length) (hzl : zs.length ≤ 20000) (ho : atN zs j = ⟨o.k, o.t, (ja : Int), 0⟩) (hop : isOpN o) (hk : kids o.k = 1) (hf : fnd ns o.t (o.k - 2) = some jj) (hlen : us1.length ≤ 90000) {U : List NodeR} (hu1 : us1 = us ++ U) (hvs : vs = us ++ clos ns o least us.length (U ++ [⟨o.k, o.t, (us1.length : Int) - 1, 0⟩]))
    (hc : ∀ W, Ops W b off ns → OpsN W bz offz zs → B ≤ W.heap.size → RowV W B u us → Calls Tryz.prog 52 #[.agg #[.slice (some ⟨b, off, none⟩) ns.length cap], .slice (some ⟨bz, offz, none⟩) zs.length cz, .int .i64 (ja : Int), .int .i64 (holeI (atO ns jj).s (atO ns jj).k (atO ns jj).l (atO ns jj).sd false), u] W (AppPost W B u us1)) :
    Calls Tryz.prog 52 #[.agg #[.slice (some ⟨b, off, none⟩) ns.length cap], .slice (some ⟨bz, offz, none⟩) zs.length cz, .int .i64 (j : Int), .int .i64 least, u] w (AppPost w B u vs) := by
  obtain ⟨us4, HU4'⟩ : ∃ us4, Hid (us4 = us ++ (U ++ [⟨o.k, o.t, (us1.length : Int) - 1, 0⟩])) := ⟨_, hide rfl⟩
  have HU4 := HU4'
  have hl4 : us4.length ≤ 90001 := by rw [unhide HU4', ← List.append_assoc, ← hu1, List.length_append]; simp; omega
  obtain ⟨i0, hi0, hz0, hz1, hz2⟩ := info_parts' infoN
  have HI := hide hi0
  have HZ := hide (And.intro hz0 (And.intro hz1 hz2))
  clear hi0 hz0 hz1 hz2
  have hjI : (j : Int) < (zs.length : Int) := by omega
  have hbzw : bz < w.heap.size := by omega
  have hbw : b < w.heap.size := by omega
  obtain ⟨h0, h1, h2, h3⟩ := hwz j hj
  rw [ho] at h0 h1 h2 h3
  simp only at h0 h1 h2 h3
  have HD := hide (show true = decide (3 ≤ o.k ∧ o.k ≤ 5) by rw [eq_comm, decide_eq_true_iff]; exact hop)
  have h3k := hop.1
  have h5k := hop.2
  have HF := hide hf
  have hjj := (fnd_some hf).1
  have HSJ := hide (hsz jj hjj)
  have HKN := hide (show 3 ≤ o.k → o.k ≤ 5 → fnd ns o.t (o.k - 2) ≠ none from fun _ _ => by rw [hf]; simp)
  have HV4 := hide (clos_row hvs (unhide HU4))
  have HUB := hide hrow.base
  have hne0 : ∀ x, w.heap.size ≤ x → u.ownBlock ≠ some x := fun x hx e => by have := hrow.lt _ e; omega
  obtain ⟨a0, c0, rfl⟩ := row_slice hrow
  obtain ⟨u, hu⟩ : ∃ u, u = Value.slice a0 us.length c0 := ⟨_, rfl⟩
  have HNE := hide hne0
  have HW := hide hw
  have HWZ := hide hwz
  have HRC := hide hrow
  have HB3 := hide (show ∀ o1 o2 o3 : Obj, Below w.heap.size w (((w.alloc o1).alloc o2).alloc o3) from fun o1 o2 o3 => ((below1 w o1).alloc (by simp) o2).alloc (by simp; omega) o3)
  have HPU := hide (show AppPost w B (Value.slice a0 us.length c0) vs = AppPost w B u vs by rw [hu])
  rw [unhide HPU]
  have HUE := hide hu
  rw [← hu] at HUB
  have HC := hide hc
  have HK1 := hide hk
  replace HU4 := hide (show us4 = us1 ++ [⟨o.k, o.t, (us1.length : Int) - 1, 0⟩] by rw [unhide HU4', ← List.append_assoc, ← hu1])
  clear hk hu1 HU4'
  clear hw hwz hrow ho hvs hne0 hu HPU hc hop hf
  go_enter Tryz.func52, Tryz.ntmps52
  go_wp2_with fail
  refine (l3IsOp_any ⟨o.k, o.t, (ja : Int), 0⟩ _ true (unhide HD)).mono ?_
  rintro e w1 ⟨rfl, hb1⟩
  have bel1 : Below w.heap.size w w1 := ((unhide HB3) _ _ _).trans (hb1.mono (by simp; omega))
  have t1 : w1.cell? ⟨w.heap.size, 0, none⟩ = some (.slice (some ⟨b, off, none⟩) ns.length cap) := (hb1.cell (p := ⟨w.heap.size, 0, none⟩) (by simp; omega)).trans (by simp [go_sem])
  have HN1 := hide (show NodAt w1 (w.heap.size + 1) ⟨o.k, o.t, (ja : Int), 0⟩ from NodAt.below ⟨by simp [go_sem], by simp [go_sem], by simp [go_sem], by simp [go_sem], by simp [go_sem], by simp [go_sem]⟩ hb1)
  have HM1 := hide (show NodAt w1 (w.heap.size + 1 + 1) ⟨o.k, o.t, 0, 0⟩ from NodAt.below ⟨by simp [go_sem], by simp [go_sem], by simp [go_sem], by simp [go_sem], by simp [go_sem], by simp [go_sem]⟩ hb1)
  have z1 : w.heap.size + 3 ≤ w1.heap.size := by have := hb1.size; simp at this; omega
  obtain ⟨n0, n1, n2, n3, _, _⟩ := unhide HN1
  simp only at n0 n1 n2 n3
  clear hb1 HB3
  go_wp2_with fail
  refine (l3OpOf_any b off cap ns ⟨o.k, o.t, (ja : Int), 0⟩ jj _ hm ((unhide HW).below bel1 hbw) (by omega) h3k h5k (unhide HF)).mono ?_
  rintro e w2 ⟨rfl, hb2⟩
  have bel2 := bel1.trans (hb2.mono bel1.size)
  have z2 : w.heap.size + 3 ≤ w2.heap.size := Nat.le_trans z1 hb2.size
  have hbC : Below w2.heap.size w2 (w2.alloc (.cells #[.string (atO ns jj).s, .int .i64 (atO ns jj).k, .int .i64 (atO ns jj).l, .int .i64 (atO ns jj).sd] 123)).drew := (below1 _ _).drew
  have HTC := hide (show (w2.alloc (.cells #[.string (atO ns jj).s, .int .i64 (atO ns jj).k, .int .i64 (atO ns jj).l, .int .i64 (atO ns jj).sd] 123)).drew.cell? ⟨w.heap.size, 0, none⟩ = some (.slice (some ⟨b, off, none⟩) ns.length cap) from (hbC.cell (p := ⟨w.heap.size, 0, none⟩) (show w.heap.size < w2.heap.size by omega)).trans ((hb2.cell (p := ⟨w.heap.size, 0, none⟩) (show w.heap.size < w1.heap.size by omega)).trans t1))
  have HNC := hide (((unhide HN1).below hb2).below hbC)
  have HMC := hide (((unhide HM1).below hb2).below hbC)
  have HOC := hide (show OpAt (w2.alloc (.cells #[.string (atO ns jj).s, .int .i64 (atO ns jj).k, .int .i64 (atO ns jj).l, .int .i64 (atO ns jj).sd] 123)).drew w2.heap.size (atO ns jj) from OpAt.below (w := w2.alloc (.cells #[.string (atO ns jj).s, .int .i64 (atO ns jj).k, .int .i64 (atO ns jj).l, .int .i64 (atO ns jj).sd] 123)) ⟨by simp [go_sem], by simp [go_sem], by simp [go_sem], by simp [go_sem]⟩ (Below.refl _ _).drew)
  have HBC := hide (bel2.trans (hbC.mono bel2.size))
  replace HRC := hide ((unhide HRC).below (unhide HBC))
  have HZC := hide (show w2.heap.size + 1 ≤ (w2.alloc (.cells #[.string (atO ns jj).s, .int .i64 (atO ns jj).k, .int .i64 (atO ns jj).l, .int .i64 (atO ns jj).sd] 123)).drew.heap.size by simp)
  clear hb2 hbC t1 HN1 HM1 n0 n1 n2 n3 bel1 bel2
  go_wp2_with fail
  go_region_held (fun w' => w'.cell? ⟨w.heap.size, 0, none⟩ = some (.slice (some ⟨b, off, none⟩) ns.length cap) ∧ w'.cell? ⟨w.heap.size + 1, 2, none⟩ = some (.int .i64 (ja : Int)) ∧ w'.cell? ⟨w2.heap.size, 0, none⟩ = some (.string (atO ns jj).s) ∧ w'.cell? ⟨w2.heap.size, 1, none⟩ = some (.int .i64 (atO ns jj).k) ∧ w'.cell? ⟨w2.heap.size, 2, none⟩ = some (.int .i64 (atO ns jj).l) ∧ w'.cell? ⟨w2.heap.size, 3, none⟩ = some (.int .i64 (atO ns jj).sd)) (first | (go_keep; done) | exact ⟨unhide HTC, (unhide HNC).2.2.1, (unhide HOC).1, (unhide HOC).2.1, (unhide HOC).2.2.1, (unhide HOC).2.2.2⟩)
    (first | (go_at_call 99; refine (specHole_any (atO ns jj).s (atO ns jj).k (atO ns jj).l (atO ns jj).sd false _ (unhide HSJ)).mono ?_; rintro e w3 ⟨rfl, hb3⟩; have hp3 := hb3; replace HTC := hide ((hb3.cell (p := ⟨w.heap.size, 0, none⟩) (block_lt_of_cell (unhide HTC))).trans (unhide HTC)); replace HNC := hide ((unhide HNC).below hb3); replace HMC := hide ((unhide HMC).below hb3); replace HOC := hide ((unhide HOC).below hb3); replace HRC := hide ((unhide HRC).below hb3); replace HBC := hide ((unhide HBC).trans (hp3.mono (unhide HBC).size)); replace HZC := hide (Nat.le_trans (unhide HZC) hb3.size); clear hb3 hp3) | (go_at_call 52; refine ((unhide HC) _ ((unhide HW).below (unhide HBC) hbw) ((unhide HWZ).below (unhide HBC) hbzw) (Nat.le_trans hB (unhide HBC).size) (unhide HRC)).mono ?_; rintro x w5 ⟨u1, rfl, hr5, hg5, ho5⟩; replace HTC := hide ((grown_cell (unhide hg5) (b := w.heap.size) (block_lt_of_cell (unhide HTC)) ((unhide HNE) _ (by omega)) 0).trans (unhide HTC)); replace HNC := hide ((unhide HNC).grown (unhide hg5) ((unhide HNE) _ (by omega))); replace HMC := hide ((unhide HMC).grown (unhide hg5) ((unhide HNE) _ (by omega))); replace HOC := hide ((unhide HOC).grown (unhide hg5) ((unhide HNE) _ (by omega))); have HGX := hide (grown_below (unhide HBC) (unhide hg5)); have HA5 := hide ((unhide ho5).imp id (fun ⟨k, h1, h2⟩ => ⟨k, h1, Nat.le_trans (unhide HZC) h2⟩) : u1.ownBlock = (Value.slice a0 us.length c0).ownBlock ∨ ∃ k, u1.ownBlock = some k ∧ w2.heap.size + 1 ≤ k); obtain ⟨a1, c1, rfl⟩ := row_slice (unhide hr5); have HRX := hr5; clear hg5 ho5 hr5 HRC HBC))
  rw [← unhide HUE] at HGX HA5
  have HNE1 := hide (show ∀ x, w.heap.size ≤ x → x < w2.heap.size + 1 → (Value.slice a1 us1.length c1).ownBlock ≠ some x from fun x hx hx2 e => by
    rcases unhide HA5 with h | ⟨k, h1, h2⟩
    · exact (unhide HNE) x hx (by rw [← unhide HUE, ← h]; exact e)
    · rw [h1] at e; injection e with e; omega)
  have HneX := hide (show ∀ x, w.heap.size ≤ x → x < w.heap.size + 3 → (Value.slice a1 us1.length c1).ownBlock ≠ some x from fun x hx hx2 => (unhide HNE1) x hx (by omega))
  have HAX := hide (show (Value.slice a1 us1.length c1).ownBlock = u.ownBlock ∨ ∃ k, (Value.slice a1 us1.length c1).ownBlock = some k ∧ w.heap.size ≤ k from (unhide HA5).imp id (fun ⟨k, h1, h2⟩ => ⟨k, h1, by omega⟩))
  have mc := unhide HMC
  obtain ⟨mm0, mm1, mm2, mm3, mm4, mm5⟩ := mc
  simp only at mm0 mm1 mm2 mm3
  have nc := unhide HNC
  obtain ⟨nn0, nn1, nn2, nn3, _, _⟩ := nc
  simp only at nn0 nn1 nn2 nn3
  have n0' : (w5.setCell ⟨w.heap.size + 1 + 1, 2, none⟩ (.int .i64 ((us1.length : Int) - 1))).cell? ⟨w.heap.size + 1, 0, none⟩ = some (.int .i64 o.k) := (World.cell?_setCell_other _ _ _ _ (fun x => by injection x with x1; omega)).trans nn0
  replace HMC := hide ((unhide HMC).set2 ((us1.length : Int) - 1))
  replace HNC := hide ((unhide HNC).other (g := w.heap.size + 1 + 1) (j := 2) (.int .i64 ((us1.length : Int) - 1)) (by omega))
  replace HTC := hide ((World.cell?_setCell_other w5 ⟨w.heap.size + 1 + 1, 2, none⟩ ⟨w.heap.size, 0, none⟩ (.int .i64 ((us1.length : Int) - 1)) (fun x => by injection x with x1; omega)).trans (unhide HTC))
  replace HRX := hide ((unhide HRX).other (g := w.heap.size + 1 + 1) (j := 2) (.int .i64 ((us1.length : Int) - 1)) ((unhide HneX) _ (by omega) (by omega)))
  replace HGX := hide (grown_trans (unhide HGX) (⟨rfl, rfl, rfl, by simp [World.setCell], fun i _ hi => Below.heap_setCell _ _ _ _ (fun e => hi (by rw [e]))⟩ : w5.grownBy (w5.setCell ⟨w.heap.size + 1 + 1, 2, none⟩ (.int .i64 ((us1.length : Int) - 1))) (some (w.heap.size + 1 + 1))) (Or.inr ⟨_, rfl, by omega⟩))
  have HMX := HMC
  have HNX := HNC
  have HTX := HTC
  clear HMC HNC HTC HOC HA5 HNE1 nn0 nn1 nn2 nn3 mm0 mm1 mm3 mm5 HC HNE HWZ
  obtain ⟨mk0, mk1, mk2, mk3, _, _⟩ := unhide HMX
  simp only at mk0 mk1 mk2 mk3
  go_wp2_with (first | (go_at_call 55; refine (l3Kids_is (unhide HK1) 1 rfl _).mono ?_; rintro e w' ⟨rfl, rfl⟩) | (at_builtin; refine wpList_append_own_at _ rfl (.tmp 56) (.tmp 58) 26 rfl B 81 i0 _ 4 40 Tryz.underlying26 (unhide HI) (unhide HZ).1 (unhide HZ).2.1 (unhide HZ).2.2 rfl (by decide) _ us1.length (cellsN us1) rfl ((unhide HRX).below (below1 _ _)) ⟨w5.heap.size, 0, none⟩ 1 1 (cellsN [⟨o.k, o.t, (us1.length : Int) - 1, 0⟩]) rfl rfl (by simpa using new_newsAt (w5.setCell ⟨w.heap.size + 1 + 1, 2, none⟩ (.int .i64 ((us1.length : Int) - 1))) w5.heap.size ⟨o.k, o.t, (us1.length : Int) - 1, 0⟩ (by simp [World.setCell])) (cellsN_one' _) ?b1 ?b2 ?b3 ?next))
  case b1 => unfold maxLen; omega
  case b2 => omega
  case b3 => first | omega | (have := (unhide HGX).size; simp at this ⊢; omega)
  case next =>
    intro v4 w4 hown4 hgrow4 hnil4 hat4
    have hr4 : RowV w4 B v4 (us1 ++ [⟨o.k, o.t, (us1.length : Int) - 1, 0⟩]) := by
      unfold RowV
      rw [cellsN_append, List.length_append]
      exact hown4
    rw [← unhide HU4] at hr4
    have HGb := hide (grown_below (below1 (w5.setCell ⟨w.heap.size + 1 + 1, 2, none⟩ (.int .i64 ((us1.length : Int) - 1))) _) hgrow4)
    have HAb := hide (show v4.ownBlock = (Value.slice a1 us1.length c1).ownBlock ∨ ∃ k, v4.ownBlock = some k ∧ (w5.setCell ⟨w.heap.size + 1 + 1, 2, none⟩ (.int .i64 ((us1.length : Int) - 1))).heap.size ≤ k from hat4.imp id (fun h => ⟨_, h, by first | exact Nat.le_refl _ | simp⟩))
    have HG4 := hide (grown_trans (unhide HGX) (unhide HGb) (unhide HAX))
    have HA4 := hide (grown_at (unhide HGX) (unhide HAX) v4.ownBlock (unhide HAb))
    have HN4 := hide ((unhide HNX).grown (unhide HGb) (unhide HneX _ (by omega) (by omega)))
    have t4 : w4.cell? ⟨w.heap.size, 0, none⟩ = some (.slice (some ⟨b, off, none⟩) ns.length cap) := (grown_cell (unhide HGb) (b := w.heap.size) (block_lt_of_cell (unhide HTX)) (unhide HneX _ (by omega) (by omega)) 0).trans (unhide HTX)
    have HW4 := hide (ops_grown (unhide HW) (unhide HG4) hb hB (unhide HUB))
    have z4 := (unhide HG4).size
    obtain ⟨n0, n1, n2, n3, _, _⟩ := unhide HN4
    simp only at n0 n1 n2 n3
    obtain ⟨a4, c4, rfl⟩ := row_slice hr4
    have HR4 := hide hr4
    clear hown4 hgrow4 hnil4 hat4 hr4 HGb HAb mk0 mk1 mk2 mk3 HMX HNX HTX HRX HneX HGX HAX
    go_wp2_with fail
    refine (l3Level_any b off cap ns ⟨o.k, o.t, (ja : Int), 0⟩ _ hm (unhide HW4) (by omega) (unhide HKN)).mono ?_
    rintro e w5 ⟨rfl, hb5⟩
    have hlv : levN ns ⟨o.k, o.t, (ja : Int), 0⟩ = levN ns o := rfl
    rw [hlv]
    have HG5 := hide (grown_trans (unhide HG4) (grown_belN hb5 u.ownBlock) (Or.inl rfl))
    have HR5 := hide ((unhide HR4).below hb5)
    have z5 : w.heap.size ≤ w5.heap.size := Nat.le_trans z4 hb5.size
    clear hlv hb5 HG4 HR4 HN4 HW4 t4 n0 n1 n2 n3 z4
    by_cases hl : levN ns o < least
    · have HVS := hide ((unhide HV4).1 (by omega))
      clear HV4
      go_wp2_with (at_builtin; refine wpList_append_own_at _ rfl (.tmp 65) (.tmp 70) 26 rfl B 81 i0 _ 4 40 Tryz.underlying26 (unhide HI) (unhide HZ).1 (unhide HZ).2.1 (unhide HZ).2.2 rfl (by decide) _ us4.length (cellsN us4) rfl ((unhide HR5).below (below1 _ _)) ⟨w5.heap.size, 0, none⟩ 1 1 (cellsN [⟨6, ⟨#[]⟩, (us4.length : Int) - 1, 0⟩]) rfl rfl (by simpa using new_newsN w5 ⟨6, ⟨#[]⟩, (us4.length : Int) - 1, 0⟩) (cellsN_one' _) ?b4 ?b5 ?b6 ?next2)
      case b4 => unfold maxLen; omega
      case b5 => omega
      case b6 => first | omega | (simp; omega)
      case next2 =>
        intro v6 w6 hown6 hgrow6 hnil6 hat6
        have HO6 := hide (show RowV w6 B v6 vs by
          rw [unhide HVS]
          unfold RowV
          rw [cellsN_append, List.length_append]
          exact hown6)
        have HGc := hide (grown_below (below1 w5 _) hgrow6)
        have HG6 := hide (grown_trans (unhide HG5) (unhide HGc) (unhide HA4))
        have HA6 := hide (grown_at (unhide HG5) (unhide HA4) v6.ownBlock (hat6.imp id (fun h => ⟨_, h, by first | exact Nat.le_refl _ | simp⟩)))
        clear hown6 hgrow6 hnil6 hat6 HGc HG5 HR5
        go_wp2_with fail
        go_ret
        exact ⟨v6, rfl, HO6, HG6, HA6⟩
    · have HVS := hide ((unhide HV4).2 (by omega))
      clear HV4
      go_wp2_with fail
      go_ret
      exact ⟨_, rfl, by rw [unhide HVS]; exact HR5, HG5, HA4⟩
end Go.Proofs.YtfboipappaonhaaGreat

/-
  Walks: the specification's l4Grouped, at nodes with two kids.
-/
namespace Go.Proofs.YtfboipappaonhaaGreat
set_option maxRecDepth 100000
set_option linter.unusedSimpArgs false
set_option linter.unusedVariables false
open Go.RowKit

set_option maxHeartbeats 6000000 in
theorem lg_two (b off cap bz offz cz j ja jb jj : Nat) (ns : List OpR) (zs : List NodeR) (o : NodeR) (least : Int) (B : Nat) (u : Value) (us us1 us2 vs : List NodeR) (w : World) (hm : ns.length ≤ 1048576) (hsz : Sized ns) (hw : Ops w b off ns) (hb : b < B) (hwz : OpsN w bz offz zs) (hbz : bz < B) (hB : B ≤ w.heap.size) (hrow : RowV w B u us) (hj : j < zs.length) (hzl : zs.length ≤ 20000) (ho : atN zs j = ⟨o.k, o.t, (ja : Int), (jb : Int)⟩) (hop : isOpN o) (hk : kids o.k = 2) (hf : fnd ns o.t (o.k - 2) = some jj) (hlen : us2.length ≤ 90000) {U U2 : List NodeR} (hu1 : us1 = us ++ U) (hu2 : us2 = us1 ++ U2) (hvs : vs = us ++ clos ns o least us.length ((U ++ U2) ++ [⟨o.k, o.t, (us1.length : Int) - 1, (us2.length : Int) - 1⟩]))
    (hc : ∀ W, Ops W b off ns → OpsN W bz offz zs → B ≤ W.heap.size → RowV W B u us → Calls Tryz.prog 52 #[.agg #[.slice (some ⟨b, off, none⟩) ns.length cap], .slice (some ⟨bz, offz, none⟩) zs.length cz, .int .i64 (ja : Int), .int .i64 (holeI (atO ns jj).s (atO ns jj).k (atO ns jj).l (atO ns jj).sd false), u] W (AppPost W B u us1))
    (hc2 : ∀ u' W, Ops W b off ns → OpsN W bz offz zs → B ≤ W.heap.size → RowV W B u' us1 → Calls Tryz.prog 52 #[.agg #[.slice (some ⟨b, off, none⟩) ns.length cap], .slice (some ⟨bz, offz, none⟩) zs.length cz, .int .i64 (jb : Int), .int .i64 (holeI (atO ns jj).s (atO ns jj).k (atO ns jj).l (atO ns jj).sd true), u'] W (AppPost W B u' us2)) :
    Calls Tryz.prog 52 #[.agg #[.slice (some ⟨b, off, none⟩) ns.length cap], .slice (some ⟨bz, offz, none⟩) zs.length cz, .int .i64 (j : Int), .int .i64 least, u] w (AppPost w B u vs) := by
  obtain ⟨us4, HU4'⟩ : ∃ us4, Hid (us4 = us ++ ((U ++ U2) ++ [⟨o.k, o.t, (us1.length : Int) - 1, (us2.length : Int) - 1⟩])) := ⟨_, hide rfl⟩
  have HU4 := HU4'
  have HU4e : us4 = us2 ++ [⟨o.k, o.t, (us1.length : Int) - 1, (us2.length : Int) - 1⟩] := by
    rw [unhide HU4', ← List.append_assoc, ← List.append_assoc, ← hu1, ← hu2]
  have hl4 : us4.length ≤ 90001 := by rw [HU4e, List.length_append]; simp; omega
  have hl1 : us1.length ≤ 90000 := by rw [hu2, List.length_append] at hlen; omega
  obtain ⟨i0, hi0, hz0, hz1, hz2⟩ := info_parts' infoN
  have HI := hide hi0
  have HZ := hide (And.intro hz0 (And.intro hz1 hz2))
  clear hi0 hz0 hz1 hz2
  have hjI : (j : Int) < (zs.length : Int) := by omega
  have hbzw : bz < w.heap.size := by omega
  have hbw : b < w.heap.size := by omega
  obtain ⟨h0, h1, h2, h3⟩ := hwz j hj
  rw [ho] at h0 h1 h2 h3
  simp only at h0 h1 h2 h3
  have HD := hide (show true = decide (3 ≤ o.k ∧ o.k ≤ 5) by rw [eq_comm, decide_eq_true_iff]; exact hop)
  have h3k := hop.1
  have h5k := hop.2
  have HF := hide hf
  have hjj := (fnd_some hf).1
  have HSJ := hide (hsz jj hjj)
  have HKN := hide (show 3 ≤ o.k → o.k ≤ 5 → fnd ns o.t (o.k - 2) ≠ none from fun _ _ => by rw [hf]; simp)
  have HV4 := hide (clos_row hvs (unhide HU4))
  have HUB := hide hrow.base
  have hne0 : ∀ x, w.heap.size ≤ x → u.ownBlock ≠ some x := fun x hx e => by have := hrow.lt _ e; omega
  obtain ⟨a0, c0, rfl⟩ := row_slice hrow
  obtain ⟨u, hu⟩ : ∃ u, u = Value.slice a0 us.length c0 := ⟨_, rfl⟩
  have HNE := hide hne0
  have HW := hide hw
  have HWZ := hide hwz
  have HRC := hide hrow
  have HB3 := hide (show ∀ o1 o2 o3 : Obj, Below w.heap.size w (((w.alloc o1).alloc o2).alloc o3) from fun o1 o2 o3 => ((below1 w o1).alloc (by simp) o2).alloc (by simp; omega) o3)
  have HPU := hide (show AppPost w B (Value.slice a0 us.length c0) vs = AppPost w B u vs by rw [hu])
  rw [unhide HPU]
  have HUE := hide hu
  rw [← hu] at HUB
  have HC := hide hc
  have HK1 := hide hk
  have HC2 := hide hc2
  replace HU4 := hide HU4e
  clear hk hu1 hu2 HU4' HU4e hc2
  clear hw hwz hrow ho hvs hne0 hu HPU hc hop hf
  go_enter Tryz.func52, Tryz.ntmps52
  go_wp2_with fail
  refine (l3IsOp_any ⟨o.k, o.t, (ja : Int), (jb : Int)⟩ _ true (unhide HD)).mono ?_
  rintro e w1 ⟨rfl, hb1⟩
  have bel1 : Below w.heap.size w w1 := ((unhide HB3) _ _ _).trans (hb1.mono (by simp; omega))
  have t1 : w1.cell? ⟨w.heap.size, 0, none⟩ = some (.slice (some ⟨b, off, none⟩) ns.length cap) := (hb1.cell (p := ⟨w.heap.size, 0, none⟩) (by simp; omega)).trans (by simp [go_sem])
  have HN1 := hide (show NodAt w1 (w.heap.size + 1) ⟨o.k, o.t, (ja : Int), (jb : Int)⟩ from NodAt.below ⟨by simp [go_sem], by simp [go_sem], by simp [go_sem], by simp [go_sem], by simp [go_sem], by simp [go_sem]⟩ hb1)
  have HM1 := hide (show NodAt w1 (w.heap.size + 1 + 1) ⟨o.k, o.t, 0, 0⟩ from NodAt.below ⟨by simp [go_sem], by simp [go_sem], by simp [go_sem], by simp [go_sem], by simp [go_sem], by simp [go_sem]⟩ hb1)
  have z1 : w.heap.size + 3 ≤ w1.heap.size := by have := hb1.size; simp at this; omega
  obtain ⟨n0, n1, n2, n3, _, _⟩ := unhide HN1
  simp only at n0 n1 n2 n3
  clear hb1 HB3
  go_wp2_with fail
  refine (l3OpOf_any b off cap ns ⟨o.k, o.t, (ja : Int), (jb : Int)⟩ jj _ hm ((unhide HW).below bel1 hbw) (by omega) h3k h5k (unhide HF)).mono ?_
  rintro e w2 ⟨rfl, hb2⟩
  have bel2 := bel1.trans (hb2.mono bel1.size)
  have z2 : w.heap.size + 3 ≤ w2.heap.size := Nat.le_trans z1 hb2.size
  have hbC : Below w2.heap.size w2 (w2.alloc (.cells #[.string (atO ns jj).s, .int .i64 (atO ns jj).k, .int .i64 (atO ns jj).l, .int .i64 (atO ns jj).sd] 123)).drew := (below1 _ _).drew
  have HTC := hide (show (w2.alloc (.cells #[.string (atO ns jj).s, .int .i64 (atO ns jj).k, .int .i64 (atO ns jj).l, .int .i64 (atO ns jj).sd] 123)).drew.cell? ⟨w.heap.size, 0, none⟩ = some (.slice (some ⟨b, off, none⟩) ns.length cap) from (hbC.cell (p := ⟨w.heap.size, 0, none⟩) (show w.heap.size < w2.heap.size by omega)).trans ((hb2.cell (p := ⟨w.heap.size, 0, none⟩) (show w.heap.size < w1.heap.size by omega)).trans t1))
  have HNC := hide (((unhide HN1).below hb2).below hbC)
  have HMC := hide (((unhide HM1).below hb2).below hbC)
  have HOC := hide (show OpAt (w2.alloc (.cells #[.string (atO ns jj).s, .int .i64 (atO ns jj).k, .int .i64 (atO ns jj).l, .int .i64 (atO ns jj).sd] 123)).drew w2.heap.size (atO ns jj) from OpAt.below (w := w2.alloc (.cells #[.string (atO ns jj).s, .int .i64 (atO ns jj).k, .int .i64 (atO ns jj).l, .int .i64 (atO ns jj).sd] 123)) ⟨by simp [go_sem], by simp [go_sem], by simp [go_sem], by simp [go_sem]⟩ (Below.refl _ _).drew)
  have HBC := hide (bel2.trans (hbC.mono bel2.size))
  replace HRC := hide ((unhide HRC).below (unhide HBC))
  have HZC := hide (show w2.heap.size + 1 ≤ (w2.alloc (.cells #[.string (atO ns jj).s, .int .i64 (atO ns jj).k, .int .i64 (atO ns jj).l, .int .i64 (atO ns jj).sd] 123)).drew.heap.size by simp)
  clear hb2 hbC t1 HN1 HM1 n0 n1 n2 n3 bel1 bel2
  go_wp2_with fail
  go_region_held (fun w' => w'.cell? ⟨w.heap.size, 0, none⟩ = some (.slice (some ⟨b, off, none⟩) ns.length cap) ∧ w'.cell? ⟨w.heap.size + 1, 2, none⟩ = some (.int .i64 (ja : Int)) ∧ w'.cell? ⟨w2.heap.size, 0, none⟩ = some (.string (atO ns jj).s) ∧ w'.cell? ⟨w2.heap.size, 1, none⟩ = some (.int .i64 (atO ns jj).k) ∧ w'.cell? ⟨w2.heap.size, 2, none⟩ = some (.int .i64 (atO ns jj).l) ∧ w'.cell? ⟨w2.heap.size, 3, none⟩ = some (.int .i64 (atO ns jj).sd)) (first | (go_keep; done) | exact ⟨unhide HTC, (unhide HNC).2.2.1, (unhide HOC).1, (unhide HOC).2.1, (unhide HOC).2.2.1, (unhide HOC).2.2.2⟩)
    (first | (go_at_call 99; refine (specHole_any (atO ns jj).s (atO ns jj).k (atO ns jj).l (atO ns jj).sd false _ (unhide HSJ)).mono ?_; rintro e w3 ⟨rfl, hb3⟩; have hp3 := hb3; replace HTC := hide ((hb3.cell (p := ⟨w.heap.size, 0, none⟩) (block_lt_of_cell (unhide HTC))).trans (unhide HTC)); replace HNC := hide ((unhide HNC).below hb3); replace HMC := hide ((unhide HMC).below hb3); replace HOC := hide ((unhide HOC).below hb3); replace HRC := hide ((unhide HRC).below hb3); replace HBC := hide ((unhide HBC).trans (hp3.mono (unhide HBC).size)); replace HZC := hide (Nat.le_trans (unhide HZC) hb3.size); clear hb3 hp3) | (go_at_call 52; refine ((unhide HC) _ ((unhide HW).below (unhide HBC) hbw) ((unhide HWZ).below (unhide HBC) hbzw) (Nat.le_trans hB (unhide HBC).size) (unhide HRC)).mono ?_; rintro x w5 ⟨u1, rfl, hr5, hg5, ho5⟩; replace HTC := hide ((grown_cell (unhide hg5) (b := w.heap.size) (block_lt_of_cell (unhide HTC)) ((unhide HNE) _ (by omega)) 0).trans (unhide HTC)); replace HNC := hide ((unhide HNC).grown (unhide hg5) ((unhide HNE) _ (by omega))); replace HMC := hide ((unhide HMC).grown (unhide hg5) ((unhide HNE) _ (by omega))); replace HOC := hide ((unhide HOC).grown (unhide hg5) ((unhide HNE) _ (by omega))); have HGX := hide (grown_below (unhide HBC) (unhide hg5)); have HA5 := hide ((unhide ho5).imp id (fun ⟨k, h1, h2⟩ => ⟨k, h1, Nat.le_trans (unhide HZC) h2⟩) : u1.ownBlock = (Value.slice a0 us.length c0).ownBlock ∨ ∃ k, u1.ownBlock = some k ∧ w2.heap.size + 1 ≤ k); obtain ⟨a1, c1, rfl⟩ := row_slice (unhide hr5); have HRX := hr5; clear hg5 ho5 hr5 HRC HBC))
  rw [← unhide HUE] at HGX HA5
  have HNE1 := hide (show ∀ x, w.heap.size ≤ x → x < w2.heap.size + 1 → (Value.slice a1 us1.length c1).ownBlock ≠ some x from fun x hx hx2 e => by
    rcases unhide HA5 with h | ⟨k, h1, h2⟩
    · exact (unhide HNE) x hx (by rw [← unhide HUE, ← h]; exact e)
    · rw [h1] at e; injection e with e; omega)
  have HneX := hide (show ∀ x, w.heap.size ≤ x → x < w.heap.size + 3 → (Value.slice a1 us1.length c1).ownBlock ≠ some x from fun x hx hx2 => (unhide HNE1) x hx (by omega))
  have HAX := hide (show (Value.slice a1 us1.length c1).ownBlock = u.ownBlock ∨ ∃ k, (Value.slice a1 us1.length c1).ownBlock = some k ∧ w.heap.size ≤ k from (unhide HA5).imp id (fun ⟨k, h1, h2⟩ => ⟨k, h1, by omega⟩))
  have mc := unhide HMC
  obtain ⟨mm0, mm1, mm2, mm3, mm4, mm5⟩ := mc
  simp only at mm0 mm1 mm2 mm3
  have nc := unhide HNC
  obtain ⟨nn0, nn1, nn2, nn3, _, _⟩ := nc
  simp only at nn0 nn1 nn2 nn3
  have n0' : (w5.setCell ⟨w.heap.size + 1 + 1, 2, none⟩ (.int .i64 ((us1.length : Int) - 1))).cell? ⟨w.heap.size + 1, 0, none⟩ = some (.int .i64 o.k) := (World.cell?_setCell_other _ _ _ _ (fun x => by injection x with x1; omega)).trans nn0
  replace HMC := hide ((unhide HMC).set2 ((us1.length : Int) - 1))
  replace HNC := hide ((unhide HNC).other (g := w.heap.size + 1 + 1) (j := 2) (.int .i64 ((us1.length : Int) - 1)) (by omega))
  replace HTC := hide ((World.cell?_setCell_other w5 ⟨w.heap.size + 1 + 1, 2, none⟩ ⟨w.heap.size, 0, none⟩ (.int .i64 ((us1.length : Int) - 1)) (fun x => by injection x with x1; omega)).trans (unhide HTC))
  replace HRX := hide ((unhide HRX).other (g := w.heap.size + 1 + 1) (j := 2) (.int .i64 ((us1.length : Int) - 1)) ((unhide HneX) _ (by omega) (by omega)))
  replace HGX := hide (grown_trans (unhide HGX) (⟨rfl, rfl, rfl, by simp [World.setCell], fun i _ hi => Below.heap_setCell _ _ _ _ (fun e => hi (by rw [e]))⟩ : w5.grownBy (w5.setCell ⟨w.heap.size + 1 + 1, 2, none⟩ (.int .i64 ((us1.length : Int) - 1))) (some (w.heap.size + 1 + 1))) (Or.inr ⟨_, rfl, by omega⟩))
  replace HOC := hide ((unhide HOC).other (g := w.heap.size + 1 + 1) (j := 2) (.int .i64 ((us1.length : Int) - 1)) (by omega))
  have HZX := hide (show w2.heap.size + 1 ≤ w5.heap.size from Nat.lt_of_lt_of_le (by have := block_lt_of_cell (unhide HOC).1; simpa [World.setCell] using this) (Nat.le_refl _))
  clear nn0 nn1 nn2 nn3 mm0 mm1 mm3 mm5 HC n0'
  replace HTC := hide ((show Below (w5.setCell ⟨w.heap.size + 1 + 1, 2, none⟩ (.int .i64 ((us1.length : Int) - 1))).heap.size (w5.setCell ⟨w.heap.size + 1 + 1, 2, none⟩ (.int .i64 ((us1.length : Int) - 1))) (w5.setCell ⟨w.heap.size + 1 + 1, 2, none⟩ (.int .i64 ((us1.length : Int) - 1))).drew from (Below.refl _ _).drew).cell (p := ⟨w.heap.size, 0, none⟩) (block_lt_of_cell (unhide HTC)) |>.trans (unhide HTC))
  replace HNC := hide ((unhide HNC).below (Below.refl _ _).drew)
  replace HMC := hide ((unhide HMC).below (Below.refl _ _).drew)
  replace HOC := hide ((unhide HOC).below (Below.refl _ _).drew)
  replace HRX := hide ((unhide HRX).below (Below.refl _ _).drew)
  replace HGX := hide (grown_trans (unhide HGX) (grown_belN ((Below.refl _ _).drew) u.ownBlock) (Or.inl rfl))
  replace HZX := hide (show w2.heap.size + 1 ≤ (w5.setCell ⟨w.heap.size + 1 + 1, 2, none⟩ (.int .i64 ((us1.length : Int) - 1))).drew.heap.size by have := unhide HZX; simpa [World.setCell] using this)
  have n0' : (w5.setCell ⟨w.heap.size + 1 + 1, 2, none⟩ (.int .i64 ((us1.length : Int) - 1))).cell? ⟨w.heap.size + 1, 0, none⟩ = some (.int .i64 o.k) := (unhide HNC).1
  go_wp2_with (go_at_call 55; refine (l3Kids_is (unhide HK1) 2 rfl _).mono ?_; rintro e w' ⟨rfl, rfl⟩)
  clear n0' mm2 mm4
  go_region_held (fun w' => w'.cell? ⟨w.heap.size, 0, none⟩ = some (.slice (some ⟨b, off, none⟩) ns.length cap) ∧ w'.cell? ⟨w.heap.size + 1, 3, none⟩ = some (.int .i64 (jb : Int)) ∧ w'.cell? ⟨w2.heap.size, 0, none⟩ = some (.string (atO ns jj).s) ∧ w'.cell? ⟨w2.heap.size, 1, none⟩ = some (.int .i64 (atO ns jj).k) ∧ w'.cell? ⟨w2.heap.size, 2, none⟩ = some (.int .i64 (atO ns jj).l) ∧ w'.cell? ⟨w2.heap.size, 3, none⟩ = some (.int .i64 (atO ns jj).sd)) (first | (go_keep; done) | exact ⟨unhide HTC, (unhide HNC).2.2.2.1, (unhide HOC).1, (unhide HOC).2.1, (unhide HOC).2.2.1, (unhide HOC).2.2.2⟩)
    (first | (go_at_call 99; refine (specHole_any (atO ns jj).s (atO ns jj).k (atO ns jj).l (atO ns jj).sd true _ (unhide HSJ)).mono ?_; rintro e w6 ⟨rfl, hb3⟩; have hp3 := hb3; replace HTC := hide ((hb3.cell (p := ⟨w.heap.size, 0, none⟩) (block_lt_of_cell (unhide HTC))).trans (unhide HTC)); replace HNC := hide ((unhide HNC).below hb3); replace HMC := hide ((unhide HMC).below hb3); replace HOC := hide ((unhide HOC).below hb3); replace HRX := hide ((unhide HRX).below hb3); replace HGX := hide (grown_trans (unhide HGX) (grown_belN hb3 u.ownBlock) (Or.inl rfl)); replace HZX := hide (Nat.le_trans (unhide HZX) hb3.size); clear hb3 hp3) | (go_at_call 52; refine ((unhide HC2) _ _ (ops_grown (unhide HW) (unhide HGX) hb hB (unhide HUB)) (opsN_grown (unhide HWZ) (unhide HGX) hbz hB (unhide HUB)) (Nat.le_trans hB (unhide HGX).size) (unhide HRX)).mono ?_; rintro x w7 ⟨u2, rfl, hr7, hg7, ho7⟩; replace HTC := hide ((grown_cell (unhide hg7) (b := w.heap.size) (block_lt_of_cell (unhide HTC)) ((unhide HNE1) _ (by omega) (by omega)) 0).trans (unhide HTC)); replace HNC := hide ((unhide HNC).grown (unhide hg7) ((unhide HNE1) _ (by omega) (by omega))); replace HMC := hide ((unhide HMC).grown (unhide hg7) ((unhide HNE1) _ (by omega) (by omega))); replace HOC := hide ((unhide HOC).grown (unhide hg7) ((unhide HNE1) _ (by omega) (by omega))); replace HGX := hide (grown_trans (unhide HGX) (unhide hg7) (unhide HAX)); have HA7 := hide ((unhide ho7).imp id (fun ⟨k, h1, h2⟩ => ⟨k, h1, Nat.le_trans (unhide HZX) h2⟩) : u2.ownBlock = (Value.slice a1 us1.length c1).ownBlock ∨ ∃ k, u2.ownBlock = some k ∧ w2.heap.size + 1 ≤ k); obtain ⟨a2, c2, rfl⟩ := row_slice (unhide hr7); replace HRX := hr7; clear hg7 ho7 hr7))
  have HneX2 := hide (show ∀ x, w.heap.size ≤ x → x < w.heap.size + 3 → (Value.slice a2 us2.length c2).ownBlock ≠ some x from fun x hx hx2 e => by
    rcases unhide HA7 with h | ⟨k, h1, h2⟩
    · exact (unhide HneX) x hx hx2 (by rw [← h]; exact e)
    · rw [h1] at e; injection e with e; omega)
  have HAX2 := hide (show (Value.slice a2 us2.length c2).ownBlock = u.ownBlock ∨ ∃ k, (Value.slice a2 us2.length c2).ownBlock = some k ∧ w.heap.size ≤ k by
    rcases unhide HA7 with h | ⟨k, h1, h2⟩
    · rw [h]; exact unhide HAX
    · exact Or.inr ⟨k, h1, by omega⟩)
  clear HneX HAX HNE1 HA5 HA7
  have HneX := HneX2
  have HAX := HAX2
  clear HneX2 HAX2
  obtain ⟨mm0, mm1, mm2, mm3, mm4, mm5⟩ := unhide HMC
  simp only at mm0 mm1 mm2 mm3
  replace HMC := hide ((unhide HMC).set3 ((us2.length : Int) - 1))
  replace HNC := hide ((unhide HNC).other (g := w.heap.size + 1 + 1) (j := 3) (.int .i64 ((us2.length : Int) - 1)) (by omega))
  replace HTC := hide ((World.cell?_setCell_other w7 ⟨w.heap.size + 1 + 1, 3, none⟩ ⟨w.heap.size, 0, none⟩ (.int .i64 ((us2.length : Int) - 1)) (fun x => by injection x with x1; omega)).trans (unhide HTC))
  replace HRX := hide ((unhide HRX).other (g := w.heap.size + 1 + 1) (j := 3) (.int .i64 ((us2.length : Int) - 1)) ((unhide HneX) _ (by omega) (by omega)))
  replace HGX := hide (grown_trans (unhide HGX) (⟨rfl, rfl, rfl, by simp [World.setCell], fun i _ hi => Below.heap_setCell _ _ _ _ (fun e => hi (by rw [e]))⟩ : w7.grownBy (w7.setCell ⟨w.heap.size + 1 + 1, 3, none⟩ (.int .i64 ((us2.length : Int) - 1))) (some (w.heap.size + 1 + 1))) (Or.inr ⟨_, rfl, by omega⟩))
  have HMX := HMC
  have HNX := HNC
  have HTX := HTC
  clear HMC HNC HTC HOC HZX mm0 mm1 mm2 mm4 HC2 HNE HWZ
  obtain ⟨mk0, mk1, mk2, mk3, _, _⟩ := unhide HMX
  simp only at mk0 mk1 mk2 mk3
  go_wp2_with (at_builtin; refine wpList_append_own_at _ rfl (.tmp 56) (.tmp 58) 26 rfl B 81 i0 _ 4 40 Tryz.underlying26 (unhide HI) (unhide HZ).1 (unhide HZ).2.1 (unhide HZ).2.2 rfl (by decide) _ us2.length (cellsN us2) rfl ((unhide HRX).below (below1 _ _)) ⟨w7.heap.size, 0, none⟩ 1 1 (cellsN [⟨o.k, o.t, (us1.length : Int) - 1, (us2.length : Int) - 1⟩]) rfl rfl (by simpa using new_newsAt (w7.setCell ⟨w.heap.size + 1 + 1, 3, none⟩ (.int .i64 ((us2.length : Int) - 1))) w7.heap.size ⟨o.k, o.t, (us1.length : Int) - 1, (us2.length : Int) - 1⟩ (by simp [World.setCell])) (cellsN_one' _) ?b1 ?b2 ?b3 ?next)
  case b1 => unfold maxLen; omega
  case b2 => omega
  case b3 => first | omega | (have := (unhide HGX).size; simp at this ⊢; omega)
  case next =>
    intro v4 w4 hown4 hgrow4 hnil4 hat4
    have hr4 : RowV w4 B v4 (us2 ++ [⟨o.k, o.t, (us1.length : Int) - 1, (us2.length : Int) - 1⟩]) := by
      unfold RowV
      rw [cellsN_append, List.length_append]
      exact hown4
    rw [← unhide HU4] at hr4
    have HGb := hide (grown_below (below1 (w7.setCell ⟨w.heap.size + 1 + 1, 3, none⟩ (.int .i64 ((us2.length : Int) - 1))) _) hgrow4)
    have HAb := hide (show v4.ownBlock = (Value.slice a2 us2.length c2).ownBlock ∨ ∃ k, v4.ownBlock = some k ∧ (w7.setCell ⟨w.heap.size + 1 + 1, 3, none⟩ (.int .i64 ((us2.length : Int) - 1))).heap.size ≤ k from hat4.imp id (fun h => ⟨_, h, by first | exact Nat.le_refl _ | simp⟩))
    have HG4 := hide (grown_trans (unhide HGX) (unhide HGb) (unhide HAX))
    have HA4 := hide (grown_at (unhide HGX) (unhide HAX) v4.ownBlock (unhide HAb))
    have HN4 := hide ((unhide HNX).grown (unhide HGb) (unhide HneX _ (by omega) (by omega)))
    have t4 : w4.cell? ⟨w.heap.size, 0, none⟩ = some (.slice (some ⟨b, off, none⟩) ns.length cap) := (grown_cell (unhide HGb) (b := w.heap.size) (block_lt_of_cell (unhide HTX)) (unhide HneX _ (by omega) (by omega)) 0).trans (unhide HTX)
    have HW4 := hide (ops_grown (unhide HW) (unhide HG4) hb hB (unhide HUB))
    have z4 := (unhide HG4).size
    obtain ⟨n0, n1, n2, n3, _, _⟩ := unhide HN4
    simp only at n0 n1 n2 n3
    obtain ⟨a4, c4, rfl⟩ := row_slice hr4
    have HR4 := hide hr4
    clear hown4 hgrow4 hnil4 hat4 hr4 HGb HAb mk0 mk1 mk2 mk3 HMX HNX HTX HRX HneX HGX HAX
    go_wp2_with fail
    refine (l3Level_any b off cap ns ⟨o.k, o.t, (ja : Int), (jb : Int)⟩ _ hm (unhide HW4) (by omega) (unhide HKN)).mono ?_
    rintro e w5 ⟨rfl, hb5⟩
    have hlv : levN ns ⟨o.k, o.t, (ja : Int), (jb : Int)⟩ = levN ns o := rfl
    rw [hlv]
    have HG5 := hide (grown_trans (unhide HG4) (grown_belN hb5 u.ownBlock) (Or.inl rfl))
    have HR5 := hide ((unhide HR4).below hb5)
    have z5 : w.heap.size ≤ w5.heap.size := Nat.le_trans z4 hb5.size
    clear hlv hb5 HG4 HR4 HN4 HW4 t4 n0 n1 n2 n3 z4
    by_cases hl : levN ns o < least
    · have HVS := hide ((unhide HV4).1 (by omega))
      clear HV4
      go_wp2_with (at_builtin; refine wpList_append_own_at _ rfl (.tmp 65) (.tmp 70) 26 rfl B 81 i0 _ 4 40 Tryz.underlying26 (unhide HI) (unhide HZ).1 (unhide HZ).2.1 (unhide HZ).2.2 rfl (by decide) _ us4.length (cellsN us4) rfl ((unhide HR5).below (below1 _ _)) ⟨w5.heap.size, 0, none⟩ 1 1 (cellsN [⟨6, ⟨#[]⟩, (us4.length : Int) - 1, 0⟩]) rfl rfl (by simpa using new_newsN w5 ⟨6, ⟨#[]⟩, (us4.length : Int) - 1, 0⟩) (cellsN_one' _) ?b4 ?b5 ?b6 ?next2)
      case b4 => unfold maxLen; omega
      case b5 => omega
      case b6 => first | omega | (simp; omega)
      case next2 =>
        intro v6 w6 hown6 hgrow6 hnil6 hat6
        have HO6 := hide (show RowV w6 B v6 vs by
          rw [unhide HVS]
          unfold RowV
          rw [cellsN_append, List.length_append]
          exact hown6)
        have HGc := hide (grown_below (below1 w5 _) hgrow6)
        have HG6 := hide (grown_trans (unhide HG5) (unhide HGc) (unhide HA4))
        have HA6 := hide (grown_at (unhide HG5) (unhide HA4) v6.ownBlock (hat6.imp id (fun h => ⟨_, h, by first | exact Nat.le_refl _ | simp⟩)))
        clear hown6 hgrow6 hnil6 hat6 HGc HG5 HR5
        go_wp2_with fail
        go_ret
        exact ⟨v6, rfl, HO6, HG6, HA6⟩
    · have HVS := hide ((unhide HV4).2 (by omega))
      clear HV4
      go_wp2_with fail
      go_ret
      exact ⟨_, rfl, by rw [unhide HVS]; exact HR5, HG5, HA4⟩
end Go.Proofs.YtfboipappaonhaaGreat
