import Derived.Test.YtokabkhnidlcnabGreatS01

/-
  Walks: the specification's l4Grouped, at nodes with one kid.
-/
namespace Go.Proofs.YtokabkhnidlcnabGreat
set_option maxRecDepth 100000
set_option linter.unusedSimpArgs false
set_option linter.unusedVariables false
open Go.RowKit

set_option maxHeartbeats 4000000 in
theorem lg_one (b off cap bz offz cz j ja jj : Nat) (ns : List OpR) (zs : List NodeR) (o : NodeR) (least : Int) (B : Nat) (u : Value) (us us1 vs : List NodeR) (w : World) (hm : ns.length ≤ 1048576) (hsz : Sized ns) (hw : Ops w b off ns) (hb : b < B) (hwz : OpsN w bz offz zs) (hbz : bz < B) (hB : B ≤ w.heap.size) (hrow : RowV w B u us) (hj : j < zs.length) (hzl : zs.length ≤ 20000) (ho : atN zs j = ⟨o.k, o.t, (ja : Int), 0⟩) (hop : isOpN o) (hk : kids o.k = 1) (hf : fnd ns o.t (o.k - 2) = some jj) (hlen : us1.length ≤ 90000) {U : List NodeR} (hu1 : us1 = us ++ U) (hvs : vs = us ++ clos ns o least us.length (U ++ [⟨o.k, o.t, (us1.length : Int) - 1, 0⟩]))
    (hc : ∀ W, Ops W b off ns → OpsN W bz offz zs → B ≤ W.heap.size → RowV W B u us → Calls Tryz.prog 81 #[.agg #[.slice (some ⟨b, off, none⟩) ns.length cap], .slice (some ⟨bz, offz, none⟩) zs.length cz, .int .i64 (ja : Int), .int .i64 (holeI (atO ns jj).s (atO ns jj).k (atO ns jj).l (atO ns jj).sd false), u] W (AppPost W B u us1)) :
    Calls Tryz.prog 81 #[.agg #[.slice (some ⟨b, off, none⟩) ns.length cap], .slice (some ⟨bz, offz, none⟩) zs.length cz, .int .i64 (j : Int), .int .i64 least, u] w (AppPost w B u vs) := by
  obtain ⟨us4, HU4'⟩ : ∃ us4, Hid (us4 = us ++ (U ++ [⟨o.k, o.t, (us1.length : Int) - 1, 0⟩])) := ⟨_, hide rfl⟩
  have HU4 := HU4'
  have hl4 : us4.length ≤ 90001 := by rw [unhide HU4', ← List.append_assoc, ← hu1, List.length_append]; simp; omega
  obtain ⟨i0, hi0, hz0, hz1, hz2⟩ := info_parts' infoN
  have HI := hide hi0
  have HZ := hide (And.intro hz0 (And.intro hz1 hz2))
  clear hi0 hz0 hz1 hz2
  have hjI : (j : Int) < (zs.length : Int) := by omega
  have hbzw : bz < w.heap.size := by omega
  have hbw : b < w.heap.size := by omega
  obtain ⟨h0, h1, h2, h3⟩ := hwz j hj
  rw [ho] at h0 h1 h2 h3
  simp only at h0 h1 h2 h3
  have HD := hide (show true = decide (3 ≤ o.k ∧ o.k ≤ 5) by rw [eq_comm, decide_eq_true_iff]; exact hop)
  have h3k := hop.1
  have h5k := hop.2
  have HF := hide hf
  have hjj := (fnd_some hf).1
  have HSJ := hide (hsz jj hjj)
  have HKN := hide (show 3 ≤ o.k → o.k ≤ 5 → fnd ns o.t (o.k - 2) ≠ none from fun _ _ => by rw [hf]; simp)
  have HV4 := hide (clos_row hvs (unhide HU4))
  have HUB := hide hrow.base
  have hne0 : ∀ x, w.heap.size ≤ x → u.ownBlock ≠ some x := fun x hx e => by have := hrow.lt _ e; omega
  obtain ⟨a0, c0, rfl⟩ := row_slice hrow
  obtain ⟨u, hu⟩ : ∃ u, u = Value.slice a0 us.length c0 := ⟨_, rfl⟩
  have HNE := hide hne0
  have HW := hide hw
  have HWZ := hide hwz
  have HRC := hide hrow
  have HB3 := hide (show ∀ o1 o2 o3 : Obj, Below w.heap.size w (((w.alloc o1).alloc o2).alloc o3) from fun o1 o2 o3 => ((below1 w o1).alloc (by simp) o2).alloc (by simp; omega) o3)
  have HPU := hide (show AppPost w B (Value.slice a0 us.length c0) vs = AppPost w B u vs by rw [hu])
  rw [unhide HPU]
  have HUE := hide hu
  rw [← hu] at HUB
  have HC := hide hc
  have HK1 := hide hk
  replace HU4 := hide (show us4 = us1 ++ [⟨o.k, o.t, (us1.length : Int) - 1, 0⟩] by rw [unhide HU4', ← List.append_assoc, ← hu1])
  clear hk hu1 HU4'
  clear hw hwz hrow ho hvs hne0 hu HPU hc hop hf
  go_enter Tryz.func81, Tryz.ntmps81
  go_wp2_with fail
  refine (l3IsOp_any ⟨o.k, o.t, (ja : Int), 0⟩ _ true (unhide HD)).mono ?_
  rintro e w1 ⟨rfl, hb1⟩
  have bel1 : Below w.heap.size w w1 := ((unhide HB3) _ _ _).trans (hb1.mono (by simp; omega))
  have t1 : w1.cell? ⟨w.heap.size, 0, none⟩ = some (.slice (some ⟨b, off, none⟩) ns.length cap) := (hb1.cell (p := ⟨w.heap.size, 0, none⟩) (by simp; omega)).trans (by simp [go_sem])
  have HN1 := hide (show NodAt w1 (w.heap.size + 1) ⟨o.k, o.t, (ja : Int), 0⟩ from NodAt.below ⟨by simp [go_sem], by simp [go_sem], by simp [go_sem], by simp [go_sem], by simp [go_sem], by simp [go_sem]⟩ hb1)
  have HM1 := hide (show NodAt w1 (w.heap.size + 1 + 1) ⟨o.k, o.t, 0, 0⟩ from NodAt.below ⟨by simp [go_sem], by simp [go_sem], by simp [go_sem], by simp [go_sem], by simp [go_sem], by simp [go_sem]⟩ hb1)
  have z1 : w.heap.size + 3 ≤ w1.heap.size := by have := hb1.size; simp at this; omega
  obtain ⟨n0, n1, n2, n3, _, _⟩ := unhide HN1
  simp only at n0 n1 n2 n3
  clear hb1 HB3
  go_wp2_with fail
  refine (l3OpOf_any b off cap ns ⟨o.k, o.t, (ja : Int), 0⟩ jj _ hm ((unhide HW).below bel1 hbw) (by omega) h3k h5k (unhide HF)).mono ?_
  rintro e w2 ⟨rfl, hb2⟩
  have bel2 := bel1.trans (hb2.mono bel1.size)
  have z2 : w.heap.size + 3 ≤ w2.heap.size := Nat.le_trans z1 hb2.size
  have hbC : Below w2.heap.size w2 (w2.alloc (.cells #[.string (atO ns jj).s, .int .i64 (atO ns jj).k, .int .i64 (atO ns jj).l, .int .i64 (atO ns jj).sd] 104)).drew := (below1 _ _).drew
  have HTC := hide (show (w2.alloc (.cells #[.string (atO ns jj).s, .int .i64 (atO ns jj).k, .int .i64 (atO ns jj).l, .int .i64 (atO ns jj).sd] 104)).drew.cell? ⟨w.heap.size, 0, none⟩ = some (.slice (some ⟨b, off, none⟩) ns.length cap) from (hbC.cell (p := ⟨w.heap.size, 0, none⟩) (show w.heap.size < w2.heap.size by omega)).trans ((hb2.cell (p := ⟨w.heap.size, 0, none⟩) (show w.heap.size < w1.heap.size by omega)).trans t1))
  have HNC := hide (((unhide HN1).below hb2).below hbC)
  have HMC := hide (((unhide HM1).below hb2).below hbC)
  have HOC := hide (show OpAt (w2.alloc (.cells #[.string (atO ns jj).s, .int .i64 (atO ns jj).k, .int .i64 (atO ns jj).l, .int .i64 (atO ns jj).sd] 104)).drew w2.heap.size (atO ns jj) from OpAt.below (w := w2.alloc (.cells #[.string (atO ns jj).s, .int .i64 (atO ns jj).k, .int .i64 (atO ns jj).l, .int .i64 (atO ns jj).sd] 104)) ⟨by simp [go_sem], by simp [go_sem], by simp [go_sem], by simp [go_sem]⟩ (Below.refl _ _).drew)
  have HBC := hide (bel2.trans (hbC.mono bel2.size))
  replace HRC := hide ((unhide HRC).below (unhide HBC))
  have HZC := hide (show w2.heap.size + 1 ≤ (w2.alloc (.cells #[.string (atO ns jj).s, .int .i64 (atO ns jj).k, .int .i64 (atO ns jj).l, .int .i64 (atO ns jj).sd] 104)).drew.heap.size by simp)
  clear hb2 hbC t1 HN1 HM1 n0 n1 n2 n3 bel1 bel2
  go_wp2_with fail
  go_region_held (fun w' => w'.cell? ⟨w.heap.size, 0, none⟩ = some (.slice (some ⟨b, off, none⟩) ns.length cap) ∧ w'.cell? ⟨w.heap.size + 1, 2, none⟩ = some (.int .i64 (ja : Int)) ∧ w'.cell? ⟨w2.heap.size, 0, none⟩ = some (.string (atO ns jj).s) ∧ w'.cell? ⟨w2.heap.size, 1, none⟩ = some (.int .i64 (atO ns jj).k) ∧ w'.cell? ⟨w2.heap.size, 2, none⟩ = some (.int .i64 (atO ns jj).l) ∧ w'.cell? ⟨w2.heap.size, 3, none⟩ = some (.int .i64 (atO ns jj).sd)) (first | (go_keep; done) | exact ⟨unhide HTC, (unhide HNC).2.2.1, (unhide HOC).1, (unhide HOC).2.1, (unhide HOC).2.2.1, (unhide HOC).2.2.2⟩)
    (first | (go_at_call 102; refine (specHole_any (atO ns jj).s (atO ns jj).k (atO ns jj).l (atO ns jj).sd false _ (unhide HSJ)).mono ?_; rintro e w3 ⟨rfl, hb3⟩; have hp3 := hb3; replace HTC := hide ((hb3.cell (p := ⟨w.heap.size, 0, none⟩) (block_lt_of_cell (unhide HTC))).trans (unhide HTC)); replace HNC := hide ((unhide HNC).below hb3); replace HMC := hide ((unhide HMC).below hb3); replace HOC := hide ((unhide HOC).below hb3); replace HRC := hide ((unhide HRC).below hb3); replace HBC := hide ((unhide HBC).trans (hp3.mono (unhide HBC).size)); replace HZC := hide (Nat.le_trans (unhide HZC) hb3.size); clear hb3 hp3) | (go_at_call 81; refine ((unhide HC) _ ((unhide HW).below (unhide HBC) hbw) ((unhide HWZ).below (unhide HBC) hbzw) (Nat.le_trans hB (unhide HBC).size) (unhide HRC)).mono ?_; rintro x w5 ⟨u1, rfl, hr5, hg5, ho5⟩; replace HTC := hide ((grown_cell (unhide hg5) (b := w.heap.size) (block_lt_of_cell (unhide HTC)) ((unhide HNE) _ (by omega)) 0).trans (unhide HTC)); replace HNC := hide ((unhide HNC).grown (unhide hg5) ((unhide HNE) _ (by omega))); replace HMC := hide ((unhide HMC).grown (unhide hg5) ((unhide HNE) _ (by omega))); replace HOC := hide ((unhide HOC).grown (unhide hg5) ((unhide HNE) _ (by omega))); have HGX := hide (grown_below (unhide HBC) (unhide hg5)); have HA5 := hide ((unhide ho5).imp id (fun ⟨k, h1, h2⟩ => ⟨k, h1, Nat.le_trans (unhide HZC) h2⟩) : u1.ownBlock = (Value.slice a0 us.length c0).ownBlock ∨ ∃ k, u1.ownBlock = some k ∧ w2.heap.size + 1 ≤ k); obtain ⟨a1, c1, rfl⟩ := row_slice (unhide hr5); have HRX := hr5; clear hg5 ho5 hr5 HRC HBC))
  rw [← unhide HUE] at HGX HA5
  have HNE1 := hide (show ∀ x, w.heap.size ≤ x → x < w2.heap.size + 1 → (Value.slice a1 us1.length c1).ownBlock ≠ some x from fun x hx hx2 e => by
    rcases unhide HA5 with h | ⟨k, h1, h2⟩
    · exact (unhide HNE) x hx (by rw [← unhide HUE, ← h]; exact e)
    · rw [h1] at e; injection e with e; omega)
  have HneX := hide (show ∀ x, w.heap.size ≤ x → x < w.heap.size + 3 → (Value.slice a1 us1.length c1).ownBlock ≠ some x from fun x hx hx2 => (unhide HNE1) x hx (by omega))
  have HAX := hide (show (Value.slice a1 us1.length c1).ownBlock = u.ownBlock ∨ ∃ k, (Value.slice a1 us1.length c1).ownBlock = some k ∧ w.heap.size ≤ k from (unhide HA5).imp id (fun ⟨k, h1, h2⟩ => ⟨k, h1, by omega⟩))
  have mc := unhide HMC
  obtain ⟨mm0, mm1, mm2, mm3, mm4, mm5⟩ := mc
  simp only at mm0 mm1 mm2 mm3
  have nc := unhide HNC
  obtain ⟨nn0, nn1, nn2, nn3, _, _⟩ := nc
  simp only at nn0 nn1 nn2 nn3
  have n0' : (w5.setCell ⟨w.heap.size + 1 + 1, 2, none⟩ (.int .i64 ((us1.length : Int) - 1))).cell? ⟨w.heap.size + 1, 0, none⟩ = some (.int .i64 o.k) := (World.cell?_setCell_other _ _ _ _ (fun x => by injection x with x1; omega)).trans nn0
  replace HMC := hide ((unhide HMC).set2 ((us1.length : Int) - 1))
  replace HNC := hide ((unhide HNC).other (g := w.heap.size + 1 + 1) (j := 2) (.int .i64 ((us1.length : Int) - 1)) (by omega))
  replace HTC := hide ((World.cell?_setCell_other w5 ⟨w.heap.size + 1 + 1, 2, none⟩ ⟨w.heap.size, 0, none⟩ (.int .i64 ((us1.length : Int) - 1)) (fun x => by injection x with x1; omega)).trans (unhide HTC))
  replace HRX := hide ((unhide HRX).other (g := w.heap.size + 1 + 1) (j := 2) (.int .i64 ((us1.length : Int) - 1)) ((unhide HneX) _ (by omega) (by omega)))
  replace HGX := hide (grown_trans (unhide HGX) (⟨rfl, rfl, rfl, by simp [World.setCell], fun i _ hi => Below.heap_setCell _ _ _ _ (fun e => hi (by rw [e]))⟩ : w5.grownBy (w5.setCell ⟨w.heap.size + 1 + 1, 2, none⟩ (.int .i64 ((us1.length : Int) - 1))) (some (w.heap.size + 1 + 1))) (Or.inr ⟨_, rfl, by omega⟩))
  have HMX := HMC
  have HNX := HNC
  have HTX := HTC
  clear HMC HNC HTC HOC HA5 HNE1 nn0 nn1 nn2 nn3 mm0 mm1 mm3 mm5 HC HNE HWZ
  obtain ⟨mk0, mk1, mk2, mk3, _, _⟩ := unhide HMX
  simp only at mk0 mk1 mk2 mk3
  go_wp2_with (first | (go_at_call 60; refine (l3Kids_is (unhide HK1) 1 rfl _).mono ?_; rintro e w' ⟨rfl, rfl⟩) | (at_builtin; refine wpList_append_own_at _ rfl (.tmp 56) (.tmp 58) 26 rfl B 115 i0 _ 4 40 Tryz.underlying26 (unhide HI) (unhide HZ).1 (unhide HZ).2.1 (unhide HZ).2.2 rfl (by decide) _ us1.length (cellsN us1) rfl ((unhide HRX).below (below1 _ _)) ⟨w5.heap.size, 0, none⟩ 1 1 (cellsN [⟨o.k, o.t, (us1.length : Int) - 1, 0⟩]) rfl rfl (by simpa using new_newsAt (w5.setCell ⟨w.heap.size + 1 + 1, 2, none⟩ (.int .i64 ((us1.length : Int) - 1))) w5.heap.size ⟨o.k, o.t, (us1.length : Int) - 1, 0⟩ (by simp [World.setCell])) (cellsN_one' _) ?b1 ?b2 ?b3 ?next))
  case b1 => unfold maxLen; omega
  case b2 => omega
  case b3 => first | omega | (have := (unhide HGX).size; simp at this ⊢; omega)
  case next =>
    intro v4 w4 hown4 hgrow4 hnil4 hat4
    have hr4 : RowV w4 B v4 (us1 ++ [⟨o.k, o.t, (us1.length : Int) - 1, 0⟩]) := by
      unfold RowV
      rw [cellsN_append, List.length_append]
      exact hown4
    rw [← unhide HU4] at hr4
    have HGb := hide (grown_below (below1 (w5.setCell ⟨w.heap.size + 1 + 1, 2, none⟩ (.int .i64 ((us1.length : Int) - 1))) _) hgrow4)
    have HAb := hide (show v4.ownBlock = (Value.slice a1 us1.length c1).ownBlock ∨ ∃ k, v4.ownBlock = some k ∧ (w5.setCell ⟨w.heap.size + 1 + 1, 2, none⟩ (.int .i64 ((us1.length : Int) - 1))).heap.size ≤ k from hat4.imp id (fun h => ⟨_, h, by first | exact Nat.le_refl _ | simp⟩))
    have HG4 := hide (grown_trans (unhide HGX) (unhide HGb) (unhide HAX))
    have HA4 := hide (grown_at (unhide HGX) (unhide HAX) v4.ownBlock (unhide HAb))
    have HN4 := hide ((unhide HNX).grown (unhide HGb) (unhide HneX _ (by omega) (by omega)))
    have t4 : w4.cell? ⟨w.heap.size, 0, none⟩ = some (.slice (some ⟨b, off, none⟩) ns.length cap) := (grown_cell (unhide HGb) (b := w.heap.size) (block_lt_of_cell (unhide HTX)) (unhide HneX _ (by omega) (by omega)) 0).trans (unhide HTX)
    have HW4 := hide (ops_grown (unhide HW) (unhide HG4) hb hB (unhide HUB))
    have z4 := (unhide HG4).size
    obtain ⟨n0, n1, n2, n3, _, _⟩ := unhide HN4
    simp only at n0 n1 n2 n3
    obtain ⟨a4, c4, rfl⟩ := row_slice hr4
    have HR4 := hide hr4
    clear hown4 hgrow4 hnil4 hat4 hr4 HGb HAb mk0 mk1 mk2 mk3 HMX HNX HTX HRX HneX HGX HAX
    go_wp2_with fail
    refine (l3Level_any b off cap ns ⟨o.k, o.t, (ja : Int), 0⟩ _ hm (unhide HW4) (by omega) (unhide HKN)).mono ?_
    rintro e w5 ⟨rfl, hb5⟩
    have hlv : levN ns ⟨o.k, o.t, (ja : Int), 0⟩ = levN ns o := rfl
    rw [hlv]
    have HG5 := hide (grown_trans (unhide HG4) (grown_belN hb5 u.ownBlock) (Or.inl rfl))
    have HR5 := hide ((unhide HR4).below hb5)
    have z5 : w.heap.size ≤ w5.heap.size := Nat.le_trans z4 hb5.size
    clear hlv hb5 HG4 HR4 HN4 HW4 t4 n0 n1 n2 n3 z4
    by_cases hl : levN ns o < least
    · have HVS := hide ((unhide HV4).1 (by omega))
      clear HV4
      go_wp2_with (at_builtin; refine wpList_append_own_at _ rfl (.tmp 65) (.tmp 70) 26 rfl B 115 i0 _ 4 40 Tryz.underlying26 (unhide HI) (unhide HZ).1 (unhide HZ).2.1 (unhide HZ).2.2 rfl (by decide) _ us4.length (cellsN us4) rfl ((unhide HR5).below (below1 _ _)) ⟨w5.heap.size, 0, none⟩ 1 1 (cellsN [⟨6, ⟨#[]⟩, (us4.length : Int) - 1, 0⟩]) rfl rfl (by simpa using new_newsN w5 ⟨6, ⟨#[]⟩, (us4.length : Int) - 1, 0⟩) (cellsN_one' _) ?b4 ?b5 ?b6 ?next2)
      case b4 => unfold maxLen; omega
      case b5 => omega
      case b6 => first | omega | (simp; omega)
      case next2 =>
        intro v6 w6 hown6 hgrow6 hnil6 hat6
        have HO6 := hide (show RowV w6 B v6 vs by
          rw [unhide HVS]
          unfold RowV
          rw [cellsN_append, List.length_append]
          exact hown6)
        have HGc := hide (grown_below (below1 w5 _) hgrow6)
        have HG6 := hide (grown_trans (unhide HG5) (unhide HGc) (unhide HA4))
        have HA6 := hide (grown_at (unhide HG5) (unhide HA4) v6.ownBlock (hat6.imp id (fun h => ⟨_, h, by first | exact Nat.le_refl _ | simp⟩)))
        clear hown6 hgrow6 hnil6 hat6 HGc HG5 HR5
        go_wp2_with fail
        go_ret
        exact ⟨v6, rfl, HO6, HG6, HA6⟩
    · have HVS := hide ((unhide HV4).2 (by omega))
      clear HV4
      go_wp2_with fail
      go_ret
      exact ⟨_, rfl, by rw [unhide HVS]; exact HR5, HG5, HA4⟩
end Go.Proofs.YtokabkhnidlcnabGreat

/-
  Walks: the specification's l4Grouped, at nodes with two kids.
-/
namespace Go.Proofs.YtokabkhnidlcnabGreat
set_option maxRecDepth 100000
set_option linter.unusedSimpArgs false
set_option linter.unusedVariables false
open Go.RowKit

set_option maxHeartbeats 6000000 in
theorem lg_two (b off cap bz offz cz j ja jb jj : Nat) (ns : List OpR) (zs : List NodeR) (o : NodeR) (least : Int) (B : Nat) (u : Value) (us us1 us2 vs : List NodeR) (w : World) (hm : ns.length ≤ 1048576) (hsz : Sized ns) (hw : Ops w b off ns) (hb : b < B) (hwz : OpsN w bz offz zs) (hbz : bz < B) (hB : B ≤ w.heap.size) (hrow : RowV w B u us) (hj : j < zs.length) (hzl : zs.length ≤ 20000) (ho : atN zs j = ⟨o.k, o.t, (ja : Int), (jb : Int)⟩) (hop : isOpN o) (hk : kids o.k = 2) (hf : fnd ns o.t (o.k - 2) = some jj) (hlen : us2.length ≤ 90000) {U U2 : List NodeR} (hu1 : us1 = us ++ U) (hu2 : us2 = us1 ++ U2) (hvs : vs = us ++ clos ns o least us.length ((U ++ U2) ++ [⟨o.k, o.t, (us1.length : Int) - 1, (us2.length : Int) - 1⟩]))
    (hc : ∀ W, Ops W b off ns → OpsN W bz offz zs → B ≤ W.heap.size → RowV W B u us → Calls Tryz.prog 81 #[.agg #[.slice (some ⟨b, off, none⟩) ns.length cap], .slice (some ⟨bz, offz, none⟩) zs.length cz, .int .i64 (ja : Int), .int .i64 (holeI (atO ns jj).s (atO ns jj).k (atO ns jj).l (atO ns jj).sd false), u] W (AppPost W B u us1))
    (hc2 : ∀ u' W, Ops W b off ns → OpsN W bz offz zs → B ≤ W.heap.size → RowV W B u' us1 → Calls Tryz.prog 81 #[.agg #[.slice (some ⟨b, off, none⟩) ns.length cap], .slice (some ⟨bz, offz, none⟩) zs.length cz, .int .i64 (jb : Int), .int .i64 (holeI (atO ns jj).s (atO ns jj).k (atO ns jj).l (atO ns jj).sd true), u'] W (AppPost W B u' us2)) :
    Calls Tryz.prog 81 #[.agg #[.slice (some ⟨b, off, none⟩) ns.length cap], .slice (some ⟨bz, offz, none⟩) zs.length cz, .int .i64 (j : Int), .int .i64 least, u] w (AppPost w B u vs) := by
  obtain ⟨us4, HU4'⟩ : ∃ us4, Hid (us4 = us ++ ((U ++ U2) ++ [⟨o.k, o.t, (us1.length : Int) - 1, (us2.length : Int) - 1⟩])) := ⟨_, hide rfl⟩
  have HU4 := HU4'
  have HU4e : us4 = us2 ++ [⟨o.k, o.t, (us1.length : Int) - 1, (us2.length : Int) - 1⟩] := by
    rw [unhide HU4', ← List.append_assoc, ← List.append_assoc, ← hu1, ← hu2]
  have hl4 : us4.length ≤ 90001 := by rw [HU4e, List.length_append]; simp; omega
  have hl1 : us1.length ≤ 90000 := by rw [hu2, List.length_append] at hlen; omega
  obtain ⟨i0, hi0, hz0, hz1, hz2⟩ := info_parts' infoN
  have HI := hide hi0
  have HZ := hide (And.intro hz0 (And.intro hz1 hz2))
  clear hi0 hz0 hz1 hz2
  have hjI : (j : Int) < (zs.length : Int) := by omega
  have hbzw : bz < w.heap.size := by omega
  have hbw : b < w.heap.size := by omega
  obtain ⟨h0, h1, h2, h3⟩ := hwz j hj
  rw [ho] at h0 h1 h2 h3
  simp only at h0 h1 h2 h3
  have HD := hide (show true = decide (3 ≤ o.k ∧ o.k ≤ 5) by rw [eq_comm, decide_eq_true_iff]; exact hop)
  have h3k := hop.1
  have h5k := hop.2
  have HF := hide hf
  have hjj := (fnd_some hf).1
  have HSJ := hide (hsz jj hjj)
  have HKN := hide (show 3 ≤ o.k → o.k ≤ 5 → fnd ns o.t (o.k - 2) ≠ none from fun _ _ => by rw [hf]; simp)
  have HV4 := hide (clos_row hvs (unhide HU4))
  have HUB := hide hrow.base
  have hne0 : ∀ x, w.heap.size ≤ x → u.ownBlock ≠ some x := fun x hx e => by have := hrow.lt _ e; omega
  obtain ⟨a0, c0, rfl⟩ := row_slice hrow
  obtain ⟨u, hu⟩ : ∃ u, u = Value.slice a0 us.length c0 := ⟨_, rfl⟩
  have HNE := hide hne0
  have HW := hide hw
  have HWZ := hide hwz
  have HRC := hide hrow
  have HB3 := hide (show ∀ o1 o2 o3 : Obj, Below w.heap.size w (((w.alloc o1).alloc o2).alloc o3) from fun o1 o2 o3 => ((below1 w o1).alloc (by simp) o2).alloc (by simp; omega) o3)
  have HPU := hide (show AppPost w B (Value.slice a0 us.length c0) vs = AppPost w B u vs by rw [hu])
  rw [unhide HPU]
  have HUE := hide hu
  rw [← hu] at HUB
  have HC := hide hc
  have HK1 := hide hk
  have HC2 := hide hc2
  replace HU4 := hide HU4e
  clear hk hu1 hu2 HU4' HU4e hc2
  clear hw hwz hrow ho hvs hne0 hu HPU hc hop hf
  go_enter Tryz.func81, Tryz.ntmps81
  go_wp2_with fail
  refine (l3IsOp_any ⟨o.k, o.t, (ja : Int), (jb : Int)⟩ _ true (unhide HD)).mono ?_
  rintro e w1 ⟨rfl, hb1⟩
  have bel1 : Below w.heap.size w w1 := ((unhide HB3) _ _ _).trans (hb1.mono (by simp; omega))
  have t1 : w1.cell? ⟨w.heap.size, 0, none⟩ = some (.slice (some ⟨b, off, none⟩) ns.length cap) := (hb1.cell (p := ⟨w.heap.size, 0, none⟩) (by simp; omega)).trans (by simp [go_sem])
  have HN1 := hide (show NodAt w1 (w.heap.size + 1) ⟨o.k, o.t, (ja : Int), (jb : Int)⟩ from NodAt.below ⟨by simp [go_sem], by simp [go_sem], by simp [go_sem], by simp [go_sem], by simp [go_sem], by simp [go_sem]⟩ hb1)
  have HM1 := hide (show NodAt w1 (w.heap.size + 1 + 1) ⟨o.k, o.t, 0, 0⟩ from NodAt.below ⟨by simp [go_sem], by simp [go_sem], by simp [go_sem], by simp [go_sem], by simp [go_sem], by simp [go_sem]⟩ hb1)
  have z1 : w.heap.size + 3 ≤ w1.heap.size := by have := hb1.size; simp at this; omega
  obtain ⟨n0, n1, n2, n3, _, _⟩ := unhide HN1
  simp only at n0 n1 n2 n3
  clear hb1 HB3
  go_wp2_with fail
  refine (l3OpOf_any b off cap ns ⟨o.k, o.t, (ja : Int), (jb : Int)⟩ jj _ hm ((unhide HW).below bel1 hbw) (by omega) h3k h5k (unhide HF)).mono ?_
  rintro e w2 ⟨rfl, hb2⟩
  have bel2 := bel1.trans (hb2.mono bel1.size)
  have z2 : w.heap.size + 3 ≤ w2.heap.size := Nat.le_trans z1 hb2.size
  have hbC : Below w2.heap.size w2 (w2.alloc (.cells #[.string (atO ns jj).s, .int .i64 (atO ns jj).k, .int .i64 (atO ns jj).l, .int .i64 (atO ns jj).sd] 104)).drew := (below1 _ _).drew
  have HTC := hide (show (w2.alloc (.cells #[.string (atO ns jj).s, .int .i64 (atO ns jj).k, .int .i64 (atO ns jj).l, .int .i64 (atO ns jj).sd] 104)).drew.cell? ⟨w.heap.size, 0, none⟩ = some (.slice (some ⟨b, off, none⟩) ns.length cap) from (hbC.cell (p := ⟨w.heap.size, 0, none⟩) (show w.heap.size < w2.heap.size by omega)).trans ((hb2.cell (p := ⟨w.heap.size, 0, none⟩) (show w.heap.size < w1.heap.size by omega)).trans t1))
  have HNC := hide (((unhide HN1).below hb2).below hbC)
  have HMC := hide (((unhide HM1).below hb2).below hbC)
  have HOC := hide (show OpAt (w2.alloc (.cells #[.string (atO ns jj).s, .int .i64 (atO ns jj).k, .int .i64 (atO ns jj).l, .int .i64 (atO ns jj).sd] 104)).drew w2.heap.size (atO ns jj) from OpAt.below (w := w2.alloc (.cells #[.string (atO ns jj).s, .int .i64 (atO ns jj).k, .int .i64 (atO ns jj).l, .int .i64 (atO ns jj).sd] 104)) ⟨by simp [go_sem], by simp [go_sem], by simp [go_sem], by simp [go_sem]⟩ (Below.refl _ _).drew)
  have HBC := hide (bel2.trans (hbC.mono bel2.size))
  replace HRC := hide ((unhide HRC).below (unhide HBC))
  have HZC := hide (show w2.heap.size + 1 ≤ (w2.alloc (.cells #[.string (atO ns jj).s, .int .i64 (atO ns jj).k, .int .i64 (atO ns jj).l, .int .i64 (atO ns jj).sd] 104)).drew.heap.size by simp)
  clear hb2 hbC t1 HN1 HM1 n0 n1 n2 n3 bel1 bel2
  go_wp2_with fail
  go_region_held (fun w' => w'.cell? ⟨w.heap.size, 0, none⟩ = some (.slice (some ⟨b, off, none⟩) ns.length cap) ∧ w'.cell? ⟨w.heap.size + 1, 2, none⟩ = some (.int .i64 (ja : Int)) ∧ w'.cell? ⟨w2.heap.size, 0, none⟩ = some (.string (atO ns jj).s) ∧ w'.cell? ⟨w2.heap.size, 1, none⟩ = some (.int .i64 (atO ns jj).k) ∧ w'.cell? ⟨w2.heap.size, 2, none⟩ = some (.int .i64 (atO ns jj).l) ∧ w'.cell? ⟨w2.heap.size, 3, none⟩ = some (.int .i64 (atO ns jj).sd)) (first | (go_keep; done) | exact ⟨unhide HTC, (unhide HNC).2.2.1, (unhide HOC).1, (unhide HOC).2.1, (unhide HOC).2.2.1, (unhide HOC).2.2.2⟩)
    (first | (go_at_call 102; refine (specHole_any (atO ns jj).s (atO ns jj).k (atO ns jj).l (atO ns jj).sd false _ (unhide HSJ)).mono ?_; rintro e w3 ⟨rfl, hb3⟩; have hp3 := hb3; replace HTC := hide ((hb3.cell (p := ⟨w.heap.size, 0, none⟩) (block_lt_of_cell (unhide HTC))).trans (unhide HTC)); replace HNC := hide ((unhide HNC).below hb3); replace HMC := hide ((unhide HMC).below hb3); replace HOC := hide ((unhide HOC).below hb3); replace HRC := hide ((unhide HRC).below hb3); replace HBC := hide ((unhide HBC).trans (hp3.mono (unhide HBC).size)); replace HZC := hide (Nat.le_trans (unhide HZC) hb3.size); clear hb3 hp3) | (go_at_call 81; refine ((unhide HC) _ ((unhide HW).below (unhide HBC) hbw) ((unhide HWZ).below (unhide HBC) hbzw) (Nat.le_trans hB (unhide HBC).size) (unhide HRC)).mono ?_; rintro x w5 ⟨u1, rfl, hr5, hg5, ho5⟩; replace HTC := hide ((grown_cell (unhide hg5) (b := w.heap.size) (block_lt_of_cell (unhide HTC)) ((unhide HNE) _ (by omega)) 0).trans (unhide HTC)); replace HNC := hide ((unhide HNC).grown (unhide hg5) ((unhide HNE) _ (by omega))); replace HMC := hide ((unhide HMC).grown (unhide hg5) ((unhide HNE) _ (by omega))); replace HOC := hide ((unhide HOC).grown (unhide hg5) ((unhide HNE) _ (by omega))); have HGX := hide (grown_below (unhide HBC) (unhide hg5)); have HA5 := hide ((unhide ho5).imp id (fun ⟨k, h1, h2⟩ => ⟨k, h1, Nat.le_trans (unhide HZC) h2⟩) : u1.ownBlock = (Value.slice a0 us.length c0).ownBlock ∨ ∃ k, u1.ownBlock = some k ∧ w2.heap.size + 1 ≤ k); obtain ⟨a1, c1, rfl⟩ := row_slice (unhide hr5); have HRX := hr5; clear hg5 ho5 hr5 HRC HBC))
  rw [← unhide HUE] at HGX HA5
  have HNE1 := hide (show ∀ x, w.heap.size ≤ x → x < w2.heap.size + 1 → (Value.slice a1 us1.length c1).ownBlock ≠ some x from fun x hx hx2 e => by
    rcases unhide HA5 with h | ⟨k, h1, h2⟩
    · exact (unhide HNE) x hx (by rw [← unhide HUE, ← h]; exact e)
    · rw [h1] at e; injection e with e; omega)
  have HneX := hide (show ∀ x, w.heap.size ≤ x → x < w.heap.size + 3 → (Value.slice a1 us1.length c1).ownBlock ≠ some x from fun x hx hx2 => (unhide HNE1) x hx (by omega))
  have HAX := hide (show (Value.slice a1 us1.length c1).ownBlock = u.ownBlock ∨ ∃ k, (Value.slice a1 us1.length c1).ownBlock = some k ∧ w.heap.size ≤ k from (unhide HA5).imp id (fun ⟨k, h1, h2⟩ => ⟨k, h1, by omega⟩))
  have mc := unhide HMC
  obtain ⟨mm0, mm1, mm2, mm3, mm4, mm5⟩ := mc
  simp only at mm0 mm1 mm2 mm3
  have nc := unhide HNC
  obtain ⟨nn0, nn1, nn2, nn3, _, _⟩ := nc
  simp only at nn0 nn1 nn2 nn3
  have n0' : (w5.setCell ⟨w.heap.size + 1 + 1, 2, none⟩ (.int .i64 ((us1.length : Int) - 1))).cell? ⟨w.heap.size + 1, 0, none⟩ = some (.int .i64 o.k) := (World.cell?_setCell_other _ _ _ _ (fun x => by injection x with x1; omega)).trans nn0
  replace HMC := hide ((unhide HMC).set2 ((us1.length : Int) - 1))
  replace HNC := hide ((unhide HNC).other (g := w.heap.size + 1 + 1) (j := 2) (.int .i64 ((us1.length : Int) - 1)) (by omega))
  replace HTC := hide ((World.cell?_setCell_other w5 ⟨w.heap.size + 1 + 1, 2, none⟩ ⟨w.heap.size, 0, none⟩ (.int .i64 ((us1.length : Int) - 1)) (fun x => by injection x with x1; omega)).trans (unhide HTC))
  replace HRX := hide ((unhide HRX).other (g := w.heap.size + 1 + 1) (j := 2) (.int .i64 ((us1.length : Int) - 1)) ((unhide HneX) _ (by omega) (by omega)))
  replace HGX := hide (grown_trans (unhide HGX) (⟨rfl, rfl, rfl, by simp [World.setCell], fun i _ hi => Below.heap_setCell _ _ _ _ (fun e => hi (by rw [e]))⟩ : w5.grownBy (w5.setCell ⟨w.heap.size + 1 + 1, 2, none⟩ (.int .i64 ((us1.length : Int) - 1))) (some (w.heap.size + 1 + 1))) (Or.inr ⟨_, rfl, by omega⟩))
  replace HOC := hide ((unhide HOC).other (g := w.heap.size + 1 + 1) (j := 2) (.int .i64 ((us1.length : Int) - 1)) (by omega))
  have HZX := hide (show w2.heap.size + 1 ≤ w5.heap.size from Nat.lt_of_lt_of_le (by have := block_lt_of_cell (unhide HOC).1; simpa [World.setCell] using this) (Nat.le_refl _))
  clear nn0 nn1 nn2 nn3 mm0 mm1 mm3 mm5 HC n0'
  replace HTC := hide ((show Below (w5.setCell ⟨w.heap.size + 1 + 1, 2, none⟩ (.int .i64 ((us1.length : Int) - 1))).heap.size (w5.setCell ⟨w.heap.size + 1 + 1, 2, none⟩ (.int .i64 ((us1.length : Int) - 1))) (w5.setCell ⟨w.heap.size + 1 + 1, 2, none⟩ (.int .i64 ((us1.length : Int) - 1))).drew from (Below.refl _ _).drew).cell (p := ⟨w.heap.size, 0, none⟩) (block_lt_of_cell (unhide HTC)) |>.trans (unhide HTC))
  replace HNC := hide ((unhide HNC).below (Below.refl _ _).drew)
  replace HMC := hide ((unhide HMC).below (Below.refl _ _).drew)
  replace HOC := hide ((unhide HOC).below (Below.refl _ _).drew)
  replace HRX := hide ((unhide HRX).below (Below.refl _ _).drew)
  replace HGX := hide (grown_trans (unhide HGX) (grown_belN ((Below.refl _ _).drew) u.ownBlock) (Or.inl rfl))
  replace HZX := hide (show w2.heap.size + 1 ≤ (w5.setCell ⟨w.heap.size + 1 + 1, 2, none⟩ (.int .i64 ((us1.length : Int) - 1))).drew.heap.size by have := unhide HZX; simpa [World.setCell] using this)
  have n0' : (w5.setCell ⟨w.heap.size + 1 + 1, 2, none⟩ (.int .i64 ((us1.length : Int) - 1))).cell? ⟨w.heap.size + 1, 0, none⟩ = some (.int .i64 o.k) := (unhide HNC).1
  go_wp2_with (go_at_call 60; refine (l3Kids_is (unhide HK1) 2 rfl _).mono ?_; rintro e w' ⟨rfl, rfl⟩)
  clear n0' mm2 mm4
  go_region_held (fun w' => w'.cell? ⟨w.heap.size, 0, none⟩ = some (.slice (some ⟨b, off, none⟩) ns.length cap) ∧ w'.cell? ⟨w.heap.size + 1, 3, none⟩ = some (.int .i64 (jb : Int)) ∧ w'.cell? ⟨w2.heap.size, 0, none⟩ = some (.string (atO ns jj).s) ∧ w'.cell? ⟨w2.heap.size, 1, none⟩ = some (.int .i64 (atO ns jj).k) ∧ w'.cell? ⟨w2.heap.size, 2, none⟩ = some (.int .i64 (atO ns jj).l) ∧ w'.cell? ⟨w2.heap.size, 3, none⟩ = some (.int .i64 (atO ns jj).sd)) (first | (go_keep; done) | exact ⟨unhide HTC, (unhide HNC).2.2.2.1, (unhide HOC).1, (unhide HOC).2.1, (unhide HOC).2.2.1, (unhide HOC).2.2.2⟩)
    (first | (go_at_call 102; refine (specHole_any (atO ns jj).s (atO ns jj).k (atO ns jj).l (atO ns jj).sd true _ (unhide HSJ)).mono ?_; rintro e w6 ⟨rfl, hb3⟩; have hp3 := hb3; replace HTC := hide ((hb3.cell (p := ⟨w.heap.size, 0, none⟩) (block_lt_of_cell (unhide HTC))).trans (unhide HTC)); replace HNC := hide ((unhide HNC).below hb3); replace HMC := hide ((unhide HMC).below hb3); replace HOC := hide ((unhide HOC).below hb3); replace HRX := hide ((unhide HRX).below hb3); replace HGX := hide (grown_trans (unhide HGX) (grown_belN hb3 u.ownBlock) (Or.inl rfl)); replace HZX := hide (Nat.le_trans (unhide HZX) hb3.size); clear hb3 hp3) | (go_at_call 81; refine ((unhide HC2) _ _ (ops_grown (unhide HW) (unhide HGX) hb hB (unhide HUB)) (opsN_grown (unhide HWZ) (unhide HGX) hbz hB (unhide HUB)) (Nat.le_trans hB (unhide HGX).size) (unhide HRX)).mono ?_; rintro x w7 ⟨u2, rfl, hr7, hg7, ho7⟩; replace HTC := hide ((grown_cell (unhide hg7) (b := w.heap.size) (block_lt_of_cell (unhide HTC)) ((unhide HNE1) _ (by omega) (by omega)) 0).trans (unhide HTC)); replace HNC := hide ((unhide HNC).grown (unhide hg7) ((unhide HNE1) _ (by omega) (by omega))); replace HMC := hide ((unhide HMC).grown (unhide hg7) ((unhide HNE1) _ (by omega) (by omega))); replace HOC := hide ((unhide HOC).grown (unhide hg7) ((unhide HNE1) _ (by omega) (by omega))); replace HGX := hide (grown_trans (unhide HGX) (unhide hg7) (unhide HAX)); have HA7 := hide ((unhide ho7).imp id (fun ⟨k, h1, h2⟩ => ⟨k, h1, Nat.le_trans (unhide HZX) h2⟩) : u2.ownBlock = (Value.slice a1 us1.length c1).ownBlock ∨ ∃ k, u2.ownBlock = some k ∧ w2.heap.size + 1 ≤ k); obtain ⟨a2, c2, rfl⟩ := row_slice (unhide hr7); replace HRX := hr7; clear hg7 ho7 hr7))
  have HneX2 := hide (show ∀ x, w.heap.size ≤ x → x < w.heap.size + 3 → (Value.slice a2 us2.length c2).ownBlock ≠ some x from fun x hx hx2 e => by
    rcases unhide HA7 with h | ⟨k, h1, h2⟩
    · exact (unhide HneX) x hx hx2 (by rw [← h]; exact e)
    · rw [h1] at e; injection e with e; omega)
  have HAX2 := hide (show (Value.slice a2 us2.length c2).ownBlock = u.ownBlock ∨ ∃ k, (Value.slice a2 us2.length c2).ownBlock = some k ∧ w.heap.size ≤ k by
    rcases unhide HA7 with h | ⟨k, h1, h2⟩
    · rw [h]; exact unhide HAX
    · exact Or.inr ⟨k, h1, by omega⟩)
  clear HneX HAX HNE1 HA5 HA7
  have HneX := HneX2
  have HAX := HAX2
  clear HneX2 HAX2
  obtain ⟨mm0, mm1, mm2, mm3, mm4, mm5⟩ := unhide HMC
  simp only at mm0 mm1 mm2 mm3
  replace HMC := hide ((unhide HMC).set3 ((us2.length : Int) - 1))
  replace HNC := hide ((unhide HNC).other (g := w.heap.size + 1 + 1) (j := 3) (.int .i64 ((us2.length : Int) - 1)) (by omega))
  replace HTC := hide ((World.cell?_setCell_other w7 ⟨w.heap.size + 1 + 1, 3, none⟩ ⟨w.heap.size, 0, none⟩ (.int .i64 ((us2.length : Int) - 1)) (fun x => by injection x with x1; omega)).trans (unhide HTC))
  replace HRX := hide ((unhide HRX).other (g := w.heap.size + 1 + 1) (j := 3) (.int .i64 ((us2.length : Int) - 1)) ((unhide HneX) _ (by omega) (by omega)))
  replace HGX := hide (grown_trans (unhide HGX) (⟨rfl, rfl, rfl, by simp [World.setCell], fun i _ hi => Below.heap_setCell _ _ _ _ (fun e => hi (by rw [e]))⟩ : w7.grownBy (w7.setCell ⟨w.heap.size + 1 + 1, 3, none⟩ (.int .i64 ((us2.length : Int) - 1))) (some (w.heap.size + 1 + 1))) (Or.inr ⟨_, rfl, by omega⟩))
  have HMX := HMC
  have HNX := HNC
  have HTX := HTC
  clear HMC HNC HTC HOC HZX mm0 mm1 mm2 mm4 HC2 HNE HWZ
  obtain ⟨mk0, mk1, mk2, mk3, _, _⟩ := unhide HMX
  simp only at mk0 mk1 mk2 mk3
  go_wp2_with (at_builtin; refine wpList_append_own_at _ rfl (.tmp 56) (.tmp 58) 26 rfl B 115 i0 _ 4 40 Tryz.underlying26 (unhide HI) (unhide HZ).1 (unhide HZ).2.1 (unhide HZ).2.2 rfl (by decide) _ us2.length (cellsN us2) rfl ((unhide HRX).below (below1 _ _)) ⟨w7.heap.size, 0, none⟩ 1 1 (cellsN [⟨o.k, o.t, (us1.length : Int) - 1, (us2.length : Int) - 1⟩]) rfl rfl (by simpa using new_newsAt (w7.setCell ⟨w.heap.size + 1 + 1, 3, none⟩ (.int .i64 ((us2.length : Int) - 1))) w7.heap.size ⟨o.k, o.t, (us1.length : Int) - 1, (us2.length : Int) - 1⟩ (by simp [World.setCell])) (cellsN_one' _) ?b1 ?b2 ?b3 ?next)
  case b1 => unfold maxLen; omega
  case b2 => omega
  case b3 => first | omega | (have := (unhide HGX).size; simp at this ⊢; omega)
  case next =>
    intro v4 w4 hown4 hgrow4 hnil4 hat4
    have hr4 : RowV w4 B v4 (us2 ++ [⟨o.k, o.t, (us1.length : Int) - 1, (us2.length : Int) - 1⟩]) := by
      unfold RowV
      rw [cellsN_append, List.length_append]
      exact hown4
    rw [← unhide HU4] at hr4
    have HGb := hide (grown_below (below1 (w7.setCell ⟨w.heap.size + 1 + 1, 3, none⟩ (.int .i64 ((us2.length : Int) - 1))) _) hgrow4)
    have HAb := hide (show v4.ownBlock = (Value.slice a2 us2.length c2).ownBlock ∨ ∃ k, v4.ownBlock = some k ∧ (w7.setCell ⟨w.heap.size + 1 + 1, 3, none⟩ (.int .i64 ((us2.length : Int) - 1))).heap.size ≤ k from hat4.imp id (fun h => ⟨_, h, by first | exact Nat.le_refl _ | simp⟩))
    have HG4 := hide (grown_trans (unhide HGX) (unhide HGb) (unhide HAX))
    have HA4 := hide (grown_at (unhide HGX) (unhide HAX) v4.ownBlock (unhide HAb))
    have HN4 := hide ((unhide HNX).grown (unhide HGb) (unhide HneX _ (by omega) (by omega)))
    have t4 : w4.cell? ⟨w.heap.size, 0, none⟩ = some (.slice (some ⟨b, off, none⟩) ns.length cap) := (grown_cell (unhide HGb) (b := w.heap.size) (block_lt_of_cell (unhide HTX)) (unhide HneX _ (by omega) (by omega)) 0).trans (unhide HTX)
    have HW4 := hide (ops_grown (unhide HW) (unhide HG4) hb hB (unhide HUB))
    have z4 := (unhide HG4).size
    obtain ⟨n0, n1, n2, n3, _, _⟩ := unhide HN4
    simp only at n0 n1 n2 n3
    obtain ⟨a4, c4, rfl⟩ := row_slice hr4
    have HR4 := hide hr4
    clear hown4 hgrow4 hnil4 hat4 hr4 HGb HAb mk0 mk1 mk2 mk3 HMX HNX HTX HRX HneX HGX HAX
    go_wp2_with fail
    refine (l3Level_any b off cap ns ⟨o.k, o.t, (ja : Int), (jb : Int)⟩ _ hm (unhide HW4) (by omega) (unhide HKN)).mono ?_
    rintro e w5 ⟨rfl, hb5⟩
    have hlv : levN ns ⟨o.k, o.t, (ja : Int), (jb : Int)⟩ = levN ns o := rfl
    rw [hlv]
    have HG5 := hide (grown_trans (unhide HG4) (grown_belN hb5 u.ownBlock) (Or.inl rfl))
    have HR5 := hide ((unhide HR4).below hb5)
    have z5 : w.heap.size ≤ w5.heap.size := Nat.le_trans z4 hb5.size
    clear hlv hb5 HG4 HR4 HN4 HW4 t4 n0 n1 n2 n3 z4
    by_cases hl : levN ns o < least
    · have HVS := hide ((unhide HV4).1 (by omega))
      clear HV4
      go_wp2_with (at_builtin; refine wpList_append_own_at _ rfl (.tmp 65) (.tmp 70) 26 rfl B 115 i0 _ 4 40 Tryz.underlying26 (unhide HI) (unhide HZ).1 (unhide HZ).2.1 (unhide HZ).2.2 rfl (by decide) _ us4.length (cellsN us4) rfl ((unhide HR5).below (below1 _ _)) ⟨w5.heap.size, 0, none⟩ 1 1 (cellsN [⟨6, ⟨#[]⟩, (us4.length : Int) - 1, 0⟩]) rfl rfl (by simpa using new_newsN w5 ⟨6, ⟨#[]⟩, (us4.length : Int) - 1, 0⟩) (cellsN_one' _) ?b4 ?b5 ?b6 ?next2)
      case b4 => unfold maxLen; omega
      case b5 => omega
      case b6 => first | omega | (simp; omega)
      case next2 =>
        intro v6 w6 hown6 hgrow6 hnil6 hat6
        have HO6 := hide (show RowV w6 B v6 vs by
          rw [unhide HVS]
          unfold RowV
          rw [cellsN_append, List.length_append]
          exact hown6)
        have HGc := hide (grown_below (below1 w5 _) hgrow6)
        have HG6 := hide (grown_trans (unhide HG5) (unhide HGc) (unhide HA4))
        have HA6 := hide (grown_at (unhide HG5) (unhide HA4) v6.ownBlock (hat6.imp id (fun h => ⟨_, h, by first | exact Nat.le_refl _ | simp⟩)))
        clear hown6 hgrow6 hnil6 hat6 HGc HG5 HR5
        go_wp2_with fail
        go_ret
        exact ⟨v6, rfl, HO6, HG6, HA6⟩
    · have HVS := hide ((unhide HV4).2 (by omega))
      clear HV4
      go_wp2_with fail
      go_ret
      exact ⟨_, rfl, by rw [unhide HVS]; exact HR5, HG5, HA4⟩
end Go.Proofs.YtokabkhnidlcnabGreat

/-
  Walks: the specification's Group.
-/
namespace Go.Proofs.YtokabkhnidlcnabGreat
set_option maxRecDepth 100000
set_option linter.unusedSimpArgs false
set_option linter.unusedVariables false
open Go.RowKit

theorem cnt_pos {xs : List NodeR} (h : InOrd xs) {i : Nat} (hi : 1 ≤ i) : 1 ≤ cnt xs i := by
  have := cnt_mono xs 1 i hi
  rw [cnt_first h] at this
  exact this

/-- The specification's stretch anew. -/
theorem l4Grouped_any (b off cap bz offz cz : Nat) (ns : List OpR) (xs zs : List NodeR) (hm : ns.length ≤ 1048576) (hsz : Sized ns) (hord : InOrd xs) (hkn : Knows ns xs) (hzs : zs = er xs xs.length) : ∀ n i f, i < n → i < xs.length → frS xs i = some f → ∀ (j : Nat) (least : Int) (B : Nat) (u : Value) (us vs : List NodeR) (w : World), j + 1 = cnt xs (i + 1) → Ops w b off ns → b < B → OpsN w bz offz zs → bz < B → B ≤ w.heap.size → RowV w B u us → us.length + 2 * (i + 1 - f) ≤ 80000 → vs = us ++ gS ns xs i least us.length →
    Calls Tryz.prog 81 #[.agg #[.slice (some ⟨b, off, none⟩) ns.length cap], .slice (some ⟨bz, offz, none⟩) zs.length cz, .int .i64 (j : Int), .int .i64 least, u] w (AppPost w B u vs)
  | 0, _, _, h, _, _ => absurd h (Nat.not_lt_zero _)
  | n + 1, i, f, h, hi, hf => by
    intro j least B u us vs w hj hw hb hwz hbz hB hrow hlen hvs
    have hzl : zs.length ≤ 20000 := by
      rw [hzs, er_len]
      have := cnt_le xs xs.length
      have := hord.2.1
      omega
    have hso : isOpN (atN xs i) → ∃ j, fnd ns (atN xs i).t ((atN xs i).k - 2) = some j := fun ho => by
      cases e : fnd ns (atN xs i).t ((atN xs i).k - 2) with
      | none => exact absurd e (hkn i hi ho)
      | some j => exact ⟨j, rfl⟩
    rcases frS_some hf with ⟨hk, ha, hbb, hfi⟩ | ⟨hk, h1i, ha, hbb, hf1⟩ | ⟨hk, h1i, hbb, f2, hf2, h2f, ha, hf1⟩
    · have h6 : (atN xs i).k ≠ 6 := fun e => by rw [e] at hk; simp [kids] at hk
      obtain ⟨hjl, hat⟩ := er_at (m := xs.length) hi h6
      rw [cnt_other h6] at hj
      have ej : j = cnt xs i := by omega
      subst ej
      rw [← hzs] at hjl hat
      refine lg_leaf b off cap bz offz cz _ ns zs (atN xs i) least B u us vs w hm hw hb hwz hbz hB hrow hjl hzl ?_ hk (by omega) ?_
      · rw [hat]; simp [erN, hk]
      · rw [hvs, gS_zero hk]
    · have hle := frS_le hf1
      have hci := cnt_pos hord h1i
      have hii : i - 1 + 1 = i := by omega
      have hln := gS_len ns xs i (i - 1) f (by omega) hf1
      by_cases h6 : (atN xs i).k = 6
      · refine l4Grouped_any b off cap bz offz cz ns xs zs hm hsz hord hkn hzs n (i - 1) f (by omega) (by omega) hf1 j least B u us vs w ?_ hw hb hwz hbz hB hrow (by omega) ?_
        · rw [hj, cnt_group h6, hii]
        · rw [hvs, gS_group h6 h1i hf1]
      · obtain ⟨hjl, hat⟩ := er_at (m := xs.length) hi h6
        rw [cnt_other h6] at hj
        have ej : j = cnt xs i := by omega
        subst ej
        rw [← hzs] at hjl hat
        have hop : isOpN (atN xs i) := by
          unfold kids at hk
          unfold isOpN
          split at hk
          · omega
          · split at hk <;> omega
        obtain ⟨jj, hjj⟩ := hso hop
        have hole : ∀ bb, holeN ns (atN xs i) bb = holeI (atO ns jj).s (atO ns jj).k (atO ns jj).l (atO ns jj).sd bb := fun bb => by
          unfold holeN; rw [hjj]; rfl
        obtain ⟨U, hU⟩ : ∃ U, U = gS ns xs (i - 1) (holeN ns (atN xs i) false) us.length := ⟨_, rfl⟩
        have hl1 := (hln (holeN ns (atN xs i) false) us.length).2
        rw [← hU] at hl1
        refine lg_one b off cap bz offz cz _ (cnt xs i - 1) jj ns zs (atN xs i) least B u us (us ++ U) vs w hm hsz hw hb hwz hbz hB hrow hjl hzl ?_ hop hk hjj (by rw [List.length_append]; omega) rfl ?_ ?_
        · rw [hat]
          have e1 : ((i : Int) - 1).toNat + 1 = i := by omega
          unfold erN mvd
          rw [hk, ha, e1, if_neg (by decide), if_neg (by decide)]
          congr 1
          omega
        · rw [hvs, gS_one hk h6 h1i hf1 least us.length hU, List.length_append]
        · intro W hW hWz hBW hrW
          rw [← hole false]
          exact l4Grouped_any b off cap bz offz cz ns xs zs hm hsz hord hkn hzs n (i - 1) f (by omega) (by omega) hf1 (cnt xs i - 1) _ B u us _ W (by rw [hii]; omega) hW hb hWz hbz hBW hrW (by omega) (by rw [hU])
    · have hle := frS_le hf2
      have hle1 := frS_le hf1
      have hci := cnt_pos hord h1i
      have hcf := cnt_pos hord h2f
      have hii : i - 1 + 1 = i := by omega
      have hff : f2 - 1 + 1 = f2 := by omega
      have h6 : (atN xs i).k ≠ 6 := fun e => by rw [e] at hk; simp [kids] at hk
      obtain ⟨hjl, hat⟩ := er_at (m := xs.length) hi h6
      rw [cnt_other h6] at hj
      have ej : j = cnt xs i := by omega
      subst ej
      rw [← hzs] at hjl hat
      have hop : isOpN (atN xs i) := by
        unfold kids at hk
        unfold isOpN
        split at hk
        · omega
        · split at hk <;> omega
      obtain ⟨jj, hjj⟩ := hso hop
      have hole : ∀ bb, holeN ns (atN xs i) bb = holeI (atO ns jj).s (atO ns jj).k (atO ns jj).l (atO ns jj).sd bb := fun bb => by
        unfold holeN; rw [hjj]; rfl
      obtain ⟨U, hU⟩ : ∃ U, U = gS ns xs (f2 - 1) (holeN ns (atN xs i) false) us.length := ⟨_, rfl⟩
      obtain ⟨U2, hU2⟩ : ∃ U2, U2 = gS ns xs (i - 1) (holeN ns (atN xs i) true) (us.length + U.length) := ⟨_, rfl⟩
      have hl1 := (gS_len ns xs i (f2 - 1) f (by omega) hf1 (holeN ns (atN xs i) false) us.length).2
      have hl2 := (gS_len ns xs i (i - 1) f2 (by omega) hf2 (holeN ns (atN xs i) true) (us.length + U.length)).2
      rw [← hU] at hl1
      rw [← hU2] at hl2
      refine lg_two b off cap bz offz cz _ (cnt xs f2 - 1) (cnt xs i - 1) jj ns zs (atN xs i) least B u us (us ++ U) (us ++ U ++ U2) vs w hm hsz hw hb hwz hbz hB hrow hjl hzl ?_ hop hk hjj (by rw [List.length_append, List.length_append]; omega) rfl rfl ?_ ?_ ?_
      · rw [hat]
        have e1 : ((i : Int) - 1).toNat + 1 = i := by omega
        have e2 : ((f2 : Int) - 1).toNat + 1 = f2 := by omega
        unfold erN mvd
        rw [hk, ha, hbb, e1, e2, if_neg (by decide), if_pos rfl]
        congr 1 <;> omega
      · rw [hvs, gS_two hk h1i hf2 h2f ha hf1 least us.length hU hU2]
        simp only [List.length_append]
      · intro W hW hWz hBW hrW
        rw [← hole false]
        exact l4Grouped_any b off cap bz offz cz ns xs zs hm hsz hord hkn hzs n (f2 - 1) f (by omega) (by omega) hf1 (cnt xs f2 - 1) _ B u us _ W (by rw [hff]; omega) hW hb hWz hbz hBW hrW (by omega) (by rw [hU])
      · intro u' W hW hWz hBW hrW
        rw [← hole true]
        exact l4Grouped_any b off cap bz offz cz ns xs zs hm hsz hord hkn hzs n (i - 1) f2 (by omega) (by omega) hf2 (cnt xs i - 1) _ B u' (us ++ U) _ W (by rw [hii]; omega) hW hb hWz hbz hBW hrW (by rw [List.length_append]; omega) (by rw [hU2, List.length_append])

set_option maxHeartbeats 1000000 in
theorem l3WellFormed_bad (b off cap bn offn cn : Nat) (xs : List OpR) (ns : List NodeR) (w : World) (hm : xs.length ≤ 1048576) (hw : Ops w b off xs) (hsz : Sized xs) (hB : b < w.heap.size) (hc : ¬ IsCode xs 0) :
    Calls Tryz.prog 79 #[.agg #[.slice (some ⟨b, off, none⟩) xs.length cap], .agg #[.slice (some ⟨bn, offn, none⟩) ns.length cn]] w fun e w' => e = .returned (.bool false) ∧ Below w.heap.size w w' := by
  have HW := hide hw
  have HZ := hide hsz
  have HC := hide hc
  clear hw hsz hc
  go_enter Tryz.func79, Tryz.ntmps79
  go_wp2_with fail
  refine (specTableOk_any b off cap xs _ hm ((unhide HW).below ((below1 _ _).alloc (by simp) _) hB) (unhide HZ) (by simp; omega)).mono ?_
  rintro e w1 ⟨⟨c, rfl, h⟩, hb1⟩
  have hc0 : (c != 0) = true := by
    rw [bne_iff_ne]
    intro e
    exact (unhide HC) (e ▸ h)
  have bel1 : Below w.heap.size w w1 := ((below1 _ _).alloc (by simp) _).trans (hb1.mono (by simp; omega))
  clear h hb1
  go_wp2_with fail
  go_ret
  exact ⟨rfl, bel1⟩

theorem l3WellFormed_all (b off cap bn offn cn : Nat) (xs : List OpR) (ns : List NodeR) (w : World) (hm : xs.length ≤ 1048576) (hmn : ns.length ≤ 1048576) (hw : Ops w b off xs) (hsz : Sized xs) (hB : b < w.heap.size) (hwn : OpsN w bn offn ns) (hsn : SizedN ns) (hBn : bn < w.heap.size) :
    Calls Tryz.prog 79 #[.agg #[.slice (some ⟨b, off, none⟩) xs.length cap], .agg #[.slice (some ⟨bn, offn, none⟩) ns.length cn]] w fun e w' => RetB e (IsCode xs 0 ∧ InOrd ns ∧ Knows xs ns) ∧ Below w.heap.size w w' := by
  by_cases hc : IsCode xs 0
  · refine (l3WellFormed_any b off cap bn offn cn xs ns w hm hmn hw hsz hB hwn hsn hBn hc).mono ?_
    rintro e w' ⟨⟨v, rfl, hv⟩, hb⟩
    exact ⟨⟨v, rfl, ⟨fun h => ⟨hc, hv.1 h⟩, fun h => hv.2 h.2⟩⟩, hb⟩
  · refine (l3WellFormed_bad b off cap bn offn cn xs ns w hm hw hsz hB hc).mono ?_
    rintro e w' ⟨rfl, hb⟩
    exact ⟨⟨false, rfl, says_false (fun h => hc h.1)⟩, hb⟩

set_option maxHeartbeats 4000000 in
theorem specGroup_any (b off cap bn offn cn : Nat) (ns : List OpR) (xs : List NodeR) (w : World) (hm : ns.length ≤ 1048576) (hmn : xs.length ≤ 1048576) (hw : Ops w b off ns) (hsz : Sized ns) (hB : b < w.heap.size) (hwn : OpsN w bn offn xs) (hsn : SizedN xs) (hBn : bn < w.heap.size) :
    Calls Tryz.prog 43 #[.agg #[.slice (some ⟨b, off, none⟩) ns.length cap], .agg #[.slice (some ⟨bn, offn, none⟩) xs.length cn]] w fun e w' => (∃ (a : Option Addr) (c : Nat) (us : List NodeR) (v : Bool), e = .returned (.tuple #[.agg #[.slice a us.length c], .bool v]) ∧ Hid (OwnedN w' w.heap.size a us) ∧ Hid (GroupIs ns xs us v)) ∧ Below w.heap.size w w' := by
  have HW := hide hw
  have HWN := hide hwn
  have HZ := hide hsz
  have HZN := hide hsn
  have HB0 := hide (show ∀ o1 o2 o3 : Obj, Below w.heap.size w (((w.alloc o1).alloc o2).alloc o3) from fun o1 o2 o3 => ((below1 w o1).alloc (by simp) o2).alloc (by simp; omega) o3)
  clear hw hwn hsz hsn
  go_enter Tryz.func43, Tryz.ntmps43
  go_wp2_with fail
  refine (l3WellFormed_all b off cap bn offn cn ns xs _ hm hmn ((unhide HW).below ((unhide HB0) _ _ _) hB) (unhide HZ) (by simp; omega) ((unhide HWN).below ((unhide HB0) _ _ _) hBn) (unhide HZN) (by simp; omega)).mono ?_
  rintro e w1 ⟨⟨v, rfl, hv⟩, hb1⟩
  have HV := hide hv
  have bel1 : Below w.heap.size w w1 := ((unhide HB0) _ _ _).trans (hb1.mono (by simp; omega))
  have z1 : w.heap.size + 3 ≤ w1.heap.size := by have := hb1.size; simp at this; omega
  have HCS := hide (show Cs [(w.heap.size, 0, .slice (some ⟨b, off, none⟩) ns.length cap), (w.heap.size + 1, 0, .slice (some ⟨bn, offn, none⟩) xs.length cn), (w.heap.size + 1 + 1, 0, .slice none 0 0)] w1 from Cs.below (fun p hp => by
    simp only [List.mem_cons, List.not_mem_nil, or_false] at hp
    rcases hp with rfl | rfl | rfl
    · simp [go_sem]
    · simp [go_sem]
    · simp [go_sem]) hb1)
  have d1 : w1.frozen? ⟨w.heap.size + 1 + 1, 0, none⟩ = false := (hb1.frozen (p := ⟨w.heap.size + 1 + 1, 0, none⟩) (by simp)).trans (by simp [go_sem])
  have c0 := (unhide HCS) (w.heap.size, 0, .slice (some ⟨b, off, none⟩) ns.length cap) (by simp)
  have c1 := (unhide HCS) (w.heap.size + 1, 0, .slice (some ⟨bn, offn, none⟩) xs.length cn) (by simp)
  have c2 := (unhide HCS) (w.heap.size + 1 + 1, 0, .slice none 0 0) (by simp)
  simp only at c0 c1 c2
  clear hv hb1 HB0
  cases v
  · have HF := hide (show ∀ W : World, W = w1.setCell ⟨w.heap.size + 1 + 1, 0, none⟩ (.slice none 0 0) → Below w.heap.size w W from fun W hW => by rw [hW]; exact bel1.setCell (by simp; omega) _)
    go_wp2_with fail
    refine bodyPost_ret (v := .tuple #[.agg #[.slice none 0 0], .bool false]) ?res rfl ⟨⟨none, 0, [], false, rfl, hide (Or.inl ⟨rfl, rfl⟩), hide (Or.inr ⟨fun h => Bool.false_ne_true ((unhide HV).2 h.1), rfl, rfl⟩)⟩, (unhide HF) _ rfl⟩
    case res => simp [results, Tryz.results43, go_sem, c2]
  have HY := hide ((unhide HV).1 rfl)
  clear HV
  have h20 := (unhide HY).2.1.2.1
  have h1 := (unhide HY).2.1.1
  go_wp2_with fail
  refine (specErase_any bn offn cn xs _ hmn ((unhide HWN).below bel1 hBn) (unhide HZN) (Nat.lt_of_lt_of_le hBn bel1.size)).mono ?_
  rintro e w2 ⟨⟨a2, k2, zs, v, rfl, hown, her⟩, hb2⟩
  have hzs : v = true ∧ zs = er xs xs.length := by
    rcases unhide her with ⟨_, h, h'⟩ | ⟨h, _⟩
    · exact ⟨h, h'⟩
    · exact absurd (unhide HY).2.1 h
  obtain ⟨rfl, hz⟩ := hzs
  have hzl : zs.length = cnt xs xs.length := by rw [hz, er_len]
  have hzp := cnt_pos (unhide HY).2.1 h1
  have hzm := cnt_le xs xs.length
  obtain ⟨g2, rfl, hg2, hfil⟩ : ∃ g, a2 = some ⟨g, 0, none⟩ ∧ w1.heap.size ≤ g ∧ FilledN w2 g zs zs.length := by
    rcases unhide hown with ⟨h, _⟩ | h
    · omega
    · exact h
  have hgl := hfil.1
  have HZ2 := hide (hfil.ops)
  have HER := hide hz
  have bel2 := bel1.trans (hb2.mono bel1.size)
  have z2 : w1.heap.size ≤ w2.heap.size := hb2.size
  have HC2 := hide ((unhide HCS).below hb2)
  have d2 : w2.frozen? ⟨w.heap.size + 1 + 1, 0, none⟩ = false := (hb2.frozen (p := ⟨w.heap.size + 1 + 1, 0, none⟩) (show w.heap.size + 1 + 1 < w1.heap.size by omega)).trans d1
  have HZL := hide hzl
  have hz20 : zs.length ≤ 20000 := by omega
  have hz1 : 1 ≤ zs.length := by omega
  clear hown her hfil hb2 HCS hz c0 c1 c2 d1 hzl hzp hzm bel1
  obtain ⟨W3, HW3⟩ : ∃ W3, Hid (W3 = (w2.alloc (.cells #[.slice (some ⟨g2, 0, none⟩) zs.length k2] 28)).alloc (.cells #[] 115)) := ⟨_, hide rfl⟩
  have hb3 : Below w2.heap.size w2 W3 := by rw [unhide HW3]; exact (below1 _ _).alloc (by simp) _
  have s3 : W3.heap.size = w2.heap.size + 2 := by rw [unhide HW3]; simp
  have bel3 := bel2.trans (hb3.mono bel2.size)
  have HR3 := hide (show RowV W3 (w2.heap.size + 1) (.slice (some ⟨w2.heap.size + 1, 0, none⟩) 0 0) [] by
    rw [unhide HW3]
    have := World.ownsRow_lit (base := w2.heap.size + 1) (e := 115) (size := 4) (w2.alloc (.cells #[.slice (some ⟨g2, 0, none⟩) zs.length k2] 28)) #[] 0 (by simp) (Nat.zero_le _) rfl
    simpa [RowV, cellsN] using this)
  have HC3 := hide ((unhide HC2).below hb3)
  have d3 : W3.frozen? ⟨w.heap.size + 1 + 1, 0, none⟩ = false := (hb3.frozen (p := ⟨w.heap.size + 1 + 1, 0, none⟩) (show w.heap.size + 1 + 1 < w2.heap.size by omega)).trans d2
  obtain ⟨vs, hvs⟩ : ∃ vs, vs = gS ns xs (xs.length - 1) 0 0 := ⟨_, rfl⟩
  have hvl := gS_len ns xs xs.length (xs.length - 1) 0 (by omega) (unhide HY).2.1.2.2.1 0 0
  rw [← hvs] at hvl
  have ei : (zs.length : Int) - 1 = ((zs.length - 1 : Nat) : Int) := by omega
  have HCALL := hide (l4Grouped_any b off cap g2 0 k2 ns xs zs hm (unhide HZ) (unhide HY).2.1 (unhide HY).2.2 (unhide HER) xs.length (xs.length - 1) 0 (by omega) (by omega) (unhide HY).2.1.2.2.1 (zs.length - 1) 0 (w2.heap.size + 1) (.slice (some ⟨w2.heap.size + 1, 0, none⟩) 0 0) [] vs W3 (by rw [Nat.sub_add_cancel h1, ← unhide HZL]; omega) ((unhide HW).below bel3 hB) (by have := bel2.size; omega) ((unhide HZ2).below hb3 hgl) (by omega) (by omega) (unhide HR3) (by rw [List.length_nil]; omega) (by rw [List.nil_append, List.length_nil]; exact hvs))
  rw [unhide HW3] at HCALL
  have HVS := hide hvs
  have hvl1 := hvl.1
  have hvl2 := hvl.2
  have c0 : w2.cell? ⟨w.heap.size, 0, none⟩ = some (.slice (some ⟨b, off, none⟩) ns.length cap) := (unhide HC2) (w.heap.size, 0, .slice (some ⟨b, off, none⟩) ns.length cap) (by simp)
  have hT : w.heap.size < w2.heap.size := by omega
  clear hvs hvl HR3
  go_wp2_with fail
  refine (unhide HCALL).mono ?_
  rw [← unhide HW3]
  rintro x w4 ⟨u', rfl, hr, hg, ho⟩
  obtain ⟨g4, c4, rfl, hg4, hfil⟩ := (show RowV w4 (w2.heap.size + 1) u' vs → ∃ g c, u' = .slice (some ⟨g, 0, none⟩) vs.length c ∧ w2.heap.size + 1 ≤ g ∧ FilledN w4 g vs vs.length from fun h => by
    have hh := h
    unfold RowV at hh
    obtain ⟨_, ⟨rfl, h0⟩ | ⟨g, cap, cur, rfl, _⟩⟩ := h
    · omega
    · have := owns_filledN hh
      exact ⟨g, cap, rfl, this.1, this.2⟩) (unhide hr)
  have e1 : w4.cell? ⟨w.heap.size + 1 + 1, 0, none⟩ = some (.slice none 0 0) := (grown_cell (unhide hg) (b := w.heap.size + 1 + 1) (by omega) (by simp [Value.ownBlock]; omega) 0).trans ((unhide HC3) (w.heap.size + 1 + 1, 0, .slice none 0 0) (by simp))
  have f1 : w4.frozen? ⟨w.heap.size + 1 + 1, 0, none⟩ = false := (World.frozen?_of_block (w := W3) ((unhide hg).block (w.heap.size + 1 + 1) (by omega) (by simp [Value.ownBlock]; omega))).trans d3
  have bel4 : Below w.heap.size w w4 := bel3.trans ⟨(unhide hg).os, (unhide hg).tape, (unhide hg).output, (unhide hg).size, fun i hi => (unhide hg).block i (by have := bel3.size; omega) (by simp [Value.ownBlock]; have := bel2.size; omega)⟩
  have HFIL := hide hfil
  clear hr hg ho hfil HCALL HC2 HC3 d2 d3 c0 hb3 HW3
  by_cases hq : vs.length ≤ 20000
  · have hq' : ¬ (20000 : Int) < (vs.length : Int) := by omega
    go_wp2_with fail
    refine bodyPost_ret (v := .tuple #[.agg #[.slice (some ⟨g4, 0, none⟩) vs.length c4], .bool true]) ?res rfl ⟨⟨some ⟨g4, 0, none⟩, c4, vs, true, rfl, hide (Or.inr ⟨g4, rfl, by omega, ?_⟩), hide (Or.inl ⟨⟨unhide HY, by rw [← unhide HVS]; exact hq⟩, rfl, unhide HVS⟩)⟩, ?_⟩
    case res => simp [results, Tryz.results43, go_sem, e1]
    · exact (unhide HFIL).setCell _ _ _ (by omega)
    · exact bel4.setCell (by simp; omega) _
  · have hq' : (20000 : Int) < (vs.length : Int) := by omega
    go_wp2_with fail
    refine bodyPost_ret (v := .tuple #[.agg #[.slice none 0 0], .bool false]) ?res rfl ⟨⟨none, 0, [], false, rfl, hide (Or.inl ⟨rfl, rfl⟩), hide (Or.inr ⟨fun h => hq (by rw [unhide HVS]; exact h.2), rfl, rfl⟩)⟩, ?_⟩
    case res => simp [results, Tryz.results43, go_sem, e1]
    · exact bel4.setCell (by simp; omega) _
end Go.Proofs.YtokabkhnidlcnabGreat
