import Derived.Test.YtfboipappaonhaaGreatU16
import Derived.Test.YtfboipappaonhaaGreatU19

/-
  Walks: the specification's Group.
-/
namespace Go.Proofs.YtfboipappaonhaaGreat
set_option maxRecDepth 100000
set_option linter.unusedSimpArgs false
set_option linter.unusedVariables false
open Go.RowKit

theorem cnt_pos {xs : List NodeR} (h : InOrd xs) {i : Nat} (hi : 1 ≤ i) : 1 ≤ cnt xs i := by
  have := cnt_mono xs 1 i hi
  rw [cnt_first h] at this
  exact this

/-- The specification's stretch anew. -/
theorem l4Grouped_any (b off cap bz offz cz : Nat) (ns : List OpR) (xs zs : List NodeR) (hm : ns.length ≤ 1048576) (hsz : Sized ns) (hord : InOrd xs) (hkn : Knows ns xs) (hzs : zs = er xs xs.length) : ∀ n i f, i < n → i < xs.length → frS xs i = some f → ∀ (j : Nat) (least : Int) (B : Nat) (u : Value) (us vs : List NodeR) (w : World), j + 1 = cnt xs (i + 1) → Ops w b off ns → b < B → OpsN w bz offz zs → bz < B → B ≤ w.heap.size → RowV w B u us → us.length + 2 * (i + 1 - f) ≤ 80000 → vs = us ++ gS ns xs i least us.length →
    Calls Tryz.prog 52 #[.agg #[.slice (some ⟨b, off, none⟩) ns.length cap], .slice (some ⟨bz, offz, none⟩) zs.length cz, .int .i64 (j : Int), .int .i64 least, u] w (AppPost w B u vs)
  | 0, _, _, h, _, _ => absurd h (Nat.not_lt_zero _)
  | n + 1, i, f, h, hi, hf => by
    intro j least B u us vs w hj hw hb hwz hbz hB hrow hlen hvs
    have hzl : zs.length ≤ 20000 := by
      rw [hzs, er_len]
      have := cnt_le xs xs.length
      have := hord.2.1
      omega
    have hso : isOpN (atN xs i) → ∃ j, fnd ns (atN xs i).t ((atN xs i).k - 2) = some j := fun ho => by
      cases e : fnd ns (atN xs i).t ((atN xs i).k - 2) with
      | none => exact absurd e (hkn i hi ho)
      | some j => exact ⟨j, rfl⟩
    rcases frS_some hf with ⟨hk, ha, hbb, hfi⟩ | ⟨hk, h1i, ha, hbb, hf1⟩ | ⟨hk, h1i, hbb, f2, hf2, h2f, ha, hf1⟩
    · have h6 : (atN xs i).k ≠ 6 := fun e => by rw [e] at hk; simp [kids] at hk
      obtain ⟨hjl, hat⟩ := er_at (m := xs.length) hi h6
      rw [cnt_other h6] at hj
      have ej : j = cnt xs i := by omega
      subst ej
      rw [← hzs] at hjl hat
      refine lg_leaf b off cap bz offz cz _ ns zs (atN xs i) least B u us vs w hm hw hb hwz hbz hB hrow hjl hzl ?_ hk (by omega) ?_
      · rw [hat]; simp [erN, hk]
      · rw [hvs, gS_zero hk]
    · have hle := frS_le hf1
      have hci := cnt_pos hord h1i
      have hii : i - 1 + 1 = i := by omega
      have hln := gS_len ns xs i (i - 1) f (by omega) hf1
      by_cases h6 : (atN xs i).k = 6
      · refine l4Grouped_any b off cap bz offz cz ns xs zs hm hsz hord hkn hzs n (i - 1) f (by omega) (by omega) hf1 j least B u us vs w ?_ hw hb hwz hbz hB hrow (by omega) ?_
        · rw [hj, cnt_group h6, hii]
        · rw [hvs, gS_group h6 h1i hf1]
      · obtain ⟨hjl, hat⟩ := er_at (m := xs.length) hi h6
        rw [cnt_other h6] at hj
        have ej : j = cnt xs i := by omega
        subst ej
        rw [← hzs] at hjl hat
        have hop : isOpN (atN xs i) := by
          unfold kids at hk
          unfold isOpN
          split at hk
          · omega
          · split at hk <;> omega
        obtain ⟨jj, hjj⟩ := hso hop
        have hole : ∀ bb, holeN ns (atN xs i) bb = holeI (atO ns jj).s (atO ns jj).k (atO ns jj).l (atO ns jj).sd bb := fun bb => by
          unfold holeN; rw [hjj]; rfl
        obtain ⟨U, hU⟩ : ∃ U, U = gS ns xs (i - 1) (holeN ns (atN xs i) false) us.length := ⟨_, rfl⟩
        have hl1 := (hln (holeN ns (atN xs i) false) us.length).2
        rw [← hU] at hl1
        refine lg_one b off cap bz offz cz _ (cnt xs i - 1) jj ns zs (atN xs i) least B u us (us ++ U) vs w hm hsz hw hb hwz hbz hB hrow hjl hzl ?_ hop hk hjj (by rw [List.length_append]; omega) rfl ?_ ?_
        · rw [hat]
          have e1 : ((i : Int) - 1).toNat + 1 = i := by omega
          unfold erN mvd
          rw [hk, ha, e1, if_neg (by decide), if_neg (by decide)]
          congr 1
          omega
        · rw [hvs, gS_one hk h6 h1i hf1 least us.length hU, List.length_append]
        · intro W hW hWz hBW hrW
          rw [← hole false]
          exact l4Grouped_any b off cap bz offz cz ns xs zs hm hsz hord hkn hzs n (i - 1) f (by omega) (by omega) hf1 (cnt xs i - 1) _ B u us _ W (by rw [hii]; omega) hW hb hWz hbz hBW hrW (by omega) (by rw [hU])
    · have hle := frS_le hf2
      have hle1 := frS_le hf1
      have hci := cnt_pos hord h1i
      have hcf := cnt_pos hord h2f
      have hii : i - 1 + 1 = i := by omega
      have hff : f2 - 1 + 1 = f2 := by omega
      have h6 : (atN xs i).k ≠ 6 := fun e => by rw [e] at hk; simp [kids] at hk
      obtain ⟨hjl, hat⟩ := er_at (m := xs.length) hi h6
      rw [cnt_other h6] at hj
      have ej : j = cnt xs i := by omega
      subst ej
      rw [← hzs] at hjl hat
      have hop : isOpN (atN xs i) := by
        unfold kids at hk
        unfold isOpN
        split at hk
        · omega
        · split at hk <;> omega
      obtain ⟨jj, hjj⟩ := hso hop
      have hole : ∀ bb, holeN ns (atN xs i) bb = holeI (atO ns jj).s (atO ns jj).k (atO ns jj).l (atO ns jj).sd bb := fun bb => by
        unfold holeN; rw [hjj]; rfl
      obtain ⟨U, hU⟩ : ∃ U, U = gS ns xs (f2 - 1) (holeN ns (atN xs i) false) us.length := ⟨_, rfl⟩
      obtain ⟨U2, hU2⟩ : ∃ U2, U2 = gS ns xs (i - 1) (holeN ns (atN xs i) true) (us.length + U.length) := ⟨_, rfl⟩
      have hl1 := (gS_len ns xs i (f2 - 1) f (by omega) hf1 (holeN ns (atN xs i) false) us.length).2
      have hl2 := (gS_len ns xs i (i - 1) f2 (by omega) hf2 (holeN ns (atN xs i) true) (us.length + U.length)).2
      rw [← hU] at hl1
      rw [← hU2] at hl2
      refine lg_two b off cap bz offz cz _ (cnt xs f2 - 1) (cnt xs i - 1) jj ns zs (atN xs i) least B u us (us ++ U) (us ++ U ++ U2) vs w hm hsz hw hb hwz hbz hB hrow hjl hzl ?_ hop hk hjj (by rw [List.length_append, List.length_append]; omega) rfl rfl ?_ ?_ ?_
      · rw [hat]
        have e1 : ((i : Int) - 1).toNat + 1 = i := by omega
        have e2 : ((f2 : Int) - 1).toNat + 1 = f2 := by omega
        unfold erN mvd
        rw [hk, ha, hbb, e1, e2, if_neg (by decide), if_pos rfl]
        congr 1 <;> omega
      · rw [hvs, gS_two hk h1i hf2 h2f ha hf1 least us.length hU hU2]
        simp only [List.length_append]
      · intro W hW hWz hBW hrW
        rw [← hole false]
        exact l4Grouped_any b off cap bz offz cz ns xs zs hm hsz hord hkn hzs n (f2 - 1) f (by omega) (by omega) hf1 (cnt xs f2 - 1) _ B u us _ W (by rw [hff]; omega) hW hb hWz hbz hBW hrW (by omega) (by rw [hU])
      · intro u' W hW hWz hBW hrW
        rw [← hole true]
        exact l4Grouped_any b off cap bz offz cz ns xs zs hm hsz hord hkn hzs n (i - 1) f2 (by omega) (by omega) hf2 (cnt xs i - 1) _ B u' (us ++ U) _ W (by rw [hii]; omega) hW hb hWz hbz hBW hrW (by rw [List.length_append]; omega) (by rw [hU2, List.length_append])

set_option maxHeartbeats 1000000 in
theorem l3WellFormed_bad (b off cap bn offn cn : Nat) (xs : List OpR) (ns : List NodeR) (w : World) (hm : xs.length ≤ 1048576) (hw : Ops w b off xs) (hsz : Sized xs) (hB : b < w.heap.size) (hc : ¬ IsCode xs 0) :
    Calls Tryz.prog 51 #[.agg #[.slice (some ⟨b, off, none⟩) xs.length cap], .agg #[.slice (some ⟨bn, offn, none⟩) ns.length cn]] w fun e w' => e = .returned (.bool false) ∧ Below w.heap.size w w' := by
  have HW := hide hw
  have HZ := hide hsz
  have HC := hide hc
  clear hw hsz hc
  go_enter Tryz.func51, Tryz.ntmps51
  go_wp2_with fail
  refine (specTableOk_any b off cap xs _ hm ((unhide HW).below ((below1 _ _).alloc (by simp) _) hB) (unhide HZ) (by simp; omega)).mono ?_
  rintro e w1 ⟨⟨c, rfl, h⟩, hb1⟩
  have hc0 : (c != 0) = true := by
    rw [bne_iff_ne]
    intro e
    exact (unhide HC) (e ▸ h)
  have bel1 : Below w.heap.size w w1 := ((below1 _ _).alloc (by simp) _).trans (hb1.mono (by simp; omega))
  clear h hb1
  go_wp2_with fail
  go_ret
  exact ⟨rfl, bel1⟩

theorem l3WellFormed_all (b off cap bn offn cn : Nat) (xs : List OpR) (ns : List NodeR) (w : World) (hm : xs.length ≤ 1048576) (hmn : ns.length ≤ 1048576) (hw : Ops w b off xs) (hsz : Sized xs) (hB : b < w.heap.size) (hwn : OpsN w bn offn ns) (hsn : SizedN ns) (hBn : bn < w.heap.size) :
    Calls Tryz.prog 51 #[.agg #[.slice (some ⟨b, off, none⟩) xs.length cap], .agg #[.slice (some ⟨bn, offn, none⟩) ns.length cn]] w fun e w' => RetB e (IsCode xs 0 ∧ InOrd ns ∧ Knows xs ns) ∧ Below w.heap.size w w' := by
  by_cases hc : IsCode xs 0
  · refine (l3WellFormed_any b off cap bn offn cn xs ns w hm hmn hw hsz hB hwn hsn hBn hc).mono ?_
    rintro e w' ⟨⟨v, rfl, hv⟩, hb⟩
    exact ⟨⟨v, rfl, ⟨fun h => ⟨hc, hv.1 h⟩, fun h => hv.2 h.2⟩⟩, hb⟩
  · refine (l3WellFormed_bad b off cap bn offn cn xs ns w hm hw hsz hB hc).mono ?_
    rintro e w' ⟨rfl, hb⟩
    exact ⟨⟨false, rfl, says_false (fun h => hc h.1)⟩, hb⟩

set_option maxHeartbeats 4000000 in
theorem specGroup_any (b off cap bn offn cn : Nat) (ns : List OpR) (xs : List NodeR) (w : World) (hm : ns.length ≤ 1048576) (hmn : xs.length ≤ 1048576) (hw : Ops w b off ns) (hsz : Sized ns) (hB : b < w.heap.size) (hwn : OpsN w bn offn xs) (hsn : SizedN xs) (hBn : bn < w.heap.size) :
    Calls Tryz.prog 18 #[.agg #[.slice (some ⟨b, off, none⟩) ns.length cap], .agg #[.slice (some ⟨bn, offn, none⟩) xs.length cn]] w fun e w' => (∃ (a : Option Addr) (c : Nat) (us : List NodeR) (v : Bool), e = .returned (.tuple #[.agg #[.slice a us.length c], .bool v]) ∧ Hid (OwnedN w' w.heap.size a us) ∧ Hid (GroupIs ns xs us v)) ∧ Below w.heap.size w w' := by
  have HW := hide hw
  have HWN := hide hwn
  have HZ := hide hsz
  have HZN := hide hsn
  have HB0 := hide (show ∀ o1 o2 o3 : Obj, Below w.heap.size w (((w.alloc o1).alloc o2).alloc o3) from fun o1 o2 o3 => ((below1 w o1).alloc (by simp) o2).alloc (by simp; omega) o3)
  clear hw hwn hsz hsn
  go_enter Tryz.func18, Tryz.ntmps18
  go_wp2_with fail
  refine (l3WellFormed_all b off cap bn offn cn ns xs _ hm hmn ((unhide HW).below ((unhide HB0) _ _ _) hB) (unhide HZ) (by simp; omega) ((unhide HWN).below ((unhide HB0) _ _ _) hBn) (unhide HZN) (by simp; omega)).mono ?_
  rintro e w1 ⟨⟨v, rfl, hv⟩, hb1⟩
  have HV := hide hv
  have bel1 : Below w.heap.size w w1 := ((unhide HB0) _ _ _).trans (hb1.mono (by simp; omega))
  have z1 : w.heap.size + 3 ≤ w1.heap.size := by have := hb1.size; simp at this; omega
  have HCS := hide (show Cs [(w.heap.size, 0, .slice (some ⟨b, off, none⟩) ns.length cap), (w.heap.size + 1, 0, .slice (some ⟨bn, offn, none⟩) xs.length cn), (w.heap.size + 1 + 1, 0, .slice none 0 0)] w1 from Cs.below (fun p hp => by
    simp only [List.mem_cons, List.not_mem_nil, or_false] at hp
    rcases hp with rfl | rfl | rfl
    · simp [go_sem]
    · simp [go_sem]
    · simp [go_sem]) hb1)
  have d1 : w1.frozen? ⟨w.heap.size + 1 + 1, 0, none⟩ = false := (hb1.frozen (p := ⟨w.heap.size + 1 + 1, 0, none⟩) (by simp)).trans (by simp [go_sem])
  have c0 := (unhide HCS) (w.heap.size, 0, .slice (some ⟨b, off, none⟩) ns.length cap) (by simp)
  have c1 := (unhide HCS) (w.heap.size + 1, 0, .slice (some ⟨bn, offn, none⟩) xs.length cn) (by simp)
  have c2 := (unhide HCS) (w.heap.size + 1 + 1, 0, .slice none 0 0) (by simp)
  simp only at c0 c1 c2
  clear hv hb1 HB0
  cases v
  · have HF := hide (show ∀ W : World, W = w1.setCell ⟨w.heap.size + 1 + 1, 0, none⟩ (.slice none 0 0) → Below w.heap.size w W from fun W hW => by rw [hW]; exact bel1.setCell (by simp; omega) _)
    go_wp2_with fail
    refine bodyPost_ret (v := .tuple #[.agg #[.slice none 0 0], .bool false]) ?res rfl ⟨⟨none, 0, [], false, rfl, hide (Or.inl ⟨rfl, rfl⟩), hide (Or.inr ⟨fun h => Bool.false_ne_true ((unhide HV).2 h.1), rfl, rfl⟩)⟩, (unhide HF) _ rfl⟩
    case res => simp [results, Tryz.results18, go_sem, c2]
  have HY := hide ((unhide HV).1 rfl)
  clear HV
  have h20 := (unhide HY).2.1.2.1
  have h1 := (unhide HY).2.1.1
  go_wp2_with fail
  refine (specErase_any bn offn cn xs _ hmn ((unhide HWN).below bel1 hBn) (unhide HZN) (Nat.lt_of_lt_of_le hBn bel1.size)).mono ?_
  rintro e w2 ⟨⟨a2, k2, zs, v, rfl, hown, her⟩, hb2⟩
  have hzs : v = true ∧ zs = er xs xs.length := by
    rcases unhide her with ⟨_, h, h'⟩ | ⟨h, _⟩
    · exact ⟨h, h'⟩
    · exact absurd (unhide HY).2.1 h
  obtain ⟨rfl, hz⟩ := hzs
  have hzl : zs.length = cnt xs xs.length := by rw [hz, er_len]
  have hzp := cnt_pos (unhide HY).2.1 h1
  have hzm := cnt_le xs xs.length
  obtain ⟨g2, rfl, hg2, hfil⟩ : ∃ g, a2 = some ⟨g, 0, none⟩ ∧ w1.heap.size ≤ g ∧ FilledN w2 g zs zs.length := by
    rcases unhide hown with ⟨h, _⟩ | h
    · omega
    · exact h
  have hgl := hfil.1
  have HZ2 := hide (hfil.ops)
  have HER := hide hz
  have bel2 := bel1.trans (hb2.mono bel1.size)
  have z2 : w1.heap.size ≤ w2.heap.size := hb2.size
  have HC2 := hide ((unhide HCS).below hb2)
  have d2 : w2.frozen? ⟨w.heap.size + 1 + 1, 0, none⟩ = false := (hb2.frozen (p := ⟨w.heap.size + 1 + 1, 0, none⟩) (show w.heap.size + 1 + 1 < w1.heap.size by omega)).trans d1
  have HZL := hide hzl
  have hz20 : zs.length ≤ 20000 := by omega
  have hz1 : 1 ≤ zs.length := by omega
  clear hown her hfil hb2 HCS hz c0 c1 c2 d1 hzl hzp hzm bel1
  obtain ⟨W3, HW3⟩ : ∃ W3, Hid (W3 = (w2.alloc (.cells #[.slice (some ⟨g2, 0, none⟩) zs.length k2] 28)).alloc (.cells #[] 81)) := ⟨_, hide rfl⟩
  have hb3 : Below w2.heap.size w2 W3 := by rw [unhide HW3]; exact (below1 _ _).alloc (by simp) _
  have s3 : W3.heap.size = w2.heap.size + 2 := by rw [unhide HW3]; simp
  have bel3 := bel2.trans (hb3.mono bel2.size)
  have HR3 := hide (show RowV W3 (w2.heap.size + 1) (.slice (some ⟨w2.heap.size + 1, 0, none⟩) 0 0) [] by
    rw [unhide HW3]
    have := World.ownsRow_lit (base := w2.heap.size + 1) (e := 81) (size := 4) (w2.alloc (.cells #[.slice (some ⟨g2, 0, none⟩) zs.length k2] 28)) #[] 0 (by simp) (Nat.zero_le _) rfl
    simpa [RowV, cellsN] using this)
  have HC3 := hide ((unhide HC2).below hb3)
  have d3 : W3.frozen? ⟨w.heap.size + 1 + 1, 0, none⟩ = false := (hb3.frozen (p := ⟨w.heap.size + 1 + 1, 0, none⟩) (show w.heap.size + 1 + 1 < w2.heap.size by omega)).trans d2
  obtain ⟨vs, hvs⟩ : ∃ vs, vs = gS ns xs (xs.length - 1) 0 0 := ⟨_, rfl⟩
  have hvl := gS_len ns xs xs.length (xs.length - 1) 0 (by omega) (unhide HY).2.1.2.2.1 0 0
  rw [← hvs] at hvl
  have ei : (zs.length : Int) - 1 = ((zs.length - 1 : Nat) : Int) := by omega
  have HCALL := hide (l4Grouped_any b off cap g2 0 k2 ns xs zs hm (unhide HZ) (unhide HY).2.1 (unhide HY).2.2 (unhide HER) xs.length (xs.length - 1) 0 (by omega) (by omega) (unhide HY).2.1.2.2.1 (zs.length - 1) 0 (w2.heap.size + 1) (.slice (some ⟨w2.heap.size + 1, 0, none⟩) 0 0) [] vs W3 (by rw [Nat.sub_add_cancel h1, ← unhide HZL]; omega) ((unhide HW).below bel3 hB) (by have := bel2.size; omega) ((unhide HZ2).below hb3 hgl) (by omega) (by omega) (unhide HR3) (by rw [List.length_nil]; omega) (by rw [List.nil_append, List.length_nil]; exact hvs))
  rw [unhide HW3] at HCALL
  have HVS := hide hvs
  have hvl1 := hvl.1
  have hvl2 := hvl.2
  have c0 : w2.cell? ⟨w.heap.size, 0, none⟩ = some (.slice (some ⟨b, off, none⟩) ns.length cap) := (unhide HC2) (w.heap.size, 0, .slice (some ⟨b, off, none⟩) ns.length cap) (by simp)
  have hT : w.heap.size < w2.heap.size := by omega
  clear hvs hvl HR3
  go_wp2_with fail
  refine (unhide HCALL).mono ?_
  rw [← unhide HW3]
  rintro x w4 ⟨u', rfl, hr, hg, ho⟩
  obtain ⟨g4, c4, rfl, hg4, hfil⟩ := (show RowV w4 (w2.heap.size + 1) u' vs → ∃ g c, u' = .slice (some ⟨g, 0, none⟩) vs.length c ∧ w2.heap.size + 1 ≤ g ∧ FilledN w4 g vs vs.length from fun h => by
    have hh := h
    unfold RowV at hh
    obtain ⟨_, ⟨rfl, h0⟩ | ⟨g, cap, cur, rfl, _⟩⟩ := h
    · omega
    · have := owns_filledN hh
      exact ⟨g, cap, rfl, this.1, this.2⟩) (unhide hr)
  have e1 : w4.cell? ⟨w.heap.size + 1 + 1, 0, none⟩ = some (.slice none 0 0) := (grown_cell (unhide hg) (b := w.heap.size + 1 + 1) (by omega) (by simp [Value.ownBlock]; omega) 0).trans ((unhide HC3) (w.heap.size + 1 + 1, 0, .slice none 0 0) (by simp))
  have f1 : w4.frozen? ⟨w.heap.size + 1 + 1, 0, none⟩ = false := (World.frozen?_of_block (w := W3) ((unhide hg).block (w.heap.size + 1 + 1) (by omega) (by simp [Value.ownBlock]; omega))).trans d3
  have bel4 : Below w.heap.size w w4 := bel3.trans ⟨(unhide hg).os, (unhide hg).tape, (unhide hg).output, (unhide hg).size, fun i hi => (unhide hg).block i (by have := bel3.size; omega) (by simp [Value.ownBlock]; have := bel2.size; omega)⟩
  have HFIL := hide hfil
  clear hr hg ho hfil HCALL HC2 HC3 d2 d3 c0 hb3 HW3
  by_cases hq : vs.length ≤ 20000
  · have hq' : ¬ (20000 : Int) < (vs.length : Int) := by omega
    go_wp2_with fail
    refine bodyPost_ret (v := .tuple #[.agg #[.slice (some ⟨g4, 0, none⟩) vs.length c4], .bool true]) ?res rfl ⟨⟨some ⟨g4, 0, none⟩, c4, vs, true, rfl, hide (Or.inr ⟨g4, rfl, by omega, ?_⟩), hide (Or.inl ⟨⟨unhide HY, by rw [← unhide HVS]; exact hq⟩, rfl, unhide HVS⟩)⟩, ?_⟩
    case res => simp [results, Tryz.results18, go_sem, e1]
    · exact (unhide HFIL).setCell _ _ _ (by omega)
    · exact bel4.setCell (by simp; omega) _
  · have hq' : (20000 : Int) < (vs.length : Int) := by omega
    go_wp2_with fail
    refine bodyPost_ret (v := .tuple #[.agg #[.slice none 0 0], .bool false]) ?res rfl ⟨⟨none, 0, [], false, rfl, hide (Or.inl ⟨rfl, rfl⟩), hide (Or.inr ⟨fun h => hq (by rw [unhide HVS]; exact h.2), rfl, rfl⟩)⟩, ?_⟩
    case res => simp [results, Tryz.results18, go_sem, e1]
    · exact bel4.setCell (by simp; omega) _
end Go.Proofs.YtfboipappaonhaaGreat

/-
  Walk: a table and a tree are drawn.
-/
namespace Go.Proofs.YtfboipappaonhaaGreat
set_option maxRecDepth 100000
set_option linter.unusedSimpArgs false
set_option linter.unusedVariables false
open Go.RowKit

set_option maxHeartbeats 8000000 in
theorem l3DrawTreeOver_any (rp cap p : Nat) (a : Option Addr) (bs : List UInt8) (w : World) (h : RdS w rp a cap bs p) (hl : bs.length ≤ 1200) :
    Calls Tryz.prog 49 #[.pointer (some ⟨rp, 0, none⟩)] w (OvPost w rp bs p) := by
  have hrpw := h.lt
  have H := hide h
  clear h
  go_enter Tryz.func49, Tryz.ntmps49
  go_wp2_with fail
  have HB0 := hide (show Below w.heap.size w ((w.alloc (.cells #[.slice none 0 0] 25)).alloc (.cells #[.slice none 0 0] 28)) from (below1 _ _).alloc (by simp) _)
  (with_reducible refine (next_at rp cap p a bs _ ((unhide H).below (unhide HB0)) hl).mono ?_)
  rintro e w1 ⟨⟨k, rfl, hk, HK⟩, H1, HP1⟩
  have z1 : w.heap.size + 2 ≤ w1.heap.size := by have := (unhide HP1).size; simpa using this
  have q0 : w1.cell? ⟨w.heap.size, 0, none⟩ = some (.slice none 0 0) := ((unhide HP1).cell (b := w.heap.size) (by simp; omega) (by omega) 0).trans (by simp [go_sem])
  have g0 : w1.frozen? ⟨w.heap.size, 0, none⟩ = false := ((unhide HP1).frozen (b := w.heap.size) (by simp; omega) (by omega) 0).trans (by simp [go_sem])
  have q1 : w1.cell? ⟨w.heap.size + 1, 0, none⟩ = some (.slice none 0 0) := ((unhide HP1).cell (b := w.heap.size + 1) (by simp) (by omega) 0).trans (by simp [go_sem])
  have g1 : w1.frozen? ⟨w.heap.size + 1, 0, none⟩ = false := ((unhide HP1).frozen (b := w.heap.size + 1) (by simp) (by omega) 0).trans (by simp [go_sem])
  have HW1 := hide ((Kept1.of_below (g := rp) (unhide HB0)).trans (unhide HP1))
  clear H HP1 HB0
  go_wp2_with fail
  (with_reducible refine (l1DrawTable_any rp cap (adv bs p) a bs _ (unhide H1) hl).mono ?_)
  rintro e w2 ⟨⟨gt, ct, q, ys, rfl, hgt, hF, HT, H2⟩, HP2⟩
  have hy1 := (unhide HT).len
  have h38 := Nat.mod_lt (nxt bs (adv bs p)) (show 0 < 8 by decide)
  have hy10 : ys.length ≤ 10 := by omega
  have HYS := hide hy1.2
  have HYK := hide (unhide HT).kinds
  have z2 := (unhide HP2).size
  have hgl := hF.1
  have HF2 := hide (hF.below (below1 w2 (.cells #[.slice (some ⟨gt, 0, none⟩) ys.length ct] 25)) hgl)
  have HR2 := hide ((unhide H2).below (below1 w2 (.cells #[.slice (some ⟨gt, 0, none⟩) ys.length ct] 25)))
  clear hy1 h38 H1 H2 hF
  have HX := hide (l3DrawTree_any rp cap q gt ct a bs ys ((k : Int) % 2 == 1) _ (unhide HR2) hl (by omega) (unhide HYK) (unhide HF2).ops (by simp; omega) (by omega))
  obtain ⟨y, HY⟩ : ∃ y, Hid (gen bs ys ((k : Int) % 2 == 1) (2 + nxt bs q % 5) (adv bs q) [] = y) := ⟨_, hide rfl⟩
  rw [unhide HY] at HX
  have HY0 := hide (show tr0 bs p ys q = y by
    rw [← unhide HY, unhide HK]
    unfold tr0
    congr 1
    rw [Bool.eq_iff_iff, decide_eq_true_eq, beq_iff_eq]
    omega)
  have hyl := tr0_len bs p ys q
  rw [unhide HY0] at hyl
  obtain ⟨pl, us⟩ := y
  simp only at HX hyl
  clear HY
  go_wp2_with fail
  (with_reducible refine (unhide HX).mono ?_)
  rintro e w3 ⟨⟨gn, cn, rfl, hcn, hgn, hN⟩, H3, HP3⟩
  have hgn2 : w2.heap.size + 1 ≤ gn := by simpa using hgn
  have z3 : w2.heap.size + 1 ≤ w3.heap.size := by have := (unhide HP3).size; simpa using this
  have hnl := hN.1
  have HB3 := hide (below1 w3 (.cells #[.slice (some ⟨gn, 0, none⟩) us.length cn] 28))
  have HKA := hide (((Kept1.of_below (g := rp) (below1 w2 (.cells #[.slice (some ⟨gt, 0, none⟩) ys.length ct] 25))).trans (unhide HP3)).trans (Kept1.of_below (unhide HB3)))
  have kc := fun (b : Nat) (hb : b < w1.heap.size) (h1 : b ≠ rp) => ((unhide HP3).cell (b := b) (by simp; omega) h1 0).trans (((below1 w2 (.cells #[.slice (some ⟨gt, 0, none⟩) ys.length ct] 25)).cell (p := ⟨b, 0, none⟩) (by show b < w2.heap.size; omega)).trans ((unhide HP2).cell (b := b) hb h1 0))
  have kf := fun (b : Nat) (hb : b < w1.heap.size) (h1 : b ≠ rp) => ((unhide HP3).frozen (b := b) (by simp; omega) h1 0).trans (((below1 w2 (.cells #[.slice (some ⟨gt, 0, none⟩) ys.length ct] 25)).frozen (p := ⟨b, 0, none⟩) (by show b < w2.heap.size; omega)).trans ((unhide HP2).frozen (b := b) hb h1 0))
  have r0 : w3.cell? ⟨w.heap.size, 0, none⟩ = some (.slice none 0 0) := (kc _ (by omega) (by omega)).trans q0
  have f0 : w3.frozen? ⟨w.heap.size, 0, none⟩ = false := (kf _ (by omega) (by omega)).trans g0
  have r1 : w3.cell? ⟨w.heap.size + 1, 0, none⟩ = some (.slice none 0 0) := (kc _ (by omega) (by omega)).trans q1
  have f1 : w3.frozen? ⟨w.heap.size + 1, 0, none⟩ = false := (kf _ (by omega) (by omega)).trans g1
  have t0 : w3.cell? ⟨w2.heap.size, 0, none⟩ = some (.slice (some ⟨gt, 0, none⟩) ys.length ct) := ((unhide HP3).cell (b := w2.heap.size) (by simp) (by omega) 0).trans (by simp [go_sem])
  have tf : w3.frozen? ⟨w2.heap.size, 0, none⟩ = false := ((unhide HP3).frozen (b := w2.heap.size) (by simp) (by omega) 0).trans (by simp [go_sem])
  have HOV := hide (show OvS w (w3.alloc (.cells #[.slice (some ⟨gn, 0, none⟩) us.length cn] 28)) rp w2.heap.size w3.heap.size gt ct gn cn ys us from by
    refine ⟨⟨hrpw, by omega, by omega, by omega, by omega, by omega, by omega, by omega, by omega, by omega, by omega⟩, by simp; omega, by simp, ((unhide HB3).cell (p := ⟨_, 0, none⟩) (by show w.heap.size < w3.heap.size; omega)).trans r0, ((unhide HB3).frozen (p := ⟨_, 0, none⟩) (by show w.heap.size < w3.heap.size; omega)).trans f0, ((unhide HB3).cell (p := ⟨_, 0, none⟩) (by show w.heap.size + 1 < w3.heap.size; omega)).trans r1, ((unhide HB3).frozen (p := ⟨_, 0, none⟩) (by show w.heap.size + 1 < w3.heap.size; omega)).trans f1, ((unhide HB3).cell (p := ⟨w2.heap.size, 0, none⟩) (by show w2.heap.size < w3.heap.size; omega)).trans t0, ((unhide HB3).frozen (p := ⟨w2.heap.size, 0, none⟩) (by show w2.heap.size < w3.heap.size; omega)).trans tf, by simp [go_sem], by simp [go_sem], ?_, hN.below (unhide HB3) hnl, ((unhide HW1).trans (unhide HP2)).trans (unhide HKA)⟩
    exact (Kept1.filled (unhide HP3) (unhide HF2) (by omega)).below (unhide HB3) (by omega))
  have HR := hide ((unhide H3).below (unhide HB3))
  have m0 : w.heap.size < w3.heap.size := by omega
  have m1 : w.heap.size + 1 < w3.heap.size := by omega
  have m2 : w2.heap.size < w3.heap.size := by omega
  have n0 : ¬ w.heap.size = w2.heap.size := by omega
  have n1 : ¬ w.heap.size + 1 = w2.heap.size := by omega
  have n2 : ¬ w.heap.size = w3.heap.size := by omega
  have n3 : ¬ w.heap.size + 1 = w3.heap.size := by omega
  have n4 : ¬ w2.heap.size = w3.heap.size := by omega
  have n5 : ¬ w3.heap.size = w2.heap.size := by omega
  have c31 := (unhide H3).c1
  have fz3 := (unhide H3).fz
  have HN3 := hide hN
  have H3F := hide (unhide H3).free
  have m3 : rp < w3.heap.size := by omega
  have n6 : ¬ rp = w3.heap.size := by omega
  have n7 : ¬ w3.heap.size = rp := by omega
  have n8 : ¬ w2.heap.size = rp := by omega
  have n9 : ¬ w.heap.size = rp := by omega
  have na : ¬ w.heap.size + 1 = rp := by omega
  clear HX hN H3 HP3 HKA HB3 HF2 HR2 HW1 HP2 q0 g0 q1 g1 hgn kc kf
  have hcase : k % 5 = 4 ∨ (k % 20 = 3 ∧ k % 5 ≠ 4) ∨ (k % 20 ≠ 3 ∧ k % 5 ≠ 4) := by omega
  have hend : k % 32 = 21 ∨ (k % 32 ≠ 21 ∧ k % 4 = 2) ∨ (k % 32 ≠ 21 ∧ k % 4 ≠ 2) := by omega
  rcases hcase with hst | ⟨hst, hst'⟩ | ⟨hst, hst'⟩
  · have e5 : ((k : Int) % 5 == 4) = true := by simp; omega
    have e20 : ((k : Int) % 20 == 3) = false := by simp; omega
    have ek7 : (1 : Int) + (k : Int) % 7 = ((1 + k % 7 : Nat) : Int) := by omega
    obtain ⟨vs, HVS⟩ : ∃ vs, Hid (spT us (nxt bs (1 + k % 7)) (nxt bs (adv bs (1 + k % 7))) = vs) := ⟨_, hide rfl⟩
    have HTR := hide (show tr1 bs p ys q = vs by unfold tr1; rw [← unhide HK, if_pos hst, unhide HY0]; exact unhide HVS)
    have HTB := hide (show tb1 bs p ys q = ys by unfold tb1; rw [← unhide HK, if_neg (by omega)])
    have HPL := hide (show pl2 bs p ys q = adv bs (adv bs (1 + k % 7)) by unfold pl2 pl1; rw [← unhide HK, if_neg (by omega), if_pos hst])
    have HKW := hide (((Kp3.refl w3 rp rp rp).setO 1 (.int .i64 (1 + (k : Int) % 7))).push (.cells #[.slice (some ⟨gn, 0, none⟩) us.length cn] 28)).kept1
    have HOA := hide ((unhide HOV).read (unhide HKW))
    have HRA := hide (((unhide H3F).move (1 + k % 7) (1 + (k : Int) % 7) ek7).below (below1 _ (.cells #[.slice (some ⟨gn, 0, none⟩) us.length cn] 28)))
    have hsx := tr0_sz (unhide HYS) bs p q
    rw [unhide HY0] at hsx
    have HC := hide (l3SpoilTree_any rp cap (1 + k % 7) gn cn a bs us _ (unhide HRA) hl hyl.1 hyl.2 hcn (unhide HOA).fn (by omega) hsx)
    rw [unhide HVS] at HC
    clear ek7 hsx HOV HR
    go_wp2_with fail
    (with_reducible refine (unhide HC).mono ?_)
    rintro e w4 ⟨⟨gn', cn', rfl, hgn', hF4⟩, H4, HP4⟩
    obtain ⟨⟨R0, F0⟩, ⟨R1, F1⟩, ⟨T0, TF⟩, ⟨U0, UF⟩⟩ := (unhide HOA).boxes (unhide HP4) (Or.inl rfl)
    have HOV := hide ((unhide HOA).tree (cn' := cn') (unhide HP4) hgn' hF4)
    have HR := hide ((unhide H4).set w3.heap.size 0 (.slice (some ⟨gn', 0, none⟩) vs.length cn') (by omega))
    have M0 := block_lt_of_cell R0
    have M1 := block_lt_of_cell R1
    have M2 := block_lt_of_cell T0
    have M3 := block_lt_of_cell U0
    clear HC HOA HRA HKW hF4 H4 HP4 hgn' HVS c31 fz3 r0 f0 r1 f1 t0 tf
    rcases hend with he | ⟨he, he'⟩ | ⟨he, he'⟩
    · have e32 : ((k : Int) % 32 == 21) = true := by simp; omega
      go_wp2_with fail
      refine (l3Minus_any _).mono ?_
      rintro e w5 ⟨⟨gm, cm, rfl, hgm, hFm⟩, hb5⟩
      have HO5 := hide ((unhide HOV).below hb5)
      have HR5 := hide ((unhide HR).below hb5)
      have HM5 := hide hFm
      have lgm := hFm.1
      have lvl := (unhide HOV).lR
      have hrgm : gm ≠ rp := by omega
      clear hFm hb5 HR HOV e5 e20 R0 F0 R1 F1 T0 TF U0 UF
      go_wp2_with fail
      refine (next_free rp cap _ a bs _ (unhide HR5) hl).mono ?_
      rintro e w6 ⟨⟨v, rfl, hv, HV⟩, H6, HP6⟩
      have HO6 := hide ((unhide HO5).read (unhide HP6))
      have HM6 := hide ((unhide HP6).filled (unhide HM5) hrgm)
      obtain ⟨m, HM⟩ : ∃ m, Hid (m = 997 + v % 5) := ⟨_, hide rfl⟩
      have em : (1000 : Int) + (v : Int) % 5 - 3 = (m : Int) := by have := unhide HM; omega
      have hm2 : m ≤ 2000 := by have := unhide HM; omega
      have HD := hide (show TreeD bs p minusT (chT m) from ⟨ys, q, unhide HT, Or.inl ⟨by rw [← unhide HK]; exact he, rfl, by rw [unhide HPL, ← unhide HV, unhide HM]⟩⟩)
      have z56 := (unhide HP6).size
      clear HO5 HM5 HP6 HR5
      go_wp2_with fail
      refine (l3Chain_any m _ hm2).mono ?_
      rintro e w7 ⟨⟨gc, cc, rfl, hgc, hFc⟩, hb7⟩
      have HO7 := hide ((unhide HO6).below hb7)
      have HM7 := hide ((unhide HM6).below hb7 (unhide HM6).1)
      have HC7 := hide hFc
      have h7r0 := (unhide HO7).r0
      have h7f0 := (unhide HO7).f0
      have h7r1 := (unhide HO7).r1
      have h7f1 := (unhide HO7).f1
      have l70 := block_lt_of_cell h7r0
      have l71 := block_lt_of_cell h7r1
      have lR6 := (unhide HO6).lR
      clear HO6 HM6 hFc hb7
      go_wp2_with fail
      refine bodyPost_ret (v := .tuple #[.agg #[.slice (some ⟨gm, 0, none⟩) minusT.length cm], .agg #[.slice (some ⟨gc, 0, none⟩) (chT m).length cc]]) ?res rfl (ov_done (TR := w3.heap.size) (unhide HO7).kp (by omega) (by omega) (unhide HO7).ps.p2 (by omega) (by omega) (unhide HM7) (unhide HC7) (unhide HD) ((Kp3.refl _ _ _ _).setX _ |>.setY _))
      case res => simp [results, Tryz.results49, go_sem, h7r0, h7r1, l70, l71]
    · have e32 : ((k : Int) % 32 == 21) = false := by simp; omega
      have e4 : ((k : Int) % 4 == 2) = true := by simp; omega
      have HTZ := hide (tb1_sized (unhide HYS) hy10 bs p q)
      have HTS := hide (tr1_sh (unhide HYS) bs p q)
      have htl := tr1_len bs p ys q
      rw [unhide HTB] at HTZ
      rw [unhide HTR] at HTS htl
      go_wp2_with fail
      have lft := (unhide HOV).ft.1
      have lfn := (unhide HOV).fn.1
      (with_reducible refine (specGroup_any gt 0 ct gn' 0 cn' ys vs _ (unhide HTZ).1 (by omega) (unhide HOV).ft.ops (unhide HTZ).2 lft (unhide HOV).fn.ops (unhide HTS).sized lfn).mono ?_)
      rintro e w5 ⟨⟨ag, cg, gs, v, rfl, hOG, hG⟩, hb5⟩
      have HO5 := hide (((unhide HOV).below hb5).below (below1 w5 (.cells #[.slice ag gs.length cg] 28)))
      have HO4 := hide ((unhide HOV).below hb5)
      have hz5 : w4.heap.size ≤ w5.heap.size := by have := hb5.size; simpa [World.setCell] using this
      obtain ⟨_, l5B, l5R, x0, y0, x1, y1, x2, y2, x3, y3, _, _, _⟩ := unhide HO4
      have l50 := block_lt_of_cell x0
      have l51 := block_lt_of_cell x1
      clear e5 e20 R0 F0 R1 F1 T0 TF U0 UF
      cases v with
      | false =>
        have HD := hide (show TreeD bs p ys vs from ⟨ys, q, unhide HT, Or.inr ⟨by rw [← unhide HK]; exact he, (unhide HTB).symm, Or.inl ⟨by rw [← unhide HK]; exact he', gs, false, by rw [unhide HTB, unhide HTR]; exact unhide hG, by rw [unhide HTR]; rfl⟩⟩⟩)
        clear HOV HO4 hb5 hOG
        go_wp2_with fail
        go_region
        all_goals go_wp2
        all_goals
          refine bodyPost_ret (v := .tuple #[.agg #[.slice (some ⟨gt, 0, none⟩) ys.length ct], .agg #[.slice (some ⟨gn', 0, none⟩) vs.length cn']]) ?res rfl (ov_done (TR := w3.heap.size) (unhide HO5).kp (unhide HO5).ps.p4 (unhide HO5).ps.p5 (unhide HO5).ps.p2 (unhide HO5).ps.p7 (unhide HO5).ps.p9 (unhide HO5).ft (unhide HO5).fn (unhide HD) (((Kp3.refl _ _ _ _).setX _ |>.setY _).push _).drew)
          case res => simp [results, Tryz.results49, go_sem, x0, x1, l50, l51, n0, n1, n2, n3]
      | true =>
        have hgl : 1 ≤ gs.length := by
          rcases unhide hG with ⟨hh, _, e⟩ | ⟨_, h, _⟩
          · rw [e]; exact (gS_len _ _ _ _ _ (Nat.lt_succ_self _) hh.1.2.1.2.2.1 _ _).1
          · cases h
        obtain ⟨gg, rfl, hgg, hFg⟩ : ∃ g, ag = some ⟨g, 0, none⟩ ∧ _ ≤ g ∧ FilledN w5 g gs gs.length := by
          rcases unhide hOG with ⟨h, _⟩ | h
          · omega
          · exact h
        have HD := hide (show TreeD bs p ys gs from ⟨ys, q, unhide HT, Or.inr ⟨by rw [← unhide HK]; exact he, (unhide HTB).symm, Or.inl ⟨by rw [← unhide HK]; exact he', gs, true, by rw [unhide HTB, unhide HTR]; exact unhide hG, rfl⟩⟩⟩)
        have HG5 := hide (hFg.below (below1 w5 (.cells #[.slice (some ⟨gg, 0, none⟩) gs.length cg] 28)) hFg.1)
        have hgR : gg ≠ w3.heap.size := by have := (unhide HOV).lR; omega
        have hg2 : w.heap.size + 2 ≤ gg := by have := (unhide HOV).lR; omega
        clear HOV HO4 hb5 hOG hFg
        go_wp2_with fail
        go_region
        all_goals go_wp2
        all_goals
          refine bodyPost_ret (v := .tuple #[.agg #[.slice (some ⟨gt, 0, none⟩) ys.length ct], .agg #[.slice (some ⟨gg, 0, none⟩) gs.length cg]]) ?res rfl (ov_done (TR := w3.heap.size) (unhide HO5).kp (unhide HO5).ps.p4 hg2 (unhide HO5).ps.p2 (unhide HO5).ps.p7 hgR (unhide HO5).ft (unhide HG5) (unhide HD) (((Kp3.refl _ _ _ _).setZ _ |>.setX _ |>.setY _).push _).drew)
          case res => simp [results, Tryz.results49, go_sem, x0, x1, l50, l51, n0, n1, n2, n3]
    · have e32 : ((k : Int) % 32 == 21) = false := by simp; omega
      have e4 : ((k : Int) % 4 == 2) = false := by simp; omega
      have HD := hide (show TreeD bs p ys vs from ⟨ys, q, unhide HT, Or.inr ⟨by rw [← unhide HK]; exact he, (unhide HTB).symm, Or.inr ⟨by rw [← unhide HK]; exact he', (unhide HTR).symm⟩⟩⟩)
      go_wp2_with fail
      go_region
      all_goals go_wp2
      all_goals
        refine bodyPost_ret (v := .tuple #[.agg #[.slice (some ⟨gt, 0, none⟩) ys.length ct], .agg #[.slice (some ⟨gn', 0, none⟩) vs.length cn']]) ?res rfl (ov_done (TR := w3.heap.size) (unhide HOV).kp (unhide HOV).ps.p4 (unhide HOV).ps.p5 (unhide HOV).ps.p2 (unhide HOV).ps.p7 (unhide HOV).ps.p9 (unhide HOV).ft (unhide HOV).fn (unhide HD) (((Kp3.refl _ _ _ _).setX _ |>.setY _).drew))
        case res => simp [results, Tryz.results49, go_sem, R0, R1, m0, m1, n0, n1, n2, n3]
  · have e5 : ((k : Int) % 5 == 4) = false := by simp; omega
    have e20 : ((k : Int) % 20 == 3) = true := by simp; omega
    obtain ⟨ms, HVS⟩ : ∃ ms, Hid (badT ys bs pl = ms) := ⟨_, hide rfl⟩
    have HTR := hide (show tr1 bs p ys q = us by unfold tr1; rw [← unhide HK, if_neg hst', unhide HY0])
    have HTB := hide (show tb1 bs p ys q = ms by unfold tb1 pl1; rw [← unhide HK, if_pos hst, if_neg hst', unhide HY0]; exact unhide HVS)
    have HPL := hide (show pl2 bs p ys q = badP ys bs pl by unfold pl2 pl1; rw [← unhide HK, if_pos hst, if_neg hst', unhide HY0])
    have HC := hide (l1Spoil_any rp cap pl gt ct a bs ys _ (unhide HR) hl hy10 (unhide HOV).ft (by omega) (fun i hi => by have := (unhide HYS) i hi; omega))
    rw [unhide HVS] at HC
    clear HR
    go_wp2_with fail
    (with_reducible refine (unhide HC).mono ?_)
    rintro e w4 ⟨⟨gt', ct', rfl, hgt', hF4⟩, H4, HP4⟩
    obtain ⟨⟨R0, F0⟩, ⟨R1, F1⟩, ⟨T0, TF⟩, ⟨U0, UF⟩⟩ := (unhide HOV).boxes (unhide HP4) (Or.inr rfl)
    have HOB := hide ((unhide HOV).table (ct' := ct') (unhide HP4) hgt' hF4)
    clear HOV
    have HOV := HOB
    have HR := hide ((unhide H4).set w2.heap.size 0 (.slice (some ⟨gt', 0, none⟩) ms.length ct') (by omega))
    have M0 := block_lt_of_cell R0
    have M1 := block_lt_of_cell R1
    have M2 := block_lt_of_cell T0
    have M3 := block_lt_of_cell U0
    clear HOB HC hF4 H4 HP4 hgt' HVS c31 fz3 r0 f0 r1 f1 t0 tf
    rcases hend with he | ⟨he, he'⟩ | ⟨he, he'⟩
    · omega
    · omega
    · have e32 : ((k : Int) % 32 == 21) = false := by simp; omega
      have e4 : ((k : Int) % 4 == 2) = false := by simp; omega
      have HD := hide (show TreeD bs p ms us from ⟨ys, q, unhide HT, Or.inr ⟨by rw [← unhide HK]; exact he, (unhide HTB).symm, Or.inr ⟨by rw [← unhide HK]; exact he', (unhide HTR).symm⟩⟩⟩)
      go_wp2_with fail
      go_region
      all_goals go_wp2
      all_goals
        refine bodyPost_ret (v := .tuple #[.agg #[.slice (some ⟨gt', 0, none⟩) ms.length ct'], .agg #[.slice (some ⟨gn, 0, none⟩) us.length cn]]) ?res rfl (ov_done (TR := w3.heap.size) (unhide HOV).kp (unhide HOV).ps.p4 (unhide HOV).ps.p5 (unhide HOV).ps.p2 (unhide HOV).ps.p7 (unhide HOV).ps.p9 (unhide HOV).ft (unhide HOV).fn (unhide HD) (((Kp3.refl _ _ _ _).setX _ |>.setY _).drew))
        case res => simp [results, Tryz.results49, go_sem, R0, R1, m0, m1, n0, n1, n2, n3]
  · have e5 : ((k : Int) % 5 == 4) = false := by simp; omega
    have e20 : ((k : Int) % 20 == 3) = false := by simp; omega
    have HTR := hide (show tr1 bs p ys q = us by unfold tr1; rw [← unhide HK, if_neg hst', unhide HY0])
    have HTB := hide (show tb1 bs p ys q = ys by unfold tb1; rw [← unhide HK, if_neg hst])
    have HPL := hide (show pl2 bs p ys q = pl by unfold pl2 pl1; rw [← unhide HK, if_neg hst, if_neg hst', unhide HY0])
    rcases hend with he | ⟨he, he'⟩ | ⟨he, he'⟩
    · have e32 : ((k : Int) % 32 == 21) = true := by simp; omega
      go_wp2_with fail
      refine (l3Minus_any _).mono ?_
      rintro e w5 ⟨⟨gm, cm, rfl, hgm, hFm⟩, hb5⟩
      have HO5 := hide ((unhide HOV).below hb5)
      have HR5 := hide ((unhide HR).free.below hb5)
      have HM5 := hide hFm
      have lgm := hFm.1
      have lvl := (unhide HOV).lR
      have hrgm : gm ≠ rp := by omega
      clear hFm hb5 HR HOV e5 e20 r0 f0 r1 f1 t0 tf
      go_wp2_with fail
      refine (next_free rp cap _ a bs _ (unhide HR5) hl).mono ?_
      rintro e w6 ⟨⟨v, rfl, hv, HV⟩, H6, HP6⟩
      have HO6 := hide ((unhide HO5).read (unhide HP6))
      have HM6 := hide ((unhide HP6).filled (unhide HM5) hrgm)
      obtain ⟨m, HM⟩ : ∃ m, Hid (m = 997 + v % 5) := ⟨_, hide rfl⟩
      have em : (1000 : Int) + (v : Int) % 5 - 3 = (m : Int) := by have := unhide HM; omega
      have hm2 : m ≤ 2000 := by have := unhide HM; omega
      have HD := hide (show TreeD bs p minusT (chT m) from ⟨ys, q, unhide HT, Or.inl ⟨by rw [← unhide HK]; exact he, rfl, by rw [unhide HPL, ← unhide HV, unhide HM]⟩⟩)
      have z56 := (unhide HP6).size
      clear HO5 HM5 HP6 HR5
      go_wp2_with fail
      refine (l3Chain_any m _ hm2).mono ?_
      rintro e w7 ⟨⟨gc, cc, rfl, hgc, hFc⟩, hb7⟩
      have HO7 := hide ((unhide HO6).below hb7)
      have HM7 := hide ((unhide HM6).below hb7 (unhide HM6).1)
      have HC7 := hide hFc
      have h7r0 := (unhide HO7).r0
      have h7f0 := (unhide HO7).f0
      have h7r1 := (unhide HO7).r1
      have h7f1 := (unhide HO7).f1
      have l70 := block_lt_of_cell h7r0
      have l71 := block_lt_of_cell h7r1
      have lR6 := (unhide HO6).lR
      clear HO6 HM6 hFc hb7
      go_wp2_with fail
      refine bodyPost_ret (v := .tuple #[.agg #[.slice (some ⟨gm, 0, none⟩) minusT.length cm], .agg #[.slice (some ⟨gc, 0, none⟩) (chT m).length cc]]) ?res rfl (ov_done (TR := w3.heap.size) (unhide HO7).kp (by omega) (by omega) (unhide HO7).ps.p2 (by omega) (by omega) (unhide HM7) (unhide HC7) (unhide HD) ((Kp3.refl _ _ _ _).setX _ |>.setY _))
      case res => simp [results, Tryz.results49, go_sem, h7r0, h7r1, l70, l71]
    · have e32 : ((k : Int) % 32 == 21) = false := by simp; omega
      have e4 : ((k : Int) % 4 == 2) = true := by simp; omega
      have HTZ := hide (tb1_sized (unhide HYS) hy10 bs p q)
      have HTS := hide (tr1_sh (unhide HYS) bs p q)
      have htl := tr1_len bs p ys q
      rw [unhide HTB] at HTZ
      rw [unhide HTR] at HTS htl
      go_wp2_with fail
      have lft := (unhide HOV).ft.1
      have lfn := (unhide HOV).fn.1
      (with_reducible refine (specGroup_any gt 0 ct gn 0 cn ys us _ (unhide HTZ).1 (by omega) (unhide HOV).ft.ops (unhide HTZ).2 lft (unhide HOV).fn.ops (unhide HTS).sized lfn).mono ?_)
      rintro e w5 ⟨⟨ag, cg, gs, v, rfl, hOG, hG⟩, hb5⟩
      have HO5 := hide (((unhide HOV).below hb5).below (below1 w5 (.cells #[.slice ag gs.length cg] 28)))
      have HO4 := hide ((unhide HOV).below hb5)
      have hz5 : w3.heap.size + 1 ≤ w5.heap.size := by have := hb5.size; simpa [World.setCell] using this
      obtain ⟨_, l5B, l5R, x0, y0, x1, y1, x2, y2, x3, y3, _, _, _⟩ := unhide HO4
      have l50 := block_lt_of_cell x0
      have l51 := block_lt_of_cell x1
      clear e5 e20 r0 f0 r1 f1 t0 tf
      cases v with
      | false =>
        have HD := hide (show TreeD bs p ys us from ⟨ys, q, unhide HT, Or.inr ⟨by rw [← unhide HK]; exact he, (unhide HTB).symm, Or.inl ⟨by rw [← unhide HK]; exact he', gs, false, by rw [unhide HTB, unhide HTR]; exact unhide hG, by rw [unhide HTR]; rfl⟩⟩⟩)
        clear HOV HO4 hb5 hOG
        go_wp2_with fail
        go_region
        all_goals go_wp2
        all_goals
          refine bodyPost_ret (v := .tuple #[.agg #[.slice (some ⟨gt, 0, none⟩) ys.length ct], .agg #[.slice (some ⟨gn, 0, none⟩) us.length cn]]) ?res rfl (ov_done (TR := w3.heap.size) (unhide HO5).kp (unhide HO5).ps.p4 (unhide HO5).ps.p5 (unhide HO5).ps.p2 (unhide HO5).ps.p7 (unhide HO5).ps.p9 (unhide HO5).ft (unhide HO5).fn (unhide HD) (((Kp3.refl _ _ _ _).setX _ |>.setY _).push _).drew)
          case res => simp [results, Tryz.results49, go_sem, x0, x1, l50, l51, n0, n1, n2, n3]
      | true =>
        have hgl : 1 ≤ gs.length := by
          rcases unhide hG with ⟨hh, _, e⟩ | ⟨_, h, _⟩
          · rw [e]; exact (gS_len _ _ _ _ _ (Nat.lt_succ_self _) hh.1.2.1.2.2.1 _ _).1
          · cases h
        obtain ⟨gg, rfl, hgg, hFg⟩ : ∃ g, ag = some ⟨g, 0, none⟩ ∧ _ ≤ g ∧ FilledN w5 g gs gs.length := by
          rcases unhide hOG with ⟨h, _⟩ | h
          · omega
          · exact h
        have HD := hide (show TreeD bs p ys gs from ⟨ys, q, unhide HT, Or.inr ⟨by rw [← unhide HK]; exact he, (unhide HTB).symm, Or.inl ⟨by rw [← unhide HK]; exact he', gs, true, by rw [unhide HTB, unhide HTR]; exact unhide hG, rfl⟩⟩⟩)
        have HG5 := hide (hFg.below (below1 w5 (.cells #[.slice (some ⟨gg, 0, none⟩) gs.length cg] 28)) hFg.1)
        have hgR : gg ≠ w3.heap.size := by have := (unhide HOV).lR; omega
        have hg2 : w.heap.size + 2 ≤ gg := by have := (unhide HOV).lR; omega
        clear HOV HO4 hb5 hOG hFg
        go_wp2_with fail
        go_region
        all_goals go_wp2
        all_goals
          refine bodyPost_ret (v := .tuple #[.agg #[.slice (some ⟨gt, 0, none⟩) ys.length ct], .agg #[.slice (some ⟨gg, 0, none⟩) gs.length cg]]) ?res rfl (ov_done (TR := w3.heap.size) (unhide HO5).kp (unhide HO5).ps.p4 hg2 (unhide HO5).ps.p2 (unhide HO5).ps.p7 hgR (unhide HO5).ft (unhide HG5) (unhide HD) (((Kp3.refl _ _ _ _).setZ _ |>.setX _ |>.setY _).push _).drew)
          case res => simp [results, Tryz.results49, go_sem, x0, x1, l50, l51, n0, n1, n2, n3]
    · have e32 : ((k : Int) % 32 == 21) = false := by simp; omega
      have e4 : ((k : Int) % 4 == 2) = false := by simp; omega
      have HD := hide (show TreeD bs p ys us from ⟨ys, q, unhide HT, Or.inr ⟨by rw [← unhide HK]; exact he, (unhide HTB).symm, Or.inr ⟨by rw [← unhide HK]; exact he', (unhide HTR).symm⟩⟩⟩)
      go_wp2_with fail
      go_region
      all_goals go_wp2
      all_goals
        refine bodyPost_ret (v := .tuple #[.agg #[.slice (some ⟨gt, 0, none⟩) ys.length ct], .agg #[.slice (some ⟨gn, 0, none⟩) us.length cn]]) ?res rfl (ov_done (TR := w3.heap.size) (unhide HOV).kp (unhide HOV).ps.p4 (unhide HOV).ps.p5 (unhide HOV).ps.p2 (unhide HOV).ps.p7 (unhide HOV).ps.p9 (unhide HOV).ft (unhide HOV).fn (unhide HD) ((((Kp3.refl _ _ _ _).setX _ |>.setY _).push _).drew))
        case res => simp [results, Tryz.results49, go_sem, r0, r1, m0, m1, n0, n1, n2, n3]
end Go.Proofs.YtfboipappaonhaaGreat

/-
  Walk: a table and a tree are drawn for TreeOk.
-/
namespace Go.Proofs.YtfboipappaonhaaGreat
set_option maxRecDepth 100000
set_option linter.unusedSimpArgs false
set_option linter.unusedVariables false
open Go.RowKit

/-- What a draw of a table and a tree gives. -/
def TokPost (D : List OpR → List NodeR → Prop) (w : World) (e : Ending) (w' : World) : Prop :=
  (∃ (gt ct gn cn : Nat) (ns : List OpR) (us : List NodeR), e = .returned (.tuple #[.agg #[.slice (some ⟨gt, 0, none⟩) ns.length ct], .agg #[.slice (some ⟨gn, 0, none⟩) us.length cn]]) ∧ w.heap.size ≤ gt ∧ w.heap.size ≤ gn ∧ Hid (Filled w' gt ns ns.length) ∧ Hid (FilledN w' gn us us.length) ∧ Hid (D ns us)) ∧ Below w.heap.size w w'

theorem ArgY.step {w w' : World} {a : Option Addr} {l : List UInt8} (h : ArgY w a l) (hb : Below w.heap.size w w') : ArgY w' a l := by
  rcases h with h | ⟨b, off, rfl, hb', hc⟩
  · exact Or.inl h
  · exact Or.inr ⟨b, off, rfl, Nat.lt_of_lt_of_le hb' hb.size, fun i hi => (hb.cell (p := ⟨b, off + i, none⟩) hb').trans (hc i hi)⟩

set_option maxHeartbeats 4000000 in
theorem drawTreeOk_any (a : Option Addr) (cap : Nat) (l : List UInt8) (w : World) (hl : l.length ≤ 1048576) (hcap : l.length ≤ cap) (h : ArgY w a l) :
    Calls Tryz.prog 23 #[.slice a l.length cap] w (TokPost (TreeD (rdOf l) 0) w) := by
  have HA := hide h
  clear h
  go_enter Tryz.func23, Tryz.ntmps23
  go_wp2_with fail
  have HB0 := hide (show Below w.heap.size w ((w.alloc (.cells #[.slice none 0 0] 25)).alloc (.cells #[.slice none 0 0] 28)) from (below1 _ _).alloc (by simp) _)
  (with_reducible refine (l1Open_any a cap l _ hl hcap ((unhide HA).step (unhide HB0))).mono ?_)
  rintro e w1 ⟨⟨rp, cap', rfl, hrp, H1⟩, hb1⟩
  have z1 : w.heap.size + 2 ≤ w1.heap.size := by have := hb1.size; simpa using this
  have hrp2 : w.heap.size + 2 ≤ rp := by simpa using hrp
  have q0 : w1.cell? ⟨w.heap.size, 0, none⟩ = some (.slice none 0 0) := (hb1.cell (p := ⟨w.heap.size, 0, none⟩) (by simp; omega)).trans (by simp [go_sem])
  have g0 : w1.frozen? ⟨w.heap.size, 0, none⟩ = false := (hb1.frozen (p := ⟨w.heap.size, 0, none⟩) (by simp; omega)).trans (by simp [go_sem])
  have q1 : w1.cell? ⟨w.heap.size + 1, 0, none⟩ = some (.slice none 0 0) := (hb1.cell (p := ⟨w.heap.size + 1, 0, none⟩) (by simp)).trans (by simp [go_sem])
  have g1 : w1.frozen? ⟨w.heap.size + 1, 0, none⟩ = false := (hb1.frozen (p := ⟨w.heap.size + 1, 0, none⟩) (by simp)).trans (by simp [go_sem])
  have bel1 := hide ((unhide HB0).trans (hb1.mono (by simp; omega)))
  have hrl := (unhide H1).lt
  clear hb1 HB0 hrp
  go_wp2_with fail
  (with_reducible refine (l3DrawTreeOver_any rp cap' 0 a (rdOf l) _ (unhide H1) (rdOf_len l)).mono ?_)
  rintro e w2 ⟨⟨gt, ct, gn, cn, ns, us, rfl, hgt, hgn, hF, hN, hD⟩, hk⟩
  have Q0 := ((unhide hk).cell (b := w.heap.size) (by omega) (by omega) 0).trans q0
  have G0 := ((unhide hk).frozen (b := w.heap.size) (by omega) (by omega) 0).trans g0
  have Q1 := ((unhide hk).cell (b := w.heap.size + 1) (by omega) (by omega) 0).trans q1
  have G1 := ((unhide hk).frozen (b := w.heap.size + 1) (by omega) (by omega) 0).trans g1
  have z2 := (unhide hk).size
  have l0 : w.heap.size < w2.heap.size := by omega
  have l1 : w.heap.size + 1 < w2.heap.size := by omega
  have bel2 := hide ((unhide bel1).trans ((unhide hk).below (B := w.heap.size) (by omega) (by omega)))
  clear q0 g0 q1 g1 H1 bel1 hk
  go_wp2_with fail
  refine bodyPost_ret (v := .tuple #[.agg #[.slice (some ⟨gt, 0, none⟩) ns.length ct], .agg #[.slice (some ⟨gn, 0, none⟩) us.length cn]]) ?res rfl ⟨⟨gt, ct, gn, cn, ns, us, rfl, by omega, by omega, hide (Filled.setCell (Filled.setCell (unhide hF) _ _ (by show w.heap.size ≠ gt; omega)) _ _ (by show w.heap.size + 1 ≠ gt; omega)), hide (((unhide hN).setCell _ _ _ (by omega)).setCell _ _ _ (by omega)), hD⟩, ((unhide bel2).setCell (Nat.le_refl _) _).setCell (by simp) _⟩
  case res => simp [results, Tryz.results23, go_sem, Q0, Q1, l0, l1]
end Go.Proofs.YtfboipappaonhaaGreat
