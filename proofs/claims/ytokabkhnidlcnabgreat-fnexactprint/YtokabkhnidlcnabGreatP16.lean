import Derived.Test.YtokabkhnidlcnabGreatP02
import Derived.Test.YtokabkhnidlcnabGreatP14
import Derived.Test.YtokabkhnidlcnabGreatP15

/-
  Walks: the program's inner trees put into holes, at every node (fit); a node over its kids (exprOver).
-/
namespace Go.Proofs.YtokabkhnidlcnabGreat
set_option maxRecDepth 100000
set_option linter.unusedSimpArgs false
set_option linter.unusedVariables false
open Go.RowKit Go.Maps

theorem clos_enc (ns : List OpR) (o : NodeR) (l : Int) (s : Nat) (u : List NodeR) : (clos ns o l s u).length + 1 = u.length + encN (levN ns o) l := by
  unfold clos encN
  split <;> simp

theorem opA_some {ns : List OpR} {o : NodeR} {j : Nat} (h : fnd ns o.t (o.k - 2) = some j) : opA ns o = atO ns j := by
  unfold opA
  rw [h]

theorem holeN_op {ns : List OpR} {o : NodeR} {j : Nat} (h : fnd ns o.t (o.k - 2) = some j) (b : Bool) : holeN ns o b = holeI (opA ns o).s (opA ns o).k (opA ns o).l (opA ns o).sd b := by
  rw [opA_some h]
  unfold holeN
  rw [h]
  rfl

theorem fS_iface (ns : List OpR) (xs : List NodeR) : ∀ n i f, i < n → frS xs i = some f → ∀ l, ∃ T v, fS ns xs i l = .iface T v
  | 0, _, _, h, _ => absurd h (Nat.not_lt_zero _)
  | n + 1, i, f, h, hf => by
    intro l
    have cl : ∀ p o e e', ∃ T v, closV ns (atN xs i) l (exN p o e e') = .iface T v := fun p o e e' => by
      obtain ⟨T, v, h⟩ := exN_iface p o e e'
      rw [h]
      exact encV_iface (levN ns (atN xs i)) l T v
    rcases frS_some hf with ⟨hk, ha, hb, hfi⟩ | ⟨hk, h1i, ha, hbb, hf1⟩ | ⟨hk, h1i, hbb, f2, hf2, h2f, ha, hf1⟩
    · rw [fS_zero hk]; exact cl _ _ _ _
    · by_cases h6 : (atN xs i).k = 6
      · rw [fS_group h6 h1i hf1]
        exact fS_iface ns xs n (i - 1) f (by omega) hf1 l
      · rw [fS_one hk h6 h1i hf1]; exact cl _ _ _ _
    · rw [fS_two hk h1i hf2 h2f ha hf1]; exact cl _ _ _ _

theorem post_eq {w : World} {g m m' : Nat} {e e' : Value} (hm : m = m') (he : e = e') {f : FuncId} {args : Array Value} (h : Calls Tryz.prog f args w (FitPost w g m e)) : Calls Tryz.prog f args w (FitPost w g m' e') := by
  subst hm
  subst he
  exact h

/-- Every node of a well-formed tree is put into its hole. -/
theorem fit_any (ns : List OpR) (xs : List NodeR) (htx : ∀ i, i < xs.length → TxtOk (atN xs i)) (hkn : Knows ns xs) (hsz : Sized ns) : ∀ n i f, i < n → i < xs.length → frS xs i = some f → ∀ (g m : Nat) (least : Int) (w : World), GrAt w g m → m + 2 * (i + 1 - f) ≤ 90000 →
    Calls Tryz.prog 85 #[.pointer (some ⟨g, 0, none⟩), exS ns xs i, .int .i64 least] w (FitPost w g (m + (gS ns xs i least 0).length) (fS ns xs i least))
  | 0, _, _, h, _, _ => absurd h (Nat.not_lt_zero _)
  | n + 1, i, f, h, hi, hf => by
    intro g m least w hg hm
    have hso : isOpN (atN xs i) → ∃ j, fnd ns (atN xs i).t ((atN xs i).k - 2) = some j := fun ho => by
      cases e : fnd ns (atN xs i).t ((atN xs i).k - 2) with
      | none => exact absurd e (hkn i hi ho)
      | some j => exact ⟨j, rfl⟩
    have hlo : isOpN (atN xs i) → levN ns (atN xs i) = (opA ns (atN xs i)).l := fun ho => by
      obtain ⟨j, hj⟩ := hso ho
      rw [opA_some hj]
      exact levN_op ho.1 ho.2 hj
    have hss : isOpN (atN xs i) → (opA ns (atN xs i)).s.size ≤ maxLen := fun ho => by
      obtain ⟨j, hj⟩ := hso ho
      rw [opA_some hj]
      exact hsz j (fnd_some hj).1
    rcases frS_some hf with ⟨hk, ha, hb, hfi⟩ | ⟨hk, h1i, ha, hbb, hf1⟩ | ⟨hk, h1i, hbb, f2, hf2, h2f, ha, hf1⟩
    · rcases (htx i hi).2 with ⟨h1, _⟩ | ⟨h2, _⟩ | ⟨h6, _⟩ | ⟨h345, _⟩
      · have hl : levN ns (atN xs i) = 1001 := levN_not (by omega)
        have e0 : exS ns xs i = eNum (atN xs i).t := by rw [exS_is]; simp only [exN, h1, if_true]
        have e1 : fS ns xs i least = encV 1001 least (eNum (atN xs i).t) := by
          rw [fS_zero hk, closV, hl]; simp only [exN, h1, if_true]; rfl
        have e2 := clos_enc ns (atN xs i) least 0 [⟨(atN xs i).k, (atN xs i).t, 0, 0⟩]
        rw [← gS_zero hk, hl] at e2
        simp only [List.length_cons, List.length_nil] at e2
        rw [e0]
        exact post_eq (by omega) e1.symm (fit_leaf (no_num _) (lev_num _) g m least w hg (by omega))
      · have hl : levN ns (atN xs i) = 1001 := levN_not (by omega)
        have e0 : exS ns xs i = eName (atN xs i).t := by rw [exS_is]; simp only [exN, h2]; rfl
        have e1 : fS ns xs i least = encV 1001 least (eName (atN xs i).t) := by
          rw [fS_zero hk, closV, hl]; simp only [exN, h2]; rfl
        have e2 := clos_enc ns (atN xs i) least 0 [⟨(atN xs i).k, (atN xs i).t, 0, 0⟩]
        rw [← gS_zero hk, hl] at e2
        simp only [List.length_cons, List.length_nil] at e2
        rw [e0]
        exact post_eq (by omega) e1.symm (fit_leaf (no_name _) (lev_name _) g m least w hg (by omega))
      · rw [h6] at hk; simp [kids] at hk
      · rcases h345 with h | h | h <;> rw [h] at hk <;> simp [kids] at hk
    · have hle := frS_le hf1
      have ih := fit_any ns xs htx hkn hsz n (i - 1) f (by omega) (by omega) hf1
      have hln := gS_len ns xs i (i - 1) f (by omega) hf1
      obtain ⟨T, v, hTv⟩ := exS_iface ns xs (i - 1)
      rw [hTv] at ih
      have ex := exS_one (ns := ns) h1i ha .nilIface hk
      rw [hTv] at ex
      rcases (htx i hi).2 with ⟨h1, _⟩ | ⟨h2, _⟩ | ⟨h6, _⟩ | ⟨h345, _⟩
      · rw [h1] at hk; simp [kids] at hk
      · rw [h2] at hk; simp [kids] at hk
      · have e0 : exS ns xs i = eGrp (.iface T v) := by rw [ex]; simp only [exN, h6]; rfl
        rw [e0]
        refine post_eq rfl (fS_group h6 h1i hf1 least).symm (fit_grp g _ least w (fS_iface ns xs i (i - 1) f (by omega) hf1 least) (fun o => ?_))
        refine post_eq (by rw [gS_group h6 h1i hf1]) rfl (ih g m least _ (hg.below (below1 _ _)) (by omega))
      · rcases h345 with h | h | h
        · have ho : isOpN (atN xs i) := ⟨by omega, by omega⟩
          obtain ⟨j, hj⟩ := hso ho
          have e0 : exS ns xs i = ePre (opA ns (atN xs i)) (.iface T v) := by rw [ex]; simp only [exN, h]; rfl
          have e1 : fS ns xs i least = encV (opA ns (atN xs i)).l least (ePre (opA ns (atN xs i)) (fS ns xs (i - 1) (holeN ns (atN xs i) false))) := by
            rw [fS_one hk (by omega) h1i hf1, closV, hlo ho]; simp only [exN, h]; rfl
          have e2 := clos_enc ns (atN xs i) least 0 (gS ns xs (i - 1) (holeN ns (atN xs i) false) 0 ++ [⟨(atN xs i).k, (atN xs i).t, ((0 + (gS ns xs (i - 1) (holeN ns (atN xs i) false) 0).length : Nat) : Int) - 1, 0⟩])
          rw [← gS_one hk (by omega) h1i hf1 least 0 rfl, hlo ho, List.length_append] at e2
          simp only [List.length_cons, List.length_nil] at e2
          have hl1 := (hln (holeN ns (atN xs i) false) 0).2
          rw [e0]
          refine post_eq ?_ e1.symm (fit_pre (opA ns (atN xs i)) g m (m + (gS ns xs (i - 1) (holeN ns (atN xs i) false) 0).length) least w (fS_iface ns xs i (i - 1) f (by omega) hf1 _) hg (hss ho) (by omega) (fun W hW => ?_))
          · omega
          · rw [← holeN_op hj false]
            exact ih g m _ W hW (by omega)
        · rw [h] at hk; simp [kids] at hk
        · have ho : isOpN (atN xs i) := ⟨by omega, by omega⟩
          obtain ⟨j, hj⟩ := hso ho
          have e0 : exS ns xs i = ePost (opA ns (atN xs i)) (.iface T v) := by rw [ex]; simp only [exN, h]; rfl
          have e1 : fS ns xs i least = encV (opA ns (atN xs i)).l least (ePost (opA ns (atN xs i)) (fS ns xs (i - 1) (holeN ns (atN xs i) false))) := by
            rw [fS_one hk (by omega) h1i hf1, closV, hlo ho]; simp only [exN, h]; rfl
          have e2 := clos_enc ns (atN xs i) least 0 (gS ns xs (i - 1) (holeN ns (atN xs i) false) 0 ++ [⟨(atN xs i).k, (atN xs i).t, ((0 + (gS ns xs (i - 1) (holeN ns (atN xs i) false) 0).length : Nat) : Int) - 1, 0⟩])
          rw [← gS_one hk (by omega) h1i hf1 least 0 rfl, hlo ho, List.length_append] at e2
          simp only [List.length_cons, List.length_nil] at e2
          have hl1 := (hln (holeN ns (atN xs i) false) 0).2
          rw [e0]
          refine post_eq ?_ e1.symm (fit_post (opA ns (atN xs i)) g m (m + (gS ns xs (i - 1) (holeN ns (atN xs i) false) 0).length) least w (fS_iface ns xs i (i - 1) f (by omega) hf1 _) hg (hss ho) (by omega) (fun W hW => ?_))
          · omega
          · rw [← holeN_op hj false]
            exact ih g m _ W hW (by omega)
    · have hle := frS_le hf2
      have hle1 := frS_le hf1
      have h4 : (atN xs i).k = 4 := by
        unfold kids at hk
        split at hk
        · assumption
        · split at hk <;> omega
      have ho : isOpN (atN xs i) := ⟨by omega, by omega⟩
      obtain ⟨j, hj⟩ := hso ho
      have ih1 := fit_any ns xs htx hkn hsz n (f2 - 1) f (by omega) (by omega) hf1
      have ih2 := fit_any ns xs htx hkn hsz n (i - 1) f2 (by omega) (by omega) hf2
      have hln1 := (gS_len ns xs i (f2 - 1) f (by omega) hf1 (holeN ns (atN xs i) false) 0).2
      have hln2 := (gS_len ns xs i (i - 1) f2 (by omega) hf2 (holeN ns (atN xs i) true) 0).2
      obtain ⟨T, v, hTv⟩ := exS_iface ns xs (f2 - 1)
      obtain ⟨T2, v2, hTv2⟩ := exS_iface ns xs (i - 1)
      rw [hTv] at ih1
      rw [hTv2] at ih2
      have ex := exS_two (ns := ns) (j := f2 - 1) h1i (by rw [ha]; omega) (by omega) hbb
      rw [hTv, hTv2] at ex
      have e0 : exS ns xs i = eInf (opA ns (atN xs i)) (.iface T v) (.iface T2 v2) := by rw [ex]; simp only [exN, h4]; rfl
      have e1 : fS ns xs i least = encV (opA ns (atN xs i)).l least (eInf (opA ns (atN xs i)) (fS ns xs (f2 - 1) (holeN ns (atN xs i) false)) (fS ns xs (i - 1) (holeN ns (atN xs i) true))) := by
        rw [fS_two hk h1i hf2 h2f ha hf1, closV, hlo ho]; simp only [exN, h4]; rfl
      obtain ⟨u1, hu1⟩ : ∃ u1, u1 = gS ns xs (f2 - 1) (holeN ns (atN xs i) false) 0 := ⟨_, rfl⟩
      obtain ⟨u2, hu2⟩ : ∃ u2, u2 = gS ns xs (i - 1) (holeN ns (atN xs i) true) (0 + u1.length) := ⟨_, rfl⟩
      have e2 := clos_enc ns (atN xs i) least 0 ((u1 ++ u2) ++ [⟨(atN xs i).k, (atN xs i).t, ((0 + u1.length : Nat) : Int) - 1, ((0 + u1.length + u2.length : Nat) : Int) - 1⟩])
      rw [← gS_two hk h1i hf2 h2f ha hf1 least 0 hu1 hu2, hlo ho, List.length_append, List.length_append] at e2
      simp only [List.length_cons, List.length_nil] at e2
      have e3 : u2.length = (gS ns xs (i - 1) (holeN ns (atN xs i) true) 0).length := by
        rw [hu2]; exact gS_len_any ns xs i (i - 1) f2 (by omega) hf2 _ _ _
      rw [← hu1] at hln1
      rw [← e3] at hln2
      rw [e0]
      refine post_eq ?_ e1.symm (fit_inf (opA ns (atN xs i)) g m (m + u1.length) (m + u1.length + u2.length) least w (fS_iface ns xs i (f2 - 1) f (by omega) hf1 _) (fS_iface ns xs i (i - 1) f2 (by omega) hf2 _) hg (hss ho) (by omega) (fun W hW => ?_) (fun W hW => ?_))
      · omega
      · rw [← holeN_op hj false, hu1]
        exact ih1 g m _ W hW (by omega)
      · rw [← holeN_op hj true, e3]
        exact ih2 g _ _ W hW (by omega)

end Go.Proofs.YtokabkhnidlcnabGreat

/-
  Walks: a node over its kids (exprOver).
-/
namespace Go.Proofs.YtokabkhnidlcnabGreat
set_option maxRecDepth 100000
set_option linter.unusedSimpArgs false
set_option linter.unusedVariables false
open Go.RowKit Go.Maps

/-- What the index finds at an operator node is its operator. -/
theorem found_op {ns : List OpR} {o : NodeR} {p : OpR} {v : Bool} (h : FoundAt ns o p v) (ho : isOpN o) (hk : fnd ns o.t (o.k - 2) ≠ none) : p = opA ns o := by
  rcases h with ⟨j, _, hj, _, rfl⟩ | ⟨h, _⟩
  · exact (opA_some hj).symm
  · exact absurd (h ho) hk

set_option maxHeartbeats 1000000 in
theorem exprOver_leaf (bo bs : Nat) (ns : List OpR) (o : NodeR) (e e' : Value) (w : World) (hi : Idx w bo bs ns ns.length) (hc : IsCode ns 0) (hok : okTo ns ns.length) (ht : o.t.size ≤ maxLen) (hk : o.k = 1 ∨ o.k = 2) :
    Calls Tryz.prog 124 #[.agg #[.map (some bo), .map (some bs)], .agg #[.int .i64 o.k, .string o.t, .int .i64 o.a, .int .i64 o.b], e, e'] w fun x w' => x = .returned (exN (opA ns o) o e e') ∧ Below w.heap.size w w' := by
  have HI := hide (fun o1 o2 => (hi.kept (below1 w o1)).kept (below1 _ o2))
  have HC := hide hc
  have HOK := hide hok
  clear hi hc hok
  go_enter Tryz.func124, Tryz.ntmps124
  go_wp2_with fail
  refine (opOf_any bo bs ns o _ ((unhide HI) _ _) (unhide HC) (unhide HOK) ht).mono ?_
  rintro x w1 ⟨⟨p, v, rfl, hp⟩, hb1⟩
  have bel1 : Below w.heap.size w w1 := ((below1 _ _).alloc (by simp) _).trans (hb1.mono (by simp; omega))
  have z1 : w.heap.size + 2 ≤ w1.heap.size := by have := hb1.size; simp at this; omega
  have c0 : (w1.alloc (.cells #[.string p.s, .int .i64 p.k, .int .i64 p.l, .int .i64 p.sd] 104)).cell? ⟨w.heap.size + 1, 0, none⟩ = some (.int .i64 o.k) := ((below1 _ _).cell (p := ⟨w.heap.size + 1, 0, none⟩) (show w.heap.size + 1 < w1.heap.size by omega)).trans ((hb1.cell (p := ⟨w.heap.size + 1, 0, none⟩) (by simp)).trans (by simp [go_sem]))
  have c1 : (w1.alloc (.cells #[.string p.s, .int .i64 p.k, .int .i64 p.l, .int .i64 p.sd] 104)).cell? ⟨w.heap.size + 1, 1, none⟩ = some (.string o.t) := ((below1 _ _).cell (p := ⟨w.heap.size + 1, 1, none⟩) (show w.heap.size + 1 < w1.heap.size by omega)).trans ((hb1.cell (p := ⟨w.heap.size + 1, 1, none⟩) (by simp)).trans (by simp [go_sem]))
  clear hp hb1
  rcases hk with hk | hk
  · have HE := hide (show exN (opA ns o) o e e' = eNum o.t by simp only [exN, hk]; rfl)
    rw [hk] at c0
    go_wp2_with fail
    go_ret
    exact ⟨by rw [unhide HE]; rfl, bel1.alloc bel1.size _⟩
  · have HE := hide (show exN (opA ns o) o e e' = eName o.t by simp only [exN, hk]; rfl)
    rw [hk] at c0
    go_wp2_with fail
    go_ret
    exact ⟨by rw [unhide HE]; rfl, bel1.alloc bel1.size _⟩

set_option maxHeartbeats 1000000 in
theorem exprOver_one (bo bs : Nat) (ns : List OpR) (o : NodeR) (T : TypeId) (u : Value) (e' : Value) (w : World) (hi : Idx w bo bs ns ns.length) (hc : IsCode ns 0) (hok : okTo ns ns.length) (ht : o.t.size ≤ maxLen) (hk : o.k = 3 ∨ o.k = 5 ∨ o.k = 6) (hkn : isOpN o → fnd ns o.t (o.k - 2) ≠ none) :
    Calls Tryz.prog 124 #[.agg #[.map (some bo), .map (some bs)], .agg #[.int .i64 o.k, .string o.t, .int .i64 o.a, .int .i64 o.b], .iface T u, e'] w fun x w' => x = .returned (exN (opA ns o) o (.iface T u) e') ∧ Below w.heap.size w w' := by
  have HI := hide (fun o1 o2 => (hi.kept (below1 w o1)).kept (below1 _ o2))
  have HC := hide hc
  have HOK := hide hok
  have HKN := hide hkn
  clear hi hc hok hkn
  go_enter Tryz.func124, Tryz.ntmps124
  go_wp2_with fail
  refine (opOf_any bo bs ns o _ ((unhide HI) _ _) (unhide HC) (unhide HOK) ht).mono ?_
  rintro x w1 ⟨⟨p, v, rfl, hp⟩, hb1⟩
  have HP := hide hp
  have bel1 : Below w.heap.size w w1 := ((below1 _ _).alloc (by simp) _).trans (hb1.mono (by simp; omega))
  have z1 : w.heap.size + 2 ≤ w1.heap.size := by have := hb1.size; simp at this; omega
  have c0 : (w1.alloc (.cells #[.string p.s, .int .i64 p.k, .int .i64 p.l, .int .i64 p.sd] 104)).cell? ⟨w.heap.size + 1, 0, none⟩ = some (.int .i64 o.k) := ((below1 _ _).cell (p := ⟨w.heap.size + 1, 0, none⟩) (show w.heap.size + 1 < w1.heap.size by omega)).trans ((hb1.cell (p := ⟨w.heap.size + 1, 0, none⟩) (by simp)).trans (by simp [go_sem]))
  clear hp hb1
  rcases hk with hk | hk | hk
  · have HE := hide (show exN (opA ns o) o (.iface T u) e' = ePre p (.iface T u) by
      rw [found_op (unhide HP) ⟨by omega, by omega⟩ ((unhide HKN) ⟨by omega, by omega⟩)]
      simp only [exN, hk]; rfl)
    rw [hk] at c0
    clear hk HKN
    go_wp2_with fail
    go_ret
    exact ⟨by rw [unhide HE]; rfl, bel1.alloc bel1.size _⟩
  · have HE := hide (show exN (opA ns o) o (.iface T u) e' = ePost p (.iface T u) by
      rw [found_op (unhide HP) ⟨by omega, by omega⟩ ((unhide HKN) ⟨by omega, by omega⟩)]
      simp only [exN, hk]; rfl)
    rw [hk] at c0
    clear hk HKN
    go_wp2_with fail
    go_ret
    exact ⟨by rw [unhide HE]; rfl, bel1.alloc bel1.size _⟩
  · have HE := hide (show exN (opA ns o) o (.iface T u) e' = eGrp (.iface T u) by simp only [exN, hk]; rfl)
    rw [hk] at c0
    clear hk HKN
    go_wp2_with fail
    go_ret
    exact ⟨by rw [unhide HE]; rfl, bel1.alloc bel1.size _⟩

set_option maxHeartbeats 1000000 in
theorem exprOver_two (bo bs : Nat) (ns : List OpR) (o : NodeR) (T T' : TypeId) (u u' : Value) (w : World) (hi : Idx w bo bs ns ns.length) (hc : IsCode ns 0) (hok : okTo ns ns.length) (ht : o.t.size ≤ maxLen) (hk : o.k = 4) (hkn : isOpN o → fnd ns o.t (o.k - 2) ≠ none) :
    Calls Tryz.prog 124 #[.agg #[.map (some bo), .map (some bs)], .agg #[.int .i64 o.k, .string o.t, .int .i64 o.a, .int .i64 o.b], .iface T u, .iface T' u'] w fun x w' => x = .returned (exN (opA ns o) o (.iface T u) (.iface T' u')) ∧ Below w.heap.size w w' := by
  have HI := hide (fun o1 o2 => (hi.kept (below1 w o1)).kept (below1 _ o2))
  have HC := hide hc
  have HOK := hide hok
  have HKN := hide hkn
  have HK4 := hide hk
  clear hi hc hok hkn hk
  go_enter Tryz.func124, Tryz.ntmps124
  go_wp2_with fail
  refine (opOf_any bo bs ns o _ ((unhide HI) _ _) (unhide HC) (unhide HOK) ht).mono ?_
  rintro x w1 ⟨⟨p, v, rfl, hp⟩, hb1⟩
  have HP := hide hp
  have bel1 : Below w.heap.size w w1 := ((below1 _ _).alloc (by simp) _).trans (hb1.mono (by simp; omega))
  have z1 : w.heap.size + 2 ≤ w1.heap.size := by have := hb1.size; simp at this; omega
  have c0 : (w1.alloc (.cells #[.string p.s, .int .i64 p.k, .int .i64 p.l, .int .i64 p.sd] 104)).cell? ⟨w.heap.size + 1, 0, none⟩ = some (.int .i64 o.k) := ((below1 _ _).cell (p := ⟨w.heap.size + 1, 0, none⟩) (show w.heap.size + 1 < w1.heap.size by omega)).trans ((hb1.cell (p := ⟨w.heap.size + 1, 0, none⟩) (by simp)).trans (by simp [go_sem]))
  clear hp hb1
  have hk := unhide HK4
  have HE := hide (show exN (opA ns o) o (.iface T u) (.iface T' u') = eInf p (.iface T u) (.iface T' u') by
    rw [found_op (unhide HP) ⟨by omega, by omega⟩ ((unhide HKN) ⟨by omega, by omega⟩)]
    simp only [exN, hk]; rfl)
  rw [hk] at c0
  clear hk HKN
  go_wp2_with fail
  go_ret
  exact ⟨by rw [unhide HE]; rfl, bel1.alloc bel1.size _⟩
end Go.Proofs.YtokabkhnidlcnabGreat

/-
  Rows of nodes that a call makes by append.
-/
namespace Go.Proofs.YtokabkhnidlcnabGreat
set_option maxRecDepth 100000
open Go.RowKit

theorem grown_belN {w w' : World} (h : Below w.heap.size w w') (row : Option Nat) : w.grownBy w' row := ⟨h.os, h.tape, h.output, h.size, fun i hi _ => h.block i hi⟩

/-- The cells of a list of nodes. -/
def cellsN (zs : List NodeR) : List Value := zs.flatMap fun o => [.int .i64 o.k, .string o.t, .int .i64 o.a, .int .i64 o.b]

theorem cellsN_append (xs ys : List NodeR) : cellsN (xs ++ ys) = cellsN xs ++ cellsN ys := by simp [cellsN]
theorem cellsN_len : ∀ zs : List NodeR, (cellsN zs).length = zs.length * 4
  | [] => rfl
  | o :: r => by
    have := cellsN_len r
    simp only [cellsN, List.flatMap_cons, List.length_append, List.length_cons, List.length_nil] at *
    omega

theorem cellsN_at : ∀ (zs : List NodeR) (i : Nat), i < zs.length → (cellsN zs)[i * 4]? = some (.int .i64 (atN zs i).k) ∧ (cellsN zs)[i * 4 + 1]? = some (.string (atN zs i).t) ∧ (cellsN zs)[i * 4 + 2]? = some (.int .i64 (atN zs i).a) ∧ (cellsN zs)[i * 4 + 3]? = some (.int .i64 (atN zs i).b)
  | [], i, h => absurd h (Nat.not_lt_zero i)
  | o :: r, 0, _ => ⟨rfl, rfl, rfl, rfl⟩
  | o :: r, i + 1, h => by
    have ih := cellsN_at r i (by simpa using h)
    have e : ∀ j, (cellsN (o :: r))[(i + 1) * 4 + j]? = (cellsN r)[i * 4 + j]? := fun j => by
      have : (i + 1) * 4 + j = (i * 4 + j) + 4 := by omega
      rw [this]
      rfl
    exact ⟨(e 0).trans ih.1, (e 1).trans ih.2.1, (e 2).trans ih.2.2.1, (e 3).trans ih.2.2.2⟩

theorem cellsN_one' (zs : List NodeR) : ∀ u ∈ cellsN zs, u.oneCell' = true := by
  intro u hu
  simp only [cellsN, List.mem_flatMap] at hu
  obtain ⟨o, _, ho⟩ := hu
  simp at ho
  rcases ho with rfl | rfl | rfl | rfl <;> rfl

/-- A row that the call owns, as a filled one. -/
theorem owns_filledN {w : World} {base g cap : Nat} {e : TypeId} {zs : List NodeR} (h : w.ownsRow base e 4 (.slice (some ⟨g, 0, none⟩) zs.length cap) zs.length (cellsN zs)) : base ≤ g ∧ FilledN w g zs zs.length := by
  have hlt := h.lt g rfl
  refine ⟨hlt.1, hlt.2, fun j hj => ⟨?_, h.frozenAt _⟩, fun i hi => ?_⟩
  · rw [h.cellAt (0 + j) (by omega)]
    have : 0 + j < (cellsN zs).length := by rw [cellsN_len]; omega
    rw [List.getElem?_eq_getElem this]
    rfl
  · obtain ⟨c0, c1, c2, c3⟩ := cellsN_at zs i hi
    have e := fun j (hj : j < 4) => h.cellAt (i * 4 + j) (by omega)
    exact ⟨by simpa using (e 0 (by omega)).trans c0, by simpa using (e 1 (by omega)).trans c1, by simpa using (e 2 (by omega)).trans c2, by simpa using (e 3 (by omega)).trans c3⟩

/-- What an owned row's value is, where it is not nil. -/
theorem owns_valueN {w : World} {base n size : Nat} {e : TypeId} {v : Value} {xs : List Value} (h : w.ownsRow base e size v n xs) (hv : v ≠ .slice none 0 0) : ∃ g cap, v = .slice (some ⟨g, 0, none⟩) n cap := by
  obtain ⟨_, h | ⟨g, cap, cur, hv', _⟩⟩ := h
  · exact absurd h.1 hv
  · exact ⟨g, cap, hv'⟩

theorem owns_capN {w : World} {base n size g cap : Nat} {e : TypeId} {xs : List Value} (h : w.ownsRow base e size (.slice (some ⟨g, 0, none⟩) n cap) n xs) : n ≤ cap ∧ cap ≤ maxLen := by
  obtain ⟨_, h | ⟨g', cap', cur, hv', _, _, h1, h2, _⟩⟩ := h
  · simp at h
  · simp only [Value.slice.injEq, Option.some.injEq] at hv'
    obtain ⟨_, _, rfl⟩ := hv'
    exact ⟨h1, h2⟩

/-- A new node in a block of its own. -/
theorem new_newsN (w : World) (o : NodeR) : ∀ j u, (cellsN [o])[j]? = some u → (w.alloc (.cells #[.int .i64 o.k, .string o.t, .int .i64 o.a, .int .i64 o.b] 115)).cell? ((⟨w.heap.size, 0, none⟩ : Addr).add j) = some u := by
  intro j u hj
  rw [Addr.add_mid]
  have := World.rangeAt_of_block (w := w.alloc (.cells #[.int .i64 o.k, .string o.t, .int .i64 o.a, .int .i64 o.b] 115)) (b := w.heap.size) (heap_alloc_new w _) 0 4
  exact this j u (by simpa [cellsN] using hj)

theorem FilledN.arg {w : World} {g : Nat} {us : List NodeR} (h : FilledN w g us us.length) : ArgN w (some ⟨g, 0, none⟩) us := Or.inr ⟨g, 0, rfl, h.ops, h.1⟩

/-- A list of nodes that a call has made: nil and empty, or a row of its own. -/
def OwnedN (w : World) (n : Nat) (a : Option Addr) (us : List NodeR) : Prop := (us.length = 0 ∧ a = none) ∨ ∃ g, a = some ⟨g, 0, none⟩ ∧ n ≤ g ∧ FilledN w g us us.length

theorem OwnedN.arg {w : World} {n : Nat} {a : Option Addr} {us : List NodeR} (h : OwnedN w n a us) : ArgN w a us := by
  rcases h with ⟨h, _⟩ | ⟨g, rfl, _, hf⟩
  · exact Or.inl h
  · exact hf.arg

theorem OwnedN.grown {w w' : World} {n : Nat} {a : Option Addr} {us : List NodeR} {row : Option Nat} (h : OwnedN w n a us) (hg : w.grownBy w' row) (hr : ∀ k, row = some k → k < n) : OwnedN w' n a us := by
  rcases h with h | ⟨g, rfl, hn, hf⟩
  · exact Or.inl h
  · exact Or.inr ⟨g, rfl, hn, hf.grown hg (fun e => by have := hr g e.symm; omega)⟩

theorem OwnedN.step {w w' : World} {n : Nat} {a : Option Addr} {us : List NodeR} (h : OwnedN w n a us) (hb : Below w.heap.size w w') : OwnedN w' n a us :=
  h.grown (grown_belN hb none) (fun k hk => by cases hk)

theorem OwnedN.lt {w : World} {n : Nat} {a : Option Addr} {us : List NodeR} (h : OwnedN w n a us) : ∀ k, a.map (·.block) = some k → n ≤ k ∧ k < w.heap.size := by
  rcases h with ⟨_, rfl⟩ | ⟨g, rfl, hn, hf⟩
  · intro k hk; cases hk
  · intro k hk; injection hk with hk; subst hk; exact ⟨hn, hf.1⟩
end Go.Proofs.YtokabkhnidlcnabGreat
