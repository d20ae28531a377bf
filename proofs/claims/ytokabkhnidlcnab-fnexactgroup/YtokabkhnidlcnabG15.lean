import Derived.Test.YtokabkhnidlcnabG08
import Derived.Test.YtokabkhnidlcnabG09
import Derived.Test.YtokabkhnidlcnabG12
import Derived.Test.YtokabkhnidlcnabG14

/-
  Walks: the program's inner trees put into holes, at every node (fit); a node over its kids (exprOver).
-/
namespace Go.Proofs.Ytokabkhnidlcnab
set_option maxRecDepth 100000
set_option linter.unusedSimpArgs false
set_option linter.unusedVariables false
open Go.RowKit Go.Maps

theorem clos_enc (ns : List OpR) (o : NodeR) (l : Int) (s : Nat) (u : List NodeR) : (clos ns o l s u).length + 1 = u.length + encN (levN ns o) l := by
  unfold clos encN
  split <;> simp

theorem opA_some {ns : List OpR} {o : NodeR} {j : Nat} (h : fnd ns o.t (o.k - 2) = some j) : opA ns o = atO ns j := by
  unfold opA
  rw [h]

theorem holeN_op {ns : List OpR} {o : NodeR} {j : Nat} (h : fnd ns o.t (o.k - 2) = some j) (b : Bool) : holeN ns o b = holeI (opA ns o).s (opA ns o).k (opA ns o).l (opA ns o).sd b := by
  rw [opA_some h]
  unfold holeN
  rw [h]
  rfl

theorem fS_iface (ns : List OpR) (xs : List NodeR) : ∀ n i f, i < n → frS xs i = some f → ∀ l, ∃ T v, fS ns xs i l = .iface T v
  | 0, _, _, h, _ => absurd h (Nat.not_lt_zero _)
  | n + 1, i, f, h, hf => by
    intro l
    have cl : ∀ p o e e', ∃ T v, closV ns (atN xs i) l (exN p o e e') = .iface T v := fun p o e e' => by
      obtain ⟨T, v, h⟩ := exN_iface p o e e'
      rw [h]
      exact encV_iface (levN ns (atN xs i)) l T v
    rcases frS_some hf with ⟨hk, ha, hb, hfi⟩ | ⟨hk, h1i, ha, hbb, hf1⟩ | ⟨hk, h1i, hbb, f2, hf2, h2f, ha, hf1⟩
    · rw [fS_zero hk]; exact cl _ _ _ _
    · by_cases h6 : (atN xs i).k = 6
      · rw [fS_group h6 h1i hf1]
        exact fS_iface ns xs n (i - 1) f (by omega) hf1 l
      · rw [fS_one hk h6 h1i hf1]; exact cl _ _ _ _
    · rw [fS_two hk h1i hf2 h2f ha hf1]; exact cl _ _ _ _

theorem post_eq {w : World} {g m m' : Nat} {e e' : Value} (hm : m = m') (he : e = e') {f : FuncId} {args : Array Value} (h : Calls Try.prog f args w (FitPost w g m e)) : Calls Try.prog f args w (FitPost w g m' e') := by
  subst hm
  subst he
  exact h

/-- Every node of a well-formed tree is put into its hole. -/
theorem fit_any (ns : List OpR) (xs : List NodeR) (htx : ∀ i, i < xs.length → TxtOk (atN xs i)) (hkn : Knows ns xs) (hsz : Sized ns) : ∀ n i f, i < n → i < xs.length → frS xs i = some f → ∀ (g m : Nat) (least : Int) (w : World), GrAt w g m → m + 2 * (i + 1 - f) ≤ 90000 →
    Calls Try.prog 114 #[.pointer (some ⟨g, 0, none⟩), exS ns xs i, .int .i64 least] w (FitPost w g (m + (gS ns xs i least 0).length) (fS ns xs i least))
  | 0, _, _, h, _, _ => absurd h (Nat.not_lt_zero _)
  | n + 1, i, f, h, hi, hf => by
    intro g m least w hg hm
    have hso : isOpN (atN xs i) → ∃ j, fnd ns (atN xs i).t ((atN xs i).k - 2) = some j := fun ho => by
      cases e : fnd ns (atN xs i).t ((atN xs i).k - 2) with
      | none => exact absurd e (hkn i hi ho)
      | some j => exact ⟨j, rfl⟩
    have hlo : isOpN (atN xs i) → levN ns (atN xs i) = (opA ns (atN xs i)).l := fun ho => by
      obtain ⟨j, hj⟩ := hso ho
      rw [opA_some hj]
      exact levN_op ho.1 ho.2 hj
    have hss : isOpN (atN xs i) → (opA ns (atN xs i)).s.size ≤ maxLen := fun ho => by
      obtain ⟨j, hj⟩ := hso ho
      rw [opA_some hj]
      exact hsz j (fnd_some hj).1
    rcases frS_some hf with ⟨hk, ha, hb, hfi⟩ | ⟨hk, h1i, ha, hbb, hf1⟩ | ⟨hk, h1i, hbb, f2, hf2, h2f, ha, hf1⟩
    · rcases (htx i hi).2 with ⟨h1, _⟩ | ⟨h2, _⟩ | ⟨h6, _⟩ | ⟨h345, _⟩
      · have hl : levN ns (atN xs i) = 1001 := levN_not (by omega)
        have e0 : exS ns xs i = eNum (atN xs i).t := by rw [exS_is]; simp only [exN, h1, if_true]
        have e1 : fS ns xs i least = encV 1001 least (eNum (atN xs i).t) := by
          rw [fS_zero hk, closV, hl]; simp only [exN, h1, if_true]; rfl
        have e2 := clos_enc ns (atN xs i) least 0 [⟨(atN xs i).k, (atN xs i).t, 0, 0⟩]
        rw [← gS_zero hk, hl] at e2
        simp only [List.length_cons, List.length_nil] at e2
        rw [e0]
        exact post_eq (by omega) e1.symm (fit_leaf (no_num _) (lev_num _) g m least w hg (by omega))
      · have hl : levN ns (atN xs i) = 1001 := levN_not (by omega)
        have e0 : exS ns xs i = eName (atN xs i).t := by rw [exS_is]; simp only [exN, h2]; rfl
        have e1 : fS ns xs i least = encV 1001 least (eName (atN xs i).t) := by
          rw [fS_zero hk, closV, hl]; simp only [exN, h2]; rfl
        have e2 := clos_enc ns (atN xs i) least 0 [⟨(atN xs i).k, (atN xs i).t, 0, 0⟩]
        rw [← gS_zero hk, hl] at e2
        simp only [List.length_cons, List.length_nil] at e2
        rw [e0]
        exact post_eq (by omega) e1.symm (fit_leaf (no_name _) (lev_name _) g m least w hg (by omega))
      · rw [h6] at hk; simp [kids] at hk
      · rcases h345 with h | h | h <;> rw [h] at hk <;> simp [kids] at hk
    · have hle := frS_le hf1
      have ih := fit_any ns xs htx hkn hsz n (i - 1) f (by omega) (by omega) hf1
      have hln := gS_len ns xs i (i - 1) f (by omega) hf1
      obtain ⟨T, v, hTv⟩ := exS_iface ns xs (i - 1)
      rw [hTv] at ih
      have ex := exS_one (ns := ns) h1i ha .nilIface hk
      rw [hTv] at ex
      rcases (htx i hi).2 with ⟨h1, _⟩ | ⟨h2, _⟩ | ⟨h6, _⟩ | ⟨h345, _⟩
      · rw [h1] at hk; simp [kids] at hk
      · rw [h2] at hk; simp [kids] at hk
      · have e0 : exS ns xs i = eGrp (.iface T v) := by rw [ex]; simp only [exN, h6]; rfl
        rw [e0]
        refine post_eq rfl (fS_group h6 h1i hf1 least).symm (fit_grp g _ least w (fS_iface ns xs i (i - 1) f (by omega) hf1 least) (fun o => ?_))
        refine post_eq (by rw [gS_group h6 h1i hf1]) rfl (ih g m least _ (hg.below (below1 _ _)) (by omega))
      · rcases h345 with h | h | h
        · have ho : isOpN (atN xs i) := ⟨by omega, by omega⟩
          obtain ⟨j, hj⟩ := hso ho
          have e0 : exS ns xs i = ePre (opA ns (atN xs i)) (.iface T v) := by rw [ex]; simp only [exN, h]; rfl
          have e1 : fS ns xs i least = encV (opA ns (atN xs i)).l least (ePre (opA ns (atN xs i)) (fS ns xs (i - 1) (holeN ns (atN xs i) false))) := by
            rw [fS_one hk (by omega) h1i hf1, closV, hlo ho]; simp only [exN, h]; rfl
          have e2 := clos_enc ns (atN xs i) least 0 (gS ns xs (i - 1) (holeN ns (atN xs i) false) 0 ++ [⟨(atN xs i).k, (atN xs i).t, ((0 + (gS ns xs (i - 1) (holeN ns (atN xs i) false) 0).length : Nat) : Int) - 1, 0⟩])
          rw [← gS_one hk (by omega) h1i hf1 least 0 rfl, hlo ho, List.length_append] at e2
          simp only [List.length_cons, List.length_nil] at e2
          have hl1 := (hln (holeN ns (atN xs i) false) 0).2
          rw [e0]
          refine post_eq ?_ e1.symm (fit_pre (opA ns (atN xs i)) g m (m + (gS ns xs (i - 1) (holeN ns (atN xs i) false) 0).length) least w (fS_iface ns xs i (i - 1) f (by omega) hf1 _) hg (hss ho) (by omega) (fun W hW => ?_))
          · omega
          · rw [← holeN_op hj false]
            exact ih g m _ W hW (by omega)
        · rw [h] at hk; simp [kids] at hk
        · have ho : isOpN (atN xs i) := ⟨by omega, by omega⟩
          obtain ⟨j, hj⟩ := hso ho
          have e0 : exS ns xs i = ePost (opA ns (atN xs i)) (.iface T v) := by rw [ex]; simp only [exN, h]; rfl
          have e1 : fS ns xs i least = encV (opA ns (atN xs i)).l least (ePost (opA ns (atN xs i)) (fS ns xs (i - 1) (holeN ns (atN xs i) false))) := by
            rw [fS_one hk (by omega) h1i hf1, closV, hlo ho]; simp only [exN, h]; rfl
          have e2 := clos_enc ns (atN xs i) least 0 (gS ns xs (i - 1) (holeN ns (atN xs i) false) 0 ++ [⟨(atN xs i).k, (atN xs i).t, ((0 + (gS ns xs (i - 1) (holeN ns (atN xs i) false) 0).length : Nat) : Int) - 1, 0⟩])
          rw [← gS_one hk (by omega) h1i hf1 least 0 rfl, hlo ho, List.length_append] at e2
          simp only [List.length_cons, List.length_nil] at e2
          have hl1 := (hln (holeN ns (atN xs i) false) 0).2
          rw [e0]
          refine post_eq ?_ e1.symm (fit_post (opA ns (atN xs i)) g m (m + (gS ns xs (i - 1) (holeN ns (atN xs i) false) 0).length) least w (fS_iface ns xs i (i - 1) f (by omega) hf1 _) hg (hss ho) (by omega) (fun W hW => ?_))
          · omega
          · rw [← holeN_op hj false]
            exact ih g m _ W hW (by omega)
    · have hle := frS_le hf2
      have hle1 := frS_le hf1
      have h4 : (atN xs i).k = 4 := by
        unfold kids at hk
        split at hk
        · assumption
        · split at hk <;> omega
      have ho : isOpN (atN xs i) := ⟨by omega, by omega⟩
      obtain ⟨j, hj⟩ := hso ho
      have ih1 := fit_any ns xs htx hkn hsz n (f2 - 1) f (by omega) (by omega) hf1
      have ih2 := fit_any ns xs htx hkn hsz n (i - 1) f2 (by omega) (by omega) hf2
      have hln1 := (gS_len ns xs i (f2 - 1) f (by omega) hf1 (holeN ns (atN xs i) false) 0).2
      have hln2 := (gS_len ns xs i (i - 1) f2 (by omega) hf2 (holeN ns (atN xs i) true) 0).2
      obtain ⟨T, v, hTv⟩ := exS_iface ns xs (f2 - 1)
      obtain ⟨T2, v2, hTv2⟩ := exS_iface ns xs (i - 1)
      rw [hTv] at ih1
      rw [hTv2] at ih2
      have ex := exS_two (ns := ns) (j := f2 - 1) h1i (by rw [ha]; omega) (by omega) hbb
      rw [hTv, hTv2] at ex
      have e0 : exS ns xs i = eInf (opA ns (atN xs i)) (.iface T v) (.iface T2 v2) := by rw [ex]; simp only [exN, h4]; rfl
      have e1 : fS ns xs i least = encV (opA ns (atN xs i)).l least (eInf (opA ns (atN xs i)) (fS ns xs (f2 - 1) (holeN ns (atN xs i) false)) (fS ns xs (i - 1) (holeN ns (atN xs i) true))) := by
        rw [fS_two hk h1i hf2 h2f ha hf1, closV, hlo ho]; simp only [exN, h4]; rfl
      obtain ⟨u1, hu1⟩ : ∃ u1, u1 = gS ns xs (f2 - 1) (holeN ns (atN xs i) false) 0 := ⟨_, rfl⟩
      obtain ⟨u2, hu2⟩ : ∃ u2, u2 = gS ns xs (i - 1) (holeN ns (atN xs i) true) (0 + u1.length) := ⟨_, rfl⟩
      have e2 := clos_enc ns (atN xs i) least 0 ((u1 ++ u2) ++ [⟨(atN xs i).k, (atN xs i).t, ((0 + u1.length : Nat) : Int) - 1, ((0 + u1.length + u2.length : Nat) : Int) - 1⟩])
      rw [← gS_two hk h1i hf2 h2f ha hf1 least 0 hu1 hu2, hlo ho, List.length_append, List.length_append] at e2
      simp only [List.length_cons, List.length_nil] at e2
      have e3 : u2.length = (gS ns xs (i - 1) (holeN ns (atN xs i) true) 0).length := by
        rw [hu2]; exact gS_len_any ns xs i (i - 1) f2 (by omega) hf2 _ _ _
      rw [← hu1] at hln1
      rw [← e3] at hln2
      rw [e0]
      refine post_eq ?_ e1.symm (fit_inf (opA ns (atN xs i)) g m (m + u1.length) (m + u1.length + u2.length) least w (fS_iface ns xs i (f2 - 1) f (by omega) hf1 _) (fS_iface ns xs i (i - 1) f2 (by omega) hf2 _) hg (hss ho) (by omega) (fun W hW => ?_) (fun W hW => ?_))
      · omega
      · rw [← holeN_op hj false, hu1]
        exact ih1 g m _ W hW (by omega)
      · rw [← holeN_op hj true, e3]
        exact ih2 g _ _ W hW (by omega)

end Go.Proofs.Ytokabkhnidlcnab

/-
  Walks: a node over its kids (exprOver).
-/
namespace Go.Proofs.Ytokabkhnidlcnab
set_option maxRecDepth 100000
set_option linter.unusedSimpArgs false
set_option linter.unusedVariables false
open Go.RowKit Go.Maps

/-- What the index finds at an operator node is its operator. -/
theorem found_op {ns : List OpR} {o : NodeR} {p : OpR} {v : Bool} (h : FoundAt ns o p v) (ho : isOpN o) (hk : fnd ns o.t (o.k - 2) ≠ none) : p = opA ns o := by
  rcases h with ⟨j, _, hj, _, rfl⟩ | ⟨h, _⟩
  · exact (opA_some hj).symm
  · exact absurd (h ho) hk

set_option maxHeartbeats 1000000 in
theorem exprOver_leaf (bo bs : Nat) (ns : List OpR) (o : NodeR) (e e' : Value) (w : World) (hi : Idx w bo bs ns ns.length) (hc : IsCode ns 0) (hok : okTo ns ns.length) (ht : o.t.size ≤ maxLen) (hk : o.k = 1 ∨ o.k = 2) :
    Calls Try.prog 137 #[.agg #[.map (some bo), .map (some bs)], .agg #[.int .i64 o.k, .string o.t, .int .i64 o.a, .int .i64 o.b], e, e'] w fun x w' => x = .returned (exN (opA ns o) o e e') ∧ Below w.heap.size w w' := by
  have HI := hide (fun o1 o2 => (hi.kept (below1 w o1)).kept (below1 _ o2))
  have HC := hide hc
  have HOK := hide hok
  clear hi hc hok
  go_enter Try.func137, Try.ntmps137
  go_wp2_with fail
  refine (opOf_any bo bs ns o _ ((unhide HI) _ _) (unhide HC) (unhide HOK) ht).mono ?_
  rintro x w1 ⟨⟨p, v, rfl, hp⟩, hb1⟩
  have bel1 : Below w.heap.size w w1 := ((below1 _ _).alloc (by simp) _).trans (hb1.mono (by simp; omega))
  have z1 : w.heap.size + 2 ≤ w1.heap.size := by have := hb1.size; simp at this; omega
  have c0 : (w1.alloc (.cells #[.string p.s, .int .i64 p.k, .int .i64 p.l, .int .i64 p.sd] 70)).cell? ⟨w.heap.size + 1, 0, none⟩ = some (.int .i64 o.k) := ((below1 _ _).cell (p := ⟨w.heap.size + 1, 0, none⟩) (show w.heap.size + 1 < w1.heap.size by omega)).trans ((hb1.cell (p := ⟨w.heap.size + 1, 0, none⟩) (by simp)).trans (by simp [go_sem]))
  have c1 : (w1.alloc (.cells #[.string p.s, .int .i64 p.k, .int .i64 p.l, .int .i64 p.sd] 70)).cell? ⟨w.heap.size + 1, 1, none⟩ = some (.string o.t) := ((below1 _ _).cell (p := ⟨w.heap.size + 1, 1, none⟩) (show w.heap.size + 1 < w1.heap.size by omega)).trans ((hb1.cell (p := ⟨w.heap.size + 1, 1, none⟩) (by simp)).trans (by simp [go_sem]))
  clear hp hb1
  rcases hk with hk | hk
  · have HE := hide (show exN (opA ns o) o e e' = eNum o.t by simp only [exN, hk]; rfl)
    rw [hk] at c0
    go_wp2_with fail
    go_ret
    exact ⟨by rw [unhide HE]; rfl, bel1.alloc bel1.size _⟩
  · have HE := hide (show exN (opA ns o) o e e' = eName o.t by simp only [exN, hk]; rfl)
    rw [hk] at c0
    go_wp2_with fail
    go_ret
    exact ⟨by rw [unhide HE]; rfl, bel1.alloc bel1.size _⟩

set_option maxHeartbeats 1000000 in
theorem exprOver_one (bo bs : Nat) (ns : List OpR) (o : NodeR) (T : TypeId) (u : Value) (e' : Value) (w : World) (hi : Idx w bo bs ns ns.length) (hc : IsCode ns 0) (hok : okTo ns ns.length) (ht : o.t.size ≤ maxLen) (hk : o.k = 3 ∨ o.k = 5 ∨ o.k = 6) (hkn : isOpN o → fnd ns o.t (o.k - 2) ≠ none) :
    Calls Try.prog 137 #[.agg #[.map (some bo), .map (some bs)], .agg #[.int .i64 o.k, .string o.t, .int .i64 o.a, .int .i64 o.b], .iface T u, e'] w fun x w' => x = .returned (exN (opA ns o) o (.iface T u) e') ∧ Below w.heap.size w w' := by
  have HI := hide (fun o1 o2 => (hi.kept (below1 w o1)).kept (below1 _ o2))
  have HC := hide hc
  have HOK := hide hok
  have HKN := hide hkn
  clear hi hc hok hkn
  go_enter Try.func137, Try.ntmps137
  go_wp2_with fail
  refine (opOf_any bo bs ns o _ ((unhide HI) _ _) (unhide HC) (unhide HOK) ht).mono ?_
  rintro x w1 ⟨⟨p, v, rfl, hp⟩, hb1⟩
  have HP := hide hp
  have bel1 : Below w.heap.size w w1 := ((below1 _ _).alloc (by simp) _).trans (hb1.mono (by simp; omega))
  have z1 : w.heap.size + 2 ≤ w1.heap.size := by have := hb1.size; simp at this; omega
  have c0 : (w1.alloc (.cells #[.string p.s, .int .i64 p.k, .int .i64 p.l, .int .i64 p.sd] 70)).cell? ⟨w.heap.size + 1, 0, none⟩ = some (.int .i64 o.k) := ((below1 _ _).cell (p := ⟨w.heap.size + 1, 0, none⟩) (show w.heap.size + 1 < w1.heap.size by omega)).trans ((hb1.cell (p := ⟨w.heap.size + 1, 0, none⟩) (by simp)).trans (by simp [go_sem]))
  clear hp hb1
  rcases hk with hk | hk | hk
  · have HE := hide (show exN (opA ns o) o (.iface T u) e' = ePre p (.iface T u) by
      rw [found_op (unhide HP) ⟨by omega, by omega⟩ ((unhide HKN) ⟨by omega, by omega⟩)]
      simp only [exN, hk]; rfl)
    rw [hk] at c0
    clear hk HKN
    go_wp2_with fail
    go_ret
    exact ⟨by rw [unhide HE]; rfl, bel1.alloc bel1.size _⟩
  · have HE := hide (show exN (opA ns o) o (.iface T u) e' = ePost p (.iface T u) by
      rw [found_op (unhide HP) ⟨by omega, by omega⟩ ((unhide HKN) ⟨by omega, by omega⟩)]
      simp only [exN, hk]; rfl)
    rw [hk] at c0
    clear hk HKN
    go_wp2_with fail
    go_ret
    exact ⟨by rw [unhide HE]; rfl, bel1.alloc bel1.size _⟩
  · have HE := hide (show exN (opA ns o) o (.iface T u) e' = eGrp (.iface T u) by simp only [exN, hk]; rfl)
    rw [hk] at c0
    clear hk HKN
    go_wp2_with fail
    go_ret
    exact ⟨by rw [unhide HE]; rfl, bel1.alloc bel1.size _⟩

set_option maxHeartbeats 1000000 in
theorem exprOver_two (bo bs : Nat) (ns : List OpR) (o : NodeR) (T T' : TypeId) (u u' : Value) (w : World) (hi : Idx w bo bs ns ns.length) (hc : IsCode ns 0) (hok : okTo ns ns.length) (ht : o.t.size ≤ maxLen) (hk : o.k = 4) (hkn : isOpN o → fnd ns o.t (o.k - 2) ≠ none) :
    Calls Try.prog 137 #[.agg #[.map (some bo), .map (some bs)], .agg #[.int .i64 o.k, .string o.t, .int .i64 o.a, .int .i64 o.b], .iface T u, .iface T' u'] w fun x w' => x = .returned (exN (opA ns o) o (.iface T u) (.iface T' u')) ∧ Below w.heap.size w w' := by
  have HI := hide (fun o1 o2 => (hi.kept (below1 w o1)).kept (below1 _ o2))
  have HC := hide hc
  have HOK := hide hok
  have HKN := hide hkn
  have HK4 := hide hk
  clear hi hc hok hkn hk
  go_enter Try.func137, Try.ntmps137
  go_wp2_with fail
  refine (opOf_any bo bs ns o _ ((unhide HI) _ _) (unhide HC) (unhide HOK) ht).mono ?_
  rintro x w1 ⟨⟨p, v, rfl, hp⟩, hb1⟩
  have HP := hide hp
  have bel1 : Below w.heap.size w w1 := ((below1 _ _).alloc (by simp) _).trans (hb1.mono (by simp; omega))
  have z1 : w.heap.size + 2 ≤ w1.heap.size := by have := hb1.size; simp at this; omega
  have c0 : (w1.alloc (.cells #[.string p.s, .int .i64 p.k, .int .i64 p.l, .int .i64 p.sd] 70)).cell? ⟨w.heap.size + 1, 0, none⟩ = some (.int .i64 o.k) := ((below1 _ _).cell (p := ⟨w.heap.size + 1, 0, none⟩) (show w.heap.size + 1 < w1.heap.size by omega)).trans ((hb1.cell (p := ⟨w.heap.size + 1, 0, none⟩) (by simp)).trans (by simp [go_sem]))
  clear hp hb1
  have hk := unhide HK4
  have HE := hide (show exN (opA ns o) o (.iface T u) (.iface T' u') = eInf p (.iface T u) (.iface T' u') by
    rw [found_op (unhide HP) ⟨by omega, by omega⟩ ((unhide HKN) ⟨by omega, by omega⟩)]
    simp only [exN, hk]; rfl)
  rw [hk] at c0
  clear hk HKN
  go_wp2_with fail
  go_ret
  exact ⟨by rw [unhide HE]; rfl, bel1.alloc bel1.size _⟩
end Go.Proofs.Ytokabkhnidlcnab

/-
  Walk: the inner tree of a row of nodes (exprOf).
-/
namespace Go.Proofs.Ytokabkhnidlcnab
set_option maxRecDepth 100000
set_option linter.unusedSimpArgs false
set_option linter.unusedVariables false
open Go.RowKit Go.Maps

theorem exprOver_any (bo bs : Nat) (ns : List OpR) (o : NodeR) (T T' : TypeId) (u u' : Value) (w : World) (hi : Idx w bo bs ns ns.length) (hc : IsCode ns 0) (hok : okTo ns ns.length) (ht : o.t.size ≤ maxLen) (hk : TxtOk o) (hkn : isOpN o → fnd ns o.t (o.k - 2) ≠ none) :
    Calls Try.prog 137 #[.agg #[.map (some bo), .map (some bs)], .agg #[.int .i64 o.k, .string o.t, .int .i64 o.a, .int .i64 o.b], .iface T u, .iface T' u'] w fun x w' => x = .returned (exN (opA ns o) o (.iface T u) (.iface T' u')) ∧ Below w.heap.size w w' := by
  rcases hk.2 with ⟨h, _⟩ | ⟨h, _⟩ | ⟨h, _⟩ | ⟨h | h | h, _⟩
  · exact exprOver_leaf bo bs ns o _ _ w hi hc hok ht (Or.inl h)
  · exact exprOver_leaf bo bs ns o _ _ w hi hc hok ht (Or.inr h)
  · exact exprOver_one bo bs ns o _ _ _ w hi hc hok ht (Or.inr (Or.inr h)) hkn
  · exact exprOver_one bo bs ns o _ _ _ w hi hc hok ht (Or.inl h) hkn
  · exact exprOver_two bo bs ns o _ _ _ _ w hi hc hok ht h hkn
  · exact exprOver_one bo bs ns o _ _ _ w hi hc hok ht (Or.inr (Or.inl h)) hkn

/-- The row 'made' when k nodes are done. -/
def ExS (w : World) (g : Nat) (ns : List OpR) (xs : List NodeR) (k : Nat) : Prop := g < w.heap.size ∧ ∀ j, j < xs.length → w.cell? ⟨g, j, none⟩ = some ((exL ns xs k).getD j .nilIface) ∧ w.frozen? ⟨g, j, none⟩ = false

theorem ExS.below {w w' : World} {g k : Nat} {ns : List OpR} {xs : List NodeR} (h : ExS w g ns xs k) (hb : Below w.heap.size w w') : ExS w' g ns xs k :=
  ⟨Nat.lt_of_lt_of_le h.1 hb.size, fun j hj => ⟨(hb.cell (p := ⟨g, j, none⟩) h.1).trans (h.2 j hj).1, (hb.frozen (p := ⟨g, j, none⟩) h.1).trans (h.2 j hj).2⟩⟩

theorem ExS.set {w : World} {g k : Nat} {ns : List OpR} {xs : List NodeR} (h : ExS w g ns xs k) (hk : k < xs.length) {v : Value} (hv : v = exS ns xs k) : ExS (w.setCell ⟨g, k, none⟩ v) g ns xs (k + 1) := by
  refine ⟨by simpa [World.setCell] using h.1, fun j hj => ⟨?_, (World.frozen?_setCell _ _ _ _).trans (h.2 j hj).2⟩⟩
  by_cases e : j = k
  · subst e
    rw [World.cell?_setCell_same _ _ _ (h.2 j hj).1, hv]
    rfl
  · rw [World.cell?_setCell_other _ _ _ _ (fun x => e (by injection x with _ x; exact x.symm)), (h.2 j hj).1]
    have hl := exL_len ns xs k
    congr 1
    show _ = (exL ns xs k ++ [_]).getD j .nilIface
    simp only [List.getD, List.getElem?_append, hl]
    by_cases h1 : j < k
    · rw [if_pos h1]
    · rw [if_neg h1, List.getElem?_eq_none (by omega), List.getElem?_eq_none (by simp; omega)]

theorem infoX : (Try.prog.info? 119).map (fun i => (i.zero, i.size, i.bytes)) = some (some .nilIface, 1, 16) := by kernel_rfl

theorem made_ex (W : World) (n j : Nat) (hj : j < n) : (W.alloc (.cells (madeCells #[.nilIface] n) 119)).cell? ⟨W.heap.size, j, none⟩ = some .nilIface ∧ (W.alloc (.cells (madeCells #[.nilIface] n) 119)).frozen? ⟨W.heap.size, j, none⟩ = false := by
  have hb : (W.alloc (.cells (madeCells #[.nilIface] n) 119)).heap[W.heap.size]? = some (.cells (madeCells #[.nilIface] n) 119 (0, 0)) := heap_alloc_new W _
  refine ⟨?_, frozen_of_row _ _ _ _ _ hb⟩
  rw [cell_of_row _ W.heap.size j _ 119 (0, 0) hb]
  simp [madeCells, hj, Nat.mod_one]

/-- The kids of a node behind the first one, as places before it. -/
theorem kid_places {xs : List NodeR} (h : InOrd xs) {k : Nat} (hk : k < xs.length) (h1 : 1 ≤ k) : ∃ ja jb : Nat, (atN xs k).a = (ja : Int) ∧ (atN xs k).b = (jb : Int) ∧ ja < k ∧ jb < k := by
  rcases h.kidsAt hk with ⟨h0, ha, hb⟩ | ⟨_, h2, ha, hb⟩ | ⟨_, h2, hb, ha0, ha1⟩
  · exact ⟨0, 0, ha, hb, h1, h1⟩
  · exact ⟨k - 1, 0, by omega, hb, by omega, by omega⟩
  · exact ⟨(atN xs k).a.toNat, k - 1, by omega, by omega, by omega, by omega⟩

/-- What a round of the loop reads. -/
def EO (w : World) (X N g ja jb bo bs : Nat) (o : NodeR) (ea eb : Value) : Prop :=
  w.cell? ⟨X, 0, none⟩ = some (.map (some bo)) ∧ w.cell? ⟨X, 1, none⟩ = some (.map (some bs)) ∧ w.cell? ⟨N, 0, none⟩ = some (.int .i64 o.k) ∧ w.cell? ⟨N, 1, none⟩ = some (.string o.t) ∧ w.cell? ⟨N, 2, none⟩ = some (.int .i64 o.a) ∧ w.cell? ⟨N, 3, none⟩ = some (.int .i64 o.b) ∧ w.cell? ⟨g, ja, none⟩ = some ea ∧ w.cell? ⟨g, jb, none⟩ = some eb

theorem EO.below {w w' : World} {X N g ja jb bo bs : Nat} {o : NodeR} {ea eb : Value} (h : EO w X N g ja jb bo bs o ea eb) (hb : Below w.heap.size w w') : EO w' X N g ja jb bo bs o ea eb := by
  have c : ∀ {b o' : Nat} {v : Value}, w.cell? ⟨b, o', none⟩ = some v → w'.cell? ⟨b, o', none⟩ = some v := fun h => (hb.cell (p := ⟨_, _, none⟩) (block_lt_of_cell h)).trans h
  obtain ⟨h0, h1, h2, h3, h4, h5, h6, h7⟩ := h
  exact ⟨c h0, c h1, c h2, c h3, c h4, c h5, c h6, c h7⟩

theorem EO.set {w : World} {X N g ja jb bo bs k : Nat} {o : NodeR} {ea eb : Value} (h : EO w X N g ja jb bo bs o ea eb) (hX : X ≠ g) (hN : N ≠ g) (ha : ja ≠ k) (hb : jb ≠ k) (v : Value) : EO (w.setCell ⟨g, k, none⟩ v) X N g ja jb bo bs o ea eb := by
  have c : ∀ {b o' : Nat} {u : Value}, (b ≠ g ∨ o' ≠ k) → w.cell? ⟨b, o', none⟩ = some u → (w.setCell ⟨g, k, none⟩ v).cell? ⟨b, o', none⟩ = some u := fun hne h => (World.cell?_setCell_other _ _ _ _ (fun x => by
    injection x with x1 x2
    rcases hne with h | h
    · exact h x1.symm
    · exact h x2.symm)).trans h
  obtain ⟨h0, h1, h2, h3, h4, h5, h6, h7⟩ := h
  exact ⟨c (Or.inl hX) h0, c (Or.inl hX) h1, c (Or.inl hN) h2, c (Or.inl hN) h3, c (Or.inl hN) h4, c (Or.inl hN) h5, c (Or.inr ha) h6, c (Or.inr hb) h7⟩

set_option maxHeartbeats 600000 in
theorem exprOf_any (bo bs bn offn cn : Nat) (ns : List OpR) (xs : List NodeR) (w : World) (hi : Idx w bo bs ns ns.length) (hc : IsCode ns 0) (hok : okTo ns ns.length) (hwn : OpsN w bn offn xs) (hsn : SizedN xs) (hBn : bn < w.heap.size) (hord : InOrd xs) (hkn : Knows ns xs) :
    Calls Try.prog 115 #[.agg #[.map (some bo), .map (some bs)], .agg #[.slice (some ⟨bn, offn, none⟩) xs.length cn]] w fun x w' => x = .returned (exS ns xs (xs.length - 1)) ∧ Below w.heap.size w w' := by
  have HI := hide hi
  have HC := hide hc
  have HOK := hide hok
  have HWN := hide hwn
  have HZN := hide hsn
  have HO := hide hord
  have HKN := hide hkn
  have hl1 := hord.1
  have hl2 := hord.2.1
  obtain ⟨iX, hiX, hzX0, hzX1, hzX2⟩ := info_parts' infoX
  have hmk : ∀ W : World, (Instr.makeSlice 188 (.int .i64 (xs.length : Int)) (.int .i64 (xs.length : Int))).run Try.prog W = .ok (.slice (some ⟨W.heap.size, 0, none⟩) xs.length xs.length) (W.alloc (.cells (madeCells #[.nilIface] xs.length) 119)) := by
    intro W
    have := run_make (P := Try.prog) W 188 119 iX _ Try.underlying188 hiX hzX0 .i64 .i64 xs.length xs.length (by omega) (Int.le_refl _) (by rw [hzX2]; omega) (by omega)
    simpa [hzX1, Value.cells] using this
  clear hi hc hok hwn hsn hord hkn hiX hzX0 hzX1 hzX2
  obtain ⟨W1, HW1⟩ : ∃ W1, Hid (W1 = ((w.alloc (.cells #[.map (some bo), .map (some bs)] 85)).alloc (.cells #[.slice (some ⟨bn, offn, none⟩) xs.length cn] 58)).alloc (.cells (madeCells #[.nilIface] xs.length) 119)) := ⟨_, hide rfl⟩
  have hb1 : Below w.heap.size w W1 := by rw [unhide HW1]; exact ((below1 _ _).alloc (by simp) _).alloc (by simp; omega) _
  have hs1 : W1.heap.size = w.heap.size + 3 := by rw [unhide HW1]; simp
  have HEX := hide (show ExS W1 (w.heap.size + 1 + 1) ns xs 0 by
    rw [unhide HW1]
    refine ⟨by simp, fun j hj => ?_⟩
    have := made_ex ((w.alloc (.cells #[.map (some bo), .map (some bs)] 85)).alloc (.cells #[.slice (some ⟨bn, offn, none⟩) xs.length cn] 58)) xs.length j hj
    simpa [exL] using this)
  have X0 : W1.cell? ⟨w.heap.size, 0, none⟩ = some (.map (some bo)) := by rw [unhide HW1]; simp [go_sem]
  have X1 : W1.cell? ⟨w.heap.size, 1, none⟩ = some (.map (some bs)) := by rw [unhide HW1]; simp [go_sem]
  have HX := hide (And.intro X0 X1)
  have HT : W1.cell? ⟨w.heap.size + 1, 0, none⟩ = some (.slice (some ⟨bn, offn, none⟩) xs.length cn) := by rw [unhide HW1]; simp [go_sem]
  clear X0 X1
  go_enter Try.func115, Try.ntmps115
  go_wp2_with fail
  go_loopw [15] (fun iv wr => ∃ k : Nat, k ≤ xs.length ∧ iv = .int .i64 (k : Int) ∧ Hid (ExS wr (w.heap.size + 1 + 1) ns xs k) ∧ Hid (wr.cell? ⟨w.heap.size, 0, none⟩ = some (.map (some bo)) ∧ wr.cell? ⟨w.heap.size, 1, none⟩ = some (.map (some bs))) ∧ Below w.heap.size w wr ∧ w.heap.size + 3 ≤ wr.heap.size) (fun iv _ => xs.length - (intOf iv).toNat)
  case atStart =>
    rw [← unhide HW1]
    exact ⟨0, Nat.zero_le _, rfl, HEX, HX, hb1, by omega⟩
  case round =>
    clear HEX HX HT hs1 hb1 HW1 hmk
    obtain ⟨k, hk, rfl, hex, hx, hbel, hsz⟩ := hrel
    by_cases hlt : k < xs.length
    · have hltI : (k : Int) < (xs.length : Int) := by omega
      obtain ⟨a0, a1, a2, a3⟩ := ((unhide HWN) k hlt).below hbel hBn
      obtain ⟨m0, m1⟩ := (unhide hex).2 k hlt
      have bel1 : Below w.heap.size w (wr.alloc (.cells #[.int .i64 (atN xs k).k, .string (atN xs k).t, .int .i64 (atN xs k).a, .int .i64 (atN xs k).b] 115)).drew := (hbel.alloc hbel.size _).drew
      by_cases hk0 : k = 0
      · subst hk0
        have hk0 := (unhide HO).first
        obtain ⟨ha0, hb0⟩ : (atN xs 0).a = 0 ∧ (atN xs 0).b = 0 := by
          rcases (unhide HO).kidsAt (k := 0) (by omega) with ⟨_, ha, hb⟩ | ⟨_, h, _⟩ | ⟨_, h, _⟩
          · exact ⟨ha, hb⟩
          · omega
          · omega
        rw [ha0] at a2
        rw [hb0] at a3
        simp only [Nat.zero_mul, Nat.add_zero] at a0 a1 a2 a3
        have e0 : ((exL ns xs 0).getD 0 Value.nilIface) = .nilIface := rfl
        rw [e0] at m0
        obtain ⟨T, u, hTu⟩ := exN_iface (opA ns (atN xs 0)) (atN xs 0) .nilIface .nilIface
        have HRES := hide (show (Value.iface T u) = exS ns xs 0 by
          rw [exS_is, ← hTu]
          simp [exL])
        have hkk : (atN xs 0).k = 1 ∨ (atN xs 0).k = 2 := by
          rcases ((unhide HO).2.2.2 0 (by omega)).2 with ⟨h, _⟩ | ⟨h, _⟩ | ⟨h, _⟩ | ⟨h | h | h, _⟩
          · exact Or.inl h
          · exact Or.inr h
          all_goals (rw [h] at hk0; simp [kids] at hk0)
        have HCALL := hide (fun (W : World) (h1 : Idx W bo bs ns ns.length) => exprOver_leaf bo bs ns (atN xs 0) .nilIface .nilIface W h1 (unhide HC) (unhide HOK) ((unhide HZN) 0 hlt) hkk)
        rw [hTu, ha0, hb0] at HCALL
        have HEO := hide (show EO (wr.alloc (.cells #[.int .i64 (atN xs 0).k, .string (atN xs 0).t, .int .i64 0, .int .i64 0] 115)).drew w.heap.size wr.heap.size (w.heap.size + 1 + 1) 0 0 bo bs ⟨(atN xs 0).k, (atN xs 0).t, 0, 0⟩ .nilIface .nilIface from by
          have hb0 := below1 wr (.cells #[.int .i64 (atN xs 0).k, .string (atN xs 0).t, .int .i64 0, .int .i64 0] 115)
          refine EO.below (w := wr.alloc (.cells #[.int .i64 (atN xs 0).k, .string (atN xs 0).t, .int .i64 0, .int .i64 0] 115)) ?_ (Below.refl _ _).drew
          refine ⟨?_, ?_, by simp [go_sem], by simp [go_sem], by simp [go_sem], by simp [go_sem], ?_, ?_⟩
          · exact (hb0.cell (p := ⟨w.heap.size, 0, none⟩) (show w.heap.size < wr.heap.size by omega)).trans (unhide hx).1
          · exact (hb0.cell (p := ⟨w.heap.size, 1, none⟩) (show w.heap.size < wr.heap.size by omega)).trans (unhide hx).2
          · exact (hb0.cell (p := ⟨w.heap.size + 1 + 1, 0, none⟩) (show w.heap.size + 1 + 1 < wr.heap.size by omega)).trans m0
          · exact (hb0.cell (p := ⟨w.heap.size + 1 + 1, 0, none⟩) (show w.heap.size + 1 + 1 < wr.heap.size by omega)).trans m0)
        have HXC := hide (((unhide hex).below (below1 wr (.cells #[.int .i64 (atN xs 0).k, .string (atN xs 0).t, .int .i64 0, .int .i64 0] 115))).below (Below.refl _ _).drew)
        have HBC := hide (show Below w.heap.size w (wr.alloc (.cells #[.int .i64 (atN xs 0).k, .string (atN xs 0).t, .int .i64 0, .int .i64 0] 115)).drew from (hbel.alloc hbel.size _).drew)
        have HZC := hide (show wr.heap.size + 1 ≤ (wr.alloc (.cells #[.int .i64 (atN xs 0).k, .string (atN xs 0).t, .int .i64 0, .int .i64 0] 115)).drew.heap.size by simp)
        obtain ⟨q0, q1, q2, q3, q4, q5, q6, q7⟩ := unhide HEO
        clear hTu ha0 hb0 m0 m1 bel1 hkk hk0 e0
        go_wp2_with fail
        refine wp_region_held_drew (S := fun w' => w'.cell? ⟨w.heap.size, 0, none⟩ = some (.map (some bo)) ∧ w'.cell? ⟨w.heap.size, 1, none⟩ = some (.map (some bs)) ∧ w'.cell? ⟨wr.heap.size, 0, none⟩ = some (.int .i64 (atN xs 0).k) ∧ w'.cell? ⟨wr.heap.size, 1, none⟩ = some (.string (atN xs 0).t) ∧ w'.cell? ⟨wr.heap.size, 2, none⟩ = some (.int .i64 0) ∧ w'.cell? ⟨wr.heap.size, 3, none⟩ = some (.int .i64 0)) (by kernel_rfl) ⟨q0, q1, q2, q3, q4, q5⟩ (fun hHeld => ?_)
        refine wpAnyH_take (i := 0) (v := ?v0) rfl (by kernel_rfl) (by kernel_rfl) (by kernel_rfl) (fun _ _ _ h => h) (Or.inl ⟨by rfl, ?y0⟩) (by assumption) ?r0
        case y0 => (intro w hSw; (try dsimp only at hSw); go_simp; try (with_reducible rfl))
        simp only [List.getElem_toArray, List.getElem_cons_zero, List.getElem_cons_succ, Act.put, List.setIfInBounds_toArray, List.set_cons_zero, List.set_cons_succ]
        refine wpAnyH_take (i := 1) (v := ?v1) rfl (by kernel_rfl) (by kernel_rfl) (by kernel_rfl) (fun _ _ _ h => h) (Or.inl ⟨by rfl, ?y1⟩) (by assumption) ?r1
        case y1 => (intro w hSw; (try dsimp only at hSw); go_simp; try (with_reducible rfl))
        simp only [List.getElem_toArray, List.getElem_cons_zero, List.getElem_cons_succ, Act.put, List.setIfInBounds_toArray, List.set_cons_zero, List.set_cons_succ]
        refine wpAnyH_take (i := 2) (v := ?v2) rfl (by kernel_rfl) (by kernel_rfl) (by kernel_rfl) (fun _ _ _ h => h) (Or.inl ⟨by rfl, ?y2⟩) (by assumption) ?r2
        case y2 => (intro w hSw; (try dsimp only at hSw); go_simp; try (with_reducible rfl))
        simp only [List.getElem_toArray, List.getElem_cons_zero, List.getElem_cons_succ, Act.put, List.setIfInBounds_toArray, List.set_cons_zero, List.set_cons_succ]
        refine wpAnyH_take (i := 3) (v := ?v3) rfl (by kernel_rfl) (by kernel_rfl) (by kernel_rfl) (fun _ _ _ h => h) (Or.inl ⟨by rfl, ?y3⟩) (by assumption) ?r3
        case y3 => (intro w hSw; (try dsimp only at hSw); go_simp; try (with_reducible rfl))
        simp only [List.getElem_toArray, List.getElem_cons_zero, List.getElem_cons_succ, Act.put, List.setIfInBounds_toArray, List.set_cons_zero, List.set_cons_succ]
        refine wpAnyH_take (i := 4) (v := ?v4) rfl (by kernel_rfl) (by kernel_rfl) (by kernel_rfl) (fun _ _ _ h => h) (Or.inl ⟨by rfl, ?y4⟩) (by assumption) ?r4
        case y4 => (intro w hSw; (try dsimp only at hSw); go_simp; try (with_reducible rfl))
        simp only [List.getElem_toArray, List.getElem_cons_zero, List.getElem_cons_succ, Act.put, List.setIfInBounds_toArray, List.set_cons_zero, List.set_cons_succ]
        refine wpAnyH_take (i := 5) (v := ?v5) rfl (by kernel_rfl) (by kernel_rfl) (by kernel_rfl) (fun _ _ _ h => h) (Or.inl ⟨by rfl, ?y5⟩) (by assumption) ?r5
        case y5 => (intro w hSw; (try dsimp only at hSw); go_simp; try (with_reducible rfl))
        simp only [List.getElem_toArray, List.getElem_cons_zero, List.getElem_cons_succ, Act.put, List.setIfInBounds_toArray, List.set_cons_zero, List.set_cons_succ]
        refine wpAnyH_take (i := 6) (v := ?v6) rfl (by kernel_rfl) (by kernel_rfl) (by kernel_rfl) (fun _ _ _ h => h) (Or.inl ⟨by rfl, ?y6⟩) (by assumption) ?r6
        case y6 => (intro w hSw; (try dsimp only at hSw); go_simp; try (with_reducible rfl))
        simp only [List.getElem_toArray, List.getElem_cons_zero, List.getElem_cons_succ, Act.put, List.setIfInBounds_toArray, List.set_cons_zero, List.set_cons_succ]
        refine wpAnyH_take (i := 7) (v := ?v7) rfl (by kernel_rfl) (by kernel_rfl) (by kernel_rfl) (fun _ _ _ h => h) (Or.inl ⟨by rfl, ?y7⟩) (by assumption) ?r7
        case y7 => (intro w hSw; (try dsimp only at hSw); go_simp; try (with_reducible rfl))
        simp only [List.getElem_toArray, List.getElem_cons_zero, List.getElem_cons_succ, Act.put, List.setIfInBounds_toArray, List.set_cons_zero, List.set_cons_succ]
        refine wpAnyH_take (i := 9) (v := ?v9) rfl (by kernel_rfl) (by kernel_rfl) (by kernel_rfl) (fun _ _ _ h => h) (Or.inl ⟨by rfl, ?y9⟩) (by assumption) ?r9
        case y9 => (intro w hSw; (try dsimp only at hSw); go_simp; try (with_reducible rfl))
        simp only [List.getElem_toArray, List.getElem_cons_zero, List.getElem_cons_succ, Act.put, List.setIfInBounds_toArray, List.set_cons_zero, List.set_cons_succ]
        refine wpAnyH_take (i := 10) (v := ?v10) rfl (by kernel_rfl) (by kernel_rfl) (by kernel_rfl) (fun _ _ _ h => h) (Or.inl ⟨by rfl, ?y10⟩) (by assumption) ?r10
        case y10 => (intro w hSw; (try dsimp only at hSw); go_simp; try (with_reducible rfl))
        simp only [List.getElem_toArray, List.getElem_cons_zero, List.getElem_cons_succ, Act.put, List.setIfInBounds_toArray, List.set_cons_zero, List.set_cons_succ]
        refine wpAnyH_take (i := 11) (v := ?v11) rfl (by kernel_rfl) (by kernel_rfl) (by kernel_rfl) (fun _ _ _ h => h) (Or.inl ⟨by rfl, ?y11⟩) (by assumption) ?r11
        case y11 => (intro w hSw; (try dsimp only at hSw); go_simp; try (with_reducible rfl))
        simp only [List.getElem_toArray, List.getElem_cons_zero, List.getElem_cons_succ, Act.put, List.setIfInBounds_toArray, List.set_cons_zero, List.set_cons_succ]
        refine wpAnyH_take (i := 12) (v := ?v12) rfl (by kernel_rfl) (by kernel_rfl) (by kernel_rfl) (fun _ _ _ h => h) (Or.inl ⟨by rfl, ?y12⟩) (by assumption) ?r12
        case y12 => (intro w hSw; (try dsimp only at hSw); go_simp; try (with_reducible rfl))
        simp only [List.getElem_toArray, List.getElem_cons_zero, List.getElem_cons_succ, Act.put, List.setIfInBounds_toArray, List.set_cons_zero, List.set_cons_succ]
        refine wpAnyH_ready (rs := [8, 13]) (by kernel_rfl) (by simp) ?_
        refine AllReadyH.cons rfl (fun K hK => ?_) (AllReadyH.cons rfl (fun K hK => ?_) AllReadyH.nil)
        · go_simp
          refine hK.out _ _ hHeld (fun _ => ?_)
          clear hK K
          refine wpAnyH_ready (rs := [13]) (by kernel_rfl) (by simp) ?_
          refine AllReadyH.cons rfl (fun K hK => ?_) AllReadyH.nil
          go_simp
          refine hK.out _ _ hHeld (fun _ => ?_)
          clear hK K
          refine wpAnyH_ready (rs := [14]) (by kernel_rfl) (by simp) ?_
          refine AllReadyH.cons rfl (fun K hK => ?_) AllReadyH.nil
          go_simp
          go_wp2_with ((go_at_call 137; refine ((unhide HCALL) _ ((unhide HI).kept (unhide HBC))).mono ?_; rintro x w3 ⟨rfl, hb3⟩; replace HEO := hide ((unhide HEO).below hb3); replace HXC := hide ((unhide HXC).below hb3); replace HBC := hide ((unhide HBC).trans (hb3.mono (unhide HBC).size)); replace HZC := hide (Nat.le_trans (unhide HZC) hb3.size); clear hb3))
          replace ⟨q0, q1, q2, q3, q4, q5, q6, q7⟩ := unhide HEO
          refine hK.out _ _ ⟨q0, q1, q2, q3, q4, q5⟩ (fun hHeld => ?_)
          clear hK K
          obtain ⟨m0, m1⟩ := (unhide HXC).2 0 hlt
          have e0 : ((exL ns xs 0).getD 0 Value.nilIface) = .nilIface := rfl
          rw [e0] at m0
          clear e0
          refine wpAnyH_take (i := 15) (v := ?va15) rfl (by kernel_rfl) (by kernel_rfl) (by kernel_rfl) (fun _ _ _ h => h) (Or.inl ⟨by rfl, ?ya15⟩) (by assumption) ?ra15
          case ya15 => (intro w hSw; (try dsimp only at hSw); go_simp; try (with_reducible rfl))
          simp only [List.getElem_toArray, List.getElem_cons_zero, List.getElem_cons_succ, Act.put, List.setIfInBounds_toArray, List.set_cons_zero, List.set_cons_succ]
          refine wpAnyH_ready (rs := [16]) (by kernel_rfl) (by simp) ?_
          refine AllReadyH.cons rfl (fun K hK => ?_) AllReadyH.nil
          go_simp
          have HX2 := hide (show (w3.setCell ⟨w.heap.size + 1 + 1, 0, none⟩ (.iface T u)).cell? ⟨w.heap.size, 0, none⟩ = some (.map (some bo)) ∧ (w3.setCell ⟨w.heap.size + 1 + 1, 0, none⟩ (.iface T u)).cell? ⟨w.heap.size, 1, none⟩ = some (.map (some bs)) ∧ (w3.setCell ⟨w.heap.size + 1 + 1, 0, none⟩ (.iface T u)).cell? ⟨wr.heap.size, 0, none⟩ = some (.int .i64 (atN xs 0).k) ∧ (w3.setCell ⟨w.heap.size + 1 + 1, 0, none⟩ (.iface T u)).cell? ⟨wr.heap.size, 1, none⟩ = some (.string (atN xs 0).t) ∧ (w3.setCell ⟨w.heap.size + 1 + 1, 0, none⟩ (.iface T u)).cell? ⟨wr.heap.size, 2, none⟩ = some (.int .i64 0) ∧ (w3.setCell ⟨w.heap.size + 1 + 1, 0, none⟩ (.iface T u)).cell? ⟨wr.heap.size, 3, none⟩ = some (.int .i64 0) from
            have c : ∀ {b o' : Nat} {x : Value}, b ≠ w.heap.size + 1 + 1 → w3.cell? ⟨b, o', none⟩ = some x → (w3.setCell ⟨w.heap.size + 1 + 1, 0, none⟩ (.iface T u)).cell? ⟨b, o', none⟩ = some x := fun hne h => (World.cell?_setCell_other _ _ _ _ (fun x => hne (by injection x with x1; exact x1.symm))).trans h
            ⟨c (by omega) q0, c (by omega) q1, c (by omega) q2, c (by omega) q3, c (by omega) q4, c (by omega) q5⟩)
          refine hK.out _ _ (unhide HX2) (fun _ => ?_)
          clear hK K
          refine wpAnyH_done (by kernel_rfl) ?_ _
          have HEX2 := hide ((unhide HXC).set hlt (unhide HRES))
          have HX3 := hide (And.intro (unhide HX2).1 (unhide HX2).2.1)
          have HB2 : Below w.heap.size w (w3.setCell ⟨w.heap.size + 1 + 1, 0, none⟩ (.iface T u)) := (unhide HBC).setCell (by simp; omega) _
          have HZ2 : w.heap.size + 3 ≤ (w3.setCell ⟨w.heap.size + 1 + 1, 0, none⟩ (.iface T u)).heap.size := by have := unhide HZC; simp [World.setCell]; omega
          clear HEO HXC HBC HZC m0 m1 HX2 q0 q1 q2 q3 q4 q5 q6 q7 hHeld
          go_wp2_with fail
          exact ⟨⟨1, by omega, by go_num, HEX2, HX3, HB2, HZ2⟩, by simp [intOf]; omega⟩
        · go_simp
          refine hK.out _ _ hHeld (fun _ => ?_)
          clear hK K
          refine wpAnyH_ready (rs := [8]) (by kernel_rfl) (by simp) ?_
          refine AllReadyH.cons rfl (fun K hK => ?_) AllReadyH.nil
          go_simp
          refine hK.out _ _ hHeld (fun _ => ?_)
          clear hK K
          refine wpAnyH_ready (rs := [14]) (by kernel_rfl) (by simp) ?_
          refine AllReadyH.cons rfl (fun K hK => ?_) AllReadyH.nil
          go_simp
          go_wp2_with ((go_at_call 137; refine ((unhide HCALL) _ ((unhide HI).kept (unhide HBC))).mono ?_; rintro x w3 ⟨rfl, hb3⟩; replace HEO := hide ((unhide HEO).below hb3); replace HXC := hide ((unhide HXC).below hb3); replace HBC := hide ((unhide HBC).trans (hb3.mono (unhide HBC).size)); replace HZC := hide (Nat.le_trans (unhide HZC) hb3.size); clear hb3))
          replace ⟨q0, q1, q2, q3, q4, q5, q6, q7⟩ := unhide HEO
          refine hK.out _ _ ⟨q0, q1, q2, q3, q4, q5⟩ (fun hHeld => ?_)
          clear hK K
          obtain ⟨m0, m1⟩ := (unhide HXC).2 0 hlt
          have e0 : ((exL ns xs 0).getD 0 Value.nilIface) = .nilIface := rfl
          rw [e0] at m0
          clear e0
          refine wpAnyH_take (i := 15) (v := ?vb15) rfl (by kernel_rfl) (by kernel_rfl) (by kernel_rfl) (fun _ _ _ h => h) (Or.inl ⟨by rfl, ?yb15⟩) (by assumption) ?rb15
          case yb15 => (intro w hSw; (try dsimp only at hSw); go_simp; try (with_reducible rfl))
          simp only [List.getElem_toArray, List.getElem_cons_zero, List.getElem_cons_succ, Act.put, List.setIfInBounds_toArray, List.set_cons_zero, List.set_cons_succ]
          refine wpAnyH_ready (rs := [16]) (by kernel_rfl) (by simp) ?_
          refine AllReadyH.cons rfl (fun K hK => ?_) AllReadyH.nil
          go_simp
          have HX2 := hide (show (w3.setCell ⟨w.heap.size + 1 + 1, 0, none⟩ (.iface T u)).cell? ⟨w.heap.size, 0, none⟩ = some (.map (some bo)) ∧ (w3.setCell ⟨w.heap.size + 1 + 1, 0, none⟩ (.iface T u)).cell? ⟨w.heap.size, 1, none⟩ = some (.map (some bs)) ∧ (w3.setCell ⟨w.heap.size + 1 + 1, 0, none⟩ (.iface T u)).cell? ⟨wr.heap.size, 0, none⟩ = some (.int .i64 (atN xs 0).k) ∧ (w3.setCell ⟨w.heap.size + 1 + 1, 0, none⟩ (.iface T u)).cell? ⟨wr.heap.size, 1, none⟩ = some (.string (atN xs 0).t) ∧ (w3.setCell ⟨w.heap.size + 1 + 1, 0, none⟩ (.iface T u)).cell? ⟨wr.heap.size, 2, none⟩ = some (.int .i64 0) ∧ (w3.setCell ⟨w.heap.size + 1 + 1, 0, none⟩ (.iface T u)).cell? ⟨wr.heap.size, 3, none⟩ = some (.int .i64 0) from
            have c : ∀ {b o' : Nat} {x : Value}, b ≠ w.heap.size + 1 + 1 → w3.cell? ⟨b, o', none⟩ = some x → (w3.setCell ⟨w.heap.size + 1 + 1, 0, none⟩ (.iface T u)).cell? ⟨b, o', none⟩ = some x := fun hne h => (World.cell?_setCell_other _ _ _ _ (fun x => hne (by injection x with x1; exact x1.symm))).trans h
            ⟨c (by omega) q0, c (by omega) q1, c (by omega) q2, c (by omega) q3, c (by omega) q4, c (by omega) q5⟩)
          refine hK.out _ _ (unhide HX2) (fun _ => ?_)
          clear hK K
          refine wpAnyH_done (by kernel_rfl) ?_ _
          have HEX2 := hide ((unhide HXC).set hlt (unhide HRES))
          have HX3 := hide (And.intro (unhide HX2).1 (unhide HX2).2.1)
          have HB2 : Below w.heap.size w (w3.setCell ⟨w.heap.size + 1 + 1, 0, none⟩ (.iface T u)) := (unhide HBC).setCell (by simp; omega) _
          have HZ2 : w.heap.size + 3 ≤ (w3.setCell ⟨w.heap.size + 1 + 1, 0, none⟩ (.iface T u)).heap.size := by have := unhide HZC; simp [World.setCell]; omega
          clear HEO HXC HBC HZC m0 m1 HX2 q0 q1 q2 q3 q4 q5 q6 q7 hHeld
          go_wp2_with fail
          exact ⟨⟨1, by omega, by go_num, HEX2, HX3, HB2, HZ2⟩, by simp [intOf]; omega⟩
      · obtain ⟨ja, jb, hja, hjb, hjak, hjbk⟩ := kid_places (unhide HO) hlt (by omega)
        obtain ⟨Ta, ua, hTa⟩ := exS_iface ns xs ja
        obtain ⟨Tb, ub, hTb⟩ := exS_iface ns xs jb
        have ca := (unhide hex).2 ja (by omega)
        have cb := (unhide hex).2 jb (by omega)
        rw [exL_get ns xs k ja hjak, hTa] at ca
        rw [exL_get ns xs k jb hjbk, hTb] at cb
        obtain ⟨T, u, hTu⟩ := exN_iface (opA ns (atN xs k)) (atN xs k) (.iface Ta ua) (.iface Tb ub)
        have HRES := hide (show (Value.iface T u) = exS ns xs k by
          rw [exS_is, hja, hjb, Int.toNat_natCast, Int.toNat_natCast, exL_get ns xs k ja hjak, exL_get ns xs k jb hjbk, hTa, hTb, hTu])
        have HCALL := hide (fun (W : World) (h1 : Idx W bo bs ns ns.length) => exprOver_any bo bs ns (atN xs k) Ta Tb ua ub W h1 (unhide HC) (unhide HOK) ((unhide HZN) k hlt) ((unhide HO).2.2.2 k hlt) ((unhide HKN) k hlt))
        rw [hTu, hja, hjb] at HCALL
        rw [hja] at a2
        rw [hjb] at a3
        have hjaI : (ja : Int) < (xs.length : Int) := by omega
        have hjbI : (jb : Int) < (xs.length : Int) := by omega
        have HEO := hide (show EO (wr.alloc (.cells #[.int .i64 (atN xs k).k, .string (atN xs k).t, .int .i64 (ja : Int), .int .i64 (jb : Int)] 115)).drew w.heap.size wr.heap.size (w.heap.size + 1 + 1) ja jb bo bs ⟨(atN xs k).k, (atN xs k).t, (ja : Int), (jb : Int)⟩ (.iface Ta ua) (.iface Tb ub) from by
          have hb0 := below1 wr (.cells #[.int .i64 (atN xs k).k, .string (atN xs k).t, .int .i64 (ja : Int), .int .i64 (jb : Int)] 115)
          refine EO.below (w := wr.alloc (.cells #[.int .i64 (atN xs k).k, .string (atN xs k).t, .int .i64 (ja : Int), .int .i64 (jb : Int)] 115)) ?_ (Below.refl _ _).drew
          refine ⟨?_, ?_, by simp [go_sem], by simp [go_sem], by simp [go_sem], by simp [go_sem], ?_, ?_⟩
          · exact (hb0.cell (p := ⟨w.heap.size, 0, none⟩) (show w.heap.size < wr.heap.size by omega)).trans (unhide hx).1
          · exact (hb0.cell (p := ⟨w.heap.size, 1, none⟩) (show w.heap.size < wr.heap.size by omega)).trans (unhide hx).2
          · exact (hb0.cell (p := ⟨w.heap.size + 1 + 1, ja, none⟩) (show w.heap.size + 1 + 1 < wr.heap.size by omega)).trans ca.1
          · exact (hb0.cell (p := ⟨w.heap.size + 1 + 1, jb, none⟩) (show w.heap.size + 1 + 1 < wr.heap.size by omega)).trans cb.1)
        have HXC := hide (((unhide hex).below (below1 wr (.cells #[.int .i64 (atN xs k).k, .string (atN xs k).t, .int .i64 (ja : Int), .int .i64 (jb : Int)] 115))).below (Below.refl _ _).drew)
        have HBC := hide (show Below w.heap.size w (wr.alloc (.cells #[.int .i64 (atN xs k).k, .string (atN xs k).t, .int .i64 (ja : Int), .int .i64 (jb : Int)] 115)).drew from (hbel.alloc hbel.size _).drew)
        have HZC : wr.heap.size + 1 ≤ (wr.alloc (.cells #[.int .i64 (atN xs k).k, .string (atN xs k).t, .int .i64 (ja : Int), .int .i64 (jb : Int)] 115)).drew.heap.size := by simp
        have HZC := hide HZC
        clear ca cb hTa hTb hTu hja hjb m0 m1 bel1
        go_wp2_with fail
        go_region_held (fun w' => w'.cell? ⟨w.heap.size, 0, none⟩ = some (.map (some bo)) ∧ w'.cell? ⟨w.heap.size, 1, none⟩ = some (.map (some bs)) ∧ w'.cell? ⟨wr.heap.size, 0, none⟩ = some (.int .i64 (atN xs k).k) ∧ w'.cell? ⟨wr.heap.size, 1, none⟩ = some (.string (atN xs k).t) ∧ w'.cell? ⟨wr.heap.size, 2, none⟩ = some (.int .i64 (ja : Int)) ∧ w'.cell? ⟨wr.heap.size, 3, none⟩ = some (.int .i64 (jb : Int)) ∧ w'.cell? ⟨w.heap.size + 1 + 1, ja, none⟩ = some (.iface Ta ua) ∧ w'.cell? ⟨w.heap.size + 1 + 1, jb, none⟩ = some (.iface Tb ub)) (first | exact unhide HEO | exact (unhide HEO).set (by omega) (by omega) (by omega) (by omega) _)
          ((go_at_call 137; refine ((unhide HCALL) _ ((unhide HI).kept (unhide HBC))).mono ?_; rintro x w3 ⟨rfl, hb3⟩; replace HEO := hide ((unhide HEO).below hb3); replace HXC := hide ((unhide HXC).below hb3); replace HBC := hide ((unhide HBC).trans (hb3.mono (unhide HBC).size)); replace HZC := hide (Nat.le_trans (unhide HZC) hb3.size); clear hb3; obtain ⟨m0, m1⟩ := (unhide HXC).2 k hlt))
        have HEX2 := hide ((unhide HXC).set hlt (unhide HRES))
        have HX2 := hide (show (w3.setCell ⟨w.heap.size + 1 + 1, k, none⟩ (.iface T u)).cell? ⟨w.heap.size, 0, none⟩ = some (.map (some bo)) ∧ (w3.setCell ⟨w.heap.size + 1 + 1, k, none⟩ (.iface T u)).cell? ⟨w.heap.size, 1, none⟩ = some (.map (some bs)) from
          have h := (unhide HEO).set (k := k) (by omega) (by omega) (by omega) (by omega) (.iface T u)
          ⟨h.1, h.2.1⟩)
        have HB2 : Below w.heap.size w (w3.setCell ⟨w.heap.size + 1 + 1, k, none⟩ (.iface T u)) := (unhide HBC).setCell (by simp; omega) _
        have HZ2 : w.heap.size + 3 ≤ (w3.setCell ⟨w.heap.size + 1 + 1, k, none⟩ (.iface T u)).heap.size := by have := unhide HZC; simp [World.setCell]; omega
        clear HEO HXC HBC HZC m0 m1
        go_wp2_with fail
        exact ⟨⟨k + 1, by omega, by go_num, HEX2, HX2, HB2, HZ2⟩, by simp [intOf]; omega⟩
    · have hkx : k = xs.length := by omega
      have HL := hide ((unhide hex).2 (xs.length - 1) (by omega))
      rw [exL_get ns xs k (xs.length - 1) (by omega)] at HL
      obtain ⟨T, u, hTu⟩ := exS_iface ns xs (xs.length - 1)
      rw [hTu] at HL
      have HTU := hide hTu
      have c1 := (unhide HL).1
      have ei : (xs.length : Int) - 1 = ((xs.length - 1 : Nat) : Int) := by omega
      have e2 : ((xs.length - 1 : Nat) : Int) < (xs.length : Int) := by omega
      clear hTu HL
      go_wp2_with fail
      go_ret
      exact ⟨by rw [unhide HTU]; rfl, hbel⟩
end Go.Proofs.Ytokabkhnidlcnab
