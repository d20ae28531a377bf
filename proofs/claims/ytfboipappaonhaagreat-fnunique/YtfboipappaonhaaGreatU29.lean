import Derived.Deep.RegionHeldLaw
import Derived.Test.YtfboipappaonhaaGreatU06
import Derived.Test.YtfboipappaonhaaGreatU17
import Derived.Test.YtfboipappaonhaaGreatU18
import Derived.Test.YtfboipappaonhaaGreatU26
import Derived.Test.YtfboipappaonhaaGreatU28

/-
  Walks: the height of the program's inner trees, and their nodes behind a row.
-/
namespace Go.Proofs.YtfboipappaonhaaGreat
set_option maxRecDepth 100000
set_option linter.unusedSimpArgs false
set_option linter.unusedVariables false
open Go.RowKit

/-- The height of a tree. -/
def hT : ET → Nat
  | .nil => 0
  | .node _ _ _ l r => 1 + max (hT l) (hT r)

theorem hT_le : ∀ T : ET, hT T ≤ tsz T
  | .nil => Nat.le_refl _
  | .node _ _ _ l r => by
    have := hT_le l
    have := hT_le r
    simp only [hT, tsz]
    omega

/-- A value whose height is known. -/
def HgtIs (e : Value) (h : Nat) : Prop := ∃ T v f r, e = .iface T v ∧ (∀ w, (method 342 T v "loop.example/s0059/impl.height").run Tryz.prog w = .ok (f, r) w) ∧ (∀ a w, (callFunc f a).run Tryz.prog w = .ok (.enter f a) w) ∧
  ∀ w, Calls Tryz.prog f #[r] w fun x w' => x = .returned (.int .i64 (h : Int)) ∧ Below w.heap.size w w'

theorem leaf_height (t : ByteArray) (w : World) : Calls Tryz.prog 186 #[.agg #[.string t]] w fun x w' => x = .returned (.int .i64 ((1 : Nat) : Int)) ∧ Below w.heap.size w w' := by
  go_enter Tryz.func186, Tryz.ntmps186
  go_wp2_with fail
  go_ret
  exact ⟨rfl, by first | exact below1 _ _ | exact Below.refl _ _⟩

theorem single_height {e : Value} {h : Nat} (he : HgtIs e h) (hh : h ≤ 100000) (w : World) : Calls Tryz.prog 190 #[.agg #[e]] w fun x w' => x = .returned (.int .i64 ((1 + h : Nat) : Int)) ∧ Below w.heap.size w w' := by
  obtain ⟨T, v, f, r, rfl, hme, hcf, hcall⟩ := he
  have HC := hide hcall
  have e1 : ((1 + h : Nat) : Int) = 1 + (h : Int) := by omega
  clear hcall
  go_enter Tryz.func190, Tryz.ntmps190
  go_wp2_with fail
  refine ((unhide HC) _).mono ?_
  rintro x w1 ⟨rfl, hb1⟩
  go_wp2_with fail
  go_ret
  rw [e1]
  exact ⟨rfl, (below1 _ _).trans (hb1.mono (by simp))⟩

set_option maxHeartbeats 1000000 in
theorem infix_height {e e' : Value} {h h' : Nat} (p : OpR) (he : HgtIs e h) (he' : HgtIs e' h') (hh : h ≤ 100000) (hh' : h' ≤ 100000) (w : World) : Calls Tryz.prog 194 #[.agg #[.string p.s, .int .i64 p.k, .int .i64 p.l, .int .i64 p.sd, e, e']] w fun x w' => x = .returned (.int .i64 ((1 + max h h' : Nat) : Int)) ∧ Below w.heap.size w w' := by
  obtain ⟨T, v, f, r, rfl, hme, hcf, hcall⟩ := he
  obtain ⟨T', v', f', r', rfl, hme', hcf', hcall'⟩ := he'
  have HC := hide hcall
  have HC' := hide hcall'
  clear hcall hcall'
  go_enter Tryz.func194, Tryz.ntmps194
  go_wp2_with fail
  have HBC := hide ((below1 w (.cells #[.string p.s, .int .i64 p.k, .int .i64 p.l, .int .i64 p.sd, .iface T v, .iface T' v'] 131)).drew)
  have HSC := hide (show Cs [(w.heap.size, 4, .iface T v), (w.heap.size, 5, .iface T' v')] ((w.alloc (.cells #[.string p.s, .int .i64 p.k, .int .i64 p.l, .int .i64 p.sd, .iface T v, .iface T' v'] 131)).drew) from by
    intro x hx
    simp only [List.mem_cons, List.not_mem_nil, or_false] at hx
    rcases hx with rfl | rfl
    · simp [go_sem]
    · simp [go_sem])
  go_region_held (fun w' => w'.cell? ⟨w.heap.size, 4, none⟩ = some (.iface T v) ∧ w'.cell? ⟨w.heap.size, 5, none⟩ = some (.iface T' v')) (first | (go_keep; done) | exact ⟨(unhide HSC) (w.heap.size, 4, .iface T v) (by simp), (unhide HSC) (w.heap.size, 5, .iface T' v') (by simp)⟩)
    (first | ((with_reducible refine ((unhide HC) _).mono ?_); rintro x w1 ⟨rfl, hb1⟩; replace HSC := hide ((unhide HSC).below hb1); replace HBC := hide ((unhide HBC).trans (hb1.mono (unhide HBC).size)); clear hb1 HC) | ((with_reducible refine ((unhide HC') _).mono ?_); rintro x w1 ⟨rfl, hb1⟩; replace HSC := hide ((unhide HSC).below hb1); replace HBC := hide ((unhide HBC).trans (hb1.mono (unhide HBC).size)); clear hb1 HC'))
  have e1 : IntKind.i64.wrap (1 + max (h : Int) (h' : Int)) = ((1 + max h h' : Nat) : Int) := by
    rw [IntKind.wrap_i64]
    omega
  rw [e1]
  go_wp2_with fail
  go_ret
  exact ⟨rfl, unhide HBC⟩

theorem hgt_num (t : ByteArray) : HgtIs (eNum t) 1 := ⟨_, _, 186, .agg #[.string t], rfl, fun w => by kernel_rfl, fun a w => by kernel_rfl, leaf_height t⟩
theorem hgt_name (t : ByteArray) : HgtIs (eName t) 1 := ⟨_, _, 186, .agg #[.string t], rfl, fun w => by kernel_rfl, fun a w => by kernel_rfl, leaf_height t⟩
theorem hgt_grp {e : Value} {h : Nat} (he : HgtIs e h) (hh : h ≤ 100000) : HgtIs (eGrp e) (1 + h) := ⟨_, _, 190, .agg #[e], rfl, fun w => by kernel_rfl, fun a w => by kernel_rfl, single_height he hh⟩
theorem hgt_pre (p : OpR) {e : Value} {h : Nat} (he : HgtIs e h) (hh : h ≤ 100000) : HgtIs (ePre p e) (1 + h) := ⟨_, _, 190, .agg #[e], rfl, fun w => by kernel_rfl, fun a w => by kernel_rfl, single_height he hh⟩
theorem hgt_post (p : OpR) {e : Value} {h : Nat} (he : HgtIs e h) (hh : h ≤ 100000) : HgtIs (ePost p e) (1 + h) := ⟨_, _, 190, .agg #[e], rfl, fun w => by kernel_rfl, fun a w => by kernel_rfl, single_height he hh⟩
theorem hgt_inf (p : OpR) {e e' : Value} {h h' : Nat} (he : HgtIs e h) (he' : HgtIs e' h') (hh : h ≤ 100000) (hh' : h' ≤ 100000) : HgtIs (eInf p e e') (1 + max h h') := ⟨_, _, 194, _, rfl, fun w => by kernel_rfl, fun a w => by kernel_rfl, infix_height p he he' hh hh'⟩

theorem sLv_op {ns : List OpR} {b : Nat} {t : ByteArray} (hb : b = 3 ∨ b = 4 ∨ b = 5) (hk : knB ns (b, t) = true) : sLv ns (b, t) = (opA ns (rt b t)).l := by
  unfold knB at hk
  unfold sLv levN opA
  have hbk : 3 ≤ (rt b t).k ∧ (rt b t).k ≤ 5 := by simp only [rt]; omega
  simp only [if_pos hbk]
  have e : fnd ns (rt b t).t ((rt b t).k - 2) = fnd ns t ((b : Int) - 2) := rfl
  rw [e]
  cases h : fnd ns t ((b : Int) - 2) with
  | none => simp only [h] at hk; cases hk
  | some j => rfl

theorem hgt_tree (ns : List OpR) : ∀ T : ET, GoodT ns T → hT T ≤ 100000 → HgtIs (exT ns T) (hT T) := by
  intro T
  induction T with
  | nil => intro h; exact h.elim
  | node b o t l r ihl ihr =>
    intro hg hh
    simp only [hT] at hh
    rcases hg with ⟨rfl, ⟨hb, rfl, rfl⟩ | ⟨rfl, rfl, hl, rfl⟩ | ⟨hb, hk, hl, rfl, _⟩ | ⟨rfl, hk, hl, hr, _⟩⟩
    · rcases hb with rfl | rfl
      · exact hgt_num t
      · exact hgt_name t
    · have := hgt_grp (ihl hl (by omega)) (by omega)
      have e : hT (.node 6 0 ByteArray.empty l .nil) = 1 + hT l := by simp [hT]
      rw [e]; exact this
    · have e : ∀ b, hT (.node b 0 t l .nil) = 1 + hT l := fun b => by simp [hT]
      rw [e]
      rcases hb with rfl | rfl
      · exact hgt_pre _ (ihl hl (by omega)) (by omega)
      · exact hgt_post _ (ihl hl (by omega)) (by omega)
    · exact hgt_inf _ (ihl hl (by omega)) (ihr hr (by omega)) (by omega) (by omega)

theorem lev_tree (ns : List OpR) : ∀ T : ET, GoodT ns T → LevIs (exT ns T) (lvT ns T) := by
  intro T hg
  cases T with
  | nil => exact hg.elim
  | node b o t l r =>
    rcases hg with ⟨rfl, ⟨hb, rfl, rfl⟩ | ⟨rfl, rfl, hl, rfl⟩ | ⟨hb, hk, hl, rfl, _⟩ | ⟨rfl, hk, hl, hr, _⟩⟩
    · have e : lvT ns (.node b 0 t .nil .nil) = 1001 := lv_closed ns b t (by omega)
      rw [e]
      rcases hb with rfl | rfl
      · exact lev_num t
      · exact lev_name t
    · have e : lvT ns (.node 6 0 ByteArray.empty l .nil) = 1001 := lv_closed ns 6 _ (by omega)
      rw [e]
      exact lev_grp _
    · have e : lvT ns (.node b 0 t l .nil) = (opA ns (rt b t)).l := sLv_op (by omega) hk
      rw [e]
      rcases hb with rfl | rfl
      · exact lev_pre _ _
      · exact lev_post _ _
    · have e : lvT ns (.node 4 0 t l r) = (opA ns (rt 4 t)).l := sLv_op (by omega) hk
      rw [e]
      exact lev_inf _ _ _

theorem opA_text {ns : List OpR} {b : Nat} {t : ByteArray} (hk : knB ns (b, t) = true) : (opA ns (rt b t)).s = t := by
  obtain ⟨j, _, hj, _, e⟩ := sy_at hk
  rw [e]
  exact (fnd_some hj).2.1

theorem app_tree (ns : List OpR) : ∀ T : ET, GoodT ns T → AppIs (exT ns T) (nd T) := by
  intro T
  induction T with
  | nil => intro h; exact h.elim
  | node b o t l r ihl ihr =>
    intro hg
    rcases hg with ⟨rfl, ⟨hb, rfl, rfl⟩ | ⟨rfl, rfl, hl, rfl⟩ | ⟨hb, hk, hl, rfl, _⟩ | ⟨rfl, hk, hl, hr, _⟩⟩
    · rcases hb with rfl | rfl
      · exact app_num t
      · exact app_name t
    · have e : nd (.node 6 0 ByteArray.empty l .nil) = overF (nd l) 6 ByteArray.empty := by
        funext s
        simp [nd, overF, tN, nd_len, kids, tsz]
      rw [e]
      exact app_grp (ihl hl)
    · have hs := opA_text hk
      rcases hb with rfl | rfl
      · have e : nd (.node 3 0 t l .nil) = overF (nd l) 3 (opA ns (rt 3 t)).s := by
          funext s
          simp [nd, overF, tN, nd_len, kids, tsz, hs]
        rw [e]
        exact app_pre (ihl hl) _
      · have e : nd (.node 5 0 t l .nil) = overF (nd l) 5 (opA ns (rt 5 t)).s := by
          funext s
          simp [nd, overF, tN, nd_len, kids, tsz, hs]
        rw [e]
        exact app_post (ihl hl) _
    · have hs := opA_text hk
      have e : nd (.node 4 0 t l r) = bothF (nd l) (nd r) (opA ns (rt 4 t)).s := by
        funext s
        simp [nd, bothF, tN, nd_len, kids, tsz, hs]
      rw [e]
      exact app_inf (ihl hl) (ihr hr) _
end Go.Proofs.YtfboipappaonhaaGreat

/-
  Walk: the specification's height of a tree.
-/
namespace Go.Proofs.YtfboipappaonhaaGreat
set_option maxRecDepth 100000
set_option linter.unusedSimpArgs false
set_option linter.unusedVariables false
open Go.RowKit

/-- The heights of a tree's nodes. -/
def hL : ET → List Int
  | .nil => []
  | .node _ _ _ l r => hL l ++ hL r ++ [((1 + max (hT l) (hT r) : Nat) : Int)]

theorem hL_len : ∀ T : ET, (hL T).length = tsz T
  | .nil => rfl
  | .node _ _ _ l r => by simp [hL, tsz, hL_len l, hL_len r]; omega

theorem atI_app {a b : List Int} {i : Nat} (h : i < a.length) : atI (a ++ b) i = atI a i := by
  simp [atI, List.getD, List.getElem?_append, h]
theorem atI_app2 {a b : List Int} {i : Nat} (h : a.length ≤ i) : atI (a ++ b) i = atI b (i - a.length) := by
  simp [atI, List.getD, List.getElem?_append_right h]
theorem atN_app1 {a b : List NodeR} {i : Nat} (h : i < a.length) : atN (a ++ b) i = atN a i := by
  simp [atN, List.getD, List.getElem?_append, h]
theorem atN_app2 {a b : List NodeR} {i : Nat} (h : a.length ≤ i) : atN (a ++ b) i = atN b (i - a.length) := by
  simp [atN, List.getD, List.getElem?_append_right h]

theorem hL_last : ∀ {T : ET}, Sh T → atI (hL T) (tsz T - 1) = (hT T : Int)
  | .nil, h => h.elim
  | .node b o t l r, _ => by
    have e : tsz (.node b o t l r : ET) - 1 = (hL l ++ hL r).length := by simp [tsz, hL_len]
    rw [e]
    simp only [hL, hT]
    rw [atI_app2 (Nat.le_refl _)]
    simp [atI]

/-- The height at a node, by those of its kids. -/
def HtAt (n : NodeR) (H : List Int) (s i : Nat) : Prop :=
  (kids n.k = 0 ∧ atI H i = 1) ∨ (kids n.k = 1 ∧ ∃ a, n.a = ((s + a : Nat) : Int) ∧ a < i ∧ atI H i = atI H a + 1) ∨
  (kids n.k = 2 ∧ ∃ a c, n.a = ((s + a : Nat) : Int) ∧ n.b = ((s + c : Nat) : Int) ∧ a < i ∧ c < i ∧ atI H i = max (atI H a) (atI H c) + 1)

theorem hL_at : ∀ (T : ET), Sh T → ∀ (s i : Nat), i < tsz T → HtAt (atN (nd T s) i) (hL T) s i
  | .nil, h, _, _, _ => h.elim
  | .node b o t l r, h, s, i, hi => by
    simp only [tsz] at hi
    have el := hL_len l
    have er := hL_len r
    have nl := nd_len l s
    have nr := nd_len r (s + tsz l)
    by_cases h1 : i < tsz l
    · have hsl : Sh l := by
        rcases h.2 with ⟨_, rfl, _⟩ | ⟨_, hl, _⟩ | ⟨_, hl, _⟩
        · simp [tsz] at h1
        · exact hl
        · exact hl
      have ih := hL_at l hsl s i h1
      have en : atN (nd (.node b o t l r) s) i = atN (nd l s) i := by
        simp only [nd]; rw [List.append_assoc, atN_app1 (by omega)]
      have eH : ∀ k, k < tsz l → atI (hL (.node b o t l r)) k = atI (hL l) k := fun k hk => by
        simp only [hL]; rw [List.append_assoc, atI_app (by omega)]
      unfold HtAt
      rw [en]
      rcases ih with ⟨k0, e⟩ | ⟨k1, a, e1, e2, e3⟩ | ⟨k2, a, c, e1, e2, e3, e4, e5⟩
      · exact Or.inl ⟨k0, by rw [eH i h1]; exact e⟩
      · exact Or.inr (Or.inl ⟨k1, a, e1, e2, by rw [eH i h1, eH a (by omega)]; exact e3⟩)
      · exact Or.inr (Or.inr ⟨k2, a, c, e1, e2, e3, e4, by rw [eH i h1, eH a (by omega), eH c (by omega)]; exact e5⟩)
    · by_cases h2 : i < tsz l + tsz r
      · have hsr : Sh r := by
          rcases h.2 with ⟨_, rfl, rfl⟩ | ⟨_, hl, rfl⟩ | ⟨_, _, hr⟩
          · simp [tsz] at h2
          · simp [tsz] at h2; omega
          · exact hr
        have ih := hL_at r hsr (s + tsz l) (i - tsz l) (by omega)
        have en : atN (nd (.node b o t l r) s) i = atN (nd r (s + tsz l)) (i - tsz l) := by
          simp only [nd]; rw [List.append_assoc, atN_app2 (by omega), nl, atN_app1 (by omega)]
        have eH : ∀ k, k < tsz r → atI (hL (.node b o t l r)) (tsz l + k) = atI (hL r) k := fun k hk => by
          simp only [hL]; rw [List.append_assoc, atI_app2 (by omega), el, atI_app (by omega)]; congr 1; omega
        have ei : i = tsz l + (i - tsz l) := by omega
        unfold HtAt
        rw [en]
        rcases ih with ⟨k0, e⟩ | ⟨k1, a, e1, e2, e3⟩ | ⟨k2, a, c, e1, e2, e3, e4, e5⟩
        · exact Or.inl ⟨k0, by rw [ei, eH _ (by omega)]; exact e⟩
        · refine Or.inr (Or.inl ⟨k1, tsz l + a, by rw [e1]; congr 1; omega, by omega, ?_⟩)
          conv => lhs; rw [ei]
          rw [eH _ (by omega), eH a (by omega)]; exact e3
        · refine Or.inr (Or.inr ⟨k2, tsz l + a, tsz l + c, by rw [e1]; congr 1; omega, by rw [e2]; congr 1; omega, by omega, by omega, ?_⟩)
          conv => lhs; rw [ei]
          rw [eH _ (by omega), eH a (by omega), eH c (by omega)]; exact e5
      · have ei : i = tsz l + tsz r := by omega
        have en : atN (nd (.node b o t l r) s) i = tN b t l r s := by
          simp only [nd]; rw [atN_app2 (by simp; omega)]
          have : i - (nd l s ++ nd r (s + tsz l)).length = 0 := by simp; omega
          rw [this]; rfl
        have eI : atI (hL (.node b o t l r)) i = ((1 + max (hT l) (hT r) : Nat) : Int) := by
          simp only [hL]; rw [atI_app2 (by simp; omega)]
          have : i - (hL l ++ hL r).length = 0 := by simp; omega
          rw [this]; rfl
        unfold HtAt
        rw [en, eI]
        rcases h.2 with ⟨k0, rfl, rfl⟩ | ⟨k1, hl, rfl⟩ | ⟨k2, hl, hr⟩
        · exact Or.inl ⟨k0, rfl⟩
        · have hp := Sh.pos hl
          refine Or.inr (Or.inl ⟨k1, tsz l - 1, ?_, by omega, ?_⟩)
          · simp only [tN, k1]
            rw [if_neg (by decide)]
            omega
          · have e : atI (hL (.node b o t l .nil)) (tsz l - 1) = (hT l : Int) := by
              simp only [hL]; rw [List.append_assoc, atI_app (by omega)]; exact hL_last hl
            rw [e]
            simp only [hT]
            omega
        · have hp := Sh.pos hl
          have hp2 := Sh.pos hr
          refine Or.inr (Or.inr ⟨k2, tsz l - 1, tsz l + tsz r - 1, ?_, ?_, by omega, by omega, ?_⟩)
          · simp only [tN, k2]
            rw [if_neg (by decide)]
            omega
          · simp only [tN, k2]
            rw [if_pos trivial]
            omega
          · have e : atI (hL (.node b o t l r)) (tsz l - 1) = (hT l : Int) := by
              simp only [hL]; rw [List.append_assoc, atI_app (by omega)]; exact hL_last hl
            have e2 : atI (hL (.node b o t l r)) (tsz l + tsz r - 1) = (hT r : Int) := by
              simp only [hL]; rw [List.append_assoc, atI_app2 (by omega), el, atI_app (by omega)]
              have : tsz l + tsz r - 1 - tsz l = tsz r - 1 := by omega
              rw [this]
              exact hL_last hr
            rw [e, e2]
            omega
end Go.Proofs.YtfboipappaonhaaGreat

/-
  Walk: the specification's height of a tree.
-/
namespace Go.Proofs.YtfboipappaonhaaGreat
set_option maxRecDepth 100000
set_option linter.unusedSimpArgs false
set_option linter.unusedVariables false
open Go.RowKit

theorem take_succ_at {H : List Int} {k : Nat} (h : k < H.length) : H.take (k + 1) = H.take k ++ [atI H k] := by
  rw [List.take_add_one]
  simp [atI, List.getD, h]
theorem atI_take {H : List Int} {i k : Nat} (h : i < k) : atI (H.take k) i = atI H i := by
  simp [atI, List.getD, List.getElem?_take, h]

set_option maxHeartbeats 4000000 in
theorem l3Height_any (bn cn : Nat) (ns : List NodeR) (H : List Int) (w : World) (hw : OpsN w bn 0 ns) (hB : bn < w.heap.size) (hl : ns.length ≤ 100000) (h1 : 1 ≤ ns.length) (hH : H.length = ns.length) (hat : ∀ i, i < ns.length → HtAt (atN ns i) H 0 i) (hbd : ∀ i, i < ns.length → 0 ≤ atI H i ∧ atI H i ≤ 100000) :
    Calls Tryz.prog 35 #[.agg #[.slice (some ⟨bn, 0, none⟩) ns.length cn]] w fun e w' => e = .returned (.int .i64 (atI H (ns.length - 1))) ∧ Below w.heap.size w w' := by
  obtain ⟨i0, hi0, hz0, hz1, hz2⟩ := info_parts infoInt
  have HI0 := hide hi0
  have HZ0 := hide (And.intro hz0 (And.intro hz1 hz2))
  have HW := hide hw
  have HAT := hide hat
  have HBD := hide hbd
  have HLN := hide hH
  clear hi0 hz0 hz1 hz2 hw hat hbd hH
  have HO := hide (show ((w.alloc (.cells #[.slice (some ⟨bn, 0, none⟩) ns.length cn] 28)).alloc (.cells #[] 3)).ownsRow (w.heap.size + 1) 3 1 (.slice (some ⟨w.heap.size + 1, 0, none⟩) 0 0) 0 (cellsI []) by
    have h0 := World.ownsRow_lit (base := w.heap.size + 1) (e := 3) (size := 1) (w.alloc (.cells #[.slice (some ⟨bn, 0, none⟩) ns.length cn] 28)) #[] 0 (by simp) (Nat.zero_le _) rfl
    simpa [cellsI] using h0)
  have hb0 : Below (w.heap.size + 1) (w.alloc (.cells #[.slice (some ⟨bn, 0, none⟩) ns.length cn] 28)) ((w.alloc (.cells #[.slice (some ⟨bn, 0, none⟩) ns.length cn] 28)).alloc (.cells #[] 3)) := (below1 _ _).mono (by simp)
  go_enter Tryz.func35, Tryz.ntmps35
  go_wp2_with fail
  go_loopw [3, 4] (fun hv iv wr => ∃ (k go co : Nat), k ≤ ns.length ∧ iv = .int .i64 (k : Int) ∧ hv = .slice (some ⟨go, 0, none⟩) k co ∧ Hid (wr.ownsRow (w.heap.size + 1) 3 1 (.slice (some ⟨go, 0, none⟩) k co) k (cellsI (H.take k))) ∧ Hid (Below (w.heap.size + 1) (w.alloc (.cells #[.slice (some ⟨bn, 0, none⟩) ns.length cn] 28)) wr) ∧ w.heap.size + 1 < wr.heap.size) (fun _ iv _ => ns.length - (intOf iv).toNat)
  case atStart => exact ⟨0, w.heap.size + 1, 0, Nat.zero_le _, rfl, rfl, HO, hide hb0, by simp⟩
  case round =>
    clear HO hb0
    obtain ⟨k, go, co, hk, rfl, rfl, hown, hbel, hz⟩ := hrel
    have tc : wr.cell? ⟨w.heap.size, 0, none⟩ = some (.slice (some ⟨bn, 0, none⟩) ns.length cn) := by
      rw [(unhide hbel).cell (p := ⟨w.heap.size, 0, none⟩) (show w.heap.size < _ by omega)]; simp [go_sem]
    have hbw : Below w.heap.size w wr := (below1 _ _).trans ((unhide hbel).mono (by omega))
    have HFI := hide (show FilledI wr go (H.take k) (H.take k).length by
      have hlk : (H.take k).length = k := by rw [List.length_take, unhide HLN]; omega
      have ho := unhide hown
      refine (owns_filledI (base := w.heap.size + 1) (cap := co) (e := 3) ?_).2
      rw [hlk]; exact ho)
    have hlk : (H.take k).length = k := by rw [List.length_take, unhide HLN]; omega
    have HLK := hide hlk
    have hgo := (unhide hown).lt go rfl
    have HGO := hide hgo
    by_cases hlt : k < ns.length
    · have hltI : (k : Int) < (ns.length : Int) := by omega
      obtain ⟨a0, a1, a2, a3⟩ := ((unhide HW) k hlt).below hbw hB
      rw [Nat.zero_add] at a0 a1 a2 a3
      have hb1 := (unhide HBD) k hlt
      have hbn : bn < wr.heap.size := by have := hbw.size; omega
      have HTK := hide (take_succ_at (H := H) (k := k) (by rw [unhide HLN]; exact hlt))
      have HCL := hide (show ∀ i, i < k → wr.cell? ⟨go, i, none⟩ = some (.int .i64 (atI H i)) from fun i hi => by
        have := (unhide HFI).2.2 i (by rw [unhide HLK]; exact hi)
        rw [this, atI_take hi])
      rcases (unhide HAT) k hlt with ⟨k0, e⟩ | ⟨k1, a, e1, e2, e3⟩ | ⟨k2, a, c, e1, e2, e3, e4, e5⟩
      · have HKK := hide k0
        have HVE := hide e
        clear k0 e
        go_wp2_with (first | (go_at_call 55; refine (l3Kids_is (unhide HKK) 0 rfl _).mono ?_; rintro e w' ⟨rfl, hx⟩; obtain rfl := hx.symm) | (at_builtin; refine wpList_append_own _ rfl (.tmp 47) (.tmp 50) 79 rfl (w.heap.size + 1) 3 i0 _ 1 8 Tryz.underlying79 (unhide HI0) (unhide HZ0).1 (unhide HZ0).2.1 (unhide HZ0).2.2 rfl (by decide) _ k (cellsI (H.take k)) rfl (((unhide hown).alloc _).alloc _) ⟨wr.heap.size + 1, 0, none⟩ 1 1 (cellsI [1]) rfl rfl (by simpa using new_newsI (wr.alloc (.cells #[.int .i64 (atN ns k).k, .string (atN ns k).t, .int .i64 (atN ns k).a, .int .i64 (atN ns k).b] 81)) (1)) (cellsI_one _) ?b1 ?b2 ?b3 ?next))
        case b1 => unfold maxLen; omega
        case b2 => omega
        case b3 => simp; omega
        case next =>
          intro v4 w4 hown4 hgrow4 hnil4
          have hbel4 : Below (w.heap.size + 1) (w.alloc (.cells #[.slice (some ⟨bn, 0, none⟩) ns.length cn] 28)) w4 := (((unhide hbel).alloc (by omega) _).alloc (by simp; omega) _).grown hgrow4 (by simp; omega) (fun q hq => by have := (unhide HGO).1; simp [Value.ownBlock] at hq; omega)
          have z4 : w.heap.size + 1 < w4.heap.size := by have := hgrow4.size; simp at this; omega
          obtain ⟨g4, c4, rfl⟩ := owns_bval hown4 (by simp [hnil4])
          rw [← cellsI_append, ← unhide HVE, ← unhide HTK] at hown4
          have HO4 := hide hown4
          have HB4 := hide hbel4
          clear hown4 hgrow4 hnil4 hbel4
          go_wp2_with fail
          exact ⟨⟨k + 1, g4, c4, by omega, by go_num, rfl, HO4, HB4, z4⟩, by simp [intOf]; omega⟩
      · have HKK := hide k1
        have HVE := hide e3
        rw [Nat.zero_add] at e1
        have ca := (unhide HCL) a e2
        have hgl : go < wr.heap.size := (unhide HGO).2
        have hgn : go ≠ wr.heap.size := by omega
        have hba := (unhide HBD) a (by omega)
        obtain ⟨hba1, hba2⟩ := hba
        have haI : (a : Int) < (k : Int) := by omega
        rw [e1] at a2
        clear k1 e3 e1
        go_wp2_with (first | (go_at_call 55; refine (l3Kids_is (unhide HKK) 1 rfl _).mono ?_; rintro e w' ⟨rfl, hx⟩; obtain rfl := hx.symm) | (at_builtin; refine wpList_append_own _ rfl (.tmp 47) (.tmp 50) 79 rfl (w.heap.size + 1) 3 i0 _ 1 8 Tryz.underlying79 (unhide HI0) (unhide HZ0).1 (unhide HZ0).2.1 (unhide HZ0).2.2 rfl (by decide) _ k (cellsI (H.take k)) rfl (((unhide hown).alloc _).alloc _) ⟨wr.heap.size + 1, 0, none⟩ 1 1 (cellsI [atI H a + 1]) rfl rfl (by simpa using new_newsI (wr.alloc (.cells #[.int .i64 (atN ns k).k, .string (atN ns k).t, .int .i64 (a : Int), .int .i64 (atN ns k).b] 81)) (atI H a + 1)) (cellsI_one _) ?b1 ?b2 ?b3 ?next))
        case b1 => unfold maxLen; omega
        case b2 => omega
        case b3 => simp; omega
        case next =>
          intro v4 w4 hown4 hgrow4 hnil4
          have hbel4 : Below (w.heap.size + 1) (w.alloc (.cells #[.slice (some ⟨bn, 0, none⟩) ns.length cn] 28)) w4 := (((unhide hbel).alloc (by omega) _).alloc (by simp; omega) _).grown hgrow4 (by simp; omega) (fun q hq => by have := (unhide HGO).1; simp [Value.ownBlock] at hq; omega)
          have z4 : w.heap.size + 1 < w4.heap.size := by have := hgrow4.size; simp at this; omega
          obtain ⟨g4, c4, rfl⟩ := owns_bval hown4 (by simp [hnil4])
          rw [← cellsI_append, ← unhide HVE, ← unhide HTK] at hown4
          have HO4 := hide hown4
          have HB4 := hide hbel4
          clear hown4 hgrow4 hnil4 hbel4
          go_wp2_with fail
          exact ⟨⟨k + 1, g4, c4, by omega, by go_num, rfl, HO4, HB4, z4⟩, by simp [intOf]; omega⟩
      · have HKK := hide k2
        rw [Nat.zero_add] at e1 e2
        have ca := (unhide HCL) a e3
        have cc := (unhide HCL) c e4
        have hgl : go < wr.heap.size := (unhide HGO).2
        have hgn : go ≠ wr.heap.size := by omega
        obtain ⟨hba1, hba2⟩ := (unhide HBD) a (by omega)
        obtain ⟨hbc1, hbc2⟩ := (unhide HBD) c (by omega)
        have haI : (a : Int) < (k : Int) := by omega
        have hcI : (c : Int) < (k : Int) := by omega
        rw [e1] at a2
        rw [e2] at a3
        by_cases hg : atI H a < atI H c
        · have HVE := hide (show atI H k = atI H c + 1 by omega)
          clear k2 e5 e1 e2 hb1
          go_wp2_with (first | (go_at_call 55; refine (l3Kids_is (unhide HKK) 2 rfl _).mono ?_; rintro e w' ⟨rfl, hx⟩; obtain rfl := hx.symm) | (at_builtin; refine wpList_append_own _ rfl (.tmp 47) (.tmp 50) 79 rfl (w.heap.size + 1) 3 i0 _ 1 8 Tryz.underlying79 (unhide HI0) (unhide HZ0).1 (unhide HZ0).2.1 (unhide HZ0).2.2 rfl (by decide) _ k (cellsI (H.take k)) rfl (((unhide hown).alloc _).alloc _) ⟨wr.heap.size + 1, 0, none⟩ 1 1 (cellsI [atI H c + 1]) rfl rfl (by simpa using new_newsI (wr.alloc (.cells #[.int .i64 (atN ns k).k, .string (atN ns k).t, .int .i64 (a : Int), .int .i64 (c : Int)] 81)) (atI H c + 1)) (cellsI_one _) ?b1 ?b2 ?b3 ?next))
          case b1 => unfold maxLen; omega
          case b2 => omega
          case b3 => simp; omega
          case next =>
            intro v4 w4 hown4 hgrow4 hnil4
            have hbel4 : Below (w.heap.size + 1) (w.alloc (.cells #[.slice (some ⟨bn, 0, none⟩) ns.length cn] 28)) w4 := (((unhide hbel).alloc (by omega) _).alloc (by simp; omega) _).grown hgrow4 (by simp; omega) (fun q hq => by have := (unhide HGO).1; simp [Value.ownBlock] at hq; omega)
            have z4 : w.heap.size + 1 < w4.heap.size := by have := hgrow4.size; simp at this; omega
            obtain ⟨g4, c4, rfl⟩ := owns_bval hown4 (by simp [hnil4])
            rw [← cellsI_append, ← unhide HVE, ← unhide HTK] at hown4
            have HO4 := hide hown4
            have HB4 := hide hbel4
            clear hown4 hgrow4 hnil4 hbel4
            go_wp2_with fail
            exact ⟨⟨k + 1, g4, c4, by omega, by go_num, rfl, HO4, HB4, z4⟩, by simp [intOf]; omega⟩
        · have HVE := hide (show atI H k = atI H a + 1 by omega)
          clear k2 e5 e1 e2 hb1
          go_wp2_with (first | (go_at_call 55; refine (l3Kids_is (unhide HKK) 2 rfl _).mono ?_; rintro e w' ⟨rfl, hx⟩; obtain rfl := hx.symm) | (at_builtin; refine wpList_append_own _ rfl (.tmp 47) (.tmp 50) 79 rfl (w.heap.size + 1) 3 i0 _ 1 8 Tryz.underlying79 (unhide HI0) (unhide HZ0).1 (unhide HZ0).2.1 (unhide HZ0).2.2 rfl (by decide) _ k (cellsI (H.take k)) rfl (((unhide hown).alloc _).alloc _) ⟨wr.heap.size + 1, 0, none⟩ 1 1 (cellsI [atI H a + 1]) rfl rfl (by simpa using new_newsI (wr.alloc (.cells #[.int .i64 (atN ns k).k, .string (atN ns k).t, .int .i64 (a : Int), .int .i64 (c : Int)] 81)) (atI H a + 1)) (cellsI_one _) ?b1 ?b2 ?b3 ?next))
          case b1 => unfold maxLen; omega
          case b2 => omega
          case b3 => simp; omega
          case next =>
            intro v4 w4 hown4 hgrow4 hnil4
            have hbel4 : Below (w.heap.size + 1) (w.alloc (.cells #[.slice (some ⟨bn, 0, none⟩) ns.length cn] 28)) w4 := (((unhide hbel).alloc (by omega) _).alloc (by simp; omega) _).grown hgrow4 (by simp; omega) (fun q hq => by have := (unhide HGO).1; simp [Value.ownBlock] at hq; omega)
            have z4 : w.heap.size + 1 < w4.heap.size := by have := hgrow4.size; simp at this; omega
            obtain ⟨g4, c4, rfl⟩ := owns_bval hown4 (by simp [hnil4])
            rw [← cellsI_append, ← unhide HVE, ← unhide HTK] at hown4
            have HO4 := hide hown4
            have HB4 := hide hbel4
            clear hown4 hgrow4 hnil4 hbel4
            go_wp2_with fail
            exact ⟨⟨k + 1, g4, c4, by omega, by go_num, rfl, HO4, HB4, z4⟩, by simp [intOf]; omega⟩
    · have hltI : ¬ (k : Int) < (ns.length : Int) := by omega
      have e : k = ns.length := by omega
      subst e
      have hlast := (unhide HFI).2.2 (ns.length - 1) (by rw [unhide HLK]; omega)
      rw [atI_take (by omega)] at hlast
      have ec : ((ns.length : Int) - 1) = ((ns.length - 1 : Nat) : Int) := by omega
      have hs1 : ((ns.length : Int) - 1) < (ns.length : Int) := by omega
      have hs0 : (0 : Int) ≤ (ns.length : Int) - 1 := by omega
      have et : ((ns.length : Int) - 1).toNat = ns.length - 1 := by omega
      go_wp2_with fail
      go_ret
      exact ⟨rfl, hbw⟩
end Go.Proofs.YtfboipappaonhaaGreat
