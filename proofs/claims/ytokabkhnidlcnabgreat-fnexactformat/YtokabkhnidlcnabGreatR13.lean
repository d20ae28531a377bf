import Derived.Test.YtokabkhnidlcnabGreatR09
import Derived.Test.YtokabkhnidlcnabGreatR10
import Derived.Test.YtokabkhnidlcnabGreatR12

/-
  Walks: the height of the program's inner trees, and their nodes behind a row.
-/
namespace Go.Proofs.YtokabkhnidlcnabGreat
set_option maxRecDepth 100000
set_option linter.unusedSimpArgs false
set_option linter.unusedVariables false
open Go.RowKit

/-- The height of a tree. -/
def hT : ET → Nat
  | .nil => 0
  | .node _ _ _ l r => 1 + max (hT l) (hT r)

theorem hT_le : ∀ T : ET, hT T ≤ tsz T
  | .nil => Nat.le_refl _
  | .node _ _ _ l r => by
    have := hT_le l
    have := hT_le r
    simp only [hT, tsz]
    omega

/-- A value whose height is known. -/
def HgtIs (e : Value) (h : Nat) : Prop := ∃ T v f r, e = .iface T v ∧ (∀ w, (method 337 T v "loop.example/s0059/impl.height").run Tryz.prog w = .ok (f, r) w) ∧ (∀ a w, (callFunc f a).run Tryz.prog w = .ok (.enter f a) w) ∧
  ∀ w, Calls Tryz.prog f #[r] w fun x w' => x = .returned (.int .i64 (h : Int)) ∧ Below w.heap.size w w'

theorem leaf_height (t : ByteArray) (w : World) : Calls Tryz.prog 168 #[.agg #[.string t]] w fun x w' => x = .returned (.int .i64 ((1 : Nat) : Int)) ∧ Below w.heap.size w w' := by
  go_enter Tryz.func168, Tryz.ntmps168
  go_wp2_with fail
  go_ret
  exact ⟨rfl, by first | exact below1 _ _ | exact Below.refl _ _⟩

theorem single_height {e : Value} {h : Nat} (he : HgtIs e h) (hh : h ≤ 100000) (w : World) : Calls Tryz.prog 172 #[.agg #[e]] w fun x w' => x = .returned (.int .i64 ((1 + h : Nat) : Int)) ∧ Below w.heap.size w w' := by
  obtain ⟨T, v, f, r, rfl, hme, hcf, hcall⟩ := he
  have HC := hide hcall
  have e1 : ((1 + h : Nat) : Int) = 1 + (h : Int) := by omega
  clear hcall
  go_enter Tryz.func172, Tryz.ntmps172
  go_wp2_with fail
  refine ((unhide HC) _).mono ?_
  rintro x w1 ⟨rfl, hb1⟩
  go_wp2_with fail
  go_ret
  rw [e1]
  exact ⟨rfl, (below1 _ _).trans (hb1.mono (by simp))⟩

set_option maxHeartbeats 1000000 in
theorem infix_height {e e' : Value} {h h' : Nat} (p : OpR) (he : HgtIs e h) (he' : HgtIs e' h') (hh : h ≤ 100000) (hh' : h' ≤ 100000) (w : World) : Calls Tryz.prog 176 #[.agg #[.string p.s, .int .i64 p.k, .int .i64 p.l, .int .i64 p.sd, e, e']] w fun x w' => x = .returned (.int .i64 ((1 + max h h' : Nat) : Int)) ∧ Below w.heap.size w w' := by
  obtain ⟨T, v, f, r, rfl, hme, hcf, hcall⟩ := he
  obtain ⟨T', v', f', r', rfl, hme', hcf', hcall'⟩ := he'
  have HC := hide hcall
  have HC' := hide hcall'
  clear hcall hcall'
  go_enter Tryz.func176, Tryz.ntmps176
  go_wp2_with fail
  have HBC := hide ((below1 w (.cells #[.string p.s, .int .i64 p.k, .int .i64 p.l, .int .i64 p.sd, .iface T v, .iface T' v'] 172)).drew)
  have HSC := hide (show Cs [(w.heap.size, 4, .iface T v), (w.heap.size, 5, .iface T' v')] ((w.alloc (.cells #[.string p.s, .int .i64 p.k, .int .i64 p.l, .int .i64 p.sd, .iface T v, .iface T' v'] 172)).drew) from by
    intro x hx
    simp only [List.mem_cons, List.not_mem_nil, or_false] at hx
    rcases hx with rfl | rfl
    · simp [go_sem]
    · simp [go_sem])
  go_region_held (fun w' => w'.cell? ⟨w.heap.size, 4, none⟩ = some (.iface T v) ∧ w'.cell? ⟨w.heap.size, 5, none⟩ = some (.iface T' v')) (first | (go_keep; done) | exact ⟨(unhide HSC) (w.heap.size, 4, .iface T v) (by simp), (unhide HSC) (w.heap.size, 5, .iface T' v') (by simp)⟩)
    (first | ((with_reducible refine ((unhide HC) _).mono ?_); rintro x w1 ⟨rfl, hb1⟩; replace HSC := hide ((unhide HSC).below hb1); replace HBC := hide ((unhide HBC).trans (hb1.mono (unhide HBC).size)); clear hb1 HC) | ((with_reducible refine ((unhide HC') _).mono ?_); rintro x w1 ⟨rfl, hb1⟩; replace HSC := hide ((unhide HSC).below hb1); replace HBC := hide ((unhide HBC).trans (hb1.mono (unhide HBC).size)); clear hb1 HC'))
  have e1 : IntKind.i64.wrap (1 + max (h : Int) (h' : Int)) = ((1 + max h h' : Nat) : Int) := by
    rw [IntKind.wrap_i64]
    omega
  rw [e1]
  go_wp2_with fail
  go_ret
  exact ⟨rfl, unhide HBC⟩

theorem hgt_num (t : ByteArray) : HgtIs (eNum t) 1 := ⟨_, _, 168, .agg #[.string t], rfl, fun w => by kernel_rfl, fun a w => by kernel_rfl, leaf_height t⟩
theorem hgt_name (t : ByteArray) : HgtIs (eName t) 1 := ⟨_, _, 168, .agg #[.string t], rfl, fun w => by kernel_rfl, fun a w => by kernel_rfl, leaf_height t⟩
theorem hgt_grp {e : Value} {h : Nat} (he : HgtIs e h) (hh : h ≤ 100000) : HgtIs (eGrp e) (1 + h) := ⟨_, _, 172, .agg #[e], rfl, fun w => by kernel_rfl, fun a w => by kernel_rfl, single_height he hh⟩
theorem hgt_pre (p : OpR) {e : Value} {h : Nat} (he : HgtIs e h) (hh : h ≤ 100000) : HgtIs (ePre p e) (1 + h) := ⟨_, _, 172, .agg #[e], rfl, fun w => by kernel_rfl, fun a w => by kernel_rfl, single_height he hh⟩
theorem hgt_post (p : OpR) {e : Value} {h : Nat} (he : HgtIs e h) (hh : h ≤ 100000) : HgtIs (ePost p e) (1 + h) := ⟨_, _, 172, .agg #[e], rfl, fun w => by kernel_rfl, fun a w => by kernel_rfl, single_height he hh⟩
theorem hgt_inf (p : OpR) {e e' : Value} {h h' : Nat} (he : HgtIs e h) (he' : HgtIs e' h') (hh : h ≤ 100000) (hh' : h' ≤ 100000) : HgtIs (eInf p e e') (1 + max h h') := ⟨_, _, 176, _, rfl, fun w => by kernel_rfl, fun a w => by kernel_rfl, infix_height p he he' hh hh'⟩

theorem sLv_op {ns : List OpR} {b : Nat} {t : ByteArray} (hb : b = 3 ∨ b = 4 ∨ b = 5) (hk : knB ns (b, t) = true) : sLv ns (b, t) = (opA ns (rt b t)).l := by
  unfold knB at hk
  unfold sLv levN opA
  have hbk : 3 ≤ (rt b t).k ∧ (rt b t).k ≤ 5 := by simp only [rt]; omega
  simp only [if_pos hbk]
  have e : fnd ns (rt b t).t ((rt b t).k - 2) = fnd ns t ((b : Int) - 2) := rfl
  rw [e]
  cases h : fnd ns t ((b : Int) - 2) with
  | none => simp only [h] at hk; cases hk
  | some j => rfl

theorem hgt_tree (ns : List OpR) : ∀ T : ET, GoodT ns T → hT T ≤ 100000 → HgtIs (exT ns T) (hT T) := by
  intro T
  induction T with
  | nil => intro h; exact h.elim
  | node b o t l r ihl ihr =>
    intro hg hh
    simp only [hT] at hh
    rcases hg with ⟨rfl, ⟨hb, rfl, rfl⟩ | ⟨rfl, rfl, hl, rfl⟩ | ⟨hb, hk, hl, rfl, _⟩ | ⟨rfl, hk, hl, hr, _⟩⟩
    · rcases hb with rfl | rfl
      · exact hgt_num t
      · exact hgt_name t
    · have := hgt_grp (ihl hl (by omega)) (by omega)
      have e : hT (.node 6 0 ByteArray.empty l .nil) = 1 + hT l := by simp [hT]
      rw [e]; exact this
    · have e : ∀ b, hT (.node b 0 t l .nil) = 1 + hT l := fun b => by simp [hT]
      rw [e]
      rcases hb with rfl | rfl
      · exact hgt_pre _ (ihl hl (by omega)) (by omega)
      · exact hgt_post _ (ihl hl (by omega)) (by omega)
    · exact hgt_inf _ (ihl hl (by omega)) (ihr hr (by omega)) (by omega) (by omega)

theorem lev_tree (ns : List OpR) : ∀ T : ET, GoodT ns T → LevIs (exT ns T) (lvT ns T) := by
  intro T hg
  cases T with
  | nil => exact hg.elim
  | node b o t l r =>
    rcases hg with ⟨rfl, ⟨hb, rfl, rfl⟩ | ⟨rfl, rfl, hl, rfl⟩ | ⟨hb, hk, hl, rfl, _⟩ | ⟨rfl, hk, hl, hr, _⟩⟩
    · have e : lvT ns (.node b 0 t .nil .nil) = 1001 := lv_closed ns b t (by omega)
      rw [e]
      rcases hb with rfl | rfl
      · exact lev_num t
      · exact lev_name t
    · have e : lvT ns (.node 6 0 ByteArray.empty l .nil) = 1001 := lv_closed ns 6 _ (by omega)
      rw [e]
      exact lev_grp _
    · have e : lvT ns (.node b 0 t l .nil) = (opA ns (rt b t)).l := sLv_op (by omega) hk
      rw [e]
      rcases hb with rfl | rfl
      · exact lev_pre _ _
      · exact lev_post _ _
    · have e : lvT ns (.node 4 0 t l r) = (opA ns (rt 4 t)).l := sLv_op (by omega) hk
      rw [e]
      exact lev_inf _ _ _

theorem opA_text {ns : List OpR} {b : Nat} {t : ByteArray} (hk : knB ns (b, t) = true) : (opA ns (rt b t)).s = t := by
  obtain ⟨j, _, hj, _, e⟩ := sy_at hk
  rw [e]
  exact (fnd_some hj).2.1

theorem app_tree (ns : List OpR) : ∀ T : ET, GoodT ns T → AppIs (exT ns T) (nd T) := by
  intro T
  induction T with
  | nil => intro h; exact h.elim
  | node b o t l r ihl ihr =>
    intro hg
    rcases hg with ⟨rfl, ⟨hb, rfl, rfl⟩ | ⟨rfl, rfl, hl, rfl⟩ | ⟨hb, hk, hl, rfl, _⟩ | ⟨rfl, hk, hl, hr, _⟩⟩
    · rcases hb with rfl | rfl
      · exact app_num t
      · exact app_name t
    · have e : nd (.node 6 0 ByteArray.empty l .nil) = overF (nd l) 6 ByteArray.empty := by
        funext s
        simp [nd, overF, tN, nd_len, kids, tsz]
      rw [e]
      exact app_grp (ihl hl)
    · have hs := opA_text hk
      rcases hb with rfl | rfl
      · have e : nd (.node 3 0 t l .nil) = overF (nd l) 3 (opA ns (rt 3 t)).s := by
          funext s
          simp [nd, overF, tN, nd_len, kids, tsz, hs]
        rw [e]
        exact app_pre (ihl hl) _
      · have e : nd (.node 5 0 t l .nil) = overF (nd l) 5 (opA ns (rt 5 t)).s := by
          funext s
          simp [nd, overF, tN, nd_len, kids, tsz, hs]
        rw [e]
        exact app_post (ihl hl) _
    · have hs := opA_text hk
      have e : nd (.node 4 0 t l r) = bothF (nd l) (nd r) (opA ns (rt 4 t)).s := by
        funext s
        simp [nd, bothF, tN, nd_len, kids, tsz, hs]
      rw [e]
      exact app_inf (ihl hl) (ihr hr) _
end Go.Proofs.YtokabkhnidlcnabGreat

/-
  Rows of numbers.
-/
namespace Go.Proofs.YtokabkhnidlcnabGreat
set_option maxRecDepth 100000
open Go.RowKit

def atI (xs : List Int) (i : Nat) : Int := xs.getD i 0
def cellsI (l : List Int) : List Value := l.map fun n => .int .i64 n
theorem cellsI_len (l : List Int) : (cellsI l).length = l.length := by simp [cellsI]
theorem cellsI_append (l l' : List Int) : cellsI (l ++ l') = cellsI l ++ cellsI l' := by simp [cellsI]
theorem cellsI_one (l : List Int) : ∀ u ∈ cellsI l, u.oneCell' = true := by
  intro u hu
  simp only [cellsI, List.mem_map] at hu
  obtain ⟨b, _, rfl⟩ := hu
  rfl
theorem cellsI_at (l : List Int) (i : Nat) (h : i < l.length) : (cellsI l)[i]? = some (.int .i64 (atI l i)) := by
  simp [cellsI, atI, h]

/-- A row of numbers of which k lie there; all its cells may be written. -/
def FilledI (w : World) (g : Nat) (xs : List Int) (k : Nat) : Prop :=
  g < w.heap.size ∧ w.there g 0 xs.length ∧ ∀ i, i < k → w.cell? ⟨g, i, none⟩ = some (.int .i64 (atI xs i))

theorem FilledI.grown {w w' : World} {g k : Nat} {xs : List Int} {row : Option Nat} (h : FilledI w g xs k) (hg : w.grownBy w' row) (hne : some g ≠ row) : FilledI w' g xs k := by
  obtain ⟨h1, h2, h3⟩ := h
  have hb := hg.block g h1 hne
  have e : ∀ o, w'.cell? ⟨g, o, none⟩ = w.cell? ⟨g, o, none⟩ := fun o => World.cell?_of_block (w := w) hb
  have f : ∀ o, w'.frozen? ⟨g, o, none⟩ = w.frozen? ⟨g, o, none⟩ := fun o => World.frozen?_of_block (w := w) hb
  exact ⟨Nat.lt_of_lt_of_le h1 hg.size, fun j hj => ⟨by rw [e]; exact (h2 j hj).1, by rw [f]; exact (h2 j hj).2⟩, fun i hi => (e _).trans (h3 i hi)⟩

theorem FilledI.step {w w' : World} {g k : Nat} {xs : List Int} (h : FilledI w g xs k) (hb : Below w.heap.size w w') : FilledI w' g xs k := h.grown (grown_bel hb none) (by simp)

/-- A row that the call owns, as a filled one. -/
theorem owns_filledI {w : World} {base g cap : Nat} {e : TypeId} {zs : List Int} (h : w.ownsRow base e 1 (.slice (some ⟨g, 0, none⟩) zs.length cap) zs.length (cellsI zs)) : base ≤ g ∧ FilledI w g zs zs.length := by
  have hlt := h.lt g rfl
  refine ⟨hlt.1, hlt.2, fun j hj => ⟨?_, h.frozenAt _⟩, fun i hi => ?_⟩
  · rw [h.cellAt (0 + j) (by omega)]
    have : 0 + j < (cellsI zs).length := by rw [cellsI_len]; omega
    rw [List.getElem?_eq_getElem this]
    rfl
  · exact (h.cellAt i (by omega)).trans (cellsI_at zs i hi)

/-- A list of numbers that a call has made. -/
def OwnedI (w : World) (n : Nat) (a : Option Addr) (us : List Int) : Prop := (us.length = 0 ∧ a = none) ∨ ∃ g, a = some ⟨g, 0, none⟩ ∧ n ≤ g ∧ FilledI w g us us.length
def MarkedI (w : World) (a : Option Addr) (k n : Nat) : Prop := (n = 0 ∧ a = none) ∨ ∃ g, a = some ⟨g, 0, none⟩ ∧ FilledI w g ((List.range n).map fun i => ((k + i : Nat) : Int)) n

theorem OwnedI.grown {w w' : World} {n : Nat} {a : Option Addr} {us : List Int} {row : Option Nat} (h : OwnedI w n a us) (hg : w.grownBy w' row) (hr : ∀ k, row = some k → k < n) : OwnedI w' n a us := by
  rcases h with h | ⟨g, rfl, hn, hf⟩
  · exact Or.inl h
  · exact Or.inr ⟨g, rfl, hn, hf.grown hg (fun e => by have := hr g e.symm; omega)⟩
theorem OwnedI.step {w w' : World} {n : Nat} {a : Option Addr} {us : List Int} (h : OwnedI w n a us) (hb : Below w.heap.size w w') : OwnedI w' n a us :=
  h.grown (grown_bel hb none) (fun k hk => by cases hk)
theorem OwnedI.lt {w : World} {n : Nat} {a : Option Addr} {us : List Int} (h : OwnedI w n a us) : ∀ k, a.map (·.block) = some k → n ≤ k ∧ k < w.heap.size := by
  rcases h with ⟨_, rfl⟩ | ⟨g, rfl, hn, hf⟩
  · intro k hk; cases hk
  · intro k hk; injection hk with hk; subst hk; exact ⟨hn, hf.1⟩
theorem MarkedI.grown {w w' : World} {a : Option Addr} {k n : Nat} {row : Option Nat} (h : MarkedI w a k n) (hg : w.grownBy w' row) (hne : ∀ q, a.map (·.block) = some q → some q ≠ row) : MarkedI w' a k n := by
  rcases h with h | ⟨g, rfl, hf⟩
  · exact Or.inl h
  · exact Or.inr ⟨g, rfl, hf.grown hg (hne g rfl)⟩
theorem MarkedI.step {w w' : World} {a : Option Addr} {k n : Nat} (h : MarkedI w a k n) (hb : Below w.heap.size w w') : MarkedI w' a k n :=
  h.grown (grown_bel hb none) (fun q _ => by simp)

/-- Numbers that can be read: nil and empty, or their cells lie there. -/
def ArgI (w : World) (a : Option Addr) (us : List Int) : Prop := us.length = 0 ∨ ∃ g, a = some ⟨g, 0, none⟩ ∧ g < w.heap.size ∧ ∀ i, i < us.length → w.cell? ⟨g, i, none⟩ = some (.int .i64 (atI us i))
theorem FilledI.arg {w : World} {g : Nat} {us : List Int} (h : FilledI w g us us.length) : ArgI w (some ⟨g, 0, none⟩) us := Or.inr ⟨g, rfl, h.1, h.2.2⟩
theorem OwnedI.arg {w : World} {n : Nat} {a : Option Addr} {us : List Int} (h : OwnedI w n a us) : ArgI w a us := by
  rcases h with ⟨h, _⟩ | ⟨g, rfl, _, hf⟩
  · exact Or.inl h
  · exact hf.arg

end Go.Proofs.YtokabkhnidlcnabGreat

/-
  The root of a row of tokens, as the specification looks for it.
-/
namespace Go.Proofs.YtokabkhnidlcnabGreat
set_option maxRecDepth 100000
set_option linter.unusedSimpArgs false
set_option linter.unusedVariables false

theorem atI_roles {ns : List OpR} {ts : List TokR} {i n : Nat} (h : i < n) : atI (rolesTo ns ts n) i = roleTo ns ts i := by
  simp [atI, rolesTo, List.getD, h]

/-- What is known of a token that fits. -/
def TkF (ns : List OpR) (ts : List TokR) (i : Nat) : Prop :=
  ((atT ts i).k = 3 ∧ (1 ≤ roleTo ns ts i ∧ roleTo ns ts i ≤ 3) ∧ sgT ns ts i = ((roleTo ns ts i).toNat + 2, (atT ts i).t) ∧ ∃ j, fnd ns (atT ts i).t (roleTo ns ts i) = some j ∧ sLv ns (sgT ns ts i) = (atO ns j).l ∧ sSo ns (sgT ns ts i) = srt (atO ns j).k (atO ns j).sd) ∨
  ((atT ts i).k ≠ 3 ∧ roleTo ns ts i = 0 ∧ ¬ (3 ≤ (sgT ns ts i).1 ∧ (sgT ns ts i).1 ≤ 5))

theorem tk_op {ns : List OpR} {t : ByteArray} {r : Int} (h : hasB ns t r = true) (hr : 1 ≤ r ∧ r ≤ 3) : ∃ j, fnd ns t r = some j ∧ sLv ns (r.toNat + 2, t) = (atO ns j).l ∧ sSo ns (r.toNat + 2, t) = srt (atO ns j).k (atO ns j).sd := by
  have e : ((r.toNat + 2 : Nat) : Int) - 2 = r := by omega
  have hk := has_kn h e
  cases hf : fnd ns t r with
  | none =>
    unfold knB at hk
    rw [e, hf] at hk
    cases hk
  | some j =>
    have hA : opA ns (rt (r.toNat + 2) t) = atO ns j := by
      unfold opA
      simp only [rt]
      rw [e, hf]
    refine ⟨j, rfl, ?_, ?_⟩
    · rw [sLv_op (by omega) hk, hA]
    · unfold sSo
      simp only
      rw [hA]

theorem tkF_of {ns : List OpR} {ts : List TokR} {i : Nat} (hr : 0 ≤ roleTo ns ts i) : TkF ns ts i := by
  unfold TkF
  have key : ((atT ts i).k = 3 ∧ ((roleTo ns ts i = 1 ∧ hasB ns (atT ts i).t 1 = true) ∨ (roleTo ns ts i = 2 ∧ hasB ns (atT ts i).t 2 = true) ∨ (roleTo ns ts i = 3 ∧ hasB ns (atT ts i).t 3 = true))) ∨
      (((atT ts i).k = 1 ∨ (atT ts i).k = 2 ∨ (atT ts i).k = 4 ∨ (atT ts i).k = 5 ∨ (atT ts i).k = 7) ∧ roleTo ns ts i = 0) := by
    unfold roleTo at hr ⊢
    generalize atT ts i = t at hr ⊢
    generalize opTo ts i = op at hr ⊢
    generalize decide (i + 1 = ts.length) = la at hr ⊢
    generalize bhTo ns ts i = bh at hr ⊢
    cases bh
    · rw [roleOf_f] at hr ⊢
      by_cases k1 : t.k = 1 ∨ t.k = 2 ∨ t.k = 4
      · rw [if_pos k1]; exact Or.inr ⟨by omega, rfl⟩
      · rw [if_neg k1] at hr ⊢
        by_cases c : t.k = 3 ∧ hasB ns t.t 1 = true
        · rw [if_pos c]; exact Or.inl ⟨c.1, Or.inl ⟨rfl, c.2⟩⟩
        · rw [if_neg c] at hr; omega
    · rw [roleOf_t] at hr ⊢
      by_cases c2 : t.k = 3 ∧ hasB ns t.t 2 = true
      · rw [if_pos c2]; exact Or.inl ⟨c2.1, Or.inr (Or.inl ⟨rfl, c2.2⟩)⟩
      · rw [if_neg c2] at hr ⊢
        by_cases c3 : t.k = 3 ∧ hasB ns t.t 3 = true
        · rw [if_pos c3]; exact Or.inl ⟨c3.1, Or.inr (Or.inr ⟨rfl, c3.2⟩)⟩
        · rw [if_neg c3] at hr ⊢
          by_cases c5 : t.k = 5 ∧ 0 < op
          · rw [if_pos c5]; exact Or.inr ⟨by omega, rfl⟩
          · rw [if_neg c5] at hr ⊢
            by_cases c7 : t.k = 7 ∧ op = 0 ∧ la = true
            · rw [if_pos c7]; exact Or.inr ⟨by omega, rfl⟩
            · rw [if_neg c7] at hr; omega
  rcases key with ⟨k3, h⟩ | ⟨hk, h0⟩
  · left
    have es : sgT ns ts i = ((roleTo ns ts i).toNat + 2, (atT ts i).t) := by unfold sgT; rw [if_pos k3]
    have hb : hasB ns (atT ts i).t (roleTo ns ts i) = true ∧ 1 ≤ roleTo ns ts i ∧ roleTo ns ts i ≤ 3 := by
      rcases h with ⟨e, h⟩ | ⟨e, h⟩ | ⟨e, h⟩ <;> rw [e] <;> exact ⟨h, by decide, by decide⟩
    refine ⟨k3, hb.2, es, ?_⟩
    rw [es]
    exact tk_op hb.1 hb.2
  · right
    refine ⟨by omega, h0, ?_⟩
    unfold sgT
    rw [if_neg (by omega)]
    by_cases k4 : (atT ts i).k = 4
    · rw [if_pos k4]; decide
    · rw [if_neg k4]
      by_cases k5 : (atT ts i).k = 5
      · rw [if_pos k5]; decide
      · rw [if_neg k5]
        by_cases k7 : (atT ts i).k = 7
        · rw [if_pos k7]; decide
        · rw [if_neg k7]
          simp only
          omega

theorem tk_opS {ns : List OpR} {ts : List TokR} {i : Nat} (h : TkF ns ts i) (hk : 1 ≤ (atT ts i).k ∧ (atT ts i).k ≤ 7 ∧ (atT ts i).k ≠ 6) (op : Int) : opS op (sgT ns ts i) = op + (if (atT ts i).k = 4 then 1 else 0) - (if (atT ts i).k = 5 then 1 else 0) := by
  rcases h with ⟨k3, hr, es, _⟩ | ⟨k3, h0, hn⟩
  · rw [opS_leaf (by rw [es]; simp only; omega), if_neg (by omega), if_neg (by omega)]; omega
  · unfold sgT
    rw [if_neg k3]
    by_cases k4 : (atT ts i).k = 4
    · rw [if_pos k4, opS_open, if_pos k4, if_neg (by omega)]; omega
    · rw [if_neg k4]
      by_cases k5 : (atT ts i).k = 5
      · rw [if_pos k5, opS_close, if_neg k4, if_pos k5]; omega
      · rw [if_neg k5, if_neg k4, if_neg k5]
        by_cases k7 : (atT ts i).k = 7
        · rw [if_pos k7, opS_leaf (by decide)]; omega
        · rw [if_neg k7, opS_leaf (by simp only; omega)]; omega

theorem opS_bd (op : Int) (s : SyR) : op - 1 ≤ opS op s ∧ opS op s ≤ op + 1 := by
  unfold opS
  split <;> split <;> omega
theorem opL_bd : ∀ (ss : List SyR) (op : Int), op - (ss.length : Int) ≤ opL op ss ∧ opL op ss ≤ op + (ss.length : Int)
  | [], op => by simp [opL]
  | s :: r, op => by
    rw [opL_cons]
    have h1 := opL_bd r (opS op s)
    have h2 := opS_bd op s
    simp only [List.length_cons]
    omega

/-- The place of a root, -1 where there is none. -/
def rootI (x : Option (Nat × SyR)) : Int := match x with
  | none => -1
  | some x => (x.1 : Int)

theorem rt_step (ns : List OpR) (ts : List TokR) (a n : Nat) : rtF ns (sgs ns ts a (n + 1)) a 0 none = (if opS (opL 0 (sgs ns ts a n)) (sgT ns ts (a + n)) ≠ 0 ∨ ¬ (3 ≤ (sgT ns ts (a + n)).1 ∧ (sgT ns ts (a + n)).1 ≤ 5) then rtF ns (sgs ns ts a n) a 0 none else pickS ns (rtF ns (sgs ns ts a n) a 0 none) (a + n, sgT ns ts (a + n))) := by
  rw [sgs_last, rtF_append, sgs_len]
  rfl
theorem op_step (ns : List OpR) (ts : List TokR) (a n : Nat) : opL 0 (sgs ns ts a (n + 1)) = opS (opL 0 (sgs ns ts a n)) (sgT ns ts (a + n)) := by
  rw [sgs_last, opL_append]
  rfl

theorem sgs_get {ns : List OpR} {ts : List TokR} {a n : Nat} {L R : List SyR} {s : SyR} (h : sgs ns ts a n = L ++ s :: R) : s = sgT ns ts (a + L.length) ∧ L.length < n ∧ L = sgs ns ts a L.length ∧ R = sgs ns ts (a + L.length + 1) (n - L.length - 1) := by
  have hl := congrArg List.length h
  rw [sgs_len, List.length_append, List.length_cons] at hl
  have e : n = L.length + (R.length + 1) := by omega
  rw [e, sgs_add, sgs_succ] at h
  have h2 := List.append_inj h (by rw [sgs_len])
  injection h2.2 with h3 h4
  refine ⟨h3.symm, by omega, h2.1.symm, ?_⟩
  rw [← h4]
  congr 1
  omega

theorem rt_some {ns : List OpR} {ts : List TokR} {a n : Nat} {x : Nat × SyR} (h : rtF ns (sgs ns ts a n) a 0 none = some x) : a ≤ x.1 ∧ x.1 < a + n ∧ x.2 = sgT ns ts x.1 ∧ (3 ≤ x.2.1 ∧ x.2.1 ≤ 5) := by
  rcases rtF_some _ _ _ _ _ h with h | ⟨L, R, h1, h2, h3, _⟩
  · cases h
  · have := sgs_get h1
    refine ⟨by omega, by omega, ?_, h3⟩
    rw [h2]; exact this.1

/-- Roots by places of the text and of the row. -/
def shO (k : Nat) (x : Option (Nat × SyR)) : Option (Nat × SyR) := x.map (fun x => (x.1 + k, x.2))
theorem rtF_shift (ns : List OpR) (k : Nat) : ∀ (ss : List SyR) (i : Nat) (op : Int) (best : Option (Nat × SyR)), rtF ns ss (i + k) op (shO k best) = shO k (rtF ns ss i op best)
  | [], i, op, best => rfl
  | s :: r, i, op, best => by
    simp only [rtF]
    have e : i + k + 1 = (i + 1) + k := by omega
    rw [e]
    rw [← rtF_shift ns k r]
    congr 1
    split
    · rfl
    · cases best with
      | none => rfl
      | some b =>
        simp only [pickS, shO, Option.map]
        split <;> rfl
theorem rtF_at (ns : List OpR) (ss : List SyR) (a : Nat) : rtF ns ss a 0 none = shO a (rtF ns ss 0 0 none) := by
  have := rtF_shift ns a ss 0 0 none
  rw [Nat.zero_add] at this
  exact this
end Go.Proofs.YtokabkhnidlcnabGreat
