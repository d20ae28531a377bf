import Derived.Test.YtfboipappaonhaaGreatU27
import Derived.Test.YtfboipappaonhaaGreatU29

/-
  Well-formed trees over a table; what Group makes of them is admissible.
-/
namespace Go.Proofs.YtfboipappaonhaaGreat
set_option maxRecDepth 100000
set_option linter.unusedSimpArgs false
set_option linter.unusedVariables false
open Go.RowKit
open Go.Deep (BT)

/-- A tree over the table. -/
def WellT (ns : List OpR) : ET → Prop
  | .nil => False
  | .node b o t l r => o = 0 ∧ (((b = 1 ∨ b = 2) ∧ l = .nil ∧ r = .nil) ∨ (b = 6 ∧ t = ByteArray.empty ∧ WellT ns l ∧ r = .nil) ∨ ((b = 3 ∨ b = 5) ∧ knB ns (b, t) = true ∧ WellT ns l ∧ r = .nil) ∨ (b = 4 ∧ knB ns (b, t) = true ∧ WellT ns l ∧ WellT ns r))

theorem GoodT.well {ns : List OpR} : ∀ {T : ET}, GoodT ns T → WellT ns T
  | .nil, h => h
  | .node b o t l r, ⟨h0, h⟩ => by
    refine ⟨h0, ?_⟩
    rcases h with h | ⟨h1, h2, hl, h3⟩ | ⟨h1, h2, hl, h3, _⟩ | ⟨h1, h2, hl, hr, _⟩
    · exact Or.inl h
    · exact Or.inr (Or.inl ⟨h1, h2, hl.well, h3⟩)
    · exact Or.inr (Or.inr (Or.inl ⟨h1, h2, hl.well, h3⟩))
    · exact Or.inr (Or.inr (Or.inr ⟨h1, h2, hl.well, hr.well⟩))

theorem WellT.sh {ns : List OpR} : ∀ {T : ET}, WellT ns T → Sh T
  | .nil, h => h.elim
  | .node b o t l r, ⟨h0, h⟩ => by
    refine ⟨h0, ?_⟩
    rcases h with ⟨h | h, rfl, rfl⟩ | ⟨rfl, _, hl, rfl⟩ | ⟨h | h, _, hl, rfl⟩ | ⟨rfl, _, hl, hr⟩
    · subst h; exact Or.inl ⟨by decide, rfl, rfl⟩
    · subst h; exact Or.inl ⟨by decide, rfl, rfl⟩
    · exact Or.inr (Or.inl ⟨by decide, hl.sh, rfl⟩)
    · subst h; exact Or.inr (Or.inl ⟨by decide, hl.sh, rfl⟩)
    · subst h; exact Or.inr (Or.inl ⟨by decide, hl.sh, rfl⟩)
    · exact Or.inr (Or.inr ⟨by decide, hl.sh, hr.sh⟩)

theorem op_text {ns : List OpR} {b : Nat} {t : ByteArray} (h : knB ns (b, t) = true) : (opA ns (rt b t)).s = t := by
  obtain ⟨j, hj, hf, hk, ho⟩ := sy_at h
  rw [ho]
  exact (fnd_some hf).2.1

/-- A tree in order whose operators are known. -/
theorem well_lies {ns : List OpR} {xs : List NodeR} (htx : ∀ i, i < xs.length → TxtOk (atN xs i)) (hkn : Knows ns xs) : ∀ (T : ET) (s : Nat), Sh T → Lies xs T s → s + tsz T ≤ xs.length → WellT ns T := by
  intro T
  induction T with
  | nil => intro s h; exact h.elim
  | node b o t l r ihl ihr =>
    rintro s ⟨h0, hsh⟩ ⟨h1, h2, h3⟩ hz
    simp only [tsz] at hz
    have hi : s + tsz l + tsz r < xs.length := by omega
    have ht := htx _ hi
    have hk := hkn _ hi
    rw [h3] at ht hk
    have hk' : isOpN (tN b t l r s) → knB ns (b, t) = true := fun hop => by
      have := hk hop
      unfold knB
      cases e : fnd ns t ((b : Int) - 2) with
      | none => exact absurd e this
      | some j => rfl
    refine ⟨h0, ?_⟩
    rcases ht.2 with ⟨e, _⟩ | ⟨e, _⟩ | ⟨e, e2⟩ | ⟨e, _⟩
    · have e' : b = 1 := by simp only [tN] at e; omega
      subst e'
      rcases hsh with ⟨_, hl, hr⟩ | ⟨hk, _⟩ | ⟨hk, _⟩
      · exact Or.inl ⟨Or.inl rfl, hl, hr⟩
      · exact absurd hk (by decide)
      · exact absurd hk (by decide)
    · have e' : b = 2 := by simp only [tN] at e; omega
      subst e'
      rcases hsh with ⟨_, hl, hr⟩ | ⟨hk, _⟩ | ⟨hk, _⟩
      · exact Or.inl ⟨Or.inr rfl, hl, hr⟩
      · exact absurd hk (by decide)
      · exact absurd hk (by decide)
    · have e' : b = 6 := by simp only [tN] at e; omega
      subst e'
      rcases hsh with ⟨hk, _⟩ | ⟨_, hl, hr⟩ | ⟨hk, _⟩
      · exact absurd hk (by decide)
      · subst hr
        refine Or.inr (Or.inl ⟨rfl, ?_, ihl s hl h1 (by omega), rfl⟩)
        have : t.size = 0 := e2
        exact ByteArray.size_eq_zero_iff.1 this
      · exact absurd hk (by decide)
    · rcases e with e | e | e
      · have e' : b = 3 := by simp only [tN] at e; omega
        subst e'
        rcases hsh with ⟨hk, _⟩ | ⟨_, hl, hr⟩ | ⟨hk, _⟩
        · exact absurd hk (by decide)
        · subst hr
          exact Or.inr (Or.inr (Or.inl ⟨Or.inl rfl, hk' ⟨by simp [tN], by simp [tN]⟩, ihl s hl h1 (by omega), rfl⟩))
        · exact absurd hk (by decide)
      · have e' : b = 4 := by simp only [tN] at e; omega
        subst e'
        rcases hsh with ⟨hk, _⟩ | ⟨hk, _⟩ | ⟨_, hl, hr⟩
        · exact absurd hk (by decide)
        · exact absurd hk (by decide)
        · exact Or.inr (Or.inr (Or.inr ⟨rfl, hk' ⟨by simp [tN], by simp [tN]⟩, ihl s hl h1 (by omega), ihr _ hr h2 (by omega)⟩))
      · have e' : b = 5 := by simp only [tN] at e; omega
        subst e'
        rcases hsh with ⟨hk, _⟩ | ⟨_, hl, hr⟩ | ⟨hk, _⟩
        · exact absurd hk (by decide)
        · subst hr
          exact Or.inr (Or.inr (Or.inl ⟨Or.inr rfl, hk' ⟨by simp [tN], by simp [tN]⟩, ihl s hl h1 (by omega), rfl⟩))
        · exact absurd hk (by decide)

theorem well_of_ord {ns : List OpR} {xs : List NodeR} (h : InOrd xs) (hkn : Knows ns xs) : ∃ T, WellT ns T ∧ tsz T = xs.length ∧ xs = nd T 0 := by
  obtain ⟨T, hs, hz, hx⟩ := tree_of_ord h
  refine ⟨T, well_lies h.2.2.2 hkn T 0 hs (by rw [hx]; exact lies_self T) (by omega), hz, hx⟩

theorem well_grT {ns : List OpR} : ∀ (T : ET) (l : Int), WellT ns T → WellT ns (grT ns T l) := by
  intro T
  induction T with
  | nil => intro l h; exact h.elim
  | node b o t l r ihl ihr =>
    rintro least ⟨h0, h⟩
    simp only [grT]
    split
    · rename_i h6
      subst h6
      rcases h with ⟨h | h, _⟩ | ⟨_, _, hl, _⟩ | ⟨h | h, _⟩ | ⟨h, _⟩
      · omega
      · omega
      · exact ihl _ hl
      · omega
      · omega
      · omega
    · rename_i h6
      have : WellT ns (.node b 0 t (grT ns l (holeN ns (rt b t) false)) (grT ns r (holeN ns (rt b t) true))) := by
        refine ⟨rfl, ?_⟩
        rcases h with ⟨h, rfl, rfl⟩ | ⟨h, _⟩ | ⟨h, hk, hl, rfl⟩ | ⟨h, hk, hl, hr⟩
        · exact Or.inl ⟨h, rfl, rfl⟩
        · exact absurd h h6
        · exact Or.inr (Or.inr (Or.inl ⟨h, hk, ihl _ hl, rfl⟩))
        · exact Or.inr (Or.inr (Or.inr ⟨h, hk, ihl _ hl, ihr _ hr⟩))
      unfold clT
      split
      · exact ⟨rfl, Or.inr (Or.inl ⟨rfl, rfl, this, rfl⟩)⟩
      · exact this

/-- The tree anew is admissible, and fits into its hole. -/
theorem good_grT {ns : List OpR} (hv : IsCode ns 0) : ∀ (T : ET) (l : Int), WellT ns T → l ≤ 1001 → GoodT ns (grT ns T l) ∧ l ≤ lvT ns (grT ns T l) := by
  intro T
  induction T with
  | nil => intro l h; exact h.elim
  | node b o t l r ihl ihr =>
    rintro least ⟨h0, h⟩ hle
    simp only [grT]
    split
    · rename_i h6
      subst h6
      rcases h with ⟨h | h, _⟩ | ⟨_, _, hl, _⟩ | ⟨h | h, _⟩ | ⟨h, _⟩
      · omega
      · omega
      · exact ihl _ hl hle
      · omega
      · omega
      · omega
    · rename_i h6
      have : GoodT ns (.node b 0 t (grT ns l (holeN ns (rt b t) false)) (grT ns r (holeN ns (rt b t) true))) := by
        refine ⟨rfl, ?_⟩
        rcases h with ⟨h, rfl, rfl⟩ | ⟨h, _⟩ | ⟨h, hk, hl, rfl⟩ | ⟨h, hk, hl, hr⟩
        · exact Or.inl ⟨h, rfl, rfl⟩
        · exact absurd h h6
        · have f := opF hv (s := (b, t)) (by omega) hk
          have f1 := f.hi
          have f2 := f.pre
          have f3 := f.post
          have hh : holeN ns (rt b t) false ≤ 1001 := by
            show sH ns (b, t) false ≤ 1001
            rcases h with h | h
            · have := f2 h; omega
            · have := f3 h; omega
          obtain ⟨g, hg⟩ := ihl _ hl hh
          exact Or.inr (Or.inr (Or.inl ⟨h, hk, g, rfl, hg⟩))
        · have f := opF hv (s := (b, t)) (by omega) hk
          have f1 := f.hi
          have f2 := f.mid h
          have hh : holeN ns (rt b t) false ≤ 1001 := by show sH ns (b, t) false ≤ 1001; omega
          have hh2 : holeN ns (rt b t) true ≤ 1001 := by show sH ns (b, t) true ≤ 1001; omega
          obtain ⟨g, hg⟩ := ihl _ hl hh
          obtain ⟨g2, hg2⟩ := ihr _ hr hh2
          exact Or.inr (Or.inr (Or.inr ⟨h, hk, g, g2, hg, hg2⟩))
      unfold clT
      split
      · refine ⟨⟨rfl, Or.inr (Or.inl ⟨rfl, rfl, this, rfl⟩)⟩, ?_⟩
        simp only [lvT]
        rw [lv_closed ns 6 _ (by omega)]
        exact hle
      · rename_i hn
        refine ⟨this, ?_⟩
        simp only [lvT]
        show least ≤ levN ns (rt b t)
        omega
end Go.Proofs.YtfboipappaonhaaGreat

/-
  Heights within bounds.
-/
namespace Go.Proofs.YtfboipappaonhaaGreat
set_option maxRecDepth 100000
set_option linter.unusedSimpArgs false
set_option linter.unusedVariables false
open Go.RowKit

theorem hL_bd : ∀ (T : ET) (x : Int), x ∈ hL T → 0 ≤ x ∧ x ≤ (tsz T : Int)
  | .nil, x, h => by simp [hL] at h
  | .node b o t l r, x, h => by
    simp only [hL, List.mem_append, List.mem_singleton] at h
    simp only [tsz]
    rcases h with (h | h) | h
    · have := hL_bd l x h; omega
    · have := hL_bd r x h; omega
    · have := hT_le l
      have := hT_le r
      subst h
      omega
theorem hL_bdAt (T : ET) {i : Nat} (h : i < tsz T) : 0 ≤ atI (hL T) i ∧ atI (hL T) i ≤ (tsz T : Int) := by
  have hl := hL_len T
  refine hL_bd T _ ?_
  unfold atI
  rw [List.getD_eq_getElem?_getD, List.getElem?_eq_getElem (by omega)]
  exact List.getElem_mem _

end Go.Proofs.YtfboipappaonhaaGreat

/-
  Walk: the height of a tree (Height).
-/
namespace Go.Proofs.YtfboipappaonhaaGreat
set_option maxRecDepth 100000
set_option linter.unusedSimpArgs false
set_option linter.unusedVariables false
open Go.RowKit

set_option maxHeartbeats 1000000 in
theorem height_any (bn cn : Nat) (us : List NodeR) (T : ET) (w : World) (hS : Sh T) (hx : us = nd T 0) (hul : us.length ≤ 50000) (hw : OpsN w bn 0 us) (hB : bn < w.heap.size) :
    Calls Tryz.prog 12 #[.agg #[.slice (some ⟨bn, 0, none⟩) us.length cn]] w fun e w' => e = .returned (.int .i64 (hT T : Int)) ∧ Below w.heap.size w w' := by
  have htz : tsz T = us.length := by rw [hx, nd_len]
  have h1 : 1 ≤ us.length := by rw [← htz]; exact Sh.pos hS
  have hb := below1 w (.cells #[.slice (some ⟨bn, 0, none⟩) us.length cn] 28)
  have HX := hide (l3Height_any bn cn us (hL T) _ (hw.below hb hB) (Nat.lt_of_lt_of_le hB hb.size) (by omega) h1 (by rw [hL_len, htz]) (fun i hi => by rw [hx]; exact hL_at T hS 0 i (by omega)) (fun i hi => by have := hL_bdAt T (i := i) (by omega); omega))
  have hlast : atI (hL T) (us.length - 1) = (hT T : Int) := by rw [← htz]; exact hL_last hS
  rw [hlast] at HX
  obtain ⟨hh, hhe⟩ : ∃ hh, hh = hT T := ⟨_, rfl⟩
  rw [← hhe] at HX ⊢
  have HB := hide hb
  clear hlast hhe hx hw hb htz
  go_enter Tryz.func12, Tryz.ntmps12
  go_wp2_with fail
  (with_reducible refine (unhide HX).mono ?_)
  rintro e w1 ⟨rfl, hb1⟩
  have bel := (unhide HB).trans (hb1.mono (unhide HB).size)
  clear hb1 HX HB
  go_wp2_with fail
  go_ret
  exact ⟨rfl, bel⟩
end Go.Proofs.YtfboipappaonhaaGreat
