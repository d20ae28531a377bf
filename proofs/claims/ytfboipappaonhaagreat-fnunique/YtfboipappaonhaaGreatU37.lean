import Derived.Test.YtfboipappaonhaaGreatU21
import Derived.Test.YtfboipappaonhaaGreatU30
import Derived.Test.YtfboipappaonhaaGreatU31
import Derived.Test.YtfboipappaonhaaGreatU32
import Derived.Test.YtfboipappaonhaaGreatU36

/-
  The words of a tree are read again: which tree is read.
-/
namespace Go.Proofs.YtfboipappaonhaaGreat
set_option maxRecDepth 100000
set_option linter.unusedSimpArgs false
set_option linter.unusedVariables false
open Go.RowKit

theorem run_one {ns : List OpR} {st st' : Bool × Nat} {s : SyR} {r : List SyR} (h : auS ns st s = some st') : runS ns st (s :: r) = runS ns st' r := by
  simp only [runS, h]

theorem run_two {ns : List OpR} {a b : List SyR} {st st' : Bool × Nat} (h : runS ns st a = some st') : runS ns st (a ++ b) = runS ns st' b := by
  rw [runS_append, h]

/-- The signs of a tree fit. -/
theorem run_well {ns : List OpR} : ∀ (T : ET), WellT ns T → ∀ d, runS ns (false, d) (ySy T) = some (true, d) := by
  intro T
  induction T with
  | nil => intro h; exact h.elim
  | node b o t l r ihl ihr =>
    intro h d
    obtain ⟨rfl, ⟨hb, rfl, rfl⟩ | ⟨rfl, rfl, hl, rfl⟩ | ⟨hb, hk, hl, rfl⟩ | ⟨rfl, hk, hl, hr⟩⟩ := h
    · rw [ySy_leaf hb, run_one (au_leaf (s := (b, t)) hb)]; rfl
    · rw [ySy_grp, run_one au_open, run_two (ihl hl (d + 1)), run_one au_close]; rfl
    · rcases hb with rfl | rfl
      · rw [ySy_pre, run_one (au_pre (s := (3, t)) rfl hk), ihl hl d]
      · rw [ySy_post, run_two (ihl hl d), run_one (au_post (s := (5, t)) rfl hk)]; rfl
    · rw [ySy_mid, run_two (ihl hl d), run_one (au_mid (s := (4, t)) rfl hk), ihr hr d]

/-- The kind of a sign's token. -/
def tkK (b : Nat) : Nat := if b = 1 then 1 else if b = 2 then 2 else if b = 6 then 4 else if b = 7 then 5 else 3

theorem kn_has {ns : List OpR} {s : SyR} {k : Int} (h : knB ns s = true) (hk : k = (s.1 : Int) - 2) : hasB ns s.2 k = true := by
  obtain ⟨j, hj, _, h2, h3⟩ := sy_at h
  have ht := op_text (b := s.1) (t := s.2) h
  rw [h3] at ht
  rw [hasB_iff]
  exact ⟨j, hj, ht, by rw [h2, hk]⟩

/-- The tokens ts are those of the signs ss, and an end. -/
def ToksOf (ss : List SyR) (ts : List TokR) : Prop := ts.length = ss.length + 1 ∧ (atT ts ss.length).k = 7 ∧ ∀ i (h : i < ss.length), (atT ts i).k = (tkK ss[i].1 : Int) ∧ (atT ts i).t = ss[i].2

theorem toks_fit {ns : List OpR} (ha : Apart23 ns) {ss : List SyR} {ts : List TokR} (ht : ToksOf ss ts) (hs : Seg ns ss) : ∀ i, i ≤ ss.length → runS ns (false, 0) (ss.take i) = some (bhTo ns ts i, opTo ts i) ∧ FitTo ns ts i ∧ sgs ns ts 0 i = ss.take i
  | 0, _ => ⟨rfl, fun j hj => absurd hj (Nat.not_lt_zero j), rfl⟩
  | i + 1, hi => by
    obtain ⟨h1, h2, h3⟩ := toks_fit ha ht hs i (by omega)
    obtain ⟨hl, h7, hk⟩ := ht
    have hlt : i < ss.length := by omega
    obtain ⟨k1, k2⟩ := hk i hlt
    have e : ss.take (i + 1) = ss.take i ++ [ss[i]] := by rw [List.take_add_one, List.getElem?_eq_getElem hlt]; rfl
    have hrun : ∃ st', auS ns (bhTo ns ts i, opTo ts i) ss[i] = some st' := by
      have h := hs
      unfold Seg at h
      have e2 : ss = ss.take i ++ ss[i] :: ss.drop (i + 1) := by rw [List.getElem_cons_drop, List.take_append_drop]
      rw [e2, run_two h1] at h
      simp only [runS] at h
      cases ha' : auS ns (bhTo ns ts i, opTo ts i) ss[i] with
      | none => rw [ha'] at h; cases h
      | some st' => exact ⟨st', rfl⟩
    obtain ⟨st', hst⟩ := hrun
    have hlast : decide (i + 1 = ts.length) = false := by simp; omega
    generalize hs' : ss[i] = s at *
    have key : 0 ≤ roleTo ns ts i ∧ sgT ns ts i = s := by
      unfold sgT roleTo
      rw [hlast]
      generalize atT ts i = t at *
      generalize opTo ts i = op at *
      generalize bhTo ns ts i = bh at *
      cases bh
      · rw [roleOf_f]
        rcases au_false hst with ⟨c, _⟩ | ⟨c, hkn, _⟩ | ⟨rfl, _⟩
        · have hkk : t.k = (s.1 : Int) := by rw [k1]; rcases c with c | c <;> simp [tkK, c]
          rw [if_pos (by omega), if_neg (by omega), if_neg (by omega), if_neg (by omega), if_neg (by omega)]
          exact ⟨by decide, by rw [hkk, k2]; rfl⟩
        · have hkk : t.k = 3 := by rw [k1, c]; rfl
          have hh : hasB ns t.t 1 = true := by rw [k2]; exact kn_has hkn (by rw [c]; rfl)
          rw [if_neg (by omega), if_pos ⟨hkk, hh⟩, if_pos hkk]
          refine ⟨by decide, ?_⟩
          rw [k2]
          obtain ⟨s1, s2⟩ := s
          simp only at c
          rw [c]
          rfl
        · have hkk : t.k = 4 := by rw [k1]; rfl
          rw [if_pos (by omega), if_neg (by omega), if_pos hkk]
          exact ⟨by decide, rfl⟩
      · rw [roleOf_t]
        rcases au_true hst with ⟨c, hkn, _⟩ | ⟨c, hkn, _⟩ | ⟨rfl, hop, _⟩
        · have hkk : t.k = 3 := by rw [k1, c]; rfl
          have hh : hasB ns t.t 2 = true := by rw [k2]; exact kn_has hkn (by rw [c]; rfl)
          rw [if_pos ⟨hkk, hh⟩, if_pos hkk]
          refine ⟨by decide, ?_⟩
          rw [k2]
          obtain ⟨s1, s2⟩ := s
          simp only at c
          rw [c]
          rfl
        · have hkk : t.k = 3 := by rw [k1, c]; rfl
          have hh : hasB ns t.t 3 = true := by rw [k2]; exact kn_has hkn (by rw [c]; rfl)
          have hn : ¬ (t.k = 3 ∧ hasB ns t.t 2 = true) := fun x => ha t.t ⟨x.2, hh⟩
          rw [if_neg hn, if_pos ⟨hkk, hh⟩, if_pos hkk]
          refine ⟨by decide, ?_⟩
          rw [k2]
          obtain ⟨s1, s2⟩ := s
          simp only at c
          rw [c]
          rfl
        · have hkk : t.k = 5 := by rw [k1]; rfl
          rw [if_neg (by omega), if_neg (by omega), if_pos ⟨hkk, hop⟩, if_neg (by omega), if_neg (by omega), if_pos hkk]
          exact ⟨by decide, rfl⟩
    have hau := au_tok (ns := ns) (ts := ts) (i := i) (by omega) key.1
    rw [key.2] at hau
    refine ⟨?_, fun j hj => ?_, ?_⟩
    · rw [e, run_two h1, run_one hau]; rfl
    · by_cases x : j = i
      · rw [x]; exact key.1
      · exact h2 j (by omega)
    · rw [sgs_last, h3, e, Nat.zero_add, key.2]

theorem toks_all {ns : List OpR} (ha : Apart23 ns) {ss : List SyR} {ts : List TokR} (ht : ToksOf ss ts) (hs : Seg ns ss) : FitTo ns ts ts.length ∧ sgs ns ts 0 ts.length = ss ++ [eoS] ∧ ∀ j, j < ts.length → (atT ts j).k ≠ 6 := by
  obtain ⟨h1, h2, h3⟩ := toks_fit ha ht hs ss.length (Nat.le_refl _)
  obtain ⟨hl, h7, hk⟩ := ht
  rw [List.take_length] at h1 h3
  unfold Seg at hs
  rw [hs] at h1
  injection h1 with h1
  have hb : bhTo ns ts ss.length = true := (congrArg Prod.fst h1).symm
  have ho : opTo ts ss.length = 0 := (congrArg Prod.snd h1).symm
  have hr : 0 ≤ roleTo ns ts ss.length := by
    unfold roleTo
    rw [hb, ho, roleOf_t, show decide (ss.length + 1 = ts.length) = true by simp [hl], h7]
    simp
  refine ⟨fun j hj => ?_, ?_, fun j hj => ?_⟩
  · by_cases x : j = ss.length
    · rw [x]; exact hr
    · exact h2 j (by omega)
  · rw [hl, sgs_last, h3, Nat.zero_add]
    have : sgT ns ts ss.length = eoS := by
      unfold sgT
      rw [if_neg (by omega), if_neg (by omega), if_neg (by omega), if_pos h7]
    rw [this]
  · by_cases x : j = ss.length
    · rw [x, h7]; decide
    · rw [(hk j (by omega)).1]
      unfold tkK
      split
      · decide
      · split
        · decide
        · split
          · decide
          · split
            · decide
            · decide

theorem valid3 {ns : List OpR} (h : IsCode ns 0) : ¬ Pr 3 ns := by
  rcases h with ⟨h, _⟩ | ⟨_, ⟨h, _⟩ | ⟨_, ⟨h, _⟩ | ⟨h, _⟩⟩⟩
  · cases h
  · cases h
  · cases h
  · exact h

theorem nd_inj {T T' : ET} (h : Sh T) (h' : Sh T') (e : nd T 0 = nd T' 0) : T = T' := by
  rw [← treeOf_nd h, ← treeOf_nd h', e]

/-- What Parse answers of a text whose tokens are the signs of a tree. -/
theorem parse_words {ns : List OpR} (hv : IsCode ns 0) {s : ByteArray} (hs : s.size ≤ 20000) {T : ET} (hw : WellT ns T) {ts : List TokR} (hl : Lexed ns s 0 ts) (ht : ToksOf (ySy T) ts) {us : List NodeR} {c p : Int} (h : ParseIs ns s us c p) :
    (GoodT ns T → hT T ≤ 1000 → c = 0 ∧ us = nd T 0) ∧ (¬ GoodT ns T → c ≠ 0 ∨ us ≠ nd T 0) := by
  have hseg : Seg ns (ySy T) := run_well T hw 0
  have hap : Apart23 ns := apart_of (valid3 hv)
  obtain ⟨f1, f2, f3⟩ := toks_all hap ht hseg
  have hr : ReadIs ns ts us c p := by
    rcases h with ⟨h, _⟩ | ⟨_, ⟨h, _⟩ | ⟨_, ts', hl', h⟩⟩
    · exact absurd hv h
    · omega
    · have e := Lexed.one _ _ 0 hl' hl
      subst e
      rcases h with ⟨i, hi, h6, _⟩ | ⟨_, ⟨i, hi, _, hneg, _⟩ | ⟨_, h⟩⟩
      · exact absurd h6 (f3 i hi)
      · exact absurd (f1 i hi) (by omega)
      · exact h
  unfold ReadIs at hr
  rw [f2] at hr
  refine ⟨fun hg hh => ?_, fun hg => ?_⟩
  · have e := (rd_iff hv hseg T).1 ⟨hg, rfl⟩
    rw [e] at hr
    rcases hr with ⟨x, _⟩ | ⟨T', r, x, y⟩
    · cases x
    · injection x with x
      injection x with x1 x2
      subst x1
      rcases y with ⟨y, _⟩ | ⟨_, y1, y2, _⟩
      · omega
      · exact ⟨y2, y1⟩
  · rcases hr with ⟨_, _, rfl, _⟩ | ⟨T', r, x, ⟨_, _, rfl, _⟩ | ⟨_, rfl, rfl, _⟩⟩
    · exact Or.inl (by decide)
    · exact Or.inl (by decide)
    · refine Or.inr fun e => hg ?_
      have hr2 := rd_end hv hseg x
      simp only at hr2
      subst hr2
      have hg' := ((rd_iff hv hseg T').2 x).1
      have : T' = T := nd_inj hg'.sh hw.sh e
      rw [← this]
      exact hg'
end Go.Proofs.YtfboipappaonhaaGreat

/-
  The words of a tree: admissible trees, the text of a tree.
-/
namespace Go.Proofs.YtfboipappaonhaaGreat
set_option maxRecDepth 100000
set_option linter.unusedSimpArgs false
set_option linter.unusedVariables false
open Go.RowKit

theorem root_lev {ns : List OpR} {xs : List NodeR} {T : ET} {s : Nat} (h : Sh T) (hl : Lies xs T s) : levN ns (atN xs (s + tsz T - 1)) = lvT ns T := by
  cases T with
  | nil => exact h.elim
  | node b o t l r =>
    obtain ⟨_, _, h3⟩ := hl
    have e : s + tsz (.node b o t l r) - 1 = s + tsz l + tsz r := by simp only [tsz]; omega
    rw [e, h3]
    exact levN_rt ns _ b t rfl rfl

theorem hole_of {ns : List OpR} {b : Nat} {t : ByteArray} {j : Nat} (h : fnd ns t ((b : Int) - 2) = some j) (c : Bool) : sH ns (b, t) c = holeO ns j c := by
  unfold sH holeN rt
  simp only
  rw [h]

theorem fit_good {ns : List OpR} {xs : List NodeR} : ∀ (T : ET) (s : Nat), WellT ns T → Lies xs T s → ((∀ i, s ≤ i → i < s + tsz T → FitN ns xs i) ↔ GoodT ns T) := by
  intro T
  induction T with
  | nil => intro s h; exact h.elim
  | node b o t l r ihl ihr =>
    intro s hw hl
    have hsh := hw.sh
    obtain ⟨h1, h2, h3⟩ := hl
    obtain ⟨rfl, hw⟩ := hw
    have hz : tsz (.node b 0 t l r) = tsz l + tsz r + 1 := rfl
    have split : (∀ i, s ≤ i → i < s + tsz (.node b 0 t l r) → FitN ns xs i) ↔ (∀ i, s ≤ i → i < s + tsz l → FitN ns xs i) ∧ (∀ i, s + tsz l ≤ i → i < s + tsz l + tsz r → FitN ns xs i) ∧ FitN ns xs (s + tsz l + tsz r) := by
      rw [hz]
      refine ⟨fun h => ⟨fun i a c => h i a (by omega), fun i a c => h i (by omega) (by omega), h _ (by omega) (by omega)⟩, fun ⟨h1, h2, h3⟩ i a c => ?_⟩
      by_cases e1 : i < s + tsz l
      · exact h1 i a e1
      · by_cases e2 : i < s + tsz l + tsz r
        · exact h2 i (by omega) e2
        · have : i = s + tsz l + tsz r := by omega
          rw [this]; exact h3
    rw [split]
    have root : FitN ns xs (s + tsz l + tsz r) ↔ ∀ j, isOpN (tN b t l r s) → fnd ns t ((b : Int) - 2) = some j → holeO ns j false ≤ levN ns (atN xs (tN b t l r s).a.toNat) ∧ (kids (b : Int) = 1 ∨ holeO ns j true ≤ levN ns (atN xs (tN b t l r s).b.toNat)) := by
      unfold FitN
      rw [h3]
      exact Iff.rfl
    rcases hw with ⟨hb, rfl, rfl⟩ | ⟨rfl, rfl, wl, rfl⟩ | ⟨hb, hk, wl, rfl⟩ | ⟨rfl, hk, wl, wr⟩
    · refine ⟨fun _ => ⟨rfl, Or.inl ⟨hb, rfl, rfl⟩⟩, fun _ => ⟨fun i a c => by simp [tsz] at c; omega, fun i a c => by simp [tsz] at c; omega, root.2 fun j hop => ?_⟩⟩
      exfalso
      unfold isOpN tN at hop
      simp only at hop
      omega
    · rw [ihl s wl h1]
      refine ⟨fun h => ⟨rfl, Or.inr (Or.inl ⟨rfl, rfl, h.1, rfl⟩)⟩, fun h => ⟨?_, fun i a c => by simp [tsz] at c; omega, root.2 fun j hop => ?_⟩⟩
      · obtain ⟨_, ⟨h | h, _⟩ | ⟨_, _, h, _⟩ | ⟨h | h, _⟩ | ⟨h, _⟩⟩ := h
        · cases h
        · cases h
        · exact h
        · cases h
        · cases h
        · cases h
      · exfalso
        unfold isOpN tN at hop
        simp only at hop
        omega
    · rw [ihl s wl h1]
      obtain ⟨j, hj, hf, _, _⟩ := sy_at hk
      simp only at hf
      have hp := wl.sh.pos
      have hlev := root_lev (ns := ns) wl.sh h1
      have ka : kids (b : Int) = 1 := by rcases hb with rfl | rfl <;> decide
      have ea : (tN b t l .nil s).a.toNat = s + tsz l - 1 := by
        unfold tN
        simp only
        rw [if_neg (by rw [ka]; decide)]
        omega
      have hop : isOpN (tN b t l .nil s) := by
        unfold isOpN tN
        simp only
        rcases hb with rfl | rfl <;> decide
      constructor
      · rintro ⟨g, _, hr⟩
        have := (root.1 hr) j hop hf
        rw [ea, hlev, ← hole_of hf] at this
        exact ⟨rfl, Or.inr (Or.inr (Or.inl ⟨hb, hk, g, rfl, this.1⟩))⟩
      · rintro ⟨_, ⟨h | h, _⟩ | ⟨h, _⟩ | ⟨_, _, g, _, hh⟩ | ⟨h, _⟩⟩
        · omega
        · omega
        · omega
        · refine ⟨g, fun i a c => by simp [tsz] at c; omega, root.2 fun j' _ hf' => ?_⟩
          rw [hf] at hf'
          injection hf' with hf'
          subst hf'
          rw [ea, hlev, ← hole_of hf]
          exact ⟨hh, Or.inl ka⟩
        · omega
    · rw [ihl s wl h1, ihr (s + tsz l) wr h2]
      obtain ⟨j, hj, hf, _, _⟩ := sy_at hk
      simp only at hf
      have hp := wl.sh.pos
      have hq := wr.sh.pos
      have hlev := root_lev (ns := ns) wl.sh h1
      have hlev2 := root_lev (ns := ns) wr.sh h2
      have ea : (tN 4 t l r s).a.toNat = s + tsz l - 1 := by
        unfold tN
        simp only
        rw [if_neg (by decide)]
        omega
      have eb : (tN 4 t l r s).b.toNat = s + tsz l + tsz r - 1 := by
        unfold tN
        simp only
        rw [if_pos (by decide)]
        omega
      have hop : isOpN (tN 4 t l r s) := by
        unfold isOpN tN
        simp only
        decide
      constructor
      · rintro ⟨g, g', hr⟩
        have := (root.1 hr) j hop hf
        rw [ea, eb, hlev, hlev2, ← hole_of hf, ← hole_of hf] at this
        exact ⟨rfl, Or.inr (Or.inr (Or.inr ⟨rfl, hk, g, g', this.1, this.2.resolve_left (by decide)⟩))⟩
      · rintro ⟨_, ⟨h | h, _⟩ | ⟨h, _⟩ | ⟨h | h, _⟩ | ⟨_, _, g, g', hh, hh'⟩⟩
        · omega
        · omega
        · omega
        · omega
        · omega
        · refine ⟨g, g', root.2 fun j' _ hf' => ?_⟩
          rw [hf] at hf'
          injection hf' with hf'
          subst hf'
          rw [ea, eb, hlev, hlev2, ← hole_of hf, ← hole_of hf]
          exact ⟨hh, Or.inr hh'⟩

/-- The words of a tree. -/
theorem words_ok {ns : List OpR} {xs : List NodeR} (htx : ∀ i, i < xs.length → TxtOk (atN xs i)) : ∀ (T : ET) (s : Nat), WellT ns T → Lies xs T s → s + tsz T ≤ xs.length → ∀ q ∈ ySy T, WdK ns q.2 (tkK q.1) := by
  have hop : ∀ {b : Nat} {t : ByteArray}, knB ns (b, t) = true → opT ns t := fun {b t} hk => by
    obtain ⟨j, hj, _, _, h3⟩ := sy_at hk
    have := op_text hk
    simp only at h3
    rw [h3] at this
    exact ⟨j, hj, this⟩
  intro T
  induction T with
  | nil => intro s h; exact h.elim
  | node b o t l r ihl ihr =>
    rintro s hw ⟨h1, h2, h3⟩ hz
    simp only [tsz] at hz
    have ht := htx (s + tsz l + tsz r) (by omega)
    rw [h3] at ht
    obtain ⟨rfl, ⟨hb, rfl, rfl⟩ | ⟨rfl, rfl, wl, rfl⟩ | ⟨hb, hk, wl, rfl⟩ | ⟨rfl, hk, wl, wr⟩⟩ := hw
    · rw [ySy_leaf hb]
      intro q hq
      simp only [List.mem_singleton] at hq
      subst hq
      rcases ht.2 with ⟨e, h⟩ | ⟨e, h⟩ | ⟨e, _⟩ | ⟨e, _⟩
      · have : b = 1 := by simp only [tN] at e; omega
        subst this
        exact Or.inl ⟨rfl, h⟩
      · have : b = 2 := by simp only [tN] at e; omega
        subst this
        exact Or.inr (Or.inl ⟨rfl, h⟩)
      · simp only [tN] at e; omega
      · simp only [tN] at e; omega
    · rw [ySy_grp]
      intro q hq
      simp only [List.mem_cons, List.mem_append, List.not_mem_nil, or_false] at hq
      rcases hq with rfl | hq | rfl
      · exact Or.inr (Or.inr (Or.inr (Or.inl ⟨rfl, rfl⟩)))
      · exact ihl s wl h1 (by omega) q hq
      · exact Or.inr (Or.inr (Or.inr (Or.inr ⟨rfl, rfl⟩)))
    · rcases hb with rfl | rfl
      · rw [ySy_pre]
        intro q hq
        rcases List.mem_cons.1 hq with rfl | hq
        · exact Or.inr (Or.inr (Or.inl ⟨rfl, hop hk⟩))
        · exact ihl s wl h1 (by omega) q hq
      · rw [ySy_post]
        intro q hq
        rcases List.mem_append.1 hq with hq | hq
        · exact ihl s wl h1 (by omega) q hq
        · simp only [List.mem_singleton] at hq
          subst hq
          exact Or.inr (Or.inr (Or.inl ⟨rfl, hop hk⟩))
    · rw [ySy_mid]
      intro q hq
      rcases List.mem_append.1 hq with hq | hq
      · exact ihl s wl h1 (by omega) q hq
      · rcases List.mem_cons.1 hq with rfl | hq
        · exact Or.inr (Or.inr (Or.inl ⟨rfl, hop hk⟩))
        · exact ihr _ wr h2 (by omega) q hq

/-- The words with one blank between them. -/
def gwF (g : ByteArray) : List SyR → List GwR
  | [] => []
  | x :: r => ⟨g, x.2, tkK x.1⟩ :: gwF (one 32) r

theorem bl_one : Bl (one 32) := fun i hi => by
  have : i < 1 := hi
  obtain rfl : i = 0 := by omega
  decide

theorem spread_gw {ns : List OpR} : ∀ (ss : List SyR) (g : ByteArray), Bl g → (∀ q ∈ ss, WdK ns q.2 (tkK q.1)) → Spread ns (gwF g ss) ByteArray.empty
  | [], g, _, _ => fun i hi => by simp at hi
  | x :: r, g, hg, h => by
    refine ⟨hg, h x (by simp), ?_, spread_gw r (one 32) bl_one (fun q hq => h q (by simp [hq]))⟩
    cases r with
    | nil => intro hz; simp [gwF, spr] at hz
    | cons y r =>
      intro _
      have : bt (spr (gwF (one 32) (y :: r)) ByteArray.empty) 0 = 32 := by
        show bt (one 32 ++ _) 0 = 32
        rw [bt_app_l (by rw [one_size]; omega), one_bt]
      rw [this]
      exact ⟨fun _ => by decide, fun _ => by decide⟩

/-- The text of signs. -/
def yTx (ss : List SyR) : ByteArray := spr (gwF ByteArray.empty ss) ByteArray.empty

theorem gwF_len : ∀ (ss : List SyR) (g : ByteArray), (gwF g ss).length = ss.length
  | [], _ => rfl
  | x :: r, g => by simp [gwF, gwF_len r]
theorem gwF_at : ∀ (ss : List SyR) (g : ByteArray) (i : Nat) (h : i < ss.length), ∃ g', (gwF g ss)[i]? = some ⟨g', ss[i].2, tkK ss[i].1⟩
  | [], _, i, h => by simp at h
  | x :: r, g, 0, h => ⟨g, rfl⟩
  | x :: r, g, i + 1, h => by
    obtain ⟨g', e⟩ := gwF_at r (one 32) i (by simpa using h)
    exact ⟨g', by simpa [gwF] using e⟩

theorem toks_gw (ss : List SyR) (g e : ByteArray) : ToksOf ss ((gwF g ss).map tokG ++ [⟨7, e, ⟨#[]⟩⟩]) := by
  have hl : ((gwF g ss).map tokG).length = ss.length := by rw [List.length_map, gwF_len]
  refine ⟨by rw [List.length_append, hl]; rfl, ?_, fun i h => ?_⟩
  · unfold atT
    rw [List.getD_eq_getElem?_getD, List.getElem?_append_right (by omega), hl, Nat.sub_self]
    rfl
  · obtain ⟨g', e'⟩ := gwF_at ss g i h
    have : atT ((gwF g ss).map tokG ++ [⟨7, e, ⟨#[]⟩⟩]) i = ⟨(tkK ss[i].1 : Int), g', ss[i].2⟩ := by
      unfold atT
      rw [List.getD_eq_getElem?_getD, List.getElem?_append_left (by omega), List.getElem?_map, e']
      rfl
    rw [this]
    exact ⟨rfl, rfl⟩

/-- Parse of the words of a tree. -/
theorem uniq {ns : List OpR} {xs : List NodeR} {c0 : Int} (h : TreeOkIs ns xs c0) (h0 : c0 ≠ 1) (h2 : c0 ≠ 2) : ∃ T, WellT ns T ∧ xs = nd T 0 ∧ tsz T = xs.length ∧ IsCode ns 0 ∧ (∀ q ∈ ySy T, WdK ns q.2 (tkK q.1)) ∧ (c0 = 0 ↔ GoodT ns T) ∧
    ∀ us c p, (yTx (ySy T)).size ≤ 20000 → ParseIs ns (yTx (ySy T)) us c p → (GoodT ns T → hT T ≤ 1000 → c = 0 ∧ us = xs) ∧ (¬ GoodT ns T → c ≠ 0 ∨ us ≠ xs) := by
  rcases h with ⟨_, h⟩ | ⟨hv, ⟨_, h⟩ | ⟨⟨ho, hk⟩, h⟩⟩
  · exact absurd h h0
  · exact absurd h h2
  obtain ⟨T, hw, hz, hx⟩ := well_of_ord ho hk
  have hl : Lies xs T 0 := by rw [hx]; exact lies_self T
  have hwd := words_ok (ns := ns) ho.2.2.2 T 0 hw hl (by omega)
  have hfg := fit_good T 0 hw hl
  have hsv : SignTexts ns := signTexts_of (valid_parts hv).1
  refine ⟨T, hw, hx, hz, hv, hwd, ?_, fun us c p hs hp => ?_⟩
  · rw [← hfg]
    rcases h with ⟨h, rfl⟩ | ⟨h, rfl⟩
    · exact ⟨fun e => (by cases e), fun x => absurd (fun i hi => x i (Nat.zero_le _) (by omega)) h⟩
    · exact ⟨fun _ i _ hi => h i (by omega), fun _ => rfl⟩
  · have hlx := lexed_words hsv (gwF ByteArray.empty (ySy T)) ByteArray.empty (spread_gw (ySy T) ByteArray.empty (fun i hi => by simp at hi) hwd)
    have := parse_words hv hs hw hlx (toks_gw (ySy T) _ _) hp
    rw [hx]
    exact this
end Go.Proofs.YtfboipappaonhaaGreat

/-
  Walk: the text of the words of a tree (YieldText).
-/
namespace Go.Proofs.YtfboipappaonhaaGreat
set_option maxRecDepth 100000
set_option linter.unusedSimpArgs false
set_option linter.unusedVariables false
open Go.RowKit

/-- The bytes of the first words, with one blank between them. -/
def yTo (ws : List WordR) : Nat → List UInt8
  | 0 => []
  | k + 1 => (yTo ws k ++ (if k = 0 then [] else [32])) ++ (atW ws k).t.data.toList

def flR : List SyR → List UInt8
  | [] => []
  | x :: r => 32 :: (x.2.data.toList ++ flR r)

theorem flR_snoc : ∀ (l : List SyR) (x : SyR), flR (l ++ [x]) = flR l ++ (32 :: x.2.data.toList)
  | [], x => by simp [flR]
  | y :: l, x => by simp [flR, flR_snoc l x]

theorem spr_flR : ∀ (ss : List SyR), (spr (gwF (one 32) ss) ByteArray.empty).data.toList = flR ss
  | [] => rfl
  | x :: r => by
    show (one 32 ++ (x.2 ++ spr (gwF (one 32) r) ByteArray.empty)).data.toList = _
    rw [app_ls, app_ls, spr_flR r]
    rfl

theorem yTo_take (ss : List SyR) : ∀ k, k ≤ ss.length → yTo (ss.map wS) k = (match ss.take k with | [] => [] | x :: r => x.2.data.toList ++ flR r)
  | 0, _ => rfl
  | k + 1, hk => by
    have hlt : k < ss.length := by omega
    have ha : atW (ss.map wS) k = wS ss[k] := by simp [atW, List.getD_eq_getElem?_getD, hlt]
    simp only [yTo]
    rw [yTo_take ss k (by omega), ha, List.take_add_one, List.getElem?_eq_getElem hlt]
    show _ ++ (ss[k]).2.data.toList = _
    cases h : ss.take k with
    | nil =>
      have : k = 0 := by
        have := congrArg List.length h
        rw [List.length_take] at this
        simp only [List.length_nil] at this
        omega
      subst this
      simp [flR]
    | cons x r =>
      have : k ≠ 0 := fun e => by subst e; simp at h
      rw [if_neg this]
      simp [flR_snoc]

theorem yTx_bytes (ss : List SyR) : (yTx ss).data.toList = yTo (ss.map wS) ss.length := by
  rw [yTo_take ss ss.length (Nat.le_refl _), List.take_length]
  cases ss with
  | nil => rfl
  | cons x r =>
    show (ByteArray.empty ++ (x.2 ++ spr (gwF (one 32) r) ByteArray.empty)).data.toList = _
    rw [app_ls, app_ls, spr_flR]
    rfl

theorem yTo_len (ws : List WordR) (h : ∀ k, k < ws.length → (atW ws k).t.size ≤ 20000) : ∀ k, k ≤ ws.length → (yTo ws k).length ≤ 20001 * k
  | 0, _ => by simp [yTo]
  | k + 1, hk => by
    have := yTo_len ws h k (by omega)
    have hs : (atW ws k).t.data.toList.length ≤ 20000 := h k (by omega)
    simp only [yTo, List.length_append]
    split
    · simp only [List.length_nil]; omega
    · simp only [List.length_cons, List.length_nil]; omega

theorem new_newsY (w : World) (c : UInt8) : ∀ j u, (cellsB [c])[j]? = some u → (w.alloc (.cells #[.int .u8 (c.toNat : Int)] 5)).cell? ((⟨w.heap.size, 0, none⟩ : Addr).add j) = some u := by
  intro j u hj
  rw [Addr.add_mid]
  have := World.rangeAt_of_block (w := w.alloc (.cells #[.int .u8 (c.toNat : Int)] 5)) (b := w.heap.size) (heap_alloc_new w _) 0 1
  exact this j u (by simpa [cellsB] using hj)

set_option maxHeartbeats 4000000 in
theorem yieldText_any (bn offn cn : Nat) (ns : List OpR) (us : List NodeR) (T : ET) (w : World) (hw : WellT ns T) (hl : Lies us T 0) (hul : us.length = tsz T) (h20 : us.length ≤ 20000) (htx : TxB T) (hwn : OpsN w bn offn us) (hBn : bn < w.heap.size) :
    Calls Tryz.prog 22 #[.agg #[.slice (some ⟨bn, offn, none⟩) us.length cn]] w fun e w' => e = .returned (.string (yTx (ySy T))) ∧ Below w.heap.size w w' := by
  obtain ⟨i0, hi, hz0, hz1, hz2⟩ := info_parts infoByte
  have HI := hide hi
  have HZB := hide (And.intro hz0 (And.intro hz1 hz2))
  clear hi hz0 hz1 hz2
  have hgp := hw.sh.pos
  have hul1 : 1 ≤ us.length := by omega
  have ei : (us.length : Int) - 1 = ((us.length - 1 : Nat) : Int) := by omega
  obtain ⟨W3, HW3⟩ : ∃ W3, Hid (W3 = (w.alloc (.cells #[.slice (some ⟨bn, offn, none⟩) us.length cn] 28)).alloc (.cells #[] 54)) := ⟨_, hide rfl⟩
  have hb3 : Below w.heap.size w W3 := by rw [unhide HW3]; exact (below1 _ _).alloc (by simp) _
  have s3 : W3.heap.size = w.heap.size + 2 := by rw [unhide HW3]; simp
  have HR3 := hide (show RowW W3 (w.heap.size + 1) (.slice (some ⟨w.heap.size + 1, 0, none⟩) 0 0) [] by
    rw [unhide HW3]
    have := World.ownsRow_lit (base := w.heap.size + 1) (e := 54) (size := 3) (w.alloc (.cells #[.slice (some ⟨bn, offn, none⟩) us.length cn] 28)) #[] 0 (by simp) (Nat.zero_le _) rfl
    simpa [RowW, cellsW] using this)
  have hyl := ySy_le T
  have hrec := l4Yield_any bn offn cn ns us (w.heap.size + 1) (by omega) h20 T hw 0 [] (yT T) hl (by omega) (by simp; omega) (by simp)
  rw [Nat.zero_add, ← hul] at hrec
  have HCALL := hide (hrec (.slice (some ⟨w.heap.size + 1, 0, none⟩) 0 0) W3 (hwn.below hb3 hBn) (by omega) (unhide HR3))
  rw [unhide HW3] at HCALL
  obtain ⟨ws, HWS⟩ : ∃ ws, Hid (ws = yT T) := ⟨_, hide rfl⟩
  rw [← unhide HWS] at HCALL
  have hwl : ws.length ≤ 40000 := by rw [unhide HWS, yT_len]; omega
  have hwp : 1 ≤ ws.length := by rw [unhide HWS]; exact yT_pos hw.sh
  have HTX := hide (show yTx (ySy T) = ⟨(yTo ws ws.length).toArray⟩ by
    apply ba_ext
    rw [yTx_bytes, unhide HWS, yT_len]
    rfl)
  have HTS := hide (show ∀ k, k < ws.length → (atW ws k).t.size ≤ 20000 from fun k hk => by
    have hx : atW ws k ∈ ws := by simp [atW, List.getD, hk]
    rw [unhide HWS] at hx
    simp only [yT, List.mem_map] at hx
    obtain ⟨q, hq, e⟩ := hx
    have e' : wS q = atW ws k := by rw [unhide HWS]; exact e
    rw [← e']
    exact txB_words T htx q hq)
  have HTL := hide (yTo_len ws (unhide HTS))
  have HB3 := hide hb3
  rw [unhide HTX]
  clear hw hl hul htx hwn hgp hyl hrec HR3 HTX hb3
  go_enter Tryz.func22, Tryz.ntmps22
  go_wp2_with fail
  refine (unhide HCALL).mono ?_
  rw [← unhide HW3]
  rintro x w4 ⟨u', rfl, hr, hg, ho⟩
  obtain ⟨g4, c4, rfl⟩ : ∃ g k, u' = .slice (some ⟨g, 0, none⟩) ws.length k := by
    obtain ⟨_, ⟨rfl, h0⟩ | ⟨g, cap, cur, h, _⟩⟩ := unhide hr
    · omega
    · exact ⟨_, _, h⟩
  have HOW := hide (unhide hr).ops
  have hg4 := ((unhide hr).lt g4 rfl).2
  have bel4 : Below w.heap.size w w4 := (unhide HB3).trans ⟨(unhide hg).os, (unhide hg).tape, (unhide hg).output, (unhide hg).size, fun i hi => (unhide hg).block i (by omega) (by simp [Value.ownBlock]; omega)⟩
  clear hr hg ho HCALL HW3 HB3 s3
  have HO := hide (show (w4.alloc (.cells #[] 5)).ownsRow w4.heap.size 5 1 (.slice (some ⟨w4.heap.size, 0, none⟩) 0 0) 0 (cellsB (yTo ws 0)) by
    show (w4.alloc (.cells #[] 5)).ownsRow w4.heap.size 5 1 (.slice (some ⟨w4.heap.size, 0, none⟩) 0 0) 0 []
    simpa using World.ownsRow_lit (base := w4.heap.size) (e := 5) (size := 1) w4 #[] 0 (Nat.le_refl _) (Nat.zero_le _) rfl)
  go_wp2
  go_loopw [4, 5] (fun out i wr => ∃ (k go co n : Nat), k ≤ ws.length ∧ i = .int .i64 (k : Int) ∧ out = .slice (some ⟨go, 0, none⟩) n co ∧ Hid (n = (yTo ws k).length) ∧ Hid (wr.ownsRow w4.heap.size 5 1 (.slice (some ⟨go, 0, none⟩) n co) n (cellsB (yTo ws k))) ∧ Below w4.heap.size w4 wr) (fun _ i _ => ws.length - (intOf i).toNat)
  case atStart => exact ⟨0, w4.heap.size, 0, 0, Nat.zero_le _, rfl, rfl, hide rfl, HO, below1 _ _⟩
  case round =>
    clear HO
    obtain ⟨k, go, co, n, hk, rfl, rfl, hn, hown, hbel⟩ := hrel
    by_cases hlt : k < ws.length
    · obtain ⟨x0, x1, x2⟩ := ((unhide HOW).below hbel hg4) k hlt
      have hkI : (k : Int) < (ws.length : Int) := by omega
      obtain ⟨xt, hxt⟩ : ∃ xt, xt = (atW ws k).t := ⟨_, rfl⟩
      rw [← hxt] at x0
      have hts : xt.size ≤ 20000 := by rw [hxt]; exact (unhide HTS) k hlt
      have htl := (unhide HTL) k (by omega)
      rw [← unhide hn] at htl
      have hnb : n ≤ 800040000 := by omega
      have hgw : g4 < wr.heap.size := Nat.lt_of_lt_of_le hg4 hbel.size
      have hgo0 : go < wr.heap.size := ((unhide hown).lt go rfl).2
      have zwr := hbel.size
      have HBE := hide hbel
      clear htl x1 x2 hbel
      by_cases hk0 : k = 0
      · have HEQ := hide (show yTo ws (k + 1) = yTo ws k ++ xt.data.toList by simp only [yTo]; rw [if_pos hk0, ← hxt]; simp)
        obtain ⟨c1, w6, hrun1, hnew1, hb6⟩ := conv_bytes wr xt
        have HN1 := hide hnew1
        have HO6 := hide ((unhide hown).kept (grown_bel hb6 none) (Or.inr (by simp [Value.ownBlock])))
        have HB6 := hide ((unhide HBE).trans (hb6.mono zwr))
        have z6 := (unhide HB6).size
        clear hnew1 hb6 hown hxt HBE
        subst hk0
        go_wp2_with (at_builtin; refine wpList_append_own _ rfl (.tmp 26) (.tmp 32) 22 rfl w4.heap.size 5 i0 _ 1 1 Tryz.underlying22 (unhide HI) (unhide HZB).1 (unhide HZB).2.1 (unhide HZB).2.2 rfl (by decide) _ n (cellsB (yTo ws 0)) rfl (unhide HO6) ⟨wr.heap.size, 0, none⟩ xt.size c1 (cellsB xt.data.toList) rfl (by rw [cellsB_len]; simp) (unhide HN1) (cellsB_one _) ?b1 ?b2 ?b3 ?next)
        case b1 => unfold maxLen; omega
        case b2 => omega
        case b3 => exact z6
        case next =>
          intro v7 w7 hown7 hgrow7 hnil7
          have hgo := (unhide HO6).lt go rfl
          have hbel7 : Below w4.heap.size w4 w7 := (unhide HB6).grown hgrow7 z6 (fun q hq => by simp [Value.ownBlock] at hq; omega)
          obtain ⟨g7, q7, rfl⟩ := owns_bval hown7 (by simp [hnil7])
          rw [← cellsB_append, ← unhide HEQ] at hown7
          have HO7 := hide hown7
          have HL7 := hide (show n + xt.size = (yTo ws (0 + 1)).length by rw [unhide HEQ, List.length_append, ← unhide hn]; simp)
          clear hown7 hgrow7 hnil7 HN1 HO6 HB6 hrun1
          go_wp2
          exact ⟨⟨0 + 1, g7, q7, _, by omega, by go_num, rfl, HL7, HO7, hbel7⟩, by simp [intOf]; omega⟩
      · obtain ⟨tk, HTK⟩ : ∃ tk, Hid (tk = yTo ws k ++ [32]) := ⟨_, hide rfl⟩
        have HEQ := hide (show yTo ws (k + 1) = tk ++ xt.data.toList by simp only [yTo]; rw [if_neg hk0, ← hxt, unhide HTK])
        have ht1 : tk.length ≤ 800040001 := by rw [unhide HTK, List.length_append, ← unhide hn]; simp; omega
        have HTN := hide (show n + 1 = tk.length by rw [unhide HTK, List.length_append, ← unhide hn]; simp)
        have hkz : (0 : Int) < (k : Int) := by omega
        clear hxt
        go_wp2_with (at_builtin; refine wpList_append_own _ rfl (.tmp 23) (.tmp 24) 22 rfl w4.heap.size 5 i0 _ 1 1 Tryz.underlying22 (unhide HI) (unhide HZB).1 (unhide HZB).2.1 (unhide HZB).2.2 rfl (by decide) _ n (cellsB (yTo ws k)) rfl ((unhide hown).kept (grown_bel (below1 _ _) none) (Or.inr (by simp [Value.ownBlock]))) ⟨wr.heap.size, 0, none⟩ 1 1 (cellsB [32]) rfl rfl (new_newsY wr 32) (cellsB_one _) ?b1 ?b2 ?b3 ?next)
        case b1 => unfold maxLen; omega
        case b2 => omega
        case b3 => simp; omega
        case next =>
          intro v5 w5 hown5 hgrow5 hnil5
          have hgo := (unhide hown).lt go rfl
          have hbel5 : Below w4.heap.size w4 w5 := ((unhide HBE).alloc zwr _).grown hgrow5 (by simp; omega) (fun q hq => by simp [Value.ownBlock] at hq; omega)
          obtain ⟨g5, q5, rfl⟩ := owns_bval hown5 (by simp [hnil5])
          rw [← cellsB_append, ← unhide HTK] at hown5
          have hgr : go < wr.heap.size := hgo.2
          have y0 : w5.cell? ⟨g4, k * 3, none⟩ = some (.string xt) := hgrow5.cell (((below1 wr _).cell (p := ⟨g4, k * 3, none⟩) hgw).trans x0) (by simp [Value.ownBlock]; omega)
          obtain ⟨c1, w6, hrun1, hnew1, hb6⟩ := conv_bytes w5 xt
          have HN1 := hide hnew1
          have HO6 := hide (hown5.kept (grown_bel hb6 none) (Or.inr (by simp [Value.ownBlock])))
          have HB6 := hide (hbel5.trans (hb6.mono hbel5.size))
          have z6 := (unhide HB6).size
          clear hnew1 hb6 hown hown5 hgrow5 hnil5 hgo HBE x0
          go_wp2_with (at_builtin; refine wpList_append_own _ rfl (.tmp 26) (.tmp 32) 22 rfl w4.heap.size 5 i0 _ 1 1 Tryz.underlying22 (unhide HI) (unhide HZB).1 (unhide HZB).2.1 (unhide HZB).2.2 rfl (by decide) _ (n + 1) (cellsB tk) rfl (unhide HO6) ⟨w5.heap.size, 0, none⟩ xt.size c1 (cellsB xt.data.toList) rfl (by rw [cellsB_len]; simp) (unhide HN1) (cellsB_one _) ?b4 ?b5 ?b6 ?next2)
          case b4 => unfold maxLen; omega
          case b5 => omega
          case b6 => exact z6
          case next2 =>
            intro v7 w7 hown7 hgrow7 hnil7
            have hgo7 := (unhide HO6).lt g5 rfl
            have hbel7 : Below w4.heap.size w4 w7 := (unhide HB6).grown hgrow7 z6 (fun q hq => by simp [Value.ownBlock] at hq; omega)
            obtain ⟨g7, q7, rfl⟩ := owns_bval hown7 (by simp [hnil7])
            rw [← cellsB_append, ← unhide HEQ] at hown7
            have HO7 := hide hown7
            have HL7 := hide (show n + 1 + xt.size = (yTo ws (k + 1)).length by rw [unhide HEQ, List.length_append, ← unhide HTN]; simp)
            clear hown7 hgrow7 hnil7 HN1 HO6 HB6 hrun1 y0 hgo7
            go_wp2
            exact ⟨⟨k + 1, g7, q7, _, by omega, by go_num, rfl, HL7, HO7, hbel7⟩, by simp [intOf]; omega⟩
    · have hkx : k = ws.length := by omega
      have hcv := conv_string wr go n co (yTo ws k) (unhide hn) (owns_bcells (unhide hown))
      have HK := hide hkx
      have hltI : ¬ (k : Int) < (ws.length : Int) := by omega
      clear hkx
      go_wp2
      go_ret
      exact ⟨by rw [← unhide HK]; rfl, bel4.trans (hbel.mono bel4.size)⟩
end Go.Proofs.YtfboipappaonhaaGreat
