import Derived.Test.YtfboipappaonhaaGreatU21
import Derived.Test.YtfboipappaonhaaGreatU27

/-
  The plain mathematics of parsing: what the reader finds is admissible; rows of signs that fit.
-/
namespace Go.Proofs.YtfboipappaonhaaGreat
set_option maxRecDepth 100000
set_option linter.unusedSimpArgs false
set_option linter.unusedVariables false
open Go.RowKit
open Go.Deep (BT)

def opnB (s : SyR) : Bool := decide (s.1 = 6 ∧ s.2.data = opn.data)
def clsB (s : SyR) : Bool := decide (s.1 = 7 ∧ s.2.data = cls1.data)

theorem ba_eq {a b : ByteArray} (h : a.data = b.data) : a = b := by cases a; cases b; simp_all

theorem opnB_eq {s : SyR} (h : opnB s = true) : s = (6, opn) := by
  unfold opnB at h
  have := of_decide_eq_true h
  obtain ⟨a, b⟩ := s
  exact Prod.ext this.1 (ba_eq this.2)
theorem clsB_eq {s : SyR} (h : clsB s = true) : s = (7, cls1) := by
  unfold clsB at h
  have := of_decide_eq_true h
  obtain ⟨a, b⟩ := s
  exact Prod.ext this.1 (ba_eq this.2)

/-- One sign more: the state (behind an operand, the brackets that are open). -/
def auS (ns : List OpR) (st : Bool × Nat) (s : SyR) : Option (Bool × Nat) :=
  if st.1 = false then
    (if s.1 = 1 ∨ s.1 = 2 then some (true, st.2) else if s.1 = 3 ∧ knB ns s = true then some (false, st.2) else if opnB s = true then some (false, st.2 + 1) else none)
  else
    (if s.1 = 4 ∧ knB ns s = true then some (false, st.2) else if s.1 = 5 ∧ knB ns s = true then some (true, st.2) else if clsB s = true ∧ 0 < st.2 then some (true, st.2 - 1) else none)

def runS (ns : List OpR) : Bool × Nat → List SyR → Option (Bool × Nat)
  | st, [] => some st
  | st, s :: r => (match auS ns st s with
    | none => none
    | some st' => runS ns st' r)

theorem runS_append (ns : List OpR) : ∀ (a b : List SyR) (st : Bool × Nat), runS ns st (a ++ b) = (match runS ns st a with
    | none => none
    | some st' => runS ns st' b)
  | [], b, st => rfl
  | s :: r, b, st => by
    simp only [List.cons_append, runS]
    cases auS ns st s with
    | none => rfl
    | some st' => exact runS_append ns r b st'

/-- What one sign more says. -/
theorem au_false {ns : List OpR} {d : Nat} {s : SyR} {st : Bool × Nat} (h : auS ns (false, d) s = some st) :
    ((s.1 = 1 ∨ s.1 = 2) ∧ st = (true, d)) ∨ (s.1 = 3 ∧ knB ns s = true ∧ st = (false, d)) ∨ (s = (6, opn) ∧ st = (false, d + 1)) := by
  unfold auS at h
  simp only [if_true] at h
  split at h
  · injection h with h; exact Or.inl ⟨by assumption, h.symm⟩
  · split at h
    · rename_i hc; injection h with h; exact Or.inr (Or.inl ⟨hc.1, hc.2, h.symm⟩)
    · split at h
      · rename_i hc; injection h with h; exact Or.inr (Or.inr ⟨opnB_eq hc, h.symm⟩)
      · cases h

theorem au_true {ns : List OpR} {d : Nat} {s : SyR} {st : Bool × Nat} (h : auS ns (true, d) s = some st) :
    (s.1 = 4 ∧ knB ns s = true ∧ st = (false, d)) ∨ (s.1 = 5 ∧ knB ns s = true ∧ st = (true, d)) ∨ (s = (7, cls1) ∧ 0 < d ∧ st = (true, d - 1)) := by
  unfold auS at h
  simp only [Bool.true_eq_false, if_false] at h
  split at h
  · rename_i hc; injection h with h; exact Or.inl ⟨hc.1, hc.2, h.symm⟩
  · split at h
    · rename_i hc; injection h with h; exact Or.inr (Or.inl ⟨hc.1, hc.2, h.symm⟩)
    · split at h
      · rename_i hc; injection h with h; exact Or.inr (Or.inr ⟨clsB_eq hc.1, hc.2, h.symm⟩)
      · cases h

theorem au_leaf {ns : List OpR} {d : Nat} {s : SyR} (h : s.1 = 1 ∨ s.1 = 2) : auS ns (false, d) s = some (true, d) := by
  unfold auS
  simp only [if_true]
  rw [if_pos h]
theorem au_pre {ns : List OpR} {d : Nat} {s : SyR} (h : s.1 = 3) (hk : knB ns s = true) : auS ns (false, d) s = some (false, d) := by
  unfold auS
  simp only [if_true]
  rw [if_neg (by omega), if_pos ⟨h, hk⟩]
theorem au_open {ns : List OpR} {d : Nat} : auS ns (false, d) (6, opn) = some (false, d + 1) := by
  unfold auS
  simp [opnB]
theorem au_mid {ns : List OpR} {d : Nat} {s : SyR} (h : s.1 = 4) (hk : knB ns s = true) : auS ns (true, d) s = some (false, d) := by
  unfold auS
  simp only [Bool.true_eq_false, if_false]
  rw [if_pos ⟨h, hk⟩]
theorem au_post {ns : List OpR} {d : Nat} {s : SyR} (h : s.1 = 5) (hk : knB ns s = true) : auS ns (true, d) s = some (true, d) := by
  unfold auS
  simp only [Bool.true_eq_false, if_false]
  rw [if_neg (by omega), if_pos ⟨h, hk⟩]
theorem au_close {ns : List OpR} {d : Nat} : auS ns (true, d + 1) (7, cls1) = some (true, d) := by
  unfold auS
  simp [clsB]

/-- The end of a row. -/
def eoS : SyR := (8, ByteArray.empty)

/-- Signs that fit to the end. -/
def FitE (ns : List OpR) (st : Bool × Nat) (ss : List SyR) : Prop := ∃ q, ss = q ++ [eoS] ∧ runS ns st q = some (true, 0)

theorem fitE_nil {ns : List OpR} {st : Bool × Nat} (h : FitE ns st []) : False := by
  obtain ⟨q, h, _⟩ := h
  simp at h

theorem fitE_cons {ns : List OpR} {st : Bool × Nat} {s : SyR} {r : List SyR} (h : FitE ns st (s :: r)) : (s = eoS ∧ r = [] ∧ st = (true, 0)) ∨ ∃ st', auS ns st s = some st' ∧ FitE ns st' r := by
  obtain ⟨q, h, hr⟩ := h
  cases q with
  | nil =>
    simp only [List.nil_append] at h
    injection h with h1 h2
    simp only [runS, Option.some.injEq] at hr
    exact Or.inl ⟨h1, h2, hr⟩
  | cons a q =>
    rw [List.cons_append] at h
    injection h with h1 h2
    subst h1
    simp only [runS] at hr
    cases e : auS ns st s with
    | none => rw [e] at hr; cases hr
    | some st' => rw [e] at hr; exact Or.inr ⟨st', rfl, q, h2, hr⟩

theorem fitE_false {ns : List OpR} {d : Nat} {s : SyR} {r : List SyR} (h : FitE ns (false, d) (s :: r)) :
    ((s.1 = 1 ∨ s.1 = 2) ∧ FitE ns (true, d) r) ∨ (s.1 = 3 ∧ knB ns s = true ∧ FitE ns (false, d) r) ∨ (s = (6, opn) ∧ FitE ns (false, d + 1) r) := by
  rcases fitE_cons h with ⟨_, _, h⟩ | ⟨st', h1, h2⟩
  · cases h
  · rcases au_false h1 with ⟨a, rfl⟩ | ⟨a, b, rfl⟩ | ⟨a, rfl⟩
    · exact Or.inl ⟨a, h2⟩
    · exact Or.inr (Or.inl ⟨a, b, h2⟩)
    · exact Or.inr (Or.inr ⟨a, h2⟩)

theorem fitE_true {ns : List OpR} {d : Nat} {s : SyR} {r : List SyR} (h : FitE ns (true, d) (s :: r)) :
    (s = eoS ∧ r = [] ∧ d = 0) ∨ (s.1 = 4 ∧ knB ns s = true ∧ FitE ns (false, d) r) ∨ (s.1 = 5 ∧ knB ns s = true ∧ FitE ns (true, d) r) ∨ (s = (7, cls1) ∧ 0 < d ∧ FitE ns (true, d - 1) r) := by
  rcases fitE_cons h with ⟨h1, h2, h3⟩ | ⟨st', h1, h2⟩
  · simp only [Prod.mk.injEq, true_and] at h3
    exact Or.inl ⟨h1, h2, h3⟩
  · rcases au_true h1 with ⟨a, b, rfl⟩ | ⟨a, b, rfl⟩ | ⟨a, b, rfl⟩
    · exact Or.inr (Or.inl ⟨a, b, h2⟩)
    · exact Or.inr (Or.inr (Or.inl ⟨a, b, h2⟩))
    · exact Or.inr (Or.inr (Or.inr ⟨a, b, h2⟩))

/-- The signs of what is read already. -/
def yM : Option ET → List SyR
  | none => []
  | some T => ySy T

/-- What the reader finds is admissible. -/
theorem rd_sound {ns : List OpR} (hv : IsCode ns 0) : ∀ (n : Nat) (least : Int) (md : Option ET) (ss : List SyR) (d : Nat) (x : ET × List SyR), least ≤ 1001 → FitE ns (md.isSome, d) ss → (∀ L, md = some L → GoodT ns L ∧ least ≤ lvT ns L) → rd ns n least md ss = some x →
    FitE ns (true, d) x.2 ∧ GoodT ns x.1 ∧ least ≤ lvT ns x.1 ∧ StopS ns least x.2 ∧ yM md ++ ss = ySy x.1 ++ x.2
  | 0, _, _, _, _, _, _, _, _, h => by simp [rd] at h
  | n + 1, least, none, [], d, x, _, hf, _, h => (fitE_nil hf).elim
  | n + 1, least, some T, [], d, x, _, hf, _, h => (fitE_nil hf).elim
  | n + 1, least, none, s :: r, d, x, hl, hf, hm, h => by
    simp only [rd] at h
    rcases fitE_false hf with ⟨hs, hf'⟩ | ⟨hs, hk, hf'⟩ | ⟨hs, hf'⟩
    · rw [if_neg (by omega), if_neg (by omega)] at h
      have hlv : lvT ns (.node s.1 0 s.2 .nil .nil) = 1001 := lv_closed ns _ _ (by omega)
      have := rd_sound hv n least (some (.node s.1 0 s.2 .nil .nil)) r d x hl hf' (fun L e => by
        injection e with e; subst e
        exact ⟨⟨rfl, Or.inl ⟨hs, rfl, rfl⟩⟩, by omega⟩) h
      refine ⟨this.1, this.2.1, this.2.2.1, this.2.2.2.1, ?_⟩
      rw [← this.2.2.2.2]
      simp only [yM, ySy]
      rw [if_neg (by omega), if_neg (by omega), if_neg (by omega), if_neg (by omega)]
      rfl
    · rw [if_pos hs] at h
      have f := (opF hv (s := s) (Or.inl hs) hk)
      have fp := f.pre hs
      have fh := f.hi
      split at h
      · cases h
      · rename_i hlt
        split at h
        · cases h
        · rename_i y hy
          obtain ⟨a1, a2, a3, a4, a5⟩ := rd_sound hv n _ none r d y (by omega) hf' (fun L e => by cases e) hy
          have es : ((3, s.2) : SyR) = s := Prod.ext hs.symm rfl
          have hlv : lvT ns (.node 3 0 s.2 y.1 .nil) = sLv ns s := by simp only [lvT, es]
          have := rd_sound hv n least (some (.node 3 0 s.2 y.1 .nil)) y.2 d x hl a1 (fun L e => by
            injection e with e; subst e
            exact ⟨⟨rfl, Or.inr (Or.inr (Or.inl ⟨Or.inl rfl, by rw [es]; exact hk, a2, rfl, by rw [es]; exact a3⟩))⟩, by omega⟩) h
          refine ⟨this.1, this.2.1, this.2.2.1, this.2.2.2.1, ?_⟩
          rw [← this.2.2.2.2]
          simp only [yM, List.nil_append] at a5 ⊢
          rw [a5]
          simp [ySy, es]
    · subst hs
      simp only at h
      rw [if_neg (by decide), if_pos trivial] at h
      split at h
      · cases h
      · rename_i y hy
        obtain ⟨a1, a2, a3, a4, a5⟩ := rd_sound hv n 0 none r (d + 1) y (by omega) hf' (fun L e => by cases e) hy
        obtain ⟨T, q⟩ := y
        simp only at a1 a2 a3 a4 a5 h
        cases q with
        | nil => exact (fitE_nil a1).elim
        | cons z q =>
          have hz : z = (7, cls1) ∧ FitE ns (true, d) q := by
            rcases fitE_true a1 with ⟨_, _, h0⟩ | ⟨h4, hkk, _⟩ | ⟨h5, hkk, _⟩ | ⟨h7, _, h8⟩
            · omega
            · have := a4 z q rfl (Or.inl h4)
              have := (opF hv (s := z) (Or.inr (Or.inl h4)) hkk).lo
              omega
            · have := a4 z q rfl (Or.inr h5)
              have := (opF hv (s := z) (Or.inr (Or.inr h5)) hkk).lo
              omega
            · exact ⟨h7, h8⟩
          obtain ⟨rfl, hq⟩ := hz
          simp only [List.tail_cons] at h
          have hlv : lvT ns (.node 6 0 ByteArray.empty T .nil) = 1001 := lv_closed ns _ _ (by omega)
          have := rd_sound hv n least (some (.node 6 0 ByteArray.empty T .nil)) q d x hl hq (fun L e => by
            injection e with e; subst e
            exact ⟨⟨rfl, Or.inr (Or.inl ⟨rfl, rfl, a2, rfl⟩)⟩, by omega⟩) h
          refine ⟨this.1, this.2.1, this.2.2.1, this.2.2.2.1, ?_⟩
          rw [← this.2.2.2.2]
          simp only [yM, List.nil_append] at a5 ⊢
          rw [a5]
          simp [ySy]
  | n + 1, least, some T, s :: r, d, x, hl, hf, hm, h => by
    obtain ⟨hT, hTl⟩ := hm T rfl
    simp only [rd] at h
    have stop : (¬ (s.1 = 4 ∧ least ≤ sLv ns s)) → (¬ (s.1 = 5 ∧ least ≤ sLv ns s)) → FitE ns (true, d) x.2 ∧ GoodT ns x.1 ∧ least ≤ lvT ns x.1 ∧ StopS ns least x.2 ∧ yM (some T) ++ s :: r = ySy x.1 ++ x.2 := fun c1 c2 => by
      rw [if_neg c1, if_neg c2] at h
      injection h with h
      subst h
      refine ⟨hf, hT, hTl, fun s' r' e hs => ?_, rfl⟩
      injection e with e1 e2
      subst e1
      omega
    by_cases c1 : s.1 = 4 ∧ least ≤ sLv ns s
    · rw [if_pos c1] at h
      have hf4 : knB ns s = true ∧ FitE ns (false, d) r := by
        rcases fitE_true hf with ⟨h1, _⟩ | ⟨_, h1, h2⟩ | ⟨h1, _⟩ | ⟨h1, _⟩
        · rw [h1] at c1; exact absurd c1.1 (by decide)
        · exact ⟨h1, h2⟩
        · omega
        · rw [h1] at c1; exact absurd c1.1 (by decide)
      obtain ⟨hk, hf'⟩ := hf4
      have f := (opF hv (s := s) (Or.inr (Or.inl c1.1)) hk)
      have fp := f.mid c1.1
      have fh := f.hi
      split at h
      · cases h
      · rename_i hlt
        split at h
        · cases h
        · rename_i y hy
          obtain ⟨a1, a2, a3, a4, a5⟩ := rd_sound hv n _ none r d y (by omega) hf' (fun L e => by cases e) hy
          have es : ((4, s.2) : SyR) = s := Prod.ext c1.1.symm rfl
          have hlv : lvT ns (.node 4 0 s.2 T y.1) = sLv ns s := by simp only [lvT, es]
          have := rd_sound hv n least (some (.node 4 0 s.2 T y.1)) y.2 d x hl a1 (fun L e => by
            injection e with e; subst e
            exact ⟨⟨rfl, Or.inr (Or.inr (Or.inr ⟨rfl, by rw [es]; exact hk, hT, a2, by rw [es]; omega, by rw [es]; exact a3⟩))⟩, by omega⟩) h
          refine ⟨this.1, this.2.1, this.2.2.1, this.2.2.2.1, ?_⟩
          rw [← this.2.2.2.2]
          simp only [yM, List.nil_append] at a5 ⊢
          rw [a5]
          simp [ySy, es]
    · by_cases c2 : s.1 = 5 ∧ least ≤ sLv ns s
      · rw [if_neg c1, if_pos c2] at h
        have hf4 : knB ns s = true ∧ FitE ns (true, d) r := by
          rcases fitE_true hf with ⟨h1, _⟩ | ⟨h1, _⟩ | ⟨_, h1, h2⟩ | ⟨h1, _⟩
          · rw [h1] at c2; exact absurd c2.1 (by decide)
          · omega
          · exact ⟨h1, h2⟩
          · rw [h1] at c2; exact absurd c2.1 (by decide)
        obtain ⟨hk, hf'⟩ := hf4
        have f := (opF hv (s := s) (Or.inr (Or.inr c2.1)) hk)
        split at h
        · cases h
        · rename_i hlt
          have es : ((5, s.2) : SyR) = s := Prod.ext c2.1.symm rfl
          have hlv : lvT ns (.node 5 0 s.2 T .nil) = sLv ns s := by simp only [lvT, es]
          have := rd_sound hv n least (some (.node 5 0 s.2 T .nil)) r d x hl hf' (fun L e => by
            injection e with e; subst e
            exact ⟨⟨rfl, Or.inr (Or.inr (Or.inl ⟨Or.inr rfl, by rw [es]; exact hk, hT, rfl, by rw [es]; omega⟩))⟩, by omega⟩) h
          refine ⟨this.1, this.2.1, this.2.2.1, this.2.2.2.1, ?_⟩
          rw [← this.2.2.2.2]
          simp [yM, ySy, es]
      · exact stop c1 c2

/-- The one admissible tree of a row of signs. -/
theorem rd_iff {ns : List OpR} (hv : IsCode ns 0) {ss : List SyR} (hf : runS ns (false, 0) ss = some (true, 0)) (T : ET) : (GoodT ns T ∧ ySy T = ss) ↔ RD ns 0 none (ss ++ [eoS]) = some (T, [eoS]) := by
  constructor
  · rintro ⟨hT, rfl⟩
    have h0 : (0 : Int) ≤ lvT ns T := by
      cases T with
      | nil => exact hT.elim
      | node bb oo tt ll rr =>
        simp only [lvT]
        by_cases hb : bb = 3 ∨ bb = 4 ∨ bb = 5
        · have hkn : knB ns (bb, tt) = true := by
            rcases hT.2 with ⟨h | h, _⟩ | ⟨h, _⟩ | ⟨_, hk, _⟩ | ⟨_, hk, _⟩
            · omega
            · omega
            · omega
            · exact hk
            · exact hk
          have := (opF hv (s := (bb, tt)) hb hkn).lo
          omega
        · rw [lv_closed ns bb tt hb]; omega
    have hn : ¬ (eoS.1 = 4 ∨ eoS.1 = 5) := by decide
    rw [rd_finds hv T hT 0 [eoS] h0 (rstop_other hn T), RD_stop (stop_other hn)]
  · intro h
    obtain ⟨_, a2, _, _, a5⟩ := rd_sound hv _ 0 none (ss ++ [eoS]) 0 (T, [eoS]) (by omega) ⟨ss, rfl, hf⟩ (fun L e => by cases e) h
    refine ⟨a2, ?_⟩
    simp only [yM, List.nil_append] at a5
    exact (List.append_cancel_right a5).symm

/-- What the reader comes to at the end of a row that fits. -/
theorem rd_end {ns : List OpR} (hv : IsCode ns 0) {ss : List SyR} (hf : runS ns (false, 0) ss = some (true, 0)) {x : ET × List SyR} (h : RD ns 0 none (ss ++ [eoS]) = some x) : x.2 = [eoS] := by
  obtain ⟨a1, _, _, a4, _⟩ := rd_sound hv _ 0 none (ss ++ [eoS]) 0 x (by omega) ⟨ss, rfl, hf⟩ (fun L e => by cases e) h
  obtain ⟨T, q⟩ := x
  simp only at a1 a4 ⊢
  cases q with
  | nil => exact (fitE_nil a1).elim
  | cons z q =>
    rcases fitE_true a1 with ⟨h1, h2, _⟩ | ⟨h4, hkk, _⟩ | ⟨h5, hkk, _⟩ | ⟨_, h7, _⟩
    · rw [h1, h2]
    · have := a4 z q rfl (Or.inl h4)
      have := (opF hv (s := z) (Or.inr (Or.inl h4)) hkk).lo
      omega
    · have := a4 z q rfl (Or.inr h5)
      have := (opF hv (s := z) (Or.inr (Or.inr h5)) hkk).lo
      omega
    · omega

end Go.Proofs.YtfboipappaonhaaGreat

/-
  The plain mathematics of parsing: the tree by its root, the operator of the least level outside of brackets.
-/
namespace Go.Proofs.YtfboipappaonhaaGreat
set_option maxRecDepth 100000
set_option linter.unusedSimpArgs false
set_option linter.unusedVariables false
open Go.RowKit
open Go.Deep (BT)

/-- The brackets that are open behind a sign. -/
def opS (op : Int) (s : SyR) : Int := op + (if s.1 = 6 then 1 else 0) - (if s.1 = 7 then 1 else 0)
def opL (op : Int) (ss : List SyR) : Int := ss.foldl opS op

/-- The better root of two. -/
def pickS (ns : List OpR) (best : Option (Nat × SyR)) (x : Nat × SyR) : Option (Nat × SyR) := match best with
  | none => some x
  | some b => if sLv ns x.2 < sLv ns b.2 ∨ (sLv ns x.2 = sLv ns b.2 ∧ sSo ns x.2 ≠ 2) then some x else some b

/-- The root of a row of signs. -/
def rtF (ns : List OpR) : List SyR → Nat → Int → Option (Nat × SyR) → Option (Nat × SyR)
  | [], _, _, best => best
  | s :: r, i, op, best => rtF ns r (i + 1) (opS op s) (if opS op s ≠ 0 ∨ ¬ (3 ≤ s.1 ∧ s.1 ≤ 5) then best else pickS ns best (i, s))

theorem opL_append (op : Int) (a b : List SyR) : opL op (a ++ b) = opL (opL op a) b := by simp [opL]
theorem opL_cons (op : Int) (s : SyR) (r : List SyR) : opL op (s :: r) = opL (opS op s) r := rfl

theorem rtF_append (ns : List OpR) : ∀ (a b : List SyR) (i : Nat) (op : Int) (best : Option (Nat × SyR)), rtF ns (a ++ b) i op best = rtF ns b (i + a.length) (opL op a) (rtF ns a i op best)
  | [], b, i, op, best => rfl
  | s :: r, b, i, op, best => by
    simp only [List.cons_append, rtF, List.length_cons, opL_cons]
    rw [rtF_append ns r b]
    congr 1
    omega

theorem opS_leaf {op : Int} {s : SyR} (h : s.1 ≠ 6 ∧ s.1 ≠ 7) : opS op s = op := by
  unfold opS
  rw [if_neg h.1, if_neg h.2]
  omega
theorem opS_open {op : Int} : opS op (6, opn) = op + 1 := by simp [opS]
theorem opS_close {op : Int} : opS op (7, cls1) = op - 1 := by simp [opS]

/-- The forms of an admissible tree's signs. -/
theorem ySy_leaf {b : Nat} {t : ByteArray} (h : b = 1 ∨ b = 2) : ySy (.node b 0 t .nil .nil) = [(b, t)] := by
  simp only [ySy]
  rw [if_neg (by omega), if_neg (by omega), if_neg (by omega), if_neg (by omega)]
theorem ySy_grp {t : ByteArray} {l r : ET} : ySy (.node 6 0 t l r) = (6, opn) :: (ySy l ++ [(7, cls1)]) := by simp [ySy]
theorem ySy_pre {t : ByteArray} {l r : ET} : ySy (.node 3 0 t l r) = (3, t) :: ySy l := by simp [ySy]
theorem ySy_post {t : ByteArray} {l r : ET} : ySy (.node 5 0 t l r) = ySy l ++ [(5, t)] := by simp [ySy]
theorem ySy_mid {t : ByteArray} {l r : ET} : ySy (.node 4 0 t l r) = ySy l ++ ((4, t) :: ySy r) := by simp [ySy]

theorem opL_tree {ns : List OpR} : ∀ (T : ET), GoodT ns T → ∀ op, opL op (ySy T) = op := by
  intro T
  induction T with
  | nil => intro h; exact h.elim
  | node b o t l r ihl ihr =>
    rintro ⟨rfl, h⟩ op
    rcases h with ⟨h12, rfl, rfl⟩ | ⟨rfl, rfl, hl, rfl⟩ | ⟨h35, hk, hl, rfl, hh⟩ | ⟨rfl, hk, hl, hr, h1, h2⟩
    · rw [ySy_leaf h12, opL_cons, opS_leaf ⟨by simp; omega, by simp; omega⟩]
      rfl
    · rw [ySy_grp, opL_cons, opS_open, opL_append, ihl hl, opL_cons, opS_close]
      show op + 1 - 1 = op
      omega
    · rcases h35 with rfl | rfl
      · rw [ySy_pre, opL_cons, opS_leaf ⟨by simp, by simp⟩, ihl hl]
      · rw [ySy_post, opL_append, ihl hl, opL_cons, opS_leaf ⟨by simp, by simp⟩]
        rfl
    · rw [ySy_mid, opL_append, ihl hl, opL_cons, opS_leaf ⟨by simp, by simp⟩, ihr hr]

/-- Inside of brackets nothing is taken. -/
theorem rtF_inside {ns : List OpR} : ∀ (T : ET), GoodT ns T → ∀ (i : Nat) (op : Int) best, 0 < op → rtF ns (ySy T) i op best = best := by
  intro T
  induction T with
  | nil => intro h; exact h.elim
  | node b o t l r ihl ihr =>
    rintro ⟨rfl, h⟩ i op best hop
    rcases h with ⟨h12, rfl, rfl⟩ | ⟨rfl, rfl, hl, rfl⟩ | ⟨h35, hk, hl, rfl, hh⟩ | ⟨rfl, hk, hl, hr, h1, h2⟩
    · rw [ySy_leaf h12]
      simp only [rtF]
      rw [if_pos]
      exact Or.inr (by simp; omega)
    · rw [ySy_grp]
      simp only [rtF]
      rw [opS_open, if_pos (Or.inl (by omega)), rtF_append, ihl hl _ _ _ (by omega)]
      simp [rtF]
    · rcases h35 with rfl | rfl
      · rw [ySy_pre]
        simp only [rtF]
        rw [opS_leaf ⟨by simp, by simp⟩, if_pos (Or.inl (by omega)), ihl hl _ _ _ hop]
      · rw [ySy_post, rtF_append, ihl hl _ _ _ hop, opL_tree l hl]
        simp only [rtF]
        rw [opS_leaf ⟨by simp, by simp⟩, if_pos (Or.inl (by omega))]
    · rw [ySy_mid, rtF_append, ihl hl _ _ _ hop, opL_tree l hl]
      simp only [rtF]
      rw [opS_leaf ⟨by simp, by simp⟩, if_pos (Or.inl (by omega)), ihr hr _ _ _ hop]

/-- A root that stays. -/
theorem rtF_keep {ns : List OpR} (hv : IsCode ns 0) (b0 : Nat × SyR) (hb : b0.2.1 = 3 ∨ b0.2.1 = 4 ∨ b0.2.1 = 5) (hkb : knB ns b0.2 = true) : ∀ (T : ET), GoodT ns T → ∀ (i : Nat), (sLv ns b0.2 < lvT ns T ∨ (sLv ns b0.2 ≤ lvT ns T ∧ sSo ns b0.2 = 2)) → rtF ns (ySy T) i 0 (some b0) = some b0 := by
  intro T
  induction T with
  | nil => intro h; exact h.elim
  | node b o t l r ihl ihr =>
    rintro ⟨rfl, h⟩ i hlv
    simp only [lvT] at hlv
    have pk : ∀ (j : Nat) (s : SyR), (s.1 = 3 ∨ s.1 = 4 ∨ s.1 = 5) → knB ns s = true → (sLv ns b0.2 < sLv ns s ∨ (sLv ns b0.2 ≤ sLv ns s ∧ sSo ns b0.2 = 2)) → pickS ns (some b0) (j, s) = some b0 := fun j s hs hk hc => by
      simp only [pickS]
      rw [if_neg]
      rintro (h | ⟨h1, h2⟩)
      · omega
      · have := same_sort hv hs hb hk hkb h1
        omega
    rcases h with ⟨h12, rfl, rfl⟩ | ⟨rfl, rfl, hl, rfl⟩ | ⟨h35, hk, hl, rfl, hh⟩ | ⟨rfl, hk, hl, hr, h1, h2⟩
    · rw [ySy_leaf h12]
      simp only [rtF]
      rw [if_pos (Or.inr (by simp; omega))]
    · rw [ySy_grp]
      simp only [rtF]
      rw [opS_open, if_pos (Or.inl (by omega)), rtF_append, rtF_inside l hl _ _ _ (by omega)]
      simp [rtF]
    · rcases h35 with rfl | rfl
      · have f := (opF hv (Or.inl rfl) hk).pre rfl
        rw [ySy_pre]
        simp only [rtF]
        rw [opS_leaf ⟨by simp, by simp⟩, if_neg (by simp), pk _ _ (Or.inl rfl) hk hlv]
        exact ihl hl _ (by omega)
      · have f := (opF hv (Or.inr (Or.inr rfl)) hk).post rfl
        rw [ySy_post, rtF_append, ihl hl _ (by omega), opL_tree l hl]
        simp only [rtF]
        rw [opS_leaf ⟨by simp, by simp⟩, if_neg (by simp), pk _ _ (Or.inr (Or.inr rfl)) hk hlv]
    · have f := (opF hv (Or.inr (Or.inl rfl)) hk).mid rfl
      rw [ySy_mid, rtF_append, ihl hl _ (by omega), opL_tree l hl]
      simp only [rtF]
      rw [opS_leaf ⟨by simp, by simp⟩, if_neg (by simp), pk _ _ (Or.inr (Or.inl rfl)) hk hlv]
      exact ihr hr _ (by omega)

/-- No root is below a level. -/
def AtLeast (ns : List OpR) (m : Int) (best : Option (Nat × SyR)) : Prop := ∀ b, best = some b → m ≤ sLv ns b.2

theorem rtF_low {ns : List OpR} (hv : IsCode ns 0) (m : Int) : ∀ (T : ET), GoodT ns T → ∀ (i : Nat) best, m ≤ lvT ns T → AtLeast ns m best → AtLeast ns m (rtF ns (ySy T) i 0 best) := by
  intro T
  induction T with
  | nil => intro h; exact h.elim
  | node b o t l r ihl ihr =>
    rintro ⟨rfl, h⟩ i best hlv hb
    simp only [lvT] at hlv
    have pk : ∀ (j : Nat) (s : SyR) best, m ≤ sLv ns s → AtLeast ns m best → AtLeast ns m (pickS ns best (j, s)) := fun j s best hs hb x hx => by
      cases best with
      | none => simp only [pickS, Option.some.injEq] at hx; subst hx; exact hs
      | some y =>
        simp only [pickS] at hx
        split at hx
        · simp only [Option.some.injEq] at hx; subst hx; exact hs
        · exact hb x hx
    rcases h with ⟨h12, rfl, rfl⟩ | ⟨rfl, rfl, hl, rfl⟩ | ⟨h35, hk, hl, rfl, hh⟩ | ⟨rfl, hk, hl, hr, h1, h2⟩
    · rw [ySy_leaf h12]
      simp only [rtF]
      rw [if_pos (Or.inr (by simp; omega))]
      exact hb
    · rw [ySy_grp]
      simp only [rtF]
      rw [opS_open, if_pos (Or.inl (by omega)), rtF_append, rtF_inside l hl _ _ _ (by omega)]
      simpa [rtF] using hb
    · rcases h35 with rfl | rfl
      · have f := (opF hv (Or.inl rfl) hk).pre rfl
        rw [ySy_pre]
        simp only [rtF]
        rw [opS_leaf ⟨by simp, by simp⟩, if_neg (by simp)]
        exact ihl hl _ _ (by omega) (pk _ _ _ hlv hb)
      · have f := (opF hv (Or.inr (Or.inr rfl)) hk).post rfl
        rw [ySy_post, rtF_append, opL_tree l hl]
        simp only [rtF]
        rw [opS_leaf ⟨by simp, by simp⟩, if_neg (by simp)]
        exact pk _ _ _ hlv (ihl hl _ _ (by omega) hb)
    · have f := (opF hv (Or.inr (Or.inl rfl)) hk).mid rfl
      rw [ySy_mid, rtF_append, opL_tree l hl]
      simp only [rtF]
      rw [opS_leaf ⟨by simp, by simp⟩, if_neg (by simp)]
      exact ihr hr _ _ (by omega) (pk _ _ _ hlv (ihl hl _ _ (by omega) hb))

/-- The kids of a tree's root fit its holes. -/
def fitT (ns : List OpR) (b : Nat) (t : ByteArray) (l r : ET) : Bool := decide (sH ns (b, t) false ≤ lvT ns l) && (decide (b ≠ 4) || decide (sH ns (b, t) true ≤ lvT ns r))

/-- The tree by its root. -/
def bld (ns : List OpR) : Nat → List SyR → Option ET
  | 0, _ => none
  | n + 1, ss => match rtF ns ss 0 0 none with
    | none => (match ss with
      | [] => none
      | s :: r => if s.1 = 6 then (bld ns n r.dropLast).map (fun T => .node 6 0 ByteArray.empty T .nil) else some (.node s.1 0 s.2 .nil .nil))
    | some x =>
      if (x.2.1 = 3 ∧ x.1 ≠ 0) ∨ (x.2.1 = 5 ∧ x.1 + 1 ≠ ss.length) then none
      else if x.2.1 = 3 then (match bld ns n (ss.drop 1) with
        | none => none
        | some T => if fitT ns 3 x.2.2 T .nil then some (.node 3 0 x.2.2 T .nil) else none)
      else if x.2.1 = 5 then (match bld ns n (ss.take x.1) with
        | none => none
        | some T => if fitT ns 5 x.2.2 T .nil then some (.node 5 0 x.2.2 T .nil) else none)
      else (match bld ns n (ss.take x.1) with
        | none => none
        | some T => (match bld ns n (ss.drop (x.1 + 1)) with
          | none => none
          | some T2 => if fitT ns 4 x.2.2 T T2 then some (.node 4 0 x.2.2 T T2) else none))

theorem none_low {ns : List OpR} {m : Int} : AtLeast ns m none := fun b e => by cases e

theorem pick_over {ns : List OpR} {m : Int} {best : Option (Nat × SyR)} {x : Nat × SyR} (h : AtLeast ns m best) (hc : sLv ns x.2 < m ∨ (sLv ns x.2 ≤ m ∧ sSo ns x.2 ≠ 2)) : pickS ns best x = some x := by
  cases best with
  | none => rfl
  | some b =>
    have := h b rfl
    simp only [pickS]
    rw [if_pos]
    by_cases e : sLv ns x.2 < sLv ns b.2
    · exact Or.inl e
    · refine Or.inr ⟨by omega, ?_⟩
      rcases hc with hc | hc
      · omega
      · exact hc.2

/-- An admissible tree is found by its root. -/
theorem bld_finds {ns : List OpR} (hv : IsCode ns 0) : ∀ (T : ET), GoodT ns T → ∀ n, tsz T ≤ n → bld ns n (ySy T) = some T := by
  intro T
  induction T with
  | nil => intro h; exact h.elim
  | node b o t l r ihl ihr =>
    rintro ⟨rfl, h⟩ n hn
    simp only [tsz] at hn
    obtain ⟨n, rfl⟩ : ∃ m, n = m + 1 := ⟨n - 1, by omega⟩
    rcases h with ⟨h12, rfl, rfl⟩ | ⟨rfl, rfl, hl, rfl⟩ | ⟨h35, hk, hl, rfl, hh⟩ | ⟨rfl, hk, hl, hr, h1, h2⟩
    · have e : rtF ns [(b, t)] 0 0 none = none := by
        simp only [rtF]
        rw [if_pos (Or.inr (by simp; omega))]
      rw [ySy_leaf h12]
      simp only [bld, e]
      rw [if_neg (by omega)]
    · have e : rtF ns ((6, opn) :: (ySy l ++ [(7, cls1)])) 0 0 none = none := by
        simp only [rtF]
        rw [opS_open, if_pos (Or.inl (by omega)), rtF_append, rtF_inside l hl _ _ _ (by omega)]
        simp [rtF]
      rw [ySy_grp]
      simp only [bld, e]
      rw [if_pos trivial, List.dropLast_concat, ihl hl n (by omega)]
      rfl
    · rcases h35 with rfl | rfl
      · have f := (opF hv (Or.inl rfl) hk).pre rfl
        have e : rtF ns ((3, t) :: ySy l) 0 0 none = some (0, (3, t)) := by
          simp only [rtF]
          rw [opS_leaf ⟨by simp, by simp⟩, if_neg (by simp)]
          exact rtF_keep hv (0, (3, t)) (Or.inl rfl) hk l hl _ (Or.inr ⟨by show sLv ns (3, t) ≤ _; omega, f.2⟩)
        rw [ySy_pre]
        simp only [bld, e]
        rw [if_neg (by simp), if_pos trivial, List.drop_succ_cons, List.drop_zero, ihl hl n (by omega)]
        simp [fitT, hh]
      · have f := (opF hv (Or.inr (Or.inr rfl)) hk).post rfl
        have e : rtF ns (ySy l ++ [(5, t)]) 0 0 none = some ((ySy l).length, (5, t)) := by
          rw [rtF_append, opL_tree l hl]
          simp only [rtF]
          rw [opS_leaf ⟨by simp, by simp⟩, if_neg (by simp), Nat.zero_add]
          exact pick_over (rtF_low hv (sH ns (5, t) false) l hl 0 none hh none_low) (Or.inr ⟨by show sLv ns (5, t) ≤ _; omega, by show sSo ns (5, t) ≠ 2; omega⟩)
        rw [ySy_post]
        simp only [bld, e]
        rw [if_neg (by simp), if_neg (by decide), if_pos trivial, List.take_left, ihl hl n (by omega)]
        simp [fitT, hh]
    · have f := (opF hv (Or.inr (Or.inl rfl)) hk).mid rfl
      have e : rtF ns (ySy l ++ ((4, t) :: ySy r)) 0 0 none = some ((ySy l).length, (4, t)) := by
        rw [rtF_append, opL_tree l hl]
        simp only [rtF]
        rw [opS_leaf ⟨by simp, by simp⟩, if_neg (by simp), Nat.zero_add, pick_over (rtF_low hv (sH ns (4, t) false) l hl 0 none h1 none_low) (by show sLv ns (4, t) < _ ∨ (sLv ns (4, t) ≤ _ ∧ sSo ns (4, t) ≠ 2); omega)]
        exact rtF_keep hv ((ySy l).length, (4, t)) (Or.inr (Or.inl rfl)) hk r hr _ (by show sLv ns (4, t) < _ ∨ (sLv ns (4, t) ≤ _ ∧ sSo ns (4, t) = 2); omega)
      rw [ySy_mid]
      simp only [bld, e]
      rw [if_neg (by simp), if_neg (by decide), if_neg (by decide), List.take_left, ihl hl n (by omega)]
      have ed : (ySy l ++ (4, t) :: ySy r).drop ((ySy l).length + 1) = ySy r := by
        have : ySy l ++ (4, t) :: ySy r = (ySy l ++ [(4, t)]) ++ ySy r := by simp
        rw [this]
        exact List.drop_left' (by simp)
      simp only [ed, ihr hr n (by omega)]
      simp [fitT, h1, h2]

/-- Where the root stands. -/
theorem rtF_some {ns : List OpR} : ∀ (ss : List SyR) (i : Nat) (op : Int) best x, rtF ns ss i op best = some x → best = some x ∨ ∃ L R, ss = L ++ x.2 :: R ∧ x.1 = i + L.length ∧ (3 ≤ x.2.1 ∧ x.2.1 ≤ 5) ∧ opL op L = 0
  | [], i, op, best, x, h => Or.inl h
  | s :: r, i, op, best, x, h => by
    simp only [rtF] at h
    have lift : (∃ L R, r = L ++ x.2 :: R ∧ x.1 = i + 1 + L.length ∧ (3 ≤ x.2.1 ∧ x.2.1 ≤ 5) ∧ opL (opS op s) L = 0) → ∃ L R, s :: r = L ++ x.2 :: R ∧ x.1 = i + L.length ∧ (3 ≤ x.2.1 ∧ x.2.1 ≤ 5) ∧ opL op L = 0 := by
      rintro ⟨L, R, rfl, h1, h2, h3⟩
      exact ⟨s :: L, R, rfl, by simp; omega, h2, h3⟩
    rcases rtF_some r _ _ _ x h with hb | h'
    · split at hb
      · exact Or.inl hb
      · rename_i hc
        have hc1 : 3 ≤ s.1 ∧ s.1 ≤ 5 := Decidable.byContradiction fun h => hc (Or.inr h)
        have hc2 : opS op s = 0 := Decidable.byContradiction fun h => hc (Or.inl h)
        have here : x = (i, s) → ∃ L R, s :: r = L ++ x.2 :: R ∧ x.1 = i + L.length ∧ (3 ≤ x.2.1 ∧ x.2.1 ≤ 5) ∧ opL op L = 0 := by
          rintro rfl
          exact ⟨[], r, rfl, by simp, hc1, by rw [opS_leaf ⟨by omega, by omega⟩] at hc2; exact hc2⟩
        cases best with
        | none => simp only [pickS, Option.some.injEq] at hb; exact Or.inr (here hb.symm)
        | some y =>
          simp only [pickS] at hb
          split at hb
          · simp only [Option.some.injEq] at hb; exact Or.inr (here hb.symm)
          · exact Or.inl hb
    · exact Or.inr (lift h')

theorem rtF_ne {ns : List OpR} : ∀ (ss : List SyR) (i : Nat) (op : Int) b, rtF ns ss i op (some b) ≠ none
  | [], i, op, b, h => by cases h
  | s :: r, i, op, b, h => by
    simp only [rtF] at h
    split at h
    · exact rtF_ne r _ _ _ h
    · simp only [pickS] at h
      split at h
      · exact rtF_ne r _ _ _ h
      · exact rtF_ne r _ _ _ h

/-- An operator outside of brackets is a root. -/
theorem rtF_op {ns : List OpR} {L R : List SyR} {s : SyR} (hs : 3 ≤ s.1 ∧ s.1 ≤ 5) (ho : opL 0 L = 0) : rtF ns (L ++ s :: R) 0 0 none ≠ none := by
  rw [rtF_append, ho]
  simp only [rtF]
  rw [opS_leaf ⟨by omega, by omega⟩, if_neg (fun h => by rcases h with h | h; exact h rfl; exact h hs)]
  cases rtF ns L 0 0 none with
  | none => exact rtF_ne _ _ _ _
  | some b =>
    simp only [pickS]
    split
    · exact rtF_ne _ _ _ _
    · exact rtF_ne _ _ _ _

/-- The brackets that are open are those of the state. -/
theorem run_op {ns : List OpR} : ∀ (ss : List SyR) (st st' : Bool × Nat), runS ns st ss = some st' → opL (st.2 : Int) ss = (st'.2 : Int)
  | [], st, st', h => by simp only [runS, Option.some.injEq] at h; subst h; rfl
  | s :: r, (false, d), st', h => by
    simp only [runS] at h
    cases e : auS ns (false, d) s with
    | none => rw [e] at h; cases h
    | some s1 =>
      rw [e] at h
      have := run_op r s1 st' h
      rw [opL_cons]
      rcases au_false e with ⟨a, rfl⟩ | ⟨a, _, rfl⟩ | ⟨rfl, rfl⟩
      · rw [opS_leaf ⟨by omega, by omega⟩]; exact this
      · rw [opS_leaf ⟨by omega, by omega⟩]; exact this
      · rw [opS_open]; simpa using this
  | s :: r, (true, d), st', h => by
    simp only [runS] at h
    cases e : auS ns (true, d) s with
    | none => rw [e] at h; cases h
    | some s1 =>
      rw [e] at h
      have := run_op r s1 st' h
      rw [opL_cons]
      rcases au_true e with ⟨a, _, rfl⟩ | ⟨a, _, rfl⟩ | ⟨rfl, hd, rfl⟩
      · rw [opS_leaf ⟨by omega, by omega⟩]; exact this
      · rw [opS_leaf ⟨by omega, by omega⟩]; exact this
      · rw [opS_close]
        have e2 : ((d - 1 : Nat) : Int) = (d : Int) - 1 := by omega
        simpa [e2] using this

/-- The bracket that closes. -/
theorem split_close {ns : List OpR} : ∀ (r : List SyR) (bh : Bool) (d j : Nat) (st : Bool × Nat), runS ns (bh, d + 1 + j) r = some st → st.2 ≤ d → ∃ r1 r2, r = r1 ++ (7, cls1) :: r2 ∧ runS ns (bh, j) r1 = some (true, 0) ∧ runS ns (true, d) r2 = some st
  | [], bh, d, j, st, h, hd => by
    simp only [runS, Option.some.injEq] at h
    subst h
    simp only at hd
    omega
  | s :: r, false, d, j, st, h, hd => by
    simp only [runS] at h
    cases e : auS ns (false, d + 1 + j) s with
    | none => rw [e] at h; cases h
    | some s1 =>
      rw [e] at h
      simp only at h
      rcases au_false e with ⟨a, rfl⟩ | ⟨a, hk, rfl⟩ | ⟨rfl, rfl⟩
      · obtain ⟨r1, r2, rfl, h1, h2⟩ := split_close r true d j st h hd
        exact ⟨s :: r1, r2, rfl, by simp only [runS, au_leaf a]; exact h1, h2⟩
      · obtain ⟨r1, r2, rfl, h1, h2⟩ := split_close r false d j st h hd
        exact ⟨s :: r1, r2, rfl, by simp only [runS, au_pre a hk]; exact h1, h2⟩
      · obtain ⟨r1, r2, rfl, h1, h2⟩ := split_close r false d (j + 1) st h hd
        exact ⟨(6, opn) :: r1, r2, rfl, by simp only [runS, au_open]; exact h1, h2⟩
  | s :: r, true, d, j, st, h, hd => by
    simp only [runS] at h
    cases e : auS ns (true, d + 1 + j) s with
    | none => rw [e] at h; cases h
    | some s1 =>
      rw [e] at h
      simp only at h
      rcases au_true e with ⟨a, hk, rfl⟩ | ⟨a, hk, rfl⟩ | ⟨rfl, _, rfl⟩
      · obtain ⟨r1, r2, rfl, h1, h2⟩ := split_close r false d j st h hd
        exact ⟨s :: r1, r2, rfl, by simp only [runS, au_mid a hk]; exact h1, h2⟩
      · obtain ⟨r1, r2, rfl, h1, h2⟩ := split_close r true d j st h hd
        exact ⟨s :: r1, r2, rfl, by simp only [runS, au_post a hk]; exact h1, h2⟩
      · cases j with
        | zero => exact ⟨[], r, rfl, rfl, by simpa using h⟩
        | succ j =>
          have e2 : d + 1 + (j + 1) - 1 = d + 1 + j := by omega
          rw [e2] at h
          obtain ⟨r1, r2, rfl, h1, h2⟩ := split_close r true d j st h hd
          exact ⟨(7, cls1) :: r1, r2, rfl, by simp only [runS, au_close]; exact h1, h2⟩

/-- A row of signs that fits, from one end to the other. -/
def Seg (ns : List OpR) (ss : List SyR) : Prop := runS ns (false, 0) ss = some (true, 0)

theorem Seg.ne {ns : List OpR} {ss : List SyR} (h : Seg ns ss) : ss ≠ [] := fun e => by
  subst e
  unfold Seg at h
  simp [runS] at h

/-- Without an operator outside of brackets: a leaf alone, or brackets around all. -/
theorem seg_none {ns : List OpR} {ss : List SyR} (h : Seg ns ss) (hr : rtF ns ss 0 0 none = none) : (∃ s, (s.1 = 1 ∨ s.1 = 2) ∧ ss = [s]) ∨ ∃ q, ss = (6, opn) :: (q ++ [(7, cls1)]) ∧ Seg ns q := by
  have tail : ∀ (L R : List SyR), ss = L ++ R → opL 0 L = 0 → runS ns (true, 0) R = some (true, 0) → R = [] := fun L R e ho hR => by
    cases R with
    | nil => rfl
    | cons z R =>
      exfalso
      simp only [runS] at hR
      cases ea : auS ns (true, 0) z with
      | none => rw [ea] at hR; cases hR
      | some st =>
        rcases au_true ea with ⟨a, _, _⟩ | ⟨a, _, _⟩ | ⟨_, hd, _⟩
        · exact rtF_op (ns := ns) (L := L) (R := R) (s := z) (by omega) ho (e ▸ hr)
        · exact rtF_op (ns := ns) (L := L) (R := R) (s := z) (by omega) ho (e ▸ hr)
        · omega
  cases ss with
  | nil => exact absurd rfl h.ne
  | cons s r =>
    unfold Seg at h
    simp only [runS] at h
    cases e : auS ns (false, 0) s with
    | none => rw [e] at h; cases h
    | some st =>
      rw [e] at h
      simp only at h
      rcases au_false e with ⟨a, rfl⟩ | ⟨a, hk, rfl⟩ | ⟨rfl, rfl⟩
      · have := tail [s] r rfl (by rw [opL_cons, opS_leaf ⟨by omega, by omega⟩]; rfl) h
        subst this
        exact Or.inl ⟨s, a, rfl⟩
      · exact absurd hr (rtF_op (ns := ns) (L := []) (R := r) (s := s) (by omega) rfl)
      · obtain ⟨r1, r2, rfl, h1, h2⟩ := split_close r false 0 0 (true, 0) h (Nat.le_refl _)
        have ho := run_op r1 _ _ h1
        have := tail ((6, opn) :: (r1 ++ [(7, cls1)])) r2 (by simp) (by
          rw [opL_cons, opS_open, opL_append]
          have sh : ∀ (l : List SyR) (a b : Int), opL (a + b) l = opL a l + b := fun l => by
            induction l with
            | nil => intro a b; rfl
            | cons z l ih =>
              intro a b
              rw [opL_cons, opL_cons]
              have : opS (a + b) z = opS a z + b := by unfold opS; omega
              rw [this, ih]
          rw [sh r1 0 1]
          simp only at ho
          have ho' : opL 0 r1 = 0 := by simpa using ho
          rw [ho', opL_cons, opS_close]
          rfl) h2
        subst this
        exact Or.inr ⟨r1, by simp, h1⟩

/-- With one: what lies on its two sides. -/
theorem seg_some {ns : List OpR} {ss : List SyR} (h : Seg ns ss) {x : Nat × SyR} (hr : rtF ns ss 0 0 none = some x) : ∃ L R, ss = L ++ x.2 :: R ∧ x.1 = L.length ∧ knB ns x.2 = true ∧
    ((x.2.1 = 3 ∧ (L = [] → Seg ns R)) ∨ (x.2.1 = 5 ∧ Seg ns L) ∨ (x.2.1 = 4 ∧ Seg ns L ∧ Seg ns R)) := by
  rcases rtF_some ss 0 0 none x hr with hb | ⟨L, R, rfl, h1, h2, h3⟩
  · cases hb
  · refine ⟨L, R, rfl, by omega, ?_⟩
    unfold Seg at h
    rw [runS_append] at h
    cases e : runS ns (false, 0) L with
    | none => rw [e] at h; cases h
    | some st =>
      rw [e] at h
      have ho := run_op L _ _ e
      obtain ⟨bh, d⟩ := st
      simp only at ho h
      have hd : d = 0 := by
        have h3' : opL ((0 : Nat) : Int) L = 0 := h3
        omega
      subst hd
      simp only [runS] at h
      cases ea : auS ns (bh, 0) x.2 with
      | none => rw [ea] at h; cases h
      | some st' =>
        rw [ea] at h
        simp only at h
        cases bh with
        | false =>
          rcases au_false ea with ⟨a, rfl⟩ | ⟨a, hk, rfl⟩ | ⟨a, rfl⟩
          · omega
          · exact ⟨hk, Or.inl ⟨a, fun _ => h⟩⟩
          · rw [a] at h2; exact absurd h2.2 (by decide)
        | true =>
          rcases au_true ea with ⟨a, hk, rfl⟩ | ⟨a, hk, rfl⟩ | ⟨a, _, rfl⟩
          · exact ⟨hk, Or.inr (Or.inr ⟨a, e, h⟩)⟩
          · exact ⟨hk, Or.inr (Or.inl ⟨a, e⟩)⟩
          · rw [a] at h2; exact absurd h2.2 (by decide)

/-- What is found by its root is admissible. -/
theorem bld_sound {ns : List OpR} (hv : IsCode ns 0) : ∀ (n : Nat) (ss : List SyR) (T : ET), Seg ns ss → bld ns n ss = some T → GoodT ns T ∧ ySy T = ss
  | 0, _, _, _, h => by simp [bld] at h
  | n + 1, ss, T, hs, h => by
    simp only [bld] at h
    split at h
    · rename_i hr
      rcases seg_none hs hr with ⟨s, hs12, rfl⟩ | ⟨q, rfl, hq⟩
      · simp only at h
        rw [if_neg (by omega)] at h
        injection h with h
        subst h
        refine ⟨⟨rfl, Or.inl ⟨hs12, rfl, rfl⟩⟩, ?_⟩
        rw [ySy_leaf hs12]
      · simp only at h
        rw [if_pos trivial, List.dropLast_concat] at h
        obtain ⟨T1, h1, rfl⟩ := Option.map_eq_some_iff.1 h
        obtain ⟨g, e⟩ := bld_sound hv n q T1 hq h1
        exact ⟨⟨rfl, Or.inr (Or.inl ⟨rfl, rfl, g, rfl⟩)⟩, by rw [ySy_grp, e]⟩
    · rename_i x hr
      obtain ⟨L, R, rfl, hx, hk, hc⟩ := seg_some hs hr
      split at h
      · cases h
      · rename_i hn
        have ed : ∀ m, m = L.length + 1 → (L ++ x.2 :: R).drop m = R := fun m hm => by
          subst hm
          have : L ++ x.2 :: R = (L ++ [x.2]) ++ R := by simp
          rw [this]
          exact List.drop_left' (by simp)
        rcases hc with ⟨a, hR⟩ | ⟨a, hL⟩ | ⟨a, hL, hR⟩
        · have hL0 : L = [] := by
            have : x.1 = 0 := Decidable.byContradiction fun h => hn (Or.inl ⟨a, h⟩)
            exact List.eq_nil_of_length_eq_zero (by omega)
          subst hL0
          rw [if_pos a] at h
          simp only [List.nil_append, List.drop_succ_cons, List.drop_zero] at h
          split at h
          · cases h
          · rename_i T1 h1
            split at h
            · rename_i hf
              injection h with h
              subst h
              obtain ⟨g, e⟩ := bld_sound hv n R T1 (hR rfl) h1
              have es : ((3, x.2.2) : SyR) = x.2 := Prod.ext a.symm rfl
              simp only [fitT, Bool.and_eq_true, decide_eq_true_eq] at hf
              refine ⟨⟨rfl, Or.inr (Or.inr (Or.inl ⟨Or.inl rfl, by rw [es]; exact hk, g, rfl, hf.1⟩))⟩, ?_⟩
              rw [ySy_pre, e, es]
              rfl
            · cases h
        · have hR0 : R = [] := by
            have : x.1 + 1 = (L ++ x.2 :: R).length := Decidable.byContradiction fun h => hn (Or.inr ⟨a, h⟩)
            simp only [List.length_append, List.length_cons] at this
            exact List.eq_nil_of_length_eq_zero (by omega)
          subst hR0
          rw [if_neg (by omega), if_pos a, hx, List.take_left] at h
          split at h
          · cases h
          · rename_i T1 h1
            split at h
            · rename_i hf
              injection h with h
              subst h
              obtain ⟨g, e⟩ := bld_sound hv n L T1 hL h1
              have es : ((5, x.2.2) : SyR) = x.2 := Prod.ext a.symm rfl
              simp only [fitT, Bool.and_eq_true, decide_eq_true_eq] at hf
              refine ⟨⟨rfl, Or.inr (Or.inr (Or.inl ⟨Or.inr rfl, by rw [es]; exact hk, g, rfl, hf.1⟩))⟩, ?_⟩
              rw [ySy_post, e, es]
            · cases h
        · rw [if_neg (by omega), if_neg (by omega), hx, List.take_left, ed _ rfl] at h
          split at h
          · cases h
          · rename_i T1 h1
            split at h
            · cases h
            · rename_i T2 h2
              split at h
              · rename_i hf
                injection h with h
                subst h
                obtain ⟨g, e⟩ := bld_sound hv n L T1 hL h1
                obtain ⟨g2, e2⟩ := bld_sound hv n R T2 hR h2
                have es : ((4, x.2.2) : SyR) = x.2 := Prod.ext a.symm rfl
                simp only [fitT, Bool.and_eq_true, Bool.or_eq_true, decide_eq_true_eq, ne_eq, not_true, false_or] at hf
                refine ⟨⟨rfl, Or.inr (Or.inr (Or.inr ⟨rfl, by rw [es]; exact hk, g, g2, hf.1, hf.2⟩))⟩, ?_⟩
                rw [ySy_mid, e, e2, es]
              · cases h

/-- A tree has as many nodes as signs, or fewer. -/
theorem tsz_le {ns : List OpR} : ∀ (T : ET), GoodT ns T → tsz T ≤ (ySy T).length := by
  intro T
  induction T with
  | nil => intro h; exact h.elim
  | node b o t l r ihl ihr =>
    rintro ⟨rfl, h⟩
    rcases h with ⟨h12, rfl, rfl⟩ | ⟨rfl, rfl, hl, rfl⟩ | ⟨h35, hk, hl, rfl, hh⟩ | ⟨rfl, hk, hl, hr, h1, h2⟩
    · rw [ySy_leaf h12]; simp [tsz]
    · have := ihl hl
      rw [ySy_grp]; simp [tsz]; omega
    · have := ihl hl
      rcases h35 with rfl | rfl
      · rw [ySy_pre]; simp [tsz]; omega
      · rw [ySy_post]; simp [tsz]; omega
    · have := ihl hl
      have := ihr hr
      rw [ySy_mid]; simp [tsz]; omega

/-- Both ways come to the same tree. -/
theorem bld_rd {ns : List OpR} (hv : IsCode ns 0) {ss : List SyR} (hs : Seg ns ss) {n : Nat} (hn : ss.length ≤ n) (T : ET) : bld ns n ss = some T ↔ RD ns 0 none (ss ++ [eoS]) = some (T, [eoS]) := by
  rw [← rd_iff hv hs T]
  constructor
  · exact bld_sound hv n ss T hs
  · rintro ⟨g, rfl⟩
    exact bld_finds hv T g n (Nat.le_trans (tsz_le T g) hn)

end Go.Proofs.YtfboipappaonhaaGreat

/-
  The signs of a row of tokens, by their roles.
-/
namespace Go.Proofs.YtfboipappaonhaaGreat
set_option maxRecDepth 100000
set_option linter.unusedSimpArgs false
open Go.RowKit

/-- The sign of token i. -/
def sgT (ns : List OpR) (ts : List TokR) (i : Nat) : SyR :=
  if (atT ts i).k = 3 then ((roleTo ns ts i).toNat + 2, (atT ts i).t)
  else if (atT ts i).k = 4 then (6, opn) else if (atT ts i).k = 5 then (7, cls1) else if (atT ts i).k = 7 then eoS else ((atT ts i).k.toNat, (atT ts i).t)
/-- The signs of n tokens from token a on. -/
def sgs (ns : List OpR) (ts : List TokR) (a n : Nat) : List SyR := (List.range' a n).map (sgT ns ts)

theorem sgs_len (ns : List OpR) (ts : List TokR) (a n : Nat) : (sgs ns ts a n).length = n := by simp [sgs]
theorem sgs_succ (ns : List OpR) (ts : List TokR) (a n : Nat) : sgs ns ts a (n + 1) = sgT ns ts a :: sgs ns ts (a + 1) n := by
  simp [sgs, List.range'_succ]
theorem sgs_add (ns : List OpR) (ts : List TokR) (a m n : Nat) : sgs ns ts a (m + n) = sgs ns ts a m ++ sgs ns ts (a + m) n := by
  induction m generalizing a with
  | zero => simp [sgs]
  | succ m ih =>
    have e : m + 1 + n = (m + n) + 1 := by omega
    rw [e, sgs_succ, sgs_succ, ih]
    have e2 : a + 1 + m = a + (m + 1) := by omega
    rw [e2]; rfl
theorem sgs_last (ns : List OpR) (ts : List TokR) (a n : Nat) : sgs ns ts a (n + 1) = sgs ns ts a n ++ [sgT ns ts (a + n)] := by
  rw [sgs_add]; rfl

/-- What a token of a text is. -/
def TokOk (ns : List OpR) (t : TokR) : Prop :=
  ((t.k = 1 ∨ t.k = 2) ∧ ¬ opT ns t.t ∧ t.t ≠ opn) ∨ (t.k = 3 ∧ opT ns t.t ∧ t.t ≠ opn) ∨ (t.k = 4 ∧ t.t = opn ∧ ¬ opT ns t.t) ∨ (t.k = 5 ∧ t.t = cls1 ∧ ¬ opT ns t.t) ∨ t.k = 6 ∨ (t.k = 7 ∧ t.t = ⟨#[]⟩ ∧ ¬ opT ns t.t)

theorem cls_first {t : ByteArray} {ns : List OpR} (hv : SignTexts ns) (ho : opT ns t) : cls (bt t 0) = 6 ∧ 1 ≤ t.size := by
  obtain ⟨j, hj, rfl⟩ := ho
  have := hv j hj
  exact ⟨this.2.2 0 (by omega), this.1⟩

theorem tokOk_of {ns : List OpR} (hv : SignTexts ns) {s : ByteArray} {i n k : Nat} (g : ByteArray) (h : IsTok ns s i n k) : TokOk ns ⟨(k : Int), g, s.extract i (i + n)⟩ := by
  obtain ⟨h1, h2, h⟩ := h
  have hb : bt (sub s i n) 0 = bt s i := by simpa using sub_bt (s := s) (i := i) (n := n) (j := 0) h2 (by omega)
  have hsz : (sub s i n).size = n := sub_size h2
  have hno : cls (bt s i) ≠ 6 → ¬ opT ns (sub s i n) := fun hc ho => hc (by rw [← hb]; exact (cls_first hv ho).1)
  have hnp : cls (bt s i) ≠ 4 → sub s i n ≠ opn := fun hc e => hc (by rw [← hb, e]; decide)
  change TokOk ns ⟨(k : Int), g, sub s i n⟩
  rcases h with ⟨c, rfl, _⟩ | ⟨c, rfl, _⟩ | ⟨c, rfl, rfl⟩ | ⟨c, rfl, rfl⟩ | ⟨c, ⟨rfl, a, _⟩ | ⟨rfl, _⟩⟩ | ⟨c, rfl, _⟩
  · exact Or.inl ⟨Or.inl rfl, hno (by omega), hnp (by omega)⟩
  · exact Or.inl ⟨Or.inr rfl, hno (by omega), hnp (by omega)⟩
  · refine Or.inr (Or.inr (Or.inl ⟨rfl, ?_, hno (by omega)⟩))
    exact (one_byte hsz).2 (by rw [hb]; exact (cls_open _).1 c)
  · refine Or.inr (Or.inr (Or.inr (Or.inl ⟨rfl, ?_, hno (by omega)⟩)))
    exact (one_byte hsz).2 (by rw [hb]; exact (cls_close _).1 c)
  · exact Or.inr (Or.inl ⟨rfl, a, hnp (by omega)⟩)
  · exact Or.inr (Or.inr (Or.inr (Or.inr (Or.inl rfl))))
  · exact Or.inr (Or.inr (Or.inr (Or.inr (Or.inl rfl))))

theorem toks_ok {ns : List OpR} (hv : SignTexts ns) {s : ByteArray} : ∀ (ts : List TokR) (i : Nat), Lexed ns s i ts → ∀ j, j < ts.length → TokOk ns (atT ts j)
  | [], i, h, j, hj => by simp at hj
  | t :: out, i, h, j, hj => by
    rcases h with ⟨rfl, _, _, rfl⟩ | ⟨p, n, k, _, _, _, _, ht, rfl, hr⟩
    · have : j = 0 := by simp at hj; omega
      subst this
      refine Or.inr (Or.inr (Or.inr (Or.inr (Or.inr ⟨rfl, rfl, fun ho => ?_⟩))))
      have h1 := (cls_first hv ho).2
      simp [atT] at h1
      have h0 : (⟨#[]⟩ : ByteArray).size = 0 := rfl
      omega
    · cases j with
      | zero => exact tokOk_of hv _ ht
      | succ j => exact toks_ok hv out _ hr j (by simpa using hj)

theorem has_kn {ns : List OpR} {t : ByteArray} {q : Nat} {k : Int} (h : hasB ns t k = true) (hq : (q : Int) - 2 = k) : knB ns (q, t) = true := by
  unfold knB
  simp only [hq]
  cases hf : fnd ns t k with
  | some j => rfl
  | none =>
    obtain ⟨j, hj, e1, e2⟩ := (hasB_iff _ _ _).1 h
    exact absurd ⟨e1, e2⟩ (fnd_none hf hj)

theorem roleOf_f (xs : List OpR) (last : Bool) (t : TokR) (op : Nat) : roleOf xs last t false op = if t.k = 1 ∨ t.k = 2 ∨ t.k = 4 then 0 else if t.k = 3 ∧ hasB xs t.t 1 = true then 1 else -1 := by
  unfold roleOf; rw [if_pos rfl]
theorem roleOf_t (xs : List OpR) (last : Bool) (t : TokR) (op : Nat) : roleOf xs last t true op = if t.k = 3 ∧ hasB xs t.t 2 = true then 2 else if t.k = 3 ∧ hasB xs t.t 3 = true then 3
    else if t.k = 5 ∧ 0 < op then 0 else if t.k = 7 ∧ op = 0 ∧ last = true then 0 else -1 := by
  unfold roleOf; rw [if_neg (by decide)]

/-- One token more. -/
theorem au_tok {ns : List OpR} {ts : List TokR} {i : Nat} (hl : i + 1 < ts.length) (hr : 0 ≤ roleTo ns ts i) :
    auS ns (bhTo ns ts i, opTo ts i) (sgT ns ts i) = some (bhTo ns ts (i + 1), opTo ts (i + 1)) := by
  have hlast : decide (i + 1 = ts.length) = false := by simp; omega
  simp only [bhTo, opTo]
  unfold sgT
  unfold roleTo at hr ⊢
  rw [hlast] at hr ⊢
  generalize atT ts i = t at hr ⊢
  generalize opTo ts i = op at hr ⊢
  generalize bhTo ns ts i = bh at hr ⊢
  cases bh
  · rw [roleOf_f] at hr ⊢
    by_cases k1 : t.k = 1 ∨ t.k = 2
    · rw [if_neg (by omega), if_neg (by omega), if_neg (by omega), if_neg (by omega), au_leaf (by rcases k1 with e | e <;> simp [e])]
      simp only [bhOf, opOf, if_true, if_pos k1]
      rw [if_neg (by omega), if_neg (by omega)]
    · by_cases k4 : t.k = 4
      · rw [if_neg (by omega), if_pos k4, au_open]
        simp [bhOf, opOf, k4]
      · rw [if_neg (by omega)] at hr
        by_cases c : t.k = 3 ∧ hasB ns t.t 1 = true
        · rw [if_pos c.1, if_neg (by omega), if_pos c, au_pre (s := ((1 : Int).toNat + 2, t.t)) rfl (has_kn c.2 (by decide))]
          simp [bhOf, opOf, c.1]
        · rw [if_neg c] at hr; omega
  · rw [roleOf_t] at hr ⊢
    by_cases c2 : t.k = 3 ∧ hasB ns t.t 2 = true
    · rw [if_pos c2.1, if_pos c2, au_mid (s := ((2 : Int).toNat + 2, t.t)) rfl (has_kn c2.2 (by decide))]
      simp [bhOf, opOf, c2.1, c2.2]
    · rw [if_neg c2] at hr
      by_cases c3 : t.k = 3 ∧ hasB ns t.t 3 = true
      · rw [if_pos c3.1, if_neg c2, if_pos c3, au_post (s := ((3 : Int).toNat + 2, t.t)) rfl (has_kn c3.2 (by decide))]
        simp only [bhOf, opOf, Bool.true_eq_false, if_false, if_neg c2]
        rw [if_neg (by omega), if_neg (by omega)]
      · rw [if_neg c3] at hr
        by_cases c5 : t.k = 5 ∧ 0 < op
        · rw [if_neg (by omega), if_neg (by omega), if_pos c5.1]
          obtain ⟨m, rfl⟩ : ∃ m, op = m + 1 := ⟨op - 1, by omega⟩
          rw [au_close]
          simp [bhOf, opOf, c5.1]
        · rw [if_neg c5] at hr
          simp at hr

theorem run_sgs {ns : List OpR} {ts : List TokR} : ∀ n, n < ts.length → FitTo ns ts n → runS ns (false, 0) (sgs ns ts 0 n) = some (bhTo ns ts n, opTo ts n)
  | 0, _, _ => rfl
  | n + 1, hn, hf => by
    rw [sgs_last, runS_append, run_sgs n (by omega) (fun i hi => hf i (by omega))]
    simp only [Nat.zero_add, runS]
    rw [au_tok (by omega) (hf n (by omega))]

theorem fit_end {ns : List OpR} {ts : List TokR} (hf : FitTo ns ts ts.length) (h0 : 0 < ts.length) (h7 : (atT ts (ts.length - 1)).k = 7) :
    Seg ns (sgs ns ts 0 (ts.length - 1)) ∧ sgs ns ts 0 ts.length = sgs ns ts 0 (ts.length - 1) ++ [eoS] := by
  have hr := hf (ts.length - 1) (by omega)
  have hb : bhTo ns ts (ts.length - 1) = true ∧ opTo ts (ts.length - 1) = 0 := by
    unfold roleTo roleOf at hr
    have hl : decide (ts.length - 1 + 1 = ts.length) = true := by simp; omega
    rw [hl] at hr
    cases hb : bhTo ns ts (ts.length - 1)
    · rw [hb] at hr
      simp only [if_true] at hr
      rw [if_neg (by omega), if_neg (by omega)] at hr
      omega
    · rw [hb] at hr
      simp only [Bool.true_eq_false, if_false] at hr
      rw [if_neg (by omega), if_neg (by omega), if_neg (by omega)] at hr
      by_cases c : (atT ts (ts.length - 1)).k = 7 ∧ opTo ts (ts.length - 1) = 0 ∧ True
      · exact ⟨rfl, c.2.1⟩
      · rw [if_neg c] at hr; omega
  refine ⟨?_, ?_⟩
  · unfold Seg
    rw [run_sgs _ (by omega) (fun i hi => hf i (by omega)), hb.1, hb.2]
  · have e : ts.length = ts.length - 1 + 1 := by omega
    have := sgs_last ns ts 0 (ts.length - 1)
    rw [← e] at this
    rw [this]
    have e2 : sgT ns ts (0 + (ts.length - 1)) = eoS := by
      rw [Nat.zero_add]
      unfold sgT
      rw [if_neg (by omega), if_neg (by omega), if_neg (by omega), if_pos h7]
    rw [e2]

/-- What one meets in front of an operand, and behind one. -/
theorem tok_front {ns : List OpR} {ts : List TokR} {i : Nat} (hr : 0 ≤ roleTo ns ts i) (hb : bhTo ns ts i = false) (ht : TokOk ns (atT ts i)) :
    (((atT ts i).k = 1 ∨ (atT ts i).k = 2) ∧ ¬ opT ns (atT ts i).t ∧ (atT ts i).t ≠ opn ∧ sgT ns ts i = ((atT ts i).k.toNat, (atT ts i).t)) ∨
    ((atT ts i).k = 3 ∧ hasB ns (atT ts i).t 1 = true ∧ (atT ts i).t ≠ opn ∧ sgT ns ts i = (3, (atT ts i).t)) ∨
    ((atT ts i).k = 4 ∧ (atT ts i).t = opn ∧ sgT ns ts i = (6, opn)) := by
  unfold sgT
  unfold roleTo at hr ⊢
  rw [hb, roleOf_f] at hr ⊢
  by_cases k : (atT ts i).k = 1 ∨ (atT ts i).k = 2 ∨ (atT ts i).k = 4
  · rcases ht with ⟨a, b, c⟩ | ⟨a, b, c⟩ | ⟨a, b, c⟩ | ⟨a, b, c⟩ | a | ⟨a, b, c⟩
    · refine Or.inl ⟨a, b, c, ?_⟩
      rw [if_neg (by omega), if_neg (by omega), if_neg (by omega), if_neg (by omega)]
    · omega
    · refine Or.inr (Or.inr ⟨a, b, ?_⟩)
      rw [if_neg (by omega), if_pos a]
    · omega
    · omega
    · omega
  · rw [if_neg k] at hr ⊢
    by_cases c : (atT ts i).k = 3 ∧ hasB ns (atT ts i).t 1 = true
    · rw [if_pos c.1, if_pos c]
      refine Or.inr (Or.inl ⟨c.1, c.2, ?_, rfl⟩)
      rcases ht with ⟨a, b, c'⟩ | ⟨a, b, c'⟩ | ⟨a, b, c'⟩ | ⟨a, b, c'⟩ | a | ⟨a, b, c'⟩
      · exact c'
      · exact c'
      all_goals omega
    · rw [if_neg c] at hr; omega

theorem tok_behind {ns : List OpR} {ts : List TokR} {i : Nat} (hr : 0 ≤ roleTo ns ts i) (hb : bhTo ns ts i = true) (ht : TokOk ns (atT ts i)) :
    ((atT ts i).k = 3 ∧ hasB ns (atT ts i).t 2 = true ∧ sgT ns ts i = (4, (atT ts i).t)) ∨
    ((atT ts i).k = 3 ∧ hasB ns (atT ts i).t 3 = true ∧ sgT ns ts i = (5, (atT ts i).t)) ∨
    (¬ opT ns (atT ts i).t ∧ (sgT ns ts i).1 ≠ 4 ∧ (sgT ns ts i).1 ≠ 5) := by
  unfold sgT
  unfold roleTo at hr ⊢
  rw [hb, roleOf_t] at hr ⊢
  by_cases c2 : (atT ts i).k = 3 ∧ hasB ns (atT ts i).t 2 = true
  · rw [if_pos c2.1, if_pos c2]
    exact Or.inl ⟨c2.1, c2.2, rfl⟩
  · rw [if_neg c2] at hr ⊢
    by_cases c3 : (atT ts i).k = 3 ∧ hasB ns (atT ts i).t 3 = true
    · rw [if_pos c3.1, if_pos c3]
      exact Or.inr (Or.inl ⟨c3.1, c3.2, rfl⟩)
    · rw [if_neg c3] at hr
      have k57 : (atT ts i).k = 5 ∨ (atT ts i).k = 7 := by
        by_cases c5 : (atT ts i).k = 5 ∧ 0 < opTo ts i
        · exact Or.inl c5.1
        · rw [if_neg c5] at hr
          by_cases c7 : (atT ts i).k = 7 ∧ opTo ts i = 0 ∧ decide (i + 1 = ts.length) = true
          · exact Or.inr c7.1
          · rw [if_neg c7] at hr; omega
      have hno : ¬ opT ns (atT ts i).t := by
        rcases ht with ⟨a, b, c'⟩ | ⟨a, b, c'⟩ | ⟨a, b, c'⟩ | ⟨a, b, c'⟩ | a | ⟨a, b, c'⟩
        · exact b
        · omega
        · exact c'
        · exact c'
        · omega
        · exact c'
      refine Or.inr (Or.inr ⟨hno, ?_⟩)
      rw [if_neg (by omega), if_neg (by omega)]
      by_cases k5 : (atT ts i).k = 5
      · rw [if_pos k5]; exact ⟨by decide, by decide⟩
      · rw [if_neg k5, if_pos (by omega)]; exact ⟨by decide, by decide⟩
end Go.Proofs.YtfboipappaonhaaGreat
