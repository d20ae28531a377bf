import Derived.Deep.Trees
import Derived.Test.YtfboipappaonhaaGreatU17

/-
  Trees as such: the nodes of a tree in order, the tree in a hole, its value in the program.
-/
namespace Go.Proofs.YtfboipappaonhaaGreat
set_option maxRecDepth 100000
set_option linter.unusedSimpArgs false
set_option linter.unusedVariables false
open Go.RowKit
open Go.Deep (BT)

abbrev ET := BT ByteArray

def tsz : ET → Nat
  | .nil => 0
  | .node _ _ _ l r => tsz l + tsz r + 1

/-- The node over two kids, behind s nodes. -/
def tN (b : Nat) (t : ByteArray) (l r : ET) (s : Nat) : NodeR :=
  ⟨(b : Int), t, if kids (b : Int) = 0 then 0 else ((s + tsz l : Nat) : Int) - 1, if kids (b : Int) = 2 then ((s + tsz l + tsz r : Nat) : Int) - 1 else 0⟩

/-- The nodes of a tree, behind s nodes. -/
def nd : ET → Nat → List NodeR
  | .nil, _ => []
  | .node b _ t l r, s => nd l s ++ nd r (s + tsz l) ++ [tN b t l r s]

theorem nd_len : ∀ (T : ET) (s : Nat), (nd T s).length = tsz T
  | .nil, _ => rfl
  | .node b o t l r, s => by simp [nd, tsz, nd_len l, nd_len r]; omega

/-- Each node has the kids that its kind asks for. -/
def Sh : ET → Prop
  | .nil => False
  | .node b o _ l r => o = 0 ∧ ((kids (b : Int) = 0 ∧ l = .nil ∧ r = .nil) ∨ (kids (b : Int) = 1 ∧ Sh l ∧ r = .nil) ∨ (kids (b : Int) = 2 ∧ Sh l ∧ Sh r))

theorem Sh.pos : ∀ {T : ET}, Sh T → 1 ≤ tsz T
  | .nil, h => h.elim
  | .node _ _ _ _ _, _ => by simp [tsz]

/-- The nodes of a tree lie in a row, from place s on. -/
def Lies (xs : List NodeR) : ET → Nat → Prop
  | .nil, _ => True
  | .node b _ t l r, s => Lies xs l s ∧ Lies xs r (s + tsz l) ∧ atN xs (s + tsz l + tsz r) = tN b t l r s

theorem atN_append_left {xs ys : List NodeR} {i : Nat} (h : i < xs.length) : atN (xs ++ ys) i = atN xs i := by
  simp [atN, List.getD, List.getElem?_append, h]
theorem atN_append_right {xs ys : List NodeR} {i : Nat} (h : xs.length ≤ i) : atN (xs ++ ys) i = atN ys (i - xs.length) := by
  simp [atN, List.getD, List.getElem?_append_right h]

theorem Lies.congr {xs ys : List NodeR} : ∀ {T : ET} {s : Nat}, Lies xs T s → (∀ i, s ≤ i → i < s + tsz T → atN ys i = atN xs i) → Lies ys T s
  | .nil, _, _, _ => trivial
  | .node b o t l r, s, ⟨h1, h2, h3⟩, h => by
    simp only [tsz] at h
    refine ⟨h1.congr fun i hi hi2 => h i hi (by omega), h2.congr fun i hi hi2 => h i (by omega) (by omega), ?_⟩
    rw [h _ (by omega) (by omega)]
    exact h3

theorem lies_nd (pre post : List NodeR) : ∀ (T : ET) (s : Nat), s = pre.length → Lies (pre ++ (nd T s ++ post)) T s := by
  intro T
  induction T generalizing pre post with
  | nil => intro _ _; trivial
  | node b o t l r ihl ihr =>
    intro s hs
    subst hs
    refine ⟨?_, ?_, ?_⟩
    · have := ihl pre (nd r (pre.length + tsz l) ++ [tN b t l r pre.length] ++ post) pre.length rfl
      simpa [nd, List.append_assoc] using this
    · have := ihr (pre ++ nd l pre.length) ([tN b t l r pre.length] ++ post) (pre.length + tsz l) (by simp [nd_len])
      simpa [nd, List.append_assoc] using this
    · rw [atN_append_right (by omega)]
      have e : pre.length + tsz l + tsz r - pre.length = tsz l + tsz r := by omega
      rw [e, atN_append_left (by simp [nd, nd_len])]
      simp only [nd]
      rw [atN_append_right (by simp [nd_len])]
      simp [nd_len, atN]

theorem lies_self (T : ET) : Lies (nd T 0) T 0 := by
  have := lies_nd [] [] T 0 rfl
  simpa using this

theorem atN_lies_nd {xs : List NodeR} : ∀ (T : ET) (s : Nat), Lies xs T s → ∀ j, j < tsz T → atN xs (s + j) = atN (nd T s) j := by
  intro T
  induction T with
  | nil => intro s _ j hj; simp [tsz] at hj
  | node b o t l r ihl ihr =>
    rintro s ⟨h1, h2, h3⟩ j hj
    simp only [tsz] at hj
    simp only [nd]
    by_cases c1 : j < tsz l
    · rw [ihl s h1 j c1, List.append_assoc, atN_append_left (by rw [nd_len]; exact c1)]
    · by_cases c2 : j < tsz l + tsz r
      · have := ihr (s + tsz l) h2 (j - tsz l) (by omega)
        have e : s + tsz l + (j - tsz l) = s + j := by omega
        rw [e] at this
        rw [this, atN_append_left (by simp [nd_len]; omega), atN_append_right (by rw [nd_len]; omega), nd_len]
      · have e : j = tsz l + tsz r := by omega
        subst e
        rw [← Nat.add_assoc, h3, atN_append_right (by simp [nd_len])]
        simp [nd_len, atN]

/-- A row that is as long as the tree is its nodes. -/
theorem nd_of_lies {xs : List NodeR} {T : ET} (h : Lies xs T 0) (hl : xs.length = tsz T) : xs = nd T 0 := by
  apply List.ext_getElem (by rw [nd_len, hl])
  intro i h1 h2
  have := atN_lies_nd T 0 h i (by omega)
  rw [Nat.zero_add] at this
  simpa [atN, List.getD, h1, h2] using this

/-- The stretch of a tree's root. -/
theorem frS_of_lies {xs : List NodeR} : ∀ (T : ET) (s : Nat), Sh T → Lies xs T s → frS xs (s + tsz T - 1) = some s := by
  intro T
  induction T with
  | nil => intro s h; exact h.elim
  | node b o t l r ihl ihr =>
    rintro s ⟨_, hsh⟩ ⟨h1, h2, h3⟩
    have e : s + tsz (.node b o t l r) - 1 = s + tsz l + tsz r := by simp only [tsz]; omega
    rw [e]
    rcases hsh with ⟨hk, rfl, rfl⟩ | ⟨hk, hl, rfl⟩ | ⟨hk, hl, hr⟩
    · simp only [tsz, Nat.add_zero] at h3 ⊢
      have hk' : kids (atN xs s).k = 0 := by rw [h3]; exact hk
      rw [frS_zero hk', if_pos]
      rw [h3]
      simp [tN, hk]
    · simp only [tsz, Nat.add_zero] at h3 ⊢
      have hp := hl.pos
      have hk' : kids (atN xs (s + tsz l)).k = 1 := by rw [h3]; exact hk
      rw [frS_one hk', if_pos]
      · exact ihl s hl h1
      · rw [h3]
        simp [tN, hk]
        omega
    · have hp := hl.pos
      have hq := hr.pos
      have hk' : kids (atN xs (s + tsz l + tsz r)).k = 2 := by rw [h3]; exact hk
      have f2 := ihr (s + tsz l) hr h2
      rw [frS_two hk' (by omega) (by rw [h3]; simp [tN, hk]) f2 (by omega) (by rw [h3]; simp [tN, hk])]
      exact ihl s hl h1

/-- A stretch is a tree. -/
theorem tree_of_frS (xs : List NodeR) (htx : ∀ i, i < xs.length → 0 ≤ (atN xs i).k) : ∀ n i f, i < n → i < xs.length → frS xs i = some f → ∃ T, Sh T ∧ f + tsz T = i + 1 ∧ Lies xs T f
  | 0, _, _, h, _, _ => absurd h (Nat.not_lt_zero _)
  | n + 1, i, f, h, hi, hf => by
    have hkk : (((atN xs i).k.toNat : Nat) : Int) = (atN xs i).k := Int.toNat_of_nonneg (htx i hi)
    rcases frS_some hf with ⟨hk, ha, hb, hfi⟩ | ⟨hk, h1i, ha, hbb, hf1⟩ | ⟨hk, h1i, hbb, f2, hf2, h2f, ha, hf1⟩
    · refine ⟨.node (atN xs i).k.toNat 0 (atN xs i).t .nil .nil, ⟨rfl, Or.inl ⟨by rw [hkk]; exact hk, rfl, rfl⟩⟩, by simp [tsz]; omega, trivial, trivial, ?_⟩
      simp only [tsz, Nat.add_zero, tN, hkk, hk]
      rw [hfi]
      generalize atN xs i = o at *
      cases o
      simp_all
    · have hle := frS_le hf1
      obtain ⟨T, hs, hz, hl⟩ := tree_of_frS xs htx n (i - 1) f (by omega) (by omega) hf1
      have hp := hs.pos
      refine ⟨.node (atN xs i).k.toNat 0 (atN xs i).t T .nil, ⟨rfl, Or.inr (Or.inl ⟨by rw [hkk]; exact hk, hs, rfl⟩)⟩, by simp [tsz]; omega, hl, trivial, ?_⟩
      have e : f + tsz T + tsz (BT.nil : ET) = i := by simp [tsz]; omega
      rw [e]
      simp only [tN, hkk, hk]
      have e2 : ((f + tsz T : Nat) : Int) - 1 = (i : Int) - 1 := by omega
      rw [e2]
      generalize atN xs i = o at *
      cases o
      simp_all
    · have hle := frS_le hf2
      have hle1 := frS_le hf1
      obtain ⟨T1, hs1, hz1, hl1⟩ := tree_of_frS xs htx n (f2 - 1) f (by omega) (by omega) hf1
      obtain ⟨T2, hs2, hz2, hl2⟩ := tree_of_frS xs htx n (i - 1) f2 (by omega) (by omega) hf2
      have hp := hs1.pos
      have hq := hs2.pos
      have ef : f + tsz T1 = f2 := by omega
      refine ⟨.node (atN xs i).k.toNat 0 (atN xs i).t T1 T2, ⟨rfl, Or.inr (Or.inr ⟨by rw [hkk]; exact hk, hs1, hs2⟩)⟩, by simp [tsz]; omega, hl1, by rw [ef]; exact hl2, ?_⟩
      have e : f + tsz T1 + tsz T2 = i := by omega
      rw [e]
      simp only [tN, hkk, hk]
      have e2 : ((f + tsz T1 : Nat) : Int) - 1 = (f2 : Int) - 1 := by omega
      have e3 : ((f + tsz T1 + tsz T2 : Nat) : Int) - 1 = (i : Int) - 1 := by omega
      rw [e2, e3]
      generalize atN xs i = o at *
      cases o
      simp_all

theorem TxtOk.nonneg {o : NodeR} (h : TxtOk o) : 0 ≤ o.k := by
  rcases h.2 with ⟨h, _⟩ | ⟨h, _⟩ | ⟨h, _⟩ | ⟨h | h | h, _⟩ <;> omega

/-- A tree in order is the nodes of a tree. -/
theorem tree_of_ord {xs : List NodeR} (h : InOrd xs) : ∃ T, Sh T ∧ tsz T = xs.length ∧ xs = nd T 0 := by
  obtain ⟨T, hs, hz, hl⟩ := tree_of_frS xs (fun i hi => (h.2.2.2 i hi).nonneg) xs.length (xs.length - 1) 0 (by have := h.1; omega) (by have := h.1; omega) h.2.2.1
  have e : tsz T = xs.length := by have := h.1; omega
  exact ⟨T, hs, e, nd_of_lies hl e.symm⟩

/-- The root of a tree, as a node without places. -/
def rt (b : Nat) (t : ByteArray) : NodeR := ⟨(b : Int), t, 0, 0⟩

/-- A group around a tree, where its level asks for one. -/
def clT (ns : List OpR) (b : Nat) (t : ByteArray) (least : Int) (T : ET) : ET := if levN ns (rt b t) < least then .node 6 0 ByteArray.empty T .nil else T

/-- The tree anew, in a hole with that least. -/
def grT (ns : List OpR) : ET → Int → ET
  | .nil, _ => .nil
  | .node b _ t l r, least => if b = 6 then grT ns l least else clT ns b t least (.node b 0 t (grT ns l (holeN ns (rt b t) false)) (grT ns r (holeN ns (rt b t) true)))

/-- The value of a tree in the program. -/
def exT (ns : List OpR) : ET → Value
  | .nil => .nilIface
  | .node b _ t l r => exN (opA ns (rt b t)) (rt b t) (exT ns l) (exT ns r)

theorem levN_rt (ns : List OpR) (o : NodeR) (b : Nat) (t : ByteArray) (h1 : o.k = (b : Int)) (h2 : o.t = t) : levN ns o = levN ns (rt b t) := by
  unfold levN rt; rw [h1, h2]
theorem holeN_rt (ns : List OpR) (o : NodeR) (b : Nat) (t : ByteArray) (h1 : o.k = (b : Int)) (h2 : o.t = t) (c : Bool) : holeN ns o c = holeN ns (rt b t) c := by
  unfold holeN rt; rw [h1, h2]
theorem opA_rt (ns : List OpR) (o : NodeR) (b : Nat) (t : ByteArray) (h1 : o.k = (b : Int)) (h2 : o.t = t) : opA ns o = opA ns (rt b t) := by
  unfold opA rt; rw [h1, h2]
theorem exN_rt (p : OpR) (o : NodeR) (b : Nat) (t : ByteArray) (h1 : o.k = (b : Int)) (h2 : o.t = t) (e e' : Value) : exN p o e e' = exN p (rt b t) e e' := by
  unfold exN rt; rw [h1, h2]

theorem grT_sh (ns : List OpR) : ∀ (T : ET) (l : Int), Sh T → Sh (grT ns T l) := by
  intro T
  induction T with
  | nil => intro l h; exact h.elim
  | node b o t l r ihl ihr =>
    rintro least ⟨h0, h⟩
    simp only [grT]
    split
    · rename_i h6
      subst h6
      rcases h with ⟨hk, _⟩ | ⟨_, hl, _⟩ | ⟨hk, _⟩
      · exact absurd hk (by decide)
      · exact ihl _ hl
      · exact absurd hk (by decide)
    · have : Sh (.node b 0 t (grT ns l (holeN ns (rt b t) false)) (grT ns r (holeN ns (rt b t) true))) := by
        refine ⟨rfl, ?_⟩
        rcases h with ⟨hk, rfl, rfl⟩ | ⟨hk, hl, rfl⟩ | ⟨hk, hl, hr⟩
        · exact Or.inl ⟨hk, rfl, rfl⟩
        · exact Or.inr (Or.inl ⟨hk, ihl _ hl, rfl⟩)
        · exact Or.inr (Or.inr ⟨hk, ihl _ hl, ihr _ hr⟩)
      unfold clT
      split
      · exact ⟨rfl, Or.inr (Or.inl ⟨by decide, this, rfl⟩)⟩
      · exact this

theorem clos_nd (ns : List OpR) (o : NodeR) (b : Nat) (t : ByteArray) (h1 : o.k = (b : Int)) (h2 : o.t = t) (least : Int) (s : Nat) (T : ET) (u : List NodeR) (hu : u = nd T s) : clos ns o least s u = nd (clT ns b t least T) s := by
  subst hu
  unfold clos clT
  rw [levN_rt ns o b t h1 h2]
  split
  · simp only [nd, tN, nd_len, tsz]
    simp [show kids 6 = 1 from rfl, show kids ((6 : Nat) : Int) = 1 from rfl]
  · rfl

/-- The stretch anew is the nodes of the tree anew. -/
theorem gS_tree (ns : List OpR) (xs : List NodeR) : ∀ (T : ET) (s : Nat), Sh T → Lies xs T s → ∀ (l : Int) (p : Nat), gS ns xs (s + tsz T - 1) l p = nd (grT ns T l) p := by
  intro T
  induction T with
  | nil => intro s h; exact h.elim
  | node b o t l r ihl ihr =>
    rintro s ⟨h0, hsh⟩ ⟨h1, h2, h3⟩ least p
    have e : s + tsz (.node b o t l r) - 1 = s + tsz l + tsz r := by simp only [tsz]; omega
    rw [e]
    have hK : (atN xs (s + tsz l + tsz r)).k = (b : Int) := by rw [h3]; rfl
    have hT : (atN xs (s + tsz l + tsz r)).t = t := by rw [h3]; rfl
    have hb6 : ((atN xs (s + tsz l + tsz r)).k = 6) ↔ b = 6 := by rw [hK]; omega
    rcases hsh with ⟨hk, rfl, rfl⟩ | ⟨hk, hl, rfl⟩ | ⟨hk, hl, hr⟩
    · have hk' : kids (atN xs (s + tsz (BT.nil : ET) + tsz (BT.nil : ET))).k = 0 := by rw [hK]; exact hk
      have h6 : ¬ b = 6 := fun e => by subst e; exact absurd hk (by decide)
      rw [gS_zero hk']
      simp only [grT, if_neg h6]
      refine clos_nd ns _ b t hK hT least p _ _ ?_
      rw [hK, hT]
      simp [nd, tN, hk, tsz, grT]
    · have hp := hl.pos
      simp only [tsz, Nat.add_zero] at hK hT hb6 h3 ⊢
      have hk' : kids (atN xs (s + tsz l)).k = 1 := by rw [hK]; exact hk
      have hfr := frS_of_lies l s hl h1
      by_cases h6 : b = 6
      · rw [gS_group (hb6.2 h6) (by omega) hfr, ihl s hl h1]
        simp only [grT, if_pos h6]
      · rw [gS_one hk' (fun x => h6 (hb6.1 x)) (by omega) hfr least p (ihl s hl h1 _ p).symm]
        simp only [grT, if_neg h6]
        rw [holeN_rt ns _ b t hK hT]
        refine clos_nd ns _ b t hK hT least p _ _ ?_
        simp [nd, tN, hK, hT, hk, tsz, nd_len, grT]
    · have hp := hl.pos
      have hq := hr.pos
      have hk' : kids (atN xs (s + tsz l + tsz r)).k = 2 := by rw [hK]; exact hk
      have h6 : ¬ b = 6 := fun e => by subst e; exact absurd hk (by decide)
      have f2 := frS_of_lies r (s + tsz l) hr h2
      have f1 := frS_of_lies l s hl h1
      rw [gS_two hk' (by omega) f2 (by omega) (by rw [h3]; simp [tN, hk]) f1 least p (ihl s hl h1 _ p).symm (ihr (s + tsz l) hr h2 _ _).symm]
      simp only [grT, if_neg h6]
      rw [holeN_rt ns _ b t hK hT, holeN_rt ns _ b t hK hT]
      refine clos_nd ns _ b t hK hT least p _ _ ?_
      rw [hK, hT]
      simp [nd, tN, hk, tsz, nd_len, Nat.add_assoc]

theorem closV_ex (ns : List OpR) (o : NodeR) (b : Nat) (t : ByteArray) (h1 : o.k = (b : Int)) (h2 : o.t = t) (least : Int) (T : ET) (e : Value) (he : e = exT ns T) : closV ns o least e = exT ns (clT ns b t least T) := by
  subst he
  unfold closV clT
  rw [levN_rt ns o b t h1 h2]
  split
  · simp [exT, exN, rt]
  · rfl

/-- So is its value. -/
theorem fS_tree (ns : List OpR) (xs : List NodeR) : ∀ (T : ET) (s : Nat), Sh T → Lies xs T s → ∀ (l : Int), fS ns xs (s + tsz T - 1) l = exT ns (grT ns T l) := by
  intro T
  induction T with
  | nil => intro s h; exact h.elim
  | node b o t l r ihl ihr =>
    rintro s ⟨h0, hsh⟩ ⟨h1, h2, h3⟩ least
    have e : s + tsz (.node b o t l r) - 1 = s + tsz l + tsz r := by simp only [tsz]; omega
    rw [e]
    have hK : (atN xs (s + tsz l + tsz r)).k = (b : Int) := by rw [h3]; rfl
    have hT : (atN xs (s + tsz l + tsz r)).t = t := by rw [h3]; rfl
    have hb6 : ((atN xs (s + tsz l + tsz r)).k = 6) ↔ b = 6 := by rw [hK]; omega
    rcases hsh with ⟨hk, rfl, rfl⟩ | ⟨hk, hl, rfl⟩ | ⟨hk, hl, hr⟩
    · have hk' : kids (atN xs (s + tsz (BT.nil : ET) + tsz (BT.nil : ET))).k = 0 := by rw [hK]; exact hk
      have h6 : ¬ b = 6 := fun e => by subst e; exact absurd hk (by decide)
      rw [fS_zero hk']
      simp only [grT, if_neg h6]
      refine closV_ex ns _ b t hK hT least _ _ ?_
      rw [opA_rt ns _ b t hK hT, exN_rt _ _ b t hK hT]
      simp [exT, grT]
    · have hp := hl.pos
      simp only [tsz, Nat.add_zero] at hK hT hb6 h3 ⊢
      have hk' : kids (atN xs (s + tsz l)).k = 1 := by rw [hK]; exact hk
      have hfr := frS_of_lies l s hl h1
      by_cases h6 : b = 6
      · rw [fS_group (hb6.2 h6) (by omega) hfr, ihl s hl h1]
        simp only [grT, if_pos h6]
      · rw [fS_one hk' (fun x => h6 (hb6.1 x)) (by omega) hfr, ihl s hl h1]
        simp only [grT, if_neg h6]
        rw [holeN_rt ns _ b t hK hT]
        refine closV_ex ns _ b t hK hT least _ _ ?_
        rw [opA_rt ns _ b t hK hT, exN_rt _ _ b t hK hT]
        simp [exT, grT]
    · have hp := hl.pos
      have hq := hr.pos
      have hk' : kids (atN xs (s + tsz l + tsz r)).k = 2 := by rw [hK]; exact hk
      have h6 : ¬ b = 6 := fun e => by subst e; exact absurd hk (by decide)
      have f2 := frS_of_lies r (s + tsz l) hr h2
      have f1 := frS_of_lies l s hl h1
      rw [fS_two hk' (by omega) f2 (by omega) (by rw [h3]; simp [tN, hk]) f1, ihl s hl h1, ihr (s + tsz l) hr h2]
      simp only [grT, if_neg h6]
      rw [holeN_rt ns _ b t hK hT, holeN_rt ns _ b t hK hT]
      refine closV_ex ns _ b t hK hT least _ _ ?_
      rw [opA_rt ns _ b t hK hT, exN_rt _ _ b t hK hT]
      simp [exT]
end Go.Proofs.YtfboipappaonhaaGreat

/-
  The words of a tree, and the text that they make.
-/
namespace Go.Proofs.YtfboipappaonhaaGreat
set_option maxRecDepth 100000
set_option linter.unusedSimpArgs false
set_option linter.unusedVariables false
open Go.RowKit
open Go.Deep (BT)

/-- A word: its text; whether it is an operator, and one between two operands. -/
structure WordR where
  t : ByteArray
  o : Bool
  i : Bool

def WordR.zero : WordR := ⟨⟨#[]⟩, false, false⟩
def atW (xs : List WordR) (i : Nat) : WordR := xs.getD i WordR.zero

def opn : ByteArray := ⟨#[40]⟩
def cls1 : ByteArray := ⟨#[41]⟩
def blk : ByteArray := ⟨#[32]⟩

/-- A sign of a text: what it is (1 a number, 2 a name, 3 an operator ahead of its operand, 4 one between two, 5 one behind, 6 and 7 brackets, 8 the end), and its text. -/
abbrev SyR := Nat × ByteArray

/-- The signs of a tree. -/
def ySy : ET → List SyR
  | .nil => []
  | .node b _ t l r =>
    if b = 6 then (6, opn) :: (ySy l ++ [(7, cls1)])
    else if b = 3 then (3, t) :: ySy l
    else if b = 5 then ySy l ++ [(5, t)]
    else if b = 4 then ySy l ++ ((4, t) :: ySy r)
    else [(b, t)]

/-- The word of a sign. -/
def wS (s : SyR) : WordR := ⟨s.2, decide (3 ≤ s.1 ∧ s.1 ≤ 5), decide (s.1 = 4)⟩

/-- The words of a tree. -/
def yT (T : ET) : List WordR := (ySy T).map wS

theorem ySy_pos : ∀ {T : ET}, Sh T → 1 ≤ (ySy T).length
  | .nil, h => h.elim
  | .node b o t l r, h => by
    simp only [ySy]
    split
    · simp
    · split
      · simp
      · split
        · simp
        · split
          · simp; omega
          · simp

/-- No tree begins with an operator between two operands, or behind one. -/
theorem ySy_first : ∀ {T : ET}, Sh T → ∀ s r, ySy T = s :: r → s.1 ≠ 4 ∧ s.1 ≠ 5 ∧ s.1 ≠ 7 ∨ s.1 > 6 ∨ s.1 = 0 := by
  intro T
  induction T with
  | nil => intro h; exact h.elim
  | node b o t l r ihl ihr =>
    rintro ⟨_, h⟩ s q hq
    have app : ∀ ys : List SyR, Sh l → ySy l ++ ys = s :: q → s.1 ≠ 4 ∧ s.1 ≠ 5 ∧ s.1 ≠ 7 ∨ s.1 > 6 ∨ s.1 = 0 := fun ys hl he => by
      have hp := ySy_pos hl
      cases e : ySy l with
      | nil => rw [e] at hp; simp at hp
      | cons a c =>
        rw [e, List.cons_append] at he
        injection he with h1 h2
        subst h1
        exact ihl hl a c e
    simp only [ySy] at hq
    split at hq
    · injection hq with h1 h2; subst h1; exact Or.inl ⟨by simp, by simp, by simp⟩
    · split at hq
      · injection hq with h1 h2; subst h1; exact Or.inl ⟨by simp, by simp, by simp⟩
      · split at hq
        · rename_i h5
          subst h5
          rcases h with ⟨hk, _⟩ | ⟨_, hl, _⟩ | ⟨hk, _⟩
          · exact absurd hk (by decide)
          · exact app _ hl hq
          · exact absurd hk (by decide)
        · split at hq
          · rename_i h4
            subst h4
            rcases h with ⟨hk, _⟩ | ⟨hk, _⟩ | ⟨_, hl, _⟩
            · exact absurd hk (by decide)
            · exact absurd hk (by decide)
            · exact app _ hl hq
          · injection hq with h1 h2
            subst h1
            show b ≠ 4 ∧ b ≠ 5 ∧ b ≠ 7 ∨ b > 6 ∨ b = 0
            omega

theorem yT_pos {T : ET} (h : Sh T) : 1 ≤ (yT T).length := by
  rw [yT, List.length_map]
  exact ySy_pos h

theorem yT_first {T : ET} (h : Sh T) : (atW (yT T) 0).i = false := by
  cases e : ySy T with
  | nil => have := ySy_pos h; rw [e] at this; simp at this
  | cons s r =>
    have h1 : s.1 ≠ 4 := by
      rcases ySy_first h s r e with ⟨h1, _⟩ | h1 | h1 <;> omega
    simp [yT, e, atW, wS, h1]

/-- A blank stands between two words. -/
def gapW (a b : WordR) : Bool := b.i || a.i || (b.o && a.o)

/-- The bytes of the first k words. -/
def txTo (ws : List WordR) : Nat → List UInt8
  | 0 => []
  | k + 1 => txTo ws k ++ ((if k ≠ 0 ∧ gapW (atW ws (k - 1)) (atW ws k) = true then [32] else []) ++ (atW ws k).t.data.toList)

/-- The kind of a word, as the program numbers it. -/
def kW (x : WordR) : Int := if x.i then 3 else if x.o then 2 else 1

def blankB (a b : Int) : Bool := decide (a = 3 ∨ b = 3 ∨ (a = 2 ∧ b = 2))

/-- The program's pieces, one word more. -/
def put1 (st : List ByteArray × Int) (x : WordR) : List ByteArray × Int := (st.1 ++ ((if blankB st.2 (kW x) then [blk] else []) ++ [x.t]), kW x)

def flat (ps : List ByteArray) : List UInt8 := (ps.map (fun s => s.data.toList)).flatten

theorem flat_append (a b : List ByteArray) : flat (a ++ b) = flat a ++ flat b := by simp [flat]

theorem kW_blank (a b : WordR) : blankB (kW a) (kW b) = gapW a b := by
  unfold kW blankB gapW
  cases a.i <;> cases b.i <;> cases a.o <;> cases b.o <;> decide

theorem kW_first (x : WordR) (h : x.i = false) : blankB 0 (kW x) = false := by
  unfold kW blankB
  rw [h]
  cases x.o <;> decide

theorem take_snocW (ws : List WordR) (k : Nat) (h : k < ws.length) : ws.take (k + 1) = ws.take k ++ [atW ws k] := by
  rw [List.take_succ_eq_append_getElem h]
  simp [atW, List.getD, h]

theorem pieces_text (ws : List WordR) (h0 : (atW ws 0).i = false) : ∀ k, k ≤ ws.length → flat ((ws.take k).foldl put1 ([], 0)).1 = txTo ws k ∧ ((ws.take k).foldl put1 ([], 0)).2 = (if k = 0 then 0 else kW (atW ws (k - 1)))
  | 0, _ => by simp [flat, txTo]
  | k + 1, hk => by
    obtain ⟨e1, e2⟩ := pieces_text ws h0 k (by omega)
    rw [take_snocW ws k (by omega), List.foldl_append]
    simp only [List.foldl_cons, List.foldl_nil, put1, flat_append, e1, e2, txTo]
    refine ⟨?_, by simp⟩
    congr 1
    by_cases hk0 : k = 0
    · subst hk0
      simp [kW_first _ h0, flat]
    · have hb := kW_blank (atW ws (k - 1)) (atW ws k)
      simp only [if_neg hk0, hk0, ne_eq, not_false_eq_true, true_and]
      by_cases hg : gapW (atW ws (k - 1)) (atW ws k) = true
      · simp [hg, hb, flat, blk]
      · simp [hg, hb, flat]

/-- How many bytes the words have. -/
def totW (ws : List WordR) : Nat := (ws.map (fun x => x.t.size)).sum

theorem totW_append (a b : List WordR) : totW (a ++ b) = totW a + totW b := by simp [totW]

end Go.Proofs.YtfboipappaonhaaGreat

/-
  The plain mathematics of parsing: the operator-precedence reader finds the one admissible tree of a row of signs.
-/
namespace Go.Proofs.YtfboipappaonhaaGreat
set_option maxRecDepth 100000
set_option linter.unusedSimpArgs false
set_option linter.unusedVariables false
open Go.RowKit
open Go.Deep (BT)

/-- Level, least of a hole, sort of a sign; it is that of an operator of the table. -/
def sLv (ns : List OpR) (s : SyR) : Int := levN ns (rt s.1 s.2)
def sH (ns : List OpR) (s : SyR) (b : Bool) : Int := holeN ns (rt s.1 s.2) b
def sSo (ns : List OpR) (s : SyR) : Int := srt (opA ns (rt s.1 s.2)).k (opA ns (rt s.1 s.2)).sd
def knB (ns : List OpR) (s : SyR) : Bool := (fnd ns s.2 ((s.1 : Int) - 2)).isSome

/-- What is known of an operator of a valid table. -/
structure OpF (ns : List OpR) (s : SyR) : Prop where
  lo : 1 ≤ sLv ns s
  hi : sLv ns s ≤ 1000
  pre : s.1 = 3 → sH ns s false = sLv ns s ∧ sSo ns s = 2
  post : s.1 = 5 → sH ns s false = sLv ns s ∧ sSo ns s = 1
  mid : s.1 = 4 → (sSo ns s = 1 ∧ sH ns s false = sLv ns s ∧ sH ns s true = sLv ns s + 1) ∨ (sSo ns s = 2 ∧ sH ns s false = sLv ns s + 1 ∧ sH ns s true = sLv ns s) ∨ (sSo ns s = 3 ∧ sH ns s false = sLv ns s + 1 ∧ sH ns s true = sLv ns s + 1)

theorem valid_parts {ns : List OpR} (h : IsCode ns 0) : okTo ns ns.length ∧ ¬ Pr 4 ns := by
  rcases h with ⟨h, _⟩ | ⟨_, ⟨h, _⟩ | ⟨hok, ⟨h, _⟩ | ⟨_, ⟨h, _⟩ | ⟨_, h4⟩⟩⟩⟩
  · exact absurd h (by decide)
  · exact absurd h (by decide)
  · exact absurd h (by decide)
  · exact absurd h (by decide)
  · exact ⟨hok, h4⟩

theorem sy_at {ns : List OpR} {s : SyR} (hk : knB ns s = true) : ∃ j, j < ns.length ∧ fnd ns s.2 ((s.1 : Int) - 2) = some j ∧ (atO ns j).k = (s.1 : Int) - 2 ∧ opA ns (rt s.1 s.2) = atO ns j := by
  unfold knB at hk
  obtain ⟨j, hj⟩ := Option.isSome_iff_exists.1 hk
  have := fnd_some hj
  refine ⟨j, this.1, hj, this.2.2, ?_⟩
  unfold opA rt
  simp only
  rw [hj]

theorem opF {ns : List OpR} (h : IsCode ns 0) {s : SyR} (hs : s.1 = 3 ∨ s.1 = 4 ∨ s.1 = 5) (hk : knB ns s = true) : OpF ns s := by
  obtain ⟨j, hj, hf, hkk, ho⟩ := sy_at hk
  have hok := (valid_parts h).1 j hj
  have hlv : sLv ns s = (atO ns j).l := by
    unfold sLv levN rt
    simp only
    rw [if_pos (by omega), hf]
  have hh : ∀ b, sH ns s b = holeI (atO ns j).s (atO ns j).k (atO ns j).l (atO ns j).sd b := fun b => by
    unfold sH holeN rt
    simp only
    rw [hf]
    rfl
  have hso : sSo ns s = srt (atO ns j).k (atO ns j).sd := by unfold sSo; rw [ho]
  have hok' : okB (atO ns j).s (atO ns j).k (atO ns j).l (atO ns j).sd = true := hok
  have hok2 := hok'
  unfold okB sideB at hok2
  simp only [Bool.and_eq_true, Bool.or_eq_true, decide_eq_true_eq, beq_iff_eq] at hok2
  obtain ⟨⟨⟨_, h1⟩, h2⟩, h3⟩ := hok2
  refine ⟨by omega, by omega, fun e => ?_, fun e => ?_, fun e => ?_⟩
  · have k1 : (atO ns j).k = 1 := by omega
    rw [hh, hlv, hso, holeI, srt, k1]
    simp_all
  · have k1 : (atO ns j).k = 3 := by omega
    rw [hh, hlv, hso, holeI, srt, k1]
    simp_all
  · have k1 : (atO ns j).k = 2 := by omega
    rw [hh, hh, hlv, hso, holeI, holeI, srt, k1]
    rw [k1] at hok' h3
    rw [hok']
    have h3' : (atO ns j).sd = 1 ∨ (atO ns j).sd = 2 ∨ (atO ns j).sd = 3 := by simp at h3; omega
    rcases h3' with e | e | e <;> simp [infI, e]

theorem same_sort {ns : List OpR} (h : IsCode ns 0) {s s' : SyR} (hs : s.1 = 3 ∨ s.1 = 4 ∨ s.1 = 5) (hs' : s'.1 = 3 ∨ s'.1 = 4 ∨ s'.1 = 5) (hk : knB ns s = true) (hk' : knB ns s' = true) (he : sLv ns s = sLv ns s') : sSo ns s = sSo ns s' := by
  obtain ⟨j, hj, hf, hkk, ho⟩ := sy_at hk
  obtain ⟨j', hj', hf', hkk', ho'⟩ := sy_at hk'
  have hlv : sLv ns s = (atO ns j).l := by unfold sLv levN rt; simp only; rw [if_pos (by omega), hf]
  have hlv' : sLv ns s' = (atO ns j').l := by unfold sLv levN rt; simp only; rw [if_pos (by omega), hf']
  unfold sSo
  rw [ho, ho']
  by_cases hd : srt (atO ns j).k (atO ns j).sd = srt (atO ns j').k (atO ns j').sd
  · exact hd
  · exfalso
    apply (valid_parts h).2
    rcases Nat.lt_trichotomy j j' with e | e | e
    · exact ⟨j', j, e, hj', by simp [cl]; exact ⟨by omega, fun x => hd x.symm⟩⟩
    · subst e; exact absurd rfl hd
    · exact ⟨j, j', e, hj, by simp [cl]; exact ⟨by omega, hd⟩⟩

/-- The level of a tree. -/
def lvT (ns : List OpR) : ET → Int
  | .nil => 1001
  | .node b _ t _ _ => sLv ns (b, t)

/-- A tree over the table that is admissible. -/
def GoodT (ns : List OpR) : ET → Prop
  | .nil => False
  | .node b o t l r => o = 0 ∧ (((b = 1 ∨ b = 2) ∧ l = .nil ∧ r = .nil) ∨
      (b = 6 ∧ t = ByteArray.empty ∧ GoodT ns l ∧ r = .nil) ∨
      ((b = 3 ∨ b = 5) ∧ knB ns (b, t) = true ∧ GoodT ns l ∧ r = .nil ∧ sH ns (b, t) false ≤ lvT ns l) ∨
      (b = 4 ∧ knB ns (b, t) = true ∧ GoodT ns l ∧ GoodT ns r ∧ sH ns (b, t) false ≤ lvT ns l ∧ sH ns (b, t) true ≤ lvT ns r))

theorem lv_closed (ns : List OpR) (b : Nat) (t : ByteArray) (h : ¬ (b = 3 ∨ b = 4 ∨ b = 5)) : sLv ns (b, t) = 1001 := by
  unfold sLv levN rt
  simp only
  rw [if_neg (by omega)]

theorem GoodT.sh {ns : List OpR} : ∀ {T : ET}, GoodT ns T → Sh T
  | .nil, h => h.elim
  | .node b o t l r, ⟨h0, h⟩ => by
    refine ⟨h0, ?_⟩
    rcases h with ⟨h | h, rfl, rfl⟩ | ⟨rfl, _, hl, rfl⟩ | ⟨h | h, _, hl, rfl, _⟩ | ⟨rfl, _, hl, hr, _⟩
    · subst h; exact Or.inl ⟨by decide, rfl, rfl⟩
    · subst h; exact Or.inl ⟨by decide, rfl, rfl⟩
    · exact Or.inr (Or.inl ⟨by decide, hl.sh, rfl⟩)
    · subst h; exact Or.inr (Or.inl ⟨by decide, hl.sh, rfl⟩)
    · subst h; exact Or.inr (Or.inl ⟨by decide, hl.sh, rfl⟩)
    · exact Or.inr (Or.inr ⟨by decide, hl.sh, hr.sh⟩)

/-- The reader: an operand of at least a level from the front (none), or what goes on behind one (some). -/
def rd (ns : List OpR) : Nat → Int → Option ET → List SyR → Option (ET × List SyR)
  | 0, _, _, _ => none
  | _ + 1, _, none, [] => none
  | n + 1, least, none, s :: r =>
    if s.1 = 3 then (if sLv ns s < least then none else (match rd ns n (sH ns s false) none r with
      | none => none
      | some x => rd ns n least (some (.node 3 0 s.2 x.1 .nil)) x.2))
    else if s.1 = 6 then (match rd ns n 0 none r with
      | none => none
      | some x => rd ns n least (some (.node 6 0 ByteArray.empty x.1 .nil)) x.2.tail)
    else rd ns n least (some (.node s.1 0 s.2 .nil .nil)) r
  | _ + 1, _, some T, [] => some (T, [])
  | n + 1, least, some T, s :: r =>
    if s.1 = 4 ∧ least ≤ sLv ns s then (if lvT ns T < sH ns s false then none else (match rd ns n (sH ns s true) none r with
      | none => none
      | some x => rd ns n least (some (.node 4 0 s.2 T x.1)) x.2))
    else if s.1 = 5 ∧ least ≤ sLv ns s then (if lvT ns T < sH ns s false then none else rd ns n least (some (.node 5 0 s.2 T .nil)) r)
    else some (T, s :: r)

theorem rd_len (ns : List OpR) : ∀ n least md ss x, rd ns n least md ss = some x → x.2.length ≤ ss.length
  | 0, _, _, _, _, h => by simp [rd] at h
  | n + 1, least, none, [], x, h => by simp [rd] at h
  | n + 1, least, none, s :: r, x, h => by
    simp only [rd] at h
    split at h
    · split at h
      · cases h
      · split at h
        · cases h
        · rename_i y hy
          have h1 := rd_len ns n _ _ _ _ hy
          have h2 := rd_len ns n _ _ _ _ h
          simp only [List.length_cons]; omega
    · split at h
      · split at h
        · cases h
        · rename_i y hy
          have h1 := rd_len ns n _ _ _ _ hy
          have h2 := rd_len ns n _ _ _ _ h
          have h3 : y.2.tail.length ≤ y.2.length := by simp
          simp only [List.length_cons]; omega
      · have h2 := rd_len ns n _ _ _ _ h
        simp only [List.length_cons]; omega
  | n + 1, least, some T, [], x, h => by
    simp only [rd, Option.some.injEq] at h
    subst h; simp
  | n + 1, least, some T, s :: r, x, h => by
    simp only [rd] at h
    split at h
    · split at h
      · cases h
      · split at h
        · cases h
        · rename_i y hy
          have h1 := rd_len ns n _ _ _ _ hy
          have h2 := rd_len ns n _ _ _ _ h
          simp only [List.length_cons]; omega
    · split at h
      · split at h
        · cases h
        · have h2 := rd_len ns n _ _ _ _ h
          simp only [List.length_cons]; omega
      · simp only [Option.some.injEq] at h
        subst h; simp

theorem rd_fuel (ns : List OpR) : ∀ n m least md ss, ss.length < n → ss.length < m → rd ns n least md ss = rd ns m least md ss
  | 0, _, _, _, _, h, _ => absurd h (Nat.not_lt_zero _)
  | _ + 1, 0, _, _, _, _, h => absurd h (Nat.not_lt_zero _)
  | n + 1, m + 1, least, none, [], _, _ => by simp [rd]
  | n + 1, m + 1, least, some T, [], _, _ => by simp [rd]
  | n + 1, m + 1, least, none, s :: r, h, h' => by
    simp only [List.length_cons] at h h'
    have e1 := fun l => rd_fuel ns n m l none r (by omega) (by omega)
    have e2 := fun l md q => fun (hq : q.length ≤ r.length) => rd_fuel ns n m l md q (by omega) (by omega)
    simp only [rd, e1]
    split
    · split
      · rfl
      · cases hy : rd ns m (sH ns s false) none r with
        | none => rfl
        | some y => exact e2 _ _ _ (rd_len ns m _ _ _ _ hy)
    · split
      · cases hy : rd ns m 0 none r with
        | none => rfl
        | some y => exact e2 _ _ _ (by have := rd_len ns m _ _ _ _ hy; simp; omega)
      · exact e2 _ _ _ (Nat.le_refl _)
  | n + 1, m + 1, least, some T, s :: r, h, h' => by
    simp only [List.length_cons] at h h'
    have e1 := fun l => rd_fuel ns n m l none r (by omega) (by omega)
    have e2 := fun l md q => fun (hq : q.length ≤ r.length) => rd_fuel ns n m l md q (by omega) (by omega)
    simp only [rd, e1]
    split
    · split
      · rfl
      · cases hy : rd ns m (sH ns s true) none r with
        | none => rfl
        | some y => exact e2 _ _ _ (rd_len ns m _ _ _ _ hy)
    · split
      · split
        · rfl
        · exact e2 _ _ _ (Nat.le_refl _)
      · rfl

/-- The reader, with as many steps as it may want. -/
def RD (ns : List OpR) (least : Int) (md : Option ET) (ss : List SyR) : Option (ET × List SyR) := rd ns (ss.length + 1) least md ss

theorem rd_RD (ns : List OpR) (n : Nat) (least : Int) (md : Option ET) (ss : List SyR) (h : ss.length < n) : rd ns n least md ss = RD ns least md ss :=
  rd_fuel ns _ _ _ _ _ h (Nat.lt_succ_self _)

theorem RD_none (ns : List OpR) (least : Int) (s : SyR) (r : List SyR) : RD ns least none (s :: r) =
    if s.1 = 3 then (if sLv ns s < least then none else (match RD ns (sH ns s false) none r with
      | none => none
      | some x => RD ns least (some (.node 3 0 s.2 x.1 .nil)) x.2))
    else if s.1 = 6 then (match RD ns 0 none r with
      | none => none
      | some x => RD ns least (some (.node 6 0 ByteArray.empty x.1 .nil)) x.2.tail)
    else RD ns least (some (.node s.1 0 s.2 .nil .nil)) r := by
  have e : RD ns least none (s :: r) = rd ns (r.length + 1 + 1) least none (s :: r) := rfl
  have e1 : ∀ l, rd ns (r.length + 1) l none r = RD ns l none r := fun l => rfl
  have e2 : ∀ l md q, q.length ≤ r.length → rd ns (r.length + 1) l md q = RD ns l md q := fun l md q hq => rd_RD ns _ l md q (by omega)
  rw [e]
  simp only [rd, e1]
  split
  · split
    · rfl
    · cases hy : RD ns (sH ns s false) none r with
      | none => rfl
      | some y => exact e2 _ _ _ (rd_len ns _ _ _ _ _ hy)
  · split
    · cases hy : RD ns 0 none r with
      | none => rfl
      | some y => exact e2 _ _ _ (by have := rd_len ns _ _ _ _ _ hy; simp; omega)
    · rfl

theorem RD_some (ns : List OpR) (least : Int) (T : ET) (s : SyR) (r : List SyR) : RD ns least (some T) (s :: r) =
    if s.1 = 4 ∧ least ≤ sLv ns s then (if lvT ns T < sH ns s false then none else (match RD ns (sH ns s true) none r with
      | none => none
      | some x => RD ns least (some (.node 4 0 s.2 T x.1)) x.2))
    else if s.1 = 5 ∧ least ≤ sLv ns s then (if lvT ns T < sH ns s false then none else RD ns least (some (.node 5 0 s.2 T .nil)) r)
    else some (T, s :: r) := by
  have e : RD ns least (some T) (s :: r) = rd ns (r.length + 1 + 1) least (some T) (s :: r) := rfl
  have e1 : ∀ l, rd ns (r.length + 1) l none r = RD ns l none r := fun l => rfl
  have e2 : ∀ l md q, q.length ≤ r.length → rd ns (r.length + 1) l md q = RD ns l md q := fun l md q hq => rd_RD ns _ l md q (by omega)
  rw [e]
  simp only [rd, e1]
  split
  · split
    · rfl
    · cases hy : RD ns (sH ns s true) none r with
      | none => rfl
      | some y => exact e2 _ _ _ (rd_len ns _ _ _ _ _ hy)
  · split
    · split
      · rfl
      · rfl
    · rfl

/-- No operator that stands next goes on with an operand of that level. -/
def StopS (ns : List OpR) (least : Int) (ss : List SyR) : Prop := ∀ s r, ss = s :: r → (s.1 = 4 ∨ s.1 = 5) → sLv ns s < least

theorem RD_stop {ns : List OpR} {least : Int} {ss : List SyR} (h : StopS ns least ss) (T : ET) : RD ns least (some T) ss = some (T, ss) := by
  cases ss with
  | nil => rfl
  | cons s r =>
    have hs := h s r rfl
    rw [RD_some, if_neg (fun x => by have := hs (Or.inl x.1); omega), if_neg (fun x => by have := hs (Or.inr x.1); omega)]

/-- Nor with one at the right end of a tree. -/
def RStop (ns : List OpR) : ET → List SyR → Prop
  | .nil, _ => True
  | .node b _ t l r, ss => (b = 3 → StopS ns (sH ns (b, t) false) ss ∧ RStop ns l ss) ∧ (b = 4 → StopS ns (sH ns (b, t) true) ss ∧ RStop ns r ss)

theorem stop_other {ns : List OpR} {least : Int} {s : SyR} {r : List SyR} (h : ¬ (s.1 = 4 ∨ s.1 = 5)) : StopS ns least (s :: r) := fun s' r' e hs => by
  injection e with e1 e2
  subst e1
  exact absurd hs h

theorem rstop_other {ns : List OpR} {s : SyR} {r : List SyR} (h : ¬ (s.1 = 4 ∨ s.1 = 5)) : ∀ T : ET, RStop ns T (s :: r)
  | .nil => trivial
  | .node b o t l q => ⟨fun _ => ⟨stop_other h, rstop_other h l⟩, fun _ => ⟨stop_other h, rstop_other h q⟩⟩

theorem stop_nil {ns : List OpR} {least : Int} : StopS ns least [] := fun s r e => by cases e

theorem rstop_above {ns : List OpR} (hv : IsCode ns 0) {q : SyR} {r : List SyR} : ∀ T : ET, GoodT ns T → sLv ns q < lvT ns T → RStop ns T (q :: r) := by
  intro T
  induction T with
  | nil => intro h; exact h.elim
  | node b o t l rr ihl ihr =>
    rintro ⟨_, h⟩ hq
    have st : ∀ m : Int, sLv ns q < m → StopS ns m (q :: r) := fun m hm s' r' e _ => by
      injection e with e1 e2
      subst e1
      exact hm
    refine ⟨fun e => ?_, fun e => ?_⟩
    · subst e
      rcases h with ⟨h | h, _⟩ | ⟨h, _⟩ | ⟨_, hk, hl, _, hh⟩ | ⟨h, _⟩
      · omega
      · omega
      · omega
      · have f := (opF hv (Or.inl rfl) hk).pre rfl
        simp only [lvT] at hq
        exact ⟨st _ (by omega), ihl hl (by omega)⟩
      · omega
    · subst e
      rcases h with ⟨h | h, _⟩ | ⟨h, _⟩ | ⟨h | h, _⟩ | ⟨_, hk, hl, hr, h1, h2⟩
      · omega
      · omega
      · omega
      · omega
      · omega
      · have f := (opF hv (Or.inr (Or.inl rfl)) hk).mid rfl
        simp only [lvT] at hq
        exact ⟨st _ (by omega), ihr hr (by omega)⟩

/-- A tree that fits into the first hole of an operator stops there. -/
theorem rstop_fit {ns : List OpR} (hv : IsCode ns 0) {q : SyR} {r : List SyR} (hq : q.1 = 4 ∨ q.1 = 5) (hkq : knB ns q = true) : ∀ T : ET, GoodT ns T → sH ns q false ≤ lvT ns T → RStop ns T (q :: r) := by
  intro T hT hle
  have fq := opF hv (by omega) hkq
  have hh : sH ns q false = sLv ns q + 1 ∨ (sH ns q false = sLv ns q ∧ sSo ns q = 1) := by
    rcases hq with e | e
    · rcases fq.mid e with h | h | h
      · exact Or.inr ⟨h.2.1, h.1⟩
      · exact Or.inl h.2.1
      · exact Or.inl h.2.1
    · exact Or.inr (fq.post e)
  by_cases hlt : sLv ns q < lvT ns T
  · exact rstop_above hv T hT hlt
  · have heq : lvT ns T = sLv ns q ∧ sSo ns q = 1 := by
      rcases hh with h | ⟨h, h'⟩
      · omega
      · exact ⟨by omega, h'⟩
    cases T with
    | nil => exact hT.elim
    | node b o t l rr =>
      obtain ⟨_, h⟩ := hT
      simp only [lvT] at heq
      have st : ∀ m : Int, sLv ns q < m → StopS ns m (q :: r) := fun m hm s' r' e _ => by
        injection e with e1 e2
        subst e1
        exact hm
      refine ⟨fun e => ?_, fun e => ?_⟩
      · subst e
        rcases h with ⟨h | h, _⟩ | ⟨h, _⟩ | ⟨_, hk, hl, _, hh⟩ | ⟨h, _⟩
        · omega
        · omega
        · omega
        · have f := (opF hv (Or.inl rfl) hk).pre rfl
          have := same_sort hv (s := (3, t)) (s' := q) (Or.inl rfl) (by omega) hk hkq heq.1
          omega
        · omega
      · subst e
        rcases h with ⟨h | h, _⟩ | ⟨h, _⟩ | ⟨h | h, _⟩ | ⟨_, hk, hl, hr, h1, h2⟩
        · omega
        · omega
        · omega
        · omega
        · omega
        · have f := (opF hv (Or.inr (Or.inl rfl)) hk).mid rfl
          have := same_sort hv (s := (4, t)) (s' := q) (Or.inr (Or.inl rfl)) (by omega) hk hkq heq.1
          have e2 : sH ns (4, t) true = sLv ns (4, t) + 1 := by
            rcases f with h | h | h
            · exact h.2.2
            · omega
            · omega
          exact ⟨st _ (by omega), rstop_above hv rr hr (by omega)⟩

/-- The reader finds an admissible tree. -/
theorem rd_finds {ns : List OpR} (hv : IsCode ns 0) : ∀ (T : ET), GoodT ns T → ∀ (least : Int) (rest : List SyR), least ≤ lvT ns T → RStop ns T rest → RD ns least none (ySy T ++ rest) = RD ns least (some T) rest := by
  intro T
  induction T with
  | nil => intro h; exact h.elim
  | node b o t l r ihl ihr =>
    rintro ⟨rfl, h⟩ least rest hle hst
    simp only [lvT] at hle
    rcases h with ⟨h12, rfl, rfl⟩ | ⟨rfl, rfl, hl, rfl⟩ | ⟨h35, hk, hl, rfl, hh⟩ | ⟨rfl, hk, hl, hr, h1, h2⟩
    · have e : ySy (.node b 0 t .nil .nil) = [(b, t)] := by
        simp only [ySy]
        rw [if_neg (by omega), if_neg (by omega), if_neg (by omega), if_neg (by omega)]
      rw [e]
      show RD ns least none ((b, t) :: rest) = _
      rw [RD_none]
      simp only
      rw [if_neg (by omega), if_neg (by omega)]
    · have e : ySy (.node 6 0 ByteArray.empty l .nil) ++ rest = (6, opn) :: (ySy l ++ ((7, cls1) :: rest)) := by
        simp [ySy]
      rw [e, RD_none]
      simp only
      rw [if_neg (by decide), if_pos trivial]
      have hs : ¬ ((7, cls1) : SyR).1 = 4 ∧ ¬ ((7, cls1) : SyR).1 = 5 := ⟨by decide, by decide⟩
      have h0 : (0 : Int) ≤ lvT ns l := by
        cases l with
        | nil => exact hl.elim
        | node bb oo tt ll rr =>
          simp only [lvT]
          by_cases hb : bb = 3 ∨ bb = 4 ∨ bb = 5
          · have hkn : knB ns (bb, tt) = true := by
              rcases hl.2 with ⟨h | h, _⟩ | ⟨h, _⟩ | ⟨_, hk, _⟩ | ⟨_, hk, _⟩
              · omega
              · omega
              · omega
              · exact hk
              · exact hk
            have := (opF hv (s := (bb, tt)) hb hkn).lo
            omega
          · rw [lv_closed ns bb tt hb]; omega
      rw [ihl hl 0 _ h0 (rstop_other (by omega) l), RD_stop (stop_other (by omega))]
      rfl
    · rcases h35 with rfl | rfl
      · have f := (opF hv (Or.inl rfl) hk).pre rfl
        have e : ySy (.node 3 0 t l .nil) ++ rest = (3, t) :: (ySy l ++ rest) := by simp [ySy]
        obtain ⟨hst1, hst2⟩ := hst.1 rfl
        rw [e, RD_none]
        simp only
        rw [if_pos trivial, if_neg (by omega), ihl hl _ rest hh hst2, RD_stop hst1]
      · have f := (opF hv (Or.inr (Or.inr rfl)) hk).post rfl
        have e : ySy (.node 5 0 t l .nil) ++ rest = ySy l ++ ((5, t) :: rest) := by simp [ySy]
        rw [e, ihl hl least _ (by omega) (rstop_fit hv (q := (5, t)) (Or.inr rfl) hk l hl hh), RD_some]
        simp only
        rw [if_neg (by omega), if_pos ⟨trivial, hle⟩, if_neg (by omega)]
    · have f := (opF hv (Or.inr (Or.inl rfl)) hk).mid rfl
      have e : ySy (.node 4 0 t l r) ++ rest = ySy l ++ ((4, t) :: (ySy r ++ rest)) := by simp [ySy]
      obtain ⟨hst1, hst2⟩ := hst.2 rfl
      rw [e, ihl hl least _ (by omega) (rstop_fit hv (q := (4, t)) (Or.inl rfl) hk l hl h1), RD_some]
      simp only
      rw [if_pos ⟨trivial, hle⟩, if_neg (by omega), ihr hr _ rest h2 hst2, RD_stop hst1]

end Go.Proofs.YtfboipappaonhaaGreat
