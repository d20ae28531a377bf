import Derived.Deep.Trees
import Derived.Test.YtokabkhnidlcnabGreatR05

/-
  The program's inner trees, as values: what stands for a node, and for a node in a hole.
-/
namespace Go.Proofs.YtokabkhnidlcnabGreat
set_option maxRecDepth 100000
set_option linter.unusedSimpArgs false
set_option linter.unusedVariables false
open Go.RowKit

def eNum (t : ByteArray) : Value := .iface 162 (.agg #[.string t])
def eName (t : ByteArray) : Value := .iface 164 (.agg #[.string t])
def ePre (p : OpR) (e : Value) : Value := .iface 170 (.agg #[.string p.s, .int .i64 p.k, .int .i64 p.l, .int .i64 p.sd, e])
def ePost (p : OpR) (e : Value) : Value := .iface 173 (.agg #[.string p.s, .int .i64 p.k, .int .i64 p.l, .int .i64 p.sd, e])
def eInf (p : OpR) (e e' : Value) : Value := .iface 172 (.agg #[.string p.s, .int .i64 p.k, .int .i64 p.l, .int .i64 p.sd, e, e'])
def eGrp (e : Value) : Value := .iface 175 (.agg #[e])

/-- The operator of a node. -/
def opA (ns : List OpR) (o : NodeR) : OpR := match fnd ns o.t (o.k - 2) with
  | some j => atO ns j
  | none => ⟨ByteArray.empty, 0, 0, 0⟩

/-- A node over its kids. -/
def exN (p : OpR) (o : NodeR) (e e' : Value) : Value :=
  if o.k = 1 then eNum o.t else if o.k = 2 then eName o.t else if o.k = 3 then ePre p e else if o.k = 4 then eInf p e e' else if o.k = 5 then ePost p e else eGrp e

/-- The first k nodes. -/
def exL (ns : List OpR) (xs : List NodeR) : Nat → List Value
  | 0 => []
  | k + 1 => exL ns xs k ++ [exN (opA ns (atN xs k)) (atN xs k) ((exL ns xs k).getD (atN xs k).a.toNat .nilIface) ((exL ns xs k).getD (atN xs k).b.toNat .nilIface)]

theorem exL_len (ns : List OpR) (xs : List NodeR) : ∀ k, (exL ns xs k).length = k
  | 0 => rfl
  | k + 1 => by simp [exL, exL_len ns xs k]

def exS (ns : List OpR) (xs : List NodeR) (i : Nat) : Value := (exL ns xs (i + 1)).getD i .nilIface

theorem exS_is (ns : List OpR) (xs : List NodeR) (i : Nat) : exS ns xs i = exN (opA ns (atN xs i)) (atN xs i) ((exL ns xs i).getD (atN xs i).a.toNat .nilIface) ((exL ns xs i).getD (atN xs i).b.toNat .nilIface) := by
  have h := exL_len ns xs i
  unfold exS
  show (exL ns xs i ++ [_]).getD i .nilIface = _
  simp [List.getD, List.getElem?_append, h]

theorem exL_get (ns : List OpR) (xs : List NodeR) : ∀ k i, i < k → (exL ns xs k).getD i .nilIface = exS ns xs i
  | 0, _, h => absurd h (Nat.not_lt_zero _)
  | k + 1, i, h => by
    by_cases e : i = k
    · subst e; rfl
    · have hl := exL_len ns xs k
      rw [← exL_get ns xs k i (by omega)]
      show (exL ns xs k ++ [_]).getD i .nilIface = _
      simp [List.getD, List.getElem?_append, hl, (by omega : i < k)]

theorem exS_one {ns : List OpR} {xs : List NodeR} {i : Nat} (h1 : 1 ≤ i) (ha : (atN xs i).a = (i : Int) - 1) (e' : Value) (hk : kids (atN xs i).k = 1) : exS ns xs i = exN (opA ns (atN xs i)) (atN xs i) (exS ns xs (i - 1)) e' := by
  rw [exS_is, ha]
  have : ((i : Int) - 1).toNat = i - 1 := by omega
  rw [this, exL_get ns xs i (i - 1) (by omega)]
  have h4 : (atN xs i).k ≠ 4 := fun e => by rw [e] at hk; simp [kids] at hk
  simp only [exN, if_neg h4]

theorem exS_two {ns : List OpR} {xs : List NodeR} {i j : Nat} (h1 : 1 ≤ i) (ha : (atN xs i).a = (j : Int)) (hj : j < i) (hb : (atN xs i).b = (i : Int) - 1) : exS ns xs i = exN (opA ns (atN xs i)) (atN xs i) (exS ns xs j) (exS ns xs (i - 1)) := by
  rw [exS_is, ha, hb]
  have : ((i : Int) - 1).toNat = i - 1 := by omega
  rw [this, exL_get ns xs i (i - 1) (by omega), Int.toNat_natCast, exL_get ns xs i j hj]

/-- Brackets, where they are wanted. -/
def closV (ns : List OpR) (o : NodeR) (least : Int) (e : Value) : Value := if levN ns o < least then eGrp e else e

/-- Node i in a hole with that least. -/
def ft (ns : List OpR) (xs : List NodeR) : Nat → Nat → Int → Value
  | 0, _, _ => .nilIface
  | n + 1, i, least =>
    if (atN xs i).k = 6 then ft ns xs n (i - 1) least
    else if kids (atN xs i).k = 0 then closV ns (atN xs i) least (exN (opA ns (atN xs i)) (atN xs i) .nilIface .nilIface)
    else if kids (atN xs i).k = 1 then closV ns (atN xs i) least (exN (opA ns (atN xs i)) (atN xs i) (ft ns xs n (i - 1) (holeN ns (atN xs i) false)) .nilIface)
    else closV ns (atN xs i) least (exN (opA ns (atN xs i)) (atN xs i) (ft ns xs n (atN xs i).a.toNat (holeN ns (atN xs i) false)) (ft ns xs n (i - 1) (holeN ns (atN xs i) true)))

theorem ft_fuel (ns : List OpR) (xs : List NodeR) : ∀ n m i f, i < n → i < m → frS xs i = some f → ∀ l, ft ns xs n i l = ft ns xs m i l
  | 0, _, _, _, h, _, _ => absurd h (Nat.not_lt_zero _)
  | _ + 1, 0, _, _, _, h, _ => absurd h (Nat.not_lt_zero _)
  | n + 1, m + 1, i, f, h, h', hf => by
    intro l
    rcases frS_some hf with ⟨hk, ha, hb, hfi⟩ | ⟨hk, h1i, ha, hbb, hf1⟩ | ⟨hk, h1i, hbb, f2, hf2, h2f, ha, hf1⟩
    · have h6 : (atN xs i).k ≠ 6 := fun e => by rw [e] at hk; simp [kids] at hk
      simp only [ft, if_neg h6, hk, if_true]
    · have e := ft_fuel ns xs n m (i - 1) f (by omega) (by omega) hf1
      simp only [ft, e]
      by_cases h6 : (atN xs i).k = 6
      · rw [if_pos h6, if_pos h6]
      · simp only [if_neg h6, hk, if_true, Nat.one_ne_zero, if_false]
    · have h6 : (atN xs i).k ≠ 6 := fun e => by rw [e] at hk; simp [kids] at hk
      have hle := frS_le hf2
      have e1 := ft_fuel ns xs n m (i - 1) f2 (by omega) (by omega) hf2
      have e2 := ft_fuel ns xs n m (f2 - 1) f (by omega) (by omega) hf1
      have ea : (atN xs i).a.toNat = f2 - 1 := by omega
      simp only [ft, if_neg h6, ea, e1, e2]

def fS (ns : List OpR) (xs : List NodeR) (i : Nat) (l : Int) : Value := ft ns xs (i + 1) i l

theorem fS_zero {ns : List OpR} {xs : List NodeR} {i : Nat} (hk : kids (atN xs i).k = 0) (l : Int) : fS ns xs i l = closV ns (atN xs i) l (exN (opA ns (atN xs i)) (atN xs i) .nilIface .nilIface) := by
  have h6 : (atN xs i).k ≠ 6 := fun e => by rw [e] at hk; simp [kids] at hk
  simp only [fS, ft, if_neg h6, hk, if_true]

theorem fS_group {ns : List OpR} {xs : List NodeR} {i f : Nat} (hk : (atN xs i).k = 6) (h1 : 1 ≤ i) (hf : frS xs (i - 1) = some f) (l : Int) : fS ns xs i l = fS ns xs (i - 1) l := by
  have e : fS ns xs i l = ft ns xs i (i - 1) l := by simp only [fS, ft, if_pos hk]
  rw [e]
  exact ft_fuel ns xs _ _ _ f (by omega) (by omega) hf l

theorem fS_one {ns : List OpR} {xs : List NodeR} {i f : Nat} (hk : kids (atN xs i).k = 1) (h6 : (atN xs i).k ≠ 6) (h1 : 1 ≤ i) (hf : frS xs (i - 1) = some f) (l : Int) :
    fS ns xs i l = closV ns (atN xs i) l (exN (opA ns (atN xs i)) (atN xs i) (fS ns xs (i - 1) (holeN ns (atN xs i) false)) .nilIface) := by
  have e := ft_fuel ns xs i (i - 1 + 1) (i - 1) f (by omega) (by omega) hf
  unfold fS
  conv => lhs; unfold ft
  simp only [if_neg h6, hk, if_true, Nat.one_ne_zero, if_false, e]

theorem fS_two {ns : List OpR} {xs : List NodeR} {i f f2 : Nat} (hk : kids (atN xs i).k = 2) (h1 : 1 ≤ i) (hf2 : frS xs (i - 1) = some f2) (h2 : 1 ≤ f2) (ha : (atN xs i).a = (f2 : Int) - 1) (hf : frS xs (f2 - 1) = some f) (l : Int) :
    fS ns xs i l = closV ns (atN xs i) l (exN (opA ns (atN xs i)) (atN xs i) (fS ns xs (f2 - 1) (holeN ns (atN xs i) false)) (fS ns xs (i - 1) (holeN ns (atN xs i) true))) := by
  have h6 : (atN xs i).k ≠ 6 := fun e => by rw [e] at hk; simp [kids] at hk
  have hle := frS_le hf2
  have e1 := ft_fuel ns xs i (i - 1 + 1) (i - 1) f2 (by omega) (by omega) hf2
  have e2 := ft_fuel ns xs i (f2 - 1 + 1) (f2 - 1) f (by omega) (by omega) hf
  have ea : (atN xs i).a.toNat = f2 - 1 := by omega
  unfold fS
  conv => lhs; unfold ft
  simp only [if_neg h6, ea, e1, e2, hk]
  rfl
end Go.Proofs.YtokabkhnidlcnabGreat

/-
  Trees as such: the nodes of a tree in order, the tree in a hole, its value in the program.
-/
namespace Go.Proofs.YtokabkhnidlcnabGreat
set_option maxRecDepth 100000
set_option linter.unusedSimpArgs false
set_option linter.unusedVariables false
open Go.RowKit
open Go.Deep (BT)

abbrev ET := BT ByteArray

def tsz : ET → Nat
  | .nil => 0
  | .node _ _ _ l r => tsz l + tsz r + 1

/-- The node over two kids, behind s nodes. -/
def tN (b : Nat) (t : ByteArray) (l r : ET) (s : Nat) : NodeR :=
  ⟨(b : Int), t, if kids (b : Int) = 0 then 0 else ((s + tsz l : Nat) : Int) - 1, if kids (b : Int) = 2 then ((s + tsz l + tsz r : Nat) : Int) - 1 else 0⟩

/-- The nodes of a tree, behind s nodes. -/
def nd : ET → Nat → List NodeR
  | .nil, _ => []
  | .node b _ t l r, s => nd l s ++ nd r (s + tsz l) ++ [tN b t l r s]

theorem nd_len : ∀ (T : ET) (s : Nat), (nd T s).length = tsz T
  | .nil, _ => rfl
  | .node b o t l r, s => by simp [nd, tsz, nd_len l, nd_len r]; omega

/-- Each node has the kids that its kind asks for. -/
def Sh : ET → Prop
  | .nil => False
  | .node b o _ l r => o = 0 ∧ ((kids (b : Int) = 0 ∧ l = .nil ∧ r = .nil) ∨ (kids (b : Int) = 1 ∧ Sh l ∧ r = .nil) ∨ (kids (b : Int) = 2 ∧ Sh l ∧ Sh r))

theorem Sh.pos : ∀ {T : ET}, Sh T → 1 ≤ tsz T
  | .nil, h => h.elim
  | .node _ _ _ _ _, _ => by simp [tsz]

/-- The nodes of a tree lie in a row, from place s on. -/
def Lies (xs : List NodeR) : ET → Nat → Prop
  | .nil, _ => True
  | .node b _ t l r, s => Lies xs l s ∧ Lies xs r (s + tsz l) ∧ atN xs (s + tsz l + tsz r) = tN b t l r s

theorem atN_append_left {xs ys : List NodeR} {i : Nat} (h : i < xs.length) : atN (xs ++ ys) i = atN xs i := by
  simp [atN, List.getD, List.getElem?_append, h]
theorem atN_append_right {xs ys : List NodeR} {i : Nat} (h : xs.length ≤ i) : atN (xs ++ ys) i = atN ys (i - xs.length) := by
  simp [atN, List.getD, List.getElem?_append_right h]

theorem Lies.congr {xs ys : List NodeR} : ∀ {T : ET} {s : Nat}, Lies xs T s → (∀ i, s ≤ i → i < s + tsz T → atN ys i = atN xs i) → Lies ys T s
  | .nil, _, _, _ => trivial
  | .node b o t l r, s, ⟨h1, h2, h3⟩, h => by
    simp only [tsz] at h
    refine ⟨h1.congr fun i hi hi2 => h i hi (by omega), h2.congr fun i hi hi2 => h i (by omega) (by omega), ?_⟩
    rw [h _ (by omega) (by omega)]
    exact h3

theorem lies_nd (pre post : List NodeR) : ∀ (T : ET) (s : Nat), s = pre.length → Lies (pre ++ (nd T s ++ post)) T s := by
  intro T
  induction T generalizing pre post with
  | nil => intro _ _; trivial
  | node b o t l r ihl ihr =>
    intro s hs
    subst hs
    refine ⟨?_, ?_, ?_⟩
    · have := ihl pre (nd r (pre.length + tsz l) ++ [tN b t l r pre.length] ++ post) pre.length rfl
      simpa [nd, List.append_assoc] using this
    · have := ihr (pre ++ nd l pre.length) ([tN b t l r pre.length] ++ post) (pre.length + tsz l) (by simp [nd_len])
      simpa [nd, List.append_assoc] using this
    · rw [atN_append_right (by omega)]
      have e : pre.length + tsz l + tsz r - pre.length = tsz l + tsz r := by omega
      rw [e, atN_append_left (by simp [nd, nd_len])]
      simp only [nd]
      rw [atN_append_right (by simp [nd_len])]
      simp [nd_len, atN]

theorem lies_self (T : ET) : Lies (nd T 0) T 0 := by
  have := lies_nd [] [] T 0 rfl
  simpa using this

theorem atN_lies_nd {xs : List NodeR} : ∀ (T : ET) (s : Nat), Lies xs T s → ∀ j, j < tsz T → atN xs (s + j) = atN (nd T s) j := by
  intro T
  induction T with
  | nil => intro s _ j hj; simp [tsz] at hj
  | node b o t l r ihl ihr =>
    rintro s ⟨h1, h2, h3⟩ j hj
    simp only [tsz] at hj
    simp only [nd]
    by_cases c1 : j < tsz l
    · rw [ihl s h1 j c1, List.append_assoc, atN_append_left (by rw [nd_len]; exact c1)]
    · by_cases c2 : j < tsz l + tsz r
      · have := ihr (s + tsz l) h2 (j - tsz l) (by omega)
        have e : s + tsz l + (j - tsz l) = s + j := by omega
        rw [e] at this
        rw [this, atN_append_left (by simp [nd_len]; omega), atN_append_right (by rw [nd_len]; omega), nd_len]
      · have e : j = tsz l + tsz r := by omega
        subst e
        rw [← Nat.add_assoc, h3, atN_append_right (by simp [nd_len])]
        simp [nd_len, atN]

/-- A row that is as long as the tree is its nodes. -/
theorem nd_of_lies {xs : List NodeR} {T : ET} (h : Lies xs T 0) (hl : xs.length = tsz T) : xs = nd T 0 := by
  apply List.ext_getElem (by rw [nd_len, hl])
  intro i h1 h2
  have := atN_lies_nd T 0 h i (by omega)
  rw [Nat.zero_add] at this
  simpa [atN, List.getD, h1, h2] using this

/-- The stretch of a tree's root. -/
theorem frS_of_lies {xs : List NodeR} : ∀ (T : ET) (s : Nat), Sh T → Lies xs T s → frS xs (s + tsz T - 1) = some s := by
  intro T
  induction T with
  | nil => intro s h; exact h.elim
  | node b o t l r ihl ihr =>
    rintro s ⟨_, hsh⟩ ⟨h1, h2, h3⟩
    have e : s + tsz (.node b o t l r) - 1 = s + tsz l + tsz r := by simp only [tsz]; omega
    rw [e]
    rcases hsh with ⟨hk, rfl, rfl⟩ | ⟨hk, hl, rfl⟩ | ⟨hk, hl, hr⟩
    · simp only [tsz, Nat.add_zero] at h3 ⊢
      have hk' : kids (atN xs s).k = 0 := by rw [h3]; exact hk
      rw [frS_zero hk', if_pos]
      rw [h3]
      simp [tN, hk]
    · simp only [tsz, Nat.add_zero] at h3 ⊢
      have hp := hl.pos
      have hk' : kids (atN xs (s + tsz l)).k = 1 := by rw [h3]; exact hk
      rw [frS_one hk', if_pos]
      · exact ihl s hl h1
      · rw [h3]
        simp [tN, hk]
        omega
    · have hp := hl.pos
      have hq := hr.pos
      have hk' : kids (atN xs (s + tsz l + tsz r)).k = 2 := by rw [h3]; exact hk
      have f2 := ihr (s + tsz l) hr h2
      rw [frS_two hk' (by omega) (by rw [h3]; simp [tN, hk]) f2 (by omega) (by rw [h3]; simp [tN, hk])]
      exact ihl s hl h1

/-- A stretch is a tree. -/
theorem tree_of_frS (xs : List NodeR) (htx : ∀ i, i < xs.length → 0 ≤ (atN xs i).k) : ∀ n i f, i < n → i < xs.length → frS xs i = some f → ∃ T, Sh T ∧ f + tsz T = i + 1 ∧ Lies xs T f
  | 0, _, _, h, _, _ => absurd h (Nat.not_lt_zero _)
  | n + 1, i, f, h, hi, hf => by
    have hkk : (((atN xs i).k.toNat : Nat) : Int) = (atN xs i).k := Int.toNat_of_nonneg (htx i hi)
    rcases frS_some hf with ⟨hk, ha, hb, hfi⟩ | ⟨hk, h1i, ha, hbb, hf1⟩ | ⟨hk, h1i, hbb, f2, hf2, h2f, ha, hf1⟩
    · refine ⟨.node (atN xs i).k.toNat 0 (atN xs i).t .nil .nil, ⟨rfl, Or.inl ⟨by rw [hkk]; exact hk, rfl, rfl⟩⟩, by simp [tsz]; omega, trivial, trivial, ?_⟩
      simp only [tsz, Nat.add_zero, tN, hkk, hk]
      rw [hfi]
      generalize atN xs i = o at *
      cases o
      simp_all
    · have hle := frS_le hf1
      obtain ⟨T, hs, hz, hl⟩ := tree_of_frS xs htx n (i - 1) f (by omega) (by omega) hf1
      have hp := hs.pos
      refine ⟨.node (atN xs i).k.toNat 0 (atN xs i).t T .nil, ⟨rfl, Or.inr (Or.inl ⟨by rw [hkk]; exact hk, hs, rfl⟩)⟩, by simp [tsz]; omega, hl, trivial, ?_⟩
      have e : f + tsz T + tsz (BT.nil : ET) = i := by simp [tsz]; omega
      rw [e]
      simp only [tN, hkk, hk]
      have e2 : ((f + tsz T : Nat) : Int) - 1 = (i : Int) - 1 := by omega
      rw [e2]
      generalize atN xs i = o at *
      cases o
      simp_all
    · have hle := frS_le hf2
      have hle1 := frS_le hf1
      obtain ⟨T1, hs1, hz1, hl1⟩ := tree_of_frS xs htx n (f2 - 1) f (by omega) (by omega) hf1
      obtain ⟨T2, hs2, hz2, hl2⟩ := tree_of_frS xs htx n (i - 1) f2 (by omega) (by omega) hf2
      have hp := hs1.pos
      have hq := hs2.pos
      have ef : f + tsz T1 = f2 := by omega
      refine ⟨.node (atN xs i).k.toNat 0 (atN xs i).t T1 T2, ⟨rfl, Or.inr (Or.inr ⟨by rw [hkk]; exact hk, hs1, hs2⟩)⟩, by simp [tsz]; omega, hl1, by rw [ef]; exact hl2, ?_⟩
      have e : f + tsz T1 + tsz T2 = i := by omega
      rw [e]
      simp only [tN, hkk, hk]
      have e2 : ((f + tsz T1 : Nat) : Int) - 1 = (f2 : Int) - 1 := by omega
      have e3 : ((f + tsz T1 + tsz T2 : Nat) : Int) - 1 = (i : Int) - 1 := by omega
      rw [e2, e3]
      generalize atN xs i = o at *
      cases o
      simp_all

theorem TxtOk.nonneg {o : NodeR} (h : TxtOk o) : 0 ≤ o.k := by
  rcases h.2 with ⟨h, _⟩ | ⟨h, _⟩ | ⟨h, _⟩ | ⟨h | h | h, _⟩ <;> omega

/-- A tree in order is the nodes of a tree. -/
theorem tree_of_ord {xs : List NodeR} (h : InOrd xs) : ∃ T, Sh T ∧ tsz T = xs.length ∧ xs = nd T 0 := by
  obtain ⟨T, hs, hz, hl⟩ := tree_of_frS xs (fun i hi => (h.2.2.2 i hi).nonneg) xs.length (xs.length - 1) 0 (by have := h.1; omega) (by have := h.1; omega) h.2.2.1
  have e : tsz T = xs.length := by have := h.1; omega
  exact ⟨T, hs, e, nd_of_lies hl e.symm⟩

/-- The root of a tree, as a node without places. -/
def rt (b : Nat) (t : ByteArray) : NodeR := ⟨(b : Int), t, 0, 0⟩

/-- A group around a tree, where its level asks for one. -/
def clT (ns : List OpR) (b : Nat) (t : ByteArray) (least : Int) (T : ET) : ET := if levN ns (rt b t) < least then .node 6 0 ByteArray.empty T .nil else T

/-- The tree anew, in a hole with that least. -/
def grT (ns : List OpR) : ET → Int → ET
  | .nil, _ => .nil
  | .node b _ t l r, least => if b = 6 then grT ns l least else clT ns b t least (.node b 0 t (grT ns l (holeN ns (rt b t) false)) (grT ns r (holeN ns (rt b t) true)))

/-- The value of a tree in the program. -/
def exT (ns : List OpR) : ET → Value
  | .nil => .nilIface
  | .node b _ t l r => exN (opA ns (rt b t)) (rt b t) (exT ns l) (exT ns r)

theorem levN_rt (ns : List OpR) (o : NodeR) (b : Nat) (t : ByteArray) (h1 : o.k = (b : Int)) (h2 : o.t = t) : levN ns o = levN ns (rt b t) := by
  unfold levN rt; rw [h1, h2]
theorem holeN_rt (ns : List OpR) (o : NodeR) (b : Nat) (t : ByteArray) (h1 : o.k = (b : Int)) (h2 : o.t = t) (c : Bool) : holeN ns o c = holeN ns (rt b t) c := by
  unfold holeN rt; rw [h1, h2]
theorem opA_rt (ns : List OpR) (o : NodeR) (b : Nat) (t : ByteArray) (h1 : o.k = (b : Int)) (h2 : o.t = t) : opA ns o = opA ns (rt b t) := by
  unfold opA rt; rw [h1, h2]
theorem exN_rt (p : OpR) (o : NodeR) (b : Nat) (t : ByteArray) (h1 : o.k = (b : Int)) (h2 : o.t = t) (e e' : Value) : exN p o e e' = exN p (rt b t) e e' := by
  unfold exN rt; rw [h1, h2]

theorem grT_sh (ns : List OpR) : ∀ (T : ET) (l : Int), Sh T → Sh (grT ns T l) := by
  intro T
  induction T with
  | nil => intro l h; exact h.elim
  | node b o t l r ihl ihr =>
    rintro least ⟨h0, h⟩
    simp only [grT]
    split
    · rename_i h6
      subst h6
      rcases h with ⟨hk, _⟩ | ⟨_, hl, _⟩ | ⟨hk, _⟩
      · exact absurd hk (by decide)
      · exact ihl _ hl
      · exact absurd hk (by decide)
    · have : Sh (.node b 0 t (grT ns l (holeN ns (rt b t) false)) (grT ns r (holeN ns (rt b t) true))) := by
        refine ⟨rfl, ?_⟩
        rcases h with ⟨hk, rfl, rfl⟩ | ⟨hk, hl, rfl⟩ | ⟨hk, hl, hr⟩
        · exact Or.inl ⟨hk, rfl, rfl⟩
        · exact Or.inr (Or.inl ⟨hk, ihl _ hl, rfl⟩)
        · exact Or.inr (Or.inr ⟨hk, ihl _ hl, ihr _ hr⟩)
      unfold clT
      split
      · exact ⟨rfl, Or.inr (Or.inl ⟨by decide, this, rfl⟩)⟩
      · exact this

theorem clos_nd (ns : List OpR) (o : NodeR) (b : Nat) (t : ByteArray) (h1 : o.k = (b : Int)) (h2 : o.t = t) (least : Int) (s : Nat) (T : ET) (u : List NodeR) (hu : u = nd T s) : clos ns o least s u = nd (clT ns b t least T) s := by
  subst hu
  unfold clos clT
  rw [levN_rt ns o b t h1 h2]
  split
  · simp only [nd, tN, nd_len, tsz]
    simp [show kids 6 = 1 from rfl, show kids ((6 : Nat) : Int) = 1 from rfl]
  · rfl

/-- The stretch anew is the nodes of the tree anew. -/
theorem gS_tree (ns : List OpR) (xs : List NodeR) : ∀ (T : ET) (s : Nat), Sh T → Lies xs T s → ∀ (l : Int) (p : Nat), gS ns xs (s + tsz T - 1) l p = nd (grT ns T l) p := by
  intro T
  induction T with
  | nil => intro s h; exact h.elim
  | node b o t l r ihl ihr =>
    rintro s ⟨h0, hsh⟩ ⟨h1, h2, h3⟩ least p
    have e : s + tsz (.node b o t l r) - 1 = s + tsz l + tsz r := by simp only [tsz]; omega
    rw [e]
    have hK : (atN xs (s + tsz l + tsz r)).k = (b : Int) := by rw [h3]; rfl
    have hT : (atN xs (s + tsz l + tsz r)).t = t := by rw [h3]; rfl
    have hb6 : ((atN xs (s + tsz l + tsz r)).k = 6) ↔ b = 6 := by rw [hK]; omega
    rcases hsh with ⟨hk, rfl, rfl⟩ | ⟨hk, hl, rfl⟩ | ⟨hk, hl, hr⟩
    · have hk' : kids (atN xs (s + tsz (BT.nil : ET) + tsz (BT.nil : ET))).k = 0 := by rw [hK]; exact hk
      have h6 : ¬ b = 6 := fun e => by subst e; exact absurd hk (by decide)
      rw [gS_zero hk']
      simp only [grT, if_neg h6]
      refine clos_nd ns _ b t hK hT least p _ _ ?_
      rw [hK, hT]
      simp [nd, tN, hk, tsz, grT]
    · have hp := hl.pos
      simp only [tsz, Nat.add_zero] at hK hT hb6 h3 ⊢
      have hk' : kids (atN xs (s + tsz l)).k = 1 := by rw [hK]; exact hk
      have hfr := frS_of_lies l s hl h1
      by_cases h6 : b = 6
      · rw [gS_group (hb6.2 h6) (by omega) hfr, ihl s hl h1]
        simp only [grT, if_pos h6]
      · rw [gS_one hk' (fun x => h6 (hb6.1 x)) (by omega) hfr least p (ihl s hl h1 _ p).symm]
        simp only [grT, if_neg h6]
        rw [holeN_rt ns _ b t hK hT]
        refine clos_nd ns _ b t hK hT least p _ _ ?_
        simp [nd, tN, hK, hT, hk, tsz, nd_len, grT]
    · have hp := hl.pos
      have hq := hr.pos
      have hk' : kids (atN xs (s + tsz l + tsz r)).k = 2 := by rw [hK]; exact hk
      have h6 : ¬ b = 6 := fun e => by subst e; exact absurd hk (by decide)
      have f2 := frS_of_lies r (s + tsz l) hr h2
      have f1 := frS_of_lies l s hl h1
      rw [gS_two hk' (by omega) f2 (by omega) (by rw [h3]; simp [tN, hk]) f1 least p (ihl s hl h1 _ p).symm (ihr (s + tsz l) hr h2 _ _).symm]
      simp only [grT, if_neg h6]
      rw [holeN_rt ns _ b t hK hT, holeN_rt ns _ b t hK hT]
      refine clos_nd ns _ b t hK hT least p _ _ ?_
      rw [hK, hT]
      simp [nd, tN, hk, tsz, nd_len, Nat.add_assoc]

theorem closV_ex (ns : List OpR) (o : NodeR) (b : Nat) (t : ByteArray) (h1 : o.k = (b : Int)) (h2 : o.t = t) (least : Int) (T : ET) (e : Value) (he : e = exT ns T) : closV ns o least e = exT ns (clT ns b t least T) := by
  subst he
  unfold closV clT
  rw [levN_rt ns o b t h1 h2]
  split
  · simp [exT, exN, rt]
  · rfl

/-- So is its value. -/
theorem fS_tree (ns : List OpR) (xs : List NodeR) : ∀ (T : ET) (s : Nat), Sh T → Lies xs T s → ∀ (l : Int), fS ns xs (s + tsz T - 1) l = exT ns (grT ns T l) := by
  intro T
  induction T with
  | nil => intro s h; exact h.elim
  | node b o t l r ihl ihr =>
    rintro s ⟨h0, hsh⟩ ⟨h1, h2, h3⟩ least
    have e : s + tsz (.node b o t l r) - 1 = s + tsz l + tsz r := by simp only [tsz]; omega
    rw [e]
    have hK : (atN xs (s + tsz l + tsz r)).k = (b : Int) := by rw [h3]; rfl
    have hT : (atN xs (s + tsz l + tsz r)).t = t := by rw [h3]; rfl
    have hb6 : ((atN xs (s + tsz l + tsz r)).k = 6) ↔ b = 6 := by rw [hK]; omega
    rcases hsh with ⟨hk, rfl, rfl⟩ | ⟨hk, hl, rfl⟩ | ⟨hk, hl, hr⟩
    · have hk' : kids (atN xs (s + tsz (BT.nil : ET) + tsz (BT.nil : ET))).k = 0 := by rw [hK]; exact hk
      have h6 : ¬ b = 6 := fun e => by subst e; exact absurd hk (by decide)
      rw [fS_zero hk']
      simp only [grT, if_neg h6]
      refine closV_ex ns _ b t hK hT least _ _ ?_
      rw [opA_rt ns _ b t hK hT, exN_rt _ _ b t hK hT]
      simp [exT, grT]
    · have hp := hl.pos
      simp only [tsz, Nat.add_zero] at hK hT hb6 h3 ⊢
      have hk' : kids (atN xs (s + tsz l)).k = 1 := by rw [hK]; exact hk
      have hfr := frS_of_lies l s hl h1
      by_cases h6 : b = 6
      · rw [fS_group (hb6.2 h6) (by omega) hfr, ihl s hl h1]
        simp only [grT, if_pos h6]
      · rw [fS_one hk' (fun x => h6 (hb6.1 x)) (by omega) hfr, ihl s hl h1]
        simp only [grT, if_neg h6]
        rw [holeN_rt ns _ b t hK hT]
        refine closV_ex ns _ b t hK hT least _ _ ?_
        rw [opA_rt ns _ b t hK hT, exN_rt _ _ b t hK hT]
        simp [exT, grT]
    · have hp := hl.pos
      have hq := hr.pos
      have hk' : kids (atN xs (s + tsz l + tsz r)).k = 2 := by rw [hK]; exact hk
      have h6 : ¬ b = 6 := fun e => by subst e; exact absurd hk (by decide)
      have f2 := frS_of_lies r (s + tsz l) hr h2
      have f1 := frS_of_lies l s hl h1
      rw [fS_two hk' (by omega) f2 (by omega) (by rw [h3]; simp [tN, hk]) f1, ihl s hl h1, ihr (s + tsz l) hr h2]
      simp only [grT, if_neg h6]
      rw [holeN_rt ns _ b t hK hT, holeN_rt ns _ b t hK hT]
      refine closV_ex ns _ b t hK hT least _ _ ?_
      rw [opA_rt ns _ b t hK hT, exN_rt _ _ b t hK hT]
      simp [exT]
end Go.Proofs.YtokabkhnidlcnabGreat

/-
  The words of a tree, and the text that they make.
-/
namespace Go.Proofs.YtokabkhnidlcnabGreat
set_option maxRecDepth 100000
set_option linter.unusedSimpArgs false
set_option linter.unusedVariables false
open Go.RowKit
open Go.Deep (BT)

/-- A word: its text; whether it is an operator, and one between two operands. -/
structure WordR where
  t : ByteArray
  o : Bool
  i : Bool

def WordR.zero : WordR := ⟨⟨#[]⟩, false, false⟩
def atW (xs : List WordR) (i : Nat) : WordR := xs.getD i WordR.zero

def opn : ByteArray := ⟨#[40]⟩
def cls1 : ByteArray := ⟨#[41]⟩
def blk : ByteArray := ⟨#[32]⟩

/-- A sign of a text: what it is (1 a number, 2 a name, 3 an operator ahead of its operand, 4 one between two, 5 one behind, 6 and 7 brackets, 8 the end), and its text. -/
abbrev SyR := Nat × ByteArray

/-- The signs of a tree. -/
def ySy : ET → List SyR
  | .nil => []
  | .node b _ t l r =>
    if b = 6 then (6, opn) :: (ySy l ++ [(7, cls1)])
    else if b = 3 then (3, t) :: ySy l
    else if b = 5 then ySy l ++ [(5, t)]
    else if b = 4 then ySy l ++ ((4, t) :: ySy r)
    else [(b, t)]

/-- The word of a sign. -/
def wS (s : SyR) : WordR := ⟨s.2, decide (3 ≤ s.1 ∧ s.1 ≤ 5), decide (s.1 = 4)⟩

/-- The words of a tree. -/
def yT (T : ET) : List WordR := (ySy T).map wS

theorem ySy_pos : ∀ {T : ET}, Sh T → 1 ≤ (ySy T).length
  | .nil, h => h.elim
  | .node b o t l r, h => by
    simp only [ySy]
    split
    · simp
    · split
      · simp
      · split
        · simp
        · split
          · simp; omega
          · simp

/-- No tree begins with an operator between two operands, or behind one. -/
theorem ySy_first : ∀ {T : ET}, Sh T → ∀ s r, ySy T = s :: r → s.1 ≠ 4 ∧ s.1 ≠ 5 ∧ s.1 ≠ 7 ∨ s.1 > 6 ∨ s.1 = 0 := by
  intro T
  induction T with
  | nil => intro h; exact h.elim
  | node b o t l r ihl ihr =>
    rintro ⟨_, h⟩ s q hq
    have app : ∀ ys : List SyR, Sh l → ySy l ++ ys = s :: q → s.1 ≠ 4 ∧ s.1 ≠ 5 ∧ s.1 ≠ 7 ∨ s.1 > 6 ∨ s.1 = 0 := fun ys hl he => by
      have hp := ySy_pos hl
      cases e : ySy l with
      | nil => rw [e] at hp; simp at hp
      | cons a c =>
        rw [e, List.cons_append] at he
        injection he with h1 h2
        subst h1
        exact ihl hl a c e
    simp only [ySy] at hq
    split at hq
    · injection hq with h1 h2; subst h1; exact Or.inl ⟨by simp, by simp, by simp⟩
    · split at hq
      · injection hq with h1 h2; subst h1; exact Or.inl ⟨by simp, by simp, by simp⟩
      · split at hq
        · rename_i h5
          subst h5
          rcases h with ⟨hk, _⟩ | ⟨_, hl, _⟩ | ⟨hk, _⟩
          · exact absurd hk (by decide)
          · exact app _ hl hq
          · exact absurd hk (by decide)
        · split at hq
          · rename_i h4
            subst h4
            rcases h with ⟨hk, _⟩ | ⟨hk, _⟩ | ⟨_, hl, _⟩
            · exact absurd hk (by decide)
            · exact absurd hk (by decide)
            · exact app _ hl hq
          · injection hq with h1 h2
            subst h1
            show b ≠ 4 ∧ b ≠ 5 ∧ b ≠ 7 ∨ b > 6 ∨ b = 0
            omega

theorem yT_pos {T : ET} (h : Sh T) : 1 ≤ (yT T).length := by
  rw [yT, List.length_map]
  exact ySy_pos h

theorem yT_first {T : ET} (h : Sh T) : (atW (yT T) 0).i = false := by
  cases e : ySy T with
  | nil => have := ySy_pos h; rw [e] at this; simp at this
  | cons s r =>
    have h1 : s.1 ≠ 4 := by
      rcases ySy_first h s r e with ⟨h1, _⟩ | h1 | h1 <;> omega
    simp [yT, e, atW, wS, h1]

/-- A blank stands between two words. -/
def gapW (a b : WordR) : Bool := b.i || a.i || (b.o && a.o)

/-- The bytes of the first k words. -/
def txTo (ws : List WordR) : Nat → List UInt8
  | 0 => []
  | k + 1 => txTo ws k ++ ((if k ≠ 0 ∧ gapW (atW ws (k - 1)) (atW ws k) = true then [32] else []) ++ (atW ws k).t.data.toList)

/-- The kind of a word, as the program numbers it. -/
def kW (x : WordR) : Int := if x.i then 3 else if x.o then 2 else 1

def blankB (a b : Int) : Bool := decide (a = 3 ∨ b = 3 ∨ (a = 2 ∧ b = 2))

/-- The program's pieces, one word more. -/
def put1 (st : List ByteArray × Int) (x : WordR) : List ByteArray × Int := (st.1 ++ ((if blankB st.2 (kW x) then [blk] else []) ++ [x.t]), kW x)

def flat (ps : List ByteArray) : List UInt8 := (ps.map (fun s => s.data.toList)).flatten

theorem flat_append (a b : List ByteArray) : flat (a ++ b) = flat a ++ flat b := by simp [flat]

theorem kW_blank (a b : WordR) : blankB (kW a) (kW b) = gapW a b := by
  unfold kW blankB gapW
  cases a.i <;> cases b.i <;> cases a.o <;> cases b.o <;> decide

theorem kW_first (x : WordR) (h : x.i = false) : blankB 0 (kW x) = false := by
  unfold kW blankB
  rw [h]
  cases x.o <;> decide

theorem take_snocW (ws : List WordR) (k : Nat) (h : k < ws.length) : ws.take (k + 1) = ws.take k ++ [atW ws k] := by
  rw [List.take_succ_eq_append_getElem h]
  simp [atW, List.getD, h]

theorem pieces_text (ws : List WordR) (h0 : (atW ws 0).i = false) : ∀ k, k ≤ ws.length → flat ((ws.take k).foldl put1 ([], 0)).1 = txTo ws k ∧ ((ws.take k).foldl put1 ([], 0)).2 = (if k = 0 then 0 else kW (atW ws (k - 1)))
  | 0, _ => by simp [flat, txTo]
  | k + 1, hk => by
    obtain ⟨e1, e2⟩ := pieces_text ws h0 k (by omega)
    rw [take_snocW ws k (by omega), List.foldl_append]
    simp only [List.foldl_cons, List.foldl_nil, put1, flat_append, e1, e2, txTo]
    refine ⟨?_, by simp⟩
    congr 1
    by_cases hk0 : k = 0
    · subst hk0
      simp [kW_first _ h0, flat]
    · have hb := kW_blank (atW ws (k - 1)) (atW ws k)
      simp only [if_neg hk0, hk0, ne_eq, not_false_eq_true, true_and]
      by_cases hg : gapW (atW ws (k - 1)) (atW ws k) = true
      · simp [hg, hb, flat, blk]
      · simp [hg, hb, flat]

/-- How many bytes the words have. -/
def totW (ws : List WordR) : Nat := (ws.map (fun x => x.t.size)).sum

theorem totW_append (a b : List WordR) : totW (a ++ b) = totW a + totW b := by simp [totW]

end Go.Proofs.YtokabkhnidlcnabGreat
