import Derived.Test.YtokabkhnidlcnabGreatR07
import Derived.Test.YtokabkhnidlcnabGreatR32

/-
  Well-formed trees over a table; what Group makes of them is admissible.
-/
namespace Go.Proofs.YtokabkhnidlcnabGreat
set_option maxRecDepth 100000
set_option linter.unusedSimpArgs false
set_option linter.unusedVariables false
open Go.RowKit
open Go.Deep (BT)

/-- A tree over the table. -/
def WellT (ns : List OpR) : ET → Prop
  | .nil => False
  | .node b o t l r => o = 0 ∧ (((b = 1 ∨ b = 2) ∧ l = .nil ∧ r = .nil) ∨ (b = 6 ∧ t = ByteArray.empty ∧ WellT ns l ∧ r = .nil) ∨ ((b = 3 ∨ b = 5) ∧ knB ns (b, t) = true ∧ WellT ns l ∧ r = .nil) ∨ (b = 4 ∧ knB ns (b, t) = true ∧ WellT ns l ∧ WellT ns r))

theorem GoodT.well {ns : List OpR} : ∀ {T : ET}, GoodT ns T → WellT ns T
  | .nil, h => h
  | .node b o t l r, ⟨h0, h⟩ => by
    refine ⟨h0, ?_⟩
    rcases h with h | ⟨h1, h2, hl, h3⟩ | ⟨h1, h2, hl, h3, _⟩ | ⟨h1, h2, hl, hr, _⟩
    · exact Or.inl h
    · exact Or.inr (Or.inl ⟨h1, h2, hl.well, h3⟩)
    · exact Or.inr (Or.inr (Or.inl ⟨h1, h2, hl.well, h3⟩))
    · exact Or.inr (Or.inr (Or.inr ⟨h1, h2, hl.well, hr.well⟩))

theorem WellT.sh {ns : List OpR} : ∀ {T : ET}, WellT ns T → Sh T
  | .nil, h => h.elim
  | .node b o t l r, ⟨h0, h⟩ => by
    refine ⟨h0, ?_⟩
    rcases h with ⟨h | h, rfl, rfl⟩ | ⟨rfl, _, hl, rfl⟩ | ⟨h | h, _, hl, rfl⟩ | ⟨rfl, _, hl, hr⟩
    · subst h; exact Or.inl ⟨by decide, rfl, rfl⟩
    · subst h; exact Or.inl ⟨by decide, rfl, rfl⟩
    · exact Or.inr (Or.inl ⟨by decide, hl.sh, rfl⟩)
    · subst h; exact Or.inr (Or.inl ⟨by decide, hl.sh, rfl⟩)
    · subst h; exact Or.inr (Or.inl ⟨by decide, hl.sh, rfl⟩)
    · exact Or.inr (Or.inr ⟨by decide, hl.sh, hr.sh⟩)

theorem op_text {ns : List OpR} {b : Nat} {t : ByteArray} (h : knB ns (b, t) = true) : (opA ns (rt b t)).s = t := by
  obtain ⟨j, hj, hf, hk, ho⟩ := sy_at h
  rw [ho]
  exact (fnd_some hf).2.1

/-- A tree in order whose operators are known. -/
theorem well_lies {ns : List OpR} {xs : List NodeR} (htx : ∀ i, i < xs.length → TxtOk (atN xs i)) (hkn : Knows ns xs) : ∀ (T : ET) (s : Nat), Sh T → Lies xs T s → s + tsz T ≤ xs.length → WellT ns T := by
  intro T
  induction T with
  | nil => intro s h; exact h.elim
  | node b o t l r ihl ihr =>
    rintro s ⟨h0, hsh⟩ ⟨h1, h2, h3⟩ hz
    simp only [tsz] at hz
    have hi : s + tsz l + tsz r < xs.length := by omega
    have ht := htx _ hi
    have hk := hkn _ hi
    rw [h3] at ht hk
    have hk' : isOpN (tN b t l r s) → knB ns (b, t) = true := fun hop => by
      have := hk hop
      unfold knB
      cases e : fnd ns t ((b : Int) - 2) with
      | none => exact absurd e this
      | some j => rfl
    refine ⟨h0, ?_⟩
    rcases ht.2 with ⟨e, _⟩ | ⟨e, _⟩ | ⟨e, e2⟩ | ⟨e, _⟩
    · have e' : b = 1 := by simp only [tN] at e; omega
      subst e'
      rcases hsh with ⟨_, hl, hr⟩ | ⟨hk, _⟩ | ⟨hk, _⟩
      · exact Or.inl ⟨Or.inl rfl, hl, hr⟩
      · exact absurd hk (by decide)
      · exact absurd hk (by decide)
    · have e' : b = 2 := by simp only [tN] at e; omega
      subst e'
      rcases hsh with ⟨_, hl, hr⟩ | ⟨hk, _⟩ | ⟨hk, _⟩
      · exact Or.inl ⟨Or.inr rfl, hl, hr⟩
      · exact absurd hk (by decide)
      · exact absurd hk (by decide)
    · have e' : b = 6 := by simp only [tN] at e; omega
      subst e'
      rcases hsh with ⟨hk, _⟩ | ⟨_, hl, hr⟩ | ⟨hk, _⟩
      · exact absurd hk (by decide)
      · subst hr
        refine Or.inr (Or.inl ⟨rfl, ?_, ihl s hl h1 (by omega), rfl⟩)
        have : t.size = 0 := e2
        exact ByteArray.size_eq_zero_iff.1 this
      · exact absurd hk (by decide)
    · rcases e with e | e | e
      · have e' : b = 3 := by simp only [tN] at e; omega
        subst e'
        rcases hsh with ⟨hk, _⟩ | ⟨_, hl, hr⟩ | ⟨hk, _⟩
        · exact absurd hk (by decide)
        · subst hr
          exact Or.inr (Or.inr (Or.inl ⟨Or.inl rfl, hk' ⟨by simp [tN], by simp [tN]⟩, ihl s hl h1 (by omega), rfl⟩))
        · exact absurd hk (by decide)
      · have e' : b = 4 := by simp only [tN] at e; omega
        subst e'
        rcases hsh with ⟨hk, _⟩ | ⟨hk, _⟩ | ⟨_, hl, hr⟩
        · exact absurd hk (by decide)
        · exact absurd hk (by decide)
        · exact Or.inr (Or.inr (Or.inr ⟨rfl, hk' ⟨by simp [tN], by simp [tN]⟩, ihl s hl h1 (by omega), ihr _ hr h2 (by omega)⟩))
      · have e' : b = 5 := by simp only [tN] at e; omega
        subst e'
        rcases hsh with ⟨hk, _⟩ | ⟨_, hl, hr⟩ | ⟨hk, _⟩
        · exact absurd hk (by decide)
        · subst hr
          exact Or.inr (Or.inr (Or.inl ⟨Or.inr rfl, hk' ⟨by simp [tN], by simp [tN]⟩, ihl s hl h1 (by omega), rfl⟩))
        · exact absurd hk (by decide)

theorem well_of_ord {ns : List OpR} {xs : List NodeR} (h : InOrd xs) (hkn : Knows ns xs) : ∃ T, WellT ns T ∧ tsz T = xs.length ∧ xs = nd T 0 := by
  obtain ⟨T, hs, hz, hx⟩ := tree_of_ord h
  refine ⟨T, well_lies h.2.2.2 hkn T 0 hs (by rw [hx]; exact lies_self T) (by omega), hz, hx⟩

theorem well_grT {ns : List OpR} : ∀ (T : ET) (l : Int), WellT ns T → WellT ns (grT ns T l) := by
  intro T
  induction T with
  | nil => intro l h; exact h.elim
  | node b o t l r ihl ihr =>
    rintro least ⟨h0, h⟩
    simp only [grT]
    split
    · rename_i h6
      subst h6
      rcases h with ⟨h | h, _⟩ | ⟨_, _, hl, _⟩ | ⟨h | h, _⟩ | ⟨h, _⟩
      · omega
      · omega
      · exact ihl _ hl
      · omega
      · omega
      · omega
    · rename_i h6
      have : WellT ns (.node b 0 t (grT ns l (holeN ns (rt b t) false)) (grT ns r (holeN ns (rt b t) true))) := by
        refine ⟨rfl, ?_⟩
        rcases h with ⟨h, rfl, rfl⟩ | ⟨h, _⟩ | ⟨h, hk, hl, rfl⟩ | ⟨h, hk, hl, hr⟩
        · exact Or.inl ⟨h, rfl, rfl⟩
        · exact absurd h h6
        · exact Or.inr (Or.inr (Or.inl ⟨h, hk, ihl _ hl, rfl⟩))
        · exact Or.inr (Or.inr (Or.inr ⟨h, hk, ihl _ hl, ihr _ hr⟩))
      unfold clT
      split
      · exact ⟨rfl, Or.inr (Or.inl ⟨rfl, rfl, this, rfl⟩)⟩
      · exact this

/-- The tree anew is admissible, and fits into its hole. -/
theorem good_grT {ns : List OpR} (hv : IsCode ns 0) : ∀ (T : ET) (l : Int), WellT ns T → l ≤ 1001 → GoodT ns (grT ns T l) ∧ l ≤ lvT ns (grT ns T l) := by
  intro T
  induction T with
  | nil => intro l h; exact h.elim
  | node b o t l r ihl ihr =>
    rintro least ⟨h0, h⟩ hle
    simp only [grT]
    split
    · rename_i h6
      subst h6
      rcases h with ⟨h | h, _⟩ | ⟨_, _, hl, _⟩ | ⟨h | h, _⟩ | ⟨h, _⟩
      · omega
      · omega
      · exact ihl _ hl hle
      · omega
      · omega
      · omega
    · rename_i h6
      have : GoodT ns (.node b 0 t (grT ns l (holeN ns (rt b t) false)) (grT ns r (holeN ns (rt b t) true))) := by
        refine ⟨rfl, ?_⟩
        rcases h with ⟨h, rfl, rfl⟩ | ⟨h, _⟩ | ⟨h, hk, hl, rfl⟩ | ⟨h, hk, hl, hr⟩
        · exact Or.inl ⟨h, rfl, rfl⟩
        · exact absurd h h6
        · have f := opF hv (s := (b, t)) (by omega) hk
          have f1 := f.hi
          have f2 := f.pre
          have f3 := f.post
          have hh : holeN ns (rt b t) false ≤ 1001 := by
            show sH ns (b, t) false ≤ 1001
            rcases h with h | h
            · have := f2 h; omega
            · have := f3 h; omega
          obtain ⟨g, hg⟩ := ihl _ hl hh
          exact Or.inr (Or.inr (Or.inl ⟨h, hk, g, rfl, hg⟩))
        · have f := opF hv (s := (b, t)) (by omega) hk
          have f1 := f.hi
          have f2 := f.mid h
          have hh : holeN ns (rt b t) false ≤ 1001 := by show sH ns (b, t) false ≤ 1001; omega
          have hh2 : holeN ns (rt b t) true ≤ 1001 := by show sH ns (b, t) true ≤ 1001; omega
          obtain ⟨g, hg⟩ := ihl _ hl hh
          obtain ⟨g2, hg2⟩ := ihr _ hr hh2
          exact Or.inr (Or.inr (Or.inr ⟨h, hk, g, g2, hg, hg2⟩))
      unfold clT
      split
      · refine ⟨⟨rfl, Or.inr (Or.inl ⟨rfl, rfl, this, rfl⟩)⟩, ?_⟩
        simp only [lvT]
        rw [lv_closed ns 6 _ (by omega)]
        exact hle
      · rename_i hn
        refine ⟨this, ?_⟩
        simp only [lvT]
        show least ≤ levN ns (rt b t)
        omega
end Go.Proofs.YtokabkhnidlcnabGreat

/-
  The plain mathematics of Print: the tree of a row of nodes, its text.
-/
namespace Go.Proofs.YtokabkhnidlcnabGreat
set_option maxRecDepth 100000
set_option linter.unusedSimpArgs false
set_option linter.unusedVariables false
open Go.RowKit
open Go.Deep (BT)

/-- The tree of the stretch of node i. -/
def trF (xs : List NodeR) : Nat → Nat → ET
  | 0, _ => .nil
  | n + 1, i => if kids (atN xs i).k = 0 then .node (atN xs i).k.toNat 0 (atN xs i).t .nil .nil
    else if kids (atN xs i).k = 1 then .node (atN xs i).k.toNat 0 (atN xs i).t (trF xs n (i - 1)) .nil
    else .node (atN xs i).k.toNat 0 (atN xs i).t (trF xs n (atN xs i).a.toNat) (trF xs n (i - 1))

theorem trF_lies {xs : List NodeR} : ∀ (T : ET) (s : Nat), Sh T → Lies xs T s → ∀ n, tsz T ≤ n → trF xs n (s + tsz T - 1) = T := by
  intro T
  induction T with
  | nil => intro s h; exact h.elim
  | node b o t l r ihl ihr =>
    rintro s ⟨rfl, hsh⟩ ⟨h1, h2, h3⟩ n hn
    simp only [tsz] at hn
    obtain ⟨n, rfl⟩ : ∃ m, n = m + 1 := ⟨n - 1, by omega⟩
    have e : s + tsz (.node b 0 t l r) - 1 = s + tsz l + tsz r := by simp only [tsz]; omega
    rw [e]
    have hK : (atN xs (s + tsz l + tsz r)).k = (b : Int) := by rw [h3]; rfl
    have hT : (atN xs (s + tsz l + tsz r)).t = t := by rw [h3]; rfl
    have hb : ((b : Int)).toNat = b := by omega
    rcases hsh with ⟨hk, rfl, rfl⟩ | ⟨hk, hl, rfl⟩ | ⟨hk, hl, hr⟩
    · simp only [trF, hK, hT, hk, if_true, hb]
    · have hp := hl.pos
      have e2 : s + tsz l + tsz (BT.nil : ET) - 1 = s + tsz l - 1 := by simp [tsz]
      simp only [trF, hK, hT, hk, hb, e2, ihl s hl h1 n (by omega)]
      simp
    · have hp := hl.pos
      have hq := hr.pos
      have ha : (atN xs (s + tsz l + tsz r)).a.toNat = s + tsz l - 1 := by
        rw [h3]
        simp [tN, hk]
        omega
      simp only [trF, hK, hT, hk, hb, ha, ihl s hl h1 n (by omega), ihr (s + tsz l) hr h2 n (by omega)]
      simp

def treeOf (xs : List NodeR) : ET := trF xs xs.length (xs.length - 1)

theorem treeOf_nd {T : ET} (h : Sh T) : treeOf (nd T 0) = T := by
  have := trF_lies T 0 h (lies_self T) (tsz T) (Nat.le_refl _)
  unfold treeOf
  rw [nd_len]
  simpa using this

/-- Every text of a tree has at most 20000 bytes. -/
def TxB : ET → Prop
  | .nil => True
  | .node _ _ t l r => t.size ≤ 20000 ∧ TxB l ∧ TxB r

theorem txB_lies {xs : List NodeR} (htx : ∀ i, i < xs.length → TxtOk (atN xs i)) : ∀ (T : ET) (s : Nat), Lies xs T s → s + tsz T ≤ xs.length → TxB T := by
  intro T
  induction T with
  | nil => intro s _ _; trivial
  | node b o t l r ihl ihr =>
    rintro s ⟨h1, h2, h3⟩ hz
    simp only [tsz] at hz
    have ht := htx (s + tsz l + tsz r) (by omega)
    rw [h3] at ht
    exact ⟨ht.1, ihl s h1 (by omega), ihr _ h2 (by omega)⟩

theorem txB_grT (ns : List OpR) : ∀ (T : ET) (l : Int), TxB T → TxB (grT ns T l) := by
  intro T
  induction T with
  | nil => intro l _; trivial
  | node b o t l r ihl ihr =>
    rintro least ⟨h1, h2, h3⟩
    simp only [grT]
    split
    · exact ihl _ h2
    · unfold clT
      split
      · exact ⟨by decide, ⟨h1, ihl _ h2, ihr _ h3⟩, trivial⟩
      · exact ⟨h1, ihl _ h2, ihr _ h3⟩

theorem txB_words : ∀ (T : ET), TxB T → ∀ s ∈ ySy T, s.2.size ≤ 20000 := by
  intro T
  induction T with
  | nil => intro _ s hs; simp [ySy] at hs
  | node b o t l r ihl ihr =>
    rintro ⟨h1, h2, h3⟩ s hs
    have e1 : opn.size ≤ 20000 := by decide
    have e2 : cls1.size ≤ 20000 := by decide
    simp only [ySy] at hs
    split at hs
    · simp only [List.mem_cons, List.mem_append, List.not_mem_nil, or_false] at hs
      rcases hs with rfl | hs | rfl
      · exact e1
      · exact ihl h2 s hs
      · exact e2
    · split at hs
      · simp only [List.mem_cons] at hs
        rcases hs with rfl | hs
        · exact h1
        · exact ihl h2 s hs
      · split at hs
        · simp only [List.mem_cons, List.mem_append, List.not_mem_nil, or_false] at hs
          rcases hs with hs | rfl
          · exact ihl h2 s hs
          · exact h1
        · split at hs
          · simp only [List.mem_cons, List.mem_append] at hs
            rcases hs with hs | rfl | hs
            · exact ihl h2 s hs
            · exact h1
            · exact ihr h3 s hs
          · simp only [List.mem_cons, List.not_mem_nil, or_false] at hs
            subst hs
            exact h1

theorem ySy_le : ∀ (T : ET), (ySy T).length ≤ 2 * tsz T
  | .nil => by simp [ySy]
  | .node b o t l r => by
    have h1 := ySy_le l
    have h2 := ySy_le r
    simp only [ySy, tsz]
    split
    · simp; omega
    · split
      · simp; omega
      · split
        · simp; omega
        · split
          · simp; omega
          · simp; omega

/-- The bytes of words within a bound. -/
theorem txTo_len (ws : List WordR) (h : ∀ x ∈ ws, x.t.size ≤ 20000) : ∀ k, k ≤ ws.length → (txTo ws k).length ≤ 20001 * k
  | 0, _ => by simp [txTo]
  | k + 1, hk => by
    have ih := txTo_len ws h k (by omega)
    have hx : (atW ws k).t.size ≤ 20000 := h _ (by simp [atW, List.getD, (by omega : k < ws.length)])
    have hx' : (atW ws k).t.data.toList.length ≤ 20000 := by simpa using hx
    simp only [txTo, List.length_append]
    split
    · simp only [List.length_cons, List.length_nil]; omega
    · simp only [List.length_nil]; omega

/-- The text of the words of a tree. -/
def txT (T : ET) : List UInt8 := txTo (yT T) (yT T).length

theorem txT_len {T : ET} (h : TxB T) (n : Nat) (hn : tsz T ≤ n) : (txT T).length ≤ 20001 * (2 * n) := by
  have h1 := ySy_le T
  have h2 := txTo_len (yT T) (fun x hx => by
    simp only [yT, List.mem_map] at hx
    obtain ⟨s, hs, rfl⟩ := hx
    exact txB_words T h s hs) (yT T).length (Nat.le_refl _)
  have h3 : (yT T).length = (ySy T).length := by simp [yT]
  unfold txT
  omega

/-- What Print answers. -/
def PrintIs (ns : List OpR) (xs : List NodeR) (s : ByteArray) (v : Bool) : Prop :=
  (((IsCode ns 0 ∧ InOrd xs ∧ Knows ns xs) ∧ (gS ns xs (xs.length - 1) 0 0).length ≤ 20000) ∧ v = true ∧ s = ⟨(txT (grT ns (treeOf xs) 0)).toArray⟩) ∨
  (¬ ((IsCode ns 0 ∧ InOrd xs ∧ Knows ns xs) ∧ (gS ns xs (xs.length - 1) 0 0).length ≤ 20000) ∧ v = false ∧ s = ⟨#[]⟩)

theorem PrintIs.one {ns : List OpR} {xs : List NodeR} {s s' : ByteArray} {v v' : Bool} (h : PrintIs ns xs s v) (h' : PrintIs ns xs s' v') : s = s' ∧ v = v' := by
  rcases h with ⟨a, rfl, rfl⟩ | ⟨a, rfl, rfl⟩
  · rcases h' with ⟨_, rfl, rfl⟩ | ⟨a', _⟩
    · exact ⟨rfl, rfl⟩
    · exact absurd a a'
  · rcases h' with ⟨a', _⟩ | ⟨_, rfl, rfl⟩
    · exact absurd a' a
    · exact ⟨rfl, rfl⟩

/-- What is known of the tree that is printed. -/
theorem print_tree {ns : List OpR} {xs : List NodeR} (h : (IsCode ns 0 ∧ InOrd xs ∧ Knows ns xs) ∧ (gS ns xs (xs.length - 1) 0 0).length ≤ 20000) :
    ∃ G, G = grT ns (treeOf xs) 0 ∧ GoodT ns G ∧ TxB G ∧ tsz G ≤ 20000 ∧ gS ns xs (xs.length - 1) 0 0 = nd G 0 ∧ fS ns xs (xs.length - 1) 0 = exT ns G := by
  obtain ⟨⟨hv, hord, hkn⟩, hlen⟩ := h
  obtain ⟨T, hT, hz, hx⟩ := well_of_ord hord hkn
  have hto : treeOf xs = T := by rw [hx]; exact treeOf_nd hT.sh
  have hli : Lies xs T 0 := by rw [hx]; exact lies_self T
  have hg := gS_tree ns xs T 0 hT.sh hli 0 0
  have hf := fS_tree ns xs T 0 hT.sh hli 0
  rw [Nat.zero_add, hz] at hg hf
  refine ⟨grT ns (treeOf xs) 0, rfl, ?_, ?_, ?_, ?_, ?_⟩
  · rw [hto]; exact (good_grT hv T 0 hT (by omega)).1
  · rw [hto]; exact txB_grT ns T 0 (txB_lies hord.2.2.2 T 0 hli (by omega))
  · rw [hto, ← nd_len _ 0, ← hg]; exact hlen
  · rw [hto]; exact hg
  · rw [hto]; exact hf
end Go.Proofs.YtokabkhnidlcnabGreat

/-
  What Format answers; what is known of a tree that was read.
-/
namespace Go.Proofs.YtokabkhnidlcnabGreat
set_option maxRecDepth 100000
set_option linter.unusedSimpArgs false
set_option linter.unusedVariables false

/-- What Format answers. -/
def FormIs (ns : List OpR) (s t : ByteArray) (c p : Int) : Prop :=
  ∃ us c0 p0, ParseIs ns s us c0 p0 ∧ ((c0 ≠ 0 ∧ t = ⟨#[]⟩ ∧ c = c0 ∧ p = p0) ∨ (c0 = 0 ∧ (∃ v, PrintIs ns us t v) ∧ c = 0 ∧ p = 0))

theorem FormIs.one {ns : List OpR} {s t t' : ByteArray} {c c' p p' : Int} (h : FormIs ns s t c p) (h' : FormIs ns s t' c' p') : t = t' ∧ c = c' ∧ p = p' := by
  obtain ⟨us, c0, p0, h0, h⟩ := h
  obtain ⟨us', c0', p0', h0', h'⟩ := h'
  obtain ⟨rfl, rfl, rfl⟩ := h0.one h0'
  rcases h with ⟨a, rfl, rfl, rfl⟩ | ⟨a, ⟨v, hv⟩, rfl, rfl⟩
  · rcases h' with ⟨_, rfl, rfl, rfl⟩ | ⟨b, _⟩
    · exact ⟨rfl, rfl, rfl⟩
    · exact absurd b a
  · rcases h' with ⟨b, _⟩ | ⟨_, ⟨v', hv'⟩, rfl, rfl⟩
    · exact absurd a b
    · exact ⟨(hv.one hv').1, rfl, rfl⟩

/-- The texts of a tree's nodes are those of its signs. -/
theorem nd_texts {ns : List OpR} {m : Nat} : ∀ (T : ET), GoodT ns T → (∀ x ∈ ySy T, x.2.size ≤ m) → ∀ (s : Nat), ∀ o ∈ nd T s, o.t.size ≤ m := by
  intro T
  induction T with
  | nil => intro h; exact h.elim
  | node b o t l r ihl ihr =>
    rintro ⟨rfl, h⟩ hy s q hq
    rcases h with ⟨h12, rfl, rfl⟩ | ⟨rfl, rfl, hl, rfl⟩ | ⟨h35, hk, hl, rfl, hh⟩ | ⟨rfl, hk, hl, hr, h1, h2⟩
    · rw [ySy_leaf h12] at hy
      simp only [nd, List.nil_append, List.mem_singleton] at hq
      subst hq
      exact hy (b, t) (by simp)
    · rw [ySy_grp] at hy
      simp only [nd, List.append_nil, List.mem_append, List.mem_singleton] at hq
      rcases hq with hq | rfl
      · exact ihl hl (fun x hx => hy x (by simp [hx])) s q hq
      · exact Nat.zero_le _
    · have hyl : ∀ x ∈ ySy l, x.2.size ≤ m := by
        rcases h35 with rfl | rfl
        · rw [ySy_pre] at hy; exact fun x hx => hy x (by simp [hx])
        · rw [ySy_post] at hy; exact fun x hx => hy x (by simp [hx])
      have hyt : t.size ≤ m := by
        rcases h35 with rfl | rfl
        · rw [ySy_pre] at hy; exact hy (3, t) (by simp)
        · rw [ySy_post] at hy; exact hy (5, t) (by simp)
      simp only [nd, List.append_nil, List.mem_append, List.mem_singleton] at hq
      rcases hq with hq | rfl
      · exact ihl hl hyl s q hq
      · exact hyt
    · rw [ySy_mid] at hy
      simp only [nd, List.mem_append, List.mem_singleton] at hq
      rcases hq with (hq | hq) | rfl
      · exact ihl hl (fun x hx => hy x (by simp [hx])) s q hq
      · exact ihr hr (fun x hx => hy x (by simp [hx])) _ q hq
      · exact hy (4, t) (by simp)

theorem sgT_size {ns : List OpR} {ts : List TokR} {i m : Nat} (h : (atT ts i).t.size ≤ m) (h1 : 1 ≤ m) : (sgT ns ts i).2.size ≤ m := by
  unfold sgT
  split
  · exact h
  · split
    · exact h1
    · split
      · exact h1
      · split
        · exact Nat.zero_le _
        · exact h

/-- A tree that was read. -/
theorem parse_tree {ns : List OpR} {s : ByteArray} {us : List NodeR} {p : Int} (h : ParseIs ns s us 0 p) : 1 ≤ us.length ∧ us.length ≤ 20001 ∧ SizedN us := by
  rcases h with ⟨_, _, h, _⟩ | ⟨hv, ⟨_, _, h, _⟩ | ⟨h20, ts, hx, ⟨i, _, _, _, _, h, _⟩ | ⟨hno, ⟨i, _, _, _, _, h, _⟩ | ⟨hf, h⟩⟩⟩⟩
  · omega
  · omega
  · omega
  · omega
  · rcases h with ⟨_, _, h, _⟩ | ⟨T, r, hr, ⟨_, _, h, _⟩ | ⟨_, rfl, _, _⟩⟩
    · omega
    · omega
    · have hl := lexed_last ts 0 hx
      have hfe := fit_all hf hl 0 hl.1
      rw [Nat.sub_zero] at hfe
      have h1 := rd_sound hv _ _ none _ 0 _ (by omega) hfe (fun L e => by cases e) hr
      have e0 := h1.2.2.2.2
      simp only [yM, List.nil_append] at e0
      have e := congrArg List.length e0
      simp only [List.length_append] at e
      rw [sgs_len] at e
      have := tsz_le T h1.2.1
      have hlt := (lexed_all hx).2.1
      rw [nd_len]
      refine ⟨Sh.pos h1.2.1.sh, by omega, fun i hi => ?_⟩
      have hm : ∀ o ∈ nd T 0, o.t.size ≤ 20000 := by
        refine nd_texts T h1.2.1 (fun x hx2 => ?_) 0
        have hmem : x ∈ sgs ns ts 0 ts.length := by rw [e0]; exact List.mem_append_left _ hx2
        unfold sgs at hmem
        obtain ⟨i, hi, rfl⟩ := List.mem_map.1 hmem
        rw [List.mem_range'_1] at hi
        refine sgT_size ?_ (by omega)
        have := (lexed_size ts 0 hx i (by omega)).2
        omega
      have := hm (atN (nd T 0) i) (by
        unfold atN
        rw [List.getD_eq_getElem?_getD, List.getElem?_eq_getElem (by omega)]
        exact List.getElem_mem _)
      unfold maxLen
      omega
end Go.Proofs.YtokabkhnidlcnabGreat
