import Derived.Test.YtfboipappaonhaaGreatU15

/-
  The plain mathematics of Group: the nodes without groups, and a group around each kid that is below its hole.
-/
namespace Go.Proofs.YtfboipappaonhaaGreat
set_option maxRecDepth 100000
open Go.RowKit

/-- The least of a hole of a node's operator. -/
def holeN (ns : List OpR) (o : NodeR) (b : Bool) : Int := match fnd ns o.t (o.k - 2) with
  | some j => holeO ns j b
  | none => 0

/-- A group around what stands in a row of s nodes behind, where it is wanted. -/
def clos (ns : List OpR) (o : NodeR) (least : Int) (s : Nat) (u : List NodeR) : List NodeR :=
  if levN ns o < least then u ++ [⟨6, ByteArray.empty, ((s + u.length : Nat) : Int) - 1, 0⟩] else u

/-- The stretch of node i anew, behind s nodes, in a hole with that least. -/
def gr (ns : List OpR) (xs : List NodeR) : Nat → Nat → Int → Nat → List NodeR
  | 0, _, _, _ => []
  | n + 1, i, least, s =>
    if (atN xs i).k = 6 then gr ns xs n (i - 1) least s
    else if kids (atN xs i).k = 0 then clos ns (atN xs i) least s [⟨(atN xs i).k, (atN xs i).t, 0, 0⟩]
    else if kids (atN xs i).k = 1 then
      clos ns (atN xs i) least s (gr ns xs n (i - 1) (holeN ns (atN xs i) false) s ++ [⟨(atN xs i).k, (atN xs i).t, ((s + (gr ns xs n (i - 1) (holeN ns (atN xs i) false) s).length : Nat) : Int) - 1, 0⟩])
    else
      clos ns (atN xs i) least s ((gr ns xs n (atN xs i).a.toNat (holeN ns (atN xs i) false) s ++ gr ns xs n (i - 1) (holeN ns (atN xs i) true) (s + (gr ns xs n (atN xs i).a.toNat (holeN ns (atN xs i) false) s).length)) ++
        [⟨(atN xs i).k, (atN xs i).t, ((s + (gr ns xs n (atN xs i).a.toNat (holeN ns (atN xs i) false) s).length : Nat) : Int) - 1, ((s + (gr ns xs n (atN xs i).a.toNat (holeN ns (atN xs i) false) s).length + (gr ns xs n (i - 1) (holeN ns (atN xs i) true) (s + (gr ns xs n (atN xs i).a.toNat (holeN ns (atN xs i) false) s).length)).length : Nat) : Int) - 1⟩])

theorem kids_six : kids 6 = 1 := rfl

theorem gr_fuel (ns : List OpR) (xs : List NodeR) : ∀ n m i f, i < n → i < m → frS xs i = some f → ∀ l s, gr ns xs n i l s = gr ns xs m i l s
  | 0, _, _, _, h, _, _ => absurd h (Nat.not_lt_zero _)
  | _ + 1, 0, _, _, _, h, _ => absurd h (Nat.not_lt_zero _)
  | n + 1, m + 1, i, f, h, h', hf => by
    intro l s
    rcases frS_some hf with ⟨hk, ha, hb, hfi⟩ | ⟨hk, h1i, ha, hbb, hf1⟩ | ⟨hk, h1i, hbb, f2, hf2, h2f, ha, hf1⟩
    · have h6 : (atN xs i).k ≠ 6 := fun e => by rw [e] at hk; simp [kids] at hk
      simp only [gr, if_neg h6, hk, if_true]
    · have e := gr_fuel ns xs n m (i - 1) f (by omega) (by omega) hf1
      simp only [gr, e]
      by_cases h6 : (atN xs i).k = 6
      · rw [if_pos h6, if_pos h6]
      · simp only [if_neg h6, hk, if_true, Nat.one_ne_zero, if_false]
    · have h6 : (atN xs i).k ≠ 6 := fun e => by rw [e] at hk; simp [kids] at hk
      have hle := frS_le hf2
      have e1 := gr_fuel ns xs n m (i - 1) f2 (by omega) (by omega) hf2
      have e2 := gr_fuel ns xs n m (f2 - 1) f (by omega) (by omega) hf1
      have ea : (atN xs i).a.toNat = f2 - 1 := by omega
      simp only [gr, if_neg h6, ea, e1, e2]

def gS (ns : List OpR) (xs : List NodeR) (i : Nat) (l : Int) (s : Nat) : List NodeR := gr ns xs (i + 1) i l s

theorem gS_zero {ns : List OpR} {xs : List NodeR} {i : Nat} (hk : kids (atN xs i).k = 0) (l : Int) (s : Nat) : gS ns xs i l s = clos ns (atN xs i) l s [⟨(atN xs i).k, (atN xs i).t, 0, 0⟩] := by
  have h6 : (atN xs i).k ≠ 6 := fun e => by rw [e] at hk; simp [kids] at hk
  simp only [gS, gr, if_neg h6, hk, if_true]

theorem gS_group {ns : List OpR} {xs : List NodeR} {i f : Nat} (hk : (atN xs i).k = 6) (h1 : 1 ≤ i) (hf : frS xs (i - 1) = some f) (l : Int) (s : Nat) : gS ns xs i l s = gS ns xs (i - 1) l s := by
  have e : gS ns xs i l s = gr ns xs i (i - 1) l s := by simp only [gS, gr, if_pos hk]
  rw [e]
  exact gr_fuel ns xs _ _ _ f (by omega) (by omega) hf l s

theorem gS_one {ns : List OpR} {xs : List NodeR} {i f : Nat} (hk : kids (atN xs i).k = 1) (h6 : (atN xs i).k ≠ 6) (h1 : 1 ≤ i) (hf : frS xs (i - 1) = some f) (l : Int) (s : Nat) {u : List NodeR} (hu : u = gS ns xs (i - 1) (holeN ns (atN xs i) false) s) :
    gS ns xs i l s = clos ns (atN xs i) l s (u ++ [⟨(atN xs i).k, (atN xs i).t, ((s + u.length : Nat) : Int) - 1, 0⟩]) := by
  have e := gr_fuel ns xs i (i - 1 + 1) (i - 1) f (by omega) (by omega) hf
  subst hu
  unfold gS
  conv => lhs; unfold gr
  simp only [if_neg h6, hk, if_true, Nat.one_ne_zero, if_false, e]

theorem gS_two {ns : List OpR} {xs : List NodeR} {i f f2 : Nat} (hk : kids (atN xs i).k = 2) (h1 : 1 ≤ i) (hf2 : frS xs (i - 1) = some f2) (h2 : 1 ≤ f2) (ha : (atN xs i).a = (f2 : Int) - 1) (hf : frS xs (f2 - 1) = some f) (l : Int) (s : Nat) {u1 u2 : List NodeR}
    (hu1 : u1 = gS ns xs (f2 - 1) (holeN ns (atN xs i) false) s) (hu2 : u2 = gS ns xs (i - 1) (holeN ns (atN xs i) true) (s + u1.length)) :
    gS ns xs i l s = clos ns (atN xs i) l s ((u1 ++ u2) ++ [⟨(atN xs i).k, (atN xs i).t, ((s + u1.length : Nat) : Int) - 1, ((s + u1.length + u2.length : Nat) : Int) - 1⟩]) := by
  have h6 : (atN xs i).k ≠ 6 := fun e => by rw [e] at hk; simp [kids] at hk
  have hle := frS_le hf2
  have e1 := gr_fuel ns xs i (i - 1 + 1) (i - 1) f2 (by omega) (by omega) hf2
  have e2 := gr_fuel ns xs i (f2 - 1 + 1) (f2 - 1) f (by omega) (by omega) hf
  have ea : (atN xs i).a.toNat = f2 - 1 := by omega
  subst hu2
  subst hu1
  unfold gS
  conv => lhs; unfold gr
  simp only [if_neg h6, ea, e1, e2, hk]
  rfl

theorem clos_len (ns : List OpR) (o : NodeR) (l : Int) (s : Nat) (u : List NodeR) : u.length ≤ (clos ns o l s u).length ∧ (clos ns o l s u).length ≤ u.length + 1 := by
  unfold clos
  split <;> simp

/-- A stretch anew has at most twice its nodes, and one at least. -/
theorem gS_len (ns : List OpR) (xs : List NodeR) : ∀ n i f, i < n → frS xs i = some f → ∀ l s, 1 ≤ (gS ns xs i l s).length ∧ (gS ns xs i l s).length ≤ 2 * (i + 1 - f)
  | 0, _, _, h, _ => absurd h (Nat.not_lt_zero _)
  | n + 1, i, f, h, hf => by
    intro l s
    rcases frS_some hf with ⟨hk, ha, hb, hfi⟩ | ⟨hk, h1i, ha, hbb, hf1⟩ | ⟨hk, h1i, hbb, f2, hf2, h2f, ha, hf1⟩
    · rw [gS_zero hk]
      have := clos_len ns (atN xs i) l s [⟨(atN xs i).k, (atN xs i).t, 0, 0⟩]
      simp only [List.length_cons, List.length_nil] at this
      omega
    · have hle := frS_le hf1
      by_cases h6 : (atN xs i).k = 6
      · rw [gS_group h6 h1i hf1]
        have := gS_len ns xs n (i - 1) f (by omega) hf1 l s
        omega
      · rw [gS_one hk h6 h1i hf1 l s rfl]
        have h1 := gS_len ns xs n (i - 1) f (by omega) hf1 (holeN ns (atN xs i) false) s
        have h2 := clos_len ns (atN xs i) l s (gS ns xs (i - 1) (holeN ns (atN xs i) false) s ++ [⟨(atN xs i).k, (atN xs i).t, ((s + (gS ns xs (i - 1) (holeN ns (atN xs i) false) s).length : Nat) : Int) - 1, 0⟩])
        simp only [List.length_append, List.length_cons, List.length_nil] at h2
        omega
    · have hle := frS_le hf2
      have hle1 := frS_le hf1
      obtain ⟨u1, hu1⟩ : ∃ u1, u1 = gS ns xs (f2 - 1) (holeN ns (atN xs i) false) s := ⟨_, rfl⟩
      obtain ⟨u2, hu2⟩ : ∃ u2, u2 = gS ns xs (i - 1) (holeN ns (atN xs i) true) (s + u1.length) := ⟨_, rfl⟩
      rw [gS_two hk h1i hf2 h2f ha hf1 l s hu1 hu2]
      have h1 := gS_len ns xs n (f2 - 1) f (by omega) hf1 (holeN ns (atN xs i) false) s
      have h2 := gS_len ns xs n (i - 1) f2 (by omega) hf2 (holeN ns (atN xs i) true) (s + u1.length)
      rw [← hu1] at h1
      rw [← hu2] at h2
      have h3 := clos_len ns (atN xs i) l s ((u1 ++ u2) ++ [⟨(atN xs i).k, (atN xs i).t, ((s + u1.length : Nat) : Int) - 1, ((s + u1.length + u2.length : Nat) : Int) - 1⟩])
      simp only [List.length_append, List.length_cons, List.length_nil] at h3
      omega

/-- How many nodes the stretch anew has does not hang on what lies before it. -/
theorem gS_len_any (ns : List OpR) (xs : List NodeR) : ∀ n i f, i < n → frS xs i = some f → ∀ l s s', (gS ns xs i l s).length = (gS ns xs i l s').length
  | 0, _, _, h, _ => absurd h (Nat.not_lt_zero _)
  | n + 1, i, f, h, hf => by
    intro l s s'
    have cl : ∀ u u' : List NodeR, u.length = u'.length → (clos ns (atN xs i) l s u).length = (clos ns (atN xs i) l s' u').length := by
      intro u u' hu
      unfold clos
      split <;> simp [hu]
    rcases frS_some hf with ⟨hk, ha, hb, hfi⟩ | ⟨hk, h1i, ha, hbb, hf1⟩ | ⟨hk, h1i, hbb, f2, hf2, h2f, ha, hf1⟩
    · rw [gS_zero hk, gS_zero hk]
      exact cl _ _ rfl
    · by_cases h6 : (atN xs i).k = 6
      · rw [gS_group h6 h1i hf1, gS_group h6 h1i hf1]
        exact gS_len_any ns xs n (i - 1) f (by omega) hf1 l s s'
      · rw [gS_one hk h6 h1i hf1 l s rfl, gS_one hk h6 h1i hf1 l s' rfl]
        apply cl
        simp [gS_len_any ns xs n (i - 1) f (by omega) hf1 (holeN ns (atN xs i) false) s s']
    · have hle := frS_le hf2
      rw [gS_two hk h1i hf2 h2f ha hf1 l s rfl rfl, gS_two hk h1i hf2 h2f ha hf1 l s' rfl rfl]
      apply cl
      have e1 := gS_len_any ns xs n (f2 - 1) f (by omega) hf1 (holeN ns (atN xs i) false) s s'
      have e2 := gS_len_any ns xs n (i - 1) f2 (by omega) hf2 (holeN ns (atN xs i) true) (s + (gS ns xs (f2 - 1) (holeN ns (atN xs i) false) s).length) (s' + (gS ns xs (f2 - 1) (holeN ns (atN xs i) false) s').length)
      simp only [List.length_append, List.length_cons, List.length_nil]
      rw [e2, e1]

/-- What Group answers. -/
def GroupIs (ns : List OpR) (xs us : List NodeR) (v : Bool) : Prop :=
  (((IsCode ns 0 ∧ InOrd xs ∧ Knows ns xs) ∧ (gS ns xs (xs.length - 1) 0 0).length ≤ 20000) ∧ v = true ∧ us = gS ns xs (xs.length - 1) 0 0) ∨
  (¬ ((IsCode ns 0 ∧ InOrd xs ∧ Knows ns xs) ∧ (gS ns xs (xs.length - 1) 0 0).length ≤ 20000) ∧ v = false ∧ us = [])

theorem GroupIs.one {ns : List OpR} {xs us us' : List NodeR} {v v' : Bool} (h : GroupIs ns xs us v) (h' : GroupIs ns xs us' v') : us = us' ∧ v = v' := by
  rcases h with ⟨a, rfl, rfl⟩ | ⟨a, rfl, rfl⟩
  · rcases h' with ⟨_, rfl, rfl⟩ | ⟨a', _⟩
    · exact ⟨rfl, rfl⟩
    · exact absurd a a'
  · rcases h' with ⟨a', _⟩ | ⟨_, rfl, rfl⟩
    · exact absurd a' a
    · exact ⟨rfl, rfl⟩

theorem GroupIs.len {ns : List OpR} {xs us : List NodeR} {v : Bool} (h : GroupIs ns xs us v) : us.length ≤ 20000 := by
  rcases h with ⟨a, _, rfl⟩ | ⟨_, _, rfl⟩
  · exact a.2
  · simp
end Go.Proofs.YtfboipappaonhaaGreat

/-
  The trees that are drawn over a table, as a relation.
-/
namespace Go.Proofs.YtfboipappaonhaaGreat
set_option maxRecDepth 100000
set_option linter.unusedSimpArgs false
set_option linter.unusedVariables false
open Go.RowKit

/-- No text of a row of nodes is long. -/
def ShN (us : List NodeR) : Prop := ∀ o ∈ us, o.t.size ≤ 2000

theorem ShN.at {us : List NodeR} (h : ShN us) (i : Nat) : (atN us i).t.size ≤ 2000 := by
  by_cases hi : i < us.length
  · have : atN us i = us[i] := by unfold atN; simp [List.getD, hi]
    rw [this]; exact h _ (List.getElem_mem hi)
  · have : atN us i = NodeR.zero := by unfold atN; simp [List.getD, List.getElem?_eq_none (Nat.le_of_not_lt hi)]
    rw [this]; show 0 ≤ 2000; omega
theorem ShN.sized {us : List NodeR} (h : ShN us) : SizedN us := fun i _ => by have := h.at i; unfold maxLen; omega
theorem ShN.snoc {us : List NodeR} (h : ShN us) {o : NodeR} (ho : o.t.size ≤ 2000) : ShN (us ++ [o]) := by
  intro x hx
  rcases List.mem_append.1 hx with hx | hx
  · exact h x hx
  · simp at hx; subst hx; exact ho
theorem ShN.app {us vs : List NodeR} (h : ShN us) (h' : ShN vs) : ShN (us ++ vs) := by
  intro x hx
  rcases List.mem_append.1 hx with hx | hx
  · exact h x hx
  · exact h' x hx
theorem shN_nil : ShN [] := fun _ h => by simp at h

theorem leafN_size (k : Nat) : (leafN k).t.size ≤ 6 := by
  have e1 : (⟨#[97, 98, 99, 100, 95, 57]⟩ : ByteArray).size = 6 := rfl
  have e2 : (⟨#[48, 49, 55, 50]⟩ : ByteArray).size = 4 := rfl
  unfold leafN
  split
  · show (ByteArray.extract _ _ _).size ≤ 6
    rw [ByteArray.size_extract]; omega
  · show (ByteArray.extract _ _ _).size ≤ 6
    rw [ByteArray.size_extract]; omega

/-- Texts of at most so many bytes. -/
theorem gen_sh1 {ns : List OpR} (hn : ∀ i, (atO ns i).s.size ≤ 16) (bs : List UInt8) (grp : Bool) : ∀ (d p : Nat) (us : List NodeR), (∀ o ∈ us, o.t.size ≤ 16) → ∀ o ∈ (gen bs ns grp d p us).2, o.t.size ≤ 16
  | 0, p, us, h => by
    have := leafN_size (nxt bs (adv bs p))
    simp only [gen]
    intro o ho
    rcases List.mem_append.1 ho with ho | ho
    · exact h o ho
    · simp at ho; subst ho; omega
  | d + 1, p, us, h => by
    have hl := leafN_size (nxt bs (adv bs p))
    have h1 := gen_sh1 hn bs grp d (adv bs p) us h
    have h2 := gen_sh1 hn bs grp d (gen bs ns grp d (adv bs p) us).1 _ h1
    have h3 := hn (nxt bs p / 8 % ns.length)
    have sn : ∀ (vs : List NodeR) (x : NodeR), (∀ o ∈ vs, o.t.size ≤ 16) → x.t.size ≤ 16 → ∀ o ∈ vs ++ [x], o.t.size ≤ 16 := fun vs x hv hx o ho => by
      rcases List.mem_append.1 ho with ho | ho
      · exact hv o ho
      · simp at ho; subst ho; exact hx
    simp only [gen]
    split
    · exact sn _ _ h (by omega)
    · split
      · exact sn _ _ h1 (by show 0 ≤ 16; omega)
      · split
        · exact sn _ _ h2 h3
        · exact sn _ _ h1 h3

theorem gpT_sh : ∀ n, ShN (gpT n)
  | 0 => fun o ho => by simp [gpT] at ho; subst ho; show 1 ≤ 2000; omega
  | n + 1 => (gpT_sh n).snoc (by show 0 ≤ 2000; omega)
theorem chT_sh : ∀ n, ShN (chT n)
  | 0 => fun o ho => by simp [chT] at ho; subst ho; show 1 ≤ 2000; omega
  | n + 1 => (chT_sh n).snoc (by show 1 ≤ 2000; omega)

theorem spT_sh {us : List NodeR} (h : ∀ o ∈ us, o.t.size ≤ 16) (k v : Nat) : ShN (spT us k v) := by
  have hS : ShN us := fun o ho => by have := h o ho; omega
  unfold spT
  split
  · exact fun o ho => hS o (List.mem_of_mem_take ho)
  · split
    · exact gpT_sh _
    · intro o ho
      rcases List.mem_or_eq_of_mem_set ho with ho | ho
      · exact hS o ho
      · subst ho
        have h1 := hS.at (v % us.length)
        have h2 : (atN us (v % us.length)).t.size ≤ 16 := by
          by_cases hi : v % us.length < us.length
          · have : atN us (v % us.length) = us[v % us.length] := by unfold atN; simp [List.getD, hi]
            rw [this]; exact h _ (List.getElem_mem hi)
          · have : atN us (v % us.length) = NodeR.zero := by unfold atN; simp [List.getD, List.getElem?_eq_none (Nat.le_of_not_lt hi)]
            rw [this]; show 0 ≤ 16; omega
        have e1 : (⟨#[43, 45, 49, 97, 40]⟩ : ByteArray).size = 5 := rfl
        have e2 : (⟨#[95]⟩ : ByteArray).size = 1 := rfl
        unfold spN
        split
        · exact h1
        · split
          · show (ByteArray.extract _ _ _).size ≤ 2000
            rw [ByteArray.size_extract]; omega
          · split
            · exact h1
            · split
              · exact h1
              · split
                · show (_ ++ _ : ByteArray).size ≤ 2000
                  rw [ByteArray.size_append]; omega
                · show 0 ≤ 2000; omega

theorem spT_len (us : List NodeR) (k v : Nat) (h : us.length ≤ 1000) : (spT us k v).length ≤ 30000 := by
  unfold spT
  split
  · rw [List.length_take]; omega
  · split
    · rw [gpT_len]; omega
    · rw [List.length_set]; omega

theorem clos_sh {ns : List OpR} {o : NodeR} {l : Int} {s : Nat} {u : List NodeR} (h : ShN u) : ShN (clos ns o l s u) := by
  unfold clos
  split
  · exact h.snoc (by show 0 ≤ 2000; omega)
  · exact h

theorem gr_sh (ns : List OpR) {xs : List NodeR} (h : ShN xs) : ∀ n i l s, ShN (gr ns xs n i l s)
  | 0, _, _, _ => by simp only [gr]; exact shN_nil
  | n + 1, i, l, s => by
    have ht := h.at i
    have ih := gr_sh ns h n
    simp only [gr]
    split
    · exact ih _ _ _
    · split
      · exact clos_sh (ShN.snoc (us := []) shN_nil ht)
      · split
        · exact clos_sh ((ih _ _ _).snoc ht)
        · exact clos_sh (((ih _ _ _).app (ih _ _ _)).snoc ht)

/-- The tree and the place before anything is spoilt. -/
def tr0 (bs : List UInt8) (p : Nat) (ys : List OpR) (q : Nat) : Nat × List NodeR := gen bs ys (decide (nxt bs p % 2 = 1)) (2 + nxt bs q % 5) (adv bs q) []
def tr1 (bs : List UInt8) (p : Nat) (ys : List OpR) (q : Nat) : List NodeR :=
  if nxt bs p % 5 = 4 then spT (tr0 bs p ys q).2 (nxt bs (1 + nxt bs p % 7)) (nxt bs (adv bs (1 + nxt bs p % 7))) else (tr0 bs p ys q).2
def pl1 (bs : List UInt8) (p : Nat) (ys : List OpR) (q : Nat) : Nat := if nxt bs p % 5 = 4 then adv bs (adv bs (1 + nxt bs p % 7)) else (tr0 bs p ys q).1
def tb1 (bs : List UInt8) (p : Nat) (ys : List OpR) (q : Nat) : List OpR := if nxt bs p % 20 = 3 then badT ys bs (pl1 bs p ys q) else ys
def pl2 (bs : List UInt8) (p : Nat) (ys : List OpR) (q : Nat) : Nat := if nxt bs p % 20 = 3 then badP ys bs (pl1 bs p ys q) else pl1 bs p ys q

/-- What is drawn: the table and the tree. -/
def TreeD (bs : List UInt8) (p : Nat) (ns : List OpR) (us : List NodeR) : Prop :=
  ∃ ys q, TabTo bs (adv bs (adv bs p)) (3 + nxt bs (adv bs p) % 8) ys q ∧
    ((nxt bs p % 32 = 21 ∧ ns = minusT ∧ us = chT (997 + nxt bs (pl2 bs p ys q) % 5)) ∨
      (nxt bs p % 32 ≠ 21 ∧ ns = tb1 bs p ys q ∧ ((nxt bs p % 4 = 2 ∧ ∃ gs v, GroupIs (tb1 bs p ys q) (tr1 bs p ys q) gs v ∧ us = if v = true then gs else tr1 bs p ys q) ∨ (nxt bs p % 4 ≠ 2 ∧ us = tr1 bs p ys q))))

theorem TreeD.one {bs : List UInt8} {p : Nat} {ns ns' : List OpR} {us us' : List NodeR} (h : TreeD bs p ns us) (h' : TreeD bs p ns' us') : ns = ns' ∧ us = us' := by
  obtain ⟨ys, q, ht, hc⟩ := h
  obtain ⟨ys', q', ht', hc'⟩ := h'
  obtain ⟨rfl, rfl⟩ := ht.one ht'
  rcases hc with ⟨e, rfl, rfl⟩ | ⟨e, rfl, hc⟩ <;> rcases hc' with ⟨e', rfl, rfl⟩ | ⟨e', rfl, hc'⟩
  · exact ⟨rfl, rfl⟩
  · exact absurd e e'
  · exact absurd e' e
  · refine ⟨rfl, ?_⟩
    rcases hc with ⟨f, gs, v, hg, rfl⟩ | ⟨f, rfl⟩ <;> rcases hc' with ⟨f', gs', v', hg', rfl⟩ | ⟨f', rfl⟩
    · obtain ⟨rfl, rfl⟩ := hg.one hg'
      rfl
    · exact absurd f f'
    · exact absurd f' f
    · rfl

theorem atO_any {xs : List OpR} (h : ∀ i, i < xs.length → (atO xs i).s.size ≤ 16) (i : Nat) : (atO xs i).s.size ≤ 16 := by
  by_cases hi : i < xs.length
  · exact h i hi
  · have : atO xs i = OpR.zero := by unfold atO; simp [List.getD, List.getElem?_eq_none (Nat.le_of_not_lt hi)]
    rw [this]; show 0 ≤ 16; omega

theorem TabTo.kinds {bs : List UInt8} {p0 : Nat} : ∀ {k : Nat} {xs : List OpR} {p : Nat}, TabTo bs p0 k xs p → ∀ i, i < xs.length → 0 ≤ (atO xs i).k ∧ (atO xs i).k ≤ 9
  | 0, xs, p, h => by
    obtain ⟨rfl, _⟩ := h
    exact fun i hi => by simp at hi
  | k + 1, xs, p, h => by
    obtain ⟨ys, q, ht, _, hc⟩ := h
    have h2 := ht.kinds
    rcases hc with ⟨_, rfl⟩ | ⟨_, rfl⟩
    · intro i hi
      by_cases e : i < ys.length
      · have : atO (ys ++ [drOp (nxt bs q) (nxt bs (adv bs q)) true]) i = atO ys i := by unfold atO; simp [List.getD, List.getElem?_append, e]
        rw [this]; exact h2 i e
      · have e2 : i = ys.length := by simp at hi; omega
        have : atO (ys ++ [drOp (nxt bs q) (nxt bs (adv bs q)) true]) i = drOp (nxt bs q) (nxt bs (adv bs q)) true := by unfold atO; simp [List.getD, e2]
        rw [this]
        show 0 ≤ drKind _ ∧ drKind _ ≤ 9
        unfold drKind
        split
        · omega
        · split <;> omega
    · exact h2

theorem tr0_len (bs : List UInt8) (p : Nat) (ys : List OpR) (q : Nat) : 1 ≤ (tr0 bs p ys q).2.length ∧ (tr0 bs p ys q).2.length ≤ 1000 := by
  have h := gen_len bs ys (decide (nxt bs p % 2 = 1)) (2 + nxt bs q % 5) (adv bs q) []
  have hp6 : (2 : Nat) ^ (2 + nxt bs q % 5 + 1) ≤ 128 := by have := Nat.pow_le_pow_right (show 0 < 2 by decide) (show 2 + nxt bs q % 5 + 1 ≤ 7 by omega); omega
  simp only [List.length_nil] at h
  unfold tr0
  omega

theorem tr0_sz {ys : List OpR} (h : ∀ i, i < ys.length → (atO ys i).s.size ≤ 16) (bs : List UInt8) (p q : Nat) (i : Nat) (hi : i < (tr0 bs p ys q).2.length) : (atN (tr0 bs p ys q).2 i).t.size ≤ 1000 := by
  have h1 : ∀ o ∈ (tr0 bs p ys q).2, o.t.size ≤ 16 := gen_sh1 (atO_any h) bs _ _ _ [] (fun o ho => by simp at ho)
  have : atN (tr0 bs p ys q).2 i = (tr0 bs p ys q).2[i] := by unfold atN; simp [List.getD, hi]
  rw [this]
  have := h1 _ (List.getElem_mem hi)
  omega

theorem tr1_len (bs : List UInt8) (p : Nat) (ys : List OpR) (q : Nat) : (tr1 bs p ys q).length ≤ 30000 := by
  have h := tr0_len bs p ys q
  unfold tr1
  split
  · exact spT_len _ _ _ (by omega)
  · omega

theorem tr1_sh {ys : List OpR} (h : ∀ i, i < ys.length → (atO ys i).s.size ≤ 16) (bs : List UInt8) (p q : Nat) : ShN (tr1 bs p ys q) := by
  have h1 : ∀ o ∈ (tr0 bs p ys q).2, o.t.size ≤ 16 := gen_sh1 (atO_any h) bs _ _ _ [] (fun o ho => by simp at ho)
  unfold tr1
  split
  · exact spT_sh h1 _ _
  · exact fun o ho => by have := h1 o ho; omega

theorem tb1_sized {ys : List OpR} (h : ∀ i, i < ys.length → (atO ys i).s.size ≤ 16) (hl : ys.length ≤ 10) (bs : List UInt8) (p q : Nat) : (tb1 bs p ys q).length ≤ 1048576 ∧ Sized (tb1 bs p ys q) := by
  unfold tb1
  split
  · obtain ⟨h4, h5⟩ := bad_sized h bs (pl1 bs p ys q)
    exact ⟨by omega, fun i hi => by have := h5 i hi; unfold maxLen; omega⟩
  · exact ⟨by omega, fun i hi => by have := h i hi; unfold maxLen; omega⟩

theorem TreeD.sized {bs : List UInt8} {p : Nat} {ns : List OpR} {us : List NodeR} (h : TreeD bs p ns us) : ns.length ≤ 1048576 ∧ Sized ns ∧ us.length ≤ 30000 ∧ SizedN us := by
  obtain ⟨ys, q, ht, hc⟩ := h
  obtain ⟨h1, h2⟩ := ht.len
  have h3 := Nat.mod_lt (nxt bs (adv bs p)) (show 0 < 8 by decide)
  have hsh := tr1_sh h2 bs p q
  have hln := tr1_len bs p ys q
  rcases hc with ⟨_, rfl, rfl⟩ | ⟨_, rfl, hc⟩
  · refine ⟨by decide, fun i hi => ?_, by rw [chT_len]; omega, (chT_sh _).sized⟩
    have : i = 0 := by have : i < 1 := hi; omega
    subst this
    show 1 ≤ maxLen
    unfold maxLen; omega
  · obtain ⟨h4, h5⟩ := tb1_sized h2 (by omega) bs p q
    refine ⟨h4, h5, ?_⟩
    rcases hc with ⟨_, gs, v, hg, rfl⟩ | ⟨_, rfl⟩
    · have hgl := hg.len
      split
      · refine ⟨by omega, ShN.sized ?_⟩
        rcases hg with ⟨_, _, rfl⟩ | ⟨_, _, rfl⟩
        · exact gr_sh _ hsh _ _ _ _
        · exact shN_nil
      · exact ⟨hln, hsh.sized⟩
    · exact ⟨hln, hsh.sized⟩
end Go.Proofs.YtfboipappaonhaaGreat

/-
  What lies in memory while a table and a tree are drawn.
-/
namespace Go.Proofs.YtfboipappaonhaaGreat
set_option maxRecDepth 100000
set_option linter.unusedSimpArgs false
set_option linter.unusedVariables false
open Go.RowKit

/-- The places of l3DrawTreeOver. -/
structure OvP (N rp TB TR gt gn : Nat) : Prop where
  p0 : rp < N
  p1 : N + 2 ≤ TB
  p2 : N + 2 ≤ TR
  p3 : TB ≠ TR
  p4 : N + 2 ≤ gt
  p5 : N + 2 ≤ gn
  p6 : gt ≠ TB
  p7 : gt ≠ TR
  p8 : gn ≠ TB
  p9 : gn ≠ TR
  pa : gt ≠ gn

/-- The variables, and what they hold. -/
structure OvS (w W : World) (rp TB TR gt ct gn cn : Nat) (ns : List OpR) (us : List NodeR) : Prop where
  ps : OvP w.heap.size rp TB TR gt gn
  lB : TB < W.heap.size
  lR : TR < W.heap.size
  r0 : W.cell? ⟨w.heap.size, 0, none⟩ = some (.slice none 0 0)
  f0 : W.frozen? ⟨w.heap.size, 0, none⟩ = false
  r1 : W.cell? ⟨w.heap.size + 1, 0, none⟩ = some (.slice none 0 0)
  f1 : W.frozen? ⟨w.heap.size + 1, 0, none⟩ = false
  t0 : W.cell? ⟨TB, 0, none⟩ = some (.slice (some ⟨gt, 0, none⟩) ns.length ct)
  tf : W.frozen? ⟨TB, 0, none⟩ = false
  u0 : W.cell? ⟨TR, 0, none⟩ = some (.slice (some ⟨gn, 0, none⟩) us.length cn)
  uf : W.frozen? ⟨TR, 0, none⟩ = false
  ft : Filled W gt ns ns.length
  fn : FilledN W gn us us.length
  kp : Kept1 w W rp

theorem KeptRG.filledT {w w' : World} {r g b k : Nat} {xs : List OpR} (h : KeptRG w w' r g) (ho : Filled w b xs k) (h1 : b ≠ r) (h2 : b ≠ g) : Filled w' b xs k := by
  obtain ⟨a1, a2, a3⟩ := ho
  have hb := h.block b a1 h1 h2
  refine ⟨Nat.lt_of_lt_of_le a1 h.size, fun j hj => ?_, fun i hi => ?_⟩
  · obtain ⟨c1, c2⟩ := a2 j hj
    exact ⟨by rw [World.cell?_of_block (w := w) (w' := w') (a := ⟨b, 0 + j, none⟩) hb]; exact c1, by rw [World.frozen?_of_block (w := w) (w' := w') (a := ⟨b, 0 + j, none⟩) hb]; exact c2⟩
  · obtain ⟨c0, c1, c2, c3⟩ := a3 i hi
    exact ⟨(World.cell?_of_block (w := w) hb).trans c0, (World.cell?_of_block (w := w) hb).trans c1, (World.cell?_of_block (w := w) hb).trans c2, (World.cell?_of_block (w := w) hb).trans c3⟩

theorem KeptRG.filledN {w w' : World} {r g b k : Nat} {xs : List NodeR} (h : KeptRG w w' r g) (ho : FilledN w b xs k) (h1 : b ≠ r) (h2 : b ≠ g) : FilledN w' b xs k := by
  obtain ⟨a1, a2, a3⟩ := ho
  have hb := h.block b a1 h1 h2
  refine ⟨Nat.lt_of_lt_of_le a1 h.size, fun j hj => ?_, fun i hi => ?_⟩
  · obtain ⟨c1, c2⟩ := a2 j hj
    exact ⟨by rw [World.cell?_of_block (w := w) (w' := w') (a := ⟨b, 0 + j, none⟩) hb]; exact c1, by rw [World.frozen?_of_block (w := w) (w' := w') (a := ⟨b, 0 + j, none⟩) hb]; exact c2⟩
  · obtain ⟨c0, c1, c2, c3⟩ := a3 i hi
    exact ⟨(World.cell?_of_block (w := w) hb).trans c0, (World.cell?_of_block (w := w) hb).trans c1, (World.cell?_of_block (w := w) hb).trans c2, (World.cell?_of_block (w := w) hb).trans c3⟩

theorem KeptRG.to1 {w W W' : World} {rp g : Nat} (h : Kept1 w W rp) (h' : KeptRG W W' rp g) (hg : w.heap.size ≤ g) : Kept1 w W' rp :=
  ⟨h'.os.trans h.os, h'.tape.trans h.tape, h'.output.trans h.output, Nat.le_trans h.size h'.size, fun i hi a => (h'.block i (Nat.lt_of_lt_of_le hi h.size) a (by omega)).trans (h.block i hi a)⟩

/-- The variables stay where a row is written. -/
theorem OvS.boxes {w W W' : World} {rp TB TR gt ct gn cn g : Nat} {ns : List OpR} {us : List NodeR} (h : OvS w W rp TB TR gt ct gn cn ns us) (hk : KeptRG W W' rp g) (hg : g = gn ∨ g = gt) :
    (W'.cell? ⟨w.heap.size, 0, none⟩ = some (.slice none 0 0) ∧ W'.frozen? ⟨w.heap.size, 0, none⟩ = false) ∧ (W'.cell? ⟨w.heap.size + 1, 0, none⟩ = some (.slice none 0 0) ∧ W'.frozen? ⟨w.heap.size + 1, 0, none⟩ = false) ∧
      (W'.cell? ⟨TB, 0, none⟩ = some (.slice (some ⟨gt, 0, none⟩) ns.length ct) ∧ W'.frozen? ⟨TB, 0, none⟩ = false) ∧ (W'.cell? ⟨TR, 0, none⟩ = some (.slice (some ⟨gn, 0, none⟩) us.length cn) ∧ W'.frozen? ⟨TR, 0, none⟩ = false) := by
  have l0 : w.heap.size < W.heap.size := block_lt_of_cell h.r0
  have l1 : w.heap.size + 1 < W.heap.size := block_lt_of_cell h.r1
  have lB := h.lB
  have lR := h.lR
  obtain ⟨p0, p1, p2, p3, p4, p5, p6, p7, p8, p9, pa⟩ := h.ps
  exact ⟨⟨(hk.cell l0 (by omega) (by omega) 0).trans h.r0, (hk.frozen l0 (by omega) (by omega) 0).trans h.f0⟩, ⟨(hk.cell l1 (by omega) (by omega) 0).trans h.r1, (hk.frozen l1 (by omega) (by omega) 0).trans h.f1⟩, ⟨(hk.cell lB (by omega) (by omega) 0).trans h.t0, (hk.frozen lB (by omega) (by omega) 0).trans h.tf⟩, ⟨(hk.cell lR (by omega) (by omega) 0).trans h.u0, (hk.frozen lR (by omega) (by omega) 0).trans h.uf⟩⟩

/-- The tree is another. -/
theorem OvS.tree {w W W' : World} {rp TB TR gt ct gn cn gn' cn' : Nat} {ns : List OpR} {us us' : List NodeR} (h : OvS w W rp TB TR gt ct gn cn ns us) (hk : KeptRG W W' rp gn) (hg : gn' = gn ∨ W.heap.size ≤ gn') (hf : FilledN W' gn' us' us'.length) :
    OvS w (W'.setCell ⟨TR, 0, none⟩ (.slice (some ⟨gn', 0, none⟩) us'.length cn')) rp TB TR gt ct gn' cn' ns us' := by
  have ps := h.ps
  have hz := h.kp.size
  have l0 : w.heap.size < W.heap.size := block_lt_of_cell h.r0
  have l1 : w.heap.size + 1 < W.heap.size := block_lt_of_cell h.r1
  have lt : gt < W.heap.size := h.ft.1
  have lB := h.lB
  have lR := h.lR
  have zz := hk.size
  obtain ⟨p0, p1, p2, p3, p4, p5, p6, p7, p8, p9, pa⟩ := ps
  have oth : ∀ b, b ≠ TR → ∀ v, (W'.setCell ⟨TR, 0, none⟩ v).cell? ⟨b, 0, none⟩ = W'.cell? ⟨b, 0, none⟩ := fun b hb v => World.cell?_setCell_other _ _ _ _ (fun e => hb (by injection e with e; exact e.symm))
  have ofr : ∀ b v, (W'.setCell ⟨TR, 0, none⟩ v).frozen? ⟨b, 0, none⟩ = W'.frozen? ⟨b, 0, none⟩ := fun b v => World.frozen?_setCell _ _ _ _
  have uu : W'.cell? ⟨TR, 0, none⟩ = some (.slice (some ⟨gn, 0, none⟩) us.length cn) := (hk.cell lR (by omega) (by omega) 0).trans h.u0
  refine ⟨⟨p0, p1, p2, p3, p4, ?_, p6, p7, ?_, ?_, ?_⟩, ?_, ?_, (oth _ (by omega) _).trans ((hk.cell l0 (by omega) (by omega) 0).trans h.r0), (ofr _ _).trans ((hk.frozen l0 (by omega) (by omega) 0).trans h.f0), (oth _ (by omega) _).trans ((hk.cell l1 (by omega) (by omega) 0).trans h.r1), (ofr _ _).trans ((hk.frozen l1 (by omega) (by omega) 0).trans h.f1), (oth _ p3 _).trans ((hk.cell lB (by omega) (by omega) 0).trans h.t0), (ofr _ _).trans ((hk.frozen lB (by omega) (by omega) 0).trans h.tf), World.cell?_setCell_same _ _ _ uu, (ofr _ _).trans ((hk.frozen lR (by omega) (by omega) 0).trans h.uf), ?_, hf.setCell TR 0 _ ?_, (KeptRG.to1 h.kp hk (by omega)).setNew _ _ (by omega)⟩
  · omega
  · omega
  · omega
  · omega
  · show TB < _; simp [World.setCell]; omega
  · show TR < _; simp [World.setCell]; omega
  · exact Filled.setCell (hk.filledT h.ft (by omega) pa) _ _ (fun e => p7 e.symm)
  · omega

/-- The table is another. -/
theorem OvS.table {w W W' : World} {rp TB TR gt ct gn cn gt' ct' : Nat} {ns ns' : List OpR} {us : List NodeR} (h : OvS w W rp TB TR gt ct gn cn ns us) (hk : KeptRG W W' rp gt) (hg : gt' = gt ∨ W.heap.size ≤ gt') (hf : Filled W' gt' ns' ns'.length) :
    OvS w (W'.setCell ⟨TB, 0, none⟩ (.slice (some ⟨gt', 0, none⟩) ns'.length ct')) rp TB TR gt' ct' gn cn ns' us := by
  have ps := h.ps
  have hz := h.kp.size
  have l0 : w.heap.size < W.heap.size := block_lt_of_cell h.r0
  have l1 : w.heap.size + 1 < W.heap.size := block_lt_of_cell h.r1
  have lt : gn < W.heap.size := h.fn.1
  have lB := h.lB
  have lR := h.lR
  have zz := hk.size
  obtain ⟨p0, p1, p2, p3, p4, p5, p6, p7, p8, p9, pa⟩ := ps
  have oth : ∀ b, b ≠ TB → ∀ v, (W'.setCell ⟨TB, 0, none⟩ v).cell? ⟨b, 0, none⟩ = W'.cell? ⟨b, 0, none⟩ := fun b hb v => World.cell?_setCell_other _ _ _ _ (fun e => hb (by injection e with e; exact e.symm))
  have ofr : ∀ b v, (W'.setCell ⟨TB, 0, none⟩ v).frozen? ⟨b, 0, none⟩ = W'.frozen? ⟨b, 0, none⟩ := fun b v => World.frozen?_setCell _ _ _ _
  have uu : W'.cell? ⟨TB, 0, none⟩ = some (.slice (some ⟨gt, 0, none⟩) ns.length ct) := (hk.cell lB (by omega) (by omega) 0).trans h.t0
  refine ⟨⟨p0, p1, p2, p3, ?_, p5, ?_, ?_, p8, p9, ?_⟩, ?_, ?_, (oth _ (by omega) _).trans ((hk.cell l0 (by omega) (by omega) 0).trans h.r0), (ofr _ _).trans ((hk.frozen l0 (by omega) (by omega) 0).trans h.f0), (oth _ (by omega) _).trans ((hk.cell l1 (by omega) (by omega) 0).trans h.r1), (ofr _ _).trans ((hk.frozen l1 (by omega) (by omega) 0).trans h.f1), World.cell?_setCell_same _ _ _ uu, (ofr _ _).trans ((hk.frozen lB (by omega) (by omega) 0).trans h.tf), (oth _ (fun e => p3 e.symm) _).trans ((hk.cell lR (by omega) (by omega) 0).trans h.u0), (ofr _ _).trans ((hk.frozen lR (by omega) (by omega) 0).trans h.uf), Filled.setCell hf _ _ ?_, ?_, (KeptRG.to1 h.kp hk (by omega)).setNew _ _ (by omega)⟩
  · omega
  · omega
  · omega
  · omega
  · show TB < _; simp [World.setCell]; omega
  · show TR < _; simp [World.setCell]; omega
  · show TB ≠ gt'; omega
  · exact (hk.filledN h.fn (by omega) (fun e => pa e.symm)).setCell TB 0 _ (fun e => p8 e.symm)

/-- Only new places were written. -/
theorem OvS.below {w W W' : World} {rp TB TR gt ct gn cn : Nat} {ns : List OpR} {us : List NodeR} (h : OvS w W rp TB TR gt ct gn cn ns us) (hb : Below W.heap.size W W') : OvS w W' rp TB TR gt ct gn cn ns us :=
  ⟨h.ps, Nat.lt_of_lt_of_le h.lB hb.size, Nat.lt_of_lt_of_le h.lR hb.size, (hb.cell (p := ⟨_, 0, none⟩) (block_lt_of_cell h.r0)).trans h.r0, (hb.frozen (p := ⟨_, 0, none⟩) (block_lt_of_cell h.r0)).trans h.f0, (hb.cell (p := ⟨_, 0, none⟩) (block_lt_of_cell h.r1)).trans h.r1, (hb.frozen (p := ⟨_, 0, none⟩) (block_lt_of_cell h.r1)).trans h.f1, (hb.cell (p := ⟨_, 0, none⟩) h.lB).trans h.t0, (hb.frozen (p := ⟨_, 0, none⟩) h.lB).trans h.tf, (hb.cell (p := ⟨_, 0, none⟩) h.lR).trans h.u0, (hb.frozen (p := ⟨_, 0, none⟩) h.lR).trans h.uf, h.ft.below hb h.ft.1, h.fn.below hb h.fn.1, h.kp.trans (Kept1.of_below hb)⟩

/-- The reader has gone on. -/
theorem OvS.read {w W W' : World} {rp TB TR gt ct gn cn : Nat} {ns : List OpR} {us : List NodeR} (h : OvS w W rp TB TR gt ct gn cn ns us) (hb : Kept1 W W' rp) : OvS w W' rp TB TR gt ct gn cn ns us := by
  have l0 : w.heap.size < W.heap.size := block_lt_of_cell h.r0
  have l1 : w.heap.size + 1 < W.heap.size := block_lt_of_cell h.r1
  obtain ⟨p0, p1, p2, p3, p4, p5, p6, p7, p8, p9, pa⟩ := h.ps
  exact ⟨h.ps, Nat.lt_of_lt_of_le h.lB hb.size, Nat.lt_of_lt_of_le h.lR hb.size, (hb.cell l0 (by omega) 0).trans h.r0, (hb.frozen l0 (by omega) 0).trans h.f0, (hb.cell l1 (by omega) 0).trans h.r1, (hb.frozen l1 (by omega) 0).trans h.f1, (hb.cell h.lB (by omega) 0).trans h.t0, (hb.frozen h.lB (by omega) 0).trans h.tf, (hb.cell h.lR (by omega) 0).trans h.u0, (hb.frozen h.lR (by omega) 0).trans h.uf, hb.filled h.ft (by omega), hb.filledN h.fn (by omega), h.kp.trans hb⟩

/-- What is drawn, in memory. -/
def OvPost (w : World) (rp : Nat) (bs : List UInt8) (p : Nat) (e : Ending) (w' : World) : Prop :=
  (∃ (gt ct gn cn : Nat) (ns : List OpR) (us : List NodeR), e = .returned (.tuple #[.agg #[.slice (some ⟨gt, 0, none⟩) ns.length ct], .agg #[.slice (some ⟨gn, 0, none⟩) us.length cn]]) ∧ w.heap.size ≤ gt ∧ w.heap.size ≤ gn ∧ Hid (Filled w' gt ns ns.length) ∧ Hid (FilledN w' gn us us.length) ∧ Hid (TreeD bs p ns us)) ∧ Hid (Kept1 w w' rp)

/-- What is kept beside three places. -/
structure Kp3 (w w' : World) (x y z : Nat) : Prop where
  os : w'.os = w.os
  tape : w'.tape = w.tape
  output : w'.output = w.output
  size : w'.heap.size = w.heap.size
  block : ∀ i, i ≠ x → i ≠ y → i ≠ z → w'.heap[i]? = w.heap[i]?

theorem Kp3.refl (w : World) (x y z : Nat) : Kp3 w w x y z := ⟨rfl, rfl, rfl, rfl, fun _ _ _ _ => rfl⟩
theorem Kp3.setX {w w' : World} {x y z : Nat} (h : Kp3 w w' x y z) (v : Value) : Kp3 w (w'.setCell ⟨x, 0, none⟩ v) x y z :=
  ⟨h.os, h.tape, h.output, by rw [← h.size]; simp [World.setCell], fun i h1 h2 h3 => (Below.heap_setCell _ _ _ _ h1).trans (h.block i h1 h2 h3)⟩
theorem Kp3.setY {w w' : World} {x y z : Nat} (h : Kp3 w w' x y z) (v : Value) : Kp3 w (w'.setCell ⟨y, 0, none⟩ v) x y z :=
  ⟨h.os, h.tape, h.output, by rw [← h.size]; simp [World.setCell], fun i h1 h2 h3 => (Below.heap_setCell _ _ _ _ h2).trans (h.block i h1 h2 h3)⟩
theorem Kp3.setZ {w w' : World} {x y z : Nat} (h : Kp3 w w' x y z) (v : Value) : Kp3 w (w'.setCell ⟨z, 0, none⟩ v) x y z :=
  ⟨h.os, h.tape, h.output, by rw [← h.size]; simp [World.setCell], fun i h1 h2 h3 => (Below.heap_setCell _ _ _ _ h3).trans (h.block i h1 h2 h3)⟩
theorem Kp3.setO {w w' : World} {x y z : Nat} (h : Kp3 w w' x y z) (o : Nat) (v : Value) : Kp3 w (w'.setCell ⟨x, o, none⟩ v) x y z :=
  ⟨h.os, h.tape, h.output, by rw [← h.size]; simp [World.setCell], fun i h1 h2 h3 => (Below.heap_setCell _ _ _ _ h1).trans (h.block i h1 h2 h3)⟩
theorem Kp3.kept1 {w w' : World} {x : Nat} (h : Kp3 w w' x x x) : Kept1 w w' x := ⟨h.os, h.tape, h.output, by rw [h.size]; exact Nat.le_refl _, fun i _ h1 => h.block i h1 h1 h1⟩
theorem Kp3.drew {w w' : World} {x y z : Nat} (h : Kp3 w w' x y z) : Kp3 w w'.drew x y z := ⟨h.os, h.tape, h.output, h.size, h.block⟩
theorem Kp3.push {w w' : World} {x y z : Nat} (h : Kp3 w w' x y z) (o : Obj) : Kp3 (w.alloc o) (w'.alloc o) x y z := by
  refine ⟨h.os, h.tape, h.output, ?_, fun i h1 h2 h3 => ?_⟩
  · show (w'.heap.push o).size = (w.heap.push o).size
    rw [Array.size_push, Array.size_push, h.size]
  · show (w'.heap.push o)[i]? = (w.heap.push o)[i]?
    rw [Array.getElem?_push, Array.getElem?_push, h.size]
    split
    · rfl
    · exact h.block i h1 h2 h3
theorem Kp3.filledT {w w' : World} {x y z b k : Nat} {xs : List OpR} (h : Kp3 w w' x y z) (ho : Filled w b xs k) (h1 : b ≠ x) (h2 : b ≠ y) (h3 : b ≠ z) : Filled w' b xs k := by
  obtain ⟨a1, a2, a3⟩ := ho
  have hb := h.block b h1 h2 h3
  refine ⟨by rw [h.size]; exact a1, fun j hj => ?_, fun i hi => ?_⟩
  · obtain ⟨c1, c2⟩ := a2 j hj
    exact ⟨by rw [World.cell?_of_block (w := w) (w' := w') (a := ⟨b, 0 + j, none⟩) hb]; exact c1, by rw [World.frozen?_of_block (w := w) (w' := w') (a := ⟨b, 0 + j, none⟩) hb]; exact c2⟩
  · obtain ⟨c0, c1, c2, c3⟩ := a3 i hi
    exact ⟨(World.cell?_of_block (w := w) hb).trans c0, (World.cell?_of_block (w := w) hb).trans c1, (World.cell?_of_block (w := w) hb).trans c2, (World.cell?_of_block (w := w) hb).trans c3⟩
theorem Kp3.filledN {w w' : World} {x y z b k : Nat} {xs : List NodeR} (h : Kp3 w w' x y z) (ho : FilledN w b xs k) (h1 : b ≠ x) (h2 : b ≠ y) (h3 : b ≠ z) : FilledN w' b xs k := by
  obtain ⟨a1, a2, a3⟩ := ho
  have hb := h.block b h1 h2 h3
  refine ⟨by rw [h.size]; exact a1, fun j hj => ?_, fun i hi => ?_⟩
  · obtain ⟨c1, c2⟩ := a2 j hj
    exact ⟨by rw [World.cell?_of_block (w := w) (w' := w') (a := ⟨b, 0 + j, none⟩) hb]; exact c1, by rw [World.frozen?_of_block (w := w) (w' := w') (a := ⟨b, 0 + j, none⟩) hb]; exact c2⟩
  · obtain ⟨c0, c1, c2, c3⟩ := a3 i hi
    exact ⟨(World.cell?_of_block (w := w) hb).trans c0, (World.cell?_of_block (w := w) hb).trans c1, (World.cell?_of_block (w := w) hb).trans c2, (World.cell?_of_block (w := w) hb).trans c3⟩

/-- The results are stored. -/
theorem ov_done {w W W' : World} {rp gt ct gn cn p TR : Nat} {bs : List UInt8} {ns : List OpR} {us : List NodeR} (hk : Kept1 w W rp) (h1 : w.heap.size + 2 ≤ gt) (h2 : w.heap.size + 2 ≤ gn) (h3 : w.heap.size + 2 ≤ TR) (h4 : gt ≠ TR) (h5 : gn ≠ TR) (hft : Filled W gt ns ns.length) (hfn : FilledN W gn us us.length) (hd : TreeD bs p ns us) (hK : Kp3 W W' w.heap.size (w.heap.size + 1) TR) :
    OvPost w rp bs p (.returned (.tuple #[.agg #[.slice (some ⟨gt, 0, none⟩) ns.length ct], .agg #[.slice (some ⟨gn, 0, none⟩) us.length cn]])) W' :=
  ⟨⟨gt, ct, gn, cn, ns, us, rfl, by omega, by omega, hide (hK.filledT hft (by omega) (by omega) h4), hide (hK.filledN hfn (by omega) (by omega) h5), hide hd⟩, hide ⟨hK.os.trans hk.os, hK.tape.trans hk.tape, hK.output.trans hk.output, by rw [hK.size]; exact hk.size, fun i hi a => (hK.block i (by omega) (by omega) (by omega)).trans (hk.block i hi a)⟩⟩
end Go.Proofs.YtfboipappaonhaaGreat
