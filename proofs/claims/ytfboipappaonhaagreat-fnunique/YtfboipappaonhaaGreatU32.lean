import Derived.Test.YtfboipappaonhaaGreatU03
import Derived.Test.YtfboipappaonhaaGreatU14
import Derived.Test.YtfboipappaonhaaGreatU20
import Derived.Test.YtfboipappaonhaaGreatU27
import Derived.Test.YtfboipappaonhaaGreatU31

/-
  Walks: the specification's words of a tree, at every tree; its Print.
-/
namespace Go.Proofs.YtfboipappaonhaaGreat
set_option maxRecDepth 100000
set_option linter.unusedSimpArgs false
set_option linter.unusedVariables false
open Go.RowKit
open Go.Deep (BT)

theorem yT_len (T : ET) : (yT T).length = (ySy T).length := by simp [yT]

theorem l4Yield_any (bz offz cz : Nat) (ns : List OpR) (zs : List NodeR) (B : Nat) (hbz : bz < B) (hzl : zs.length ≤ 20000) : ∀ (T : ET), WellT ns T → ∀ (s : Nat) (us vs : List WordR), Lies zs T s → s + tsz T ≤ zs.length → us.length + (ySy T).length ≤ 90000 → vs = us ++ yT T → YRec bz offz cz zs B (s + tsz T - 1) us vs := by
  intro T
  induction T with
  | nil => intro h; exact h.elim
  | node b o t l r ihl ihr =>
    rintro ⟨rfl, h⟩ s us vs ⟨h1, h2, h3⟩ hz hlen hvs
    simp only [tsz] at hz
    have e : s + tsz (.node b 0 t l r) - 1 = s + tsz l + tsz r := by simp only [tsz]; omega
    rw [e]
    intro u W hW hB hrow
    have hcell : ∀ ja jb : Nat, (if kids (b : Int) = 0 then (0 : Int) else ((s + tsz l : Nat) : Int) - 1) = (ja : Int) → (if kids (b : Int) = 2 then ((s + tsz l + tsz r : Nat) : Int) - 1 else 0) = (jb : Int) → atN zs (s + tsz l + tsz r) = ⟨(b : Int), t, (ja : Int), (jb : Int)⟩ := fun ja jb ha hb => by
      rw [h3, tN, ha, hb]
    rcases h with ⟨h12, rfl, rfl⟩ | ⟨rfl, rfl, hl, rfl⟩ | ⟨h35, hk, hl, rfl⟩ | ⟨rfl, hk, hl, hr⟩
    · have hk0 : kids (b : Int) = 0 := by rcases h12 with h | h <;> subst h <;> decide
      refine ly_any bz offz cz _ zs (b : Int) t 0 0 B u us vs W hW hbz hB hrow (by simp only [tsz] at hz ⊢; omega) hzl (hcell 0 0 (by rw [if_pos hk0]; rfl) (by rw [if_neg (by omega)]; rfl)) (by omega) (Or.inl ⟨hk0, ?_⟩)
      rw [hvs]
      have : yT (.node b 0 t .nil .nil) = [⟨t, false, false⟩] := by
        simp only [yT, ySy]
        rw [if_neg (by omega), if_neg (by omega), if_neg (by omega), if_neg (by omega)]
        simp [wS]
        omega
      rw [this]
    · have hp := hl.sh.pos
      have hy : yT (.node 6 0 ByteArray.empty l .nil) = ⟨opn, false, false⟩ :: (yT l ++ [⟨cls1, false, false⟩]) := by simp [yT, ySy, wS]
      have hy2 : (ySy (.node 6 0 ByteArray.empty l .nil)).length = (ySy l).length + 2 := by simp [ySy]
      rw [hy2] at hlen
      refine ly_any bz offz cz _ zs 6 ByteArray.empty (s + tsz l - 1) 0 B u us vs W hW hbz hB hrow (by simp only [tsz] at hz ⊢; omega) hzl (hcell _ 0 (by rw [if_neg (by decide)]; omega) (by rw [if_neg (by decide)]; rfl)) (by omega) (Or.inr (Or.inr (Or.inl ⟨rfl, us ++ [⟨opn, false, false⟩], us ++ [⟨opn, false, false⟩] ++ yT l, rfl, ihl hl s _ _ h1 (by omega) (by simp; omega) rfl, ?_, ?_⟩)))
      · rw [hvs, hy]; simp
      · simp [yT_len]; omega
    · have hp := hl.sh.pos
      rcases h35 with rfl | rfl
      · have hy : yT (.node 3 0 t l .nil) = ⟨t, true, false⟩ :: yT l := by simp [yT, ySy, wS]
        have hy2 : (ySy (.node 3 0 t l .nil)).length = (ySy l).length + 1 := by simp [ySy]
        rw [hy2] at hlen
        refine ly_any bz offz cz _ zs 3 t (s + tsz l - 1) 0 B u us vs W hW hbz hB hrow (by simp only [tsz] at hz ⊢; omega) hzl (hcell _ 0 (by rw [if_neg (by decide)]; omega) (by rw [if_neg (by decide)]; rfl)) (by omega) (Or.inr (Or.inl ⟨rfl, us ++ [⟨t, true, false⟩], rfl, ihl hl s _ _ h1 (by omega) (by simp; omega) ?_⟩))
        rw [hvs, hy]; simp
      · have hy : yT (.node 5 0 t l .nil) = yT l ++ [⟨t, true, false⟩] := by simp [yT, ySy, wS]
        have hy2 : (ySy (.node 5 0 t l .nil)).length = (ySy l).length + 1 := by simp [ySy]
        rw [hy2] at hlen
        refine ly_any bz offz cz _ zs 5 t (s + tsz l - 1) 0 B u us vs W hW hbz hB hrow (by simp only [tsz] at hz ⊢; omega) hzl (hcell _ 0 (by rw [if_neg (by decide)]; omega) (by rw [if_neg (by decide)]; rfl)) (by omega) (Or.inr (Or.inr (Or.inr (Or.inl ⟨rfl, us ++ yT l, ihl hl s _ _ h1 (by omega) (by omega) rfl, ?_, ?_⟩))))
        · rw [hvs, hy]; simp
        · simp [yT_len]; omega
    · have hp := hl.sh.pos
      have hq := hr.sh.pos
      have hy : yT (.node 4 0 t l r) = yT l ++ (⟨t, true, true⟩ :: yT r) := by simp [yT, ySy, wS]
      have hy2 : (ySy (.node 4 0 t l r)).length = (ySy l).length + (ySy r).length + 1 := by simp [ySy]; omega
      rw [hy2] at hlen
      refine ly_any bz offz cz _ zs 4 t (s + tsz l - 1) (s + tsz l + tsz r - 1) B u us vs W hW hbz hB hrow (by omega) hzl (hcell _ _ (by rw [if_neg (by decide)]; omega) (by rw [if_pos (by decide)]; omega)) (by omega) (Or.inr (Or.inr (Or.inr (Or.inr ⟨rfl, us ++ yT l, us ++ yT l ++ [⟨t, true, true⟩], ihl hl s _ _ h1 (by omega) (by omega) rfl, rfl, ihr hr (s + tsz l) _ _ h2 (by omega) (by simp [yT_len]; omega) ?_, ?_⟩))))
      · rw [hvs, hy]; simp
      · simp [yT_len]; omega
end Go.Proofs.YtfboipappaonhaaGreat

/-
  Texts put together, byte by byte.
-/
namespace Go.Proofs.YtfboipappaonhaaGreat
set_option maxRecDepth 100000
set_option linter.unusedSimpArgs false
set_option linter.unusedVariables false

theorem bt_app_l {a b : ByteArray} {i : Nat} (h : i < a.size) : bt (a ++ b) i = bt a i := by
  unfold bt
  rw [ByteArray.data_append, Array.getElem?_append_left (by simpa using h)]
theorem bt_app_r {a b : ByteArray} (i : Nat) : bt (a ++ b) (a.size + i) = bt b i := by
  unfold bt
  rw [ByteArray.data_append, Array.getElem?_append_right (show a.data.size ≤ a.size + i from Nat.le_add_right _ _)]
  have e : a.size + i - a.data.size = i := by show a.data.size + i - a.data.size = i; omega
  rw [e]
theorem ba_assoc (a b c : ByteArray) : a ++ b ++ c = a ++ (b ++ c) := by
  apply ByteArray.ext
  simp [ByteArray.data_append, Array.append_assoc]
theorem ba_size (a b : ByteArray) : (a ++ b).size = a.size + b.size := by simp

theorem ba_len (a : ByteArray) : a.size = a.data.toList.length := rfl
theorem ba_ext {a b : ByteArray} (h : a.data.toList = b.data.toList) : a = b := by
  apply ByteArray.ext
  exact Array.ext' h
theorem ext_ls (s : ByteArray) (i j : Nat) : (s.extract i j).data.toList = (s.data.toList.drop i).take (j - i) := by
  rw [ByteArray.data_extract, Array.toList_extract, List.extract_eq_take_drop]
theorem app_ls (a b : ByteArray) : (a ++ b).data.toList = a.data.toList ++ b.data.toList := by rw [ByteArray.data_append, Array.toList_append]
theorem ext_mid (a l r : ByteArray) : (a ++ (l ++ r)).extract a.size (a.size + l.size) = l := by
  apply ba_ext
  rw [ext_ls, app_ls, app_ls, ba_len a, ba_len l, List.drop_left, Nat.add_sub_cancel_left, List.take_left]
theorem ext_end (a r : ByteArray) : (a ++ r).extract a.size (a ++ r).size = r := by
  apply ba_ext
  rw [ext_ls, app_ls, ba_size, ba_len a, ba_len r, List.drop_left, Nat.add_sub_cancel_left, List.take_length]

def one (c : UInt8) : ByteArray := ⟨#[c]⟩
theorem one_size (c : UInt8) : (one c).size = 1 := rfl
theorem one_bt (c : UInt8) : bt (one c) 0 = c := rfl
end Go.Proofs.YtfboipappaonhaaGreat

/-
  A text made of words and blanks has these words as its tokens.
-/
namespace Go.Proofs.YtfboipappaonhaaGreat
set_option maxRecDepth 100000
set_option linter.unusedSimpArgs false
set_option linter.unusedVariables false
open Go.RowKit

/-- A word of a kind. -/
def WdK (ns : List OpR) (t : ByteArray) (k : Nat) : Prop := (k = 1 ∧ NumT t) ∨ (k = 2 ∧ NameT t) ∨ (k = 3 ∧ opT ns t) ∨ (k = 4 ∧ t = opn) ∨ (k = 5 ∧ t = cls1)

/-- What stands behind does not run on. -/
def Sep (k : Nat) (R : ByteArray) : Prop := 0 < R.size → ((k = 1 ∨ k = 2) → cls (bt R 0) ≠ 2 ∧ cls (bt R 0) ≠ 3) ∧ (k = 3 → cls (bt R 0) ≠ 6)

theorem op_cls {ns : List OpR} (hv : SignTexts ns) {t : ByteArray} (h : opT ns t) : 1 ≤ t.size ∧ ∀ q, q < t.size → cls (bt t q) = 6 := by
  obtain ⟨j, hj, rfl⟩ := h
  exact ⟨(hv j hj).1, (hv j hj).2.2⟩

theorem wdK_pos {ns : List OpR} (hv : SignTexts ns) {t : ByteArray} {k : Nat} (h : WdK ns t k) : 1 ≤ t.size := by
  rcases h with ⟨_, h⟩ | ⟨_, h⟩ | ⟨_, h⟩ | ⟨_, rfl⟩ | ⟨_, rfl⟩
  · exact h.1
  · exact h.1
  · exact (op_cls hv h).1
  · decide
  · decide

theorem wdK_first {ns : List OpR} (hv : SignTexts ns) {t : ByteArray} {k : Nat} (h : WdK ns t k) : cls (bt t 0) ≠ 1 := by
  rcases h with ⟨_, h⟩ | ⟨_, h⟩ | ⟨_, h⟩ | ⟨_, rfl⟩ | ⟨_, rfl⟩
  · rw [h.2 0 h.1]; decide
  · rcases h.2 0 h.1 with e | ⟨e, _⟩
    · rw [e]; decide
    · exact absurd rfl e
  · rw [(op_cls hv h).2 0 (op_cls hv h).1]; decide
  · decide
  · decide

theorem isTok_word {ns : List OpR} (hv : SignTexts ns) (P w R : ByteArray) {k : Nat} (h : WdK ns w k) (hs : Sep k R) : IsTok ns (P ++ (w ++ R)) P.size w.size k := by
  have h1 := wdK_pos hv h
  have hz : (P ++ (w ++ R)).size = P.size + (w.size + R.size) := by rw [ba_size, ba_size]
  have b1 : ∀ j, j < w.size → bt (P ++ (w ++ R)) (P.size + j) = bt w j := fun j hj => by rw [bt_app_r, bt_app_l hj]
  have b0 : bt (P ++ (w ++ R)) P.size = bt w 0 := b1 0 h1
  have b2 : bt (P ++ (w ++ R)) (P.size + w.size) = bt R 0 := by
    rw [bt_app_r]
    have := bt_app_r (a := w) (b := R) 0
    rw [Nat.add_zero] at this
    exact this
  have hR : P.size + w.size < (P ++ (w ++ R)).size → 0 < R.size := fun x => by omega
  refine ⟨h1, by omega, ?_⟩
  rcases h with ⟨rfl, h⟩ | ⟨rfl, h⟩ | ⟨rfl, h⟩ | ⟨rfl, rfl⟩ | ⟨rfl, rfl⟩
  · exact Or.inl ⟨by rw [b0]; exact h.2 0 h1, rfl, fun j hj => by rw [b1 j hj]; exact h.2 j hj, fun x => by rw [b2]; exact ((hs (hR x)).1 (Or.inl rfl)).1⟩
  · refine Or.inr (Or.inl ⟨?_, rfl, fun j hj => ?_, fun x => ?_⟩)
    · rw [b0]
      rcases h.2 0 h1 with e | ⟨e, _⟩
      · exact e
      · exact absurd rfl e
    · rw [b1 j hj]
      rcases h.2 j hj with e | ⟨_, e⟩
      · exact Or.inr e
      · exact Or.inl e
    · rw [b2]
      have := (hs (hR x)).1 (Or.inr rfl)
      exact fun y => y.elim this.1 this.2
  · have hc := op_cls hv h
    have e : sub (P ++ (w ++ R)) P.size w.size = w := ext_mid P w R
    refine Or.inr (Or.inr (Or.inr (Or.inr (Or.inl ⟨by rw [b0]; exact hc.2 0 h1, Or.inl ⟨rfl, by rw [e]; exact h, fun m hm hms ho => ?_⟩⟩))))
    have hcm := op_cls hv ho
    have hR' : 0 < R.size := by omega
    have := hcm.2 w.size (by rw [sub_size hms]; exact hm)
    rw [sub_bt hms hm, b2] at this
    exact (hs hR').2 rfl this
  · exact Or.inr (Or.inr (Or.inl ⟨by rw [b0]; decide, rfl, rfl⟩))
  · exact Or.inr (Or.inr (Or.inr (Or.inl ⟨by rw [b0]; decide, rfl, rfl⟩)))

/-- A word with the blanks ahead of it. -/
structure GwR where
  g : ByteArray
  w : ByteArray
  k : Nat

/-- The text of words with their blanks. -/
def spr : List GwR → ByteArray → ByteArray
  | [], e => e
  | x :: r, e => x.g ++ (x.w ++ spr r e)

def Bl (g : ByteArray) : Prop := ∀ i, i < g.size → cls (bt g i) = 1

/-- Words that stand apart. -/
def Spread (ns : List OpR) : List GwR → ByteArray → Prop
  | [], e => Bl e
  | x :: r, e => Bl x.g ∧ WdK ns x.w x.k ∧ Sep x.k (spr r e) ∧ Spread ns r e

def tokG (x : GwR) : TokR := ⟨(x.k : Int), x.g, x.w⟩

theorem lexed_spr {ns : List OpR} (hv : SignTexts ns) : ∀ (xs : List GwR) (e a : ByteArray), Spread ns xs e → Lexed ns (a ++ spr xs e) a.size (xs.map tokG ++ [⟨7, e, ⟨#[]⟩⟩])
  | [], e, a, h => by
    have hz := ba_size a e
    have := Lexed.fin (xs := ns) (s := a ++ e) (i := a.size) (by omega) (fun q h1 h2 => by
      obtain ⟨j, rfl⟩ := Nat.exists_eq_add_of_le h1
      rw [bt_app_r]
      exact h j (by omega))
    rw [ext_end] at this
    exact this
  | x :: r, e, a, h => by
    obtain ⟨h1, h2, h3, h4⟩ := h
    have ih := lexed_spr hv r e (a ++ x.g ++ x.w) h4
    have hp := wdK_pos hv h2
    have e1 : a ++ x.g ++ x.w ++ spr r e = a ++ (x.g ++ (x.w ++ spr r e)) := by rw [ba_assoc, ba_assoc]
    have e2 : (a ++ x.g ++ x.w).size = a.size + x.g.size + x.w.size := by rw [ba_size, ba_size]
    have e3 : (a ++ x.g) ++ (x.w ++ spr r e) = a ++ (x.g ++ (x.w ++ spr r e)) := by rw [ba_assoc]
    have e4 : (a ++ x.g).size = a.size + x.g.size := ba_size _ _
    have hz : (a ++ (x.g ++ (x.w ++ spr r e))).size = a.size + (x.g.size + (x.w.size + (spr r e).size)) := by rw [ba_size, ba_size, ba_size]
    rw [e1, e2] at ih
    have ht := isTok_word hv (a ++ x.g) x.w (spr r e) h2 h3
    have hx := ext_mid (a ++ x.g) x.w (spr r e)
    have hb := bt_app_r (a := a ++ x.g) (b := x.w ++ spr r e) 0
    rw [e3, e4] at ht hx hb
    have hg := ext_mid a x.g (x.w ++ spr r e)
    have := Lexed.tok (xs := ns) (s := a ++ (x.g ++ (x.w ++ spr r e))) (i := a.size) (j := a.size + x.g.size) (n := x.w.size) (k := x.k) (by omega) (by omega) (fun q q1 q2 => by
      obtain ⟨j, rfl⟩ := Nat.exists_eq_add_of_le q1
      rw [bt_app_r, bt_app_l (by omega)]
      exact h1 j (by omega)) (by
      rw [Nat.add_zero] at hb
      rw [hb, bt_app_l hp]
      exact wdK_first hv h2) ht ih
    rw [hg, hx] at this
    exact this

theorem lexed_words {ns : List OpR} (hv : SignTexts ns) (xs : List GwR) (e : ByteArray) (h : Spread ns xs e) : Lexed ns (spr xs e) 0 (xs.map tokG ++ [⟨7, e, ⟨#[]⟩⟩]) := by
  have := lexed_spr hv xs e ByteArray.empty h
  have e1 : ByteArray.empty ++ spr xs e = spr xs e := by apply ByteArray.ext; simp [ByteArray.data_append]
  rw [e1] at this
  exact this
end Go.Proofs.YtfboipappaonhaaGreat
