import Derived.Test.YtokabkhnidlcnabGreatR01
import Derived.Test.YtokabkhnidlcnabGreatR08
import Derived.Test.YtokabkhnidlcnabGreatR09
import Derived.Test.YtokabkhnidlcnabGreatR13
import Derived.Test.YtokabkhnidlcnabGreatR14
import Derived.Test.YtokabkhnidlcnabGreatR22

/-
  The text of a text's tokens is the text.
-/
namespace Go.Proofs.YtokabkhnidlcnabGreat
set_option maxRecDepth 100000
set_option linter.unusedSimpArgs false
set_option linter.unusedVariables false
open Go.RowKit

def rendL (us : List TokR) : List UInt8 := us.flatMap fun t => t.g.data.toList ++ t.t.data.toList

theorem rendTo_take (us : List TokR) : ∀ k, k ≤ us.length → rendTo us k = rendL (us.take k)
  | 0, _ => rfl
  | k + 1, h => by
    have ih := rendTo_take us k (by omega)
    have e : us.take (k + 1) = us.take k ++ [atT us k] := by
      rw [List.take_add_one, List.getElem?_eq_getElem (by omega)]
      simp [atT, List.getD, List.getElem?_eq_getElem (show k < us.length by omega)]
    rw [e]
    show rendTo us k ++ (atT us k).g.data.toList ++ (atT us k).t.data.toList = _
    rw [ih]
    simp [rendL]

theorem rendTo_all (us : List TokR) : rendTo us us.length = rendL us := by
  rw [rendTo_take us us.length (Nat.le_refl _), List.take_length]

theorem ext_list (s : ByteArray) (i j : Nat) : (s.extract i j).data.toList = (s.data.toList.drop i).take (j - i) := by
  simp [ByteArray.data_extract, List.extract_eq_take_drop]

theorem rend_lexed {xs : List OpR} {s : ByteArray} : ∀ (us : List TokR) (i : Nat), Lexed xs s i us → rendL us = s.data.toList.drop i ∧ us.length + i ≤ s.size + 1
  | [], _, h => h.elim
  | t :: out, i, h => by
    have hsl : s.data.toList.length = s.size := by simp
    rcases h with ⟨rfl, hi, _, rfl⟩ | ⟨j, n, k, hij, hj, _, _, htok, rfl, hout⟩
    · refine ⟨?_, by simp; omega⟩
      show (s.extract i s.size).data.toList ++ [] ++ [] = _
      rw [ext_list, List.append_nil, List.append_nil, List.take_of_length_le (by rw [List.length_drop, hsl]; exact Nat.le_refl _)]
    · obtain ⟨ih1, ih2⟩ := rend_lexed out (j + n) hout
      have h1 := htok.1
      refine ⟨?_, by simp; omega⟩
      show (s.extract i j).data.toList ++ (s.extract j (j + n)).data.toList ++ rendL out = _
      rw [ih1, ext_list, ext_list]
      have e1 : s.data.toList.drop (j + n) = (s.data.toList.drop j).drop n := by rw [List.drop_drop]
      have e2 : s.data.toList.drop j = (s.data.toList.drop i).drop (j - i) := by rw [List.drop_drop]; congr 1; omega
      rw [List.append_assoc, e1, Nat.add_sub_cancel_left, List.take_append_drop, e2, List.take_append_drop]

/-- What the tokens of a text say of themselves. -/
theorem lexed_all {xs : List OpR} {s : ByteArray} {us : List TokR} (h : Lexed xs s 0 us) : (⟨(rendTo us us.length).toArray⟩ : ByteArray) = s ∧ us.length ≤ s.size + 1 ∧ totToT us us.length = s.size := by
  obtain ⟨h1, h2⟩ := rend_lexed us 0 h
  rw [List.drop_zero] at h1
  have h3 := rend_len us us.length
  rw [rendTo_all, h1] at h3
  refine ⟨?_, by omega, by rw [← h3]; simp⟩
  rw [rendTo_all, h1]
end Go.Proofs.YtokabkhnidlcnabGreat

/-
  Tokens of a text that fit, as the parser wants them.
-/
namespace Go.Proofs.YtokabkhnidlcnabGreat
set_option maxRecDepth 100000
set_option linter.unusedSimpArgs false
set_option linter.unusedVariables false
open Go.RowKit

theorem lexed_last {ns : List OpR} {s : ByteArray} : ∀ (ts : List TokR) (i : Nat), Lexed ns s i ts → 0 < ts.length ∧ (atT ts (ts.length - 1)).k = 7
  | [], _, h => h.elim
  | t :: out, i, h => by
    rcases h with ⟨rfl, _, _, rfl⟩ | ⟨p, n, k, _, _, _, _, _, rfl, hr⟩
    · exact ⟨by simp, rfl⟩
    · obtain ⟨h1, h2⟩ := lexed_last out _ hr
      refine ⟨by simp, ?_⟩
      have e : (⟨(k : Int), s.extract i p, s.extract p (p + n)⟩ :: out : List TokR).length - 1 = (out.length - 1) + 1 := by simp; omega
      rw [e]
      exact h2

theorem lexed_size {ns : List OpR} {s : ByteArray} : ∀ (ts : List TokR) (i : Nat), Lexed ns s i ts → ∀ j, j < ts.length → (atT ts j).g.size ≤ s.size ∧ (atT ts j).t.size ≤ s.size
  | [], _, h, _, _ => h.elim
  | t :: out, i, h, j, hj => by
    rcases h with ⟨rfl, _, _, rfl⟩ | ⟨p, n, k, _, _, _, _, _, rfl, hr⟩
    · have : j = 0 := by simp at hj; omega
      subst this
      refine ⟨?_, ?_⟩
      · simp [atT, ByteArray.size_extract]
      · simp [atT]
        exact Nat.zero_le _
    · cases j with
      | zero => exact ⟨by simp [atT, ByteArray.size_extract]; omega, by simp [atT, ByteArray.size_extract]; omega⟩
      | succ j => exact lexed_size out _ hr j (by simpa using hj)

theorem fit_all {ns : List OpR} {ts : List TokR} (hf : FitTo ns ts ts.length) (hl : 0 < ts.length ∧ (atT ts (ts.length - 1)).k = 7) : ∀ i, i < ts.length → FitE ns (bhTo ns ts i, opTo ts i) (sgs ns ts i (ts.length - i)) := by
  intro i hi
  obtain ⟨hseg, hend⟩ := fit_end hf hl.1 hl.2
  have e1 : ts.length - 1 = i + (ts.length - 1 - i) := by omega
  have h1 : sgs ns ts 0 (ts.length - 1) = sgs ns ts 0 i ++ sgs ns ts i (ts.length - 1 - i) := by
    have := sgs_add ns ts 0 i (ts.length - 1 - i)
    rw [← e1, Nat.zero_add] at this
    exact this
  have h2 : sgs ns ts i (ts.length - i) = sgs ns ts i (ts.length - 1 - i) ++ [eoS] := by
    have e2 : ts.length = i + (ts.length - i) := by omega
    have h3 := sgs_add ns ts 0 i (ts.length - i)
    rw [← e2, Nat.zero_add, hend, h1, List.append_assoc] at h3
    exact (List.append_cancel_left h3).symm
  refine ⟨sgs ns ts i (ts.length - 1 - i), h2, ?_⟩
  unfold Seg at hseg
  rw [h1, runS_append, run_sgs i hi (fun j hj => hf j (by omega))] at hseg
  exact hseg

theorem fits_of {ns : List OpR} {ts : List TokR} {s : ByteArray} (hv : IsCode ns 0) (hok : okTo ns ns.length) (hs : s.size ≤ 20000) (hx : Lexed ns s 0 ts) (hf : FitTo ns ts ts.length) : Fits ns ts where
  code := hv
  all := fit_all hf (lexed_last ts 0 hx)
  role := hf
  tok := toks_ok (signTexts_of hok) ts 0 hx
  size := fun i hi => by have := (lexed_size ts 0 hx i hi).2; unfold maxLen; omega
  len := by have := Lexed.len ts 0 hx; omega
end Go.Proofs.YtokabkhnidlcnabGreat

/-
  What Parse answers.
-/
namespace Go.Proofs.YtokabkhnidlcnabGreat
set_option maxRecDepth 100000
set_option linter.unusedSimpArgs false
set_option linter.unusedVariables false

/-- What is answered of tokens that fit. -/
def ReadIs (ns : List OpR) (ts : List TokR) (us : List NodeR) (c p : Int) : Prop :=
  (RD ns 0 none (sgs ns ts 0 ts.length) = none ∧ us = [] ∧ c = 5 ∧ p = 0) ∨
  ∃ T r, RD ns 0 none (sgs ns ts 0 ts.length) = some (T, r) ∧ ((1000 < hT T ∧ us = [] ∧ c = 6 ∧ p = 0) ∨ (hT T ≤ 1000 ∧ us = nd T 0 ∧ c = 0 ∧ p = 0))

/-- What is answered of tokens. -/
def ToksIs (ns : List OpR) (ts : List TokR) (us : List NodeR) (c p : Int) : Prop :=
  (∃ i, i < ts.length ∧ (atT ts i).k = 6 ∧ (∀ j, j < i → (atT ts j).k ≠ 6) ∧ us = [] ∧ c = 3 ∧ p = (offT ts i : Int)) ∨
  ((∀ j, j < ts.length → (atT ts j).k ≠ 6) ∧
    ((∃ i, i < ts.length ∧ FitTo ns ts i ∧ roleTo ns ts i < 0 ∧ us = [] ∧ c = 4 ∧ p = (offT ts i : Int)) ∨ (FitTo ns ts ts.length ∧ ReadIs ns ts us c p)))

/-- What Parse answers. -/
def ParseIs (ns : List OpR) (s : ByteArray) (us : List NodeR) (c p : Int) : Prop :=
  (¬ IsCode ns 0 ∧ us = [] ∧ c = 1 ∧ p = 0) ∨
  (IsCode ns 0 ∧ ((20000 < s.size ∧ us = [] ∧ c = 2 ∧ p = 0) ∨ (s.size ≤ 20000 ∧ ∃ ts, Lexed ns s 0 ts ∧ ToksIs ns ts us c p)))

theorem ReadIs.one {ns : List OpR} {ts : List TokR} {us us' : List NodeR} {c c' p p' : Int} (h : ReadIs ns ts us c p) (h' : ReadIs ns ts us' c' p') : us = us' ∧ c = c' ∧ p = p' := by
  rcases h with ⟨h1, rfl, rfl, rfl⟩ | ⟨T, r, h1, h⟩
  · rcases h' with ⟨h2, rfl, rfl, rfl⟩ | ⟨T', r', h2, h'⟩
    · exact ⟨rfl, rfl, rfl⟩
    · rw [h1] at h2; cases h2
  · rcases h' with ⟨h2, rfl, rfl, rfl⟩ | ⟨T', r', h2, h'⟩
    · rw [h1] at h2; cases h2
    · rw [h1] at h2
      injection h2 with h2
      injection h2 with h2 _
      subst h2
      rcases h with ⟨a, rfl, rfl, rfl⟩ | ⟨a, rfl, rfl, rfl⟩ <;> rcases h' with ⟨b, rfl, rfl, rfl⟩ | ⟨b, rfl, rfl, rfl⟩
      · exact ⟨rfl, rfl, rfl⟩
      · omega
      · omega
      · exact ⟨rfl, rfl, rfl⟩

theorem ToksIs.one {ns : List OpR} {ts : List TokR} {us us' : List NodeR} {c c' p p' : Int} (h : ToksIs ns ts us c p) (h' : ToksIs ns ts us' c' p') : us = us' ∧ c = c' ∧ p = p' := by
  rcases h with ⟨i, hi, a1, a2, rfl, rfl, rfl⟩ | ⟨a, h⟩
  · rcases h' with ⟨j, hj, b1, b2, rfl, rfl, rfl⟩ | ⟨b, h'⟩
    · rcases (by omega : i = j ∨ i < j ∨ j < i) with e | e | e
      · subst e; exact ⟨rfl, rfl, rfl⟩
      · exact absurd a1 (b2 i e)
      · exact absurd b1 (a2 j e)
    · exact absurd a1 (b i hi)
  · rcases h' with ⟨j, hj, b1, b2, rfl, rfl, rfl⟩ | ⟨b, h'⟩
    · exact absurd b1 (a j hj)
    · rcases h with ⟨i, hi, f, n, rfl, rfl, rfl⟩ | ⟨f, h⟩
      · rcases h' with ⟨j, hj, f', n', rfl, rfl, rfl⟩ | ⟨f', h'⟩
        · rcases (by omega : i = j ∨ i < j ∨ j < i) with e | e | e
          · subst e; exact ⟨rfl, rfl, rfl⟩
          · have := f' i e; omega
          · have := f j e; omega
        · have := f' i hi; omega
      · rcases h' with ⟨j, hj, f', n', rfl, rfl, rfl⟩ | ⟨f', h'⟩
        · have := f j hj; omega
        · exact h.one h'

theorem ParseIs.one {ns : List OpR} {s : ByteArray} {us us' : List NodeR} {c c' p p' : Int} (h : ParseIs ns s us c p) (h' : ParseIs ns s us' c' p') : us = us' ∧ c = c' ∧ p = p' := by
  rcases h with ⟨n, rfl, rfl, rfl⟩ | ⟨n, h⟩
  · rcases h' with ⟨n', rfl, rfl, rfl⟩ | ⟨n', h'⟩
    · exact ⟨rfl, rfl, rfl⟩
    · exact absurd n' n
  · rcases h' with ⟨n', rfl, rfl, rfl⟩ | ⟨n', h'⟩
    · exact absurd n n'
    · rcases h with ⟨b, rfl, rfl, rfl⟩ | ⟨b, ts, hx, h⟩
      · rcases h' with ⟨b', rfl, rfl, rfl⟩ | ⟨b', ts', hx', h'⟩
        · exact ⟨rfl, rfl, rfl⟩
        · omega
      · rcases h' with ⟨b', rfl, rfl, rfl⟩ | ⟨b', ts', hx', h'⟩
        · omega
        · have e := Lexed.one _ _ _ hx hx'
          subst e
          exact h.one h'
end Go.Proofs.YtokabkhnidlcnabGreat
