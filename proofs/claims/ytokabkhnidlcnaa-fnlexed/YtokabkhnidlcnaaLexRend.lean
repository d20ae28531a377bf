/-
  The text of a text's tokens is the text.
-/
import Derived.Test.YtokabkhnidlcnaaLexM
import Derived.Test.YtokabkhnidlcnaaRendM
import Derived.Test.YtokabkhnidlcnaaTokRow
namespace Go.Proofs.Ytokabkhnidlcnaa
set_option maxRecDepth 100000
set_option linter.unusedSimpArgs false
set_option linter.unusedVariables false
open Go.RowKit

def rendL (us : List TokR) : List UInt8 := us.flatMap fun t => t.g.data.toList ++ t.t.data.toList

theorem rendTo_take (us : List TokR) : ∀ k, k ≤ us.length → rendTo us k = rendL (us.take k)
  | 0, _ => rfl
  | k + 1, h => by
    have ih := rendTo_take us k (by omega)
    have e : us.take (k + 1) = us.take k ++ [atT us k] := by
      rw [List.take_add_one, List.getElem?_eq_getElem (by omega)]
      simp [atT, List.getD, List.getElem?_eq_getElem (show k < us.length by omega)]
    rw [e]
    show rendTo us k ++ (atT us k).g.data.toList ++ (atT us k).t.data.toList = _
    rw [ih]
    simp [rendL]

theorem rendTo_all (us : List TokR) : rendTo us us.length = rendL us := by
  rw [rendTo_take us us.length (Nat.le_refl _), List.take_length]

theorem ext_list (s : ByteArray) (i j : Nat) : (s.extract i j).data.toList = (s.data.toList.drop i).take (j - i) := by
  simp [ByteArray.data_extract, List.extract_eq_take_drop]

theorem rend_lexed {xs : List OpR} {s : ByteArray} : ∀ (us : List TokR) (i : Nat), Lexed xs s i us → rendL us = s.data.toList.drop i ∧ us.length + i ≤ s.size + 1
  | [], _, h => h.elim
  | t :: out, i, h => by
    have hsl : s.data.toList.length = s.size := by simp
    rcases h with ⟨rfl, hi, _, rfl⟩ | ⟨j, n, k, hij, hj, _, _, htok, rfl, hout⟩
    · refine ⟨?_, by simp; omega⟩
      show (s.extract i s.size).data.toList ++ [] ++ [] = _
      rw [ext_list, List.append_nil, List.append_nil, List.take_of_length_le (by rw [List.length_drop, hsl]; exact Nat.le_refl _)]
    · obtain ⟨ih1, ih2⟩ := rend_lexed out (j + n) hout
      have h1 := htok.1
      refine ⟨?_, by simp; omega⟩
      show (s.extract i j).data.toList ++ (s.extract j (j + n)).data.toList ++ rendL out = _
      rw [ih1, ext_list, ext_list]
      have e1 : s.data.toList.drop (j + n) = (s.data.toList.drop j).drop n := by rw [List.drop_drop]
      have e2 : s.data.toList.drop j = (s.data.toList.drop i).drop (j - i) := by rw [List.drop_drop]; congr 1; omega
      rw [List.append_assoc, e1, Nat.add_sub_cancel_left, List.take_append_drop, e2, List.take_append_drop]

/-- What the tokens of a text say of themselves. -/
theorem lexed_all {xs : List OpR} {s : ByteArray} {us : List TokR} (h : Lexed xs s 0 us) : (⟨(rendTo us us.length).toArray⟩ : ByteArray) = s ∧ us.length ≤ s.size + 1 ∧ totToT us us.length = s.size := by
  obtain ⟨h1, h2⟩ := rend_lexed us 0 h
  rw [List.drop_zero] at h1
  have h3 := rend_len us us.length
  rw [rendTo_all, h1] at h3
  refine ⟨?_, by omega, by rw [← h3]; simp⟩
  rw [rendTo_all, h1]
end Go.Proofs.Ytokabkhnidlcnaa
