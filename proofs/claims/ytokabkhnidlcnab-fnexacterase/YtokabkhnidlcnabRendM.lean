/-
  The text of a row of tokens.
-/
import Derived.Test.YtokabkhnidlcnabTokB
import Derived.Test.YtokabkhnidlcnabBytes
namespace Go.Proofs.Ytokabkhnidlcnab
set_option maxRecDepth 100000
open Go.RowKit

/-- The text of the first k tokens. -/
def rendTo (xs : List TokR) : Nat → List UInt8
  | 0 => []
  | k + 1 => rendTo xs k ++ (atT xs k).g.data.toList ++ (atT xs k).t.data.toList

theorem rend_len (xs : List TokR) : ∀ k, (rendTo xs k).length = totToT xs k
  | 0 => rfl
  | k + 1 => by
    have := rend_len xs k
    simp only [rendTo, totToT, totT, List.length_append, this]
    simp
    omega

theorem tot_mono (xs : List TokR) : ∀ k n, k ≤ n → totToT xs k ≤ totToT xs n
  | k, 0, h => by have : k = 0 := by omega
                  subst this; exact Nat.le_refl _
  | k, n + 1, h => by
    by_cases e : k = n + 1
    · subst e; exact Nat.le_refl _
    · have := tot_mono xs k n (by omega)
      simp only [totToT]
      omega

theorem owns_bval {w : World} {base n size : Nat} {e : TypeId} {v : Value} {xs : List Value} (h : w.ownsRow base e size v n xs) (hv : v ≠ .slice none 0 0) : ∃ g cap, v = .slice (some ⟨g, 0, none⟩) n cap := by
  obtain ⟨_, h | ⟨g, cap, cur, hv', _⟩⟩ := h
  · exact absurd h.1 hv
  · exact ⟨g, cap, hv'⟩

theorem owns_bcells {w : World} {base g cap n : Nat} {e : TypeId} {l : List UInt8} (h : w.ownsRow base e 1 (.slice (some ⟨g, 0, none⟩) n cap) n (cellsB l)) : ∀ j u, (cellsB l)[j]? = some u → w.cell? ((⟨g, 0, none⟩ : Addr).add j) = some u :=
  h.cells rfl

theorem grown_bel {w w' : World} (h : Below w.heap.size w w') (row : Option Nat) : w.grownBy w' row := ⟨h.os, h.tape, h.output, h.size, fun i hi _ => h.block i hi⟩
end Go.Proofs.Ytokabkhnidlcnab
