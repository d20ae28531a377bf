import Derived.OwnWalk
import Derived.Laws.OwnMore
import Derived.Test.YtokabkhnidlcnaaL08
import Derived.Test.YtokabkhnidlcnaaL12

/-
  The text of a row of tokens.
-/
namespace Go.Proofs.Ytokabkhnidlcnaa
set_option maxRecDepth 100000
open Go.RowKit

/-- The text of the first k tokens. -/
def rendTo (xs : List TokR) : Nat → List UInt8
  | 0 => []
  | k + 1 => rendTo xs k ++ (atT xs k).g.data.toList ++ (atT xs k).t.data.toList

theorem rend_len (xs : List TokR) : ∀ k, (rendTo xs k).length = totToT xs k
  | 0 => rfl
  | k + 1 => by
    have := rend_len xs k
    simp only [rendTo, totToT, totT, List.length_append, this]
    simp
    omega

theorem tot_mono (xs : List TokR) : ∀ k n, k ≤ n → totToT xs k ≤ totToT xs n
  | k, 0, h => by have : k = 0 := by omega
                  subst this; exact Nat.le_refl _
  | k, n + 1, h => by
    by_cases e : k = n + 1
    · subst e; exact Nat.le_refl _
    · have := tot_mono xs k n (by omega)
      simp only [totToT]
      omega

theorem owns_bval {w : World} {base n size : Nat} {e : TypeId} {v : Value} {xs : List Value} (h : w.ownsRow base e size v n xs) (hv : v ≠ .slice none 0 0) : ∃ g cap, v = .slice (some ⟨g, 0, none⟩) n cap := by
  obtain ⟨_, h | ⟨g, cap, cur, hv', _⟩⟩ := h
  · exact absurd h.1 hv
  · exact ⟨g, cap, hv'⟩

theorem owns_bcells {w : World} {base g cap n : Nat} {e : TypeId} {l : List UInt8} (h : w.ownsRow base e 1 (.slice (some ⟨g, 0, none⟩) n cap) n (cellsB l)) : ∀ j u, (cellsB l)[j]? = some u → w.cell? ((⟨g, 0, none⟩ : Addr).add j) = some u :=
  h.cells rfl

theorem grown_bel {w w' : World} (h : Below w.heap.size w w') (row : Option Nat) : w.grownBy w' row := ⟨h.os, h.tape, h.output, h.size, fun i hi _ => h.block i hi⟩
end Go.Proofs.Ytokabkhnidlcnaa

/-
  Rows of tokens that a call makes by append.
-/
namespace Go.Proofs.Ytokabkhnidlcnaa
set_option maxRecDepth 100000
open Go.RowKit

/-- The cells of a list of tokens. -/
def cellsTk (zs : List TokR) : List Value := zs.flatMap fun o => [.int .i64 o.k, .string o.g, .string o.t]

theorem cellsTk_append (xs ys : List TokR) : cellsTk (xs ++ ys) = cellsTk xs ++ cellsTk ys := by simp [cellsTk]
theorem cellsTk_len : ∀ zs : List TokR, (cellsTk zs).length = zs.length * 3
  | [] => rfl
  | o :: r => by
    have := cellsTk_len r
    simp only [cellsTk, List.flatMap_cons, List.length_append, List.length_cons, List.length_nil] at *
    omega

theorem cellsTk_at : ∀ (zs : List TokR) (i : Nat), i < zs.length → (cellsTk zs)[i * 3]? = some (.int .i64 (atT zs i).k) ∧ (cellsTk zs)[i * 3 + 1]? = some (.string (atT zs i).g) ∧ (cellsTk zs)[i * 3 + 2]? = some (.string (atT zs i).t)
  | [], i, h => absurd h (Nat.not_lt_zero i)
  | o :: r, 0, _ => ⟨rfl, rfl, rfl⟩
  | o :: r, i + 1, h => by
    have ih := cellsTk_at r i (by simpa using h)
    have e : ∀ j, (cellsTk (o :: r))[(i + 1) * 3 + j]? = (cellsTk r)[i * 3 + j]? := fun j => by
      have : (i + 1) * 3 + j = (i * 3 + j) + 3 := by omega
      rw [this]
      rfl
    exact ⟨(e 0).trans ih.1, (e 1).trans ih.2.1, (e 2).trans ih.2.2⟩

theorem cellsTk_one' (zs : List TokR) : ∀ u ∈ cellsTk zs, u.oneCell' = true := by
  intro u hu
  simp only [cellsTk, List.mem_flatMap] at hu
  obtain ⟨o, _, ho⟩ := hu
  simp at ho
  rcases ho with rfl | rfl | rfl <;> rfl

/-- A row that the call owns, as a filled one. -/
theorem owns_filledT {w : World} {base g cap : Nat} {e : TypeId} {zs : List TokR} (h : w.ownsRow base e 3 (.slice (some ⟨g, 0, none⟩) zs.length cap) zs.length (cellsTk zs)) : base ≤ g ∧ FilledT w g zs zs.length := by
  have hlt := h.lt g rfl
  refine ⟨hlt.1, hlt.2, fun j hj => ⟨?_, h.frozenAt _⟩, fun i hi => ?_⟩
  · rw [h.cellAt (0 + j) (by omega)]
    have : 0 + j < (cellsTk zs).length := by rw [cellsTk_len]; omega
    rw [List.getElem?_eq_getElem this]
    rfl
  · obtain ⟨c0, c1, c2⟩ := cellsTk_at zs i hi
    have e := fun j (hj : j < 3) => h.cellAt (i * 3 + j) (by omega)
    exact ⟨by simpa using (e 0 (by omega)).trans c0, by simpa using (e 1 (by omega)).trans c1, by simpa using (e 2 (by omega)).trans c2⟩

/-- A new token in a block of its own. -/
theorem new_newsT (w : World) (o : TokR) : ∀ j u, (cellsTk [o])[j]? = some u → (w.alloc (.cells #[.int .i64 o.k, .string o.g, .string o.t] 60)).cell? ((⟨w.heap.size, 0, none⟩ : Addr).add j) = some u := by
  intro j u hj
  rw [Addr.add_mid]
  have := World.rangeAt_of_block (w := w.alloc (.cells #[.int .i64 o.k, .string o.g, .string o.t] 60)) (b := w.heap.size) (heap_alloc_new w _) 0 3
  exact this j u (by simpa [cellsTk] using hj)

/-- What Lex answers. -/
def LexIs (xs : List OpR) (ok : Prop) (s : ByteArray) (us : List TokR) (v : Bool) : Prop :=
  ((ok ∧ s.size ≤ 20000) ∧ v = true ∧ Lexed xs s 0 us) ∨ (¬ (ok ∧ s.size ≤ 20000) ∧ v = false ∧ us = [])

theorem LexIs.one {xs : List OpR} {ok : Prop} {s : ByteArray} {us us' : List TokR} {v v' : Bool} (h : LexIs xs ok s us v) (h' : LexIs xs ok s us' v') : us = us' ∧ v = v' := by
  rcases h with ⟨a, rfl, b⟩ | ⟨a, rfl, rfl⟩
  · rcases h' with ⟨_, rfl, b'⟩ | ⟨a', _⟩
    · exact ⟨Lexed.one _ _ _ b b', rfl⟩
    · exact absurd a a'
  · rcases h' with ⟨a', _⟩ | ⟨_, rfl, rfl⟩
    · exact absurd a' a
    · exact ⟨rfl, rfl⟩

theorem LexIs.len {xs : List OpR} {ok : Prop} {s : ByteArray} {us : List TokR} {v : Bool} (h : LexIs xs ok s us v) : us.length ≤ 20001 := by
  rcases h with ⟨a, rfl, b⟩ | ⟨a, rfl, rfl⟩
  · have := Lexed.len _ _ b
    omega
  · simp

/-- What has been read: whatever tokens come behind place i, they come behind acc. -/
def Read (xs : List OpR) (s : ByteArray) (i : Nat) (acc : List TokR) : Prop := acc.length ≤ i ∧ ∀ out, Lexed xs s i out → Lexed xs s 0 (acc ++ out)

theorem Read.start (xs : List OpR) (s : ByteArray) : Read xs s 0 [] := ⟨Nat.le_refl _, fun _ h => h⟩

theorem Read.step {xs : List OpR} {s : ByteArray} {i j n k : Nat} {acc : List TokR} (h : Read xs s i acc) (h1 : i ≤ j) (h2 : j < s.size) (h3 : Blanks s i j) (h4 : cls (bt s j) ≠ 1) (h5 : IsTok xs s j n k) :
    Read xs s (j + n) (acc ++ [⟨(k : Int), s.extract i j, s.extract j (j + n)⟩]) := by
  refine ⟨?_, fun out ho => ?_⟩
  · have := h.1
    have := h5.1
    simp
    omega
  · rw [List.append_assoc]
    exact h.2 _ (Lexed.tok h1 h2 h3 h4 h5 ho)

theorem Read.done {xs : List OpR} {s : ByteArray} {i : Nat} {acc : List TokR} (h : Read xs s i acc) (h1 : i ≤ s.size) (h3 : Blanks s i s.size) : Lexed xs s 0 (acc ++ [⟨7, s.extract i s.size, ⟨#[]⟩⟩]) :=
  h.2 _ (Lexed.fin h1 h3)

theorem FilledT.arg {w : World} {g : Nat} {us : List TokR} (h : FilledT w g us us.length) : ArgT w (some ⟨g, 0, none⟩) us := Or.inr ⟨g, 0, rfl, h.ops, h.1⟩

/-- A list of tokens that a call has made: nil and empty, or a row of its own. -/
def OwnedT (w : World) (n : Nat) (a : Option Addr) (us : List TokR) : Prop := (us.length = 0 ∧ a = none) ∨ ∃ g, a = some ⟨g, 0, none⟩ ∧ n ≤ g ∧ FilledT w g us us.length

theorem OwnedT.arg {w : World} {n : Nat} {a : Option Addr} {us : List TokR} (h : OwnedT w n a us) : ArgT w a us := by
  rcases h with ⟨h, _⟩ | ⟨g, rfl, _, hf⟩
  · exact Or.inl h
  · exact hf.arg

theorem OwnedT.grown {w w' : World} {n : Nat} {a : Option Addr} {us : List TokR} {row : Option Nat} (h : OwnedT w n a us) (hg : w.grownBy w' row) (hr : ∀ k, row = some k → k < n) : OwnedT w' n a us := by
  rcases h with h | ⟨g, rfl, hn, hf⟩
  · exact Or.inl h
  · exact Or.inr ⟨g, rfl, hn, hf.grown hg (fun e => by have := hr g e.symm; omega)⟩

theorem OwnedT.step {w w' : World} {n : Nat} {a : Option Addr} {us : List TokR} (h : OwnedT w n a us) (hb : Below w.heap.size w w') : OwnedT w' n a us :=
  h.grown (grown_bel hb none) (fun k hk => by cases hk)

theorem OwnedT.lt {w : World} {n : Nat} {a : Option Addr} {us : List TokR} (h : OwnedT w n a us) : ∀ k, a.map (·.block) = some k → n ≤ k ∧ k < w.heap.size := by
  rcases h with ⟨_, rfl⟩ | ⟨g, rfl, hn, hf⟩
  · intro k hk; cases hk
  · intro k hk; injection hk with hk; subst hk; exact ⟨hn, hf.1⟩
end Go.Proofs.Ytokabkhnidlcnaa
