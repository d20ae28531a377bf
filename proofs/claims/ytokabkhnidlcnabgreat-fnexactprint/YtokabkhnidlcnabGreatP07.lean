import Derived.Laws.IdiomStrings
import Derived.Laws.BytesString
import Derived.OwnWalk
import Derived.Laws.OwnMore
import Derived.Test.YtokabkhnidlcnabGreatP00
import Derived.Test.YtokabkhnidlcnabGreatP01
import Derived.Test.YtokabkhnidlcnabGreatP06

/-
  The words of a tree, and the text that they make.
-/
namespace Go.Proofs.YtokabkhnidlcnabGreat
set_option maxRecDepth 100000
set_option linter.unusedSimpArgs false
set_option linter.unusedVariables false
open Go.RowKit
open Go.Deep (BT)

/-- A word: its text; whether it is an operator, and one between two operands. -/
structure WordR where
  t : ByteArray
  o : Bool
  i : Bool

def WordR.zero : WordR := ⟨⟨#[]⟩, false, false⟩
def atW (xs : List WordR) (i : Nat) : WordR := xs.getD i WordR.zero

def opn : ByteArray := ⟨#[40]⟩
def cls1 : ByteArray := ⟨#[41]⟩
def blk : ByteArray := ⟨#[32]⟩

/-- A sign of a text: what it is (1 a number, 2 a name, 3 an operator ahead of its operand, 4 one between two, 5 one behind, 6 and 7 brackets, 8 the end), and its text. -/
abbrev SyR := Nat × ByteArray

/-- The signs of a tree. -/
def ySy : ET → List SyR
  | .nil => []
  | .node b _ t l r =>
    if b = 6 then (6, opn) :: (ySy l ++ [(7, cls1)])
    else if b = 3 then (3, t) :: ySy l
    else if b = 5 then ySy l ++ [(5, t)]
    else if b = 4 then ySy l ++ ((4, t) :: ySy r)
    else [(b, t)]

/-- The word of a sign. -/
def wS (s : SyR) : WordR := ⟨s.2, decide (3 ≤ s.1 ∧ s.1 ≤ 5), decide (s.1 = 4)⟩

/-- The words of a tree. -/
def yT (T : ET) : List WordR := (ySy T).map wS

theorem ySy_pos : ∀ {T : ET}, Sh T → 1 ≤ (ySy T).length
  | .nil, h => h.elim
  | .node b o t l r, h => by
    simp only [ySy]
    split
    · simp
    · split
      · simp
      · split
        · simp
        · split
          · simp; omega
          · simp

/-- No tree begins with an operator between two operands, or behind one. -/
theorem ySy_first : ∀ {T : ET}, Sh T → ∀ s r, ySy T = s :: r → s.1 ≠ 4 ∧ s.1 ≠ 5 ∧ s.1 ≠ 7 ∨ s.1 > 6 ∨ s.1 = 0 := by
  intro T
  induction T with
  | nil => intro h; exact h.elim
  | node b o t l r ihl ihr =>
    rintro ⟨_, h⟩ s q hq
    have app : ∀ ys : List SyR, Sh l → ySy l ++ ys = s :: q → s.1 ≠ 4 ∧ s.1 ≠ 5 ∧ s.1 ≠ 7 ∨ s.1 > 6 ∨ s.1 = 0 := fun ys hl he => by
      have hp := ySy_pos hl
      cases e : ySy l with
      | nil => rw [e] at hp; simp at hp
      | cons a c =>
        rw [e, List.cons_append] at he
        injection he with h1 h2
        subst h1
        exact ihl hl a c e
    simp only [ySy] at hq
    split at hq
    · injection hq with h1 h2; subst h1; exact Or.inl ⟨by simp, by simp, by simp⟩
    · split at hq
      · injection hq with h1 h2; subst h1; exact Or.inl ⟨by simp, by simp, by simp⟩
      · split at hq
        · rename_i h5
          subst h5
          rcases h with ⟨hk, _⟩ | ⟨_, hl, _⟩ | ⟨hk, _⟩
          · exact absurd hk (by decide)
          · exact app _ hl hq
          · exact absurd hk (by decide)
        · split at hq
          · rename_i h4
            subst h4
            rcases h with ⟨hk, _⟩ | ⟨hk, _⟩ | ⟨_, hl, _⟩
            · exact absurd hk (by decide)
            · exact absurd hk (by decide)
            · exact app _ hl hq
          · injection hq with h1 h2
            subst h1
            show b ≠ 4 ∧ b ≠ 5 ∧ b ≠ 7 ∨ b > 6 ∨ b = 0
            omega

theorem yT_pos {T : ET} (h : Sh T) : 1 ≤ (yT T).length := by
  rw [yT, List.length_map]
  exact ySy_pos h

theorem yT_first {T : ET} (h : Sh T) : (atW (yT T) 0).i = false := by
  cases e : ySy T with
  | nil => have := ySy_pos h; rw [e] at this; simp at this
  | cons s r =>
    have h1 : s.1 ≠ 4 := by
      rcases ySy_first h s r e with ⟨h1, _⟩ | h1 | h1 <;> omega
    simp [yT, e, atW, wS, h1]

/-- A blank stands between two words. -/
def gapW (a b : WordR) : Bool := b.i || a.i || (b.o && a.o)

/-- The bytes of the first k words. -/
def txTo (ws : List WordR) : Nat → List UInt8
  | 0 => []
  | k + 1 => txTo ws k ++ ((if k ≠ 0 ∧ gapW (atW ws (k - 1)) (atW ws k) = true then [32] else []) ++ (atW ws k).t.data.toList)

/-- The kind of a word, as the program numbers it. -/
def kW (x : WordR) : Int := if x.i then 3 else if x.o then 2 else 1

def blankB (a b : Int) : Bool := decide (a = 3 ∨ b = 3 ∨ (a = 2 ∧ b = 2))

/-- The program's pieces, one word more. -/
def put1 (st : List ByteArray × Int) (x : WordR) : List ByteArray × Int := (st.1 ++ ((if blankB st.2 (kW x) then [blk] else []) ++ [x.t]), kW x)

def flat (ps : List ByteArray) : List UInt8 := (ps.map (fun s => s.data.toList)).flatten

theorem flat_append (a b : List ByteArray) : flat (a ++ b) = flat a ++ flat b := by simp [flat]

theorem kW_blank (a b : WordR) : blankB (kW a) (kW b) = gapW a b := by
  unfold kW blankB gapW
  cases a.i <;> cases b.i <;> cases a.o <;> cases b.o <;> decide

theorem kW_first (x : WordR) (h : x.i = false) : blankB 0 (kW x) = false := by
  unfold kW blankB
  rw [h]
  cases x.o <;> decide

theorem take_snocW (ws : List WordR) (k : Nat) (h : k < ws.length) : ws.take (k + 1) = ws.take k ++ [atW ws k] := by
  rw [List.take_succ_eq_append_getElem h]
  simp [atW, List.getD, h]

theorem pieces_text (ws : List WordR) (h0 : (atW ws 0).i = false) : ∀ k, k ≤ ws.length → flat ((ws.take k).foldl put1 ([], 0)).1 = txTo ws k ∧ ((ws.take k).foldl put1 ([], 0)).2 = (if k = 0 then 0 else kW (atW ws (k - 1)))
  | 0, _ => by simp [flat, txTo]
  | k + 1, hk => by
    obtain ⟨e1, e2⟩ := pieces_text ws h0 k (by omega)
    rw [take_snocW ws k (by omega), List.foldl_append]
    simp only [List.foldl_cons, List.foldl_nil, put1, flat_append, e1, e2, txTo]
    refine ⟨?_, by simp⟩
    congr 1
    by_cases hk0 : k = 0
    · subst hk0
      simp [kW_first _ h0, flat]
    · have hb := kW_blank (atW ws (k - 1)) (atW ws k)
      simp only [if_neg hk0, hk0, ne_eq, not_false_eq_true, true_and]
      by_cases hg : gapW (atW ws (k - 1)) (atW ws k) = true
      · simp [hg, hb, flat, blk]
      · simp [hg, hb, flat]

/-- How many bytes the words have. -/
def totW (ws : List WordR) : Nat := (ws.map (fun x => x.t.size)).sum

theorem totW_append (a b : List WordR) : totW (a ++ b) = totW a + totW b := by simp [totW]

end Go.Proofs.YtokabkhnidlcnabGreat

/-
  Texts and lists of bytes: the conversions, rows of bytes.
-/
namespace Go.Proofs.YtokabkhnidlcnabGreat
set_option maxRecDepth 100000
open Go.RowKit

/-- The cells of a list of bytes. -/
def cellsB (l : List UInt8) : List Value := l.map fun b => .int .u8 (b.toNat : Int)

theorem cellsB_len (l : List UInt8) : (cellsB l).length = l.length := by simp [cellsB]
theorem cellsB_append (l l' : List UInt8) : cellsB (l ++ l') = cellsB l ++ cellsB l' := by simp [cellsB]
theorem cellsB_one (l : List UInt8) : ∀ u ∈ cellsB l, u.oneCell' = true := by
  intro u hu
  simp only [cellsB, List.mem_map] at hu
  obtain ⟨b, _, rfl⟩ := hu
  rfl

/-- '[]byte(s)' in whatever world. -/
theorem conv_bytes (W : World) (s : ByteArray) : ∃ (c : Nat) (W' : World), (convert 9 87 (.string s)).run Tryz.prog W = .ok (.slice (some ⟨W.heap.size, 0, none⟩) s.size c) W' ∧
    (∀ j u, (cellsB s.data.toList)[j]? = some u → W'.cell? ((⟨W.heap.size, 0, none⟩ : Addr).add j) = some u) ∧ Below W.heap.size W W' := by
  refine ⟨_, _, run_bytes_of_string (P := Tryz.prog) W 9 87 5 s Tryz.underlying9 Tryz.underlying87 Tryz.underlying5, ?_, ?_⟩
  · intro j u hj
    rw [Addr.add_mid, Nat.zero_add]
    have hlt : j < s.size := by
      have := (List.getElem?_eq_some_iff.1 hj).1
      rw [cellsB_len] at this
      simpa using this
    rw [cell_of_row _ W.heap.size j (bytesRow s (grownCap W s.size 0 5)) 5 _ (heap_alloc_new W.drew _)]
    have : j < s.data.size := hlt
    simp only [bytesRow]
    rw [Array.getElem?_append_left (by simpa using this)]
    simp only [cellsB, List.getElem?_map] at hj
    simpa using hj
  · exact (Below.refl _ _).drew.alloc (Nat.le_refl _) _

/-- 'string(b)' of a row of bytes. -/
theorem conv_string (W : World) (g n c : Nat) (l : List UInt8) (hn : n = l.length) (h : ∀ j u, (cellsB l)[j]? = some u → W.cell? ((⟨g, 0, none⟩ : Addr).add j) = some u) :
    (convert 87 9 (.slice (some ⟨g, 0, none⟩) n c)).run Tryz.prog W = .ok (.string ⟨l.toArray⟩) W := by
  rw [run_convert_bytes_string _ 87 9 5 _ _ _ Tryz.underlying87 Tryz.underlying5 Tryz.underlying9]
  have hl : (loadCells ⟨g, 0, none⟩ n).run Tryz.prog W = .ok ((l.map fun b => (b.toNat : Int)).map (Value.int .u8)).toArray W := by
    have := run_loadCells_list (P := Tryz.prog) W ⟨g, 0, none⟩ (cellsB l) h
    rw [cellsB_len, ← hn] at this
    rw [this]
    simp [cellsB]
  rw [run_bytesToString _ ⟨g, 0, none⟩ n c _ hl]
  congr 2
  clear hl h hn
  have key : ∀ (l : List UInt8) (acc : ByteArray), List.foldl (fun (r : ByteArray) (n : Int) => r.push (UInt8.ofNat n.toNat)) acc (l.map fun b => (b.toNat : Int)) = ⟨(acc.data.toList ++ l).toArray⟩ := by
    intro l
    induction l with
    | nil => intro acc; simp
    | cons b r ih =>
      intro acc
      rw [List.map_cons, List.foldl_cons, ih]
      congr 1
      simp [ByteArray.push]
  rw [key]
  simp

theorem infoByte : (Tryz.prog.info? 5).map (fun i => (i.zero, i.size, i.bytes)) = some (some (.int .u8 0), 1, 1) := by kernel_rfl
end Go.Proofs.YtokabkhnidlcnabGreat

/-
  The text of a row of tokens.
-/
namespace Go.Proofs.YtokabkhnidlcnabGreat
set_option maxRecDepth 100000
open Go.RowKit

/-- The text of the first k tokens. -/
def rendTo (xs : List TokR) : Nat → List UInt8
  | 0 => []
  | k + 1 => rendTo xs k ++ (atT xs k).g.data.toList ++ (atT xs k).t.data.toList

theorem rend_len (xs : List TokR) : ∀ k, (rendTo xs k).length = totToT xs k
  | 0 => rfl
  | k + 1 => by
    have := rend_len xs k
    simp only [rendTo, totToT, totT, List.length_append, this]
    simp
    omega

theorem tot_mono (xs : List TokR) : ∀ k n, k ≤ n → totToT xs k ≤ totToT xs n
  | k, 0, h => by have : k = 0 := by omega
                  subst this; exact Nat.le_refl _
  | k, n + 1, h => by
    by_cases e : k = n + 1
    · subst e; exact Nat.le_refl _
    · have := tot_mono xs k n (by omega)
      simp only [totToT]
      omega

theorem owns_bval {w : World} {base n size : Nat} {e : TypeId} {v : Value} {xs : List Value} (h : w.ownsRow base e size v n xs) (hv : v ≠ .slice none 0 0) : ∃ g cap, v = .slice (some ⟨g, 0, none⟩) n cap := by
  obtain ⟨_, h | ⟨g, cap, cur, hv', _⟩⟩ := h
  · exact absurd h.1 hv
  · exact ⟨g, cap, hv'⟩

theorem owns_bcells {w : World} {base g cap n : Nat} {e : TypeId} {l : List UInt8} (h : w.ownsRow base e 1 (.slice (some ⟨g, 0, none⟩) n cap) n (cellsB l)) : ∀ j u, (cellsB l)[j]? = some u → w.cell? ((⟨g, 0, none⟩ : Addr).add j) = some u :=
  h.cells rfl

theorem grown_bel {w w' : World} (h : Below w.heap.size w w') (row : Option Nat) : w.grownBy w' row := ⟨h.os, h.tape, h.output, h.size, fun i hi _ => h.block i hi⟩
end Go.Proofs.YtokabkhnidlcnabGreat
