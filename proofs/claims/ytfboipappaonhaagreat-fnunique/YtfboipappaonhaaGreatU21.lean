import Derived.OwnWalk
import Derived.Laws.OwnMore
import Derived.Test.YtfboipappaonhaaGreatU03
import Derived.Test.YtfboipappaonhaaGreatU10
import Derived.Test.YtfboipappaonhaaGreatU12

/-
  The plain mathematics of roles.
-/
namespace Go.Proofs.YtfboipappaonhaaGreat
set_option maxRecDepth 100000
set_option linter.unusedSimpArgs false
open Go.RowKit

/-- The table has an operator of that text and kind. -/
def HasK (xs : List OpR) (t : ByteArray) (k : Int) : Prop := ∃ j, j < xs.length ∧ (atO xs j).s = t ∧ (atO xs j).k = k
def hasB (xs : List OpR) (t : ByteArray) (k : Int) : Bool := (List.range xs.length).any fun j => (atO xs j).s.data == t.data && (atO xs j).k == k

theorem hasB_iff (xs : List OpR) (t : ByteArray) (k : Int) : hasB xs t k = true ↔ HasK xs t k := by
  have e : ∀ a b : ByteArray, (a.data = b.data) ↔ a = b := fun a b => ⟨fun h => by cases a; cases b; simp_all, fun h => by rw [h]⟩
  simp [hasB, HasK, List.any_eq_true, e]

/-- The role of a token, -1 when it does not fit; the state behind it; the brackets open behind it. -/
def roleOf (xs : List OpR) (last : Bool) (t : TokR) (bh : Bool) (op : Nat) : Int :=
  if bh = false then
    if t.k = 1 ∨ t.k = 2 ∨ t.k = 4 then 0 else if t.k = 3 ∧ hasB xs t.t 1 = true then 1 else -1
  else
    if t.k = 3 ∧ hasB xs t.t 2 = true then 2 else if t.k = 3 ∧ hasB xs t.t 3 = true then 3
    else if t.k = 5 ∧ 0 < op then 0 else if t.k = 7 ∧ op = 0 ∧ last = true then 0 else -1
def bhOf (xs : List OpR) (t : TokR) (bh : Bool) : Bool :=
  if bh = false then (if t.k = 1 ∨ t.k = 2 then true else false) else (if t.k = 3 ∧ hasB xs t.t 2 = true then false else true)
def opOf (t : TokR) (op : Nat) : Nat := if t.k = 4 then op + 1 else if t.k = 5 then op - 1 else op

/-- State and brackets in front of token i. -/
def bhTo (xs : List OpR) (ts : List TokR) : Nat → Bool
  | 0 => false
  | i + 1 => bhOf xs (atT ts i) (bhTo xs ts i)
def opTo (ts : List TokR) : Nat → Nat
  | 0 => 0
  | i + 1 => opOf (atT ts i) (opTo ts i)
/-- The role of token i, if all in front of it fit. -/
def roleTo (xs : List OpR) (ts : List TokR) (i : Nat) : Int := roleOf xs (decide (i + 1 = ts.length)) (atT ts i) (bhTo xs ts i) (opTo ts i)
/-- The first k roles. -/
def rolesTo (xs : List OpR) (ts : List TokR) (k : Nat) : List Int := (List.range k).map (roleTo xs ts)

theorem rolesTo_succ (xs : List OpR) (ts : List TokR) (k : Nat) : rolesTo xs ts (k + 1) = rolesTo xs ts k ++ [roleTo xs ts k] := by
  simp [rolesTo, List.range_succ]
theorem rolesTo_len (xs : List OpR) (ts : List TokR) (k : Nat) : (rolesTo xs ts k).length = k := by simp [rolesTo]

/-- The first k tokens fit. -/
def FitTo (xs : List OpR) (ts : List TokR) (k : Nat) : Prop := ∀ i, i < k → 0 ≤ roleTo xs ts i

/-- What Roles answers. -/
def RolesIs (xs : List OpR) (ok : Prop) (ts : List TokR) (us : List Int) (c : Int) : Prop :=
  (¬ ok ∧ us = [] ∧ c = 0) ∨
  (ok ∧ ((∃ i, i < ts.length ∧ FitTo xs ts i ∧ roleTo xs ts i < 0 ∧ us = [] ∧ c = (i : Int)) ∨
    (FitTo xs ts ts.length ∧ (((0 < ts.length ∧ (atT ts (ts.length - 1)).k = 7) ∧ us = rolesTo xs ts ts.length ∧ c = -1) ∨ (¬ (0 < ts.length ∧ (atT ts (ts.length - 1)).k = 7) ∧ us = [] ∧ c = (ts.length : Int))))))

theorem RolesIs.one {xs : List OpR} {ok : Prop} {ts : List TokR} {us us' : List Int} {c c' : Int} (h : RolesIs xs ok ts us c) (h' : RolesIs xs ok ts us' c') : us = us' ∧ c = c' := by
  rcases h with ⟨a, rfl, rfl⟩ | ⟨a, h⟩
  · rcases h' with ⟨_, rfl, rfl⟩ | ⟨a', _⟩
    · exact ⟨rfl, rfl⟩
    · exact absurd a' a
  · rcases h' with ⟨a', _⟩ | ⟨_, h'⟩
    · exact absurd a a'
    · rcases h with ⟨i, hi, hf, hr, rfl, rfl⟩ | ⟨hf, h⟩
      · rcases h' with ⟨i', hi', hf', hr', rfl, rfl⟩ | ⟨hf', h'⟩
        · refine ⟨rfl, ?_⟩
          rcases Nat.lt_trichotomy i i' with e | e | e
          · have := hf' i e; omega
          · rw [e]
          · have := hf i' e; omega
        · have := hf' i hi; omega
      · rcases h' with ⟨i', hi', hf', hr', rfl, rfl⟩ | ⟨hf', h'⟩
        · have := hf i' hi'; omega
        · rcases h with ⟨b, rfl, rfl⟩ | ⟨b, rfl, rfl⟩
          · rcases h' with ⟨b', rfl, rfl⟩ | ⟨b', _⟩
            · exact ⟨rfl, rfl⟩
            · exact absurd b b'
          · rcases h' with ⟨b', _⟩ | ⟨_, rfl, rfl⟩
            · exact absurd b' b
            · exact ⟨rfl, rfl⟩

theorem RolesIs.len {xs : List OpR} {ok : Prop} {ts : List TokR} {us : List Int} {c : Int} (h : RolesIs xs ok ts us c) : us.length ≤ ts.length := by
  rcases h with ⟨a, rfl, rfl⟩ | ⟨a, ⟨i, hi, hf, hr, rfl, rfl⟩ | ⟨hf, ⟨b, rfl, rfl⟩ | ⟨b, rfl, rfl⟩⟩⟩
  · simp
  · simp
  · rw [rolesTo_len]; exact Nat.le_refl _
  · simp

/-- The specification's states. -/
def endsOf (xs : List OpR) (t : TokR) (st : Bool) : Bool := decide (t.k = 1 ∨ t.k = 2 ∨ t.k = 5) || (decide (t.k = 3) && st && hasB xs t.t 3)
def stTo (xs : List OpR) (ts : List TokR) : Nat → Bool
  | 0 => false
  | i + 1 => endsOf xs (atT ts i) (stTo xs ts i)
/-- The specification's number of open brackets. -/
def opI (ts : List TokR) : Nat → Int
  | 0 => 0
  | i + 1 => opI ts i + (if (atT ts i).k = 4 then 1 else 0) - (if (atT ts i).k = 5 then 1 else 0)
/-- The specification's role. -/
def roleS (xs : List OpR) (ts : List TokR) (i : Nat) (bh : Bool) : Int :=
  if bh = false then
    if (atT ts i).k = 1 ∨ (atT ts i).k = 2 ∨ (atT ts i).k = 4 then 0 else if (atT ts i).k = 3 ∧ hasB xs (atT ts i).t 1 = true then 1 else -1
  else
    if (atT ts i).k = 3 ∧ hasB xs (atT ts i).t 2 = true then 2 else if (atT ts i).k = 3 ∧ hasB xs (atT ts i).t 3 = true then 3
    else if (atT ts i).k = 5 ∧ 0 < opI ts i then 0 else if (atT ts i).k = 7 ∧ opI ts i = 0 ∧ i + 1 = ts.length then 0 else -1

/-- No text is that of an infix and of a postfix operator. -/
def Apart23 (xs : List OpR) : Prop := ∀ t, ¬ (hasB xs t 2 = true ∧ hasB xs t 3 = true)

theorem apart_of {xs : List OpR} (h : ¬ Pr 3 xs) : Apart23 xs := by
  rintro t ⟨h2, h3⟩
  obtain ⟨i, hi, e1, e2⟩ := (hasB_iff _ _ _).1 h2
  obtain ⟨j, hj, f1, f2⟩ := (hasB_iff _ _ _).1 h3
  have hne : i ≠ j := fun e => by subst e; omega
  apply h
  rcases Nat.lt_trichotomy i j with e | e | e
  · exact ⟨j, i, e, hj, by simp [cl]; exact ⟨by rw [f1, e1], by omega⟩⟩
  · exact absurd e hne
  · exact ⟨i, j, e, hi, by simp [cl]; exact ⟨by rw [f1, e1], by omega⟩⟩

/-- While all fits, the specification's state and brackets are the walk's own. -/
theorem states_eq {xs : List OpR} {ts : List TokR} (ha : Apart23 xs) : ∀ i, i < ts.length → FitTo xs ts i → stTo xs ts i = bhTo xs ts i ∧ opI ts i = (opTo ts i : Int)
  | 0, _, _ => ⟨rfl, rfl⟩
  | i + 1, hi, hf => by
    obtain ⟨h1, h2⟩ := states_eq ha i (by omega) (fun j hj => hf j (by omega))
    have hr := hf i (by omega)
    unfold roleTo roleOf at hr
    have hl : decide (i + 1 = ts.length) = false := by simp; omega
    rw [hl] at hr
    have h23 := ha (atT ts i).t
    simp only [stTo, bhTo, opI, opTo, h1, h2, endsOf, bhOf, opOf]
    cases hb : bhTo xs ts i
    · rw [hb] at hr
      simp only [if_true] at hr
      by_cases k1 : (atT ts i).k = 1 ∨ (atT ts i).k = 2
      · have k5 : ¬ (atT ts i).k = 5 := by omega
        have k4 : ¬ (atT ts i).k = 4 := by omega
        have k' : (atT ts i).k = 1 ∨ (atT ts i).k = 2 ∨ (atT ts i).k = 5 := by omega
        simp [k1, k4, k5, k']
      · have k5 : ¬ (atT ts i).k = 5 := by
          intro e
          rw [if_neg (by omega), if_neg (by omega)] at hr
          omega
        have k' : ¬ ((atT ts i).k = 1 ∨ (atT ts i).k = 2 ∨ (atT ts i).k = 5) := by omega
        by_cases k4 : (atT ts i).k = 4
        · simp [k1, k4, k5, k']
        · simp [k1, k4, k5, k']
    · rw [hb] at hr
      simp only [Bool.true_eq_false, if_false] at hr
      by_cases c2 : (atT ts i).k = 3 ∧ hasB xs (atT ts i).t 2 = true
      · have c3 : hasB xs (atT ts i).t 3 = false := by
          cases h : hasB xs (atT ts i).t 3
          · rfl
          · exact absurd ⟨c2.2, h⟩ h23
        have k3 := c2.1
        simp [c2, c3, k3]
      · rw [if_neg c2] at hr
        by_cases c3 : (atT ts i).k = 3 ∧ hasB xs (atT ts i).t 3 = true
        · have c2' : hasB xs (atT ts i).t 2 = false := by
            cases h : hasB xs (atT ts i).t 2
            · rfl
            · exact absurd ⟨c3.1, h⟩ c2
          simp [c3, c2']
        · rw [if_neg c3] at hr
          by_cases c5 : (atT ts i).k = 5 ∧ 0 < opTo ts i
          · have k5 := c5.1
            have k0 := c5.2
            simp [k5]
            omega
          · rw [if_neg c5] at hr
            simp at hr

theorem role_eq {xs : List OpR} {ts : List TokR} (ha : Apart23 xs) (i : Nat) (hi : i < ts.length) (hf : FitTo xs ts i) : roleS xs ts i (stTo xs ts i) = roleTo xs ts i := by
  obtain ⟨h1, h2⟩ := states_eq ha i hi hf
  rw [h1]
  unfold roleS roleTo roleOf
  rw [h2]
  simp
end Go.Proofs.YtfboipappaonhaaGreat

/-
  The text of a row of tokens.
-/
namespace Go.Proofs.YtfboipappaonhaaGreat
set_option maxRecDepth 100000
open Go.RowKit

/-- The text of the first k tokens. -/
def rendTo (xs : List TokR) : Nat → List UInt8
  | 0 => []
  | k + 1 => rendTo xs k ++ (atT xs k).g.data.toList ++ (atT xs k).t.data.toList

theorem rend_len (xs : List TokR) : ∀ k, (rendTo xs k).length = totToT xs k
  | 0 => rfl
  | k + 1 => by
    have := rend_len xs k
    simp only [rendTo, totToT, totT, List.length_append, this]
    simp
    omega

theorem tot_mono (xs : List TokR) : ∀ k n, k ≤ n → totToT xs k ≤ totToT xs n
  | k, 0, h => by have : k = 0 := by omega
                  subst this; exact Nat.le_refl _
  | k, n + 1, h => by
    by_cases e : k = n + 1
    · subst e; exact Nat.le_refl _
    · have := tot_mono xs k n (by omega)
      simp only [totToT]
      omega

theorem owns_bval {w : World} {base n size : Nat} {e : TypeId} {v : Value} {xs : List Value} (h : w.ownsRow base e size v n xs) (hv : v ≠ .slice none 0 0) : ∃ g cap, v = .slice (some ⟨g, 0, none⟩) n cap := by
  obtain ⟨_, h | ⟨g, cap, cur, hv', _⟩⟩ := h
  · exact absurd h.1 hv
  · exact ⟨g, cap, hv'⟩

theorem owns_bcells {w : World} {base g cap n : Nat} {e : TypeId} {l : List UInt8} (h : w.ownsRow base e 1 (.slice (some ⟨g, 0, none⟩) n cap) n (cellsB l)) : ∀ j u, (cellsB l)[j]? = some u → w.cell? ((⟨g, 0, none⟩ : Addr).add j) = some u :=
  h.cells rfl

theorem grown_bel {w w' : World} (h : Below w.heap.size w w') (row : Option Nat) : w.grownBy w' row := ⟨h.os, h.tape, h.output, h.size, fun i hi _ => h.block i hi⟩
end Go.Proofs.YtfboipappaonhaaGreat

/-
  Rows of tokens that a call makes by append.
-/
namespace Go.Proofs.YtfboipappaonhaaGreat
set_option maxRecDepth 100000
open Go.RowKit

/-- The cells of a list of tokens. -/
def cellsTk (zs : List TokR) : List Value := zs.flatMap fun o => [.int .i64 o.k, .string o.g, .string o.t]

theorem cellsTk_append (xs ys : List TokR) : cellsTk (xs ++ ys) = cellsTk xs ++ cellsTk ys := by simp [cellsTk]
theorem cellsTk_len : ∀ zs : List TokR, (cellsTk zs).length = zs.length * 3
  | [] => rfl
  | o :: r => by
    have := cellsTk_len r
    simp only [cellsTk, List.flatMap_cons, List.length_append, List.length_cons, List.length_nil] at *
    omega

theorem cellsTk_at : ∀ (zs : List TokR) (i : Nat), i < zs.length → (cellsTk zs)[i * 3]? = some (.int .i64 (atT zs i).k) ∧ (cellsTk zs)[i * 3 + 1]? = some (.string (atT zs i).g) ∧ (cellsTk zs)[i * 3 + 2]? = some (.string (atT zs i).t)
  | [], i, h => absurd h (Nat.not_lt_zero i)
  | o :: r, 0, _ => ⟨rfl, rfl, rfl⟩
  | o :: r, i + 1, h => by
    have ih := cellsTk_at r i (by simpa using h)
    have e : ∀ j, (cellsTk (o :: r))[(i + 1) * 3 + j]? = (cellsTk r)[i * 3 + j]? := fun j => by
      have : (i + 1) * 3 + j = (i * 3 + j) + 3 := by omega
      rw [this]
      rfl
    exact ⟨(e 0).trans ih.1, (e 1).trans ih.2.1, (e 2).trans ih.2.2⟩

theorem cellsTk_one' (zs : List TokR) : ∀ u ∈ cellsTk zs, u.oneCell' = true := by
  intro u hu
  simp only [cellsTk, List.mem_flatMap] at hu
  obtain ⟨o, _, ho⟩ := hu
  simp at ho
  rcases ho with rfl | rfl | rfl <;> rfl

/-- A row that the call owns, as a filled one. -/
theorem owns_filledT {w : World} {base g cap : Nat} {e : TypeId} {zs : List TokR} (h : w.ownsRow base e 3 (.slice (some ⟨g, 0, none⟩) zs.length cap) zs.length (cellsTk zs)) : base ≤ g ∧ FilledT w g zs zs.length := by
  have hlt := h.lt g rfl
  refine ⟨hlt.1, hlt.2, fun j hj => ⟨?_, h.frozenAt _⟩, fun i hi => ?_⟩
  · rw [h.cellAt (0 + j) (by omega)]
    have : 0 + j < (cellsTk zs).length := by rw [cellsTk_len]; omega
    rw [List.getElem?_eq_getElem this]
    rfl
  · obtain ⟨c0, c1, c2⟩ := cellsTk_at zs i hi
    have e := fun j (hj : j < 3) => h.cellAt (i * 3 + j) (by omega)
    exact ⟨by simpa using (e 0 (by omega)).trans c0, by simpa using (e 1 (by omega)).trans c1, by simpa using (e 2 (by omega)).trans c2⟩

/-- A new token in a block of its own. -/
theorem new_newsT (w : World) (o : TokR) : ∀ j u, (cellsTk [o])[j]? = some u → (w.alloc (.cells #[.int .i64 o.k, .string o.g, .string o.t] 97)).cell? ((⟨w.heap.size, 0, none⟩ : Addr).add j) = some u := by
  intro j u hj
  rw [Addr.add_mid]
  have := World.rangeAt_of_block (w := w.alloc (.cells #[.int .i64 o.k, .string o.g, .string o.t] 97)) (b := w.heap.size) (heap_alloc_new w _) 0 3
  exact this j u (by simpa [cellsTk] using hj)

/-- What Lex answers. -/
def LexIs (xs : List OpR) (ok : Prop) (s : ByteArray) (us : List TokR) (v : Bool) : Prop :=
  ((ok ∧ s.size ≤ 20000) ∧ v = true ∧ Lexed xs s 0 us) ∨ (¬ (ok ∧ s.size ≤ 20000) ∧ v = false ∧ us = [])

theorem LexIs.one {xs : List OpR} {ok : Prop} {s : ByteArray} {us us' : List TokR} {v v' : Bool} (h : LexIs xs ok s us v) (h' : LexIs xs ok s us' v') : us = us' ∧ v = v' := by
  rcases h with ⟨a, rfl, b⟩ | ⟨a, rfl, rfl⟩
  · rcases h' with ⟨_, rfl, b'⟩ | ⟨a', _⟩
    · exact ⟨Lexed.one _ _ _ b b', rfl⟩
    · exact absurd a a'
  · rcases h' with ⟨a', _⟩ | ⟨_, rfl, rfl⟩
    · exact absurd a' a
    · exact ⟨rfl, rfl⟩

theorem LexIs.len {xs : List OpR} {ok : Prop} {s : ByteArray} {us : List TokR} {v : Bool} (h : LexIs xs ok s us v) : us.length ≤ 20001 := by
  rcases h with ⟨a, rfl, b⟩ | ⟨a, rfl, rfl⟩
  · have := Lexed.len _ _ b
    omega
  · simp

/-- What has been read: whatever tokens come behind place i, they come behind acc. -/
def Read (xs : List OpR) (s : ByteArray) (i : Nat) (acc : List TokR) : Prop := acc.length ≤ i ∧ ∀ out, Lexed xs s i out → Lexed xs s 0 (acc ++ out)

theorem Read.start (xs : List OpR) (s : ByteArray) : Read xs s 0 [] := ⟨Nat.le_refl _, fun _ h => h⟩

theorem Read.step {xs : List OpR} {s : ByteArray} {i j n k : Nat} {acc : List TokR} (h : Read xs s i acc) (h1 : i ≤ j) (h2 : j < s.size) (h3 : Blanks s i j) (h4 : cls (bt s j) ≠ 1) (h5 : IsTok xs s j n k) :
    Read xs s (j + n) (acc ++ [⟨(k : Int), s.extract i j, s.extract j (j + n)⟩]) := by
  refine ⟨?_, fun out ho => ?_⟩
  · have := h.1
    have := h5.1
    simp
    omega
  · rw [List.append_assoc]
    exact h.2 _ (Lexed.tok h1 h2 h3 h4 h5 ho)

theorem Read.done {xs : List OpR} {s : ByteArray} {i : Nat} {acc : List TokR} (h : Read xs s i acc) (h1 : i ≤ s.size) (h3 : Blanks s i s.size) : Lexed xs s 0 (acc ++ [⟨7, s.extract i s.size, ⟨#[]⟩⟩]) :=
  h.2 _ (Lexed.fin h1 h3)

theorem FilledT.arg {w : World} {g : Nat} {us : List TokR} (h : FilledT w g us us.length) : ArgT w (some ⟨g, 0, none⟩) us := Or.inr ⟨g, 0, rfl, h.ops, h.1⟩

/-- A list of tokens that a call has made: nil and empty, or a row of its own. -/
def OwnedT (w : World) (n : Nat) (a : Option Addr) (us : List TokR) : Prop := (us.length = 0 ∧ a = none) ∨ ∃ g, a = some ⟨g, 0, none⟩ ∧ n ≤ g ∧ FilledT w g us us.length

theorem OwnedT.arg {w : World} {n : Nat} {a : Option Addr} {us : List TokR} (h : OwnedT w n a us) : ArgT w a us := by
  rcases h with ⟨h, _⟩ | ⟨g, rfl, _, hf⟩
  · exact Or.inl h
  · exact hf.arg

theorem OwnedT.grown {w w' : World} {n : Nat} {a : Option Addr} {us : List TokR} {row : Option Nat} (h : OwnedT w n a us) (hg : w.grownBy w' row) (hr : ∀ k, row = some k → k < n) : OwnedT w' n a us := by
  rcases h with h | ⟨g, rfl, hn, hf⟩
  · exact Or.inl h
  · exact Or.inr ⟨g, rfl, hn, hf.grown hg (fun e => by have := hr g e.symm; omega)⟩

theorem OwnedT.step {w w' : World} {n : Nat} {a : Option Addr} {us : List TokR} (h : OwnedT w n a us) (hb : Below w.heap.size w w') : OwnedT w' n a us :=
  h.grown (grown_bel hb none) (fun k hk => by cases hk)

theorem OwnedT.lt {w : World} {n : Nat} {a : Option Addr} {us : List TokR} (h : OwnedT w n a us) : ∀ k, a.map (·.block) = some k → n ≤ k ∧ k < w.heap.size := by
  rcases h with ⟨_, rfl⟩ | ⟨g, rfl, hn, hf⟩
  · intro k hk; cases hk
  · intro k hk; injection hk with hk; subst hk; exact ⟨hn, hf.1⟩
end Go.Proofs.YtfboipappaonhaaGreat
