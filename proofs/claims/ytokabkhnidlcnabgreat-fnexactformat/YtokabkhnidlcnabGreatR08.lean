import Derived.Laws.IdiomStrings
import Derived.Laws.BytesString
import Derived.OwnWalk
import Derived.Laws.OwnMore
import Derived.Test.YtokabkhnidlcnabGreatR00
import Derived.Test.YtokabkhnidlcnabGreatR01
import Derived.Test.YtokabkhnidlcnabGreatR04

/-
  The plain mathematics of roles.
-/
namespace Go.Proofs.YtokabkhnidlcnabGreat
set_option maxRecDepth 100000
set_option linter.unusedSimpArgs false
open Go.RowKit

/-- The table has an operator of that text and kind. -/
def HasK (xs : List OpR) (t : ByteArray) (k : Int) : Prop := ∃ j, j < xs.length ∧ (atO xs j).s = t ∧ (atO xs j).k = k
def hasB (xs : List OpR) (t : ByteArray) (k : Int) : Bool := (List.range xs.length).any fun j => (atO xs j).s.data == t.data && (atO xs j).k == k

theorem hasB_iff (xs : List OpR) (t : ByteArray) (k : Int) : hasB xs t k = true ↔ HasK xs t k := by
  have e : ∀ a b : ByteArray, (a.data = b.data) ↔ a = b := fun a b => ⟨fun h => by cases a; cases b; simp_all, fun h => by rw [h]⟩
  simp [hasB, HasK, List.any_eq_true, e]

/-- The role of a token, -1 when it does not fit; the state behind it; the brackets open behind it. -/
def roleOf (xs : List OpR) (last : Bool) (t : TokR) (bh : Bool) (op : Nat) : Int :=
  if bh = false then
    if t.k = 1 ∨ t.k = 2 ∨ t.k = 4 then 0 else if t.k = 3 ∧ hasB xs t.t 1 = true then 1 else -1
  else
    if t.k = 3 ∧ hasB xs t.t 2 = true then 2 else if t.k = 3 ∧ hasB xs t.t 3 = true then 3
    else if t.k = 5 ∧ 0 < op then 0 else if t.k = 7 ∧ op = 0 ∧ last = true then 0 else -1
def bhOf (xs : List OpR) (t : TokR) (bh : Bool) : Bool :=
  if bh = false then (if t.k = 1 ∨ t.k = 2 then true else false) else (if t.k = 3 ∧ hasB xs t.t 2 = true then false else true)
def opOf (t : TokR) (op : Nat) : Nat := if t.k = 4 then op + 1 else if t.k = 5 then op - 1 else op

/-- State and brackets in front of token i. -/
def bhTo (xs : List OpR) (ts : List TokR) : Nat → Bool
  | 0 => false
  | i + 1 => bhOf xs (atT ts i) (bhTo xs ts i)
def opTo (ts : List TokR) : Nat → Nat
  | 0 => 0
  | i + 1 => opOf (atT ts i) (opTo ts i)
/-- The role of token i, if all in front of it fit. -/
def roleTo (xs : List OpR) (ts : List TokR) (i : Nat) : Int := roleOf xs (decide (i + 1 = ts.length)) (atT ts i) (bhTo xs ts i) (opTo ts i)
/-- The first k roles. -/
def rolesTo (xs : List OpR) (ts : List TokR) (k : Nat) : List Int := (List.range k).map (roleTo xs ts)

theorem rolesTo_succ (xs : List OpR) (ts : List TokR) (k : Nat) : rolesTo xs ts (k + 1) = rolesTo xs ts k ++ [roleTo xs ts k] := by
  simp [rolesTo, List.range_succ]
theorem rolesTo_len (xs : List OpR) (ts : List TokR) (k : Nat) : (rolesTo xs ts k).length = k := by simp [rolesTo]

/-- The first k tokens fit. -/
def FitTo (xs : List OpR) (ts : List TokR) (k : Nat) : Prop := ∀ i, i < k → 0 ≤ roleTo xs ts i

/-- What Roles answers. -/
def RolesIs (xs : List OpR) (ok : Prop) (ts : List TokR) (us : List Int) (c : Int) : Prop :=
  (¬ ok ∧ us = [] ∧ c = 0) ∨
  (ok ∧ ((∃ i, i < ts.length ∧ FitTo xs ts i ∧ roleTo xs ts i < 0 ∧ us = [] ∧ c = (i : Int)) ∨
    (FitTo xs ts ts.length ∧ (((0 < ts.length ∧ (atT ts (ts.length - 1)).k = 7) ∧ us = rolesTo xs ts ts.length ∧ c = -1) ∨ (¬ (0 < ts.length ∧ (atT ts (ts.length - 1)).k = 7) ∧ us = [] ∧ c = (ts.length : Int))))))

theorem RolesIs.one {xs : List OpR} {ok : Prop} {ts : List TokR} {us us' : List Int} {c c' : Int} (h : RolesIs xs ok ts us c) (h' : RolesIs xs ok ts us' c') : us = us' ∧ c = c' := by
  rcases h with ⟨a, rfl, rfl⟩ | ⟨a, h⟩
  · rcases h' with ⟨_, rfl, rfl⟩ | ⟨a', _⟩
    · exact ⟨rfl, rfl⟩
    · exact absurd a' a
  · rcases h' with ⟨a', _⟩ | ⟨_, h'⟩
    · exact absurd a a'
    · rcases h with ⟨i, hi, hf, hr, rfl, rfl⟩ | ⟨hf, h⟩
      · rcases h' with ⟨i', hi', hf', hr', rfl, rfl⟩ | ⟨hf', h'⟩
        · refine ⟨rfl, ?_⟩
          rcases Nat.lt_trichotomy i i' with e | e | e
          · have := hf' i e; omega
          · rw [e]
          · have := hf i' e; omega
        · have := hf' i hi; omega
      · rcases h' with ⟨i', hi', hf', hr', rfl, rfl⟩ | ⟨hf', h'⟩
        · have := hf i' hi'; omega
        · rcases h with ⟨b, rfl, rfl⟩ | ⟨b, rfl, rfl⟩
          · rcases h' with ⟨b', rfl, rfl⟩ | ⟨b', _⟩
            · exact ⟨rfl, rfl⟩
            · exact absurd b b'
          · rcases h' with ⟨b', _⟩ | ⟨_, rfl, rfl⟩
            · exact absurd b' b
            · exact ⟨rfl, rfl⟩

theorem RolesIs.len {xs : List OpR} {ok : Prop} {ts : List TokR} {us : List Int} {c : Int} (h : RolesIs xs ok ts us c) : us.length ≤ ts.length := by
  rcases h with ⟨a, rfl, rfl⟩ | ⟨a, ⟨i, hi, hf, hr, rfl, rfl⟩ | ⟨hf, ⟨b, rfl, rfl⟩ | ⟨b, rfl, rfl⟩⟩⟩
  · simp
  · simp
  · rw [rolesTo_len]; exact Nat.le_refl _
  · simp

/-- The specification's states. -/
def endsOf (xs : List OpR) (t : TokR) (st : Bool) : Bool := decide (t.k = 1 ∨ t.k = 2 ∨ t.k = 5) || (decide (t.k = 3) && st && hasB xs t.t 3)
def stTo (xs : List OpR) (ts : List TokR) : Nat → Bool
  | 0 => false
  | i + 1 => endsOf xs (atT ts i) (stTo xs ts i)
/-- The specification's number of open brackets. -/
def opI (ts : List TokR) : Nat → Int
  | 0 => 0
  | i + 1 => opI ts i + (if (atT ts i).k = 4 then 1 else 0) - (if (atT ts i).k = 5 then 1 else 0)
/-- The specification's role. -/
def roleS (xs : List OpR) (ts : List TokR) (i : Nat) (bh : Bool) : Int :=
  if bh = false then
    if (atT ts i).k = 1 ∨ (atT ts i).k = 2 ∨ (atT ts i).k = 4 then 0 else if (atT ts i).k = 3 ∧ hasB xs (atT ts i).t 1 = true then 1 else -1
  else
    if (atT ts i).k = 3 ∧ hasB xs (atT ts i).t 2 = true then 2 else if (atT ts i).k = 3 ∧ hasB xs (atT ts i).t 3 = true then 3
    else if (atT ts i).k = 5 ∧ 0 < opI ts i then 0 else if (atT ts i).k = 7 ∧ opI ts i = 0 ∧ i + 1 = ts.length then 0 else -1

/-- No text is that of an infix and of a postfix operator. -/
def Apart23 (xs : List OpR) : Prop := ∀ t, ¬ (hasB xs t 2 = true ∧ hasB xs t 3 = true)

theorem apart_of {xs : List OpR} (h : ¬ Pr 3 xs) : Apart23 xs := by
  rintro t ⟨h2, h3⟩
  obtain ⟨i, hi, e1, e2⟩ := (hasB_iff _ _ _).1 h2
  obtain ⟨j, hj, f1, f2⟩ := (hasB_iff _ _ _).1 h3
  have hne : i ≠ j := fun e => by subst e; omega
  apply h
  rcases Nat.lt_trichotomy i j with e | e | e
  · exact ⟨j, i, e, hj, by simp [cl]; exact ⟨by rw [f1, e1], by omega⟩⟩
  · exact absurd e hne
  · exact ⟨i, j, e, hi, by simp [cl]; exact ⟨by rw [f1, e1], by omega⟩⟩

/-- While all fits, the specification's state and brackets are the walk's own. -/
theorem states_eq {xs : List OpR} {ts : List TokR} (ha : Apart23 xs) : ∀ i, i < ts.length → FitTo xs ts i → stTo xs ts i = bhTo xs ts i ∧ opI ts i = (opTo ts i : Int)
  | 0, _, _ => ⟨rfl, rfl⟩
  | i + 1, hi, hf => by
    obtain ⟨h1, h2⟩ := states_eq ha i (by omega) (fun j hj => hf j (by omega))
    have hr := hf i (by omega)
    unfold roleTo roleOf at hr
    have hl : decide (i + 1 = ts.length) = false := by simp; omega
    rw [hl] at hr
    have h23 := ha (atT ts i).t
    simp only [stTo, bhTo, opI, opTo, h1, h2, endsOf, bhOf, opOf]
    cases hb : bhTo xs ts i
    · rw [hb] at hr
      simp only [if_true] at hr
      by_cases k1 : (atT ts i).k = 1 ∨ (atT ts i).k = 2
      · have k5 : ¬ (atT ts i).k = 5 := by omega
        have k4 : ¬ (atT ts i).k = 4 := by omega
        have k' : (atT ts i).k = 1 ∨ (atT ts i).k = 2 ∨ (atT ts i).k = 5 := by omega
        simp [k1, k4, k5, k']
      · have k5 : ¬ (atT ts i).k = 5 := by
          intro e
          rw [if_neg (by omega), if_neg (by omega)] at hr
          omega
        have k' : ¬ ((atT ts i).k = 1 ∨ (atT ts i).k = 2 ∨ (atT ts i).k = 5) := by omega
        by_cases k4 : (atT ts i).k = 4
        · simp [k1, k4, k5, k']
        · simp [k1, k4, k5, k']
    · rw [hb] at hr
      simp only [Bool.true_eq_false, if_false] at hr
      by_cases c2 : (atT ts i).k = 3 ∧ hasB xs (atT ts i).t 2 = true
      · have c3 : hasB xs (atT ts i).t 3 = false := by
          cases h : hasB xs (atT ts i).t 3
          · rfl
          · exact absurd ⟨c2.2, h⟩ h23
        have k3 := c2.1
        simp [c2, c3, k3]
      · rw [if_neg c2] at hr
        by_cases c3 : (atT ts i).k = 3 ∧ hasB xs (atT ts i).t 3 = true
        · have c2' : hasB xs (atT ts i).t 2 = false := by
            cases h : hasB xs (atT ts i).t 2
            · rfl
            · exact absurd ⟨c3.1, h⟩ c2
          simp [c3, c2']
        · rw [if_neg c3] at hr
          by_cases c5 : (atT ts i).k = 5 ∧ 0 < opTo ts i
          · have k5 := c5.1
            have k0 := c5.2
            simp [k5]
            omega
          · rw [if_neg c5] at hr
            simp at hr

theorem role_eq {xs : List OpR} {ts : List TokR} (ha : Apart23 xs) (i : Nat) (hi : i < ts.length) (hf : FitTo xs ts i) : roleS xs ts i (stTo xs ts i) = roleTo xs ts i := by
  obtain ⟨h1, h2⟩ := states_eq ha i hi hf
  rw [h1]
  unfold roleS roleTo roleOf
  rw [h2]
  simp
end Go.Proofs.YtokabkhnidlcnabGreat

/-
  Texts and lists of bytes: the conversions, rows of bytes.
-/
namespace Go.Proofs.YtokabkhnidlcnabGreat
set_option maxRecDepth 100000
open Go.RowKit

/-- The cells of a list of bytes. -/
def cellsB (l : List UInt8) : List Value := l.map fun b => .int .u8 (b.toNat : Int)

theorem cellsB_len (l : List UInt8) : (cellsB l).length = l.length := by simp [cellsB]
theorem cellsB_append (l l' : List UInt8) : cellsB (l ++ l') = cellsB l ++ cellsB l' := by simp [cellsB]
theorem cellsB_one (l : List UInt8) : ∀ u ∈ cellsB l, u.oneCell' = true := by
  intro u hu
  simp only [cellsB, List.mem_map] at hu
  obtain ⟨b, _, rfl⟩ := hu
  rfl

/-- '[]byte(s)' in whatever world. -/
theorem conv_bytes (W : World) (s : ByteArray) : ∃ (c : Nat) (W' : World), (convert 9 87 (.string s)).run Tryz.prog W = .ok (.slice (some ⟨W.heap.size, 0, none⟩) s.size c) W' ∧
    (∀ j u, (cellsB s.data.toList)[j]? = some u → W'.cell? ((⟨W.heap.size, 0, none⟩ : Addr).add j) = some u) ∧ Below W.heap.size W W' := by
  refine ⟨_, _, run_bytes_of_string (P := Tryz.prog) W 9 87 5 s Tryz.underlying9 Tryz.underlying87 Tryz.underlying5, ?_, ?_⟩
  · intro j u hj
    rw [Addr.add_mid, Nat.zero_add]
    have hlt : j < s.size := by
      have := (List.getElem?_eq_some_iff.1 hj).1
      rw [cellsB_len] at this
      simpa using this
    rw [cell_of_row _ W.heap.size j (bytesRow s (grownCap W s.size 0 5)) 5 _ (heap_alloc_new W.drew _)]
    have : j < s.data.size := hlt
    simp only [bytesRow]
    rw [Array.getElem?_append_left (by simpa using this)]
    simp only [cellsB, List.getElem?_map] at hj
    simpa using hj
  · exact (Below.refl _ _).drew.alloc (Nat.le_refl _) _

/-- 'string(b)' of a row of bytes. -/
theorem conv_string (W : World) (g n c : Nat) (l : List UInt8) (hn : n = l.length) (h : ∀ j u, (cellsB l)[j]? = some u → W.cell? ((⟨g, 0, none⟩ : Addr).add j) = some u) :
    (convert 87 9 (.slice (some ⟨g, 0, none⟩) n c)).run Tryz.prog W = .ok (.string ⟨l.toArray⟩) W := by
  rw [run_convert_bytes_string _ 87 9 5 _ _ _ Tryz.underlying87 Tryz.underlying5 Tryz.underlying9]
  have hl : (loadCells ⟨g, 0, none⟩ n).run Tryz.prog W = .ok ((l.map fun b => (b.toNat : Int)).map (Value.int .u8)).toArray W := by
    have := run_loadCells_list (P := Tryz.prog) W ⟨g, 0, none⟩ (cellsB l) h
    rw [cellsB_len, ← hn] at this
    rw [this]
    simp [cellsB]
  rw [run_bytesToString _ ⟨g, 0, none⟩ n c _ hl]
  congr 2
  clear hl h hn
  have key : ∀ (l : List UInt8) (acc : ByteArray), List.foldl (fun (r : ByteArray) (n : Int) => r.push (UInt8.ofNat n.toNat)) acc (l.map fun b => (b.toNat : Int)) = ⟨(acc.data.toList ++ l).toArray⟩ := by
    intro l
    induction l with
    | nil => intro acc; simp
    | cons b r ih =>
      intro acc
      rw [List.map_cons, List.foldl_cons, ih]
      congr 1
      simp [ByteArray.push]
  rw [key]
  simp

theorem infoByte : (Tryz.prog.info? 5).map (fun i => (i.zero, i.size, i.bytes)) = some (some (.int .u8 0), 1, 1) := by kernel_rfl
end Go.Proofs.YtokabkhnidlcnabGreat

/-
  The text of a row of tokens.
-/
namespace Go.Proofs.YtokabkhnidlcnabGreat
set_option maxRecDepth 100000
open Go.RowKit

/-- The text of the first k tokens. -/
def rendTo (xs : List TokR) : Nat → List UInt8
  | 0 => []
  | k + 1 => rendTo xs k ++ (atT xs k).g.data.toList ++ (atT xs k).t.data.toList

theorem rend_len (xs : List TokR) : ∀ k, (rendTo xs k).length = totToT xs k
  | 0 => rfl
  | k + 1 => by
    have := rend_len xs k
    simp only [rendTo, totToT, totT, List.length_append, this]
    simp
    omega

theorem tot_mono (xs : List TokR) : ∀ k n, k ≤ n → totToT xs k ≤ totToT xs n
  | k, 0, h => by have : k = 0 := by omega
                  subst this; exact Nat.le_refl _
  | k, n + 1, h => by
    by_cases e : k = n + 1
    · subst e; exact Nat.le_refl _
    · have := tot_mono xs k n (by omega)
      simp only [totToT]
      omega

theorem owns_bval {w : World} {base n size : Nat} {e : TypeId} {v : Value} {xs : List Value} (h : w.ownsRow base e size v n xs) (hv : v ≠ .slice none 0 0) : ∃ g cap, v = .slice (some ⟨g, 0, none⟩) n cap := by
  obtain ⟨_, h | ⟨g, cap, cur, hv', _⟩⟩ := h
  · exact absurd h.1 hv
  · exact ⟨g, cap, hv'⟩

theorem owns_bcells {w : World} {base g cap n : Nat} {e : TypeId} {l : List UInt8} (h : w.ownsRow base e 1 (.slice (some ⟨g, 0, none⟩) n cap) n (cellsB l)) : ∀ j u, (cellsB l)[j]? = some u → w.cell? ((⟨g, 0, none⟩ : Addr).add j) = some u :=
  h.cells rfl

theorem grown_bel {w w' : World} (h : Below w.heap.size w w') (row : Option Nat) : w.grownBy w' row := ⟨h.os, h.tape, h.output, h.size, fun i hi _ => h.block i hi⟩
end Go.Proofs.YtokabkhnidlcnabGreat
