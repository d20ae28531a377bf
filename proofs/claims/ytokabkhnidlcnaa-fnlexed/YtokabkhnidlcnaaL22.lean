import Derived.Test.YtokabkhnidlcnaaL05
import Derived.Test.YtokabkhnidlcnaaL12
import Derived.Test.YtokabkhnidlcnaaL21

/-
  Walk: the face of what ImplLex5 walks.
-/
namespace Go.Proofs.Ytokabkhnidlcnaa
set_option maxRecDepth 100000
open Go.RowKit Go.Maps

set_option maxHeartbeats 4000000 in
theorem implLex_any (b off cap : Nat) (xs : List OpR) (s : ByteArray) (w : World) (hm : xs.length ≤ 1048576) (hw : Ops w b off xs) (hsz : Sized xs) (hB : b < w.heap.size) (hs : s.size ≤ maxLen) :
    Calls Try.prog 8 #[.agg #[.slice (some ⟨b, off, none⟩) xs.length cap], .string s] w fun e w' => (∃ (a : Option Addr) (c : Nat) (us : List TokR) (v : Bool), e = .returned (.tuple #[.slice a us.length c, .bool v]) ∧ OwnedT w' w.heap.size a us ∧ LexIs xs (IsCode xs 0) s us v) ∧ Below w.heap.size w w' := by
  unfold maxLen at hs
  have HW := hide hw
  have HS := hide hsz
  clear hw hsz
  go_enter Try.func8, Try.ntmps8
  go_wp2_with fail
  refine (indexTable_any b off cap xs _ hm ((unhide HW).below (below1 _ _) hB) (unhide HS) (by simp; omega)).mono ?_
  rintro e w1 ⟨⟨x, y, c, rfl, hc, hix⟩, hb1⟩
  have HC := hide hc
  have HIX := hide hix
  have z1 : w.heap.size + 1 ≤ w1.heap.size := by have := hb1.size; simp at this; omega
  have bel1 : Below w.heap.size w w1 := (below1 _ _).trans (hb1.mono (by simp))
  have c1 : w1.cell? ⟨w.heap.size, 0, none⟩ = some (.slice (some ⟨b, off, none⟩) xs.length cap) := by rw [hb1.cell (p := ⟨w.heap.size, 0, none⟩) (by simp)]; simp [go_sem]
  clear hc hix hb1
  by_cases hc0 : c = 0
  case neg =>
    have hc0' : (c != 0) = true := by simpa using hc0
    have HN := hide (show ¬ (IsCode xs 0 ∧ s.size ≤ 20000) from fun h => hc0 (IsCode_one (unhide HC) h.1))
    clear hc0
    go_wp2_with fail
    go_ret2
    exact ⟨⟨none, 0, [], false, rfl, Or.inl ⟨rfl, rfl⟩, Or.inr ⟨unhide HN, rfl, rfl⟩⟩, bel1.alloc bel1.size _⟩
  subst hc0
  obtain ⟨bo, bs, rfl, rfl, hidx⟩ := (unhide HIX) rfl
  have HID := hide hidx
  clear HIX hidx
  by_cases h2 : 20000 < s.size
  · have HN := hide (show ¬ (IsCode xs 0 ∧ s.size ≤ 20000) from fun h => by omega)
    have h2' : (20000 : Int) < (s.size : Int) := by omega
    go_wp2_with fail
    go_ret2
    exact ⟨⟨none, 0, [], false, rfl, Or.inl ⟨rfl, rfl⟩, Or.inr ⟨unhide HN, rfl, rfl⟩⟩, bel1.alloc bel1.size _⟩
  have h20 : s.size ≤ 20000 := by omega
  have h20' : ¬ (20000 : Int) < (s.size : Int) := by omega
  clear hs h2
  have HIJ := hide ((unhide HID).kept (below1 w1 (.cells #[.map (some bo), .map (some bs)] 66)))
  clear HID c1
  go_wp2_with fail
  refine (cut_any bo bs xs s _ (unhide HIJ) (unhide HC) (unhide HS) h20).mono ?_
  rintro e w2 ⟨⟨g, cp, us, rfl, hg, hfil, hlex⟩, hb2⟩
  have bel2 : Below w.heap.size w w2 := (bel1.alloc bel1.size _).trans (hb2.mono (by simp; omega))
  have hg2 : w.heap.size ≤ g := by simp at hg; omega
  go_wp2_with fail
  go_ret2
  exact ⟨⟨some ⟨g, 0, none⟩, cp, us, true, rfl, Or.inr ⟨g, rfl, hg2, unhide hfil⟩, Or.inl ⟨⟨unhide HC, h20⟩, rfl, unhide hlex⟩⟩, bel2⟩
end Go.Proofs.Ytokabkhnidlcnaa

/-
  The plain mathematics of roles.
-/
namespace Go.Proofs.Ytokabkhnidlcnaa
set_option maxRecDepth 100000
set_option linter.unusedSimpArgs false
open Go.RowKit

/-- The table has an operator of that text and kind. -/
def HasK (xs : List OpR) (t : ByteArray) (k : Int) : Prop := ∃ j, j < xs.length ∧ (atO xs j).s = t ∧ (atO xs j).k = k
def hasB (xs : List OpR) (t : ByteArray) (k : Int) : Bool := (List.range xs.length).any fun j => (atO xs j).s.data == t.data && (atO xs j).k == k

theorem hasB_iff (xs : List OpR) (t : ByteArray) (k : Int) : hasB xs t k = true ↔ HasK xs t k := by
  have e : ∀ a b : ByteArray, (a.data = b.data) ↔ a = b := fun a b => ⟨fun h => by cases a; cases b; simp_all, fun h => by rw [h]⟩
  simp [hasB, HasK, List.any_eq_true, e]

/-- The role of a token, -1 when it does not fit; the state behind it; the brackets open behind it. -/
def roleOf (xs : List OpR) (last : Bool) (t : TokR) (bh : Bool) (op : Nat) : Int :=
  if bh = false then
    if t.k = 1 ∨ t.k = 2 ∨ t.k = 4 then 0 else if t.k = 3 ∧ hasB xs t.t 1 = true then 1 else -1
  else
    if t.k = 3 ∧ hasB xs t.t 2 = true then 2 else if t.k = 3 ∧ hasB xs t.t 3 = true then 3
    else if t.k = 5 ∧ 0 < op then 0 else if t.k = 7 ∧ op = 0 ∧ last = true then 0 else -1
def bhOf (xs : List OpR) (t : TokR) (bh : Bool) : Bool :=
  if bh = false then (if t.k = 1 ∨ t.k = 2 then true else false) else (if t.k = 3 ∧ hasB xs t.t 2 = true then false else true)
def opOf (t : TokR) (op : Nat) : Nat := if t.k = 4 then op + 1 else if t.k = 5 then op - 1 else op

/-- State and brackets in front of token i. -/
def bhTo (xs : List OpR) (ts : List TokR) : Nat → Bool
  | 0 => false
  | i + 1 => bhOf xs (atT ts i) (bhTo xs ts i)
def opTo (ts : List TokR) : Nat → Nat
  | 0 => 0
  | i + 1 => opOf (atT ts i) (opTo ts i)
/-- The role of token i, if all in front of it fit. -/
def roleTo (xs : List OpR) (ts : List TokR) (i : Nat) : Int := roleOf xs (decide (i + 1 = ts.length)) (atT ts i) (bhTo xs ts i) (opTo ts i)
/-- The first k roles. -/
def rolesTo (xs : List OpR) (ts : List TokR) (k : Nat) : List Int := (List.range k).map (roleTo xs ts)

theorem rolesTo_succ (xs : List OpR) (ts : List TokR) (k : Nat) : rolesTo xs ts (k + 1) = rolesTo xs ts k ++ [roleTo xs ts k] := by
  simp [rolesTo, List.range_succ]
theorem rolesTo_len (xs : List OpR) (ts : List TokR) (k : Nat) : (rolesTo xs ts k).length = k := by simp [rolesTo]

/-- The first k tokens fit. -/
def FitTo (xs : List OpR) (ts : List TokR) (k : Nat) : Prop := ∀ i, i < k → 0 ≤ roleTo xs ts i

/-- What Roles answers. -/
def RolesIs (xs : List OpR) (ok : Prop) (ts : List TokR) (us : List Int) (c : Int) : Prop :=
  (¬ ok ∧ us = [] ∧ c = 0) ∨
  (ok ∧ ((∃ i, i < ts.length ∧ FitTo xs ts i ∧ roleTo xs ts i < 0 ∧ us = [] ∧ c = (i : Int)) ∨
    (FitTo xs ts ts.length ∧ (((0 < ts.length ∧ (atT ts (ts.length - 1)).k = 7) ∧ us = rolesTo xs ts ts.length ∧ c = -1) ∨ (¬ (0 < ts.length ∧ (atT ts (ts.length - 1)).k = 7) ∧ us = [] ∧ c = (ts.length : Int))))))

theorem RolesIs.one {xs : List OpR} {ok : Prop} {ts : List TokR} {us us' : List Int} {c c' : Int} (h : RolesIs xs ok ts us c) (h' : RolesIs xs ok ts us' c') : us = us' ∧ c = c' := by
  rcases h with ⟨a, rfl, rfl⟩ | ⟨a, h⟩
  · rcases h' with ⟨_, rfl, rfl⟩ | ⟨a', _⟩
    · exact ⟨rfl, rfl⟩
    · exact absurd a' a
  · rcases h' with ⟨a', _⟩ | ⟨_, h'⟩
    · exact absurd a a'
    · rcases h with ⟨i, hi, hf, hr, rfl, rfl⟩ | ⟨hf, h⟩
      · rcases h' with ⟨i', hi', hf', hr', rfl, rfl⟩ | ⟨hf', h'⟩
        · refine ⟨rfl, ?_⟩
          rcases Nat.lt_trichotomy i i' with e | e | e
          · have := hf' i e; omega
          · rw [e]
          · have := hf i' e; omega
        · have := hf' i hi; omega
      · rcases h' with ⟨i', hi', hf', hr', rfl, rfl⟩ | ⟨hf', h'⟩
        · have := hf i' hi'; omega
        · rcases h with ⟨b, rfl, rfl⟩ | ⟨b, rfl, rfl⟩
          · rcases h' with ⟨b', rfl, rfl⟩ | ⟨b', _⟩
            · exact ⟨rfl, rfl⟩
            · exact absurd b b'
          · rcases h' with ⟨b', _⟩ | ⟨_, rfl, rfl⟩
            · exact absurd b' b
            · exact ⟨rfl, rfl⟩

theorem RolesIs.len {xs : List OpR} {ok : Prop} {ts : List TokR} {us : List Int} {c : Int} (h : RolesIs xs ok ts us c) : us.length ≤ ts.length := by
  rcases h with ⟨a, rfl, rfl⟩ | ⟨a, ⟨i, hi, hf, hr, rfl, rfl⟩ | ⟨hf, ⟨b, rfl, rfl⟩ | ⟨b, rfl, rfl⟩⟩⟩
  · simp
  · simp
  · rw [rolesTo_len]; exact Nat.le_refl _
  · simp

/-- The specification's states. -/
def endsOf (xs : List OpR) (t : TokR) (st : Bool) : Bool := decide (t.k = 1 ∨ t.k = 2 ∨ t.k = 5) || (decide (t.k = 3) && st && hasB xs t.t 3)
def stTo (xs : List OpR) (ts : List TokR) : Nat → Bool
  | 0 => false
  | i + 1 => endsOf xs (atT ts i) (stTo xs ts i)
/-- The specification's number of open brackets. -/
def opI (ts : List TokR) : Nat → Int
  | 0 => 0
  | i + 1 => opI ts i + (if (atT ts i).k = 4 then 1 else 0) - (if (atT ts i).k = 5 then 1 else 0)
/-- The specification's role. -/
def roleS (xs : List OpR) (ts : List TokR) (i : Nat) (bh : Bool) : Int :=
  if bh = false then
    if (atT ts i).k = 1 ∨ (atT ts i).k = 2 ∨ (atT ts i).k = 4 then 0 else if (atT ts i).k = 3 ∧ hasB xs (atT ts i).t 1 = true then 1 else -1
  else
    if (atT ts i).k = 3 ∧ hasB xs (atT ts i).t 2 = true then 2 else if (atT ts i).k = 3 ∧ hasB xs (atT ts i).t 3 = true then 3
    else if (atT ts i).k = 5 ∧ 0 < opI ts i then 0 else if (atT ts i).k = 7 ∧ opI ts i = 0 ∧ i + 1 = ts.length then 0 else -1

/-- No text is that of an infix and of a postfix operator. -/
def Apart23 (xs : List OpR) : Prop := ∀ t, ¬ (hasB xs t 2 = true ∧ hasB xs t 3 = true)

theorem apart_of {xs : List OpR} (h : ¬ Pr 3 xs) : Apart23 xs := by
  rintro t ⟨h2, h3⟩
  obtain ⟨i, hi, e1, e2⟩ := (hasB_iff _ _ _).1 h2
  obtain ⟨j, hj, f1, f2⟩ := (hasB_iff _ _ _).1 h3
  have hne : i ≠ j := fun e => by subst e; omega
  apply h
  rcases Nat.lt_trichotomy i j with e | e | e
  · exact ⟨j, i, e, hj, by simp [cl]; exact ⟨by rw [f1, e1], by omega⟩⟩
  · exact absurd e hne
  · exact ⟨i, j, e, hi, by simp [cl]; exact ⟨by rw [f1, e1], by omega⟩⟩

/-- While all fits, the specification's state and brackets are the walk's own. -/
theorem states_eq {xs : List OpR} {ts : List TokR} (ha : Apart23 xs) : ∀ i, i < ts.length → FitTo xs ts i → stTo xs ts i = bhTo xs ts i ∧ opI ts i = (opTo ts i : Int)
  | 0, _, _ => ⟨rfl, rfl⟩
  | i + 1, hi, hf => by
    obtain ⟨h1, h2⟩ := states_eq ha i (by omega) (fun j hj => hf j (by omega))
    have hr := hf i (by omega)
    unfold roleTo roleOf at hr
    have hl : decide (i + 1 = ts.length) = false := by simp; omega
    rw [hl] at hr
    have h23 := ha (atT ts i).t
    simp only [stTo, bhTo, opI, opTo, h1, h2, endsOf, bhOf, opOf]
    cases hb : bhTo xs ts i
    · rw [hb] at hr
      simp only [if_true] at hr
      by_cases k1 : (atT ts i).k = 1 ∨ (atT ts i).k = 2
      · have k5 : ¬ (atT ts i).k = 5 := by omega
        have k4 : ¬ (atT ts i).k = 4 := by omega
        have k' : (atT ts i).k = 1 ∨ (atT ts i).k = 2 ∨ (atT ts i).k = 5 := by omega
        simp [k1, k4, k5, k']
      · have k5 : ¬ (atT ts i).k = 5 := by
          intro e
          rw [if_neg (by omega), if_neg (by omega)] at hr
          omega
        have k' : ¬ ((atT ts i).k = 1 ∨ (atT ts i).k = 2 ∨ (atT ts i).k = 5) := by omega
        by_cases k4 : (atT ts i).k = 4
        · simp [k1, k4, k5, k']
        · simp [k1, k4, k5, k']
    · rw [hb] at hr
      simp only [Bool.true_eq_false, if_false] at hr
      by_cases c2 : (atT ts i).k = 3 ∧ hasB xs (atT ts i).t 2 = true
      · have c3 : hasB xs (atT ts i).t 3 = false := by
          cases h : hasB xs (atT ts i).t 3
          · rfl
          · exact absurd ⟨c2.2, h⟩ h23
        have k3 := c2.1
        simp [c2, c3, k3]
      · rw [if_neg c2] at hr
        by_cases c3 : (atT ts i).k = 3 ∧ hasB xs (atT ts i).t 3 = true
        · have c2' : hasB xs (atT ts i).t 2 = false := by
            cases h : hasB xs (atT ts i).t 2
            · rfl
            · exact absurd ⟨c3.1, h⟩ c2
          simp [c3, c2']
        · rw [if_neg c3] at hr
          by_cases c5 : (atT ts i).k = 5 ∧ 0 < opTo ts i
          · have k5 := c5.1
            have k0 := c5.2
            simp [k5]
            omega
          · rw [if_neg c5] at hr
            simp at hr

theorem role_eq {xs : List OpR} {ts : List TokR} (ha : Apart23 xs) (i : Nat) (hi : i < ts.length) (hf : FitTo xs ts i) : roleS xs ts i (stTo xs ts i) = roleTo xs ts i := by
  obtain ⟨h1, h2⟩ := states_eq ha i hi hf
  rw [h1]
  unfold roleS roleTo roleOf
  rw [h2]
  simp
end Go.Proofs.Ytokabkhnidlcnaa
