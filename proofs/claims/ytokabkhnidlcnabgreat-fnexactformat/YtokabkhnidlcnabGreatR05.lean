import Derived.Test.YtokabkhnidlcnabGreatR02
import Derived.Test.YtokabkhnidlcnabGreatR03
import Derived.Test.YtokabkhnidlcnabGreatR04

/-
  Walk: the specification's TableOk.
-/
namespace Go.Proofs.YtokabkhnidlcnabGreat
set_option maxRecDepth 100000
open Go.RowKit

set_option maxHeartbeats 2000000 in
theorem specTableOk_any (b off cap : Nat) (xs : List OpR) (w : World) (hm : xs.length ≤ 1048576) (hw : Ops w b off xs) (hs : Sized xs) (hB : b < w.heap.size) :
    Calls Tryz.prog 22 #[.agg #[.slice (some ⟨b, off, none⟩) xs.length cap]] w fun e w' => (∃ c, e = .returned (.int .i64 c) ∧ IsCode xs c) ∧ Below w.heap.size w w' := by
  have hx0 := hide (Bx.start (cap := cap) hw hB 33)
  by_cases h500 : 500 < xs.length
  · go_enter Tryz.func22, Tryz.ntmps22
    go_wp2
    go_ret
    exact ⟨⟨1, rfl, Or.inl ⟨rfl, h500⟩⟩, below1 _ _⟩
  have h500' : xs.length ≤ 500 := by omega
  go_enter Tryz.func22, Tryz.ntmps22
  go_wp2
  go_loopw [4] (fun i wr => ∃ k : Nat, k ≤ xs.length ∧ i = .int .i64 k ∧ okTo xs k ∧ Bx w b off cap xs wr) (fun i _ => xs.length - (intOf i).toNat)
  case atStart => exact ⟨0, Nat.zero_le _, rfl, fun j h => (by omega), unhide hx0⟩
  case round =>
    obtain ⟨k, hk, rfl, hok, hx⟩ := hrel
    by_cases hlt : k < xs.length
    · obtain ⟨a0, a1, a2, a3⟩ := hx.ops k hlt
      have hbx := hx.box
      cases ht : (atO xs k).ok
      · have Ht := hide ht
        unfold OpR.ok at ht
        go_wp2_with (go_at_call 50; refine (l1OpOk_any _ _ _ _ _ (hs k hlt)).mono ?_; rintro e w1 ⟨rfl, hb1⟩)
        go_ret
        refine ⟨⟨2, rfl, Or.inr ⟨h500', Or.inl ⟨rfl, fun h => ?_⟩⟩⟩, (hx.step hb1).bel⟩
        have := h k hlt
        rw [unhide Ht] at this
        cases this
      · have Ht := hide ht
        unfold OpR.ok at ht
        go_wp2_with (go_at_call 50; refine (l1OpOk_any _ _ _ _ _ (hs k hlt)).mono ?_; rintro e w1 ⟨rfl, hb1⟩)
        exact ⟨⟨k + 1, by omega, by go_num, okTo_succ hok (unhide Ht), hx.step hb1⟩, by simp [intOf]; omega⟩
    · have hall : okTo xs xs.length := by have : k = xs.length := by omega
                                          exact this ▸ hok
      clear hok hx0
      go_wp2
      go_loopw [5] (fun c wr => ∃ cc : Int, c = .int .i64 cc ∧ 3 ≤ cc ∧ cc ≤ 5 ∧ Hid ((3 < cc → ¬ Pr 3 xs) ∧ (4 < cc → ¬ Pr 4 xs)) ∧ Bx w b off cap xs wr) (fun c _ => (5 - intOf c).toNat)
      case atStart => exact ⟨3, rfl, by omega, by omega, hide ⟨fun h => (by omega), fun h => (by omega)⟩, hx⟩
      case round =>
        clear hx
        obtain ⟨cc, rfl, hc3, hc5, hno, hx⟩ := hrel
        by_cases hc4 : cc ≤ 4
        · have hcc := hide (show cc = 3 ∨ cc = 4 by omega)
          go_wp2
          go_loopw [6] (fun i wr => ∃ k : Nat, k ≤ xs.length ∧ i = .int .i64 k ∧ Hid (NoPr cc xs k) ∧ Bx w b off cap xs wr) (fun i _ => xs.length - (intOf i).toNat)
          case atStart => exact ⟨0, Nat.zero_le _, rfl, hide (fun i j _ h => (by omega)), hx⟩
          case round =>
            clear hx
            obtain ⟨p, hp, rfl, hnp, hx⟩ := hrel
            by_cases hlp : p < xs.length
            · go_wp2
              go_loopw [7] (fun j wr => ∃ m : Nat, m ≤ p ∧ j = .int .i64 m ∧ Hid (∀ j, j < m → ¬ cl cc (atO xs p) (atO xs j)) ∧ Bx w b off cap xs wr) (fun j _ => p - (intOf j).toNat)
              case atStart => exact ⟨0, Nat.zero_le _, rfl, hide (fun j h => (by omega)), hx⟩
              case round =>
                clear hx
                obtain ⟨m, hmp, rfl, hnm, hx⟩ := hrel
                by_cases hlm : m < p
                · have hlmx : m < xs.length := by omega
                  obtain ⟨a0, a1, a2, a3⟩ := hx.ops p hlp
                  obtain ⟨d0, d1, d2, d3⟩ := hx.ops m hlmx
                  have hbx := hx.box
                  have hlt := hx.lt
                  have i1 : (p : Int) < (xs.length : Int) := by omega
                  have i2 : (m : Int) < (xs.length : Int) := by omega
                  go_wp2_with fail
                  go_region_held (fun w' => w'.cell? ⟨w.heap.size, 0, none⟩ = some (.slice (some ⟨b, off, none⟩) xs.length cap) ∧
                    (w'.cell? ⟨b, off + p * 4, none⟩ = some (.string (atO xs p).s) ∧ w'.cell? ⟨b, off + p * 4 + 1, none⟩ = some (.int .i64 (atO xs p).k) ∧ w'.cell? ⟨b, off + p * 4 + 2, none⟩ = some (.int .i64 (atO xs p).l) ∧ w'.cell? ⟨b, off + p * 4 + 3, none⟩ = some (.int .i64 (atO xs p).sd)) ∧
                    (w'.cell? ⟨b, off + m * 4, none⟩ = some (.string (atO xs m).s) ∧ w'.cell? ⟨b, off + m * 4 + 1, none⟩ = some (.int .i64 (atO xs m).k) ∧ w'.cell? ⟨b, off + m * 4 + 2, none⟩ = some (.int .i64 (atO xs m).l) ∧ w'.cell? ⟨b, off + m * 4 + 3, none⟩ = some (.int .i64 (atO xs m).sd))) (go_keep)
                    (first | (go_at_call 51; refine (l1Clash_any (atO xs p) (atO xs m) cc _ (unhide hcc)).mono ?_; rintro e w1 ⟨⟨v, rfl, hv⟩, hb1⟩; have HV := hide hv; clear hv; have hx1 := hx.drew.step hb1; obtain ⟨q0, q1, q2, q3⟩ := hx1.ops p hlp; obtain ⟨r0, r1, r2, r3⟩ := hx1.ops m hlmx; have qb := hx1.box))
                  cases v
                  · go_wp2
                    refine ⟨⟨m + 1, by omega, by go_num, hide ?_, hx1⟩, by simp [intOf]; omega⟩
                    intro j hj
                    by_cases e : j = m
                    · subst e
                      exact fun h => Bool.false_ne_true ((unhide HV).2 h)
                    · exact (unhide hnm) j (by omega)
                  · go_wp2
                    go_ret
                    refine ⟨⟨cc, rfl, Or.inr ⟨h500', Or.inr ⟨hall, ?_⟩⟩⟩, hx1.bel⟩
                    have hpr : Pr cc xs := ⟨p, m, hlm, hlp, (unhide HV).1 (by trivial)⟩
                    rcases unhide hcc with e | e
                    · subst e; exact Or.inl ⟨rfl, hpr⟩
                    · subst e; exact Or.inr ⟨(unhide hno).1 (by omega), Or.inl ⟨rfl, hpr⟩⟩
                · go_wp2
                  refine ⟨⟨p + 1, by omega, by go_num, hide (NoPr_succ (unhide hnp) (fun j hj => (unhide hnm) j (by omega))), hx⟩, by simp [intOf]; omega⟩
            · go_wp2
              refine ⟨⟨cc + 1, by go_num, by omega, by omega, hide ?_, hx⟩, by simp [intOf]; omega⟩
              have hn : ¬ Pr cc xs := NoPr_not (by have e : p = xs.length := by omega
                                                   exact e ▸ (unhide hnp))
              rcases unhide hcc with e | e
              · subst e; exact ⟨fun _ => hn, fun h => (by omega)⟩
              · subst e; exact ⟨fun _ => (unhide hno).1 (by omega), fun _ => hn⟩
        · go_wp2
          go_ret
          exact ⟨⟨0, rfl, Or.inr ⟨h500', Or.inr ⟨hall, Or.inr ⟨(unhide hno).1 (by omega), Or.inr ⟨rfl, (unhide hno).2 (by omega)⟩⟩⟩⟩⟩, hx.bel⟩
end Go.Proofs.YtokabkhnidlcnabGreat

/-
  The plain mathematics of TreeOk: operators of nodes, levels, holes.
-/
namespace Go.Proofs.YtokabkhnidlcnabGreat
set_option maxRecDepth 100000
open Go.RowKit

/-- The first place from i on, within m places, of the operator with a text and a kind. -/
def fndFrom (xs : List OpR) (t : ByteArray) (kd : Int) : Nat → Nat → Option Nat
  | 0, _ => none
  | m + 1, i => if (atO xs i).s = t ∧ (atO xs i).k = kd then some i else fndFrom xs t kd m (i + 1)

def fnd (xs : List OpR) (t : ByteArray) (kd : Int) : Option Nat := fndFrom xs t kd xs.length 0

theorem fndFrom_some {xs : List OpR} {t : ByteArray} {kd : Int} : ∀ {m i j : Nat}, fndFrom xs t kd m i = some j → i ≤ j ∧ j < i + m ∧ (atO xs j).s = t ∧ (atO xs j).k = kd
  | 0, _, _, h => by cases h
  | m + 1, i, j, h => by
    unfold fndFrom at h
    split at h
    · rename_i hc
      injection h with h
      subst h
      exact ⟨Nat.le_refl _, by omega, hc.1, hc.2⟩
    · have := fndFrom_some h
      exact ⟨by omega, by omega, this.2.2⟩

theorem fndFrom_none {xs : List OpR} {t : ByteArray} {kd : Int} : ∀ {m i : Nat}, fndFrom xs t kd m i = none → ∀ j, i ≤ j → j < i + m → ¬ ((atO xs j).s = t ∧ (atO xs j).k = kd)
  | 0, _, _, _, h1, h2 => by omega
  | m + 1, i, h, j, h1, h2 => by
    unfold fndFrom at h
    split at h
    · cases h
    · rename_i hc
      by_cases e : j = i
      · subst e; exact hc
      · exact fndFrom_none h j (by omega) (by omega)

theorem fnd_some {xs : List OpR} {t : ByteArray} {kd : Int} {j : Nat} (h : fnd xs t kd = some j) : j < xs.length ∧ (atO xs j).s = t ∧ (atO xs j).k = kd := by
  have := fndFrom_some h
  exact ⟨by omega, this.2.2⟩
theorem fnd_none {xs : List OpR} {t : ByteArray} {kd : Int} (h : fnd xs t kd = none) {j : Nat} (hj : j < xs.length) : ¬ ((atO xs j).s = t ∧ (atO xs j).k = kd) :=
  fndFrom_none h j (Nat.zero_le _) (by omega)
theorem fndFrom_skip {xs : List OpR} {t : ByteArray} {kd : Int} : ∀ (k m i : Nat), (∀ j, i ≤ j → j < i + k → ¬ ((atO xs j).s = t ∧ (atO xs j).k = kd)) → fndFrom xs t kd (k + m) i = fndFrom xs t kd m (i + k)
  | 0, m, i, _ => by rw [Nat.zero_add, Nat.add_zero]
  | k + 1, m, i, h => by
    have e : k + 1 + m = (k + m) + 1 := by omega
    rw [e]
    show (if (atO xs i).s = t ∧ (atO xs i).k = kd then some i else fndFrom xs t kd (k + m) (i + 1)) = _
    rw [if_neg (h i (Nat.le_refl _) (by omega)), fndFrom_skip k m (i + 1) (fun j h1 h2 => h j (by omega) (by omega))]
    congr 1
    omega
theorem fnd_first {xs : List OpR} {t : ByteArray} {kd : Int} {k : Nat} (hk : k < xs.length) (h : ∀ j, j < k → ¬ ((atO xs j).s = t ∧ (atO xs j).k = kd)) (hk2 : (atO xs k).s = t ∧ (atO xs k).k = kd) : fnd xs t kd = some k := by
  have e : xs.length = k + ((xs.length - k - 1) + 1) := by omega
  unfold fnd
  rw [e, fndFrom_skip k _ 0 (fun j _ h2 => h j (by omega))]
  show (if (atO xs (0 + k)).s = t ∧ (atO xs (0 + k)).k = kd then some (0 + k) else _) = _
  rw [Nat.zero_add, if_pos hk2]
theorem fnd_not {xs : List OpR} {t : ByteArray} {kd : Int} (h : ∀ j, j < xs.length → ¬ ((atO xs j).s = t ∧ (atO xs j).k = kd)) : fnd xs t kd = none := by
  cases e : fnd xs t kd with
  | none => rfl
  | some j => exact absurd (fnd_some e).2 (h j (fnd_some e).1)

/-- Over a valid table there is no other. -/
theorem fnd_one {xs : List OpR} (hv : IsCode xs 0) {t : ByteArray} {kd : Int} {j : Nat} (hj : j < xs.length) (h : (atO xs j).s = t ∧ (atO xs j).k = kd) : fnd xs t kd = some j := by
  cases e : fnd xs t kd with
  | none => exact absurd h (fnd_none e hj)
  | some i =>
    obtain ⟨hi, h1, h2⟩ := fnd_some e
    by_cases hij : i = j
    · rw [hij]
    · exfalso
      have hpr : ¬ Pr 3 xs := by
        rcases hv with ⟨h, _⟩ | ⟨_, ⟨h, _⟩ | ⟨_, ⟨h, _⟩ | ⟨h, _⟩⟩⟩
        · exact absurd h (by decide)
        · exact absurd h (by decide)
        · exact absurd h (by decide)
        · exact h
      apply hpr
      rcases Nat.lt_trichotomy i j with e | e | e
      · exact ⟨j, i, e, hj, by simp [cl]; exact ⟨by rw [h1, h.1], by omega⟩⟩
      · exact absurd e hij
      · exact ⟨i, j, e, hi, by simp [cl]; exact ⟨by rw [h1, h.1], by omega⟩⟩

def isOpN (o : NodeR) : Prop := 3 ≤ o.k ∧ o.k ≤ 5

/-- The level of a node. -/
def levN (xs : List OpR) (o : NodeR) : Int := if 3 ≤ o.k ∧ o.k ≤ 5 then (match fnd xs o.t (o.k - 2) with
  | some j => (atO xs j).l
  | none => 1001) else 1001

/-- The least of a hole of the operator at a place. -/
def holeO (xs : List OpR) (j : Nat) (b : Bool) : Int := holeI (atO xs j).s (atO xs j).k (atO xs j).l (atO xs j).sd b

/-- Each operator node has an operator. -/
def Knows (xs : List OpR) (ns : List NodeR) : Prop := ∀ i, i < ns.length → isOpN (atN ns i) → fnd xs (atN ns i).t ((atN ns i).k - 2) ≠ none

/-- The kids of node i fit its holes. -/
def FitN (xs : List OpR) (ns : List NodeR) (i : Nat) : Prop := ∀ j, isOpN (atN ns i) → fnd xs (atN ns i).t ((atN ns i).k - 2) = some j →
  holeO xs j false ≤ levN xs (atN ns (atN ns i).a.toNat) ∧ (kids (atN ns i).k = 1 ∨ holeO xs j true ≤ levN xs (atN ns (atN ns i).b.toNat))

/-- What TreeOk answers. -/
def TreeOkIs (xs : List OpR) (ns : List NodeR) (c : Int) : Prop :=
  (¬ IsCode xs 0 ∧ c = 1) ∨ (IsCode xs 0 ∧ ((¬ (InOrd ns ∧ Knows xs ns) ∧ c = 2) ∨ ((InOrd ns ∧ Knows xs ns) ∧ ((¬ (∀ i, i < ns.length → FitN xs ns i) ∧ c = 3) ∨ ((∀ i, i < ns.length → FitN xs ns i) ∧ c = 0)))))

theorem TreeOkIs.one {xs : List OpR} {ns : List NodeR} {c c' : Int} (h : TreeOkIs xs ns c) (h' : TreeOkIs xs ns c') : c = c' := by
  rcases h with ⟨a, rfl⟩ | ⟨a, ⟨b, rfl⟩ | ⟨b, ⟨d, rfl⟩ | ⟨d, rfl⟩⟩⟩ <;> rcases h' with ⟨a', rfl⟩ | ⟨a', ⟨b', rfl⟩ | ⟨b', ⟨d', rfl⟩ | ⟨d', rfl⟩⟩⟩ <;> first | rfl | exact absurd a a' | exact absurd a' a | exact absurd b b' | exact absurd b' b | exact absurd d d' | exact absurd d' d
end Go.Proofs.YtokabkhnidlcnabGreat

/-
  The plain mathematics of Group: the nodes without groups, and a group around each kid that is below its hole.
-/
namespace Go.Proofs.YtokabkhnidlcnabGreat
set_option maxRecDepth 100000
open Go.RowKit

/-- The least of a hole of a node's operator. -/
def holeN (ns : List OpR) (o : NodeR) (b : Bool) : Int := match fnd ns o.t (o.k - 2) with
  | some j => holeO ns j b
  | none => 0

/-- A group around what stands in a row of s nodes behind, where it is wanted. -/
def clos (ns : List OpR) (o : NodeR) (least : Int) (s : Nat) (u : List NodeR) : List NodeR :=
  if levN ns o < least then u ++ [⟨6, ByteArray.empty, ((s + u.length : Nat) : Int) - 1, 0⟩] else u

/-- The stretch of node i anew, behind s nodes, in a hole with that least. -/
def gr (ns : List OpR) (xs : List NodeR) : Nat → Nat → Int → Nat → List NodeR
  | 0, _, _, _ => []
  | n + 1, i, least, s =>
    if (atN xs i).k = 6 then gr ns xs n (i - 1) least s
    else if kids (atN xs i).k = 0 then clos ns (atN xs i) least s [⟨(atN xs i).k, (atN xs i).t, 0, 0⟩]
    else if kids (atN xs i).k = 1 then
      clos ns (atN xs i) least s (gr ns xs n (i - 1) (holeN ns (atN xs i) false) s ++ [⟨(atN xs i).k, (atN xs i).t, ((s + (gr ns xs n (i - 1) (holeN ns (atN xs i) false) s).length : Nat) : Int) - 1, 0⟩])
    else
      clos ns (atN xs i) least s ((gr ns xs n (atN xs i).a.toNat (holeN ns (atN xs i) false) s ++ gr ns xs n (i - 1) (holeN ns (atN xs i) true) (s + (gr ns xs n (atN xs i).a.toNat (holeN ns (atN xs i) false) s).length)) ++
        [⟨(atN xs i).k, (atN xs i).t, ((s + (gr ns xs n (atN xs i).a.toNat (holeN ns (atN xs i) false) s).length : Nat) : Int) - 1, ((s + (gr ns xs n (atN xs i).a.toNat (holeN ns (atN xs i) false) s).length + (gr ns xs n (i - 1) (holeN ns (atN xs i) true) (s + (gr ns xs n (atN xs i).a.toNat (holeN ns (atN xs i) false) s).length)).length : Nat) : Int) - 1⟩])

theorem kids_six : kids 6 = 1 := rfl

theorem gr_fuel (ns : List OpR) (xs : List NodeR) : ∀ n m i f, i < n → i < m → frS xs i = some f → ∀ l s, gr ns xs n i l s = gr ns xs m i l s
  | 0, _, _, _, h, _, _ => absurd h (Nat.not_lt_zero _)
  | _ + 1, 0, _, _, _, h, _ => absurd h (Nat.not_lt_zero _)
  | n + 1, m + 1, i, f, h, h', hf => by
    intro l s
    rcases frS_some hf with ⟨hk, ha, hb, hfi⟩ | ⟨hk, h1i, ha, hbb, hf1⟩ | ⟨hk, h1i, hbb, f2, hf2, h2f, ha, hf1⟩
    · have h6 : (atN xs i).k ≠ 6 := fun e => by rw [e] at hk; simp [kids] at hk
      simp only [gr, if_neg h6, hk, if_true]
    · have e := gr_fuel ns xs n m (i - 1) f (by omega) (by omega) hf1
      simp only [gr, e]
      by_cases h6 : (atN xs i).k = 6
      · rw [if_pos h6, if_pos h6]
      · simp only [if_neg h6, hk, if_true, Nat.one_ne_zero, if_false]
    · have h6 : (atN xs i).k ≠ 6 := fun e => by rw [e] at hk; simp [kids] at hk
      have hle := frS_le hf2
      have e1 := gr_fuel ns xs n m (i - 1) f2 (by omega) (by omega) hf2
      have e2 := gr_fuel ns xs n m (f2 - 1) f (by omega) (by omega) hf1
      have ea : (atN xs i).a.toNat = f2 - 1 := by omega
      simp only [gr, if_neg h6, ea, e1, e2]

def gS (ns : List OpR) (xs : List NodeR) (i : Nat) (l : Int) (s : Nat) : List NodeR := gr ns xs (i + 1) i l s

theorem gS_zero {ns : List OpR} {xs : List NodeR} {i : Nat} (hk : kids (atN xs i).k = 0) (l : Int) (s : Nat) : gS ns xs i l s = clos ns (atN xs i) l s [⟨(atN xs i).k, (atN xs i).t, 0, 0⟩] := by
  have h6 : (atN xs i).k ≠ 6 := fun e => by rw [e] at hk; simp [kids] at hk
  simp only [gS, gr, if_neg h6, hk, if_true]

theorem gS_group {ns : List OpR} {xs : List NodeR} {i f : Nat} (hk : (atN xs i).k = 6) (h1 : 1 ≤ i) (hf : frS xs (i - 1) = some f) (l : Int) (s : Nat) : gS ns xs i l s = gS ns xs (i - 1) l s := by
  have e : gS ns xs i l s = gr ns xs i (i - 1) l s := by simp only [gS, gr, if_pos hk]
  rw [e]
  exact gr_fuel ns xs _ _ _ f (by omega) (by omega) hf l s

theorem gS_one {ns : List OpR} {xs : List NodeR} {i f : Nat} (hk : kids (atN xs i).k = 1) (h6 : (atN xs i).k ≠ 6) (h1 : 1 ≤ i) (hf : frS xs (i - 1) = some f) (l : Int) (s : Nat) {u : List NodeR} (hu : u = gS ns xs (i - 1) (holeN ns (atN xs i) false) s) :
    gS ns xs i l s = clos ns (atN xs i) l s (u ++ [⟨(atN xs i).k, (atN xs i).t, ((s + u.length : Nat) : Int) - 1, 0⟩]) := by
  have e := gr_fuel ns xs i (i - 1 + 1) (i - 1) f (by omega) (by omega) hf
  subst hu
  unfold gS
  conv => lhs; unfold gr
  simp only [if_neg h6, hk, if_true, Nat.one_ne_zero, if_false, e]

theorem gS_two {ns : List OpR} {xs : List NodeR} {i f f2 : Nat} (hk : kids (atN xs i).k = 2) (h1 : 1 ≤ i) (hf2 : frS xs (i - 1) = some f2) (h2 : 1 ≤ f2) (ha : (atN xs i).a = (f2 : Int) - 1) (hf : frS xs (f2 - 1) = some f) (l : Int) (s : Nat) {u1 u2 : List NodeR}
    (hu1 : u1 = gS ns xs (f2 - 1) (holeN ns (atN xs i) false) s) (hu2 : u2 = gS ns xs (i - 1) (holeN ns (atN xs i) true) (s + u1.length)) :
    gS ns xs i l s = clos ns (atN xs i) l s ((u1 ++ u2) ++ [⟨(atN xs i).k, (atN xs i).t, ((s + u1.length : Nat) : Int) - 1, ((s + u1.length + u2.length : Nat) : Int) - 1⟩]) := by
  have h6 : (atN xs i).k ≠ 6 := fun e => by rw [e] at hk; simp [kids] at hk
  have hle := frS_le hf2
  have e1 := gr_fuel ns xs i (i - 1 + 1) (i - 1) f2 (by omega) (by omega) hf2
  have e2 := gr_fuel ns xs i (f2 - 1 + 1) (f2 - 1) f (by omega) (by omega) hf
  have ea : (atN xs i).a.toNat = f2 - 1 := by omega
  subst hu2
  subst hu1
  unfold gS
  conv => lhs; unfold gr
  simp only [if_neg h6, ea, e1, e2, hk]
  rfl

theorem clos_len (ns : List OpR) (o : NodeR) (l : Int) (s : Nat) (u : List NodeR) : u.length ≤ (clos ns o l s u).length ∧ (clos ns o l s u).length ≤ u.length + 1 := by
  unfold clos
  split <;> simp

/-- A stretch anew has at most twice its nodes, and one at least. -/
theorem gS_len (ns : List OpR) (xs : List NodeR) : ∀ n i f, i < n → frS xs i = some f → ∀ l s, 1 ≤ (gS ns xs i l s).length ∧ (gS ns xs i l s).length ≤ 2 * (i + 1 - f)
  | 0, _, _, h, _ => absurd h (Nat.not_lt_zero _)
  | n + 1, i, f, h, hf => by
    intro l s
    rcases frS_some hf with ⟨hk, ha, hb, hfi⟩ | ⟨hk, h1i, ha, hbb, hf1⟩ | ⟨hk, h1i, hbb, f2, hf2, h2f, ha, hf1⟩
    · rw [gS_zero hk]
      have := clos_len ns (atN xs i) l s [⟨(atN xs i).k, (atN xs i).t, 0, 0⟩]
      simp only [List.length_cons, List.length_nil] at this
      omega
    · have hle := frS_le hf1
      by_cases h6 : (atN xs i).k = 6
      · rw [gS_group h6 h1i hf1]
        have := gS_len ns xs n (i - 1) f (by omega) hf1 l s
        omega
      · rw [gS_one hk h6 h1i hf1 l s rfl]
        have h1 := gS_len ns xs n (i - 1) f (by omega) hf1 (holeN ns (atN xs i) false) s
        have h2 := clos_len ns (atN xs i) l s (gS ns xs (i - 1) (holeN ns (atN xs i) false) s ++ [⟨(atN xs i).k, (atN xs i).t, ((s + (gS ns xs (i - 1) (holeN ns (atN xs i) false) s).length : Nat) : Int) - 1, 0⟩])
        simp only [List.length_append, List.length_cons, List.length_nil] at h2
        omega
    · have hle := frS_le hf2
      have hle1 := frS_le hf1
      obtain ⟨u1, hu1⟩ : ∃ u1, u1 = gS ns xs (f2 - 1) (holeN ns (atN xs i) false) s := ⟨_, rfl⟩
      obtain ⟨u2, hu2⟩ : ∃ u2, u2 = gS ns xs (i - 1) (holeN ns (atN xs i) true) (s + u1.length) := ⟨_, rfl⟩
      rw [gS_two hk h1i hf2 h2f ha hf1 l s hu1 hu2]
      have h1 := gS_len ns xs n (f2 - 1) f (by omega) hf1 (holeN ns (atN xs i) false) s
      have h2 := gS_len ns xs n (i - 1) f2 (by omega) hf2 (holeN ns (atN xs i) true) (s + u1.length)
      rw [← hu1] at h1
      rw [← hu2] at h2
      have h3 := clos_len ns (atN xs i) l s ((u1 ++ u2) ++ [⟨(atN xs i).k, (atN xs i).t, ((s + u1.length : Nat) : Int) - 1, ((s + u1.length + u2.length : Nat) : Int) - 1⟩])
      simp only [List.length_append, List.length_cons, List.length_nil] at h3
      omega

/-- How many nodes the stretch anew has does not hang on what lies before it. -/
theorem gS_len_any (ns : List OpR) (xs : List NodeR) : ∀ n i f, i < n → frS xs i = some f → ∀ l s s', (gS ns xs i l s).length = (gS ns xs i l s').length
  | 0, _, _, h, _ => absurd h (Nat.not_lt_zero _)
  | n + 1, i, f, h, hf => by
    intro l s s'
    have cl : ∀ u u' : List NodeR, u.length = u'.length → (clos ns (atN xs i) l s u).length = (clos ns (atN xs i) l s' u').length := by
      intro u u' hu
      unfold clos
      split <;> simp [hu]
    rcases frS_some hf with ⟨hk, ha, hb, hfi⟩ | ⟨hk, h1i, ha, hbb, hf1⟩ | ⟨hk, h1i, hbb, f2, hf2, h2f, ha, hf1⟩
    · rw [gS_zero hk, gS_zero hk]
      exact cl _ _ rfl
    · by_cases h6 : (atN xs i).k = 6
      · rw [gS_group h6 h1i hf1, gS_group h6 h1i hf1]
        exact gS_len_any ns xs n (i - 1) f (by omega) hf1 l s s'
      · rw [gS_one hk h6 h1i hf1 l s rfl, gS_one hk h6 h1i hf1 l s' rfl]
        apply cl
        simp [gS_len_any ns xs n (i - 1) f (by omega) hf1 (holeN ns (atN xs i) false) s s']
    · have hle := frS_le hf2
      rw [gS_two hk h1i hf2 h2f ha hf1 l s rfl rfl, gS_two hk h1i hf2 h2f ha hf1 l s' rfl rfl]
      apply cl
      have e1 := gS_len_any ns xs n (f2 - 1) f (by omega) hf1 (holeN ns (atN xs i) false) s s'
      have e2 := gS_len_any ns xs n (i - 1) f2 (by omega) hf2 (holeN ns (atN xs i) true) (s + (gS ns xs (f2 - 1) (holeN ns (atN xs i) false) s).length) (s' + (gS ns xs (f2 - 1) (holeN ns (atN xs i) false) s').length)
      simp only [List.length_append, List.length_cons, List.length_nil]
      rw [e2, e1]

/-- What Group answers. -/
def GroupIs (ns : List OpR) (xs us : List NodeR) (v : Bool) : Prop :=
  (((IsCode ns 0 ∧ InOrd xs ∧ Knows ns xs) ∧ (gS ns xs (xs.length - 1) 0 0).length ≤ 20000) ∧ v = true ∧ us = gS ns xs (xs.length - 1) 0 0) ∨
  (¬ ((IsCode ns 0 ∧ InOrd xs ∧ Knows ns xs) ∧ (gS ns xs (xs.length - 1) 0 0).length ≤ 20000) ∧ v = false ∧ us = [])

theorem GroupIs.one {ns : List OpR} {xs us us' : List NodeR} {v v' : Bool} (h : GroupIs ns xs us v) (h' : GroupIs ns xs us' v') : us = us' ∧ v = v' := by
  rcases h with ⟨a, rfl, rfl⟩ | ⟨a, rfl, rfl⟩
  · rcases h' with ⟨_, rfl, rfl⟩ | ⟨a', _⟩
    · exact ⟨rfl, rfl⟩
    · exact absurd a a'
  · rcases h' with ⟨a', _⟩ | ⟨_, rfl, rfl⟩
    · exact absurd a' a
    · exact ⟨rfl, rfl⟩

theorem GroupIs.len {ns : List OpR} {xs us : List NodeR} {v : Bool} (h : GroupIs ns xs us v) : us.length ≤ 20000 := by
  rcases h with ⟨a, _, rfl⟩ | ⟨_, _, rfl⟩
  · exact a.2
  · simp
end Go.Proofs.YtokabkhnidlcnabGreat
