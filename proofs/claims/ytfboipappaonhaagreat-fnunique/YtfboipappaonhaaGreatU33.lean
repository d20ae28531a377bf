import Derived.Maps.OwnSet
import Derived.Maps.Views
import Derived.Test.YtfboipappaonhaaGreatU02
import Derived.Test.YtfboipappaonhaaGreatU22
import Derived.Test.YtfboipappaonhaaGreatU28
import Derived.Test.YtfboipappaonhaaGreatU29

/-
  Maps from strings whose elements are remembered as they are.
-/
namespace Go.Proofs.YtfboipappaonhaaGreat
set_option maxRecDepth 100000
set_option linter.unusedSimpArgs false
set_option linter.unusedVariables false
open Go.RowKit Go.Maps

/-- A reader of elements that remembers them. -/
def anyElem (v : Value) : Option (DataW Value × List MemPlace) := some (.held v, [])

/-- The key of a text. -/
def klS (t : ByteArray) : Lit := .string t.data.toList

theorem klS_inj {s t : ByteArray} (h : klS s = klS t) : s = t := by
  unfold klS at h
  injection h with h
  cases s; cases t
  simp at h
  rw [h]

theorem keyS {t : ByteArray} (h : t.size ≤ maxLen) : keyOf Tryz.prog 9 (.string t) = some (klS t) := WideMaps.keyOf_string_mk Tryz.underlying9 h

/-- Block b is a map of strings to what G says. -/
def SMap (w : World) (b n : Nat) (G : ByteArray → Option Value) : Prop :=
  ∃ D : DataW Value, w.ownsMap Tryz.prog 9 anyElem b n D ∧ ∀ t, t.size ≤ maxLen → Maps.has D (klS t) = (G t).isSome ∧ (∀ v, G t = some v → ∀ z, D.atKey (klS t) z = .held v) ∧ (G t = none → ∀ z, D.atKey (klS t) z = z)

theorem SMap.lt {w : World} {b n : Nat} {G : ByteArray → Option Value} (h : SMap w b n G) : b < w.heap.size := by
  obtain ⟨D, hD, _⟩ := h
  exact hD.lt

theorem SMap.kept {w w' : World} {b n : Nat} {G : ByteArray → Option Value} {row : Option Nat} (h : SMap w b n G) (hg : w.grownBy w' row) (hne : some b ≠ row) : SMap w' b n G := by
  obtain ⟨D, hD, h⟩ := h
  exact ⟨D, hD.kept hg hne, h⟩

theorem SMap.made (w : World) : SMap (w.alloc (.map #[] 0)) w.heap.size 0 (fun _ => none) :=
  ⟨.map [], World.ownsMap_made w Tryz.prog 9 anyElem, fun t _ => ⟨rfl, fun v h => (by cases h), fun _ z => rfl⟩⟩

/-- 'v, ok := m[t]'. -/
theorem SMap.look {w : World} {b n : Nat} {G : ByteArray → Option Value} {ty e : TypeId} (h : SMap w b n G) (ht : Tryz.prog.underlying ty = some (.map 9 e)) {z : Value} (hz : (zeroValue e).run Tryz.prog w = .ok z w) {t : ByteArray} (hs : t.size ≤ maxLen) :
    (Instr.lookup ty (.map (some b)) (.string t) true).run Tryz.prog w = .ok (.tuple #[(G t).getD z, .bool (G t).isSome]) w := by
  obtain ⟨D, hD, h⟩ := h
  obtain ⟨v, ps, hrun, hv⟩ := hD.look_ok (string_keyed Tryz.underlying9) ht hz (zd := .held z) (zp := []) rfl (keyS hs)
  rw [(h t hs).1] at hrun
  have e : v = (G t).getD z := by
    cases hg : G t with
    | none =>
      rw [(h t hs).2.2 hg] at hv
      simp only [anyElem, Option.some.injEq, Prod.mk.injEq, DataW.held.injEq] at hv
      exact hv.1
    | some u =>
      rw [(h t hs).2.1 u hg] at hv
      simp only [anyElem, Option.some.injEq, Prod.mk.injEq, DataW.held.injEq] at hv
      exact hv.1
  rw [← e]
  exact hrun

/-- 'm[t] = v'. -/
theorem SMap.put {G : ByteArray → Option Value} {D : DataW Value} (hm : IsMap D) (h : ∀ t, t.size ≤ maxLen → Maps.has D (klS t) = (G t).isSome ∧ (∀ v, G t = some v → ∀ z, D.atKey (klS t) z = .held v) ∧ (G t = none → ∀ z, D.atKey (klS t) z = z)) {t : ByteArray} (hs : t.size ≤ maxLen) (v : Value) :
    ∀ t', t'.size ≤ maxLen → Maps.has (D.put (klS t) (.held v)) (klS t') = (if t'.data = t.data then some v else G t').isSome ∧ (∀ u, (if t'.data = t.data then some v else G t') = some u → ∀ z, (D.put (klS t) (.held v)).atKey (klS t') z = .held u) ∧ ((if t'.data = t.data then some v else G t') = none → ∀ z, (D.put (klS t) (.held v)).atKey (klS t') z = z) := by
  intro t' hs'
  by_cases e : t'.data = t.data
  · have e' : t' = t := by cases t; cases t'; simp at e; rw [e]
    subst e'
    have hk := (string_keyed Tryz.underlying9).key (keyS hs')
    rw [if_pos rfl, has_put_same hm hk]
    refine ⟨rfl, fun u hu z => ?_, fun hu => by cases hu⟩
    injection hu with hu
    rw [atKey_put_same hm hk, hu]
  · have hne : klS t' ≠ klS t := fun x => e (by rw [klS_inj x])
    rw [if_neg e, has_put_other hne]
    refine ⟨(h t' hs').1, fun u hu z => ?_, fun hu z => ?_⟩
    · rw [atKey_put_other hne]
      exact (h t' hs').2.1 u hu z
    · rw [atKey_put_other hne]
      exact (h t' hs').2.2 hu z

theorem SMap.update {w : World} {b n : Nat} {G : ByteArray → Option Value} {ty e : TypeId} (h : SMap w b n G) (ht : Tryz.prog.underlying ty = some (.map 9 e)) (hn : n < maxLen) {t : ByteArray} (hs : t.size ≤ maxLen) (v : Value) :
    ∃ w', (Instr.mapUpdate ty (.map (some b)) (.string t) v).run Tryz.prog w = .ok () w' ∧ SMap w' b (n + 1) (fun t' => if t'.data = t.data then some v else G t') ∧ Kept1 w w' b := by
  obtain ⟨D, hD, h⟩ := h
  obtain ⟨w', hrun, h1, h2⟩ := hD.update (string_keyed Tryz.underlying9) ht hn (keyS hs) (val := v) (d := .held v) (ps := []) rfl
  exact ⟨w', hrun, ⟨_, h1, SMap.put hD.isMap h hs v⟩, ⟨h2.os, h2.tape, h2.output, h2.size, fun i hi hne => h2.block i hi (fun x => hne (by injection x))⟩⟩
end Go.Proofs.YtfboipappaonhaaGreat

/-
  Walks: the parser's state; takeBehind.
-/
namespace Go.Proofs.YtfboipappaonhaaGreat
set_option maxRecDepth 100000
set_option linter.unusedSimpArgs false
set_option linter.unusedVariables false
open Go.RowKit Go.Maps

/-- The parser at block p stands at token i. -/
def PrsAt (w : World) (p : Nat) (g o n c : Nat) (i : Nat) (bf bb : Nat) : Prop :=
  w.cell? ⟨p, 0, none⟩ = some (.slice (some ⟨g, o, none⟩) n c) ∧ w.cell? ⟨p, 1, none⟩ = some (.int .i64 (i : Int)) ∧ w.cell? ⟨p, 2, none⟩ = some (.map (some bf)) ∧ w.cell? ⟨p, 3, none⟩ = some (.map (some bb)) ∧ w.frozen? ⟨p, 1, none⟩ = false

theorem PrsAt.below {w w' : World} {p g o n c i bf bb : Nat} (h : PrsAt w p g o n c i bf bb) (hb : Below w.heap.size w w') : PrsAt w' p g o n c i bf bb :=
  have hlt := block_lt_of_cell h.1
  ⟨(hb.cell (p := ⟨p, 0, none⟩) hlt).trans h.1, (hb.cell (p := ⟨p, 1, none⟩) hlt).trans h.2.1, (hb.cell (p := ⟨p, 2, none⟩) hlt).trans h.2.2.1, (hb.cell (p := ⟨p, 3, none⟩) hlt).trans h.2.2.2.1, (hb.frozen (p := ⟨p, 1, none⟩) hlt).trans h.2.2.2.2⟩

theorem PrsAt.set {w : World} {p g o n c i bf bb : Nat} (h : PrsAt w p g o n c i bf bb) (j : Nat) : PrsAt (w.setCell ⟨p, 1, none⟩ (.int .i64 (j : Int))) p g o n c j bf bb :=
  ⟨(World.cell?_setCell_other _ _ _ _ (by simp)).trans h.1, World.cell?_setCell_same _ _ _ h.2.1, (World.cell?_setCell_other _ _ _ _ (by simp)).trans h.2.2.1, (World.cell?_setCell_other _ _ _ _ (by simp)).trans h.2.2.2.1, (World.frozen?_setCell _ _ _ _).trans h.2.2.2.2⟩

theorem Kept1.setP {w : World} {p : Nat} (v : Value) : Kept1 w (w.setCell ⟨p, 1, none⟩ v) p := ⟨rfl, rfl, rfl, by simp [World.setCell], fun _ _ hi => Below.heap_setCell _ _ _ _ hi⟩

/-- There is no tree. -/
def noTree : Ending := .panicked [{ v := .iface 146 (.agg #[.int .i64 5, .int .i64 0]), recovered := false }]

/-- What takeBehind does. -/
def TakePost (w : World) (l hole : Int) (p g o n c i bf bb : Nat) (x : Ending) (w' : World) : Prop :=
  Hid (Kept1 w w' p) ∧ ((l < hole ∧ x = noTree) ∨ (hole ≤ l ∧ x = .returned (.tuple #[]) ∧ Hid (PrsAt w' p g o n c (i + 1) bf bb)))

set_option maxHeartbeats 1000000 in
theorem take_any {e : Value} {l : Int} (h : LevIs e l) (p g o n c i bf bb : Nat) (hole : Int) (w : World) (hp : PrsAt w p g o n c i bf bb) (hi : i ≤ 100000) :
    Calls Tryz.prog 134 #[.pointer (some ⟨p, 0, none⟩), e, .int .i64 hole] w (TakePost w l hole p g o n c i bf bb) := by
  obtain ⟨T, v, f, r, rfl, hme, hcf, hcall⟩ := h
  have HC := hide hcall
  have HP := hide hp
  clear hcall hp
  go_enter Tryz.func134, Tryz.ntmps134
  go_wp2_with fail
  refine ((unhide HC) _).mono ?_
  rintro x w1 ⟨rfl, hb1⟩
  replace HP := hide ((unhide HP).below hb1)
  have HK := hide (Kept1.of_below (g := p) hb1)
  clear hb1
  by_cases hl : l < hole
  · have HL := hide hl
    go_wp2_with fail
    exact ⟨rfl, HK, Or.inl ⟨unhide HL, rfl⟩⟩
  · have hl' : hole ≤ l := by omega
    have HL := hide hl'
    have c1 := (unhide HP).2.1
    have c4 := (unhide HP).2.2.2.2
    have e1 : ((i + 1 : Nat) : Int) = (i : Int) + 1 := by omega
    have HP2 := hide ((unhide HP).set (i + 1))
    rw [e1] at HP2
    have HK2 := hide ((unhide HK).trans (Kept1.setP (p := p) (.int .i64 ((i : Int) + 1))))
    clear HP HK
    go_wp2_with fail
    go_end0
    exact ⟨HK2, Or.inr ⟨unhide HL, rfl, HP2⟩⟩
end Go.Proofs.YtfboipappaonhaaGreat

/-
  What the reader does first, and what it does next; where it stands.
-/
namespace Go.Proofs.YtfboipappaonhaaGreat
set_option maxRecDepth 100000
set_option linter.unusedSimpArgs false
set_option linter.unusedVariables false
open Go.RowKit

/-- The first operand. -/
def fstS (ns : List OpR) (least : Int) (s : SyR) (r : List SyR) : Option (ET × List SyR) :=
  if s.1 = 3 then (if sLv ns s < least then none else (match RD ns (sH ns s false) none r with
    | none => none
    | some x => some (.node 3 0 s.2 x.1 .nil, x.2)))
  else if s.1 = 6 then (match RD ns 0 none r with
    | none => none
    | some x => some (.node 6 0 ByteArray.empty x.1 .nil, x.2.tail))
  else some (.node s.1 0 s.2 .nil .nil, r)

theorem RD_fst (ns : List OpR) (least : Int) (s : SyR) (r : List SyR) : RD ns least none (s :: r) = (match fstS ns least s r with
    | none => none
    | some x => RD ns least (some x.1) x.2) := by
  rw [RD_none]
  unfold fstS
  by_cases h3 : s.1 = 3
  · rw [if_pos h3, if_pos h3]
    by_cases hl : sLv ns s < least
    · rw [if_pos hl, if_pos hl]
    · rw [if_neg hl, if_neg hl]
      cases RD ns (sH ns s false) none r with
      | none => rfl
      | some x => rfl
  · rw [if_neg h3, if_neg h3]
    by_cases h6 : s.1 = 6
    · rw [if_pos h6, if_pos h6]
      cases RD ns 0 none r with
      | none => rfl
      | some x => rfl
    · rw [if_neg h6, if_neg h6]

theorem holes_le {ns : List OpR} (hv : IsCode ns 0) {s : SyR} (hs : s.1 = 3 ∨ s.1 = 4 ∨ s.1 = 5) (hk : knB ns s = true) : sH ns s false ≤ 1001 ∧ (s.1 = 4 → sH ns s true ≤ 1001) := by
  have f := opF hv hs hk
  have fh := f.hi
  rcases hs with h | h | h
  · have := (f.pre h).1
    exact ⟨by omega, fun x => by omega⟩
  · rcases f.mid h with ⟨_, a, c⟩ | ⟨_, a, c⟩ | ⟨_, a, c⟩ <;> exact ⟨by omega, fun _ => by omega⟩
  · have := (f.post h).1
    exact ⟨by omega, fun x => by omega⟩

/-- Behind what stands in brackets the bracket closes. -/
theorem grp_sound {ns : List OpR} (hv : IsCode ns 0) {r : List SyR} {d : Nat} {y : ET × List SyR} (hf : FitE ns (false, d + 1) r) (hy : RD ns 0 none r = some y) :
    ∃ q, y.2 = (7, cls1) :: q ∧ FitE ns (true, d) q ∧ GoodT ns y.1 ∧ r = ySy y.1 ++ (7, cls1) :: q := by
  obtain ⟨a1, a2, a3, a4, a5⟩ := rd_sound hv _ 0 none r (d + 1) y (by omega) hf (fun L e => by cases e) hy
  obtain ⟨T, q⟩ := y
  simp only [yM, List.nil_append] at a1 a2 a3 a4 a5
  cases q with
  | nil => exact (fitE_nil a1).elim
  | cons z q =>
    have hz : z = (7, cls1) ∧ FitE ns (true, d) q := by
      rcases fitE_true a1 with ⟨_, _, h0⟩ | ⟨h4, hkk, _⟩ | ⟨h5, hkk, _⟩ | ⟨h7, _, h8⟩
      · omega
      · have := a4 z q rfl (Or.inl h4)
        have := (opF hv (s := z) (Or.inr (Or.inl h4)) hkk).lo
        omega
      · have := a4 z q rfl (Or.inr h5)
        have := (opF hv (s := z) (Or.inr (Or.inr h5)) hkk).lo
        omega
      · exact ⟨h7, h8⟩
    obtain ⟨rfl, hq⟩ := hz
    exact ⟨q, rfl, hq, a2, a5⟩

theorem fst_sound {ns : List OpR} (hv : IsCode ns 0) {least : Int} {s : SyR} {r : List SyR} {d : Nat} {x : ET × List SyR} (hl : least ≤ 1001) (hf : FitE ns (false, d) (s :: r)) (h : fstS ns least s r = some x) :
    FitE ns (true, d) x.2 ∧ GoodT ns x.1 ∧ least ≤ lvT ns x.1 ∧ s :: r = ySy x.1 ++ x.2 := by
  unfold fstS at h
  rcases fitE_false hf with ⟨hs, hf'⟩ | ⟨hs, hk, hf'⟩ | ⟨rfl, hf'⟩
  · rw [if_neg (by omega), if_neg (by omega)] at h
    injection h with h
    subst h
    have hlv : lvT ns (.node s.1 0 s.2 .nil .nil) = 1001 := lv_closed ns _ _ (by omega)
    refine ⟨hf', ⟨rfl, Or.inl ⟨hs, rfl, rfl⟩⟩, by rw [hlv]; exact hl, ?_⟩
    rw [ySy_leaf hs]
    rfl
  · rw [if_pos hs] at h
    by_cases hlt : sLv ns s < least
    · rw [if_pos hlt] at h; cases h
    · rw [if_neg hlt] at h
      cases hy : RD ns (sH ns s false) none r with
      | none => rw [hy] at h; cases h
      | some y =>
        rw [hy] at h
        injection h with h
        subst h
        obtain ⟨a1, a2, a3, _, a5⟩ := rd_sound hv _ _ none r d y (holes_le hv (Or.inl hs) hk).1 hf' (fun L e => by cases e) hy
        obtain ⟨s1, s2⟩ := s
        simp only at hs
        subst hs
        refine ⟨a1, ⟨rfl, Or.inr (Or.inr (Or.inl ⟨Or.inl rfl, hk, a2, rfl, a3⟩))⟩, by simp only [lvT]; omega, ?_⟩
        rw [ySy_pre]
        simp only [yM, List.nil_append] at a5
        rw [a5]
        rfl
  · rw [if_neg (by decide), if_pos rfl] at h
    cases hy : RD ns 0 none r with
    | none => rw [hy] at h; cases h
    | some y =>
      rw [hy] at h
      injection h with h
      subst h
      obtain ⟨q, e1, e2, e3, e4⟩ := grp_sound hv hf' hy
      have hlv : lvT ns (.node 6 0 ByteArray.empty y.1 .nil) = 1001 := lv_closed ns _ _ (by omega)
      rw [e1]
      refine ⟨e2, ⟨rfl, Or.inr (Or.inl ⟨rfl, rfl, e3, rfl⟩)⟩, by rw [hlv]; exact hl, ?_⟩
      rw [ySy_grp, e4]
      simp

/-- Where the reader stands. -/
theorem sgs_suffix {ns : List OpR} {ts : List TokR} {i m : Nat} {a r : List SyR} (h : sgs ns ts i m = a ++ r) : r = sgs ns ts (i + m - r.length) r.length ∧ r.length ≤ m := by
  have hl := congrArg List.length h
  rw [sgs_len, List.length_append] at hl
  have e : m = a.length + r.length := hl
  rw [e, sgs_add] at h
  have h2 := List.append_inj' h (by rw [sgs_len])
  refine ⟨?_, by omega⟩
  have e3 : i + m - r.length = i + a.length := by omega
  rw [e3]
  exact h2.2.symm

theorem fitE_bh {ns : List OpR} {a b : Bool} {d d' : Nat} {ss : List SyR} (h : FitE ns (a, d) ss) (h' : FitE ns (b, d') ss) : a = b := by
  cases ss with
  | nil => exact (fitE_nil h).elim
  | cons s r =>
    have key : ∀ {d d' : Nat}, FitE ns (false, d) (s :: r) → FitE ns (true, d') (s :: r) → False := by
      intro d d' h h'
      have h1 : s.1 = 1 ∨ s.1 = 2 ∨ s.1 = 3 ∨ s.1 = 6 := by
        rcases fitE_false h with ⟨hs, _⟩ | ⟨hs, _⟩ | ⟨hs, _⟩
        · omega
        · omega
        · rw [hs]; decide
      have h2 : s.1 = 4 ∨ s.1 = 5 ∨ s.1 = 7 ∨ s.1 = 8 := by
        rcases fitE_true h' with ⟨x, _⟩ | ⟨x, _⟩ | ⟨x, _⟩ | ⟨x, _⟩
        · rw [x]; decide
        · omega
        · omega
        · rw [x]; decide
      omega
    cases a <;> cases b
    · rfl
    · exact (key h h').elim
    · exact (key h' h).elim
    · rfl
end Go.Proofs.YtfboipappaonhaaGreat
