import Derived.Maps.OwnSet
import Derived.DeepKeys4
import Derived.Maps.Views
import Derived.Test.YtokabkhnidlcnabGreatDoorL10
import Derived.Test.YtokabkhnidlcnabGreatDoorL16

/-
  The index of a table: its two maps.
-/
namespace Go.Proofs.YtokabkhnidlcnabGreatDoor
set_option maxRecDepth 100000
open Go.RowKit Go.Maps

theorem laidOutT : laidOutB Tryz.prog = true := by kernel_rfl
theorem rowK : (131 : TypeId) < Tryz.prog.types.size := of_decide_eq_true (by kernel_rfl)
theorem wideK : (match Tryz.prog.underlying 131 with | some (.array _ _) | some (.struct _) => true | _ => false) = true := by kernel_rfl
theorem lawK : Keyed Tryz.prog 131 := Keyed.of_law (deep_law_laid laidOutT (m := 3) (by omega) rowK (by kernel_rfl) wideK)
theorem lawI : Keyed Tryz.prog 3 := int_keyed Tryz.underlying3
theorem keyTyK : Tryz.prog.keyType 131 = true := by kernel_rfl
theorem sizeTypes : Tryz.prog.types.size + 1 = (Tryz.prog.types.size - 1) + 1 + 1 := by
  have h : decide (1 ≤ Tryz.prog.types.size) = true := by kernel_rfl
  have := of_decide_eq_true h
  omega
theorem cellsK : Tryz.prog.cellsOf 131 = 2 := by kernel_rfl
theorem cells9 : Tryz.prog.cellsOf 9 = 1 := by kernel_rfl
theorem cells3 : Tryz.prog.cellsOf 3 = 1 := by kernel_rfl

/-- What a text and a kind read as, as a key. -/
def klO (s : ByteArray) (k : Int) : Lit := .string (keyBytes [.string s.data.toList, .int .i64 k])

theorem litsS {s : ByteArray} (hs : s.size ≤ maxLen) (d : Nat) : Tryz.prog.keyLits (d + 1) 9 [.string s] = some [.string s.data.toList] := by
  unfold Program.keyLits
  rw [Tryz.underlying9]
  exact if_pos hs

theorem litsI {k : Int} (hk : (Lit.int .i64 k).wf = true) (d : Nat) : Tryz.prog.keyLits (d + 1) 3 [.int .i64 k] = some [.int .i64 k] := by
  unfold Program.keyLits
  rw [Tryz.underlying3]
  exact if_pos ⟨rfl, hk⟩

theorem litsK {s : ByteArray} {k : Int} (hs : s.size ≤ maxLen) (hk : (Lit.int .i64 k).wf = true) (d : Nat) :
    Tryz.prog.keyLits (d + 1 + 1) 131 [.string s, .int .i64 k] = some [.string s.data.toList, .int .i64 k] := by
  conv => lhs; unfold Program.keyLits
  rw [Tryz.underlying131]
  simp [cellsK, cells9, cells3, litsS hs d, litsI hk d]

theorem keyK {s : ByteArray} {k : Int} (hs : s.size ≤ maxLen) (hk : (Lit.int .i64 k).wf = true) : keyOf Tryz.prog 131 (.agg #[.string s, .int .i64 k]) = some (klO s k) := by
  unfold keyOf
  rw [Tryz.underlying131]
  have hf : (Value.agg #[.string s, .int .i64 k]).formed Tryz.prog 131 = true := by simp [Value.formed, Tryz.underlying131, cellsK]
  have hl := litsK hs hk (Tryz.prog.types.size - 1)
  rw [← sizeTypes] at hl
  simp only [keyTyK, hf, Bool.and_self, if_true]
  show (Tryz.prog.keyLits (Tryz.prog.types.size + 1) 131 [.string s, .int .i64 k]).map _ = _
  rw [hl]
  rfl

theorem klO_inj {s t : ByteArray} {k k' : Int} (hs : s.size ≤ maxLen) (ht : t.size ≤ maxLen) (hk : (Lit.int .i64 k).wf = true) (hk' : (Lit.int .i64 k').wf = true) (h : klO s k = klO t k') : s = t ∧ k = k' := by
  have a := keyK hs hk
  have b := keyK ht hk'
  rw [← h] at b
  have := lawK.inj a b
  simpa using this

theorem keyI {l : Int} (h : (Lit.int .i64 l).wf = true) : keyOf Tryz.prog 3 (.int .i64 l) = some (.int .i64 l) := keyOf_int_mk Tryz.underlying3 h

/-- What is told of an operator in a map: all its fields. -/
def opDat (s : ByteArray) (k l sd : Int) : DataW Unit := .agg [.lit (.string s.data.toList), .lit (.int .i64 k), .lit (.int .i64 l), .lit (.int .i64 sd)]

/-- How an operator in a map reads. -/
def opElem (v : Value) : Option (DataW Unit × List MemPlace) :=
  match v with
  | .agg cs => match cs.toList with
    | [.string s, .int .i64 k, .int .i64 l, .int .i64 sd] => some (opDat s k l sd, [])
    | _ => none
  | _ => none

theorem opElem_mk (s : ByteArray) (k l sd : Int) : opElem (.agg #[.string s, .int .i64 k, .int .i64 l, .int .i64 sd]) = some (opDat s k l sd, []) := rfl

theorem opElem_inv {v : Value} {z : DataW Unit × List MemPlace} (h : opElem v = some z) : ∃ s k l sd, v = .agg #[.string s, .int .i64 k, .int .i64 l, .int .i64 sd] := by
  unfold opElem at h
  split at h
  · rename_i cs
    split at h
    · rename_i a b c d e
      obtain ⟨cs⟩ := cs
      simp only at e
      subst e
      exact ⟨_, _, _, _, rfl⟩
    · cases h
  · cases h

theorem opDat_inj {s s' : ByteArray} {k k' l l' sd sd' : Int} (h : opDat s k l sd = opDat s' k' l' sd') : s = s' ∧ k = k' ∧ l = l' ∧ sd = sd' := by
  unfold opDat at h
  simp only [DataW.agg.injEq, List.cons.injEq, DataW.lit.injEq, Lit.string.injEq, Lit.int.injEq, true_and, and_true] at h
  obtain ⟨h1, h2, h3, h4⟩ := h
  refine ⟨?_, h2, h3, h4⟩
  obtain ⟨⟨a⟩⟩ := s
  obtain ⟨⟨b⟩⟩ := s'
  simp only at h1
  rw [h1]

/-- What has been read is the operator that the data tell of. -/
theorem opElem_dat {v : Value} {s : ByteArray} {k l sd : Int} {ps : List MemPlace} (h : opElem v = some (opDat s k l sd, ps)) : v = .agg #[.string s, .int .i64 k, .int .i64 l, .int .i64 sd] := by
  obtain ⟨s', k', l', sd', rfl⟩ := opElem_inv h
  rw [opElem_mk] at h
  simp only [Option.some.injEq, Prod.mk.injEq] at h
  obtain ⟨rfl, rfl, rfl, rfl⟩ := opDat_inj h.1
  rfl

theorem zeroOp (w : World) : (zeroValue 70).run Tryz.prog w = .ok (.agg #[.string ⟨#[]⟩, .int .i64 0, .int .i64 0, .int .i64 0]) w := by kernel_rfl
theorem zeroInt (w : World) : (zeroValue 3).run Tryz.prog w = .ok (.int .i64 0) w := by kernel_rfl
end Go.Proofs.YtokabkhnidlcnabGreatDoor

/-
  Worlds in which one block alone has turned.
-/
namespace Go.Proofs.YtokabkhnidlcnabGreatDoor
set_option maxRecDepth 100000
open Go.RowKit


end Go.Proofs.YtokabkhnidlcnabGreatDoor

/-
  Maps from strings whose elements are remembered as they are.
-/
namespace Go.Proofs.YtokabkhnidlcnabGreatDoor
set_option maxRecDepth 100000
set_option linter.unusedSimpArgs false
set_option linter.unusedVariables false
open Go.RowKit Go.Maps

/-- A reader of elements that remembers them. -/
def anyElem (v : Value) : Option (DataW Value × List MemPlace) := some (.held v, [])

/-- The key of a text. -/
def klS (t : ByteArray) : Lit := .string t.data.toList

theorem klS_inj {s t : ByteArray} (h : klS s = klS t) : s = t := by
  unfold klS at h
  injection h with h
  cases s; cases t
  simp at h
  rw [h]

theorem keyS {t : ByteArray} (h : t.size ≤ maxLen) : keyOf Tryz.prog 9 (.string t) = some (klS t) := WideMaps.keyOf_string_mk Tryz.underlying9 h

/-- Block b is a map of strings to what G says. -/
def SMap (w : World) (b n : Nat) (G : ByteArray → Option Value) : Prop :=
  ∃ D : DataW Value, w.ownsMap Tryz.prog 9 anyElem b n D ∧ ∀ t, t.size ≤ maxLen → Maps.has D (klS t) = (G t).isSome ∧ (∀ v, G t = some v → ∀ z, D.atKey (klS t) z = .held v) ∧ (G t = none → ∀ z, D.atKey (klS t) z = z)

theorem SMap.lt {w : World} {b n : Nat} {G : ByteArray → Option Value} (h : SMap w b n G) : b < w.heap.size := by
  obtain ⟨D, hD, _⟩ := h
  exact hD.lt

theorem SMap.kept {w w' : World} {b n : Nat} {G : ByteArray → Option Value} {row : Option Nat} (h : SMap w b n G) (hg : w.grownBy w' row) (hne : some b ≠ row) : SMap w' b n G := by
  obtain ⟨D, hD, h⟩ := h
  exact ⟨D, hD.kept hg hne, h⟩

theorem SMap.made (w : World) : SMap (w.alloc (.map #[] 0)) w.heap.size 0 (fun _ => none) :=
  ⟨.map [], World.ownsMap_made w Tryz.prog 9 anyElem, fun t _ => ⟨rfl, fun v h => (by cases h), fun _ z => rfl⟩⟩

/-- 'v, ok := m[t]'. -/
theorem SMap.look {w : World} {b n : Nat} {G : ByteArray → Option Value} {ty e : TypeId} (h : SMap w b n G) (ht : Tryz.prog.underlying ty = some (.map 9 e)) {z : Value} (hz : (zeroValue e).run Tryz.prog w = .ok z w) {t : ByteArray} (hs : t.size ≤ maxLen) :
    (Instr.lookup ty (.map (some b)) (.string t) true).run Tryz.prog w = .ok (.tuple #[(G t).getD z, .bool (G t).isSome]) w := by
  obtain ⟨D, hD, h⟩ := h
  obtain ⟨v, ps, hrun, hv⟩ := hD.look_ok (string_keyed Tryz.underlying9) ht hz (zd := .held z) (zp := []) rfl (keyS hs)
  rw [(h t hs).1] at hrun
  have e : v = (G t).getD z := by
    cases hg : G t with
    | none =>
      rw [(h t hs).2.2 hg] at hv
      simp only [anyElem, Option.some.injEq, Prod.mk.injEq, DataW.held.injEq] at hv
      exact hv.1
    | some u =>
      rw [(h t hs).2.1 u hg] at hv
      simp only [anyElem, Option.some.injEq, Prod.mk.injEq, DataW.held.injEq] at hv
      exact hv.1
  rw [← e]
  exact hrun

/-- 'm[t] = v'. -/
theorem SMap.put {G : ByteArray → Option Value} {D : DataW Value} (hm : IsMap D) (h : ∀ t, t.size ≤ maxLen → Maps.has D (klS t) = (G t).isSome ∧ (∀ v, G t = some v → ∀ z, D.atKey (klS t) z = .held v) ∧ (G t = none → ∀ z, D.atKey (klS t) z = z)) {t : ByteArray} (hs : t.size ≤ maxLen) (v : Value) :
    ∀ t', t'.size ≤ maxLen → Maps.has (D.put (klS t) (.held v)) (klS t') = (if t'.data = t.data then some v else G t').isSome ∧ (∀ u, (if t'.data = t.data then some v else G t') = some u → ∀ z, (D.put (klS t) (.held v)).atKey (klS t') z = .held u) ∧ ((if t'.data = t.data then some v else G t') = none → ∀ z, (D.put (klS t) (.held v)).atKey (klS t') z = z) := by
  intro t' hs'
  by_cases e : t'.data = t.data
  · have e' : t' = t := by cases t; cases t'; simp at e; rw [e]
    subst e'
    have hk := (string_keyed Tryz.underlying9).key (keyS hs')
    rw [if_pos rfl, has_put_same hm hk]
    refine ⟨rfl, fun u hu z => ?_, fun hu => by cases hu⟩
    injection hu with hu
    rw [atKey_put_same hm hk, hu]
  · have hne : klS t' ≠ klS t := fun x => e (by rw [klS_inj x])
    rw [if_neg e, has_put_other hne]
    refine ⟨(h t' hs').1, fun u hu z => ?_, fun hu z => ?_⟩
    · rw [atKey_put_other hne]
      exact (h t' hs').2.1 u hu z
    · rw [atKey_put_other hne]
      exact (h t' hs').2.2 hu z

theorem SMap.update {w : World} {b n : Nat} {G : ByteArray → Option Value} {ty e : TypeId} (h : SMap w b n G) (ht : Tryz.prog.underlying ty = some (.map 9 e)) (hn : n < maxLen) {t : ByteArray} (hs : t.size ≤ maxLen) (v : Value) :
    ∃ w', (Instr.mapUpdate ty (.map (some b)) (.string t) v).run Tryz.prog w = .ok () w' ∧ SMap w' b (n + 1) (fun t' => if t'.data = t.data then some v else G t') ∧ Kept1 w w' b := by
  obtain ⟨D, hD, h⟩ := h
  obtain ⟨w', hrun, h1, h2⟩ := hD.update (string_keyed Tryz.underlying9) ht hn (keyS hs) (val := v) (d := .held v) (ps := []) rfl
  exact ⟨w', hrun, ⟨_, h1, SMap.put hD.isMap h hs v⟩, ⟨h2.os, h2.tape, h2.output, h2.size, fun i hi hne => h2.block i hi (fun x => hne (by injection x))⟩⟩
end Go.Proofs.YtokabkhnidlcnabGreatDoor
