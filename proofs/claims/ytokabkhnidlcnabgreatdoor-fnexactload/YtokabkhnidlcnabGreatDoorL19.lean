import Derived.BigQuiet
import Derived.Test.YtokabkhnidlcnabGreatDoorL03
import Derived.Test.YtokabkhnidlcnabGreatDoorL06
import Derived.Test.YtokabkhnidlcnabGreatDoorL09
import Derived.Test.YtokabkhnidlcnabGreatDoorL10
import Derived.Test.YtokabkhnidlcnabGreatDoorL18

/-
  Operators as keys of maps whose elements are remembered as they are.
-/
namespace Go.Proofs.YtokabkhnidlcnabGreatDoor
set_option maxRecDepth 100000
set_option linter.unusedSimpArgs false
set_option linter.unusedVariables false
open Go.RowKit Go.Maps

theorem rowQ : (70 : TypeId) < Tryz.prog.types.size := of_decide_eq_true (by kernel_rfl)
theorem wideQ : (match Tryz.prog.underlying 70 with | some (.array _ _) | some (.struct _) => true | _ => false) = true := by kernel_rfl
theorem lawQ : Keyed Tryz.prog 70 := Keyed.of_law (deep_law_laid laidOutT (m := 3) (by omega) rowQ (by kernel_rfl) wideQ)
theorem keyTyQ : Tryz.prog.keyType 70 = true := by kernel_rfl
theorem cellsQ : Tryz.prog.cellsOf 70 = 4 := by kernel_rfl
/-- An operator's fields fit their types. -/
def Fine (o : OpR) : Prop := o.s.size ≤ maxLen ∧ (Lit.int .i64 o.k).wf = true ∧ (Lit.int .i64 o.l).wf = true ∧ (Lit.int .i64 o.sd).wf = true

/-- What an operator reads as, as a key. -/
def klQ (o : OpR) : Lit := .string (keyBytes [.string o.s.data.toList, .int .i64 o.k, .int .i64 o.l, .int .i64 o.sd])

theorem litsQ {o : OpR} (h : Fine o) (d : Nat) :
    Tryz.prog.keyLits (d + 1 + 1) 70 [.string o.s, .int .i64 o.k, .int .i64 o.l, .int .i64 o.sd] = some [.string o.s.data.toList, .int .i64 o.k, .int .i64 o.l, .int .i64 o.sd] := by
  obtain ⟨h1, h2, h3, h4⟩ := h
  conv => lhs; unfold Program.keyLits
  rw [Tryz.underlying70]
  simp [cellsQ, cells9, cells3, litsS h1 d, litsI h2 d, litsI h3 d, litsI h4 d]

theorem keyQ {o : OpR} (h : Fine o) : keyOf Tryz.prog 70 (.agg #[.string o.s, .int .i64 o.k, .int .i64 o.l, .int .i64 o.sd]) = some (klQ o) := by
  unfold keyOf
  rw [Tryz.underlying70]
  have hf : (Value.agg #[.string o.s, .int .i64 o.k, .int .i64 o.l, .int .i64 o.sd]).formed Tryz.prog 70 = true := by simp [Value.formed, Tryz.underlying70, cellsQ]
  have hl := litsQ h (Tryz.prog.types.size - 1)
  rw [← sizeTypes] at hl
  simp only [keyTyQ, hf, Bool.and_self, if_true]
  show (Tryz.prog.keyLits (Tryz.prog.types.size + 1) 70 [.string o.s, .int .i64 o.k, .int .i64 o.l, .int .i64 o.sd]).map _ = _
  rw [hl]
  rfl

theorem klQ_inj {a b : OpR} (ha : Fine a) (hb : Fine b) (h : klQ a = klQ b) : a = b := by
  have p := keyQ ha
  have q := keyQ hb
  rw [← h] at q
  have := lawQ.inj p q
  obtain ⟨s, k, l, sd⟩ := a
  obtain ⟨s', k', l', sd'⟩ := b
  simp at this
  obtain ⟨rfl, rfl, rfl, rfl⟩ := this
  rfl

/-- Block b is a map of operators to what G says. -/
def OMap (w : World) (b n : Nat) (G : OpR → Option Value) : Prop :=
  ∃ D : DataW Value, w.ownsMap Tryz.prog 70 anyElem b n D ∧ ∀ t, Fine t → Maps.has D (klQ t) = (G t).isSome ∧ (∀ v, G t = some v → ∀ z, D.atKey (klQ t) z = .held v) ∧ (G t = none → ∀ z, D.atKey (klQ t) z = z)

theorem OMap.lt {w : World} {b n : Nat} {G : OpR → Option Value} (h : OMap w b n G) : b < w.heap.size := by
  obtain ⟨D, hD, _⟩ := h
  exact hD.lt

theorem OMap.kept {w w' : World} {b n : Nat} {G : OpR → Option Value} {row : Option Nat} (h : OMap w b n G) (hg : w.grownBy w' row) (hne : some b ≠ row) : OMap w' b n G := by
  obtain ⟨D, hD, h⟩ := h
  exact ⟨D, hD.kept hg hne, h⟩

theorem OMap.made (w : World) : OMap (w.alloc (.map #[] 0)) w.heap.size 0 (fun _ => none) :=
  ⟨.map [], World.ownsMap_made w Tryz.prog 70 anyElem, fun t _ => ⟨rfl, fun v h => (by cases h), fun _ z => rfl⟩⟩

/-- 'v, ok := m[t]'. -/
theorem OMap.look {w : World} {b n : Nat} {G : OpR → Option Value} {ty e : TypeId} (h : OMap w b n G) (ht : Tryz.prog.underlying ty = some (.map 70 e)) {z : Value} (hz : (zeroValue e).run Tryz.prog w = .ok z w) {t : OpR} (hs : Fine t) :
    (Instr.lookup ty (.map (some b)) (.agg #[.string t.s, .int .i64 t.k, .int .i64 t.l, .int .i64 t.sd]) true).run Tryz.prog w = .ok (.tuple #[(G t).getD z, .bool (G t).isSome]) w := by
  obtain ⟨D, hD, h⟩ := h
  obtain ⟨v, ps, hrun, hv⟩ := hD.look_ok lawQ ht hz (zd := .held z) (zp := []) rfl (keyQ hs)
  rw [(h t hs).1] at hrun
  have e : v = (G t).getD z := by
    cases hg : G t with
    | none =>
      rw [(h t hs).2.2 hg] at hv
      simp only [anyElem, Option.some.injEq, Prod.mk.injEq, DataW.held.injEq] at hv
      exact hv.1
    | some u =>
      rw [(h t hs).2.1 u hg] at hv
      simp only [anyElem, Option.some.injEq, Prod.mk.injEq, DataW.held.injEq] at hv
      exact hv.1
  rw [← e]
  exact hrun

/-- 'm[t] = v'. -/
theorem OMap.put {G : OpR → Option Value} {D : DataW Value} (hm : IsMap D) (h : ∀ t, Fine t → Maps.has D (klQ t) = (G t).isSome ∧ (∀ v, G t = some v → ∀ z, D.atKey (klQ t) z = .held v) ∧ (G t = none → ∀ z, D.atKey (klQ t) z = z)) {t : OpR} (hs : Fine t) (v : Value) :
    ∀ t', Fine t' → Maps.has (D.put (klQ t) (.held v)) (klQ t') = (if sameB t' t = true then some v else G t').isSome ∧ (∀ u, (if sameB t' t = true then some v else G t') = some u → ∀ z, (D.put (klQ t) (.held v)).atKey (klQ t') z = .held u) ∧ ((if sameB t' t = true then some v else G t') = none → ∀ z, (D.put (klQ t) (.held v)).atKey (klQ t') z = z) := by
  intro t' hs'
  by_cases e : sameB t' t = true
  · have e' : t' = t := sameB_iff.1 e
    subst e'
    have hk := lawQ.key (keyQ hs')
    rw [if_pos e, has_put_same hm hk]
    refine ⟨rfl, fun u hu z => ?_, fun hu => by cases hu⟩
    injection hu with hu
    rw [atKey_put_same hm hk, hu]
  · have hne : klQ t' ≠ klQ t := fun x => e (sameB_iff.2 (klQ_inj hs' hs x))
    rw [if_neg e, has_put_other hne]
    refine ⟨(h t' hs').1, fun u hu z => ?_, fun hu z => ?_⟩
    · rw [atKey_put_other hne]
      exact (h t' hs').2.1 u hu z
    · rw [atKey_put_other hne]
      exact (h t' hs').2.2 hu z

theorem OMap.update {w : World} {b n : Nat} {G : OpR → Option Value} {ty e : TypeId} (h : OMap w b n G) (ht : Tryz.prog.underlying ty = some (.map 70 e)) (hn : n < maxLen) {t : OpR} (hs : Fine t) (v : Value) :
    ∃ w', (Instr.mapUpdate ty (.map (some b)) (.agg #[.string t.s, .int .i64 t.k, .int .i64 t.l, .int .i64 t.sd]) v).run Tryz.prog w = .ok () w' ∧ OMap w' b (n + 1) (fun t' => if sameB t' t = true then some v else G t') ∧ Kept1 w w' b := by
  obtain ⟨D, hD, h⟩ := h
  obtain ⟨w', hrun, h1, h2⟩ := hD.update lawQ ht hn (keyQ hs) (val := v) (d := .held v) (ps := []) rfl
  exact ⟨w', hrun, ⟨_, h1, OMap.put hD.isMap h hs v⟩, ⟨h2.os, h2.tape, h2.output, h2.size, fun i hi hne => h2.block i hi (fun x => hne (by injection x))⟩⟩
end Go.Proofs.YtokabkhnidlcnabGreatDoor

/-
  Sets in order, as the program keeps them: memory.
-/
namespace Go.Proofs.YtokabkhnidlcnabGreatDoor
set_option maxRecDepth 100000
set_option linter.unusedSimpArgs false
set_option linter.unusedVariables false
open Go.RowKit Go.Maps

/-- What changes where a set in order at ⟨b, o⟩ is put to: its two cells, its row, its map, and new blocks. -/
structure Eff (w w' : World) (b o : Nat) (kv : Value) (pv : Option Nat) : Prop where
  os : w'.os = w.os
  tape : w'.tape = w.tape
  output : w'.output = w.output
  size : w.heap.size ≤ w'.heap.size
  blk : ∀ i, i < w.heap.size → i ≠ b → kv.ownBlock ≠ some i → pv ≠ some i → w'.heap[i]? = w.heap[i]?
  cel : ∀ o', o' ≠ o → o' ≠ o + 1 → w'.cell? ⟨b, o', none⟩ = w.cell? ⟨b, o', none⟩ ∧ w'.frozen? ⟨b, o', none⟩ = w.frozen? ⟨b, o', none⟩

theorem Eff.refl (w : World) (b o : Nat) (kv : Value) (pv : Option Nat) : Eff w w b o kv pv := ⟨rfl, rfl, rfl, Nat.le_refl _, fun _ _ _ _ _ => rfl, fun _ _ _ => ⟨rfl, rfl⟩⟩

/-- A block that is as it was, or new. -/
def SameNew (H : Nat) (r r' : Option Nat) : Prop := r' = r ∨ ∃ k, r' = some k ∧ H ≤ k
theorem SameNew.ne {H : Nat} {r r' : Option Nat} {x : Nat} (h : SameNew H r r') (hn : r ≠ some x) (hx : x < H) : r' ≠ some x := fun e => by
  rcases h with h | ⟨k, h, hk⟩
  · exact hn (h.symm.trans e)
  · rw [h] at e; injection e with e; omega
theorem SameNew.trans {H H' : Nat} {r r' r'' : Option Nat} (h : SameNew H r r') (h' : SameNew H' r' r'') (hH : H ≤ H') : SameNew H r r'' := by
  rcases h' with h' | ⟨k, h', hk⟩
  · rw [SameNew, h']; exact h
  · exact Or.inr ⟨k, h', by omega⟩

theorem Eff.trans {w w1 w2 : World} {b o : Nat} {kv kv1 : Value} {pv pv1 : Option Nat} (h : Eff w w1 b o kv pv) (h1 : Eff w1 w2 b o kv1 pv1) (hk : SameNew w.heap.size kv.ownBlock kv1.ownBlock) (hp : SameNew w.heap.size pv pv1) : Eff w w2 b o kv pv :=
  ⟨h1.os.trans h.os, h1.tape.trans h.tape, h1.output.trans h.output, Nat.le_trans h.size h1.size, fun i hi hb hk' hp' => (h1.blk i (Nat.lt_of_lt_of_le hi h.size) hb (hk.ne hk' hi) (hp.ne hp' hi)).trans (h.blk i hi hb hk' hp'),
    fun o' h2 h3 => ⟨(h1.cel o' h2 h3).1.trans (h.cel o' h2 h3).1, (h1.cel o' h2 h3).2.trans (h.cel o' h2 h3).2⟩⟩

theorem Eff.cell {w w' : World} {b o : Nat} {kv : Value} {pv : Option Nat} (h : Eff w w' b o kv pv) {i : Nat} (hi : i < w.heap.size) (hb : i ≠ b) (hk : kv.ownBlock ≠ some i) (hp : pv ≠ some i) (q : Nat) : w'.cell? ⟨i, q, none⟩ = w.cell? ⟨i, q, none⟩ := World.cell?_of_block (w := w) (h.blk i hi hb hk hp)
theorem Eff.frozen {w w' : World} {b o : Nat} {kv : Value} {pv : Option Nat} (h : Eff w w' b o kv pv) {i : Nat} (hi : i < w.heap.size) (hb : i ≠ b) (hk : kv.ownBlock ≠ some i) (hp : pv ≠ some i) (q : Nat) : w'.frozen? ⟨i, q, none⟩ = w.frozen? ⟨i, q, none⟩ := World.frozen?_of_block (w := w) (h.blk i hi hb hk hp)

/-- Where the set's memory is all new. -/
theorem Eff.below {w w' : World} {b o B : Nat} {kv : Value} {pv : Option Nat} (h : Eff w w' b o kv pv) (hB : B ≤ w.heap.size) (hb : B ≤ b) (hk : ∀ g, kv.ownBlock = some g → B ≤ g) (hp : ∀ g, pv = some g → B ≤ g) : Below B w w' :=
  ⟨h.os, h.tape, h.output, h.size, fun i hi => h.blk i (by omega) (by omega) (fun e => by have := hk i e; omega) (fun e => by have := hp i e; omega)⟩

/-- The place of a text in a row. -/
def idxB : List ByteArray → ByteArray → Option Nat
  | [], _ => none
  | x :: r, t => if x = t then some 0 else (idxB r t).map (· + 1)

theorem idxB_some : ∀ (ks : List ByteArray) (t : ByteArray), (idxB ks t).isSome = true ↔ t ∈ ks
  | [], t => by simp [idxB]
  | x :: r, t => by
    unfold idxB
    by_cases e : x = t
    · rw [if_pos e]; simp [e]
    · rw [if_neg e, Option.isSome_map, idxB_some r t]
      simp [List.mem_cons, Ne.symm e]

theorem idxB_append {ks : List ByteArray} {u : ByteArray} (h : u ∉ ks) (t : ByteArray) : idxB (ks ++ [u]) t = if t = u then some ks.length else idxB ks t := by
  induction ks with
  | nil =>
    simp only [List.nil_append, idxB, List.length_nil]
    by_cases e : u = t
    · rw [if_pos e, if_pos e.symm]
    · rw [if_neg e, if_neg (Ne.symm e)]; rfl
  | cons x r ih =>
    have hx : u ≠ x := fun e => h (by simp [e])
    have hr : u ∉ r := fun e => h (by simp [e])
    simp only [List.cons_append, idxB, List.length_cons]
    by_cases e : x = t
    · rw [if_pos e, if_pos e, if_neg (fun e2 => hx (by rw [e, ← e2]))]
    · rw [if_neg e, if_neg e, ih hr]
      by_cases e2 : t = u
      · rw [if_pos e2, if_pos e2]; rfl
      · rw [if_neg e2, if_neg e2]

/-- The first place of it. -/
theorem idxB_at : ∀ (ks : List ByteArray) (t : ByteArray) (i : Nat), idxB ks t = some i → ks[i]? = some t
  | [], t, i, h => by cases h
  | x :: r, t, i, h => by
    unfold idxB at h
    by_cases e : x = t
    · rw [if_pos e] at h
      injection h with h
      subst h; rw [← e]; rfl
    · rw [if_neg e] at h
      obtain ⟨j, hj, rfl⟩ := Option.map_eq_some_iff.1 h
      exact idxB_at r t j hj

def gSS (ks : List ByteArray) (t : ByteArray) : Option Value := (idxB ks t).map fun (i : Nat) => Value.int .i64 (i : Int)

theorem SMap.congr {w : World} {b n : Nat} {G G' : ByteArray → Option Value} (h : SMap w b n G) (he : ∀ t, G t = G' t) : SMap w b n G' := by
  have : G = G' := funext he
  rw [← this]; exact h

/-- A set of texts in order at ⟨b, o⟩. -/
structure SSet (w : World) (b o B : Nat) (kv : Value) (pv : Option Nat) (ks : List ByteArray) : Prop where
  c0 : w.cell? ⟨b, o, none⟩ = some kv
  c1 : w.cell? ⟨b, o + 1, none⟩ = some (.map pv)
  f0 : w.frozen? ⟨b, o, none⟩ = false
  f1 : w.frozen? ⟨b, o + 1, none⟩ = false
  row : RowS w B kv ks
  mp : (pv = none ∧ ks = []) ∨ ∃ bm, pv = some bm ∧ B ≤ bm ∧ SMap w bm ks.length (gSS ks)
  nk : kv.ownBlock ≠ some b
  np : pv ≠ some b
  nn : ∀ g, kv.ownBlock = some g → pv ≠ some g

theorem SSet.lt {w : World} {b o B : Nat} {kv : Value} {pv : Option Nat} {ks : List ByteArray} (h : SSet w b o B kv pv ks) : b < w.heap.size := World.block_lt_of_cell? _ _ h.c0
theorem SSet.plt {w : World} {b o B : Nat} {kv : Value} {pv : Option Nat} {ks : List ByteArray} (h : SSet w b o B kv pv ks) : ∀ g, pv = some g → B ≤ g ∧ g < w.heap.size := fun g e => by
  rcases h.mp with ⟨h1, _⟩ | ⟨bm, h1, h2, h3⟩
  · rw [h1] at e; cases e
  · rw [h1] at e; injection e with e; subst e; exact ⟨h2, h3.lt⟩

theorem SSet.below {w w' : World} {b o B : Nat} {kv : Value} {pv : Option Nat} {ks : List ByteArray} (h : SSet w b o B kv pv ks) (hb : Below w.heap.size w w') : SSet w' b o B kv pv ks :=
  ⟨(hb.cell (p := ⟨b, o, none⟩) h.lt).trans h.c0, (hb.cell (p := ⟨b, o + 1, none⟩) h.lt).trans h.c1, (hb.frozen (p := ⟨b, o, none⟩) h.lt).trans h.f0, (hb.frozen (p := ⟨b, o + 1, none⟩) h.lt).trans h.f1, h.row.below hb, h.mp.imp id (fun ⟨bm, h1, h2, h3⟩ => ⟨bm, h1, h2, h3.kept (grown_belN hb none) (by simp)⟩), h.nk, h.np, h.nn⟩

/-- Nothing is in a new set. -/
theorem SSet.new (w : World) (t : TypeId) (B : Nat) : SSet (w.alloc (.cells #[.slice none 0 0, .map none] t)) w.heap.size 0 B (.slice none 0 0) none [] :=
  ⟨by simp [go_sem], by simp [go_sem], by simp [go_sem], by simp [go_sem], World.ownsRow_nil _ _ _ _, Or.inl ⟨rfl, rfl⟩, by simp [Value.ownBlock], by simp, fun g e => by simp [Value.ownBlock] at e⟩
end Go.Proofs.YtokabkhnidlcnabGreatDoor

/-
  Walks: sets of texts in order, in the program.
-/
namespace Go.Proofs.YtokabkhnidlcnabGreatDoor
set_option maxRecDepth 100000
set_option linter.unusedSimpArgs false
set_option linter.unusedVariables false
open Go.RowKit Go.Maps

theorem zeroI (w : World) : (zeroValue 3).run Tryz.prog w = .ok (.int .i64 0) w := by kernel_rfl

theorem eqlSomeS (bm : Nat) (w : World) : (binOp .eql 78 (.map (some bm)) (.map none)).run Tryz.prog w = .ok (.bool false) w := by kernel_rfl
theorem eqlNilS (w : World) : (binOp .eql 78 (.map none) (.map none)).run Tryz.prog w = .ok (.bool true) w := by kernel_rfl

theorem look_nilS (t : ByteArray) (w : World) (hs : t.size ≤ maxLen) : (Instr.lookup 78 (.map none) (.string t) true).run Tryz.prog w = .ok (.tuple #[.int .i64 0, .bool false]) w := by
  have h := Maps.look_nil (P := Tryz.prog) (w := w) true (string_keyed Tryz.underlying9) Tryz.underlying78 (zeroI w) (keyS hs)
  simpa using h

set_option maxHeartbeats 1000000 in
theorem hasS_any (b o B : Nat) (kv : Value) (pv : Option Nat) (ks : List ByteArray) (t : ByteArray) (w : World) (h : SSet w b o B kv pv ks) (hs : t.size ≤ maxLen) :
    Calls Tryz.prog 55 #[.pointer (some ⟨b, o, none⟩), .string t] w fun e w' => RetB e (t ∈ ks) ∧ w' = w := by
  have c1 := h.c1
  rcases h.mp with ⟨rfl, rfl⟩ | ⟨bm, rfl, hbm, hm⟩
  · have hrun := look_nilS t w hs
    clear h
    go_enter Tryz.func55, Tryz.ntmps55
    go_wp2
    go_ret
    exact ⟨⟨false, rfl, says_false (by simp)⟩, rfl⟩
  · have hrun := hm.look (ty := 78) Tryz.underlying78 (zeroI w) hs
    have HE := hide (show ∀ v : Bool, v = (gSS ks t).isSome → Says v (t ∈ ks) from fun v hv => by
      unfold Says
      rw [hv]
      unfold gSS
      rw [Option.isSome_map]
      exact idxB_some ks t)
    obtain ⟨x, hx⟩ : ∃ x, x = (gSS ks t).getD (.int .i64 0) := ⟨_, rfl⟩
    obtain ⟨y, hy⟩ : ∃ y, y = (gSS ks t).isSome := ⟨_, rfl⟩
    rw [← hx, ← hy] at hrun
    have HY := hide hy
    clear h hx hy hm
    go_enter Tryz.func55, Tryz.ntmps55
    go_wp2
    go_ret
    exact ⟨⟨y, rfl, (unhide HE) y (unhide HY)⟩, rfl⟩

/-- What a put leaves. -/
def AddPost (w : World) (b o B : Nat) (kv : Value) (pv : Option Nat) (ks : List ByteArray) (w' : World) : Prop :=
  ∃ kv' pv', SSet w' b o B kv' pv' ks ∧ Eff w w' b o kv pv ∧ SameNew w.heap.size kv.ownBlock kv'.ownBlock ∧ SameNew w.heap.size pv pv'

theorem put_gS {ks : List ByteArray} {t : ByteArray} (h : t ∉ ks) (t' : ByteArray) : (if t'.data = t.data then some (Value.int .i64 (ks.length : Int)) else gSS ks t') = gSS (ks ++ [t]) t' := by
  unfold gSS
  rw [idxB_append h t']
  by_cases e : t'.data = t.data
  · have e' : t' = t := by cases t; cases t'; simp at e; rw [e]
    rw [if_pos e, if_pos e']; rfl
  · rw [if_neg e, if_neg (fun e2 => e (by rw [e2]))]

/-- The set behind the update of its map and the append to its row. -/
theorem add_close {w W w3 w4 : World} {b o B bm : Nat} {kv v4 : Value} {pv : Option Nat} {ks : List ByteArray} {t : ByteArray} {ob : Obj} (h : SSet w b o B kv pv ks) (hB : B ≤ w.heap.size) (ht : t ∉ ks)
    (hW : W = w ∨ (pv = none ∧ bm = w.heap.size)) (hWs : w.heap.size ≤ W.heap.size) (hWb : ∀ i, i < w.heap.size → i ≠ b → W.heap[i]? = w.heap[i]?) (hWe : W.os = w.os ∧ W.tape = w.tape ∧ W.output = w.output) (hWc : ∀ o', o' ≠ o + 1 → W.cell? ⟨b, o', none⟩ = w.cell? ⟨b, o', none⟩) (hWf : ∀ o', W.frozen? ⟨b, o', none⟩ = w.frozen? ⟨b, o', none⟩) (hW1 : W.cell? ⟨b, o + 1, none⟩ = some (.map (some bm))) (hWr : RowS W B kv ks) (hbmB : B ≤ bm) (hbmb : bm ≠ b) (hbmk : kv.ownBlock ≠ some bm) (hbmn : SameNew w.heap.size pv (some bm))
    (hm : SMap w3 bm (ks.length + 1) (fun t' => if t'.data = t.data then some (Value.int .i64 (ks.length : Int)) else gSS ks t')) (hk : Kept1 W w3 bm) (hbW : bm < W.heap.size)
    (hg : (w3.alloc ob).grownBy w4 kv.ownBlock) (hr : RowS w4 B v4 (ks ++ [t])) (hat : v4.ownBlock = kv.ownBlock ∨ v4.ownBlock = some (w3.heap.size + 1)) :
    AddPost w b o B kv pv (ks ++ [t]) (w4.setCell ⟨b, o, none⟩ v4) := by
  have hbl := h.lt
  have hbW' : b < W.heap.size := by omega
  have hz3 := hk.size
  have hz4 := hg.size
  have hz4' : w3.heap.size + 1 ≤ w4.heap.size := by simpa using hz4
  have hb3 : b < w3.heap.size := by omega
  have kc := fun q => (grown_cell hg (b := b) (by simp; omega) h.nk q).trans (((below1 w3 ob).cell (p := ⟨b, q, none⟩) hb3).trans (hk.cell hbW' (Ne.symm hbmb) q))
  have kf := fun q => (frozen_grown hg (b := b) (by simp; omega) h.nk q).trans (((below1 w3 ob).frozen (p := ⟨b, q, none⟩) hb3).trans (hk.frozen hbW' (Ne.symm hbmb) q))
  have h4b : v4.ownBlock ≠ some b := fun e => by
    rcases hat with hat | hat
    · exact h.nk (hat.symm.trans e)
    · rw [hat] at e; injection e with e; omega
  have h4m : v4.ownBlock ≠ some bm := fun e => by
    rcases hat with hat | hat
    · exact hbmk (hat.symm.trans e)
    · rw [hat] at e; injection e with e; omega
  have hm4 : SMap (w4.setCell ⟨b, o, none⟩ v4) bm (ks ++ [t]).length (gSS (ks ++ [t])) := by
    rw [List.length_append]
    refine ((((hm.kept (grown_belN (below1 w3 ob) none) (by simp)).kept hg (fun e => hbmk e.symm)).kept (set_grown w4 b o v4) (fun e => hbmb (by injection e))).congr (put_gS ht))
  refine ⟨v4, some bm, ⟨World.cell?_setCell_same _ _ _ ((kc o).trans ((hWc o (by omega)).trans h.c0)), (World.cell?_setCell_other _ _ _ _ (by simp)).trans ((kc (o + 1)).trans hW1), (World.frozen?_setCell _ _ _ _).trans ((kf o).trans ((hWf o).trans h.f0)), (World.frozen?_setCell _ _ _ _).trans ((kf (o + 1)).trans ((hWf (o + 1)).trans h.f1)), hr.grown (set_grown w4 b o v4) (fun k e x => h4b (e.trans x.symm)), Or.inr ⟨bm, rfl, hbmB, hm4⟩, h4b, fun e => hbmb (by injection e), fun g e x => h4m (e.trans x.symm)⟩, ?_, ?_, hbmn⟩
  · refine ⟨hg.os.trans (hk.os.trans hWe.1), hg.tape.trans (hk.tape.trans hWe.2.1), hg.output.trans (hk.output.trans hWe.2.2), by simp [World.setCell]; omega, fun i hi h1 h2 h3 => ?_, fun o' h1 h2 => ⟨(World.cell?_setCell_other _ _ _ _ (by first | (simp; done) | (simp; omega) | (intro x; injection x with _ x; omega))).trans ((kc o').trans (hWc o' h2)), (World.frozen?_setCell _ _ _ _).trans ((kf o').trans (hWf o'))⟩⟩
    rw [Below.heap_setCell _ _ _ _ (by simpa using h1)]
    have hibm : i ≠ bm := fun e => by
      rcases hbmn with x | ⟨k, x, hk2⟩
      · exact h3 (by rw [← x, e])
      · injection x with x; omega
    exact (hg.block i (by simp; omega) (fun e => h2 e.symm)).trans (((below1 w3 ob).block i (by omega)).trans ((hk.block i (by omega) hibm).trans (hWb i hi h1)))
  · rcases hat with hat | hat
    · exact Or.inl hat
    · exact Or.inr ⟨_, hat, by omega⟩

set_option maxHeartbeats 4000000 in
theorem addS_any (b o B : Nat) (kv : Value) (pv : Option Nat) (ks : List ByteArray) (t : ByteArray) (w : World) (h : SSet w b o B kv pv ks) (hs : t.size ≤ maxLen) (hl : ks.length ≤ 1048576) (hB : B ≤ w.heap.size) :
    Calls Tryz.prog 54 #[.pointer (some ⟨b, o, none⟩), .string t] w fun e w' => RetB e (t ∉ ks) ∧ AddPost w b o B kv pv (insB ks t) w' := by
  have HH := hide (hasS_any b o B kv pv ks t w h hs)
  by_cases hin : t ∈ ks
  · have HP := hide (show AddPost w b o B kv pv (insB ks t) w by rw [insB_yes hin]; exact ⟨kv, pv, h, Eff.refl _ _ _ _ _, Or.inl rfl, Or.inl rfl⟩)
    have HIN := hide hin
    clear h hin
    go_enter Tryz.func54, Tryz.ntmps54
    go_wp2_with (first | (go_at_call 55; (with_reducible refine (unhide HH).mono ?_); rintro e w1 ⟨⟨v, rfl, hv⟩, hx⟩; obtain rfl := hx.symm; obtain rfl : v = true := hv.2 (unhide HIN); clear hv hx))
    go_ret
    exact ⟨⟨false, rfl, says_false (fun h => h (unhide HIN))⟩, unhide HP⟩
  obtain ⟨i0, hi0, hz0, hz1, hz2⟩ := info_parts' infoStr
  have HI := hide hi0
  have HZ := hide (And.intro hz0 (And.intro hz1 hz2))
  clear hi0 hz0 hz1 hz2
  have HNI := hide hin
  have hbl := h.lt
  have c0 := h.c0
  have c1 := h.c1
  have f0 := h.f0
  have f1 := h.f1
  obtain ⟨ak, ck, rfl⟩ := rowS_slice h.row
  rcases h.mp with ⟨rfl, rfl⟩ | ⟨bm, rfl, hbm, hmap⟩
  · -- the map is made
    obtain ⟨W, hW⟩ : ∃ W, W = (w.setCell ⟨b, o + 1, none⟩ (.map (some w.heap.size))).alloc (.map #[] 0) := ⟨_, rfl⟩
    have hz0 : (w.setCell ⟨b, o + 1, none⟩ (.map (some w.heap.size))).heap.size = w.heap.size := by simp [World.setCell]
    have hWs : w.heap.size + 1 ≤ W.heap.size := by rw [hW]; simp [World.setCell]
    have hWb : ∀ i, i < w.heap.size → i ≠ b → W.heap[i]? = w.heap[i]? := fun i hi hne => by
      rw [hW, (below1 (w.setCell ⟨b, o + 1, none⟩ (.map (some w.heap.size))) (.map #[] 0)).block i (by rw [hz0]; exact hi)]
      exact Below.heap_setCell _ _ _ _ (by simpa using hne)
    have hWc : ∀ o', o' ≠ o + 1 → W.cell? ⟨b, o', none⟩ = w.cell? ⟨b, o', none⟩ := fun o' ho => by
      rw [hW, (below1 (w.setCell ⟨b, o + 1, none⟩ (.map (some w.heap.size))) (.map #[] 0)).cell (p := ⟨b, o', none⟩) (by show b < _; rw [hz0]; exact hbl)]
      exact World.cell?_setCell_other _ _ _ _ (by first | (simp; done) | (simp; omega) | (intro x; injection x with _ x; omega))
    have hWf : ∀ o', W.frozen? ⟨b, o', none⟩ = w.frozen? ⟨b, o', none⟩ := fun o' => by
      rw [hW, (below1 (w.setCell ⟨b, o + 1, none⟩ (.map (some w.heap.size))) (.map #[] 0)).frozen (p := ⟨b, o', none⟩) (by show b < _; rw [hz0]; exact hbl)]
      exact World.frozen?_setCell _ _ _ _
    have hW1 : W.cell? ⟨b, o + 1, none⟩ = some (.map (some w.heap.size)) := by
      rw [hW, (below1 (w.setCell ⟨b, o + 1, none⟩ (.map (some w.heap.size))) (.map #[] 0)).cell (p := ⟨b, o + 1, none⟩) (by show b < _; rw [hz0]; exact hbl)]
      exact World.cell?_setCell_same _ _ _ c1
    have hSM : SMap W.drew w.heap.size 0 (fun _ => none) := by
      have := SMap.made (w.setCell ⟨b, o + 1, none⟩ (.map (some w.heap.size)))
      rw [hz0, ← hW] at this
      exact this.kept (grown_belN (Below.refl _ _).drew none) (by simp)
    clear hz0
    obtain ⟨w3, hrun, hm3, hk3⟩ := hSM.update (ty := 78) Tryz.underlying78 (by unfold maxLen; omega) (t := t) hs (.int .i64 0)
    have hWr : RowS W B (.slice ak 0 ck) [] := by
      obtain ⟨_, ⟨h1, h2⟩ | ⟨g, cap, cur, h1, h2, h3, h4⟩⟩ := h.row
      · exact ⟨rfl, Or.inl ⟨h1, h2⟩⟩
      · have hgb : g ≠ b := fun e => h.nk (by rw [h1, e]; rfl)
        refine ⟨rfl, Or.inr ⟨g, cap, cur, h1, h2, (hWb g ?_ hgb).trans h3, h4⟩⟩
        exact (h.row.lt g (by rw [h1]; rfl)).2
    have HCLOSE := hide (fun w4 v4 ob hg hr hat => @add_close w W w3 w4 b o B w.heap.size (.slice ak 0 ck) v4 none [] t ob h hB hin (Or.inr ⟨rfl, rfl⟩) (by omega) hWb (by rw [hW]; exact ⟨rfl, rfl, rfl⟩) hWc hWf hW1 hWr hB (by omega) (fun e => by have := (h.row.lt _ e).2; omega) (Or.inr ⟨_, rfl, Nat.le_refl _⟩) (by simpa [gSS, idxB] using hm3) (show Kept1 W w3 w.heap.size from (Kept1.of_below (show Below W.heap.size W W.drew from (Below.refl _ _).drew)).trans hk3) (by omega) hg hr hat)
    have hz3 := hk3.size
    have hz3' : W.heap.size ≤ w3.heap.size := hz3
    have m0 : w3.cell? ⟨b, o, none⟩ = some (.slice ak 0 ck) := (hk3.cell (show b < W.drew.heap.size by show b < W.heap.size; omega) (by omega) o).trans ((hWc o (by omega)).trans c0)
    have m1 : w3.frozen? ⟨b, o, none⟩ = false := (hk3.frozen (show b < W.drew.heap.size by show b < W.heap.size; omega) (by omega) o).trans ((hWf o).trans f0)
    have hWr3 : RowS w3 B (.slice ak 0 ck) [] := (hWr.below (Below.refl _ _).drew).grown (grown_kept1 hk3) (fun k e x => by injection x with x; have := (h.row.lt k e).2; omega)
    have HR3 := hide hWr3
    have HNK := hide h.nk
    have hWo : W.cell? ⟨b, o, none⟩ = some (.slice ak 0 ck) := (hWc o (by omega)).trans c0
    have HWW := hide hW
    have hb3 : b < w3.heap.size := by omega
    have HINS := hide (insB_no hin)
    have heq := eqlNilS w
    have hmm := @run_makeMap Tryz.prog
    clear hm3 hk3 hWr hWr3 hSM hWb hWc hWf h hW hin
    go_enter Tryz.func54, Tryz.ntmps54
    go_wp2_with (first | (go_at_call 55; (with_reducible refine (unhide HH).mono ?_); rintro e w1 ⟨⟨v, rfl, hv⟩, hx⟩; obtain rfl := hx.symm; obtain rfl : v = false := (by cases v; rfl; exact absurd (hv.1 rfl) (unhide HNI)); clear hv hx))
    rw [← unhide HWW]
    go_region
    go_wp2_with (at_builtin; refine wpList_append_own_at _ rfl (.tmp 31) (.tmp 33) 37 rfl B 9 i0 _ 1 16 Tryz.underlying37 (unhide HI) (unhide HZ).1 (unhide HZ).2.1 (unhide HZ).2.2 rfl (by decide) _ 0 (cellsS []) rfl ((unhide HR3).below (below1 _ _)) ⟨w3.heap.size, 0, none⟩ 1 1 (cellsS [t]) rfl rfl (by simpa using new_newsS w3 t) (cellsS_one' _) ?b1 ?b2 ?b3 ?next)
    case b1 => unfold maxLen; omega
    case b2 => omega
    case b3 => simp; omega
    case next =>
      intro v4 w4 hown4 hgrow4 hnil4 hat4
      have hr4 : RowS w4 B v4 ([] ++ [t]) := by
        unfold RowS
        rw [cellsS_append, List.length_append]
        exact hown4
      have HF := hide ((unhide HCLOSE) w4 v4 _ hgrow4 hr4 hat4)
      have n0 := (grown_cell hgrow4 (b := b) (by simp; omega) (unhide HNK) o).trans (((below1 w3 _).cell (p := ⟨b, o, none⟩) hb3).trans m0)
      have n1 := (frozen_grown hgrow4 (b := b) (by simp; omega) (unhide HNK) o).trans (((below1 w3 _).frozen (p := ⟨b, o, none⟩) hb3).trans m1)
      obtain ⟨a4, c4, rfl⟩ := rowS_slice hr4
      clear hown4 hgrow4 hnil4 hat4 hr4 m0 m1
      go_wp2_with fail
      go_ret
      refine ⟨⟨true, rfl, says_true (unhide HNI)⟩, ?_⟩
      rw [unhide HINS]
      first
        | exact unhide HF
        | simpa using unhide HF
  · obtain ⟨w3, hrun, hm3, hk3⟩ := (hmap.kept (grown_belN (show Below w.heap.size w w.drew from (Below.refl _ _).drew) none) (by simp)).update (ty := 78) Tryz.underlying78 (by unfold maxLen; omega) (t := t) hs (.int .i64 (ks.length : Int))
    have hbmb : bm ≠ b := fun e => h.np (by rw [e])
    have hbmk : (Value.slice ak ks.length ck).ownBlock ≠ some bm := fun e => h.nn bm e rfl
    have hbml := hmap.lt
    have HCLOSE := hide (fun w4 v4 ob hg hr hat => @add_close w w w3 w4 b o B bm (.slice ak ks.length ck) v4 (some bm) ks t ob h hB hin (Or.inl rfl) (Nat.le_refl _) (fun _ _ _ => rfl) ⟨rfl, rfl, rfl⟩ (fun _ _ => rfl) (fun _ => rfl) c1 h.row hbm hbmb hbmk (Or.inl rfl) hm3 (show Kept1 w w3 bm from (Kept1.of_below (show Below w.heap.size w w.drew from (Below.refl _ _).drew)).trans hk3) hbml hg hr hat)
    have hz3 := hk3.size
    have hz3' : w.heap.size ≤ w3.heap.size := hz3
    have m0 : w3.cell? ⟨b, o, none⟩ = some (.slice ak ks.length ck) := (hk3.cell (show b < w.drew.heap.size from hbl) (Ne.symm hbmb) o).trans c0
    have m1 : w3.frozen? ⟨b, o, none⟩ = false := (hk3.frozen (show b < w.drew.heap.size from hbl) (Ne.symm hbmb) o).trans f0
    have HR3 := hide (show RowS w3 B (.slice ak ks.length ck) ks from (h.row.below (Below.refl _ _).drew).grown (grown_kept1 hk3) (fun k e x => hbmk (e.trans x.symm)))
    have HNK := hide h.nk
    have hb3 : b < w3.heap.size := by omega
    have HINS := hide (insB_no hin)
    have heq := eqlSomeS bm w
    clear hm3 hk3 hmap h hin
    go_enter Tryz.func54, Tryz.ntmps54
    go_wp2_with (first | (go_at_call 55; (with_reducible refine (unhide HH).mono ?_); rintro e w1 ⟨⟨v, rfl, hv⟩, hx⟩; obtain rfl := hx.symm; obtain rfl : v = false := (by cases v; rfl; exact absurd (hv.1 rfl) (unhide HNI)); clear hv hx))
    go_region
    go_wp2_with (at_builtin; refine wpList_append_own_at _ rfl (.tmp 31) (.tmp 33) 37 rfl B 9 i0 _ 1 16 Tryz.underlying37 (unhide HI) (unhide HZ).1 (unhide HZ).2.1 (unhide HZ).2.2 rfl (by decide) _ ks.length (cellsS ks) rfl ((unhide HR3).below (below1 _ _)) ⟨w3.heap.size, 0, none⟩ 1 1 (cellsS [t]) rfl rfl (by simpa using new_newsS w3 t) (cellsS_one' _) ?b1 ?b2 ?b3 ?next)
    case b1 => unfold maxLen; omega
    case b2 => omega
    case b3 => simp; omega
    case next =>
      intro v4 w4 hown4 hgrow4 hnil4 hat4
      have hr4 : RowS w4 B v4 (ks ++ [t]) := by
        unfold RowS
        rw [cellsS_append, List.length_append]
        exact hown4
      have HF := hide ((unhide HCLOSE) w4 v4 _ hgrow4 hr4 hat4)
      have n0 := (grown_cell hgrow4 (b := b) (by simp; omega) (unhide HNK) o).trans (((below1 w3 _).cell (p := ⟨b, o, none⟩) hb3).trans m0)
      have n1 := (frozen_grown hgrow4 (b := b) (by simp; omega) (unhide HNK) o).trans (((below1 w3 _).frozen (p := ⟨b, o, none⟩) hb3).trans m1)
      obtain ⟨a4, c4, rfl⟩ := rowS_slice hr4
      clear hown4 hgrow4 hnil4 hat4 hr4 m0 m1
      go_wp2_with fail
      go_ret
      refine ⟨⟨true, rfl, says_true (unhide HNI)⟩, ?_⟩
      rw [unhide HINS]
      first
        | exact unhide HF
        | simpa using unhide HF
end Go.Proofs.YtokabkhnidlcnabGreatDoor
