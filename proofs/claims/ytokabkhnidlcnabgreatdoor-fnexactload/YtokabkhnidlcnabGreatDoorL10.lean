import Derived.Test.YtokabkhnidlcnabGreatDoorL02
import Derived.Test.YtokabkhnidlcnabGreatDoorL09

/-
  The operator that words declare, word by word.
-/
namespace Go.Proofs.YtokabkhnidlcnabGreatDoor
set_option maxRecDepth 100000
set_option linter.unusedSimpArgs false
set_option linter.unusedVariables false
open Go.RowKit

/-- What n words declare, of which the first four are given. -/
def opAns (n : Nat) (k t l sd : ByteArray) : Option OpR :=
  if levB l = true then
    (if k = wPrefix ∧ n = 3 then some ⟨t, 1, (valTo l l.size : Int), 0⟩
     else if k = wPostfix ∧ n = 3 then some ⟨t, 3, (valTo l l.size : Int), 0⟩
     else if k = wInfix ∧ n = 4 ∧ sideW sd ≠ 0 then some ⟨t, 2, (valTo l l.size : Int), sideW sd⟩ else none)
  else none

theorem side_cases (t : ByteArray) : sideW t = 0 ∨ sideW t = 1 ∨ sideW t = 2 ∨ sideW t = 3 := by
  unfold sideW
  split
  · exact Or.inr (Or.inl rfl)
  · split
    · exact Or.inr (Or.inr (Or.inl rfl))
    · split
      · exact Or.inr (Or.inr (Or.inr rfl))
      · exact Or.inl rfl

/-- A row's words from the first on. -/
theorem words_parts {ws : List ByteArray} (h : 3 ≤ ws.length) : ∃ k t l r, ws = k :: t :: l :: r := by
  match ws, h with
  | k :: t :: l :: r, _ => exact ⟨k, t, l, r, rfl⟩

theorem opAns_is {k t l sd : ByteArray} {r : List ByteArray} (hr : r = [] ∨ ∃ r', r = sd :: r') : (∀ o, opAns (r.length + 3) k t l sd = some o → OpW (k :: t :: l :: r) o) ∧ (opAns (r.length + 3) k t l sd = none → ∀ o, ¬ OpW (k :: t :: l :: r) o) := by
  unfold opAns
  constructor
  · intro o h
    split at h
    · rename_i hl
      have hL := (levB_iff l).1 hl
      split at h
      · rename_i hk
        injection h with h
        have : r = [] := List.length_eq_zero_iff.1 (by omega)
        subst this
        exact ⟨k, t, l, hL, Or.inl ⟨rfl, Or.inl ⟨hk.1, h.symm⟩⟩⟩
      · split at h
        · rename_i hk
          injection h with h
          have : r = [] := List.length_eq_zero_iff.1 (by omega)
          subst this
          exact ⟨k, t, l, hL, Or.inl ⟨rfl, Or.inr ⟨hk.1, h.symm⟩⟩⟩
        · split at h
          · rename_i hk
            injection h with h
            rcases hr with rfl | ⟨r', rfl⟩
            · simp at hk
            · have : r' = [] := List.length_eq_zero_iff.1 (by have h9 := hk.2.1; simp only [List.length_cons] at h9; omega)
              subst this
              exact ⟨k, t, l, hL, Or.inr ⟨sd, rfl, hk.1, hk.2.2, h.symm⟩⟩
          · cases h
    · cases h
  · rintro h o ⟨k', t', l', hL, h2⟩
    have hlv := fun (e : l = l') => (levB_iff l).2 (e ▸ hL)
    rcases h2 with ⟨e, h2⟩ | ⟨sd', e, h2, h3, h4⟩
    · simp only [List.cons.injEq] at e
      obtain ⟨rfl, rfl, rfl, rfl⟩ := e
      rw [if_pos (hlv rfl)] at h
      rcases h2 with ⟨hk, _⟩ | ⟨hk, _⟩
      · rw [if_pos ⟨hk, rfl⟩] at h; cases h
      · rw [if_neg (fun x => by rw [hk] at x; exact absurd x.1 (by decide)), if_pos ⟨hk, rfl⟩] at h; cases h
    · simp only [List.cons.injEq] at e
      obtain ⟨rfl, rfl, rfl, rfl⟩ := e
      have : sd = sd' := by
        rcases hr with h | ⟨r', h⟩
        · cases h
        · simp only [List.cons.injEq] at h; exact h.1.symm
      subst this
      rw [if_pos (hlv rfl), if_neg (fun x => by rw [h2] at x; exact absurd x.1 (by decide)), if_neg (fun x => by rw [h2] at x; exact absurd x.1 (by decide)), if_pos ⟨h2, rfl, h3⟩] at h
      cases h

/-- An operator in a block of its own, that may be written. -/
def OpCells (w : World) (b : Nat) (o : OpR) : Prop :=
  (w.cell? ⟨b, 0, none⟩ = some (.string o.s) ∧ w.cell? ⟨b, 1, none⟩ = some (.int .i64 o.k) ∧ w.cell? ⟨b, 2, none⟩ = some (.int .i64 o.l) ∧ w.cell? ⟨b, 3, none⟩ = some (.int .i64 o.sd)) ∧
    (w.frozen? ⟨b, 0, none⟩ = false ∧ w.frozen? ⟨b, 1, none⟩ = false ∧ w.frozen? ⟨b, 2, none⟩ = false ∧ w.frozen? ⟨b, 3, none⟩ = false)

theorem OpCells.below {w w' : World} {b B : Nat} {o : OpR} (h : OpCells w b o) (hb : Below B w w') (hB : b < B) : OpCells w' b o := by
  obtain ⟨⟨h0, h1, h2, h3⟩, g0, g1, g2, g3⟩ := h
  have e := fun j => hb.cell (p := ⟨b, j, none⟩) hB
  have f := fun j => hb.frozen (p := ⟨b, j, none⟩) hB
  exact ⟨⟨(e 0).trans h0, (e 1).trans h1, (e 2).trans h2, (e 3).trans h3⟩, (f 0).trans g0, (f 1).trans g1, (f 2).trans g2, (f 3).trans g3⟩

/-- What is answered of words. -/
def OpwPost (w : World) (n : Nat) (k t l sd : ByteArray) (e : Ending) (w' : World) : Prop :=
  ∃ (o : OpR) (v : Bool), e = .returned (.tuple #[.agg #[.string o.s, .int .i64 o.k, .int .i64 o.l, .int .i64 o.sd], .bool v]) ∧ ((v = true ∧ opAns n k t l sd = some o) ∨ (v = false ∧ opAns n k t l sd = none)) ∧ Below w.heap.size w w'

theorem ans_none {n : Nat} {k t l sd : ByteArray} (h : levB l = false) : opAns n k t l sd = none := by
  unfold opAns; rw [h]; rfl
theorem ans_prefix {n : Nat} {k t l sd : ByteArray} (h : levB l = true) (hk : k = wPrefix) : opAns n k t l sd = if n = 3 then some ⟨t, 1, (valTo l l.size : Int), 0⟩ else none := by
  subst hk
  unfold opAns
  rw [if_pos h]
  by_cases hn : n = 3
  · rw [if_pos ⟨rfl, hn⟩, if_pos hn]
  · rw [if_neg (fun x => hn x.2), if_neg (fun x => hn x.2), if_neg (fun x => absurd x.1 (by decide)), if_neg hn]
theorem ans_postfix {n : Nat} {k t l sd : ByteArray} (h : levB l = true) (hk : k = wPostfix) : opAns n k t l sd = if n = 3 then some ⟨t, 3, (valTo l l.size : Int), 0⟩ else none := by
  subst hk
  unfold opAns
  rw [if_pos h]
  by_cases hn : n = 3
  · rw [if_neg (fun x => absurd x.1 (by decide)), if_pos ⟨rfl, hn⟩, if_pos hn]
  · rw [if_neg (fun x => hn x.2), if_neg (fun x => hn x.2), if_neg (fun x => absurd x.1 (by decide)), if_neg hn]
theorem ans_infix {n : Nat} {k t l sd : ByteArray} (h : levB l = true) (hk : k = wInfix) : opAns n k t l sd = if n = 4 ∧ sideW sd ≠ 0 then some ⟨t, 2, (valTo l l.size : Int), sideW sd⟩ else none := by
  subst hk
  unfold opAns
  rw [if_pos h, if_neg (fun x => absurd x.1 (by decide)), if_neg (fun x => absurd x.1 (by decide))]
  by_cases hn : n = 4 ∧ sideW sd ≠ 0
  · rw [if_pos ⟨rfl, hn⟩, if_pos hn]
  · rw [if_neg (fun x => hn x.2), if_neg hn]
theorem ans_other {n : Nat} {k t l sd : ByteArray} (h1 : k ≠ wPrefix) (h2 : k ≠ wPostfix) (h3 : k ≠ wInfix) : opAns n k t l sd = none := by
  unfold opAns
  split
  · rw [if_neg (fun x => h1 x.1), if_neg (fun x => h2 x.1), if_neg (fun x => h3 x.1)]
  · rfl
end Go.Proofs.YtokabkhnidlcnabGreatDoor

/-
  What a call keeps of memory.
-/
namespace Go.Proofs.YtokabkhnidlcnabGreatDoor
set_option maxRecDepth 100000
open Go.RowKit

/-- Nothing but one block has turned. -/
structure Kept1 (w w' : World) (g : Nat) : Prop where
  os : w'.os = w.os
  tape : w'.tape = w.tape
  output : w'.output = w.output
  size : w.heap.size ≤ w'.heap.size
  block : ∀ i, i < w.heap.size → i ≠ g → w'.heap[i]? = w.heap[i]?

theorem Kept1.refl (w : World) (g : Nat) : Kept1 w w g := ⟨rfl, rfl, rfl, Nat.le_refl _, fun _ _ _ => rfl⟩
theorem Kept1.trans {w w1 w2 : World} {g : Nat} (h : Kept1 w w1 g) (h' : Kept1 w1 w2 g) : Kept1 w w2 g :=
  ⟨h'.os.trans h.os, h'.tape.trans h.tape, h'.output.trans h.output, Nat.le_trans h.size h'.size, fun i hi a => (h'.block i (Nat.lt_of_lt_of_le hi h.size) a).trans (h.block i hi a)⟩
theorem Kept1.of_below {w w' : World} {g : Nat} (h : Below w.heap.size w w') : Kept1 w w' g := ⟨h.os, h.tape, h.output, h.size, fun i hi _ => h.block i hi⟩
theorem Kept1.cell {w w' : World} {g : Nat} (h : Kept1 w w' g) {b : Nat} (hb : b < w.heap.size) (h1 : b ≠ g) (o : Nat) : w'.cell? ⟨b, o, none⟩ = w.cell? ⟨b, o, none⟩ :=
  World.cell?_of_block (w := w) (h.block b hb h1)
theorem Kept1.frozen {w w' : World} {g : Nat} (h : Kept1 w w' g) {b : Nat} (hb : b < w.heap.size) (h1 : b ≠ g) (o : Nat) : w'.frozen? ⟨b, o, none⟩ = w.frozen? ⟨b, o, none⟩ :=
  World.frozen?_of_block (w := w) (h.block b hb h1)
theorem Kept1.below {w w' : World} {g B : Nat} (h : Kept1 w w' g) (hB : B ≤ w.heap.size) (h1 : B ≤ g) : Below B w w' :=
  ⟨h.os, h.tape, h.output, h.size, fun i hi => h.block i (by omega) (by omega)⟩
theorem kept1_setCells {g : Nat} : ∀ (vs : List Value) (o : Nat) (w : World), Kept1 w (w.setCells g o vs) g
  | [], _, w => Kept1.refl w g
  | v :: r, o, w => (show Kept1 w (w.setCell ⟨g, o, none⟩ v) g from ⟨rfl, rfl, rfl, by simp [World.setCell], fun _ _ hi => Below.heap_setCell _ _ _ _ hi⟩).trans (kept1_setCells r (o + 1) _)
theorem Kept1.ops {w w' : World} {g b off : Nat} {xs : List OpR} (h : Kept1 w w' g) (ho : Ops w b off xs) (hb : b < w.heap.size) (hne : b ≠ g) : Ops w' b off xs := fun i hi => by
  obtain ⟨a0, a1, a2, a3⟩ := ho i hi
  have e := h.cell hb hne
  exact ⟨(e _).trans a0, (e _).trans a1, (e _).trans a2, (e _).trans a3⟩
theorem Kept1.filled {w w' : World} {g b k : Nat} {xs : List OpR} (h : Kept1 w w' g) (ho : Filled w b xs k) (hne : b ≠ g) : Filled w' b xs k := by
  obtain ⟨h1, h2, h3⟩ := ho
  have e := h.cell h1 hne
  have f := h.frozen h1 hne
  refine ⟨Nat.lt_of_lt_of_le h1 h.size, fun j hj => ⟨by rw [e]; exact (h2 j hj).1, by rw [f]; exact (h2 j hj).2⟩, fun i hi => ?_⟩
  obtain ⟨a0, a1, a2, a3⟩ := h3 i hi
  exact ⟨(e _).trans a0, (e _).trans a1, (e _).trans a2, (e _).trans a3⟩

theorem grown_kept1 {w w' : World} {g : Nat} (h : Kept1 w w' g) : w.grownBy w' (some g) := ⟨h.os, h.tape, h.output, h.size, fun i hi e => h.block i hi (fun x => e (by rw [x]))⟩
end Go.Proofs.YtokabkhnidlcnabGreatDoor

/-
  A module that was read, as it lies in memory.
-/
namespace Go.Proofs.YtokabkhnidlcnabGreatDoor
set_option maxRecDepth 100000
set_option linter.unusedSimpArgs false
set_option linter.unusedVariables false
open Go.RowKit

/-- A row of operators behind which one may be put. -/
def RowO (w : World) (B : Nat) (v : Value) (os : List OpR) : Prop := w.ownsRow B 70 4 v os.length (cellsL os)

theorem RowO.grown {w w' : World} {B : Nat} {u : Value} {us : List OpR} {row : Option Nat} (h : RowO w B u us) (hg : w.grownBy w' row) (hne : ∀ k, u.ownBlock = some k → row ≠ some k) : RowO w' B u us :=
  World.ownsRow.kept h hg (by
    cases e : u.ownBlock with
    | none => exact Or.inl rfl
    | some k => exact Or.inr (fun x => hne k e x.symm))
theorem RowO.below {w w' : World} {B : Nat} {u : Value} {us : List OpR} (h : RowO w B u us) (hb : Below w.heap.size w w') : RowO w' B u us :=
  h.grown (row := none) (grown_belN hb none) (fun k _ e => by cases e)
theorem RowO.lt {w : World} {B : Nat} {u : Value} {us : List OpR} (h : RowO w B u us) : ∀ g, u.ownBlock = some g → B ≤ g ∧ g < w.heap.size := fun g hg => World.ownsRow.lt h g hg

/-- The record of a module: its uses, its operators, its body. -/
structure UnM (w : World) (B U : Nat) (vu vo : Value) (us : List ByteArray) (os : List OpR) (b : ByteArray) : Prop where
  c0 : w.cell? ⟨U, 0, none⟩ = some vu
  c1 : w.cell? ⟨U, 1, none⟩ = some vo
  c2 : w.cell? ⟨U, 2, none⟩ = some (.string b)
  fz : ∀ o, w.frozen? ⟨U, o, none⟩ = false
  hB : B ≤ U
  ru : RowS w B vu us
  ro : RowO w B vo os
  nu : vu.ownBlock ≠ some U
  no : vo.ownBlock ≠ some U
  ne : ∀ g, vu.ownBlock = some g → vo.ownBlock ≠ some g

theorem UnM.lt {w : World} {B U : Nat} {vu vo : Value} {us : List ByteArray} {os : List OpR} {b : ByteArray} (h : UnM w B U vu vo us os b) : U < w.heap.size := World.block_lt_of_cell? _ _ h.c0

theorem UnM.below {w w' : World} {B U : Nat} {vu vo : Value} {us : List ByteArray} {os : List OpR} {b : ByteArray} (h : UnM w B U vu vo us os b) (hb : Below w.heap.size w w') : UnM w' B U vu vo us os b :=
  ⟨(hb.cell (p := ⟨U, 0, none⟩) h.lt).trans h.c0, (hb.cell (p := ⟨U, 1, none⟩) h.lt).trans h.c1, (hb.cell (p := ⟨U, 2, none⟩) h.lt).trans h.c2, fun o => (hb.frozen (p := ⟨U, o, none⟩) h.lt).trans (h.fz o), h.hB, h.ru.below hb, h.ro.below hb, h.nu, h.no, h.ne⟩

theorem frozen_grown {w w' : World} {row : Option Nat} (h : w.grownBy w' row) {b : Nat} (hb : b < w.heap.size) (hne : row ≠ some b) (o : Nat) : w'.frozen? ⟨b, o, none⟩ = w.frozen? ⟨b, o, none⟩ :=
  World.frozen?_of_block (w := w) (h.block b hb (fun e => hne e.symm))

theorem set_grown (W : World) (p o : Nat) (V : Value) : W.grownBy (W.setCell ⟨p, o, none⟩ V) (some p) :=
  ⟨rfl, rfl, rfl, by simp [World.setCell], fun i _ hi => Below.heap_setCell _ _ _ _ (fun e => hi (by rw [e]))⟩

/-- What the record's cells are behind an append to one of its rows. -/
theorem UnM.keep {w w1 w4 : World} {B U : Nat} {vu vo v : Value} {us : List ByteArray} {os : List OpR} {b : ByteArray} (h : UnM w B U vu vo us os b) (hb : Below w.heap.size w w1) (hv : v = vu ∨ v = vo) (hg : w1.grownBy w4 v.ownBlock) : (∀ o, w4.cell? ⟨U, o, none⟩ = w.cell? ⟨U, o, none⟩) ∧ (∀ o, w4.frozen? ⟨U, o, none⟩ = false) := by
  have hl := h.lt
  have hne : v.ownBlock ≠ some U := by
    rcases hv with rfl | rfl
    · exact h.nu
    · exact h.no
  have hl1 : U < w1.heap.size := Nat.lt_of_lt_of_le hl hb.size
  exact ⟨fun o => (grown_cell hg hl1 hne o).trans (hb.cell (p := ⟨U, o, none⟩) hl), fun o => (frozen_grown hg hl1 hne o).trans ((hb.frozen (p := ⟨U, o, none⟩) hl).trans (h.fz o))⟩

theorem at_not {v4 v : Value} {U H : Nat} (hat : v4.ownBlock = v.ownBlock ∨ ∃ k, v4.ownBlock = some k ∧ H ≤ k) (hv : v.ownBlock ≠ some U) (hU : U < H) : v4.ownBlock ≠ some U := fun e => by
  rcases hat with hat | ⟨k, hk, hk2⟩
  · exact hv (hat.symm.trans e)
  · rw [hk] at e; injection e with e; omega

/-- One use more. -/
theorem UnM.putU {w w1 w4 : World} {B U : Nat} {vu vo v4 : Value} {us us' : List ByteArray} {os : List OpR} {b : ByteArray} (h : UnM w B U vu vo us os b) (hb : Below w.heap.size w w1) (hg : w1.grownBy w4 vu.ownBlock) (hr : RowS w4 B v4 us') (hat : v4.ownBlock = vu.ownBlock ∨ ∃ k, v4.ownBlock = some k ∧ w1.heap.size ≤ k) :
    UnM (w4.setCell ⟨U, 0, none⟩ v4) B U v4 vo us' os b ∧ Below B w (w4.setCell ⟨U, 0, none⟩ v4) := by
  obtain ⟨kc, kf⟩ := h.keep hb (Or.inl rfl) hg
  have hl := h.lt
  have hz := hb.size
  have hBU := h.hB
  have hru := fun k e => (h.ru.lt k e)
  have hro := fun k e => (h.ro.lt k e)
  have h4 := at_not hat h.nu (by omega)
  have hro4 : RowO w4 B vo os := (h.ro.below hb).grown hg (fun k e1 e2 => h.ne k e2 e1)
  have hb4 : Below B w w4 := (hb.mono (by omega)).grown hg (by omega) (fun k e => (hru k e).1)
  refine ⟨⟨World.cell?_setCell_same _ _ _ ((kc 0).trans h.c0), (World.cell?_setCell_other _ _ _ _ (by simp)).trans ((kc 1).trans h.c1), (World.cell?_setCell_other _ _ _ _ (by simp)).trans ((kc 2).trans h.c2), fun o => (World.frozen?_setCell _ _ _ _).trans (kf o), hBU, hr.grown (set_grown _ U 0 _) (fun k e x => h4 (e.trans x.symm)), hro4.grown (set_grown _ U 0 _) (fun k e x => h.no (e.trans x.symm)), h4, h.no, fun g e e2 => ?_⟩, hb4.setCell (p := ⟨U, 0, none⟩) hBU _⟩
  rcases hat with hat | ⟨k, hk, hk2⟩
  · exact h.ne g (hat.symm.trans e) e2
  · rw [hk] at e; injection e with e; have := (hro g e2).2; omega

/-- One operator more. -/
theorem UnM.putO {w w1 w4 : World} {B U : Nat} {vu vo v4 : Value} {us : List ByteArray} {os os' : List OpR} {b : ByteArray} (h : UnM w B U vu vo us os b) (hb : Below w.heap.size w w1) (hg : w1.grownBy w4 vo.ownBlock) (hr : RowO w4 B v4 os') (hat : v4.ownBlock = vo.ownBlock ∨ ∃ k, v4.ownBlock = some k ∧ w1.heap.size ≤ k) :
    UnM (w4.setCell ⟨U, 1, none⟩ v4) B U vu v4 us os' b ∧ Below B w (w4.setCell ⟨U, 1, none⟩ v4) := by
  obtain ⟨kc, kf⟩ := h.keep hb (Or.inr rfl) hg
  have hl := h.lt
  have hz := hb.size
  have hBU := h.hB
  have hru := fun k e => (h.ru.lt k e)
  have hro := fun k e => (h.ro.lt k e)
  have h4 := at_not hat h.no (by omega)
  have hru4 : RowS w4 B vu us := (h.ru.below hb).grown hg (fun k e1 e2 => h.ne k e1 e2)
  have hb4 : Below B w w4 := (hb.mono (by omega)).grown hg (by omega) (fun k e => (hro k e).1)
  refine ⟨⟨(World.cell?_setCell_other _ _ _ _ (by simp)).trans ((kc 0).trans h.c0), World.cell?_setCell_same _ _ _ ((kc 1).trans h.c1), (World.cell?_setCell_other _ _ _ _ (by simp)).trans ((kc 2).trans h.c2), fun o => (World.frozen?_setCell _ _ _ _).trans (kf o), hBU, hru4.grown (set_grown _ U 1 _) (fun k e x => h.nu (e.trans x.symm)), hr.grown (set_grown _ U 1 _) (fun k e x => h4 (e.trans x.symm)), h.nu, h4, fun g e e2 => ?_⟩, hb4.setCell (p := ⟨U, 1, none⟩) hBU _⟩
  rcases hat with hat | ⟨k, hk, hk2⟩
  · exact h.ne g e (hat.symm.trans e2)
  · rw [hk] at e2; injection e2 with e2; have := (hru g e).2; omega

/-- What is answered of a row of words. -/
def OpwAns (w : World) (ws : List ByteArray) (e : Ending) (w' : World) : Prop :=
  ∃ (o : OpR) (v : Bool), e = .returned (.tuple #[.agg #[.string o.s, .int .i64 o.k, .int .i64 o.l, .int .i64 o.sd], .bool v]) ∧ ((v = true ∧ OpW ws o) ∨ (v = false ∧ ∀ o', ¬ OpW ws o')) ∧ Below w.heap.size w w'

theorem opw_any (F : FuncId) (v : Value) (ws : List ByteArray) (w : World) (hs : StrsAt w v ws) (hz : ∀ x ∈ ws, x.size ≤ maxLen)
    (few : ∀ (a : Option Addr) (c n : Nat) (w : World), n < 3 → Calls Tryz.prog F #[.slice a n c] w fun e w' => (∃ o : OpR, e = .returned (.tuple #[.agg #[.string o.s, .int .i64 o.k, .int .i64 o.l, .int .i64 o.sd], .bool false])) ∧ Below w.heap.size w w')
    (core : ∀ (g c n : Nat) (k t l sd : ByteArray) (w : World), 3 ≤ n → l.size ≤ maxLen → w.cell? ⟨g, 0, none⟩ = some (.string k) → w.cell? ⟨g, 1, none⟩ = some (.string t) → w.cell? ⟨g, 2, none⟩ = some (.string l) → (4 ≤ n → w.cell? ⟨g, 3, none⟩ = some (.string sd)) → Calls Tryz.prog F #[.slice (some ⟨g, 0, none⟩) n c] w (OpwPost w n k t l sd)) :
    Calls Tryz.prog F #[v] w (OpwAns w ws) := by
  by_cases h3 : ws.length < 3
  · obtain ⟨a, c, rfl, _⟩ := hs
    refine (few a c ws.length w h3).mono ?_
    rintro e w' ⟨⟨o, rfl⟩, hb⟩
    exact ⟨o, false, rfl, Or.inr ⟨rfl, fun o' ho => by have := ho.len; omega⟩, hb⟩
  · obtain ⟨g, c, rfl, hg, hc⟩ := hs.lt (by omega)
    obtain ⟨k, t, l, r, rfl⟩ := words_parts (by omega : 3 ≤ ws.length)
    obtain ⟨sd, hsd⟩ : ∃ sd, r = [] ∨ ∃ r', r = sd :: r' := by
      cases r with
      | nil => exact ⟨ByteArray.empty, Or.inl rfl⟩
      | cons x r' => exact ⟨x, Or.inr ⟨r', rfl⟩⟩
    have hlen : (k :: t :: l :: r).length = r.length + 3 := rfl
    obtain ⟨a1, a2⟩ := opAns_is (k := k) (t := t) (l := l) hsd
    rw [hlen]
    refine (core g c (r.length + 3) k t l sd w (by omega) (hz l (by simp)) (hc 0 k rfl) (hc 1 t rfl) (hc 2 l rfl) (fun h4 => hc 3 sd ?_)).mono ?_
    · rcases hsd with rfl | ⟨r', rfl⟩
      · simp at h4
      · rfl
    · rintro e w' ⟨o, v, rfl, h, hb⟩
      refine ⟨o, v, rfl, ?_, hb⟩
      rcases h with ⟨rfl, h⟩ | ⟨rfl, h⟩
      · exact Or.inl ⟨rfl, a1 o h⟩
      · exact Or.inr ⟨rfl, a2 h⟩
end Go.Proofs.YtokabkhnidlcnabGreatDoor
