/-
  A module that was read, as it lies in memory.
-/
import Derived.Test.YtokabkhnidlcnabDoorOpwM
import Derived.Test.YtokabkhnidlcnabDoorOpRowE
import Derived.Test.YtokabkhnidlcnabDoorKeptE
namespace Go.Proofs.YtokabkhnidlcnabDoor
set_option maxRecDepth 100000
set_option linter.unusedSimpArgs false
set_option linter.unusedVariables false
open Go.RowKit

/-- A row of operators behind which one may be put. -/
def RowO (w : World) (B : Nat) (v : Value) (os : List OpR) : Prop := w.ownsRow B 37 4 v os.length (cellsL os)

theorem RowO.grown {w w' : World} {B : Nat} {u : Value} {us : List OpR} {row : Option Nat} (h : RowO w B u us) (hg : w.grownBy w' row) (hne : ∀ k, u.ownBlock = some k → row ≠ some k) : RowO w' B u us :=
  World.ownsRow.kept h hg (by
    cases e : u.ownBlock with
    | none => exact Or.inl rfl
    | some k => exact Or.inr (fun x => hne k e x.symm))
theorem RowO.below {w w' : World} {B : Nat} {u : Value} {us : List OpR} (h : RowO w B u us) (hb : Below w.heap.size w w') : RowO w' B u us :=
  h.grown (row := none) (grown_belN hb none) (fun k _ e => by cases e)
theorem RowO.lt {w : World} {B : Nat} {u : Value} {us : List OpR} (h : RowO w B u us) : ∀ g, u.ownBlock = some g → B ≤ g ∧ g < w.heap.size := fun g hg => World.ownsRow.lt h g hg

/-- The record of a module: its uses, its operators, its body. -/
structure UnM (w : World) (B U : Nat) (vu vo : Value) (us : List ByteArray) (os : List OpR) (b : ByteArray) : Prop where
  c0 : w.cell? ⟨U, 0, none⟩ = some vu
  c1 : w.cell? ⟨U, 1, none⟩ = some vo
  c2 : w.cell? ⟨U, 2, none⟩ = some (.string b)
  fz : ∀ o, w.frozen? ⟨U, o, none⟩ = false
  hB : B ≤ U
  ru : RowS w B vu us
  ro : RowO w B vo os
  nu : vu.ownBlock ≠ some U
  no : vo.ownBlock ≠ some U
  ne : ∀ g, vu.ownBlock = some g → vo.ownBlock ≠ some g

theorem UnM.lt {w : World} {B U : Nat} {vu vo : Value} {us : List ByteArray} {os : List OpR} {b : ByteArray} (h : UnM w B U vu vo us os b) : U < w.heap.size := World.block_lt_of_cell? _ _ h.c0

theorem UnM.below {w w' : World} {B U : Nat} {vu vo : Value} {us : List ByteArray} {os : List OpR} {b : ByteArray} (h : UnM w B U vu vo us os b) (hb : Below w.heap.size w w') : UnM w' B U vu vo us os b :=
  ⟨(hb.cell (p := ⟨U, 0, none⟩) h.lt).trans h.c0, (hb.cell (p := ⟨U, 1, none⟩) h.lt).trans h.c1, (hb.cell (p := ⟨U, 2, none⟩) h.lt).trans h.c2, fun o => (hb.frozen (p := ⟨U, o, none⟩) h.lt).trans (h.fz o), h.hB, h.ru.below hb, h.ro.below hb, h.nu, h.no, h.ne⟩

theorem frozen_grown {w w' : World} {row : Option Nat} (h : w.grownBy w' row) {b : Nat} (hb : b < w.heap.size) (hne : row ≠ some b) (o : Nat) : w'.frozen? ⟨b, o, none⟩ = w.frozen? ⟨b, o, none⟩ :=
  World.frozen?_of_block (w := w) (h.block b hb (fun e => hne e.symm))

theorem set_grown (W : World) (p o : Nat) (V : Value) : W.grownBy (W.setCell ⟨p, o, none⟩ V) (some p) :=
  ⟨rfl, rfl, rfl, by simp [World.setCell], fun i _ hi => Below.heap_setCell _ _ _ _ (fun e => hi (by rw [e]))⟩

/-- What the record's cells are behind an append to one of its rows. -/
theorem UnM.keep {w w1 w4 : World} {B U : Nat} {vu vo v : Value} {us : List ByteArray} {os : List OpR} {b : ByteArray} (h : UnM w B U vu vo us os b) (hb : Below w.heap.size w w1) (hv : v = vu ∨ v = vo) (hg : w1.grownBy w4 v.ownBlock) : (∀ o, w4.cell? ⟨U, o, none⟩ = w.cell? ⟨U, o, none⟩) ∧ (∀ o, w4.frozen? ⟨U, o, none⟩ = false) := by
  have hl := h.lt
  have hne : v.ownBlock ≠ some U := by
    rcases hv with rfl | rfl
    · exact h.nu
    · exact h.no
  have hl1 : U < w1.heap.size := Nat.lt_of_lt_of_le hl hb.size
  exact ⟨fun o => (grown_cell hg hl1 hne o).trans (hb.cell (p := ⟨U, o, none⟩) hl), fun o => (frozen_grown hg hl1 hne o).trans ((hb.frozen (p := ⟨U, o, none⟩) hl).trans (h.fz o))⟩

theorem at_not {v4 v : Value} {U H : Nat} (hat : v4.ownBlock = v.ownBlock ∨ ∃ k, v4.ownBlock = some k ∧ H ≤ k) (hv : v.ownBlock ≠ some U) (hU : U < H) : v4.ownBlock ≠ some U := fun e => by
  rcases hat with hat | ⟨k, hk, hk2⟩
  · exact hv (hat.symm.trans e)
  · rw [hk] at e; injection e with e; omega

/-- One use more. -/
theorem UnM.putU {w w1 w4 : World} {B U : Nat} {vu vo v4 : Value} {us us' : List ByteArray} {os : List OpR} {b : ByteArray} (h : UnM w B U vu vo us os b) (hb : Below w.heap.size w w1) (hg : w1.grownBy w4 vu.ownBlock) (hr : RowS w4 B v4 us') (hat : v4.ownBlock = vu.ownBlock ∨ ∃ k, v4.ownBlock = some k ∧ w1.heap.size ≤ k) :
    UnM (w4.setCell ⟨U, 0, none⟩ v4) B U v4 vo us' os b ∧ Below B w (w4.setCell ⟨U, 0, none⟩ v4) := by
  obtain ⟨kc, kf⟩ := h.keep hb (Or.inl rfl) hg
  have hl := h.lt
  have hz := hb.size
  have hBU := h.hB
  have hru := fun k e => (h.ru.lt k e)
  have hro := fun k e => (h.ro.lt k e)
  have h4 := at_not hat h.nu (by omega)
  have hro4 : RowO w4 B vo os := (h.ro.below hb).grown hg (fun k e1 e2 => h.ne k e2 e1)
  have hb4 : Below B w w4 := (hb.mono (by omega)).grown hg (by omega) (fun k e => (hru k e).1)
  refine ⟨⟨World.cell?_setCell_same _ _ _ ((kc 0).trans h.c0), (World.cell?_setCell_other _ _ _ _ (by simp)).trans ((kc 1).trans h.c1), (World.cell?_setCell_other _ _ _ _ (by simp)).trans ((kc 2).trans h.c2), fun o => (World.frozen?_setCell _ _ _ _).trans (kf o), hBU, hr.grown (set_grown _ U 0 _) (fun k e x => h4 (e.trans x.symm)), hro4.grown (set_grown _ U 0 _) (fun k e x => h.no (e.trans x.symm)), h4, h.no, fun g e e2 => ?_⟩, hb4.setCell (p := ⟨U, 0, none⟩) hBU _⟩
  rcases hat with hat | ⟨k, hk, hk2⟩
  · exact h.ne g (hat.symm.trans e) e2
  · rw [hk] at e; injection e with e; have := (hro g e2).2; omega

/-- One operator more. -/
theorem UnM.putO {w w1 w4 : World} {B U : Nat} {vu vo v4 : Value} {us : List ByteArray} {os os' : List OpR} {b : ByteArray} (h : UnM w B U vu vo us os b) (hb : Below w.heap.size w w1) (hg : w1.grownBy w4 vo.ownBlock) (hr : RowO w4 B v4 os') (hat : v4.ownBlock = vo.ownBlock ∨ ∃ k, v4.ownBlock = some k ∧ w1.heap.size ≤ k) :
    UnM (w4.setCell ⟨U, 1, none⟩ v4) B U vu v4 us os' b ∧ Below B w (w4.setCell ⟨U, 1, none⟩ v4) := by
  obtain ⟨kc, kf⟩ := h.keep hb (Or.inr rfl) hg
  have hl := h.lt
  have hz := hb.size
  have hBU := h.hB
  have hru := fun k e => (h.ru.lt k e)
  have hro := fun k e => (h.ro.lt k e)
  have h4 := at_not hat h.no (by omega)
  have hru4 : RowS w4 B vu us := (h.ru.below hb).grown hg (fun k e1 e2 => h.ne k e1 e2)
  have hb4 : Below B w w4 := (hb.mono (by omega)).grown hg (by omega) (fun k e => (hro k e).1)
  refine ⟨⟨(World.cell?_setCell_other _ _ _ _ (by simp)).trans ((kc 0).trans h.c0), World.cell?_setCell_same _ _ _ ((kc 1).trans h.c1), (World.cell?_setCell_other _ _ _ _ (by simp)).trans ((kc 2).trans h.c2), fun o => (World.frozen?_setCell _ _ _ _).trans (kf o), hBU, hru4.grown (set_grown _ U 1 _) (fun k e x => h.nu (e.trans x.symm)), hr.grown (set_grown _ U 1 _) (fun k e x => h4 (e.trans x.symm)), h.nu, h4, fun g e e2 => ?_⟩, hb4.setCell (p := ⟨U, 1, none⟩) hBU _⟩
  rcases hat with hat | ⟨k, hk, hk2⟩
  · exact h.ne g e (hat.symm.trans e2)
  · rw [hk] at e2; injection e2 with e2; have := (hru g e).2; omega

/-- What is answered of a row of words. -/
def OpwAns (w : World) (ws : List ByteArray) (e : Ending) (w' : World) : Prop :=
  ∃ (o : OpR) (v : Bool), e = .returned (.tuple #[.agg #[.string o.s, .int .i64 o.k, .int .i64 o.l, .int .i64 o.sd], .bool v]) ∧ ((v = true ∧ OpW ws o) ∨ (v = false ∧ ∀ o', ¬ OpW ws o')) ∧ Below w.heap.size w w'

theorem opw_any (F : FuncId) (v : Value) (ws : List ByteArray) (w : World) (hs : StrsAt w v ws) (hz : ∀ x ∈ ws, x.size ≤ maxLen)
    (few : ∀ (a : Option Addr) (c n : Nat) (w : World), n < 3 → Calls Tryd.prog F #[.slice a n c] w fun e w' => (∃ o : OpR, e = .returned (.tuple #[.agg #[.string o.s, .int .i64 o.k, .int .i64 o.l, .int .i64 o.sd], .bool false])) ∧ Below w.heap.size w w')
    (core : ∀ (g c n : Nat) (k t l sd : ByteArray) (w : World), 3 ≤ n → l.size ≤ maxLen → w.cell? ⟨g, 0, none⟩ = some (.string k) → w.cell? ⟨g, 1, none⟩ = some (.string t) → w.cell? ⟨g, 2, none⟩ = some (.string l) → (4 ≤ n → w.cell? ⟨g, 3, none⟩ = some (.string sd)) → Calls Tryd.prog F #[.slice (some ⟨g, 0, none⟩) n c] w (OpwPost w n k t l sd)) :
    Calls Tryd.prog F #[v] w (OpwAns w ws) := by
  by_cases h3 : ws.length < 3
  · obtain ⟨a, c, rfl, _⟩ := hs
    refine (few a c ws.length w h3).mono ?_
    rintro e w' ⟨⟨o, rfl⟩, hb⟩
    exact ⟨o, false, rfl, Or.inr ⟨rfl, fun o' ho => by have := ho.len; omega⟩, hb⟩
  · obtain ⟨g, c, rfl, hg, hc⟩ := hs.lt (by omega)
    obtain ⟨k, t, l, r, rfl⟩ := words_parts (by omega : 3 ≤ ws.length)
    obtain ⟨sd, hsd⟩ : ∃ sd, r = [] ∨ ∃ r', r = sd :: r' := by
      cases r with
      | nil => exact ⟨ByteArray.empty, Or.inl rfl⟩
      | cons x r' => exact ⟨x, Or.inr ⟨r', rfl⟩⟩
    have hlen : (k :: t :: l :: r).length = r.length + 3 := rfl
    obtain ⟨a1, a2⟩ := opAns_is (k := k) (t := t) (l := l) hsd
    rw [hlen]
    refine (core g c (r.length + 3) k t l sd w (by omega) (hz l (by simp)) (hc 0 k rfl) (hc 1 t rfl) (hc 2 l rfl) (fun h4 => hc 3 sd ?_)).mono ?_
    · rcases hsd with rfl | ⟨r', rfl⟩
      · simp at h4
      · rfl
    · rintro e w' ⟨o, v, rfl, h, hb⟩
      refine ⟨o, v, rfl, ?_, hb⟩
      rcases h with ⟨rfl, h⟩ | ⟨rfl, h⟩
      · exact Or.inl ⟨rfl, a1 o h⟩
      · exact Or.inr ⟨rfl, a2 h⟩
end Go.Proofs.YtokabkhnidlcnabDoor
