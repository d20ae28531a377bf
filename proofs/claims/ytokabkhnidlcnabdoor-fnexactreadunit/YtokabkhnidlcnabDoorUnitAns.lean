/-
  What ReadUnit hands back, as it lies in memory.
-/
import Derived.Test.YtokabkhnidlcnabDoorUnitMem
import Derived.Test.YtokabkhnidlcnabDoorSpecWds
namespace Go.Proofs.YtokabkhnidlcnabDoor
set_option maxRecDepth 100000
set_option linter.unusedSimpArgs false
set_option linter.unusedVariables false
open Go.RowKit

theorem RowS.base {w : World} {B B' : Nat} {v : Value} {ws : List ByteArray} (h : RowS w B v ws) (hb : B' ≤ B) : RowS w B' v ws := by
  obtain ⟨h1, h2 | ⟨g, cap, cur, hv, hg, h3⟩⟩ := h
  · exact ⟨h1, Or.inl h2⟩
  · exact ⟨h1, Or.inr ⟨g, cap, cur, hv, Nat.le_trans hb hg, h3⟩⟩
theorem RowO.base {w : World} {B B' : Nat} {v : Value} {ws : List OpR} (h : RowO w B v ws) (hb : B' ≤ B) : RowO w B' v ws := by
  obtain ⟨h1, h2 | ⟨g, cap, cur, hv, hg, h3⟩⟩ := h
  · exact ⟨h1, Or.inl h2⟩
  · exact ⟨h1, Or.inr ⟨g, cap, cur, hv, Nat.le_trans hb hg, h3⟩⟩

/-- What is handed back. -/
def UnitAns (w : World) (s : ByteArray) (e : Ending) (w' : World) : Prop :=
  ∃ (vu vo : Value) (us : List ByteArray) (os : List OpR) (b : ByteArray) (c l : Int), e = .returned (.tuple #[.agg #[vu, vo, .string b], .int .i64 c, .int .i64 l]) ∧ UnitIs s us os b c l ∧
    RowS w' w.heap.size vu us ∧ RowO w' w.heap.size vo os ∧ (∀ g, vu.ownBlock = some g → vo.ownBlock ≠ some g) ∧ us.length ≤ 20001 ∧ os.length ≤ 20001 ∧ Below w.heap.size w w'

/-- The answer that holds nothing. -/
theorem unitAns_none {w w' : World} {s : ByteArray} {c l : Int} (h : UnitIs s [] [] ByteArray.empty c l) (hb : Below w.heap.size w w') :
    UnitAns w s (.returned (.tuple #[.agg #[.slice none 0 0, .slice none 0 0, .string ⟨#[]⟩], .int .i64 c, .int .i64 l])) w' :=
  ⟨.slice none 0 0, .slice none 0 0, [], [], ByteArray.empty, c, l, rfl, h, World.ownsRow_nil _ _ _ _, World.ownsRow_nil _ _ _ _, (fun g e => by cases e), by simp, by simp, hb⟩

/-- The cells of a record that holds nothing, and that it may be written. -/
def ZeroU (w : World) (H : Nat) : Prop := w.cell? ⟨H, 0, none⟩ = some (.slice none 0 0) ∧ w.cell? ⟨H, 1, none⟩ = some (.slice none 0 0) ∧ w.cell? ⟨H, 2, none⟩ = some (.string ⟨#[]⟩) ∧ (∀ o, w.frozen? ⟨H, o, none⟩ = false)

theorem ZeroU.below {w w' : World} {H B : Nat} (h : ZeroU w H) (hb : Below B w w') (hB : H < B) : ZeroU w' H := by
  obtain ⟨h0, h1, h2, h3⟩ := h
  exact ⟨(hb.cell (p := ⟨H, 0, none⟩) hB).trans h0, (hb.cell (p := ⟨H, 1, none⟩) hB).trans h1, (hb.cell (p := ⟨H, 2, none⟩) hB).trans h2, fun o => (hb.frozen (p := ⟨H, o, none⟩) hB).trans (h3 o)⟩

/-- The answer that hands the record over. -/
theorem unitAns_some {w w3 : World} {s : ByteArray} {B U : Nat} {vu vo : Value} {us : List ByteArray} {os : List OpR} {b b' : ByteArray} (hU : w.heap.size < B) (h : UnM w3 B U vu vo us os b) (hb : Below w.heap.size w w3) (hi : UnitIs s us os b' 0 0) (h1 : us.length ≤ 20001) (h2 : os.length ≤ 20001) :
    UnitAns w s (.returned (.tuple #[.agg #[vu, vo, .string b'], .int .i64 0, .int .i64 0])) ((w3.setCell ⟨U, 2, none⟩ (.string b')).setCells w.heap.size 0 [vu, vo, .string b']) ∧
    UnitAns w s (.returned (.tuple #[.agg #[vu, vo, .string b'], .int .i64 0, .int .i64 0])) (w3.setCells w.heap.size 0 [vu, vo, .string b']) := by
  have hk := fun W => grown_kept1 (kept1_setCells (g := w.heap.size) [vu, vo, .string b'] 0 W)
  have hBU := h.hB
  have nu : ∀ k, vu.ownBlock = some k → some w.heap.size ≠ some k := fun k e x => by injection x with x; have := (h.ru.lt k e).1; omega
  have no : ∀ k, vo.ownBlock = some k → some w.heap.size ≠ some k := fun k e x => by injection x with x; have := (h.ro.lt k e).1; omega
  have nu2 : ∀ k, vu.ownBlock = some k → some U ≠ some k := fun k e x => h.nu (e.trans x.symm)
  have no2 : ∀ k, vo.ownBlock = some k → some U ≠ some k := fun k e x => h.no (e.trans x.symm)
  constructor
  · exact ⟨vu, vo, us, os, b', 0, 0, rfl, hi, ((h.ru.grown (set_grown _ U 2 _) nu2).grown (hk _) nu).base (by omega), ((h.ro.grown (set_grown _ U 2 _) no2).grown (hk _) no).base (by omega), h.ne, h1, h2, below_setCells (Nat.le_refl _) _ 0 _ (hb.setCell (p := ⟨U, 2, none⟩) (by show w.heap.size ≤ U; omega) _)⟩
  · exact ⟨vu, vo, us, os, b', 0, 0, rfl, hi, (h.ru.grown (hk _) nu).base (by omega), (h.ro.grown (hk _) no).base (by omega), h.ne, h1, h2, below_setCells (Nat.le_refl _) _ 0 _ hb⟩

theorem wds_size {l x : ByteArray} (h : x ∈ wds l) : x.size ≤ l.size := by
  unfold wds at h
  obtain ⟨p, _, rfl⟩ := List.mem_map.1 h
  rw [size_ext]
  omega

/-- From some line on. -/
def Then (s : ByteArray) (ls : List (Nat × Nat)) (n : Nat) (us : List ByteArray) (os : List OpR) : Prop := ∀ u o b c l, UnF s ls n us os u o b c l → UnitIs s u o b c l

theorem Then.start {s : ByteArray} (hs : s.size ≤ 20000) : Then s (pcs 10 s 0) 1 [] [] := fun u o b c l h => Or.inr ⟨hs, h⟩
theorem Then.begin {s : ByteArray} {p : Nat × Nat} {r : List (Nat × Nat)} {n : Nat} {us : List ByteArray} {os : List OpR} (h : Then s (p :: r) n us os) (hw : wds (s.extract p.1 p.2) = [wBegin]) : UnitIs s us os (bodyB s p.2) 0 0 :=
  h _ _ _ _ _ (Or.inl ⟨hw, rfl, rfl, rfl, rfl, rfl⟩)
theorem Then.bad {s : ByteArray} {p : Nat × Nat} {r : List (Nat × Nat)} {n : Nat} {us : List ByteArray} {os : List OpR} (h : Then s (p :: r) n us os) (hw : wds (s.extract p.1 p.2) ≠ [wBegin]) (hl : ∀ us' os', ¬ LineIs (wds (s.extract p.1 p.2)) us os us' os') : UnitIs s [] [] ByteArray.empty 2 (n : Int) :=
  h _ _ _ _ _ (Or.inr ⟨hw, Or.inr ⟨hl, rfl, rfl, rfl, rfl, rfl⟩⟩)
theorem Then.next {s : ByteArray} {p : Nat × Nat} {r : List (Nat × Nat)} {n : Nat} {us us' : List ByteArray} {os os' : List OpR} (h : Then s (p :: r) n us os) (hw : wds (s.extract p.1 p.2) ≠ [wBegin]) (hl : LineIs (wds (s.extract p.1 p.2)) us os us' os') : Then s r (n + 1) us' os' :=
  fun u o b c l hu => h _ _ _ _ _ (Or.inr ⟨hw, Or.inl ⟨us', os', hl, hu⟩⟩)
theorem Then.fin {s : ByteArray} {n : Nat} {us : List ByteArray} {os : List OpR} (h : Then s [] n us os) : UnitIs s [] [] ByteArray.empty 3 0 := h _ _ _ _ _ ⟨rfl, rfl, rfl, rfl, rfl⟩
end Go.Proofs.YtokabkhnidlcnabDoor
