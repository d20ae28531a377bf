import Derived.Test.YtokabkhnidlcnaaL01

/-
  Tables: the copy of a table, two tables that hold the same.
-/
namespace Go.Proofs.Ytokabkhnidlcnaa
set_option maxRecDepth 100000
open Go.RowKit

theorem Arg.alloc {w : World} {a : Option Addr} {xs : List OpR} (h : Arg w a xs) (o : Obj) : Arg (w.alloc o) a xs := by
  rcases h with h | ⟨b, off, rfl, h1, h2⟩
  · exact Or.inl h
  · exact Or.inr ⟨b, off, rfl, h1.below (below1 _ _) h2, by simp; omega⟩

theorem Arg.below {w w' : World} {a : Option Addr} {xs : List OpR} (h : Arg w a xs) (hb : Below w.heap.size w w') : Arg w' a xs := by
  rcases h with h | ⟨b, off, rfl, h1, h2⟩
  · exact Or.inl h
  · exact Or.inr ⟨b, off, rfl, h1.below hb h2, Nat.lt_of_lt_of_le h2 hb.size⟩

theorem CellsAt.setCell {w : World} {b off i : Nat} {xs : List OpR} (h : CellsAt w b off xs i) (p : Addr) (v : Value) (hp : p.block ≠ b) : CellsAt (w.setCell p v) b off xs i := by
  obtain ⟨h0, h1, h2, h3⟩ := h
  have e : ∀ o, (w.setCell p v).cell? ⟨b, o, none⟩ = w.cell? ⟨b, o, none⟩ := fun o => World.cell?_setCell_other _ _ _ _ (fun e => hp (by rw [e]))
  exact ⟨(e _).trans h0, (e _).trans h1, (e _).trans h2, (e _).trans h3⟩

theorem Filled.setCell {w : World} {g k : Nat} {xs : List OpR} (h : Filled w g xs k) (p : Addr) (v : Value) (hp : p.block ≠ g) : Filled (w.setCell p v) g xs k := by
  obtain ⟨h1, h2, h3⟩ := h
  refine ⟨by simpa [World.setCell] using h1, fun j hj => ⟨?_, ?_⟩, fun i hi => (h3 i hi).setCell p v hp⟩
  · rw [World.cell?_setCell_other _ _ _ _ (fun e => hp (by rw [e]))]; exact (h2 j hj).1
  · rw [World.frozen?_setCell]; exact (h2 j hj).2

theorem Filled.ops {w : World} {g : Nat} {xs : List OpR} (h : Filled w g xs xs.length) : Ops w g 0 xs := fun i hi => h.2.2 i hi

set_option maxHeartbeats 1000000 in
theorem toTable_any (a : Option Addr) (cap : Nat) (xs : List OpR) (w : World) (hm : xs.length ≤ 1048576) (hw : Arg w a xs) :
    Calls Try.prog 14 #[.agg #[.slice a xs.length cap]] w fun e w' => (∃ g, e = .returned (.agg #[.slice (some ⟨g, 0, none⟩) xs.length xs.length]) ∧ w.heap.size ≤ g ∧ Filled w' g xs xs.length) ∧ Below w.heap.size w w' := by
  have HW := hide hw
  clear hw
  go_enter Try.func14, Try.ntmps14
  go_wp2_with fail
  refine (toOpS_any _ _ _ _ hm ((((unhide HW).alloc _).alloc _).alloc _)).mono ?_
  rintro e w1 ⟨⟨g, rfl, hg, hfil⟩, hb⟩
  obtain ⟨hc, hf⟩ := bcell hb
  have hz : w.heap.size + 2 < w1.heap.size := by have := hb.size; simp at this; omega
  have hgs : w.heap.size + 3 ≤ g := by simpa using hg
  have HF := hide hfil
  clear hfil hg
  go_wp2_with fail
  refine bodyPost_ret (v := .agg #[.slice (some ⟨g, 0, none⟩) xs.length xs.length]) (by simp [results, Try.results14, go_sem, hc]) rfl ⟨⟨g, rfl, by omega, ?_⟩, ?_⟩
  · exact ((unhide HF).setCell _ _ (by simp; omega)).setCell _ _ (by simp; omega)
  · exact (((((below1 _ _).alloc (by simp) _).alloc (by simp; omega) _).trans (hb.mono (by simp; omega))).setCell (by simp; omega) _).setCell (by simp) _

set_option maxHeartbeats 400000 in
theorem eqOp_same (s : ByteArray) (k l sd : Int) (w : World) :
    Calls Try.prog 63 #[.agg #[.string s, .int .i64 k, .int .i64 l, .int .i64 sd], .agg #[.string s, .int .i64 k, .int .i64 l, .int .i64 sd]] w fun e w' => e = .returned (.bool true) ∧ Below w.heap.size w w' := by
  go_enter Try.func63, Try.ntmps63
  go_wp2
  go_ret
  exact ⟨rfl, (below1 _ _).alloc (by simp) _⟩

set_option maxHeartbeats 1000000 in
theorem eqOpS_same (b off b' off' cap cap' : Nat) (xs : List OpR) (w : World) (hm : xs.length ≤ 1048576) (h : Ops w b off xs) (h' : Ops w b' off' xs) (hB : b < w.heap.size) (hB' : b' < w.heap.size) :
    Calls Try.prog 42 #[.slice (some ⟨b, off, none⟩) xs.length cap, .slice (some ⟨b', off', none⟩) xs.length cap'] w fun e w' => e = .returned (.bool true) ∧ Below w.heap.size w w' := by
  go_enter Try.func42, Try.ntmps42
  go_wp2
  go_loopw [5] (fun i wr => ∃ k : Nat, k ≤ xs.length ∧ i = .int .i64 k ∧ Below w.heap.size w wr) (fun i _ => xs.length - (intOf i).toNat)
  case atStart => exact ⟨0, Nat.zero_le _, rfl, Below.refl _ _⟩
  case round =>
    obtain ⟨k, hk, rfl, hbel⟩ := hrel
    by_cases hlt : k < xs.length
    · obtain ⟨a0, a1, a2, a3⟩ := (h k hlt).below hbel hB
      obtain ⟨c0, c1, c2, c3⟩ := (h' k hlt).below hbel hB'
      have hltI : (k : Int) < (xs.length : Int) := by omega
      have zb : b < wr.heap.size := Nat.lt_of_lt_of_le hB hbel.size
      have zb' : b' < wr.heap.size := Nat.lt_of_lt_of_le hB' hbel.size
      go_wp2_with fail
      go_region_held (fun w' => w'.cell? ⟨b, off + k * 4, none⟩ = some (.string (atO xs k).s) ∧ w'.cell? ⟨b, off + k * 4 + 1, none⟩ = some (.int .i64 (atO xs k).k) ∧
        w'.cell? ⟨b, off + k * 4 + 2, none⟩ = some (.int .i64 (atO xs k).l) ∧ w'.cell? ⟨b, off + k * 4 + 3, none⟩ = some (.int .i64 (atO xs k).sd) ∧
        w'.cell? ⟨b', off' + k * 4, none⟩ = some (.string (atO xs k).s) ∧ w'.cell? ⟨b', off' + k * 4 + 1, none⟩ = some (.int .i64 (atO xs k).k) ∧
        w'.cell? ⟨b', off' + k * 4 + 2, none⟩ = some (.int .i64 (atO xs k).l) ∧ w'.cell? ⟨b', off' + k * 4 + 3, none⟩ = some (.int .i64 (atO xs k).sd)) (go_keep)
        (first | (go_at_call 63; refine (eqOp_same _ _ _ _ _).mono ?_; rintro e w1 ⟨rfl, hb1⟩; obtain ⟨q0, q1, q2, q3⟩ := CellsAt.below (w := wr.drew) ⟨a0, a1, a2, a3⟩ hb1 zb; obtain ⟨p0, p1, p2, p3⟩ := CellsAt.below (w := wr.drew) ⟨c0, c1, c2, c3⟩ hb1 zb'))
      go_wp2
      exact ⟨⟨k + 1, by omega, by go_num, hbel.trans (((Below.refl _ _).drew.trans hb1).mono hbel.size)⟩, by simp [intOf]; omega⟩
    · go_wp2
      go_ret
      exact ⟨rfl, hbel⟩
end Go.Proofs.Ytokabkhnidlcnaa

/-
  Worlds in which one block alone has turned.
-/
namespace Go.Proofs.Ytokabkhnidlcnaa
set_option maxRecDepth 100000
open Go.RowKit

/-- Nothing but one block has turned. -/
structure Kept1 (w w' : World) (g : Nat) : Prop where
  os : w'.os = w.os
  tape : w'.tape = w.tape
  output : w'.output = w.output
  size : w.heap.size ≤ w'.heap.size
  block : ∀ i, i < w.heap.size → i ≠ g → w'.heap[i]? = w.heap[i]?

theorem Kept1.refl (w : World) (g : Nat) : Kept1 w w g := ⟨rfl, rfl, rfl, Nat.le_refl _, fun _ _ _ => rfl⟩
theorem Kept1.trans {w w1 w2 : World} {g : Nat} (h : Kept1 w w1 g) (h' : Kept1 w1 w2 g) : Kept1 w w2 g :=
  ⟨h'.os.trans h.os, h'.tape.trans h.tape, h'.output.trans h.output, Nat.le_trans h.size h'.size, fun i hi a => (h'.block i (Nat.lt_of_lt_of_le hi h.size) a).trans (h.block i hi a)⟩
theorem Kept1.of_below {w w' : World} {g : Nat} (h : Below w.heap.size w w') : Kept1 w w' g := ⟨h.os, h.tape, h.output, h.size, fun i hi _ => h.block i hi⟩
theorem Kept1.cell {w w' : World} {g : Nat} (h : Kept1 w w' g) {b : Nat} (hb : b < w.heap.size) (h1 : b ≠ g) (o : Nat) : w'.cell? ⟨b, o, none⟩ = w.cell? ⟨b, o, none⟩ :=
  World.cell?_of_block (w := w) (h.block b hb h1)
theorem Kept1.frozen {w w' : World} {g : Nat} (h : Kept1 w w' g) {b : Nat} (hb : b < w.heap.size) (h1 : b ≠ g) (o : Nat) : w'.frozen? ⟨b, o, none⟩ = w.frozen? ⟨b, o, none⟩ :=
  World.frozen?_of_block (w := w) (h.block b hb h1)
theorem Kept1.below {w w' : World} {g B : Nat} (h : Kept1 w w' g) (hB : B ≤ w.heap.size) (h1 : B ≤ g) : Below B w w' :=
  ⟨h.os, h.tape, h.output, h.size, fun i hi => h.block i (by omega) (by omega)⟩
theorem kept1_setCells {g : Nat} : ∀ (vs : List Value) (o : Nat) (w : World), Kept1 w (w.setCells g o vs) g
  | [], _, w => Kept1.refl w g
  | v :: r, o, w => (show Kept1 w (w.setCell ⟨g, o, none⟩ v) g from ⟨rfl, rfl, rfl, by simp [World.setCell], fun _ _ hi => Below.heap_setCell _ _ _ _ hi⟩).trans (kept1_setCells r (o + 1) _)
theorem Kept1.ops {w w' : World} {g b off : Nat} {xs : List OpR} (h : Kept1 w w' g) (ho : Ops w b off xs) (hb : b < w.heap.size) (hne : b ≠ g) : Ops w' b off xs := fun i hi => by
  obtain ⟨a0, a1, a2, a3⟩ := ho i hi
  have e := h.cell hb hne
  exact ⟨(e _).trans a0, (e _).trans a1, (e _).trans a2, (e _).trans a3⟩
theorem Kept1.filled {w w' : World} {g b k : Nat} {xs : List OpR} (h : Kept1 w w' g) (ho : Filled w b xs k) (hne : b ≠ g) : Filled w' b xs k := by
  obtain ⟨h1, h2, h3⟩ := ho
  have e := h.cell h1 hne
  have f := h.frozen h1 hne
  refine ⟨Nat.lt_of_lt_of_le h1 h.size, fun j hj => ⟨by rw [e]; exact (h2 j hj).1, by rw [f]; exact (h2 j hj).2⟩, fun i hi => ?_⟩
  obtain ⟨a0, a1, a2, a3⟩ := h3 i hi
  exact ⟨(e _).trans a0, (e _).trans a1, (e _).trans a2, (e _).trans a3⟩

theorem grown_kept1 {w w' : World} {g : Nat} (h : Kept1 w w' g) : w.grownBy w' (some g) := ⟨h.os, h.tape, h.output, h.size, fun i hi e => h.block i hi (fun x => e (by rw [x]))⟩

end Go.Proofs.Ytokabkhnidlcnaa
