import Derived.Deep.DeepCutAuto
import Derived.Deep.RegionHeld
import Derived.Deep.RegionHeldLaw
import Derived.Deep.AppendLies
import Derived.BigQuiet
import Derived.Test.YtfboipappaonhaaGreatU17
import Derived.Test.YtfboipappaonhaaGreatU18
import Derived.Test.YtfboipappaonhaaGreatU27
import Derived.Test.YtfboipappaonhaaGreatU30

/-
  Rows of words that a call makes by append.
-/
namespace Go.Proofs.YtfboipappaonhaaGreat
set_option maxRecDepth 100000
set_option linter.unusedSimpArgs false
set_option linter.unusedVariables false
open Go.RowKit

def cellsW (zs : List WordR) : List Value := zs.flatMap fun x => [.string x.t, .bool x.o, .bool x.i]
theorem cellsW_append (xs ys : List WordR) : cellsW (xs ++ ys) = cellsW xs ++ cellsW ys := by simp [cellsW]
theorem cellsW_len : ∀ zs : List WordR, (cellsW zs).length = zs.length * 3
  | [] => rfl
  | o :: r => by
    have := cellsW_len r
    simp only [cellsW, List.flatMap_cons, List.length_append, List.length_cons, List.length_nil] at *
    omega

theorem cellsW_at : ∀ (zs : List WordR) (i : Nat), i < zs.length → (cellsW zs)[i * 3]? = some (.string (atW zs i).t) ∧ (cellsW zs)[i * 3 + 1]? = some (.bool (atW zs i).o) ∧ (cellsW zs)[i * 3 + 2]? = some (.bool (atW zs i).i)
  | [], i, h => absurd h (Nat.not_lt_zero i)
  | o :: r, 0, _ => ⟨rfl, rfl, rfl⟩
  | o :: r, i + 1, h => by
    have ih := cellsW_at r i (by simpa using h)
    have e : ∀ j, (cellsW (o :: r))[(i + 1) * 3 + j]? = (cellsW r)[i * 3 + j]? := fun j => by
      have : (i + 1) * 3 + j = (i * 3 + j) + 3 := by omega
      rw [this]
      rfl
    exact ⟨(e 0).trans ih.1, (e 1).trans ih.2.1, (e 2).trans ih.2.2⟩

theorem cellsW_one' (zs : List WordR) : ∀ u ∈ cellsW zs, u.oneCell' = true := by
  intro u hu
  simp only [cellsW, List.mem_flatMap] at hu
  obtain ⟨o, _, ho⟩ := hu
  simp at ho
  rcases ho with rfl | rfl | rfl <;> rfl

theorem infoW : (Tryz.prog.info? 54).map (fun i => (i.zero, i.size, i.bytes)) = some (some (.agg #[.string ⟨#[]⟩, .bool false, .bool false]), 3, 24) := by kernel_rfl

/-- A new word in a block of its own. -/
theorem new_newsW (w : World) (x : WordR) : ∀ j u, (cellsW [x])[j]? = some u → (w.alloc (.cells #[.string x.t, .bool x.o, .bool x.i] 54)).cell? ((⟨w.heap.size, 0, none⟩ : Addr).add j) = some u := by
  intro j u hj
  rw [Addr.add_mid]
  have := World.rangeAt_of_block (w := w.alloc (.cells #[.string x.t, .bool x.o, .bool x.i] 54)) (b := w.heap.size) (heap_alloc_new w _) 0 3
  exact this j u (by simpa [cellsW] using hj)

/-- A row of words behind which one may be put. -/
def RowW (w : World) (B : Nat) (u : Value) (us : List WordR) : Prop := w.ownsRow B 54 3 u us.length (cellsW us)

theorem rowW_slice {w : World} {B : Nat} {u : Value} {us : List WordR} (h : RowW w B u us) : ∃ a c, u = .slice a us.length c := by
  obtain ⟨_, ⟨h1, h2⟩ | ⟨g, cap, cur, h1, _⟩⟩ := h
  · exact ⟨none, 0, by rw [h2]; exact h1⟩
  · exact ⟨_, _, h1⟩

theorem RowW.below {w w' : World} {B : Nat} {u : Value} {us : List WordR} (h : RowW w B u us) (hb : Below w.heap.size w w') : RowW w' B u us :=
  World.ownsRow.kept h (grown_belN hb none) (by cases u.ownBlock with
  | none => exact Or.inl rfl
  | some k => exact Or.inr (by simp))

theorem RowW.lt {w : World} {B : Nat} {u : Value} {us : List WordR} (h : RowW w B u us) : ∀ g, u.ownBlock = some g → B ≤ g ∧ g < w.heap.size := fun g hg => World.ownsRow.lt h g hg

/-- The words of a row, as they lie in memory. -/
def OpsW (w : World) (g : Nat) (ws : List WordR) : Prop := ∀ i, i < ws.length → w.cell? ⟨g, i * 3, none⟩ = some (.string (atW ws i).t) ∧ w.cell? ⟨g, i * 3 + 1, none⟩ = some (.bool (atW ws i).o) ∧ w.cell? ⟨g, i * 3 + 2, none⟩ = some (.bool (atW ws i).i)

theorem OpsW.below {w w' : World} {g : Nat} {ws : List WordR} {B : Nat} (h : OpsW w g ws) (hb : Below B w w') (hB : g < B) : OpsW w' g ws := fun i hi => by
  obtain ⟨h0, h1, h2⟩ := h i hi
  exact ⟨(hb.cell (p := ⟨g, _, none⟩) hB).trans h0, (hb.cell (p := ⟨g, _, none⟩) hB).trans h1, (hb.cell (p := ⟨g, _, none⟩) hB).trans h2⟩

theorem RowW.ops {w : World} {B g c : Nat} {us : List WordR} (h : RowW w B (.slice (some ⟨g, 0, none⟩) us.length c) us) : OpsW w g us := fun i hi => by
  obtain ⟨c0, c1, c2⟩ := cellsW_at us i hi
  have e := fun j (hj : j < 3) => World.ownsRow.cellAt h (i * 3 + j) (by omega)
  exact ⟨by simpa using (e 0 (by omega)).trans c0, by simpa using (e 1 (by omega)).trans c1, by simpa using (e 2 (by omega)).trans c2⟩

/-- What a call of l4Yield hands back. -/
def YPost (w : World) (B : Nat) (u : Value) (vs : List WordR) (x : Ending) (w' : World) : Prop :=
  ∃ u', x = .returned u' ∧ Hid (RowW w' B u' vs) ∧ Hid (w.grownBy w' u.ownBlock) ∧ Hid (u'.ownBlock = u.ownBlock ∨ ∃ k, u'.ownBlock = some k ∧ w.heap.size ≤ k)

theorem YPost.up {w w1 : World} {B : Nat} {u : Value} {vs : List WordR} (h : Below w.heap.size w w1) {x : Ending} {w' : World} (hp : YPost w1 B u vs x w') : YPost w B u vs x w' := by
  obtain ⟨u', rfl, hr, hg, ho⟩ := hp
  have := h.size
  exact ⟨u', rfl, hr, hide (grown_below h (unhide hg)), hide ((unhide ho).imp id (fun ⟨k, h1, h2⟩ => ⟨k, h1, by omega⟩))⟩

theorem YPost.join {w w1 : World} {B : Nat} {u u1 : Value} {vs : List WordR} (h2 : w.grownBy w1 u.ownBlock) (h3 : u1.ownBlock = u.ownBlock ∨ ∃ k, u1.ownBlock = some k ∧ w.heap.size ≤ k) {x : Ending} {w' : World} (hp : YPost w1 B u1 vs x w') : YPost w B u vs x w' := by
  obtain ⟨u', rfl, p1, p2, p3⟩ := hp
  exact ⟨u', rfl, p1, hide (grown_trans h2 (unhide p2) h3), hide (grown_at h2 h3 _ (unhide p3))⟩
end Go.Proofs.YtfboipappaonhaaGreat

/-
  Walks: the specification's words of a tree (l4Yield).
-/
namespace Go.Proofs.YtfboipappaonhaaGreat
set_option maxRecDepth 100000
set_option linter.unusedSimpArgs false
set_option linter.unusedVariables false
open Go.RowKit

/-- A word in a block of its own. -/
def WrdAt (w : World) (a : Nat) (x : WordR) : Prop := w.cell? ⟨a, 0, none⟩ = some (.string x.t) ∧ w.cell? ⟨a, 1, none⟩ = some (.bool x.o) ∧ w.cell? ⟨a, 2, none⟩ = some (.bool x.i)

theorem wrd_set {W : World} {b : Nat} (x : WordR) (h0 : ∃ u, W.cell? ⟨b, 0, none⟩ = some u) (h1 : ∃ u, W.cell? ⟨b, 1, none⟩ = some u) (h2 : ∃ u, W.cell? ⟨b, 2, none⟩ = some u) : WrdAt (W.setCells b 0 [.string x.t, .bool x.o, .bool x.i]) b x := by
  have hin := World.cell?_setCells_in b [.string x.t, .bool x.o, .bool x.i] 0 W (fun j hj => by
    simp only [List.length_cons, List.length_nil] at hj
    obtain ⟨u0, h0⟩ := h0
    obtain ⟨u1, h1⟩ := h1
    obtain ⟨u2, h2⟩ := h2
    match j, hj with
    | 0, _ => rw [h0]; rfl
    | 1, _ => rw [h1]; rfl
    | 2, _ => rw [h2]; rfl)
  exact ⟨by simpa using hin 0 (by simp), by simpa using hin 1 (by simp), by simpa using hin 2 (by simp)⟩

theorem nod_sets {W : World} {b N : Nat} {o : NodeR} (h : NodAt W N o) (vs : List Value) (hne : b ≠ N) : NodAt (W.setCells b 0 vs) N o :=
  h.grown (grown_kept1 (kept1_setCells vs 0 W)) (fun e => hne (Option.some.inj e))

theorem opsN_grown2 {w w' : World} {b off : Nat} {xs : List NodeR} {row : Option Nat} (h : OpsN w b off xs) (hg : w.grownBy w' row) (hb : b < w.heap.size) (hne : row ≠ some b) : OpsN w' b off xs := fun i hi => by
  obtain ⟨h0, h1, h2, h3⟩ := h i hi
  have e := fun o => grown_cell hg hb hne o
  exact ⟨(e _).trans h0, (e _).trans h1, (e _).trans h2, (e _).trans h3⟩

theorem WrdAt.grown {w w' : World} {a : Nat} {x : WordR} {row : Option Nat} (h : WrdAt w a x) (hg : w.grownBy w' row) (hne : row ≠ some a) : WrdAt w' a x := by
  obtain ⟨h0, h1, h2⟩ := h
  have e := fun o => grown_cell hg (block_lt_of_cell h0) hne o
  exact ⟨(e _).trans h0, (e _).trans h1, (e _).trans h2⟩
theorem WrdAt.below {w w' : World} {a : Nat} {x : WordR} (h : WrdAt w a x) (hb : Below w.heap.size w w') : WrdAt w' a x := h.grown (row := none) (grown_belN hb none) (by simp)

/-- What the loads of a region read: the kind, the places of the kids, a word. -/
def SY (A b8 : Nat) (k ja jb : Int) (x : WordR) (w : World) : Prop := w.cell? ⟨A, 0, none⟩ = some (.int .i64 k) ∧ w.cell? ⟨A, 2, none⟩ = some (.int .i64 ja) ∧ w.cell? ⟨A, 3, none⟩ = some (.int .i64 jb) ∧ w.cell? ⟨b8, 0, none⟩ = some (.string x.t) ∧ w.cell? ⟨b8, 1, none⟩ = some (.bool x.o) ∧ w.cell? ⟨b8, 2, none⟩ = some (.bool x.i)

theorem SY.grown {A b8 : Nat} {k ja jb : Int} {x : WordR} {w w' : World} {row : Option Nat} (h : SY A b8 k ja jb x w) (hg : w.grownBy w' row) (h1 : row ≠ some A) (h2 : row ≠ some b8) : SY A b8 k ja jb x w' := by
  obtain ⟨z, a, b, c, d, e⟩ := h
  have ea := fun o => grown_cell hg (block_lt_of_cell a) h1 o
  have eb := fun o => grown_cell hg (block_lt_of_cell c) h2 o
  exact ⟨(ea _).trans z, (ea _).trans a, (ea _).trans b, (eb _).trans c, (eb _).trans d, (eb _).trans e⟩
theorem SY.below {A b8 : Nat} {k ja jb : Int} {x : WordR} {w w' : World} (h : SY A b8 k ja jb x w) (hb : Below w.heap.size w w') : SY A b8 k ja jb x w' := h.grown (row := none) (grown_belN hb none) (by simp) (by simp)

theorem WrdAt.news {w : World} {a : Nat} {x : WordR} (h : WrdAt w a x) : ∀ j u, (cellsW [x])[j]? = some u → w.cell? ((⟨a, 0, none⟩ : Addr).add j) = some u := by
  intro j u hj
  rw [Addr.add_mid, Nat.zero_add]
  obtain ⟨h0, h1, h2⟩ := h
  match j, hj with
  | 0, hj => simp [cellsW] at hj; subst hj; exact h0
  | 1, hj => simp [cellsW] at hj; subst hj; exact h1
  | 2, hj => simp [cellsW] at hj; subst hj; exact h2

theorem at_ne {r r' : Option Nat} {H x : Nat} (h : r' = r ∨ ∃ k, r' = some k ∧ H ≤ k) (hn : r ≠ some x) (hx : x < H) : r' ≠ some x := fun e => by
  rcases h with h | ⟨k, h1, h2⟩
  · exact hn (h.symm.trans e)
  · rw [h1] at e; injection e with e; omega

theorem g4_ne {v : Value} {g H x : Nat} (hat : v.ownBlock = some g ∨ g = H) (hnb : v.ownBlock ≠ some x) (hx : x < H) : some g ≠ some x := fun e => by
  injection e with e
  rcases hat with h | h
  · exact hnb (by rw [h, e])
  · omega

/-- The words of a kid, put behind a row. -/
def YRec (bz offz cz : Nat) (zs : List NodeR) (B : Nat) (j : Nat) (a b : List WordR) : Prop := ∀ (u : Value) (W : World), OpsN W bz offz zs → B ≤ W.heap.size → RowW W B u a →
  Calls Tryz.prog 30 #[.slice (some ⟨bz, offz, none⟩) zs.length cz, .int .i64 (j : Int), u] W (YPost W B u b)

/-- What a node's words are made of. -/
def YCase (bz offz cz : Nat) (zs : List NodeR) (B : Nat) (k : Int) (t : ByteArray) (ja jb : Nat) (us vs : List WordR) : Prop :=
  (kids k = 0 ∧ vs = us ++ [⟨t, false, false⟩]) ∨ (k = 3 ∧ ∃ us1, us1 = us ++ [⟨t, true, false⟩] ∧ YRec bz offz cz zs B ja us1 vs) ∨
  (k = 6 ∧ ∃ us1 us2, us1 = us ++ [⟨opn, false, false⟩] ∧ YRec bz offz cz zs B ja us1 us2 ∧ vs = us2 ++ [⟨cls1, false, false⟩] ∧ us2.length ≤ 90000) ∨
  (k = 5 ∧ ∃ us1, YRec bz offz cz zs B ja us us1 ∧ vs = us1 ++ [⟨t, true, false⟩] ∧ us1.length ≤ 90000) ∨
  (k = 4 ∧ ∃ us1 us2, YRec bz offz cz zs B ja us us1 ∧ us2 = us1 ++ [⟨t, true, true⟩] ∧ YRec bz offz cz zs B jb us2 vs ∧ us1.length ≤ 90000)

set_option maxHeartbeats 8000000 in
theorem ly_any (bz offz cz i : Nat) (zs : List NodeR) (k : Int) (t : ByteArray) (ja jb : Nat) (B : Nat) (u : Value) (us vs : List WordR) (w : World) (hwz : OpsN w bz offz zs) (hbz : bz < B) (hB : B ≤ w.heap.size) (hrow : RowW w B u us) (hi : i < zs.length) (hzl : zs.length ≤ 20000) (ho : atN zs i = ⟨k, t, (ja : Int), (jb : Int)⟩) (hlen : us.length ≤ 90000) (hc : YCase bz offz cz zs B k t ja jb us vs) :
    Calls Tryz.prog 30 #[.slice (some ⟨bz, offz, none⟩) zs.length cz, .int .i64 (i : Int), u] w (YPost w B u vs) := by
  obtain ⟨i0, hi0, hz0, hz1, hz2⟩ := info_parts' infoW
  have HI := hide hi0
  have HZ := hide (And.intro hz0 (And.intro hz1 hz2))
  clear hi0 hz0 hz1 hz2
  have hjI : (i : Int) < (zs.length : Int) := by omega
  obtain ⟨h0, h1, h2, h3⟩ := hwz i hi
  rw [ho] at h0 h1 h2 h3
  obtain ⟨vo, HD⟩ : ∃ vo, Hid (vo = decide (3 ≤ k ∧ k ≤ 5)) := ⟨_, hide rfl⟩
  obtain ⟨av, cv, rfl⟩ := rowW_slice hrow
  have hnb : ∀ x, w.heap.size ≤ x → (Value.slice av us.length cv).ownBlock ≠ some x := fun x hx e => by have := (hrow.lt _ e).2; omega
  have hnz : (Value.slice av us.length cv).ownBlock ≠ some bz := fun e => by have := (hrow.lt _ e).1; omega
  have HNB := hide hnb
  have HNZ := hide hnz
  have HR := hide hrow
  have HC := hide hc
  have HWZ := hide hwz
  clear hrow hc hwz ho hnb hnz
  go_enter Tryz.func30, Tryz.ntmps30
  go_wp2_with fail
  have HN := hide (show NodAt (w.alloc (.cells #[.int .i64 k, .string t, .int .i64 (ja : Int), .int .i64 (jb : Int)] 81)) w.heap.size ⟨k, t, (ja : Int), (jb : Int)⟩ from ⟨by simp [go_sem], by simp [go_sem], by simp [go_sem], by simp [go_sem], by simp [go_sem], by simp [go_sem]⟩)
  have HBW := hide (show Below w.heap.size w (w.alloc (.cells #[.int .i64 k, .string t, .int .i64 (ja : Int), .int .i64 (jb : Int)] 81)) from below1 _ _)
  clear h0 h1 h2 h3
  go_cut [8] (fun s8 wc => ∃ b8 : Nat, s8 = .pointer (some ⟨b8, 0, none⟩) ∧ w.heap.size ≤ b8 ∧ Hid (WrdAt wc b8 ⟨t, vo, k == 4⟩) ∧ Hid (NodAt wc w.heap.size ⟨k, t, (ja : Int), (jb : Int)⟩) ∧ Hid (Below w.heap.size w wc))
  case first =>
    clear HC HR HNB HNZ HWZ
    have HNa := hide ((unhide HN).below (Below.refl _ _).drew)
    have HNb := hide (((unhide HN).below (below1 _ (.cells #[.string ⟨#[]⟩, .bool false, .bool false] 54))).below (Below.refl _ _).drew)
    have HBa := hide (unhide HBW).drew
    have HBb := hide ((unhide HBW).alloc (unhide HBW).size (.cells #[.string ⟨#[]⟩, .bool false, .bool false] 54)).drew
    obtain ⟨q0, q1, q2, q3, _, _⟩ := unhide HNa
    simp only at q0 q1 q2 q3
    go_region_held (fun w' => w'.cell? ⟨w.heap.size, 0, none⟩ = some (.int .i64 k) ∧ w'.cell? ⟨w.heap.size, 1, none⟩ = some (.string t) ∧ w'.cell? ⟨w.heap.size, 2, none⟩ = some (.int .i64 (ja : Int)) ∧ w'.cell? ⟨w.heap.size, 3, none⟩ = some (.int .i64 (jb : Int))) (first | (go_keep; done) | exact ⟨p0, p1, p2, p3⟩ | exact ⟨((below1 _ _).cell (p := ⟨w.heap.size, 0, none⟩) (by omega)).trans p0, ((below1 _ _).cell (p := ⟨w.heap.size, 1, none⟩) (by omega)).trans p1, ((below1 _ _).cell (p := ⟨w.heap.size, 2, none⟩) (by omega)).trans p2, ((below1 _ _).cell (p := ⟨w.heap.size, 3, none⟩) (by omega)).trans p3⟩)
      ((go_at_call 65; refine (l3IsOp_any ⟨k, t, (ja : Int), (jb : Int)⟩ _ vo (unhide HD)).mono ?_; rintro e w1 ⟨rfl, hb1⟩; (first | (have HN1 := hide ((unhide HNa).below hb1); have HB1 := hide ((unhide HBa).trans (hb1.mono (unhide HBa).size)); have z1 : w.heap.size + 1 ≤ w1.heap.size := (by have := hb1.size; simp at this; omega)) | (have HN1 := hide ((unhide HNb).below hb1); have HB1 := hide ((unhide HBb).trans (hb1.mono (unhide HBb).size)); have z1 : w.heap.size + 1 + 1 ≤ w1.heap.size := (by have := hb1.size; simp at this; omega); have d0 : w1.cell? ⟨w.heap.size + 1, 0, none⟩ = some (.string ⟨#[]⟩) := (hb1.cell (p := ⟨w.heap.size + 1, 0, none⟩) (by simp)).trans (by simp [go_sem]); have d1 : w1.cell? ⟨w.heap.size + 1, 1, none⟩ = some (.bool false) := (hb1.cell (p := ⟨w.heap.size + 1, 1, none⟩) (by simp)).trans (by simp [go_sem]); have d2 : w1.cell? ⟨w.heap.size + 1, 2, none⟩ = some (.bool false) := (hb1.cell (p := ⟨w.heap.size + 1, 2, none⟩) (by simp)).trans (by simp [go_sem]); have e0 : w1.frozen? ⟨w.heap.size + 1, 0, none⟩ = false := (hb1.frozen (p := ⟨w.heap.size + 1, 0, none⟩) (by simp)).trans (by simp [go_sem]); have e1 : w1.frozen? ⟨w.heap.size + 1, 1, none⟩ = false := (hb1.frozen (p := ⟨w.heap.size + 1, 1, none⟩) (by simp)).trans (by simp [go_sem]); have e2 : w1.frozen? ⟨w.heap.size + 1, 2, none⟩ = false := (hb1.frozen (p := ⟨w.heap.size + 1, 2, none⟩) (by simp)).trans (by simp [go_sem]))); obtain ⟨p0, p1, p2, p3, _, _⟩ := unhide HN1; simp only at p0 p1 p2 p3; clear hb1))
    all_goals
      clear q0 q1 q2 q3 HNa HNb HBa HBb
      go_wp2_with fail
      go_meet
      case rel =>
        go_light
        first
          | exact ⟨w1.heap.size, rfl, by omega, hide ⟨by simp [go_sem], by simp [go_sem], by simp [go_sem]⟩, hide ((unhide HN1).below (below1 _ _)), hide ((unhide HB1).alloc (unhide HB1).size _)⟩
          | exact ⟨w.heap.size + 1, rfl, by omega, hide (wrd_set ⟨t, vo, k == 4⟩ ⟨_, d0⟩ ⟨_, d1⟩ ⟨_, d2⟩), hide (nod_sets (b := w.heap.size + 1) (unhide HN1) [.string t, .bool vo, .bool (k == 4)] (by omega)), hide (below_setCells (g := w.heap.size + 1) (by omega) [.string t, .bool vo, .bool (k == 4)] 0 w1 (unhide HB1))⟩
  case rest =>
    obtain ⟨b8, rfl, hb8, HX8, HN8, HB8⟩ := hcut
    obtain ⟨n0, n1, n2, n3, _, _⟩ := unhide HN8
    obtain ⟨x0, x1, x2⟩ := unhide HX8
    simp only at x0 x1 x2 n0 n1 n2 n3
    have zc := (unhide HB8).size
    have hb8l : b8 < wc.heap.size := block_lt_of_cell x0
    have hNl : w.heap.size < wc.heap.size := block_lt_of_cell n0
    have HR8 := hide ((unhide HR).below (unhide HB8))
    have HW8 := hide ((unhide HWZ).below (unhide HB8) (by omega))
    clear HN HBW HR HWZ
    rcases unhide HC with ⟨hk, hvs⟩ | ⟨rfl, us1, hu1, hrec⟩ | ⟨rfl, us1, us2, hu1, hrec, hvs, hl2⟩ | ⟨rfl, us1, hrec, hvs, hl1⟩ | ⟨rfl, us1, us2, hrec, hu2, hrec2, hl1⟩
    · have HK := hide hk
      have HV := hide hvs
      obtain ⟨hvo, h4⟩ : vo = false ∧ (k == 4) = false := by
        have hn : ¬ (3 ≤ k ∧ k ≤ 5) := by
          intro h
          have : k = 3 ∨ k = 4 ∨ k = 5 := by omega
          rcases this with e | e | e <;> rw [e] at hk <;> simp [kids] at hk
        refine ⟨by rw [unhide HD]; simpa using hn, ?_⟩
        simp only [beq_eq_false_iff_ne, ne_eq]
        intro e
        rw [e] at hk
        simp [kids] at hk
      subst hvo
      rw [h4] at x2
      clear hk hvs HX8 HN8 n1 n2 n3 HC h4
      go_wp2_with fail
      refine (l3Kids_is (unhide HK) 0 rfl _).mono ?_
      rintro e w' ⟨rfl, hw'⟩
      have hw2 := hw'.symm
      subst hw2
      go_wp2_with (at_builtin; refine wpList_append_own_at _ rfl (.tmp 25) (.tmp 27) 51 rfl B 54 i0 _ 3 24 Tryz.underlying51 (unhide HI) (unhide HZ).1 (unhide HZ).2.1 (unhide HZ).2.2 rfl (by decide) _ us.length (cellsW us) rfl ((unhide HR8).below (below1 _ _)) ⟨wc.heap.size, 0, none⟩ 1 1 (cellsW [⟨t, false, false⟩]) rfl rfl (by simpa using new_newsW wc ⟨t, false, false⟩) (cellsW_one' _) ?b1 ?b2 ?b3 ?next)
      case b1 => unfold maxLen; omega
      case b2 => omega
      case b3 => first | omega | (simp; omega)
      case next =>
        intro v4 w4 hown4 hgrow4 hnil4 hat4
        have HO := hide (show RowW w4 B v4 vs by
          rw [unhide HV]
          unfold RowW
          rw [cellsW_append, List.length_append]
          exact hown4)
        have HG := hide (grown_below ((unhide HB8).alloc (unhide HB8).size _) hgrow4)
        have HA := hide (show v4.ownBlock = (Value.slice av us.length cv).ownBlock ∨ ∃ k, v4.ownBlock = some k ∧ w.heap.size ≤ k from hat4.imp id (fun h => ⟨_, h, by first | omega | (simp; omega)⟩))
        clear hown4 hgrow4 hnil4 hat4
        go_wp2_with fail
        go_ret
        exact ⟨v4, rfl, HO, HG, HA⟩
    · have HU1 := hide hu1
      have HREC := hide hrec
      have hvo : vo = true := by rw [unhide HD]; decide
      subst hvo
      have h4 : ((3 : Int) == 4) = false := by decide
      rw [h4] at x2
      have HSY := hide (show SY w.heap.size b8 3 (ja : Int) (jb : Int) ⟨t, true, false⟩ wc from ⟨n0, n2, n3, x0, x1, x2⟩)
      clear hu1 hrec HX8 HN8 HC h4
      go_wp2_with fail
      refine (l3Kids_is (show kids 3 = 1 from rfl) 1 rfl _).mono ?_
      rintro e w' ⟨rfl, hw'⟩
      have hw2 := hw'.symm
      subst hw2
      go_wp2_with fail
      go_region_held_law (fun w' => w'.cell? ⟨w.heap.size, 0, none⟩ = some (.int .i64 3) ∧ w'.cell? ⟨w.heap.size, 2, none⟩ = some (.int .i64 (ja : Int)) ∧ w'.cell? ⟨w.heap.size, 3, none⟩ = some (.int .i64 (jb : Int)) ∧ w'.cell? ⟨b8, 0, none⟩ = some (.string t) ∧ w'.cell? ⟨b8, 1, none⟩ = some (.bool true) ∧ w'.cell? ⟨b8, 2, none⟩ = some (.bool false)) (first | (go_keep; done) | exact unhide HSY4 | exact unhide HSY5)
        (first | (refine step_append_lies _ (by rfl) (.tmp 35) (.tmp 37) 51 (by rfl) B 54 i0 _ 3 24 Tryz.underlying51 (unhide HI) (unhide HZ).1 (unhide HZ).2.1 (unhide HZ).2.2 rfl (by decide) _ us.length (cellsW us) (by rfl) ?hown1 ⟨wc.heap.size, 0, none⟩ 1 1 (cellsW [⟨t, true, false⟩]) (by rfl) rfl ?hnews1 (cellsW_one' _) (by decide) (by unfold maxLen; omega) (by omega) ?hbase1 _ rfl ?_; exact (((unhide HR8).below (below1 _ _)).below (Below.refl _ _).drew); exact (fun j u hj => new_newsW wc ⟨t, true, false⟩ j u hj); (simp; omega); intro g4 c4 w4 hown4 hgrow4 hat4 hlt4; have HG4 := hide (show ∀ x, w.heap.size ≤ x → x < wc.heap.size → some g4 ≠ some x from fun x hx hx2 => g4_ne hat4 ((unhide HNB) x hx) (by simp; omega)); have HSY4 := hide (((unhide HSY).below ((below1 _ _).drew)).grown hgrow4 ((unhide HNB) _ (Nat.le_refl _)) ((unhide HNB) _ hb8)); have HR4 := hide (show RowW w4 B (.slice (some ⟨g4, 0, none⟩) (us.length + 1) c4) us1 by unfold RowW; rw [unhide HU1, cellsW_append, List.length_append]; exact hown4); have HW4 := hide (opsN_grown2 ((unhide HW8).below ((below1 _ _).drew) (by omega)) hgrow4 (by simp; omega) (unhide HNZ)); have HGR4 := hide (grown_below (((unhide HB8).alloc (unhide HB8).size _).drew) hgrow4); have HA4 := hide (show (Value.slice (some ⟨g4, 0, none⟩) (us.length + 1) c4).ownBlock = (Value.slice av us.length cv).ownBlock ∨ ∃ k, (Value.slice (some ⟨g4, 0, none⟩) (us.length + 1) c4).ownBlock = some k ∧ w.heap.size ≤ k from hat4.imp (fun h => h.symm) (fun h => ⟨_, rfl, (by subst h; simp; omega)⟩)); have z4 := (unhide HGR4).size; clear hown4 hgrow4 hat4) | (go_at_call 30; refine ((unhide HREC) _ w4 (unhide HW4) (by omega) (unhide HR4)).mono ?_; intro x w5 hp5; have HSY5 : Hid (SY w.heap.size b8 3 (ja : Int) (jb : Int) ⟨t, true, false⟩ w5) := (by obtain ⟨_, _, _, g5, _⟩ := hp5; exact hide ((unhide HSY4).grown (unhide g5) ((unhide HG4) _ (Nat.le_refl _) hNl) ((unhide HG4) _ hb8 hb8l))); obtain ⟨u5, rfl, r5, g5, o5⟩ := hp5.join (unhide HGR4) (unhide HA4)))
      go_wp2_with fail
      go_ret
      exact ⟨u5, rfl, r5, g5, o5⟩
    · have HU1 := hide hu1
      have HREC := hide hrec
      have HV := hide hvs
      have hvo : vo = false := by rw [unhide HD]; decide
      subst hvo
      have h4 : ((6 : Int) == 4) = false := by decide
      rw [h4] at x2
      have HSY := hide (show SY w.heap.size b8 6 (ja : Int) (jb : Int) ⟨t, false, false⟩ wc from ⟨n0, n2, n3, x0, x1, x2⟩)
      clear hu1 hrec hvs HX8 HN8 HC h4
      go_wp2_with fail
      refine (l3Kids_is (show kids 6 = 1 from rfl) 1 rfl _).mono ?_
      rintro e w' ⟨rfl, hw'⟩
      have hw2 := hw'.symm
      subst hw2
      go_wp2_with fail
      go_region_held_law (fun w' => w'.cell? ⟨w.heap.size, 0, none⟩ = some (.int .i64 6) ∧ w'.cell? ⟨w.heap.size, 2, none⟩ = some (.int .i64 (ja : Int)) ∧ w'.cell? ⟨w.heap.size, 3, none⟩ = some (.int .i64 (jb : Int)) ∧ w'.cell? ⟨b8, 0, none⟩ = some (.string t) ∧ w'.cell? ⟨b8, 1, none⟩ = some (.bool false) ∧ w'.cell? ⟨b8, 2, none⟩ = some (.bool false)) (first | (go_keep; done) | exact unhide HSY4 | exact unhide HSY5)
        (first | (refine step_append_lies _ (by rfl) (.tmp 46) (.tmp 48) 51 (by rfl) B 54 i0 _ 3 24 Tryz.underlying51 (unhide HI) (unhide HZ).1 (unhide HZ).2.1 (unhide HZ).2.2 rfl (by decide) _ us.length (cellsW us) (by rfl) ?hown2 ⟨wc.heap.size, 0, none⟩ 1 1 (cellsW [⟨⟨#[40]⟩, false, false⟩]) (by rfl) rfl ?hnews2 (cellsW_one' _) (by decide) (by unfold maxLen; omega) (by omega) ?hbase2 _ rfl ?_; exact (((unhide HR8).below (below1 _ _)).below (Below.refl _ _).drew); exact (fun j u hj => new_newsW wc ⟨⟨#[40]⟩, false, false⟩ j u hj); (simp; omega); intro g4 c4 w4 hown4 hgrow4 hat4 hlt4; have HG4 := hide (show ∀ x, w.heap.size ≤ x → x < wc.heap.size → some g4 ≠ some x from fun x hx hx2 => g4_ne hat4 ((unhide HNB) x hx) (by simp; omega)); have HSY4 := hide (((unhide HSY).below ((below1 _ _).drew)).grown hgrow4 ((unhide HNB) _ (Nat.le_refl _)) ((unhide HNB) _ hb8)); have HR4 := hide (show RowW w4 B (.slice (some ⟨g4, 0, none⟩) (us.length + 1) c4) us1 by unfold RowW; rw [unhide HU1, cellsW_append, List.length_append]; exact hown4); have HW4 := hide (opsN_grown2 ((unhide HW8).below ((below1 _ _).drew) (by omega)) hgrow4 (by simp; omega) (unhide HNZ)); have HGR4 := hide (grown_below (((unhide HB8).alloc (unhide HB8).size _).drew) hgrow4); have HA4 := hide (show (Value.slice (some ⟨g4, 0, none⟩) (us.length + 1) c4).ownBlock = (Value.slice av us.length cv).ownBlock ∨ ∃ k, (Value.slice (some ⟨g4, 0, none⟩) (us.length + 1) c4).ownBlock = some k ∧ w.heap.size ≤ k from hat4.imp (fun h => h.symm) (fun h => ⟨_, rfl, (by subst h; simp; omega)⟩)); have z4 := (unhide HGR4).size; clear hown4 hgrow4 hat4) | (go_at_call 30; refine ((unhide HREC) _ w4 (unhide HW4) (by omega) (unhide HR4)).mono ?_; intro x w5 hp5; have HSY5 : Hid (SY w.heap.size b8 6 (ja : Int) (jb : Int) ⟨t, false, false⟩ w5) := (by obtain ⟨_, _, _, g5, _⟩ := hp5; exact hide ((unhide HSY4).grown (unhide g5) ((unhide HG4) _ (Nat.le_refl _) hNl) ((unhide HG4) _ hb8 hb8l))); obtain ⟨u5, rfl, r5, g5, o5⟩ := hp5.join (unhide HGR4) (unhide HA4); obtain ⟨a5, k5, rfl⟩ := rowW_slice (unhide r5)))
      have z5 := (unhide g5).size
      clear n0 n1 n2 n3 x0 x1 x2
      go_wp2_with (at_builtin; refine wpList_append_own_at _ rfl (.tmp 51) (.tmp 53) 51 rfl B 54 i0 _ 3 24 Tryz.underlying51 (unhide HI) (unhide HZ).1 (unhide HZ).2.1 (unhide HZ).2.2 rfl (by decide) _ us2.length (cellsW us2) rfl ((unhide r5).below (below1 _ _)) ⟨w5.heap.size, 0, none⟩ 1 1 (cellsW [⟨⟨#[41]⟩, false, false⟩]) rfl rfl (by simpa using new_newsW w5 ⟨⟨#[41]⟩, false, false⟩) (cellsW_one' _) ?b1 ?b2 ?b3 ?next)
      case b1 => unfold maxLen; omega
      case b2 => omega
      case b3 => first | omega | (simp; omega)
      case next =>
        intro v6 w6 hown6 hgrow6 hnil6 hat6
        have HO := hide (show RowW w6 B v6 vs by
          rw [unhide HV]
          unfold RowW
          rw [cellsW_append, List.length_append]
          exact hown6)
        have HGc := hide (grown_below (below1 w5 _) hgrow6)
        have HG6 := hide (grown_trans (unhide g5) (unhide HGc) (unhide o5))
        have HA6 := hide (grown_at (unhide g5) (unhide o5) v6.ownBlock (hat6.imp id (fun h => ⟨_, h, by first | exact Nat.le_refl _ | simp⟩)))
        clear hown6 hgrow6 hnil6 hat6 HGc
        go_wp2_with fail
        go_ret
        exact ⟨v6, rfl, HO, HG6, HA6⟩
    · have HREC := hide hrec
      have HV := hide hvs
      clear hvs
      have hvo : vo = true := by rw [unhide HD]; decide
      subst hvo
      have h4 : ((5 : Int) == 4) = false := by decide
      rw [h4] at x2
      have HSY := hide (show SY w.heap.size b8 5 (ja : Int) (jb : Int) ⟨t, true, false⟩ wc from ⟨n0, n2, n3, x0, x1, x2⟩)
      have HSYd := hide ((unhide HSY).below (Below.refl _ _).drew)
      have HW8d := hide (show OpsN wc.drew bz offz zs from (unhide HW8).below (B := wc.heap.size) (Below.refl _ _).drew (by omega))
      have HR8d := hide ((unhide HR8).below (Below.refl _ _).drew)
      have HSYe := hide (((unhide HSY).below (below1 _ (.cells #[.string t, .bool true, .bool false] 54))).below (Below.refl _ _).drew)
      have HXe := hide (show WrdAt (wc.alloc (.cells #[.string t, .bool true, .bool false] 54)).drew wc.heap.size ⟨t, true, false⟩ from ⟨by simp [go_sem], by simp [go_sem], by simp [go_sem]⟩)
      have HW8e := hide (show OpsN (wc.alloc (.cells #[.string t, .bool true, .bool false] 54)).drew bz offz zs from (unhide HW8).below (B := wc.heap.size) (below1 _ _).drew (by omega))
      have HR8e := hide (((unhide HR8).below (below1 _ (.cells #[.string t, .bool true, .bool false] 54))).below (Below.refl _ _).drew)
      clear hrec HX8 HN8 HC h4
      go_wp2_with fail
      refine (l3Kids_is (show kids 5 = 1 from rfl) 1 rfl _).mono ?_
      rintro e w' ⟨rfl, hw'⟩
      have hw2 := hw'.symm
      subst hw2
      go_wp2_with fail
      go_region_held_law (fun w' => w'.cell? ⟨w.heap.size, 0, none⟩ = some (.int .i64 5) ∧ w'.cell? ⟨w.heap.size, 2, none⟩ = some (.int .i64 (ja : Int)) ∧ w'.cell? ⟨w.heap.size, 3, none⟩ = some (.int .i64 (jb : Int)) ∧ w'.cell? ⟨b8, 0, none⟩ = some (.string t) ∧ w'.cell? ⟨b8, 1, none⟩ = some (.bool true) ∧ w'.cell? ⟨b8, 2, none⟩ = some (.bool false)) (first | (go_keep; done) | exact unhide HSY5 | exact (unhide HSY5).below (below1 _ _) | exact unhide HSY6)
        (first | (go_at_call 30; have HXC := (unhide HREC) _ wc.drew (unhide HW8d) (by simp; omega) (unhide HR8d); (with_reducible refine HXC.mono ?_); clear HXC; rintro x w5 ⟨u5, rfl, r5, g5, o5⟩; obtain ⟨a5, k5, rfl⟩ := rowW_slice (unhide r5); have HSY5 := hide ((unhide HSYd).grown (unhide g5) ((unhide HNB) _ (Nat.le_refl _)) ((unhide HNB) _ hb8)); have HGR5 := hide (grown_below ((unhide HB8).drew) (unhide g5)); have HNB5 := hide (show ∀ x, w.heap.size ≤ x → x < wc.heap.size → (Value.slice a5 us1.length k5).ownBlock ≠ some x from fun x hx hx2 => at_ne (unhide o5) ((unhide HNB) x hx) (by simpa using hx2)); have HW5 := hide (opsN_grown2 (unhide HW8d) (unhide g5) (by simp; omega) (unhide HNZ)); have HNZ5 := hide (at_ne (unhide o5) (unhide HNZ) (by simp; omega)); have HA5 := hide ((unhide o5).imp id (fun ⟨k, h1, h2⟩ => ⟨k, h1, (by simp at h2; omega)⟩) : (Value.slice a5 us1.length k5).ownBlock = (Value.slice av us.length cv).ownBlock ∨ ∃ k, (Value.slice a5 us1.length k5).ownBlock = some k ∧ w.heap.size ≤ k); have z5 : wc.heap.size ≤ w5.heap.size := (by have := (unhide g5).size; simp at this; omega); clear g5 o5) | (go_at_call 30; have HXC := (unhide HREC) _ (wc.alloc (.cells #[.string t, .bool true, .bool false] 54)).drew (unhide HW8e) (by simp; omega) (unhide HR8e); (with_reducible refine HXC.mono ?_); clear HXC; rintro x w5 ⟨u5, rfl, r5, g5, o5⟩; obtain ⟨a5, k5, rfl⟩ := rowW_slice (unhide r5); have HSY5 := hide ((unhide HSYe).grown (unhide g5) ((unhide HNB) _ (Nat.le_refl _)) ((unhide HNB) _ hb8)); have HX5 := hide ((unhide HXe).grown (unhide g5) ((unhide HNB) _ zc)); have HGR5 := hide (grown_below (((unhide HB8).alloc (unhide HB8).size _).drew) (unhide g5)); have HNB5 := hide (show ∀ x, w.heap.size ≤ x → x < wc.heap.size → (Value.slice a5 us1.length k5).ownBlock ≠ some x from fun x hx hx2 => at_ne (unhide o5) ((unhide HNB) x hx) (by simp; omega)); have HW5 := hide (opsN_grown2 (unhide HW8e) (unhide g5) (by simp; omega) (unhide HNZ)); have HNZ5 := hide (at_ne (unhide o5) (unhide HNZ) (by simp; omega)); have HA5 := hide ((unhide o5).imp id (fun ⟨k, h1, h2⟩ => ⟨k, h1, (by simp at h2; omega)⟩) : (Value.slice a5 us1.length k5).ownBlock = (Value.slice av us.length cv).ownBlock ∨ ∃ k, (Value.slice a5 us1.length k5).ownBlock = some k ∧ w.heap.size ≤ k); have z5 : wc.heap.size ≤ w5.heap.size := (by have := (unhide g5).size; simp at this; omega); clear g5 o5) | (refine step_append_lies _ (by rfl) (.tmp 59) (.tmp 61) 51 (by rfl) B 54 i0 _ 3 24 Tryz.underlying51 (unhide HI) (unhide HZ).1 (unhide HZ).2.1 (unhide HZ).2.2 rfl (by decide) _ us1.length (cellsW us1) (by rfl) ?hownA3 ⟨w5.heap.size, 0, none⟩ 1 1 (cellsW [⟨t, true, false⟩]) (by rfl) rfl ?hnewsA3 (cellsW_one' _) (by decide) (by unfold maxLen; omega) (by omega) ?hbaseA3 _ rfl ?_; exact ((unhide r5).below (below1 _ _)); exact (fun j u hj => new_newsW w5 ⟨t, true, false⟩ j u hj); (first | (simp; omega) | omega); intro g6 c6 w6 hown6 hgrow6 hat6 hlt6; have HSY6 := hide (((unhide HSY5).below (below1 _ _)).grown hgrow6 ((unhide HNB5) _ (Nat.le_refl _) hNl) ((unhide HNB5) _ hb8 hb8l)); have HGR6 := hide (grown_trans (unhide HGR5) (grown_below (below1 w5 _) hgrow6) (unhide HA5)); have HW6 := hide (opsN_grown2 ((unhide HW5).below (below1 _ _) (by omega)) hgrow6 (by simp; omega) (unhide HNZ5)); have HR6 := hide (show RowW w6 B (.slice (some ⟨g6, 0, none⟩) (us1.length + 1) c6) vs by unfold RowW; rw [unhide HV, cellsW_append, List.length_append]; exact hown6); have HA6 := hide (grown_at (unhide HGR5) (unhide HA5) (Value.slice (some ⟨g6, 0, none⟩) (us1.length + 1) c6).ownBlock (hat6.imp (fun h => h.symm) (fun h => ⟨_, rfl, (by subst h; first | simp | exact Nat.le_refl _)⟩))); clear hown6 hgrow6 hat6) | (refine step_append_lies _ (by rfl) (.tmp 59) (.tmp 61) 51 (by rfl) B 54 i0 _ 3 24 Tryz.underlying51 (unhide HI) (unhide HZ).1 (unhide HZ).2.1 (unhide HZ).2.2 rfl (by decide) _ us1.length (cellsW us1) (by rfl) ?hownB3 ⟨wc.heap.size, 0, none⟩ 1 1 (cellsW [⟨t, true, false⟩]) (by rfl) rfl ?hnewsB3 (cellsW_one' _) (by decide) (by unfold maxLen; omega) (by omega) ?hbaseB3 _ rfl ?_; exact (unhide r5); exact ((unhide HX5).news); (first | (simp; omega) | omega); intro g6 c6 w6 hown6 hgrow6 hat6 hlt6; have HSY6 := hide ((unhide HSY5).grown hgrow6 ((unhide HNB5) _ (Nat.le_refl _) hNl) ((unhide HNB5) _ hb8 hb8l)); have HGR6 := hide (grown_trans (unhide HGR5) hgrow6 (unhide HA5)); have HW6 := hide (opsN_grown2 (unhide HW5) hgrow6 (by omega) (unhide HNZ5)); have HR6 := hide (show RowW w6 B (.slice (some ⟨g6, 0, none⟩) (us1.length + 1) c6) vs by unfold RowW; rw [unhide HV, cellsW_append, List.length_append]; exact hown6); have HA6 := hide (grown_at (unhide HGR5) (unhide HA5) (Value.slice (some ⟨g6, 0, none⟩) (us1.length + 1) c6).ownBlock (hat6.imp (fun h => h.symm) (fun h => ⟨_, rfl, (by subst h; first | simp | exact Nat.le_refl _)⟩))); clear hown6 hgrow6 hat6))
      all_goals
        obtain ⟨m0, m2, m3, _, _, _⟩ := unhide HSY6
        have z6 := (unhide HGR6).size
        clear n0 n1 n2 n3 x0 x1 x2
        go_wp2_with fail
        go_ret
        exact ⟨_, rfl, HR6, HGR6, HA6⟩
    · have HREC := hide hrec
      have HREC2 := hide hrec2
      have HV := hide hu2
      clear hu2 hrec2
      have hvo : vo = true := by rw [unhide HD]; decide
      subst hvo
      have h4 : ((4 : Int) == 4) = true := by decide
      rw [h4] at x2
      have HSY := hide (show SY w.heap.size b8 4 (ja : Int) (jb : Int) ⟨t, true, true⟩ wc from ⟨n0, n2, n3, x0, x1, x2⟩)
      have HSYd := hide ((unhide HSY).below (Below.refl _ _).drew)
      have HW8d := hide (show OpsN wc.drew bz offz zs from (unhide HW8).below (B := wc.heap.size) (Below.refl _ _).drew (by omega))
      have HR8d := hide ((unhide HR8).below (Below.refl _ _).drew)
      have HSYe := hide (((unhide HSY).below (below1 _ (.cells #[.string t, .bool true, .bool true] 54))).below (Below.refl _ _).drew)
      have HXe := hide (show WrdAt (wc.alloc (.cells #[.string t, .bool true, .bool true] 54)).drew wc.heap.size ⟨t, true, true⟩ from ⟨by simp [go_sem], by simp [go_sem], by simp [go_sem]⟩)
      have HW8e := hide (show OpsN (wc.alloc (.cells #[.string t, .bool true, .bool true] 54)).drew bz offz zs from (unhide HW8).below (B := wc.heap.size) (below1 _ _).drew (by omega))
      have HR8e := hide (((unhide HR8).below (below1 _ (.cells #[.string t, .bool true, .bool true] 54))).below (Below.refl _ _).drew)
      clear hrec HX8 HN8 HC h4
      go_wp2_with fail
      refine (l3Kids_is (show kids 4 = 2 from rfl) 2 rfl _).mono ?_
      rintro e w' ⟨rfl, hw'⟩
      have hw2 := hw'.symm
      subst hw2
      go_wp2_with fail
      go_region_held_law (fun w' => w'.cell? ⟨w.heap.size, 0, none⟩ = some (.int .i64 4) ∧ w'.cell? ⟨w.heap.size, 2, none⟩ = some (.int .i64 (ja : Int)) ∧ w'.cell? ⟨w.heap.size, 3, none⟩ = some (.int .i64 (jb : Int)) ∧ w'.cell? ⟨b8, 0, none⟩ = some (.string t) ∧ w'.cell? ⟨b8, 1, none⟩ = some (.bool true) ∧ w'.cell? ⟨b8, 2, none⟩ = some (.bool true)) (first | (go_keep; done) | exact unhide HSY5 | exact (unhide HSY5).below (below1 _ _) | exact unhide HSY6)
        (first | (go_at_call 30; have HXC := (unhide HREC) _ wc.drew (unhide HW8d) (by simp; omega) (unhide HR8d); (with_reducible refine HXC.mono ?_); clear HXC; rintro x w5 ⟨u5, rfl, r5, g5, o5⟩; obtain ⟨a5, k5, rfl⟩ := rowW_slice (unhide r5); have HSY5 := hide ((unhide HSYd).grown (unhide g5) ((unhide HNB) _ (Nat.le_refl _)) ((unhide HNB) _ hb8)); have HGR5 := hide (grown_below ((unhide HB8).drew) (unhide g5)); have HNB5 := hide (show ∀ x, w.heap.size ≤ x → x < wc.heap.size → (Value.slice a5 us1.length k5).ownBlock ≠ some x from fun x hx hx2 => at_ne (unhide o5) ((unhide HNB) x hx) (by simpa using hx2)); have HW5 := hide (opsN_grown2 (unhide HW8d) (unhide g5) (by simp; omega) (unhide HNZ)); have HNZ5 := hide (at_ne (unhide o5) (unhide HNZ) (by simp; omega)); have HA5 := hide ((unhide o5).imp id (fun ⟨k, h1, h2⟩ => ⟨k, h1, (by simp at h2; omega)⟩) : (Value.slice a5 us1.length k5).ownBlock = (Value.slice av us.length cv).ownBlock ∨ ∃ k, (Value.slice a5 us1.length k5).ownBlock = some k ∧ w.heap.size ≤ k); have z5 : wc.heap.size ≤ w5.heap.size := (by have := (unhide g5).size; simp at this; omega); clear g5 o5) | (go_at_call 30; have HXC := (unhide HREC) _ (wc.alloc (.cells #[.string t, .bool true, .bool true] 54)).drew (unhide HW8e) (by simp; omega) (unhide HR8e); (with_reducible refine HXC.mono ?_); clear HXC; rintro x w5 ⟨u5, rfl, r5, g5, o5⟩; obtain ⟨a5, k5, rfl⟩ := rowW_slice (unhide r5); have HSY5 := hide ((unhide HSYe).grown (unhide g5) ((unhide HNB) _ (Nat.le_refl _)) ((unhide HNB) _ hb8)); have HX5 := hide ((unhide HXe).grown (unhide g5) ((unhide HNB) _ zc)); have HGR5 := hide (grown_below (((unhide HB8).alloc (unhide HB8).size _).drew) (unhide g5)); have HNB5 := hide (show ∀ x, w.heap.size ≤ x → x < wc.heap.size → (Value.slice a5 us1.length k5).ownBlock ≠ some x from fun x hx hx2 => at_ne (unhide o5) ((unhide HNB) x hx) (by simp; omega)); have HW5 := hide (opsN_grown2 (unhide HW8e) (unhide g5) (by simp; omega) (unhide HNZ)); have HNZ5 := hide (at_ne (unhide o5) (unhide HNZ) (by simp; omega)); have HA5 := hide ((unhide o5).imp id (fun ⟨k, h1, h2⟩ => ⟨k, h1, (by simp at h2; omega)⟩) : (Value.slice a5 us1.length k5).ownBlock = (Value.slice av us.length cv).ownBlock ∨ ∃ k, (Value.slice a5 us1.length k5).ownBlock = some k ∧ w.heap.size ≤ k); have z5 : wc.heap.size ≤ w5.heap.size := (by have := (unhide g5).size; simp at this; omega); clear g5 o5) | (refine step_append_lies _ (by rfl) (.tmp 59) (.tmp 61) 51 (by rfl) B 54 i0 _ 3 24 Tryz.underlying51 (unhide HI) (unhide HZ).1 (unhide HZ).2.1 (unhide HZ).2.2 rfl (by decide) _ us1.length (cellsW us1) (by rfl) ?hownA4 ⟨w5.heap.size, 0, none⟩ 1 1 (cellsW [⟨t, true, true⟩]) (by rfl) rfl ?hnewsA4 (cellsW_one' _) (by decide) (by unfold maxLen; omega) (by omega) ?hbaseA4 _ rfl ?_; exact ((unhide r5).below (below1 _ _)); exact (fun j u hj => new_newsW w5 ⟨t, true, true⟩ j u hj); (first | (simp; omega) | omega); intro g6 c6 w6 hown6 hgrow6 hat6 hlt6; have HSY6 := hide (((unhide HSY5).below (below1 _ _)).grown hgrow6 ((unhide HNB5) _ (Nat.le_refl _) hNl) ((unhide HNB5) _ hb8 hb8l)); have HGR6 := hide (grown_trans (unhide HGR5) (grown_below (below1 w5 _) hgrow6) (unhide HA5)); have HW6 := hide (opsN_grown2 ((unhide HW5).below (below1 _ _) (by omega)) hgrow6 (by simp; omega) (unhide HNZ5)); have HR6 := hide (show RowW w6 B (.slice (some ⟨g6, 0, none⟩) (us1.length + 1) c6) us2 by unfold RowW; rw [unhide HV, cellsW_append, List.length_append]; exact hown6); have HA6 := hide (grown_at (unhide HGR5) (unhide HA5) (Value.slice (some ⟨g6, 0, none⟩) (us1.length + 1) c6).ownBlock (hat6.imp (fun h => h.symm) (fun h => ⟨_, rfl, (by subst h; first | simp | exact Nat.le_refl _)⟩))); clear hown6 hgrow6 hat6) | (refine step_append_lies _ (by rfl) (.tmp 59) (.tmp 61) 51 (by rfl) B 54 i0 _ 3 24 Tryz.underlying51 (unhide HI) (unhide HZ).1 (unhide HZ).2.1 (unhide HZ).2.2 rfl (by decide) _ us1.length (cellsW us1) (by rfl) ?hownB4 ⟨wc.heap.size, 0, none⟩ 1 1 (cellsW [⟨t, true, true⟩]) (by rfl) rfl ?hnewsB4 (cellsW_one' _) (by decide) (by unfold maxLen; omega) (by omega) ?hbaseB4 _ rfl ?_; exact (unhide r5); exact ((unhide HX5).news); (first | (simp; omega) | omega); intro g6 c6 w6 hown6 hgrow6 hat6 hlt6; have HSY6 := hide ((unhide HSY5).grown hgrow6 ((unhide HNB5) _ (Nat.le_refl _) hNl) ((unhide HNB5) _ hb8 hb8l)); have HGR6 := hide (grown_trans (unhide HGR5) hgrow6 (unhide HA5)); have HW6 := hide (opsN_grown2 (unhide HW5) hgrow6 (by omega) (unhide HNZ5)); have HR6 := hide (show RowW w6 B (.slice (some ⟨g6, 0, none⟩) (us1.length + 1) c6) us2 by unfold RowW; rw [unhide HV, cellsW_append, List.length_append]; exact hown6); have HA6 := hide (grown_at (unhide HGR5) (unhide HA5) (Value.slice (some ⟨g6, 0, none⟩) (us1.length + 1) c6).ownBlock (hat6.imp (fun h => h.symm) (fun h => ⟨_, rfl, (by subst h; first | simp | exact Nat.le_refl _)⟩))); clear hown6 hgrow6 hat6))
      all_goals
        obtain ⟨m0, m2, m3, _, _, _⟩ := unhide HSY6
        have z6 := (unhide HGR6).size
        clear n0 n1 n2 n3 x0 x1 x2
        go_wp2_with fail
        refine ((unhide HREC2) _ _ (unhide HW6) (by omega) (unhide HR6)).mono ?_
        intro x w7 hp7
        obtain ⟨u7, rfl, r7, g7, o7⟩ := hp7.join (unhide HGR6) (unhide HA6)
        clear m0 m2 m3
        go_wp2_with fail
        go_ret
        exact ⟨u7, rfl, r7, g7, o7⟩
end Go.Proofs.YtfboipappaonhaaGreat

/-
  The plain mathematics of Print: the tree of a row of nodes, its text.
-/
namespace Go.Proofs.YtfboipappaonhaaGreat
set_option maxRecDepth 100000
set_option linter.unusedSimpArgs false
set_option linter.unusedVariables false
open Go.RowKit
open Go.Deep (BT)

/-- The tree of the stretch of node i. -/
def trF (xs : List NodeR) : Nat → Nat → ET
  | 0, _ => .nil
  | n + 1, i => if kids (atN xs i).k = 0 then .node (atN xs i).k.toNat 0 (atN xs i).t .nil .nil
    else if kids (atN xs i).k = 1 then .node (atN xs i).k.toNat 0 (atN xs i).t (trF xs n (i - 1)) .nil
    else .node (atN xs i).k.toNat 0 (atN xs i).t (trF xs n (atN xs i).a.toNat) (trF xs n (i - 1))

theorem trF_lies {xs : List NodeR} : ∀ (T : ET) (s : Nat), Sh T → Lies xs T s → ∀ n, tsz T ≤ n → trF xs n (s + tsz T - 1) = T := by
  intro T
  induction T with
  | nil => intro s h; exact h.elim
  | node b o t l r ihl ihr =>
    rintro s ⟨rfl, hsh⟩ ⟨h1, h2, h3⟩ n hn
    simp only [tsz] at hn
    obtain ⟨n, rfl⟩ : ∃ m, n = m + 1 := ⟨n - 1, by omega⟩
    have e : s + tsz (.node b 0 t l r) - 1 = s + tsz l + tsz r := by simp only [tsz]; omega
    rw [e]
    have hK : (atN xs (s + tsz l + tsz r)).k = (b : Int) := by rw [h3]; rfl
    have hT : (atN xs (s + tsz l + tsz r)).t = t := by rw [h3]; rfl
    have hb : ((b : Int)).toNat = b := by omega
    rcases hsh with ⟨hk, rfl, rfl⟩ | ⟨hk, hl, rfl⟩ | ⟨hk, hl, hr⟩
    · simp only [trF, hK, hT, hk, if_true, hb]
    · have hp := hl.pos
      have e2 : s + tsz l + tsz (BT.nil : ET) - 1 = s + tsz l - 1 := by simp [tsz]
      simp only [trF, hK, hT, hk, hb, e2, ihl s hl h1 n (by omega)]
      simp
    · have hp := hl.pos
      have hq := hr.pos
      have ha : (atN xs (s + tsz l + tsz r)).a.toNat = s + tsz l - 1 := by
        rw [h3]
        simp [tN, hk]
        omega
      simp only [trF, hK, hT, hk, hb, ha, ihl s hl h1 n (by omega), ihr (s + tsz l) hr h2 n (by omega)]
      simp

def treeOf (xs : List NodeR) : ET := trF xs xs.length (xs.length - 1)

theorem treeOf_nd {T : ET} (h : Sh T) : treeOf (nd T 0) = T := by
  have := trF_lies T 0 h (lies_self T) (tsz T) (Nat.le_refl _)
  unfold treeOf
  rw [nd_len]
  simpa using this

/-- Every text of a tree has at most 20000 bytes. -/
def TxB : ET → Prop
  | .nil => True
  | .node _ _ t l r => t.size ≤ 20000 ∧ TxB l ∧ TxB r

theorem txB_lies {xs : List NodeR} (htx : ∀ i, i < xs.length → TxtOk (atN xs i)) : ∀ (T : ET) (s : Nat), Lies xs T s → s + tsz T ≤ xs.length → TxB T := by
  intro T
  induction T with
  | nil => intro s _ _; trivial
  | node b o t l r ihl ihr =>
    rintro s ⟨h1, h2, h3⟩ hz
    simp only [tsz] at hz
    have ht := htx (s + tsz l + tsz r) (by omega)
    rw [h3] at ht
    exact ⟨ht.1, ihl s h1 (by omega), ihr _ h2 (by omega)⟩

theorem txB_grT (ns : List OpR) : ∀ (T : ET) (l : Int), TxB T → TxB (grT ns T l) := by
  intro T
  induction T with
  | nil => intro l _; trivial
  | node b o t l r ihl ihr =>
    rintro least ⟨h1, h2, h3⟩
    simp only [grT]
    split
    · exact ihl _ h2
    · unfold clT
      split
      · exact ⟨by decide, ⟨h1, ihl _ h2, ihr _ h3⟩, trivial⟩
      · exact ⟨h1, ihl _ h2, ihr _ h3⟩

theorem txB_words : ∀ (T : ET), TxB T → ∀ s ∈ ySy T, s.2.size ≤ 20000 := by
  intro T
  induction T with
  | nil => intro _ s hs; simp [ySy] at hs
  | node b o t l r ihl ihr =>
    rintro ⟨h1, h2, h3⟩ s hs
    have e1 : opn.size ≤ 20000 := by decide
    have e2 : cls1.size ≤ 20000 := by decide
    simp only [ySy] at hs
    split at hs
    · simp only [List.mem_cons, List.mem_append, List.not_mem_nil, or_false] at hs
      rcases hs with rfl | hs | rfl
      · exact e1
      · exact ihl h2 s hs
      · exact e2
    · split at hs
      · simp only [List.mem_cons] at hs
        rcases hs with rfl | hs
        · exact h1
        · exact ihl h2 s hs
      · split at hs
        · simp only [List.mem_cons, List.mem_append, List.not_mem_nil, or_false] at hs
          rcases hs with hs | rfl
          · exact ihl h2 s hs
          · exact h1
        · split at hs
          · simp only [List.mem_cons, List.mem_append] at hs
            rcases hs with hs | rfl | hs
            · exact ihl h2 s hs
            · exact h1
            · exact ihr h3 s hs
          · simp only [List.mem_cons, List.not_mem_nil, or_false] at hs
            subst hs
            exact h1

theorem ySy_le : ∀ (T : ET), (ySy T).length ≤ 2 * tsz T
  | .nil => by simp [ySy]
  | .node b o t l r => by
    have h1 := ySy_le l
    have h2 := ySy_le r
    simp only [ySy, tsz]
    split
    · simp; omega
    · split
      · simp; omega
      · split
        · simp; omega
        · split
          · simp; omega
          · simp; omega

/-- The bytes of words within a bound. -/
theorem txTo_len (ws : List WordR) (h : ∀ x ∈ ws, x.t.size ≤ 20000) : ∀ k, k ≤ ws.length → (txTo ws k).length ≤ 20001 * k
  | 0, _ => by simp [txTo]
  | k + 1, hk => by
    have ih := txTo_len ws h k (by omega)
    have hx : (atW ws k).t.size ≤ 20000 := h _ (by simp [atW, List.getD, (by omega : k < ws.length)])
    have hx' : (atW ws k).t.data.toList.length ≤ 20000 := by simpa using hx
    simp only [txTo, List.length_append]
    split
    · simp only [List.length_cons, List.length_nil]; omega
    · simp only [List.length_nil]; omega

/-- The text of the words of a tree. -/
def txT (T : ET) : List UInt8 := txTo (yT T) (yT T).length

theorem txT_len {T : ET} (h : TxB T) (n : Nat) (hn : tsz T ≤ n) : (txT T).length ≤ 20001 * (2 * n) := by
  have h1 := ySy_le T
  have h2 := txTo_len (yT T) (fun x hx => by
    simp only [yT, List.mem_map] at hx
    obtain ⟨s, hs, rfl⟩ := hx
    exact txB_words T h s hs) (yT T).length (Nat.le_refl _)
  have h3 : (yT T).length = (ySy T).length := by simp [yT]
  unfold txT
  omega

/-- What Print answers. -/
def PrintIs (ns : List OpR) (xs : List NodeR) (s : ByteArray) (v : Bool) : Prop :=
  (((IsCode ns 0 ∧ InOrd xs ∧ Knows ns xs) ∧ (gS ns xs (xs.length - 1) 0 0).length ≤ 20000) ∧ v = true ∧ s = ⟨(txT (grT ns (treeOf xs) 0)).toArray⟩) ∨
  (¬ ((IsCode ns 0 ∧ InOrd xs ∧ Knows ns xs) ∧ (gS ns xs (xs.length - 1) 0 0).length ≤ 20000) ∧ v = false ∧ s = ⟨#[]⟩)

theorem PrintIs.one {ns : List OpR} {xs : List NodeR} {s s' : ByteArray} {v v' : Bool} (h : PrintIs ns xs s v) (h' : PrintIs ns xs s' v') : s = s' ∧ v = v' := by
  rcases h with ⟨a, rfl, rfl⟩ | ⟨a, rfl, rfl⟩
  · rcases h' with ⟨_, rfl, rfl⟩ | ⟨a', _⟩
    · exact ⟨rfl, rfl⟩
    · exact absurd a a'
  · rcases h' with ⟨a', _⟩ | ⟨_, rfl, rfl⟩
    · exact absurd a' a
    · exact ⟨rfl, rfl⟩

/-- What is known of the tree that is printed. -/
theorem print_tree {ns : List OpR} {xs : List NodeR} (h : (IsCode ns 0 ∧ InOrd xs ∧ Knows ns xs) ∧ (gS ns xs (xs.length - 1) 0 0).length ≤ 20000) :
    ∃ G, G = grT ns (treeOf xs) 0 ∧ GoodT ns G ∧ TxB G ∧ tsz G ≤ 20000 ∧ gS ns xs (xs.length - 1) 0 0 = nd G 0 ∧ fS ns xs (xs.length - 1) 0 = exT ns G := by
  obtain ⟨⟨hv, hord, hkn⟩, hlen⟩ := h
  obtain ⟨T, hT, hz, hx⟩ := well_of_ord hord hkn
  have hto : treeOf xs = T := by rw [hx]; exact treeOf_nd hT.sh
  have hli : Lies xs T 0 := by rw [hx]; exact lies_self T
  have hg := gS_tree ns xs T 0 hT.sh hli 0 0
  have hf := fS_tree ns xs T 0 hT.sh hli 0
  rw [Nat.zero_add, hz] at hg hf
  refine ⟨grT ns (treeOf xs) 0, rfl, ?_, ?_, ?_, ?_, ?_⟩
  · rw [hto]; exact (good_grT hv T 0 hT (by omega)).1
  · rw [hto]; exact txB_grT ns T 0 (txB_lies hord.2.2.2 T 0 hli (by omega))
  · rw [hto, ← nd_len _ 0, ← hg]; exact hlen
  · rw [hto]; exact hg
  · rw [hto]; exact hf
end Go.Proofs.YtfboipappaonhaaGreat
