import Derived.OwnWalk
import Derived.Laws.OwnMore
import Derived.Maps.AppendAt
import Derived.Test.YtokabkhnidlcnabGreatR00
import Derived.Test.YtokabkhnidlcnabGreatR06
import Derived.Test.YtokabkhnidlcnabGreatR25
import Derived.Test.YtokabkhnidlcnabGreatR33
import Derived.Test.YtokabkhnidlcnabGreatS00
import Derived.Test.YtokabkhnidlcnabGreatS03

/-
  Walk: the specification's Format.
-/
namespace Go.Proofs.YtokabkhnidlcnabGreat
set_option maxRecDepth 100000
set_option linter.unusedSimpArgs false
set_option linter.unusedVariables false
open Go.RowKit

set_option maxHeartbeats 2000000 in
theorem specFormat_any (b off cap : Nat) (xs : List OpR) (s : ByteArray) (w : World) (hmx : xs.length ≤ 1048576) (hw : Ops w b off xs) (hsz : Sized xs) (hB : b < w.heap.size) (hs : s.size ≤ 1048576) :
    Calls Tryz.prog 19 #[.agg #[.slice (some ⟨b, off, none⟩) xs.length cap], .string s] w fun e w' => (∃ (t : ByteArray) (c p : Int), e = .returned (.tuple #[.string t, .int .i64 c, .int .i64 p]) ∧ Hid (FormIs xs s t c p)) ∧ Below w.heap.size w w' := by
  have HW := hide hw
  have HS := hide hsz
  have hb0 := below1 w (.cells #[.slice (some ⟨b, off, none⟩) xs.length cap] 33)
  have HX := specParse_any b off cap xs s _ hmx (hw.below hb0 hB) hsz (by have := hb0.size; omega) hs
  clear hw hsz
  go_enter Tryz.func19, Tryz.ntmps19
  go_wp2_with fail
  refine HX.mono ?_
  clear HX
  rintro e w1 ⟨⟨a, cc, us, c, p, rfl, ho, hp⟩, hb1⟩
  have bel1 : Below w.heap.size w w1 := hb0.trans (hb1.mono hb0.size)
  have t1 : w1.cell? ⟨w.heap.size, 0, none⟩ = some (.slice (some ⟨b, off, none⟩) xs.length cap) := (hb1.cell (p := ⟨w.heap.size, 0, none⟩) (by simp)).trans (by simp [go_sem])
  have z1 : w.heap.size + 1 ≤ w1.heap.size := by have := hb1.size; simp at this; omega
  clear hb1 hb0
  have hb2 := below1 w1 (.cells #[.slice a us.length cc] 28)
  have bel2 := bel1.trans (hb2.mono bel1.size)
  by_cases hc : c = 0
  case neg =>
    have hc' : (c != 0) = true := by simpa using hc
    have HN := hide (show FormIs xs s ⟨#[]⟩ c p from ⟨us, c, p, unhide hp, Or.inl ⟨hc, rfl, rfl, rfl⟩⟩)
    clear hc ho
    go_wp2_with fail
    refine bodyPost_ret (v := .tuple #[.string ⟨#[]⟩, .int .i64 c, .int .i64 p]) (by simp [results, Tryz.results19, go_sem]) rfl ⟨⟨_, _, _, rfl, HN⟩, bel2⟩
  subst hc
  obtain ⟨hl1, hl2, hsn⟩ := parse_tree (unhide hp)
  obtain ⟨g, rfl, hfl⟩ : ∃ g, a = some ⟨g, 0, none⟩ ∧ FilledN w1 g us us.length := by
    rcases unhide ho with ⟨h0, _⟩ | ⟨g, e, _, hf⟩
    · omega
    · exact ⟨g, e, hf⟩
  have hg := hfl.1
  have t2 := (hb2.cell (p := ⟨w.heap.size, 0, none⟩) (by simp only; omega)).trans t1
  have HX := specPrint_any b off cap g 0 cc xs us _ hmx (by omega) ((unhide HW).below bel2 hB) (unhide HS) (Nat.lt_of_lt_of_le hB bel2.size) (hfl.below hb2 hg).ops hsn (by have := hb2.size; omega)
  clear ho hfl hsn t1 hl1 hl2 hg
  go_wp2_with fail
  refine HX.mono ?_
  clear HX
  rintro e w3 ⟨⟨t, v, rfl, ht⟩, hb3⟩
  have bel3 := bel2.trans (hb3.mono bel2.size)
  have HN := hide (show FormIs xs s t 0 0 from ⟨us, 0, p, unhide hp, Or.inr ⟨rfl, ⟨v, unhide ht⟩, rfl, rfl⟩⟩)
  clear hb3 ht hb2
  go_wp2_with fail
  refine bodyPost_ret (v := .tuple #[.string t, .int .i64 0, .int .i64 0]) (by simp [results, Tryz.results19, go_sem]) rfl ⟨⟨_, _, _, rfl, HN⟩, bel3⟩
end Go.Proofs.YtokabkhnidlcnabGreat

/-
  Rows of texts that a call makes by append.
-/
namespace Go.Proofs.YtokabkhnidlcnabGreat
set_option maxRecDepth 100000
set_option linter.unusedSimpArgs false
set_option linter.unusedVariables false
open Go.RowKit

def cellsS (l : List ByteArray) : List Value := l.map fun s => .string s
theorem cellsS_len (l : List ByteArray) : (cellsS l).length = l.length := by simp [cellsS]
theorem cellsS_append (l l' : List ByteArray) : cellsS (l ++ l') = cellsS l ++ cellsS l' := by simp [cellsS]
theorem cellsS_one' (l : List ByteArray) : ∀ u ∈ cellsS l, u.oneCell' = true := by
  intro u hu
  simp only [cellsS, List.mem_map] at hu
  obtain ⟨b, _, rfl⟩ := hu
  rfl

theorem infoStr : (Tryz.prog.info? 9).map (fun i => (i.zero, i.size, i.bytes)) = some (some (.string ⟨#[]⟩), 1, 16) := by kernel_rfl

theorem new_newsS (w : World) (t : ByteArray) : ∀ j u, (cellsS [t])[j]? = some u → (w.alloc (.cells #[.string t] 9)).cell? ((⟨w.heap.size, 0, none⟩ : Addr).add j) = some u := by
  intro j u hj
  rw [Addr.add_mid]
  have := World.rangeAt_of_block (w := w.alloc (.cells #[.string t] 9)) (b := w.heap.size) (heap_alloc_new w _) 0 1
  exact this j u (by simpa [cellsS] using hj)

/-- A row of texts behind which one may be put. -/
def RowS (w : World) (B : Nat) (v : Value) (ps : List ByteArray) : Prop := w.ownsRow B 9 1 v ps.length (cellsS ps)

theorem rowS_slice {w : World} {B n : Nat} {e : TypeId} {size : Nat} {u : Value} {xs : List Value} (h : w.ownsRow B e size u n xs) : ∃ a c, u = .slice a n c := by
  obtain ⟨_, ⟨rfl, rfl⟩ | ⟨g, cap, cur, rfl, _⟩⟩ := h
  · exact ⟨none, 0, rfl⟩
  · exact ⟨_, _, rfl⟩

theorem RowS.grown {w w' : World} {B : Nat} {u : Value} {us : List ByteArray} {row : Option Nat} (h : RowS w B u us) (hg : w.grownBy w' row) (hne : ∀ k, u.ownBlock = some k → row ≠ some k) : RowS w' B u us :=
  World.ownsRow.kept h hg (by
    cases e : u.ownBlock with
    | none => exact Or.inl rfl
    | some k => exact Or.inr (fun x => hne k e x.symm))

theorem RowS.below {w w' : World} {B : Nat} {u : Value} {us : List ByteArray} (h : RowS w B u us) (hb : Below w.heap.size w w') : RowS w' B u us :=
  h.grown (row := none) ⟨hb.os, hb.tape, hb.output, hb.size, fun i hi _ => hb.block i hi⟩ (fun k _ e => by cases e)

theorem RowS.lt {w : World} {B : Nat} {u : Value} {us : List ByteArray} (h : RowS w B u us) : ∀ g, u.ownBlock = some g → B ≤ g ∧ g < w.heap.size := fun g hg => World.ownsRow.lt h g hg

/-- The texts of a row, as they lie in memory. -/
theorem RowS.cells {w : World} {B g n c : Nat} {us : List ByteArray} (h : RowS w B (.slice (some ⟨g, 0, none⟩) n c) us) : ∀ (j : Nat) x, us[j]? = some x → w.cell? ⟨g, 0 + j, none⟩ = some (.string x) := by
  intro j x hj
  have hl : j < us.length := (List.getElem?_eq_some_iff.1 hj).1
  obtain ⟨_, ⟨h1, _⟩ | ⟨g', cap, cur, h1, h2⟩⟩ := h
  · cases h1
  · have hh : RowS w B (.slice (some ⟨g', 0, none⟩) us.length cap) us := ⟨by assumption, Or.inr ⟨g', cap, cur, rfl, h2⟩⟩
    simp only [Value.slice.injEq, Option.some.injEq, Addr.mk.injEq] at h1
    obtain ⟨⟨rfl, _⟩, _⟩ := h1
    rw [Nat.zero_add, World.ownsRow.cellAt hh j (by omega)]
    simp [cellsS, hj]
end Go.Proofs.YtokabkhnidlcnabGreat

/-
  Walks: the program's printer: one word more.
-/
namespace Go.Proofs.YtokabkhnidlcnabGreat
set_option maxRecDepth 100000
set_option linter.unusedSimpArgs false
set_option linter.unusedVariables false
open Go.RowKit Go.Maps

set_option maxHeartbeats 1000000 in
theorem blankBetween_any (a c : Int) (w : World) : Calls Tryz.prog 125 #[.int .i64 a, .int .i64 c] w fun e w' => e = .returned (.bool (blankB a c)) ∧ w' = w := by
  have hb : blankB a c = (a == 3 || c == 3 || (a == 2 && c == 2)) := by
    unfold blankB
    rw [Bool.eq_iff_iff]
    simp only [decide_eq_true_eq, Bool.or_eq_true, Bool.and_eq_true, beq_iff_eq]
    omega
  have HB := hide hb
  clear hb
  by_cases h1 : a = 3
  · have h1' : (a == 3) = true := by simpa using h1
    rw [h1'] at HB
    go_enter Tryz.func125, Tryz.ntmps125
    go_wp2
    go_ret
    exact ⟨ret_bool (by rw [unhide HB]; rfl), rfl⟩
  · have h1' : (a == 3) = false := by simpa using h1
    rw [h1'] at HB
    by_cases h2 : c = 3
    · have h2' : (c == 3) = true := by simpa using h2
      rw [h2'] at HB
      go_enter Tryz.func125, Tryz.ntmps125
      go_wp2
      go_ret
      exact ⟨ret_bool (by rw [unhide HB]; rfl), rfl⟩
    · have h2' : (c == 3) = false := by simpa using h2
      rw [h2'] at HB
      by_cases h3 : a = 2
      · have h3' : (a == 2) = true := by simpa using h3
        rw [h3'] at HB
        go_enter Tryz.func125, Tryz.ntmps125
        go_wp2
        go_ret
        exact ⟨ret_bool (by rw [unhide HB]; rfl), rfl⟩
      · have h3' : (a == 2) = false := by simpa using h3
        rw [h3'] at HB
        go_enter Tryz.func125, Tryz.ntmps125
        go_wp2
        go_ret
        exact ⟨ret_bool (by rw [unhide HB]; rfl), rfl⟩

/-- The printer in memory: its pieces, the kind of the last word. -/
structure PrAt (w : World) (b : Nat) (v : Value) (ps : List ByteArray) (last : Int) : Prop where
  c0 : w.cell? ⟨b, 0, none⟩ = some v
  c1 : w.cell? ⟨b, 1, none⟩ = some (.int .i64 last)
  fz : ∀ o, w.frozen? ⟨b, o, none⟩ = false
  row : RowS w (b + 1) v ps

theorem PrAt.ne {w : World} {b : Nat} {v : Value} {ps : List ByteArray} {last : Int} (h : PrAt w b v ps last) : v.ownBlock ≠ some b := fun e => by
  have := (h.row.lt _ e).1
  omega

theorem PrAt.below {w w' : World} {b : Nat} {v : Value} {ps : List ByteArray} {last : Int} (h : PrAt w b v ps last) (hb : Below w.heap.size w w') : PrAt w' b v ps last :=
  have hlt : b < w.heap.size := block_lt_of_cell h.c0
  ⟨(hb.cell (p := ⟨b, 0, none⟩) hlt).trans h.c0, (hb.cell (p := ⟨b, 1, none⟩) hlt).trans h.c1, fun o => (hb.frozen (p := ⟨b, o, none⟩) hlt).trans (h.fz o), h.row.below hb⟩

theorem PrAt.keep {w w2 : World} {o : Obj} {b : Nat} {v : Value} {ps : List ByteArray} {last : Int} (h : PrAt w b v ps last) (hg : (w.alloc o).grownBy w2 v.ownBlock) :
    (∀ q, w2.cell? ⟨b, q, none⟩ = w.cell? ⟨b, q, none⟩) ∧ ∀ q, w2.frozen? ⟨b, q, none⟩ = w.frozen? ⟨b, q, none⟩ := by
  have hlt : b < w.heap.size := block_lt_of_cell h.c0
  have hbk : w2.heap[b]? = (w.alloc o).heap[b]? := hg.block b (by simp; omega) (fun e => h.ne e.symm)
  exact ⟨fun q => (World.cell?_of_block (w := w.alloc o) hbk).trans ((below1 w o).cell (p := ⟨b, q, none⟩) hlt), fun q => (World.frozen?_of_block (w := w.alloc o) hbk).trans ((below1 w o).frozen (p := ⟨b, q, none⟩) hlt)⟩

/-- Its pieces have turned, and lie in it. -/
theorem PrAt.put {w w2 : World} {o : Obj} {b : Nat} {v v2 : Value} {ps ps2 : List ByteArray} {last : Int} (h : PrAt w b v ps last) (hg : (w.alloc o).grownBy w2 v.ownBlock) (hr : RowS w2 (b + 1) v2 ps2) :
    PrAt (w2.setCell ⟨b, 0, none⟩ v2) b v2 ps2 last ∧ KeptS w (w2.setCell ⟨b, 0, none⟩ v2) b v.ownBlock := by
  have hlt : b < w.heap.size := block_lt_of_cell h.c0
  have hbk : w2.heap[b]? = (w.alloc o).heap[b]? := hg.block b (by simp; omega) (fun e => h.ne e.symm)
  have e : ∀ q, w2.cell? ⟨b, q, none⟩ = w.cell? ⟨b, q, none⟩ := fun q => (World.cell?_of_block (w := w.alloc o) hbk).trans ((below1 w o).cell (p := ⟨b, q, none⟩) hlt)
  have f : ∀ q, w2.frozen? ⟨b, q, none⟩ = w.frozen? ⟨b, q, none⟩ := fun q => (World.frozen?_of_block (w := w.alloc o) hbk).trans ((below1 w o).frozen (p := ⟨b, q, none⟩) hlt)
  refine ⟨⟨World.cell?_setCell_same _ _ _ ((e 0).trans h.c0), (World.cell?_setCell_other _ _ _ _ (by simp)).trans ((e 1).trans h.c1), fun q => (World.frozen?_setCell _ _ _ _).trans ((f q).trans (h.fz q)), hr.grown (set1_grown _ b 0 _) (fun k hk => fun x => ?_)⟩, ?_⟩
  · injection x with x
    have := (hr.lt k hk).1
    omega
  · have e1 := hg.size
    simp at e1
    refine ⟨hg.os, hg.tape, hg.output, by simp [World.setCell]; omega, fun i hi h1 h2 => ?_⟩
    rw [Below.heap_setCell _ _ _ _ (by simpa using h1)]
    exact (hg.block i (by simp; omega) h2).trans ((below1 w o).block i hi)

theorem PrAt.last {w : World} {b : Nat} {v : Value} {ps : List ByteArray} {last : Int} (h : PrAt w b v ps last) (k : Int) : PrAt (w.setCell ⟨b, 1, none⟩ (.int .i64 k)) b v ps k :=
  ⟨(World.cell?_setCell_other _ _ _ _ (by simp)).trans h.c0, World.cell?_setCell_same _ _ _ h.c1, fun q => (World.frozen?_setCell _ _ _ _).trans (h.fz q), h.row.grown (set1_grown _ b 1 _) (fun k hk => fun x => by
    injection x with x
    have := (h.row.lt k hk).1
    omega)⟩

theorem KeptS.refl (w : World) (p : Nat) (row : Option Nat) : KeptS w w p row := ⟨rfl, rfl, rfl, Nat.le_refl _, fun _ _ _ _ => rfl⟩
theorem KeptS.trans {w w1 w2 : World} {p : Nat} {row row' : Option Nat} (h : KeptS w w1 p row) (h2 : KeptS w1 w2 p row') (hr : row' = row ∨ ∃ k, row' = some k ∧ w.heap.size ≤ k) : KeptS w w2 p row :=
  ⟨h2.os.trans h.os, h2.tape.trans h.tape, h2.output.trans h.output, Nat.le_trans h.size h2.size, fun i hi h1 hne => (h2.block i (Nat.lt_of_lt_of_le hi h.size) h1 (fun e => by
    rcases hr with rfl | ⟨k, rfl, hk⟩
    · exact hne e
    · injection e with e; omega)).trans (h.block i hi h1 hne)⟩
theorem KeptS.of_below {w w' : World} {p : Nat} {row : Option Nat} (h : Below w.heap.size w w') : KeptS w w' p row := ⟨h.os, h.tape, h.output, h.size, fun i hi _ _ => h.block i hi⟩
theorem KeptS.below {w w1 w2 : World} {p : Nat} {row : Option Nat} (h : Below w.heap.size w w1) (h2 : KeptS w1 w2 p row) : KeptS w w2 p row :=
  ⟨h2.os.trans h.os, h2.tape.trans h.tape, h2.output.trans h.output, Nat.le_trans h.size h2.size, fun i hi h1 hne => (h2.block i (Nat.lt_of_lt_of_le hi h.size) h1 hne).trans (h.block i hi)⟩
theorem KeptS.set {w : World} {p o : Nat} {v : Value} {row : Option Nat} : KeptS w (w.setCell ⟨p, o, none⟩ v) p row :=
  ⟨rfl, rfl, rfl, by simp [World.setCell], fun i _ h1 _ => Below.heap_setCell _ _ _ _ (by simpa using h1)⟩
theorem KeptS.at {w w' : World} {p : Nat} {row row' : Option Nat} (h : KeptS w w' p row) (hr : row' = row ∨ ∃ k, row' = some k ∧ w.heap.size ≤ k) (r : Option Nat) (hr2 : r = row' ∨ ∃ k, r = some k ∧ w'.heap.size ≤ k) : r = row ∨ ∃ k, r = some k ∧ w.heap.size ≤ k := by
  have := h.size
  rcases hr2 with rfl | ⟨k, rfl, hk⟩
  · exact hr
  · exact Or.inr ⟨k, rfl, by omega⟩
theorem KeptS.cell {w w' : World} {p : Nat} {row : Option Nat} (h : KeptS w w' p row) {b : Nat} (hb : b < w.heap.size) (h1 : b ≠ p) (h2 : row ≠ some b) (o : Nat) : w'.cell? ⟨b, o, none⟩ = w.cell? ⟨b, o, none⟩ :=
  World.cell?_of_block (w := w) (h.block b hb h1 (fun e => h2 e.symm))

/-- What a step of the printer leaves. -/
def PrPost (w : World) (b : Nat) (v : Value) (st : List ByteArray × Int) (x : Ending) (w' : World) : Prop :=
  x = .returned (.tuple #[]) ∧ ∃ v', Hid (PrAt w' b v' st.1 st.2) ∧ Hid (KeptS w w' b v.ownBlock) ∧ Hid (v'.ownBlock = v.ownBlock ∨ ∃ k, v'.ownBlock = some k ∧ w.heap.size ≤ k)

set_option maxHeartbeats 2000000 in
theorem put_any (b : Nat) (v : Value) (ps : List ByteArray) (last kind : Int) (t : ByteArray) (w : World) (h : PrAt w b v ps last) (hl : ps.length + 2 ≤ 200000) :
    Calls Tryz.prog 87 #[.pointer (some ⟨b, 0, none⟩), .string t, .int .i64 kind] w (PrPost w b v (ps ++ ((if blankB last kind then [blk] else []) ++ [t]), kind)) := by
  obtain ⟨i0, hi0, hz0, hz1, hz2⟩ : ∃ i, Tryz.prog.info? 9 = some i ∧ i.zero = some (.string ⟨#[]⟩) ∧ i.size = 1 ∧ i.bytes = 16 := by
    obtain ⟨i, hi, hz⟩ := Option.map_eq_some_iff.1 infoStr
    simp only [Prod.mk.injEq] at hz
    exact ⟨i, hi, hz.1, hz.2.1, hz.2.2⟩
  have HI := hide hi0
  have HZ := hide (And.intro hz0 (And.intro hz1 hz2))
  clear hi0 hz0 hz1 hz2
  obtain ⟨a, c, rfl⟩ := rowS_slice h.row
  have HP := hide h
  have hlt : b < w.heap.size := block_lt_of_cell h.c0
  have c0 := h.c0
  have c1 := h.c1
  have f0 := h.fz 0
  clear h
  have last2 : ∀ (v1 : Value) (ps1 : List ByteArray) (w1 : World), Hid (PrAt w1 b v1 ps1 last) → Hid (KeptS w w1 b (Value.slice a ps.length c).ownBlock) → Hid (v1.ownBlock = (Value.slice a ps.length c).ownBlock ∨ ∃ k, v1.ownBlock = some k ∧ w.heap.size ≤ k) →
      Hid (PrAt (w1.setCell ⟨b, 1, none⟩ (.int .i64 kind)) b v1 ps1 kind) ∧ Hid (KeptS w (w1.setCell ⟨b, 1, none⟩ (.int .i64 kind)) b (Value.slice a ps.length c).ownBlock) :=
    fun v1 ps1 w1 hp hk ho => ⟨hide ((unhide hp).last kind), hide ((unhide hk).trans KeptS.set (Or.inl rfl))⟩
  have HL := hide last2
  clear last2
  obtain ⟨ps2, HS2⟩ : ∃ ps2, Hid (ps ++ ((if blankB last kind then [blk] else []) ++ [t]) = ps2) := ⟨_, hide rfl⟩
  rw [unhide HS2]
  cases hbl : blankB last kind
  · have HS3 := hide (show ps2 = ps ++ [t] by rw [← unhide HS2, hbl]; simp)
    clear HS2
    go_enter Tryz.func87, Tryz.ntmps87
    go_wp2_with fail
    refine (blankBetween_any last kind _).mono ?_
    rintro e w' ⟨rfl, hw'⟩
    have hw2 := hw'.symm
    subst hw2
    rw [hbl]
    go_wp2_with (at_builtin; go_loud (refine wpList_append_own_at _ rfl (.tmp 25) (.tmp 27) 95 rfl (b + 1) 9 i0 _ 1 16 Tryz.underlying95 (unhide HI) (unhide HZ).1 (unhide HZ).2.1 (unhide HZ).2.2 rfl (by decide) _ ps.length (cellsS ps) rfl ((unhide HP).row.below (below1 _ _)) ⟨w.heap.size, 0, none⟩ 1 1 (cellsS [t]) rfl rfl (by simpa using new_newsS w t) (cellsS_one' _) ?b1 ?b2 ?b3 ?next))
    case b1 => unfold maxLen; omega
    case b2 => omega
    case b3 => first | omega | (simp; omega)
    case next =>
      intro v4 w4 hown4 hgrow4 hnil4 hat4
      have hr4 : RowS w4 (b + 1) v4 ps2 := by
        unfold RowS
        rw [unhide HS3, cellsS_append, List.length_append]
        exact hown4
      obtain ⟨p5, k5⟩ := (unhide HP).put hgrow4 hr4
      have HA := hide (show v4.ownBlock = (Value.slice a ps.length c).ownBlock ∨ ∃ k, v4.ownBlock = some k ∧ w.heap.size ≤ k from hat4.imp id (fun h => ⟨_, h, by first | omega | (simp; omega)⟩))
      obtain ⟨a4, c4, rfl⟩ := rowS_slice hr4
      have HP5 := hide p5
      have HK5 := hide k5
      obtain ⟨HP6, HK6⟩ := (unhide HL) _ _ _ HP5 HK5 HA
      obtain ⟨qe, ge⟩ := (unhide HP).keep hgrow4
      have q0 := (qe 0).trans c0
      have q1 := (qe 1).trans c1
      have g0 := (ge 0).trans f0
      have g1 := (ge 1).trans ((unhide HP).fz 1)
      clear hown4 hgrow4 hnil4 hat4 hr4 p5 k5 c0 c1 f0 qe ge
      go_wp2_with fail
      go_end0
      exact ⟨rfl, _, HP6, HK6, HA⟩
  · obtain ⟨ps1, HS1⟩ : ∃ ps1, Hid (ps1 = ps ++ [blk]) := ⟨_, hide rfl⟩
    have hl1 : ps1.length + 1 ≤ 200000 := by rw [unhide HS1]; simp; omega
    have HS3 := hide (show ps2 = ps1 ++ [t] by rw [← unhide HS2, unhide HS1, hbl]; simp)
    clear HS2
    go_enter Tryz.func87, Tryz.ntmps87
    go_wp2_with fail
    refine (blankBetween_any last kind _).mono ?_
    rintro e w' ⟨rfl, hw'⟩
    have hw2 := hw'.symm
    subst hw2
    rw [hbl]
    go_wp2_with (at_builtin; refine wpList_append_own_at _ rfl (.tmp 16) (.tmp 17) 95 rfl (b + 1) 9 i0 _ 1 16 Tryz.underlying95 (unhide HI) (unhide HZ).1 (unhide HZ).2.1 (unhide HZ).2.2 rfl (by decide) _ ps.length (cellsS ps) rfl ((unhide HP).row.below (below1 _ _)) ⟨w.heap.size, 0, none⟩ 1 1 (cellsS [⟨#[32]⟩]) rfl rfl (by simpa using new_newsS w ⟨#[32]⟩) (cellsS_one' _) ?b1 ?b2 ?b3 ?next)
    case b1 => unfold maxLen; omega
    case b2 => omega
    case b3 => first | omega | (simp; omega)
    case next =>
      intro v4 w4 hown4 hgrow4 hnil4 hat4
      have hr4 : RowS w4 (b + 1) v4 ps1 := by
        unfold RowS
        rw [unhide HS1, cellsS_append, List.length_append]
        exact hown4
      obtain ⟨p5, k5⟩ := (unhide HP).put hgrow4 hr4
      have HA := hide (show v4.ownBlock = (Value.slice a ps.length c).ownBlock ∨ ∃ k, v4.ownBlock = some k ∧ w.heap.size ≤ k from hat4.imp id (fun h => ⟨_, h, by first | omega | (simp; omega)⟩))
      obtain ⟨a4, c4, rfl⟩ := rowS_slice hr4
      have HP5 := hide p5
      have HK5 := hide k5
      obtain ⟨qe, ge⟩ := (unhide HP).keep hgrow4
      have q0 := (qe 0).trans c0
      have q1 := (qe 1).trans c1
      have g0 := (ge 0).trans f0
      have g1 := (ge 1).trans ((unhide HP).fz 1)
      have d0 := p5.c0
      have e0 := p5.fz 0
      have hlt4 : b < (w4.setCell ⟨b, 0, none⟩ (.slice a4 ps1.length c4)).heap.size := block_lt_of_cell d0
      obtain ⟨W4, HW4⟩ : ∃ W4, Hid (W4 = w4.setCell ⟨b, 0, none⟩ (.slice a4 ps1.length c4)) := ⟨_, hide rfl⟩
      clear hown4 hgrow4 hnil4 hat4 hr4 p5 k5 c0 c1 f0 qe ge
      go_wp2_with (at_builtin; refine wpList_append_own_at _ rfl (.tmp 25) (.tmp 27) 95 rfl (b + 1) 9 i0 _ 1 16 Tryz.underlying95 (unhide HI) (unhide HZ).1 (unhide HZ).2.1 (unhide HZ).2.2 rfl (by decide) _ ps1.length (cellsS ps1) rfl ((unhide HP5).row.below (below1 _ _)) ⟨w4.heap.size, 0, none⟩ 1 1 (cellsS [t]) rfl rfl (by simpa [World.setCell] using new_newsS (w4.setCell ⟨b, 0, none⟩ (.slice a4 ps1.length c4)) t) (cellsS_one' _) ?b1 ?b2 ?b3 ?next)
      case b1 => unfold maxLen; omega
      case b2 => omega
      case b3 => first | omega | (simp at hlt4 ⊢; omega)
      case next =>
        intro v6 w6 hown6 hgrow6 hnil6 hat6
        have hr6 : RowS w6 (b + 1) v6 ps2 := by
          unfold RowS
          rw [unhide HS3, cellsS_append, List.length_append]
          exact hown6
        obtain ⟨p7, k7⟩ := (unhide HP5).put hgrow6 hr6
        have HK7 := hide ((unhide HK5).trans k7 (unhide HA))
        have HA7 := hide ((unhide HK5).at (unhide HA) v6.ownBlock (hat6.imp id (fun h => ⟨_, h, by first | omega | (simp; done) | (simp; omega)⟩)))
        obtain ⟨a6, c6, rfl⟩ := rowS_slice hr6
        have HP7 := hide p7
        obtain ⟨HP8, HK8⟩ := (unhide HL) _ _ _ HP7 HK7 HA7
        obtain ⟨qe, ge⟩ := (unhide HP5).keep hgrow6
        have r0 := (qe 0).trans d0
        have r1 := (qe 1).trans (unhide HP5).c1
        have t0 := (ge 0).trans e0
        have t1 := (ge 1).trans ((unhide HP5).fz 1)
        clear hown6 hgrow6 hnil6 hat6 hr6 p7 k7 qe ge q0 q1 g0 g1 d0 e0
        go_wp2_with fail
        go_end0
        exact ⟨rfl, _, HP8, HK8, HA7⟩
end Go.Proofs.YtokabkhnidlcnabGreat
