import Derived.Deep.AppendLies
import Derived.Test.YtokabkhnidlcnabGreatDoorL16
import Derived.Test.YtokabkhnidlcnabGreatDoorL23
import Derived.Test.YtokabkhnidlcnabGreatDoorL25
import Derived.Test.YtokabkhnidlcnabGreatDoorL26

/-
  Walks: TableOk of the program over whatever row of operators.
-/
namespace Go.Proofs.YtokabkhnidlcnabGreatDoor
set_option maxRecDepth 100000
set_option linter.unusedSimpArgs false
set_option linter.unusedVariables false
open Go.RowKit Go.Maps

set_option maxHeartbeats 1000000 in
theorem allWF_nil (a : Option Addr) (c : Nat) (w : World) :
    Calls Tryz.prog 73 #[.slice a 0 c] w fun e w' => e = .returned (.bool true) ∧ w' = w := by
  go_enter Tryz.func73, Tryz.ntmps73
  go_wp2
  go_loop [7] (fun i => i = .int .i64 0) (fun _ => 0)
  case atStart => rfl
  case round =>
    subst hrel
    go_wp2
    go_ret
    exact ⟨rfl, rfl⟩

set_option maxHeartbeats 1000000 in
theorem indexTable_nil (a : Option Addr) (c : Nat) (w : World) :
    Calls Tryz.prog 67 #[.agg #[.slice a 0 c]] w fun e w' => (∃ x y, e = .returned (.tuple #[.agg #[.map (some x), .map (some y)], .int .i64 0]) ∧ Idx w' x y [] 0) ∧ Below w.heap.size w w' := by
  have hmm := @run_makeMap Tryz.prog
  go_enter Tryz.func67, Tryz.ntmps67
  go_wp2_with (first | (go_at_call 73; (with_reducible refine (allWF_nil _ _ _).mono ?_); rintro e w1 ⟨rfl, hx⟩; obtain rfl := hx.symm; clear hx))
  go_loop [24, 5] (fun i mx => i = .int .i64 0 ∧ mx = .bool false) (fun _ _ => 0)
  case atStart => exact ⟨rfl, rfl⟩
  case round =>
    obtain ⟨rfl, rfl⟩ := hrel
    go_wp2
    refine bodyPost_ret (v := .tuple #[.agg #[.map (some (w.heap.size + 1 + 1)), .map (some (w.heap.size + 1 + 1 + 1))], .int .i64 0]) ?res rfl ⟨⟨_, _, rfl, ?ix⟩, ((((below1 _ _).alloc (by first | (simp; done) | (simp; omega)) _).alloc (by first | (simp; done) | (simp; omega)) _).alloc (by first | (simp; done) | (simp; omega)) _).alloc (by first | (simp; done) | (simp; omega)) _⟩
    case res => simp [results, Tryz.results67, go_sem]
    case ix =>
      have h := Idx.start ((w.alloc (.cells #[.slice a 0 c] 54)).alloc (.cells #[.map (some (w.heap.size + 1 + 1)), .map (some (w.heap.size + 1 + 1 + 1))] 115)) [] (.cells #[.map (some (w.heap.size + 1 + 1)), .map (some (w.heap.size + 1 + 1 + 1))] 115)
      simpa using h

set_option maxHeartbeats 1000000 in
theorem tableOk_some (b off cap : Nat) (xs : List OpR) (w : World) (hm : xs.length ≤ 1048576) (hw : Ops w b off xs) (hs : Sized xs) (hB : b < w.heap.size) :
    Calls Tryz.prog 57 #[.agg #[.slice (some ⟨b, off, none⟩) xs.length cap]] w fun e w' => (∃ c, e = .returned (.int .i64 c) ∧ IsCode xs c) ∧ Below w.heap.size w w' := by
  go_enter Tryz.func57, Tryz.ntmps57
  go_wp2_with fail
  refine (indexTable_any b off cap xs _ hm (hw.below (below1 _ _) hB) hs (by simp; omega)).mono ?_
  rintro e w1 ⟨⟨x, y, c, rfl, hc, _⟩, hb1⟩
  have HC := hide hc
  clear hc
  go_wp2_with fail
  go_ret
  exact ⟨⟨c, rfl, unhide HC⟩, ((below1 _ _).trans (hb1.mono (by simp))).alloc (by have := hb1.size; simp at this; omega) _⟩

set_option maxHeartbeats 1000000 in
theorem tableOk_nil (a : Option Addr) (cap : Nat) (w : World) :
    Calls Tryz.prog 57 #[.agg #[.slice a 0 cap]] w fun e w' => e = .returned (.int .i64 0) ∧ Below w.heap.size w w' := by
  go_enter Tryz.func57, Tryz.ntmps57
  go_wp2_with fail
  refine (indexTable_nil a cap _).mono ?_
  rintro e w1 ⟨⟨x, y, rfl, _⟩, hb1⟩
  go_wp2_with fail
  go_ret
  exact ⟨rfl, ((below1 _ _).trans (hb1.mono (by simp))).alloc (by have := hb1.size; simp at this; omega) _⟩

/-- TableOk of whatever row. -/
theorem tableOk_at (v : Value) (xs : List OpR) (w : World) (hm : xs.length ≤ 1048576) (hw : OpsAt w v xs) (hs : Sized xs) :
    Calls Tryz.prog 57 #[.agg #[v]] w fun e w' => (∃ c, e = .returned (.int .i64 c) ∧ IsCode xs c) ∧ Below w.heap.size w w' := by
  obtain ⟨a, c, rfl, ⟨h0, _, _⟩ | ⟨g, rfl, hg, ho⟩⟩ := hw
  · obtain rfl := List.length_eq_zero_iff.1 h0
    refine (tableOk_nil a c w).mono ?_
    rintro e w1 ⟨rfl, hb⟩
    exact ⟨⟨0, rfl, code_nil⟩, hb⟩
  · exact tableOk_some g 0 c xs w hm ho hs hg

theorem indexTable_at (a : Option Addr) (cap : Nat) (xs : List OpR) (w : World) (hm : xs.length ≤ 1048576) (h : OpsAt w (.slice a xs.length cap) xs) (hs : Sized xs) :
    Calls Tryz.prog 67 #[.agg #[.slice a xs.length cap]] w fun e w' => (∃ (x y : Option Nat) (c : Int), e = .returned (.tuple #[.agg #[.map x, .map y], .int .i64 c]) ∧ IsCode xs c ∧ (c = 0 → ∃ bo bs, x = some bo ∧ y = some bs ∧ Idx w' bo bs xs xs.length)) ∧ Below w.heap.size w w' := by
  obtain ⟨a', c', e, ⟨h0, _⟩ | ⟨g, rfl, hg, hops⟩⟩ := h
  · obtain rfl : xs = [] := List.length_eq_zero_iff.1 h0
    refine (indexTable_nil a cap w).mono ?_
    rintro e w' ⟨⟨x, y, rfl, hi⟩, hb⟩
    exact ⟨⟨_, _, 0, rfl, code_nil, fun _ => ⟨x, y, rfl, rfl, hi⟩⟩, hb⟩
  · injection e with e1 e2 e3
    subst e1
    exact indexTable_any g 0 cap xs w hm hops hs hg
end Go.Proofs.YtokabkhnidlcnabGreatDoor

/-
  Walk: a scope is valid (hasValidScope).
-/
namespace Go.Proofs.YtokabkhnidlcnabGreatDoor
set_option maxRecDepth 100000
set_option linter.unusedSimpArgs false
set_option linter.unusedVariables false
open Go.RowKit Go.Maps

/-- What the look at a scope leaves. -/
def VaPost (w : World) (C bs : Nat) (ms : List ModR) (T : Nat → List OpR) (i : Nat) (e : Ending) (w' : World) : Prop :=
  RetB e (IsCode (T i) 0) ∧ w.grownBy w' (some bs) ∧ ∃ G', ScM w' C bs ms T G'

set_option maxHeartbeats 2000000 in
theorem hasValid_any (B C P bs : Nat) (am : Option Addr) (cm : Nat) (ms : List ModR) (v1 : Value) (vs : List UvR) (U : List UnR) (kv : Value) (pv : Option Nat) (ks : List ByteArray) (T : Nat → List OpR) (rk : Nat → Nat) (hn : ms.length ≤ 100) (hN : NmsOk ms ks) (hR : RkE ms.length (nmF ms) U rk) (hT : BrE ms.length (nmF ms) U T) (hA : (allOps U).length ≤ 400000) (hF : ∀ o ∈ allOps U, Fine o) (hul : ∀ i, i < ms.length → (atU U i).us.length ≤ 20001)
    (i : Nat) (hi : i < ms.length) (w : World) (G : ByteArray → Option Value) (hM : ArgM w am ms) (hH : ScH w B C P bs am cm ms v1 vs U kv pv ks) (hG : ScM w C bs ms T G) :
    Calls Tryz.prog 41 #[.pointer (some ⟨P, 0, none⟩), .int .i64 (i : Int)] w (VaPost w C bs ms T i) := by
  have c0 := hH.pg.c0
  have hiI : (i : Int) < (ms.length : Int) := by omega
  rcases hM with hM | ⟨bA, off, rfl, hops, hbl⟩
  · omega
  obtain ⟨m0, m1⟩ := hops i hi
  have HX := hide (scopeOf_any B C P bs _ cm ms v1 vs U kv pv ks T rk hn hN hR hT hA hF hul (rk i + 1) i hi (by omega) w G hH hG)
  have hsub := hT.sub hR (by have := hH.pg.uns.1; have := hH.pg.ln; omega) (rk i + 1) i hi (by omega)
  have HTL := hide (show (T i).length ≤ 1048576 from (by have := ndu_len (T i) (allOps U) (hT.nd hi) hsub; omega))
  have HTZ := hide (show Sized (T i) from fun q hq => (hF _ (hsub _ (atO_mem hq))).1)
  clear hops hH hG hN hR hT hF hul hsub
  go_enter Tryz.func41, Tryz.ntmps41
  go_wp2_with (first | (go_at_call 23; (with_reducible refine (unhide HX).mono ?_); rintro e w6 ⟨v, G', rfl, g1, g2, g3, gp, g4, g5⟩; obtain ⟨v', hv', hov0, _⟩ := g2.at' i hi _ g1; obtain rfl : v = v' := (by simpa using hv'); have hov := hov0.ops; clear hov0; have HTO := hide (tableOk_at v (T i) w6 (unhide HTL) hov (unhide HTZ)); have HG6 := hide g2; have HW6 := hide g3; clear g1 g2 g3 g4 g5 gp hov hv' HX) | (go_at_call 57; (with_reducible refine (unhide HTO).mono ?_); rintro e w7 ⟨⟨c, rfl, hc⟩, hb7⟩; have HC := hide hc; have HB7 := hide hb7; clear hc hb7 HTO))
  go_ret
  have g6 := unhide HW6
  have b7 := unhide HB7
  have hz := g6.size
  refine ⟨⟨c == 0, rfl, ?_⟩, ⟨b7.os.trans g6.os, b7.tape.trans g6.tape, b7.output.trans g6.output, Nat.le_trans hz b7.size, fun q hq hne => (b7.block q (by omega)).trans (g6.block q hq hne)⟩, G', (unhide HG6).below b7⟩
  unfold Says
  constructor
  · intro h
    have e : c = 0 := by simpa using h
    rw [← e]; exact unhide HC
  · intro h
    have e := IsCode_one (unhide HC) h
    simp [e]
end Go.Proofs.YtokabkhnidlcnabGreatDoor

/-
  Walk: a module of the program is read (readUnit).
-/
namespace Go.Proofs.YtokabkhnidlcnabGreatDoor
set_option maxRecDepth 100000
set_option linter.unusedSimpArgs false
set_option linter.unusedVariables false
open Go.RowKit Go.Maps

/-- Nothing is changed but the record and the row. -/
structure KpP (P : Nat) (v1 : Value) (w w' : World) : Prop where
  os : w'.os = w.os
  tape : w'.tape = w.tape
  output : w'.output = w.output
  size : w.heap.size ≤ w'.heap.size
  blk : ∀ q, q < w.heap.size → q ≠ P → v1.ownBlock ≠ some q → w'.heap[q]? = w.heap[q]?
  cel : ∀ o, o ≠ 1 → w'.cell? ⟨P, o, none⟩ = w.cell? ⟨P, o, none⟩ ∧ w'.frozen? ⟨P, o, none⟩ = w.frozen? ⟨P, o, none⟩

/-- What reading a module leaves. -/
def RdPost (w : World) (H B P bs : Nat) (am : Option Addr) (cm : Nat) (ms : List ModR) (v1 : Value) (vs : List UvR) (U : List UnR) (k : Nat) (e : Ending) (w' : World) : Prop :=
  RetB e (¬ B2 ms k) ∧ KpP P v1 w w' ∧ ∃ x us os b c l v4, UnitIs (atM ms k).t us os b c l ∧ PgA w' B P bs am cm ms.length v4 (vs ++ [x]) (U ++ [⟨dst us, os, b⟩]) ∧ SameNew w.heap.size v1.ownBlock v4.ownBlock

theorem one_slice (a : Option Addr) (n c : Nat) : (Value.slice a n c).oneCell' = true := rfl

theorem b2_no {ms : List ModR} {k : Nat} {us : List ByteArray} {os : List OpR} {b : ByteArray} {c l : Int} (h : UnitIs (atM ms k).t us os b c l) (hc : c = 0) (h1 : (atM ms k).n.size ≤ 64) (h2 : NameT (atM ms k).n) : ¬ B2 ms k := by
  rintro (⟨us', os', b', c', l', h', hc'⟩ | h' | h')
  · exact hc' ((UnitIs.one h h').2.2.2.1 ▸ hc)
  · exact h' h2
  · omega

theorem PgA.below {w w' : World} {B P bs : Nat} {am : Option Addr} {cm n : Nat} {v1 : Value} {vs : List UvR} {U : List UnR} (h : PgA w B P bs am cm n v1 vs U) (hb : Below w.heap.size w w') : PgA w' B P bs am cm n v1 vs U := by
  have hl := h.lt
  have kc := fun q => hb.cell (p := ⟨P, q, none⟩) hl
  refine ⟨h.hP, h.hbs, h.hne, (kc 0).trans h.c0, (kc 1).trans h.c1, (kc 2).trans h.c2, (kc 3).trans h.c3, (kc 4).trans h.c4, fun o => (hb.frozen (p := ⟨P, o, none⟩) hl).trans (h.fz o), h.row.below hb, ⟨h.uns.1, fun i hi => ?_⟩, h.lo, h.sm.kept (grown_belN hb none) (by simp)⟩
  obtain ⟨⟨q1, q2, q3⟩, q4, q5⟩ := h.uns.2 i hi
  have hz := hb.size
  exact ⟨⟨q1.below hb, q2.below hb, q3⟩, fun g e => ⟨(q4 g e).1, by have := (q4 g e).2; omega⟩, fun g e => ⟨(q5 g e).1, by have := (q5 g e).2; omega⟩⟩

theorem rd_fin {w W3 w4 : World} {H B P bs : Nat} {am : Option Addr} {cm n g4 c4 : Nat} {v1 : Value} {vs : List UvR} {U : List UnR} {x : UvR} {us : List ByteArray} {os : List OpR} {b nm : ByteArray} {ob : Obj} (h : PgA w B P bs am cm n v1 vs U) (hB : B ≤ w.heap.size) (hH : H ≤ P) (hb : Below w.heap.size w W3)
    (h1 : StrsAt W3 x.vu us) (h2 : OpsAt W3 x.vo os) (h3 : x.b = b) (hu : ∀ g, x.vu.ownBlock = some g → w.heap.size ≤ g ∧ g < W3.heap.size) (ho : ∀ g, x.vo.ownBlock = some g → w.heap.size ≤ g ∧ g < W3.heap.size) (hn : W3.cell? ⟨w.heap.size, 0, none⟩ = some (.string nm))
    (hown : w4.ownsRow B 40 3 (.slice (some ⟨g4, 0, none⟩) (vs.length + 1) c4) (vs.length + 1) (cellsV vs ++ cellsV [x])) (hg : (W3.alloc ob).drew.grownBy w4 v1.ownBlock) (hat : v1.ownBlock = some g4 ∨ g4 = (W3.alloc ob).drew.heap.size) :
    PgA (w4.setCell ⟨P, 1, none⟩ (.slice (some ⟨g4, 0, none⟩) (vs.length + 1) c4)) B P bs am cm n (.slice (some ⟨g4, 0, none⟩) (vs.length + 1) c4) (vs ++ [x]) (U ++ [⟨us, os, b⟩]) ∧ KpP P v1 w (w4.setCell ⟨P, 1, none⟩ (.slice (some ⟨g4, 0, none⟩) (vs.length + 1) c4)) ∧ (w4.setCell ⟨P, 1, none⟩ (.slice (some ⟨g4, 0, none⟩) (vs.length + 1) c4)).cell? ⟨w.heap.size, 0, none⟩ = some (.string nm) ∧ SameNew w.heap.size v1.ownBlock (some g4) := by
  have hbd : Below W3.heap.size W3 (W3.alloc ob).drew := (below1 _ _).drew
  have hb' : Below w.heap.size w (W3.alloc ob).drew := hb.trans (hbd.mono hb.size)
  have hz : (W3.alloc ob).drew.heap.size = W3.heap.size + 1 := by simp
  have hzw := hb.size
  have hPl := h.lt
  have hPB := h.hP
  have hwl : w.heap.size < W3.heap.size := World.block_lt_of_cell? _ _ hn
  have hr : RowV3 w4 B (.slice (some ⟨g4, 0, none⟩) (vs.length + 1) c4) (vs ++ [x]) := by
    unfold RowV3
    rw [cellsV_append, List.length_append]
    exact hown
  refine ⟨h.step hB hb' (h1.below hbd) (h2.below hbd) h3 (fun g e => ?_) (fun g e => ?_) hg hr (hat.imp (fun e => e.symm) (fun e => ⟨g4, rfl, by omega⟩)), ?_, ?_, hat.imp (fun e => e.symm) (fun e => ⟨g4, rfl, by omega⟩)⟩
  · have := hu g e; omega
  · have := ho g e; omega
  · have hz4 := hg.size
    refine ⟨hg.os.trans hb'.os, hg.tape.trans hb'.tape, hg.output.trans hb'.output, by simp [World.setCell]; omega, fun q hq hne hv => ?_, fun o ho => ?_⟩
    · rw [Below.heap_setCell _ _ _ _ (by simpa using hne)]
      exact (hg.block q (by omega) (fun e => hv e.symm)).trans (hb'.block q (by omega))
    · have hbk := (hg.block P (by omega) (fun e => by have := (h.row.lt P e.symm).1; omega)).trans (hb'.block P (by omega))
      exact ⟨(World.cell?_setCell_other _ _ _ _ (by intro x; injection x with _ x; omega)).trans (World.cell?_of_block (w := w) hbk), (World.frozen?_setCell _ _ _ _).trans (World.frozen?_of_block (w := w) hbk)⟩
  · refine (World.cell?_setCell_other _ _ _ _ (by intro x; injection x with x; omega)).trans ((grown_cell hg (b := w.heap.size) (by omega) (fun e => by have := (h.row.lt _ e).2; omega) 0).trans ((hbd.cell (p := ⟨w.heap.size, 0, none⟩) hwl).trans hn))

set_option maxHeartbeats 8000000 in
theorem readUnitM_any (H B P bs : Nat) (am : Option Addr) (cm : Nat) (ms : List ModR) (v1 : Value) (vs : List UvR) (U : List UnR) (k : Nat) (w : World) (h : PgA w B P bs am cm ms.length v1 vs U) (hB : B ≤ w.heap.size) (hH : H ≤ P) (hM : ArgM w am ms) (hk : k < ms.length) (hkv : vs.length ≤ 1048576) (hs : (atM ms k).t.size ≤ maxLen) (hs' : (atM ms k).n.size ≤ maxLen) (hmax : MaxL w) :
    Calls Tryz.prog 37 #[.pointer (some ⟨P, 0, none⟩), .int .i64 (k : Int)] w (RdPost w H B P bs am cm ms v1 vs U k) := by
  have hPl := h.lt
  have hPB := h.hP
  have c0 := h.c0
  have hkI : (k : Int) < (ms.length : Int) := by omega
  rcases hM with hM | ⟨bA, off, rfl, hops, hbl⟩
  · omega
  obtain ⟨m0, m1⟩ := hops k hk
  obtain ⟨i0, hi0, hz0, hz1, hz2⟩ := info_parts' infoUn
  have HI := hide hi0
  have HZ := hide (And.intro hz0 (And.intro hz1 hz2))
  clear hi0 hz0 hz1 hz2
  obtain ⟨s, hse⟩ : ∃ s, s = (atM ms k).t := ⟨_, rfl⟩
  obtain ⟨nm, hne⟩ : ∃ nm, nm = (atM ms k).n := ⟨_, rfl⟩
  rw [← hse] at m1 hs
  rw [← hne] at m0 hs'
  have HSE := hide hse
  have HNE := hide hne
  obtain ⟨a1, c1, rfl⟩ : ∃ a c, v1 = .slice a vs.length c := rowS_slice h.row
  have HPG := hide h
  have d1 := h.c1
  have HMX := hide hmax
  obtain ⟨W0, hW0⟩ : ∃ W0, W0 = w.alloc (.cells #[.string nm, .string s] 43) := ⟨_, rfl⟩
  have hb0 : Below w.heap.size w W0 := by rw [hW0]; exact below1 _ _
  have hz0 : W0.heap.size = w.heap.size + 1 := by rw [hW0]; simp
  have n0 : W0.cell? ⟨w.heap.size, 0, none⟩ = some (.string nm) := by rw [hW0]; simp [go_sem]
  have HU := hide (implReadUnit_any s W0 hs (hmax.below hb0))
  have HW0 := hide hW0
  have HB0 := hide hb0
  have HZ0 := hide hz0
  clear h hse hne hops hmax hW0 hb0 hz0
  go_enter Tryz.func37, Tryz.ntmps37
  go_wp2_with (first | (go_at_call 51; rw [← unhide HW0]; (with_reducible refine (unhide HU).mono ?_); rintro e w1 ⟨vu, vo, us, os, b, cc, l, rfl, hui, hru, hro, huo, hul, hol, hb1⟩; have HUI := hide hui; have hz1 : w.heap.size + 1 ≤ w1.heap.size := (by have := hb1.size; rw [unhide HZ0] at this; exact this); have HB1 := hide hb1; obtain ⟨au, cu, rfl⟩ : ∃ a c, vu = .slice a us.length c := rowS_slice hru; obtain ⟨ao, co, rfl⟩ : ∃ a c, vo = .slice a os.length c := rowS_slice hro; have HRO := hide hro; have HX := hide (distinct_any (.slice au us.length cu) us (w1.alloc (.cells #[.slice au us.length cu, .slice ao os.length co, .string b] 40)) (fun x hx => (by have := (unit_uses hui).2 x hx; unfold maxLen; omega)) (by omega) (hru.strs.below (below1 _ _)) (fun g e => (by have := (hru.lt g e).2; simp; omega))); have n1 : w1.cell? ⟨w.heap.size, 0, none⟩ = some (.string nm) := (hb1.cell (p := ⟨w.heap.size, 0, none⟩) (by show w.heap.size < W0.heap.size; rw [unhide HZ0]; omega)).trans n0; clear hui hru hro huo hb1 HU n0) | (go_at_call 52; (with_reducible refine (unhide HX).mono ?_); rintro e w2 ⟨vd, rfl, hrd, hb2⟩; have HB2 := hide hb2; have hz2 : w1.heap.size + 1 ≤ w2.heap.size := (by have := hb2.size; simpa using this); have n2 : w2.cell? ⟨w.heap.size, 0, none⟩ = some (.string nm) := (hb2.cell (p := ⟨w.heap.size, 0, none⟩) (by simp; omega)).trans (((below1 w1 _).cell (p := ⟨w.heap.size, 0, none⟩) (by show w.heap.size < w1.heap.size; omega)).trans n1); obtain ⟨ad, cd, rfl⟩ : ∃ a c, vd = .slice a (dst us).length c := rowS_slice hrd; have HRD := hide hrd; have x0 : w2.cell? ⟨w1.heap.size, 0, none⟩ = some (.slice au us.length cu) := (hb2.cell (p := ⟨w1.heap.size, 0, none⟩) (by simp)).trans (by simp [go_sem]); have x1 : w2.cell? ⟨w1.heap.size, 1, none⟩ = some (.slice ao os.length co) := (hb2.cell (p := ⟨w1.heap.size, 1, none⟩) (by simp)).trans (by simp [go_sem]); have x2 : w2.cell? ⟨w1.heap.size, 2, none⟩ = some (.string b) := (hb2.cell (p := ⟨w1.heap.size, 2, none⟩) (by simp)).trans (by simp [go_sem]); have xf : w2.frozen? ⟨w1.heap.size, 0, none⟩ = false := (hb2.frozen (p := ⟨w1.heap.size, 0, none⟩) (by simp)).trans (by simp [go_sem]); clear HX hb2 hrd n1))
  obtain ⟨X, hX⟩ : ∃ X, X = w1.heap.size := ⟨_, rfl⟩
  obtain ⟨W3, hW3⟩ : ∃ W3, W3 = w2.setCell ⟨w1.heap.size, 0, none⟩ (.slice ad (dst us).length cd) := ⟨_, rfl⟩
  have hz3 : W3.heap.size = w2.heap.size := by rw [hW3]; simp [World.setCell]
  have hb3 : Below w.heap.size w W3 := by
    rw [hW3]
    refine Below.setCell (p := ⟨w1.heap.size, 0, none⟩) ?_ (by show w.heap.size ≤ w1.heap.size; omega) _
    exact ((unhide HB0).trans ((unhide HB1).mono (by rw [unhide HZ0]; omega))).trans (((below1 _ _).mono (by omega)).trans ((unhide HB2).mono (by simp; omega)))
  have y0 : W3.cell? ⟨X, 0, none⟩ = some (.slice ad (dst us).length cd) := by rw [hW3, hX]; exact World.cell?_setCell_same _ _ _ x0
  have y1 : W3.cell? ⟨X, 1, none⟩ = some (.slice ao os.length co) := by rw [hW3, hX]; exact (World.cell?_setCell_other _ _ _ _ (by simp)).trans x1
  have y2 : W3.cell? ⟨X, 2, none⟩ = some (.string b) := by rw [hW3, hX]; exact (World.cell?_setCell_other _ _ _ _ (by simp)).trans x2
  have n3 : W3.cell? ⟨w.heap.size, 0, none⟩ = some (.string nm) := by rw [hW3]; exact (World.cell?_setCell_other _ _ _ _ (by intro x; injection x with x; omega)).trans n2
  have p3 : W3.cell? ⟨P, 1, none⟩ = some (.slice a1 vs.length c1) := (hb3.cell (p := ⟨P, 1, none⟩) hPl).trans d1
  have sg : w2.grownBy W3 (some w1.heap.size) := by rw [hW3]; exact set_grown _ _ _ _
  have hst : StrsAt W3 (.slice ad (dst us).length cd) (dst us) := (unhide HRD).strs.grown sg (fun g e x => by injection x with x; have := ((unhide HRD).lt g e).1; simp at this; omega)
  have hot : OpsAt W3 (.slice ao os.length co) os := (((unhide HRO).ops.below (below1 _ _)).below (unhide HB2)).grown sg (fun g e x => by injection x with x; have := ((unhide HRO).lt g e).2; omega)
  have hdl : ∀ g, (Value.slice ad (dst us).length cd).ownBlock = some g → w.heap.size ≤ g ∧ g < W3.heap.size := fun g e => by have := (unhide HRD).lt g e; simp at this; omega
  have hol' : ∀ g, (Value.slice ao os.length co).ownBlock = some g → w.heap.size ≤ g ∧ g < W3.heap.size := fun g e => by have := (unhide HRO).lt g e; rw [unhide HZ0] at this; omega
  have hXl : X < W3.heap.size := by omega
  have hXP : X ≠ P := by omega
  have hwX : w.heap.size < X := by omega
  have HFIN := hide (fun (w4 : World) (g4 c4 : Nat) (ob : Obj) => rd_fin (ob := ob) (x := ⟨.slice ad (dst us).length cd, .slice ao os.length co, b⟩) (w4 := w4) (g4 := g4) (c4 := c4) (unhide HPG) hB hH hb3 hst hot rfl hdl hol' n3)
  have HRV := hide ((unhide HPG).row.below hb3)
  have HVN := hide (show ∀ i, i < w.heap.size + 1 → B ≤ i ∨ i < B → True from fun _ _ _ => trivial)
  have hvP : (Value.slice a1 vs.length c1).ownBlock ≠ some P := fun e => by have := ((unhide HPG).row.lt P e).1; omega
  have hvX : (Value.slice a1 vs.length c1).ownBlock ≠ some X := fun e => by have := ((unhide HPG).row.lt X e).2; omega
  have HNP := hide (And.intro hvP hvX)
  have pf := (hb3.frozen (p := ⟨P, 1, none⟩) hPl).trans ((unhide HPG).fz 1)
  rw [← hW3, ← hX]
  have hW3l : P < W3.heap.size := by omega
  have HDL := hide (show (dst us).length ≤ 20001 from (by have := insBs_len us []; simp at this; unfold dst; omega))
  clear hX hW3 x0 x1 x2 xf n2 hb3 sg hst hot hdl hol' HRD HB2 HVN hvP hvX d1 c0 m0 m1 hz3
  have k6 : ∀ o', (W3.alloc o').drew.cell? ⟨P, 1, none⟩ = some (.slice a1 vs.length c1) := fun o' => ((below1 W3 o').cell (p := ⟨P, 1, none⟩) hW3l).trans p3
  have hS0 : (fun W : World => W.cell? ⟨X, 0, none⟩ = some (.slice ad (dst us).length cd) ∧ W.cell? ⟨X, 1, none⟩ = some (.slice ao os.length co) ∧ W.cell? ⟨X, 2, none⟩ = some (.string b)) W3.drew := ⟨y0, y1, y2⟩
  have HS1 := hide (show (fun W : World => W.cell? ⟨X, 0, none⟩ = some (.slice ad (dst us).length cd) ∧ W.cell? ⟨X, 1, none⟩ = some (.slice ao os.length co) ∧ W.cell? ⟨X, 2, none⟩ = some (.string b)) (W3.alloc (.cells #[.slice ad (dst us).length cd, .slice ao os.length co, .string b] 40)).drew from ⟨((below1 W3 _).cell (p := ⟨X, 0, none⟩) hXl).trans y0, ((below1 W3 _).cell (p := ⟨X, 1, none⟩) hXl).trans y1, ((below1 W3 _).cell (p := ⟨X, 2, none⟩) hXl).trans y2⟩)
  refine wp_region_held_drew (S := fun W : World => W.cell? ⟨X, 0, none⟩ = some (.slice ad (dst us).length cd) ∧ W.cell? ⟨X, 1, none⟩ = some (.slice ao os.length co) ∧ W.cell? ⟨X, 2, none⟩ = some (.string b)) (by kernel_rfl) hS0 (fun _ => ?_)
  refine wpAnyH_take (i := 0) (v := ?_) rfl (by kernel_rfl) (by kernel_rfl) (by kernel_rfl) (fun _ _ _ h => h) (Or.inl ⟨by rfl, ?_⟩) hS0 ?_
  rotate_left
  · intro W hW; obtain ⟨s0, s1, s2⟩ := hW; simp only [List.getElem_toArray, List.getElem_cons_succ, List.getElem_cons_zero]; go_simp; first | done | (with_reducible rfl)
  simp only [List.getElem_toArray, List.getElem_cons_succ, List.getElem_cons_zero]
  simp only [Act.put, List.setIfInBounds_toArray, List.set_cons_zero, List.set_cons_succ]
  refine wpAnyH_take (i := 1) (v := ?_) rfl (by kernel_rfl) (by kernel_rfl) (by kernel_rfl) (fun _ _ _ h => h) (Or.inl ⟨by rfl, ?_⟩) hS0 ?_
  rotate_left
  · intro W hW; obtain ⟨s0, s1, s2⟩ := hW; simp only [List.getElem_toArray, List.getElem_cons_succ, List.getElem_cons_zero]; go_simp; first | done | (with_reducible rfl)
  simp only [List.getElem_toArray, List.getElem_cons_succ, List.getElem_cons_zero]
  simp only [Act.put, List.setIfInBounds_toArray, List.set_cons_zero, List.set_cons_succ]
  refine wpAnyH_take (i := 2) (v := ?_) rfl (by kernel_rfl) (by kernel_rfl) (by kernel_rfl) (fun _ _ _ h => h) (Or.inl ⟨by rfl, ?_⟩) hS0 ?_
  rotate_left
  · intro W hW; obtain ⟨s0, s1, s2⟩ := hW; simp only [List.getElem_toArray, List.getElem_cons_succ, List.getElem_cons_zero]; go_simp; first | done | (with_reducible rfl)
  simp only [List.getElem_toArray, List.getElem_cons_succ, List.getElem_cons_zero]
  simp only [Act.put, List.setIfInBounds_toArray, List.set_cons_zero, List.set_cons_succ]
  refine wpAnyH_take (i := 3) (v := ?_) rfl (by kernel_rfl) (by kernel_rfl) (by kernel_rfl) (fun _ _ _ h => h) (Or.inl ⟨by rfl, ?_⟩) hS0 ?_
  rotate_left
  · intro W hW; obtain ⟨s0, s1, s2⟩ := hW; simp only [List.getElem_toArray, List.getElem_cons_succ, List.getElem_cons_zero]; go_simp; first | done | (with_reducible rfl)
  simp only [List.getElem_toArray, List.getElem_cons_succ, List.getElem_cons_zero]
  simp only [Act.put, List.setIfInBounds_toArray, List.set_cons_zero, List.set_cons_succ]
  refine wpAnyH_take (i := 5) (v := ?_) rfl (by kernel_rfl) (by kernel_rfl) (by kernel_rfl) (fun _ _ _ h => h) (Or.inl ⟨by rfl, ?_⟩) hS0 ?_
  rotate_left
  · intro W hW; obtain ⟨s0, s1, s2⟩ := hW; simp only [List.getElem_toArray, List.getElem_cons_succ, List.getElem_cons_zero]; go_simp; first | done | (with_reducible rfl)
  simp only [List.getElem_toArray, List.getElem_cons_succ, List.getElem_cons_zero]
  simp only [Act.put, List.setIfInBounds_toArray, List.set_cons_zero, List.set_cons_succ]
  refine wpAnyH_ready (rs := [4, 6]) (by kernel_rfl) (by simp) ?_
  refine AllReadyH.cons rfl (fun K hK => ?_) (AllReadyH.cons rfl (fun K hK => ?_) AllReadyH.nil)
  · simp only [List.getElem_toArray, List.getElem_cons_succ, List.getElem_cons_zero]
    go_simp
    refine hK.out _ _ hS0 (fun _ => ?_)
    clear hK
    refine wpAnyH_ready (rs := [6]) (by kernel_rfl) (by simp) ?_
    refine AllReadyH.cons rfl (fun K hK => ?_) AllReadyH.nil
    simp only [List.getElem_toArray, List.getElem_cons_succ, List.getElem_cons_zero]
    go_simp
    refine hK.out _ _ (unhide HS1) (fun _ => ?_)
    clear hK
    refine wpAnyH_ready (rs := [7]) (by kernel_rfl) (by simp) ?_
    refine AllReadyH.cons rfl (fun K hK => ?_) AllReadyH.nil
    refine step_append_lies _ (by rfl) (.tmp 31) (.tmp 33) 46 (by rfl) B 40 i0 _ 3 64 Tryz.underlying46 (unhide HI) (unhide HZ).1 (unhide HZ).2.1 (unhide HZ).2.2 rfl (by decide) _ vs.length (cellsV vs) (by rfl) ((unhide HRV).below ((below1 _ _).drew)) ⟨W3.heap.size, 0, none⟩ 1 1 (cellsV [⟨.slice ad (dst us).length cd, .slice ao os.length co, b⟩]) (by rfl) rfl (fun j u hj => (by simpa using new_newsV W3 ⟨.slice ad (dst us).length cd, .slice ao os.length co, b⟩ j u hj)) (fun u hu => by simp [cellsV] at hu; rcases hu with rfl | rfl | rfl <;> rfl) (by decide) (by unfold maxLen; omega) (by omega) (by simp; omega) _ rfl ?_
    intro g4 c4 w4 hown4 hgrow4 hat4 hlt4
    have m2 : w4.cell? ⟨P, 1, none⟩ = some (.slice a1 vs.length c1) := (grown_cell hgrow4 (b := P) (by simp; omega) (unhide HNP).1 1).trans (k6 _)
    have m3 : w4.frozen? ⟨P, 1, none⟩ = false := (frozen_grown hgrow4 (b := P) (by simp; omega) (unhide HNP).1 1).trans (((below1 W3 _).frozen (p := ⟨P, 1, none⟩) hW3l).trans pf)
    have ec := fun j => grown_cell hgrow4 (b := X) (by simp; omega) (unhide HNP).2 j
    have e0 : w4.cell? ⟨X, 0, none⟩ = some (.slice ad (dst us).length cd) := (ec 0).trans (unhide HS1).1
    have e1 : w4.cell? ⟨X, 1, none⟩ = some (.slice ao os.length co) := (ec 1).trans (unhide HS1).2.1
    have e2 : w4.cell? ⟨X, 2, none⟩ = some (.string b) := (ec 2).trans (unhide HS1).2.2
    have HF4 := hide ((unhide HFIN) _ _ _ _ hown4 hgrow4 hat4)
    clear hown4 hgrow4 hat4 hlt4 ec
    refine hK.out _ _ ⟨e0, e1, e2⟩ (fun hS4 => ?_)
    clear hK
    simp only [List.getElem_toArray, List.getElem_cons_succ, List.getElem_cons_zero]
    simp only [Act.put, List.setIfInBounds_toArray, List.set_cons_zero, List.set_cons_succ]
    refine wpAnyH_take (i := 8) (v := ?_) rfl (by kernel_rfl) (by kernel_rfl) (by kernel_rfl) (fun _ _ _ h => h) (Or.inl ⟨by rfl, ?_⟩) hS4 ?_
    rotate_left
    · intro W hW; obtain ⟨s0, s1, s2⟩ := hW; simp only [List.getElem_toArray, List.getElem_cons_succ, List.getElem_cons_zero]; go_simp; first | done | (with_reducible rfl)
    simp only [List.getElem_toArray, List.getElem_cons_succ, List.getElem_cons_zero]
    simp only [Act.put, List.setIfInBounds_toArray, List.set_cons_zero, List.set_cons_succ]
    refine wpAnyH_take (i := 9) (v := ?_) rfl (by kernel_rfl) (by kernel_rfl) (by kernel_rfl) (fun _ _ _ h => h) (Or.inl ⟨by rfl, ?_⟩) hS4 ?_
    rotate_left
    · intro W hW; obtain ⟨s0, s1, s2⟩ := hW; simp only [List.getElem_toArray, List.getElem_cons_succ, List.getElem_cons_zero]; go_simp; first | done | (with_reducible rfl)
    simp only [List.getElem_toArray, List.getElem_cons_succ, List.getElem_cons_zero]
    simp only [Act.put, List.setIfInBounds_toArray, List.set_cons_zero, List.set_cons_succ]
    refine wpAnyH_ready (rs := [10]) (by kernel_rfl) (by simp) ?_
    refine AllReadyH.cons rfl (fun K hK => ?_) AllReadyH.nil
    simp only [List.getElem_toArray, List.getElem_cons_succ, List.getElem_cons_zero]
    go_simp
    refine hK.out _ _ ⟨by rw [World.cell?_setCell_other _ _ _ _ (by simp [hXP])]; exact e0, by rw [World.cell?_setCell_other _ _ _ _ (by simp [hXP])]; exact e1, by rw [World.cell?_setCell_other _ _ _ _ (by simp [hXP])]; exact e2⟩ (fun hS5 => ?_)
    clear hK
    refine wpAnyH_done (by kernel_rfl) ?_ _
    clear hS4 hS5
    obtain ⟨f1, f2, f3, f4⟩ := unhide HF4
    obtain ⟨w5, hw5⟩ : ∃ w5, w5 = w4.setCell ⟨P, 1, none⟩ (.slice (some ⟨g4, 0, none⟩) (vs.length + 1) c4) := ⟨_, rfl⟩
    rw [← hw5] at f1 f2 f3
    rw [← hw5]
    have HEND := hide (fun (e : Ending) (hr : RetB e (¬ B2 ms k)) => show RdPost w H B P bs (some ⟨bA, off, none⟩) cm ms (.slice a1 vs.length c1) vs U k e w5 from ⟨hr, f2, _, us, os, b, cc, l, _, by rw [← unhide HSE]; exact unhide HUI, f1, f4⟩)
    have HUI' := hide (show UnitIs (atM ms k).t us os b cc l by rw [← unhide HSE]; exact unhide HUI)
    have HWRD := hide (show Calls Tryz.prog 53 #[.int .i64 3, .string nm] w5 fun e w' => RetB e (WordT 3 nm) ∧ w' = w5 from isWord_any 3 nm w5 hs')
    clear f1 f2 f4 hw5 HF4 HFIN hS0 HS1 k6 e0 e1 e2 m2 m3 y0 y1 y2 p3 n3 pf
    by_cases hcc : cc = 0
    · subst hcc
      by_cases h64 : nm.size ≤ 64
      · have h64I : (nm.size : Int) ≤ 64 := by omega
        go_wp2_with (first | (go_at_call 53; (with_reducible refine (unhide HWRD).mono ?_); rintro e w6 ⟨⟨v, rfl, hv⟩, hx⟩; obtain rfl := hx.symm; have HV := hide hv; clear hv hx))
        go_ret
        refine (unhide HEND) _ ⟨v, rfl, ?_⟩
        have hv := unhide HV
        unfold Says at hv ⊢
        rw [hv, WordT_3]
        exact ⟨fun h => b2_no (unhide HUI') rfl (by rw [← unhide HNE]; exact h64) (by rw [← unhide HNE]; exact h), fun h => by by_cases x : NameT nm; exact x; exact absurd (Or.inr (Or.inl (by rw [← unhide HNE]; exact x))) h⟩
      · have h64I : ¬ (nm.size : Int) ≤ 64 := by omega
        have HNO := hide (show B2 ms k from Or.inr (Or.inr (by rw [← unhide HNE]; omega)))
        go_wp2_with fail
        go_ret
        exact (unhide HEND) _ ⟨false, rfl, says_false (fun h => h (unhide HNO))⟩
    · have hccB : (cc == 0) = false := by simpa using hcc
      have HNO := hide (show B2 ms k from Or.inl ⟨us, os, b, cc, l, unhide HUI', hcc⟩)
      clear hcc
      go_wp2_with fail
      go_ret
      exact (unhide HEND) _ ⟨false, rfl, says_false (fun h => h (unhide HNO))⟩
  · simp only [List.getElem_toArray, List.getElem_cons_succ, List.getElem_cons_zero]
    go_simp
    refine hK.out _ _ (unhide HS1) (fun _ => ?_)
    clear hK
    refine wpAnyH_ready (rs := [4]) (by kernel_rfl) (by simp) ?_
    refine AllReadyH.cons rfl (fun K hK => ?_) AllReadyH.nil
    simp only [List.getElem_toArray, List.getElem_cons_succ, List.getElem_cons_zero]
    go_simp
    refine hK.out _ _ (unhide HS1) (fun _ => ?_)
    clear hK
    refine wpAnyH_ready (rs := [7]) (by kernel_rfl) (by simp) ?_
    refine AllReadyH.cons rfl (fun K hK => ?_) AllReadyH.nil
    refine step_append_lies _ (by rfl) (.tmp 31) (.tmp 33) 46 (by rfl) B 40 i0 _ 3 64 Tryz.underlying46 (unhide HI) (unhide HZ).1 (unhide HZ).2.1 (unhide HZ).2.2 rfl (by decide) _ vs.length (cellsV vs) (by rfl) ((unhide HRV).below ((below1 _ _).drew)) ⟨W3.heap.size, 0, none⟩ 1 1 (cellsV [⟨.slice ad (dst us).length cd, .slice ao os.length co, b⟩]) (by rfl) rfl (fun j u hj => (by simpa using new_newsV W3 ⟨.slice ad (dst us).length cd, .slice ao os.length co, b⟩ j u hj)) (fun u hu => by simp [cellsV] at hu; rcases hu with rfl | rfl | rfl <;> rfl) (by decide) (by unfold maxLen; omega) (by omega) (by simp; omega) _ rfl ?_
    intro g4 c4 w4 hown4 hgrow4 hat4 hlt4
    have m2 : w4.cell? ⟨P, 1, none⟩ = some (.slice a1 vs.length c1) := (grown_cell hgrow4 (b := P) (by simp; omega) (unhide HNP).1 1).trans (k6 _)
    have m3 : w4.frozen? ⟨P, 1, none⟩ = false := (frozen_grown hgrow4 (b := P) (by simp; omega) (unhide HNP).1 1).trans (((below1 W3 _).frozen (p := ⟨P, 1, none⟩) hW3l).trans pf)
    have ec := fun j => grown_cell hgrow4 (b := X) (by simp; omega) (unhide HNP).2 j
    have e0 : w4.cell? ⟨X, 0, none⟩ = some (.slice ad (dst us).length cd) := (ec 0).trans (unhide HS1).1
    have e1 : w4.cell? ⟨X, 1, none⟩ = some (.slice ao os.length co) := (ec 1).trans (unhide HS1).2.1
    have e2 : w4.cell? ⟨X, 2, none⟩ = some (.string b) := (ec 2).trans (unhide HS1).2.2
    have HF4 := hide ((unhide HFIN) _ _ _ _ hown4 hgrow4 hat4)
    clear hown4 hgrow4 hat4 hlt4 ec
    refine hK.out _ _ ⟨e0, e1, e2⟩ (fun hS4 => ?_)
    clear hK
    simp only [List.getElem_toArray, List.getElem_cons_succ, List.getElem_cons_zero]
    simp only [Act.put, List.setIfInBounds_toArray, List.set_cons_zero, List.set_cons_succ]
    refine wpAnyH_take (i := 8) (v := ?_) rfl (by kernel_rfl) (by kernel_rfl) (by kernel_rfl) (fun _ _ _ h => h) (Or.inl ⟨by rfl, ?_⟩) hS4 ?_
    rotate_left
    · intro W hW; obtain ⟨s0, s1, s2⟩ := hW; simp only [List.getElem_toArray, List.getElem_cons_succ, List.getElem_cons_zero]; go_simp; first | done | (with_reducible rfl)
    simp only [List.getElem_toArray, List.getElem_cons_succ, List.getElem_cons_zero]
    simp only [Act.put, List.setIfInBounds_toArray, List.set_cons_zero, List.set_cons_succ]
    refine wpAnyH_take (i := 9) (v := ?_) rfl (by kernel_rfl) (by kernel_rfl) (by kernel_rfl) (fun _ _ _ h => h) (Or.inl ⟨by rfl, ?_⟩) hS4 ?_
    rotate_left
    · intro W hW; obtain ⟨s0, s1, s2⟩ := hW; simp only [List.getElem_toArray, List.getElem_cons_succ, List.getElem_cons_zero]; go_simp; first | done | (with_reducible rfl)
    simp only [List.getElem_toArray, List.getElem_cons_succ, List.getElem_cons_zero]
    simp only [Act.put, List.setIfInBounds_toArray, List.set_cons_zero, List.set_cons_succ]
    refine wpAnyH_ready (rs := [10]) (by kernel_rfl) (by simp) ?_
    refine AllReadyH.cons rfl (fun K hK => ?_) AllReadyH.nil
    simp only [List.getElem_toArray, List.getElem_cons_succ, List.getElem_cons_zero]
    go_simp
    refine hK.out _ _ ⟨by rw [World.cell?_setCell_other _ _ _ _ (by simp [hXP])]; exact e0, by rw [World.cell?_setCell_other _ _ _ _ (by simp [hXP])]; exact e1, by rw [World.cell?_setCell_other _ _ _ _ (by simp [hXP])]; exact e2⟩ (fun hS5 => ?_)
    clear hK
    refine wpAnyH_done (by kernel_rfl) ?_ _
    clear hS4 hS5
    obtain ⟨f1, f2, f3, f4⟩ := unhide HF4
    obtain ⟨w5, hw5⟩ : ∃ w5, w5 = w4.setCell ⟨P, 1, none⟩ (.slice (some ⟨g4, 0, none⟩) (vs.length + 1) c4) := ⟨_, rfl⟩
    rw [← hw5] at f1 f2 f3
    rw [← hw5]
    have HEND := hide (fun (e : Ending) (hr : RetB e (¬ B2 ms k)) => show RdPost w H B P bs (some ⟨bA, off, none⟩) cm ms (.slice a1 vs.length c1) vs U k e w5 from ⟨hr, f2, _, us, os, b, cc, l, _, by rw [← unhide HSE]; exact unhide HUI, f1, f4⟩)
    have HUI' := hide (show UnitIs (atM ms k).t us os b cc l by rw [← unhide HSE]; exact unhide HUI)
    have HWRD := hide (show Calls Tryz.prog 53 #[.int .i64 3, .string nm] w5 fun e w' => RetB e (WordT 3 nm) ∧ w' = w5 from isWord_any 3 nm w5 hs')
    clear f1 f2 f4 hw5 HF4 HFIN hS0 HS1 k6 e0 e1 e2 m2 m3 y0 y1 y2 p3 n3 pf
    by_cases hcc : cc = 0
    · subst hcc
      by_cases h64 : nm.size ≤ 64
      · have h64I : (nm.size : Int) ≤ 64 := by omega
        go_wp2_with (first | (go_at_call 53; (with_reducible refine (unhide HWRD).mono ?_); rintro e w6 ⟨⟨v, rfl, hv⟩, hx⟩; obtain rfl := hx.symm; have HV := hide hv; clear hv hx))
        go_ret
        refine (unhide HEND) _ ⟨v, rfl, ?_⟩
        have hv := unhide HV
        unfold Says at hv ⊢
        rw [hv, WordT_3]
        exact ⟨fun h => b2_no (unhide HUI') rfl (by rw [← unhide HNE]; exact h64) (by rw [← unhide HNE]; exact h), fun h => by by_cases x : NameT nm; exact x; exact absurd (Or.inr (Or.inl (by rw [← unhide HNE]; exact x))) h⟩
      · have h64I : ¬ (nm.size : Int) ≤ 64 := by omega
        have HNO := hide (show B2 ms k from Or.inr (Or.inr (by rw [← unhide HNE]; omega)))
        go_wp2_with fail
        go_ret
        exact (unhide HEND) _ ⟨false, rfl, says_false (fun h => h (unhide HNO))⟩
    · have hccB : (cc == 0) = false := by simpa using hcc
      have HNO := hide (show B2 ms k from Or.inl ⟨us, os, b, cc, l, unhide HUI', hcc⟩)
      clear hcc
      go_wp2_with fail
      go_ret
      exact (unhide HEND) _ ⟨false, rfl, says_false (fun h => h (unhide HNO))⟩
end Go.Proofs.YtokabkhnidlcnabGreatDoor
