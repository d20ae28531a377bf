import Derived.Test.YtokabkhnidlcnabGreatDoorL06
import Derived.Test.YtokabkhnidlcnabGreatDoorL09
import Derived.Test.YtokabkhnidlcnabGreatDoorL11

/-
  Rows of modules that were read.
-/
namespace Go.Proofs.YtokabkhnidlcnabGreatDoor
set_option maxRecDepth 100000
set_option linter.unusedSimpArgs false
set_option linter.unusedVariables false
open Go.RowKit

/-- A record of a module: where its uses and operators lie, its body. -/
structure UvR where
  vu : Value
  vo : Value
  b : ByteArray
def atV (vs : List UvR) (i : Nat) : UvR := vs.getD i ⟨.slice none 0 0, .slice none 0 0, ByteArray.empty⟩
def cellsV (zs : List UvR) : List Value := zs.flatMap fun x => [x.vu, x.vo, .string x.b]
theorem cellsV_append (xs ys : List UvR) : cellsV (xs ++ ys) = cellsV xs ++ cellsV ys := by simp [cellsV]

theorem cellsV_at : ∀ (zs : List UvR) (i : Nat), i < zs.length → (cellsV zs)[i * 3]? = some (atV zs i).vu ∧ (cellsV zs)[i * 3 + 1]? = some (atV zs i).vo ∧ (cellsV zs)[i * 3 + 2]? = some (.string (atV zs i).b)
  | [], i, h => absurd h (Nat.not_lt_zero i)
  | o :: r, 0, _ => ⟨rfl, rfl, rfl⟩
  | o :: r, i + 1, h => by
    have ih := cellsV_at r i (by simpa using h)
    have e : ∀ j, (cellsV (o :: r))[(i + 1) * 3 + j]? = (cellsV r)[i * 3 + j]? := fun j => by
      have : (i + 1) * 3 + j = (i * 3 + j) + 3 := by omega
      rw [this]
      rfl
    exact ⟨(e 0).trans ih.1, (e 1).trans ih.2.1, (e 2).trans ih.2.2⟩

theorem infoUn : (Tryz.prog.info? 40).map (fun i => (i.zero, i.size, i.bytes)) = some (some (.agg #[.slice none 0 0, .slice none 0 0, .string ⟨#[]⟩]), 3, 64) := by kernel_rfl

theorem new_newsV (w : World) (x : UvR) : ∀ j u, (cellsV [x])[j]? = some u → (w.alloc (.cells #[x.vu, x.vo, .string x.b] 40)).cell? ((⟨w.heap.size, 0, none⟩ : Addr).add j) = some u := by
  intro j u hj
  rw [Addr.add_mid]
  have := World.rangeAt_of_block (w := w.alloc (.cells #[x.vu, x.vo, .string x.b] 40)) (b := w.heap.size) (heap_alloc_new w _) 0 3
  exact this j u (by simpa [cellsV] using hj)

def RowV3 (w : World) (B : Nat) (u : Value) (vs : List UvR) : Prop := w.ownsRow B 40 3 u vs.length (cellsV vs)
theorem RowV3.below {w w' : World} {B : Nat} {u : Value} {us : List UvR} (h : RowV3 w B u us) (hb : Below w.heap.size w w') : RowV3 w' B u us :=
  World.ownsRow.kept h (grown_belN hb none) (by cases u.ownBlock with
  | none => exact Or.inl rfl
  | some k => exact Or.inr (by simp))
theorem RowV3.grown {w w' : World} {B : Nat} {u : Value} {us : List UvR} {row : Option Nat} (h : RowV3 w B u us) (hg : w.grownBy w' row) (hne : ∀ k, u.ownBlock = some k → row ≠ some k) : RowV3 w' B u us :=
  World.ownsRow.kept h hg (by
    cases e : u.ownBlock with
    | none => exact Or.inl rfl
    | some k => exact Or.inr (fun x => hne k e x.symm))
theorem RowV3.lt {w : World} {B : Nat} {u : Value} {us : List UvR} (h : RowV3 w B u us) : ∀ g, u.ownBlock = some g → B ≤ g ∧ g < w.heap.size := fun g hg => World.ownsRow.lt h g hg

/-- The records of a row, as they lie in memory. -/
def OpsV (w : World) (g : Nat) (vs : List UvR) : Prop := ∀ i, i < vs.length → w.cell? ⟨g, i * 3, none⟩ = some (atV vs i).vu ∧ w.cell? ⟨g, i * 3 + 1, none⟩ = some (atV vs i).vo ∧ w.cell? ⟨g, i * 3 + 2, none⟩ = some (.string (atV vs i).b)
theorem OpsV.below {w w' : World} {g : Nat} {vs : List UvR} {B : Nat} (h : OpsV w g vs) (hb : Below B w w') (hB : g < B) : OpsV w' g vs := fun i hi => by
  obtain ⟨h0, h1, h2⟩ := h i hi
  exact ⟨(hb.cell (p := ⟨g, _, none⟩) hB).trans h0, (hb.cell (p := ⟨g, _, none⟩) hB).trans h1, (hb.cell (p := ⟨g, _, none⟩) hB).trans h2⟩
theorem RowV3.ops {w : World} {B g c : Nat} {us : List UvR} (h : RowV3 w B (.slice (some ⟨g, 0, none⟩) us.length c) us) : OpsV w g us := fun i hi => by
  obtain ⟨c0, c1, c2⟩ := cellsV_at us i hi
  have e := fun j (hj : j < 3) => World.ownsRow.cellAt h (i * 3 + j) (by omega)
  exact ⟨by simpa using (e 0 (by omega)).trans c0, by simpa using (e 1 (by omega)).trans c1, by simpa using (e 2 (by omega)).trans c2⟩

theorem OpsAt.below {w w' : World} {v : Value} {os : List OpR} (h : OpsAt w v os) (hb : Below w.heap.size w w') : OpsAt w' v os :=
  h.grown (row := none) (grown_belN hb none) (fun g _ e => by cases e)

/-- What the records point to lies there, below B. -/
def UnsAt (w : World) (B : Nat) (vs : List UvR) (U : List UnR) : Prop := vs.length = U.length ∧ ∀ i, i < vs.length → (StrsAt w (atV vs i).vu (atU U i).us ∧ OpsAt w (atV vs i).vo (atU U i).os ∧ (atV vs i).b = (atU U i).b) ∧ (∀ g, (atV vs i).vu.ownBlock = some g → g < B) ∧ (∀ g, (atV vs i).vo.ownBlock = some g → g < B)

theorem UnsAt.belowB {w w' : World} {B C : Nat} {vs : List UvR} {U : List UnR} (h : UnsAt w B vs U) (hb : Below C w w') (hC : B ≤ C) : UnsAt w' B vs U := by
  refine ⟨h.1, fun i hi => ?_⟩
  obtain ⟨⟨h1, h2, h3⟩, h4, h5⟩ := h.2 i hi
  refine ⟨⟨?_, ?_, h3⟩, h4, h5⟩
  · obtain ⟨a, c, hv, hx⟩ := h1
    refine ⟨a, c, hv, hx.imp id ?_⟩
    rintro ⟨g, rfl, q1, q2⟩
    have hg : g < B := h4 g (by rw [hv]; rfl)
    exact ⟨g, rfl, Nat.lt_of_lt_of_le q1 hb.size, fun j x hj => (hb.cell (p := ⟨g, j, none⟩) (by show g < C; omega)).trans (q2 j x hj)⟩
  · obtain ⟨a, c, hv, hx⟩ := h2
    refine ⟨a, c, hv, hx.imp id ?_⟩
    rintro ⟨g, rfl, q1, q2⟩
    have hg : g < B := h5 g (by rw [hv]; rfl)
    exact ⟨g, rfl, Nat.lt_of_lt_of_le q1 hb.size, q2.below hb (by omega)⟩

theorem UnsAt.mono {w : World} {B B' : Nat} {vs : List UvR} {U : List UnR} (h : UnsAt w B vs U) (hB : B ≤ B') : UnsAt w B' vs U :=
  ⟨h.1, fun i hi => ⟨(h.2 i hi).1, fun g e => Nat.lt_of_lt_of_le ((h.2 i hi).2.1 g e) hB, fun g e => Nat.lt_of_lt_of_le ((h.2 i hi).2.2 g e) hB⟩⟩

theorem atV_left {vs : List UvR} {x : UvR} {i : Nat} (h : i < vs.length) : atV (vs ++ [x]) i = atV vs i := by
  unfold atV; rw [List.getD_eq_getElem?_getD, List.getD_eq_getElem?_getD, List.getElem?_append_left h]
theorem atV_last {vs : List UvR} {x : UvR} : atV (vs ++ [x]) vs.length = x := by
  unfold atV; rw [List.getD_eq_getElem?_getD, List.getElem?_append_right (Nat.le_refl _)]; simp
theorem atU_left {vs : List UnR} {x : UnR} {i : Nat} (h : i < vs.length) : atU (vs ++ [x]) i = atU vs i := by
  unfold atU; rw [List.getD_eq_getElem?_getD, List.getD_eq_getElem?_getD, List.getElem?_append_left h]
theorem atU_last {vs : List UnR} {x : UnR} : atU (vs ++ [x]) vs.length = x := by
  unfold atU; rw [List.getD_eq_getElem?_getD, List.getElem?_append_right (Nat.le_refl _)]; simp

/-- What the records point to, and that nothing put behind the row v touches it. -/
def UnsOk (w : World) (v : Value) (vs : List UvR) (U : List UnR) : Prop := vs.length = U.length ∧ ∀ i, i < vs.length → (StrsAt w (atV vs i).vu (atU U i).us ∧ OpsAt w (atV vs i).vo (atU U i).os ∧ (atV vs i).b = (atU U i).b) ∧ (∀ g, (atV vs i).vu.ownBlock = some g → v.ownBlock ≠ some g ∧ g < w.heap.size) ∧ (∀ g, (atV vs i).vo.ownBlock = some g → v.ownBlock ≠ some g ∧ g < w.heap.size)

theorem UnsOk.at {w : World} {v : Value} {vs : List UvR} {U : List UnR} (h : UnsOk w v vs U) : UnsAt w w.heap.size vs U :=
  ⟨h.1, fun i hi => ⟨(h.2 i hi).1, fun g e => ((h.2 i hi).2.1 g e).2, fun g e => ((h.2 i hi).2.2 g e).2⟩⟩

/-- One record more. -/
theorem UnsOk.step {w w1 w4 : World} {v v4 : Value} {vs : List UvR} {U : List UnR} {x : UvR} {y : UnR} (h : UnsOk w v vs U) (hb : Below w.heap.size w w1) (hv : ∀ g, v.ownBlock = some g → g < w.heap.size) (h1 : StrsAt w1 x.vu y.us) (h2 : OpsAt w1 x.vo y.os) (h3 : x.b = y.b) (hu : ∀ g, x.vu.ownBlock = some g → w.heap.size ≤ g ∧ g < w1.heap.size) (ho : ∀ g, x.vo.ownBlock = some g → w.heap.size ≤ g ∧ g < w1.heap.size)
    (hg : w1.grownBy w4 v.ownBlock) (hat : v4.ownBlock = v.ownBlock ∨ ∃ k, v4.ownBlock = some k ∧ w1.heap.size ≤ k) : UnsOk w4 v4 (vs ++ [x]) (U ++ [y]) := by
  have hne : ∀ g, g < w1.heap.size → v.ownBlock ≠ some g → v4.ownBlock ≠ some g := fun g h1 h2 e => by
    rcases hat with h | ⟨k, h, hk⟩
    · exact h2 (h.symm.trans e)
    · rw [h] at e; injection e with e; omega
  have hz := hb.size
  have hz4 := hg.size
  have hx : ∀ g, w.heap.size ≤ g → v.ownBlock ≠ some g := fun g hg e => by have := hv g e; omega
  refine ⟨by simp [h.1], fun i hi => ?_⟩
  by_cases e : i < vs.length
  · rw [atV_left e, atU_left (by rw [← h.1]; exact e)]
    obtain ⟨⟨q1, q2, q3⟩, q4, q5⟩ := h.2 i e
    refine ⟨⟨(q1.below hb).grown hg (fun g e => (q4 g e).1), (q2.below hb).grown hg (fun g e => (q5 g e).1), q3⟩, fun g e => ⟨hne g (by have := (q4 g e).2; omega) (q4 g e).1, by have := (q4 g e).2; omega⟩, fun g e => ⟨hne g (by have := (q5 g e).2; omega) (q5 g e).1, by have := (q5 g e).2; omega⟩⟩
  · have e1 : i = vs.length := by simp at hi; omega
    subst e1
    have e2 : atU (U ++ [y]) vs.length = y := by rw [h.1]; exact atU_last
    rw [atV_last, e2]
    refine ⟨⟨h1.grown hg (fun g e => hx g (hu g e).1), h2.grown hg (fun g e => hx g (ho g e).1), h3⟩, fun g e => ⟨hne g (hu g e).2 (hx g (hu g e).1), by have := (hu g e).2; omega⟩, fun g e => ⟨hne g (ho g e).2 (hx g (ho g e).1), by have := (ho g e).2; omega⟩⟩
end Go.Proofs.YtokabkhnidlcnabGreatDoor

/-
  Walk: the lines of a text, in the specification (l5Lines).
-/
namespace Go.Proofs.YtokabkhnidlcnabGreatDoor
set_option maxRecDepth 100000
set_option linter.unusedSimpArgs false
set_option linter.unusedVariables false
open Go.RowKit

/-- Where the lines begin and end. -/
def plc (ls : List LnR) : List (Nat × Nat) := ls.map fun l => (l.f, l.t)
theorem plc_append (a b : List LnR) : plc (a ++ b) = plc a ++ plc b := by simp [plc]

/-- The lines so far, in a walk over the places of a text. -/
def LInv (s : ByteArray) (k f : Nat) (ps : List (Nat × Nat)) : Prop :=
  (k ≤ s.size ∧ f ≤ k ∧ (∀ j, f ≤ j → j < k → bt s j ≠ 10) ∧ ps ++ pcs 10 s f = pcs 10 s 0) ∨ (k = s.size + 1 ∧ ps = pcs 10 s 0)

theorem LInv.start (s : ByteArray) : LInv s 0 0 [] := Or.inl ⟨Nat.zero_le _, Nat.le_refl _, fun j h1 h2 => by omega, rfl⟩

theorem LInv.skip {s : ByteArray} {k f : Nat} {us : List (Nat × Nat)} (h : LInv s k f us) (hk : k < s.size) (hb : bt s k ≠ 10) : LInv s (k + 1) f us := by
  rcases h with ⟨h1, h2, h3, h4⟩ | ⟨h1, _⟩
  · refine Or.inl ⟨by omega, by omega, fun j j1 j2 => ?_, h4⟩
    by_cases e : j = k
    · subst e; exact hb
    · exact h3 j j1 (by omega)
  · omega

theorem LInv.put {s : ByteArray} {k f : Nat} {us : List (Nat × Nat)} (h : LInv s k f us) (hk : k ≤ s.size) (hb : k = s.size ∨ bt s k = 10) : f ≤ k ∧ LInv s (k + 1) (k + 1) (us ++ [(f, k)]) := by
  rcases h with ⟨h1, h2, h3, h4⟩ | ⟨h1, _⟩
  · refine ⟨h2, ?_⟩
    have hx : nx 10 s f = k := nx_one (by omega) h2 h1 h3 (fun hl => hb.elim (fun e => by omega) (fun e => e))
    rw [pcs_step 10 s f (by omega), hx] at h4
    by_cases hl : k < s.size
    · rw [if_pos hl] at h4
      exact Or.inl ⟨by omega, Nat.le_refl _, fun j j1 j2 => by omega, by simpa using h4⟩
    · rw [if_neg hl] at h4
      exact Or.inr ⟨by omega, h4⟩
  · omega

theorem LInv.fin {s : ByteArray} {k f : Nat} {us : List (Nat × Nat)} (h : LInv s k f us) (hk : ¬ k ≤ s.size) : us = pcs 10 s 0 := by
  rcases h with ⟨h1, _⟩ | ⟨_, h⟩
  · omega
  · exact h

theorem empty_rowL (w : World) : RowL (w.alloc (.cells #[] 68)) w.heap.size (.slice (some ⟨w.heap.size, 0, none⟩) 0 0) [] := by
  have := World.ownsRow_lit (base := w.heap.size) (e := 68) (size := 3) w #[] 0 (Nat.le_refl _) (Nat.zero_le _) rfl
  simpa [RowL, cellsLn] using this

/-- What l5Lines answers. -/
def LnsPost (w : World) (s : ByteArray) (e : Ending) (w' : World) : Prop := ∃ (g c : Nat) (ls : List LnR), e = .returned (.slice (some ⟨g, 0, none⟩) ls.length c) ∧ w.heap.size ≤ g ∧ g < w'.heap.size ∧ Hid (OpsL w' g ls) ∧ Hid (∀ l ∈ ls, StrsAt w' l.wv (wds (s.extract l.f l.t))) ∧ Hid (plc ls = pcs 10 s 0) ∧ ls.length ≤ s.size + 1 ∧ Below w.heap.size w w'

set_option maxHeartbeats 4000000 in
theorem l5Lines_any (s : ByteArray) (w : World) (hs : s.size ≤ 20000) :
    Calls Tryz.prog 29 #[.string s] w (LnsPost w s) := by
  obtain ⟨i0, hi0, hz0, hz1, hz2⟩ := info_parts' infoLn
  have HI := hide hi0
  have HZ := hide (And.intro hz0 (And.intro hz1 hz2))
  clear hi0 hz0 hz1 hz2
  have HE := hide (empty_rowL w)
  go_enter Tryz.func29, Tryz.ntmps29
  go_wp2
  go_loopw [3, 4, 5] (fun out fr i wr => ∃ (k f g c : Nat) (ls : List LnR), k ≤ s.size + 1 ∧ f ≤ k ∧ i = .int .i64 (k : Int) ∧ fr = .int .i64 (f : Int) ∧ out = .slice (some ⟨g, 0, none⟩) ls.length c ∧ ls.length ≤ k ∧ Hid (LInv s k f (plc ls)) ∧ Hid (RowL wr w.heap.size (.slice (some ⟨g, 0, none⟩) ls.length c) ls) ∧ Hid (LnsOk wr s (.slice (some ⟨g, 0, none⟩) ls.length c) ls) ∧ Below w.heap.size w wr) (fun _ _ i _ => s.size + 1 - (intOf i).toNat)
  case atStart => exact ⟨0, 0, w.heap.size, 0, [], Nat.zero_le _, Nat.le_refl _, rfl, rfl, rfl, Nat.zero_le _, hide (LInv.start s), HE, hide (fun l hl => by cases hl), below1 _ _⟩
  case round =>
    clear HE
    obtain ⟨k, f, g, c, ls, hk, hf, rfl, rfl, rfl, hul, HW, HR, HL, hbel⟩ := hrel
    by_cases hle : k ≤ s.size
    · have hleI : (k : Int) ≤ (s.size : Int) := by omega
      by_cases hput : k = s.size ∨ bt s k = 10
      · obtain ⟨hfk, hp⟩ := (unhide HW).put hle hput
        have HP := hide hp
        have hcond : ((k : Int) == (s.size : Int)) = true ∨ (((k : Int) == (s.size : Int)) = false ∧ ∃ (h : k < s.size), ((s[k].toNat : Int) == 10) = true) := by
          by_cases e : k = s.size
          · left; simp [e]
          · right
            have hlt : k < s.size := by omega
            refine ⟨by simp; omega, hlt, ?_⟩
            have hb : bt s k = 10 := hput.elim (fun h => absurd h e) (fun h => h)
            rw [bt_get hlt, hb]; rfl
        clear hput hp
        have hfs : (f : Int) ≤ (k : Int) := by omega
        have hsz : (s.extract f k).size ≤ 20000 := by rw [size_ext]; omega
        have hg := ((unhide HR).lt g rfl).2
        rcases hcond with hc | ⟨hc, hlt, hc2⟩
        all_goals
          try have hltI : (k : Int) < (s.size : Int) := (by omega)
          go_wp2_with fail
          refine (l5Words_any (s.extract f k) _ hsz).mono ?_
          rintro e w1 ⟨nv, rfl, hr1, hl1, hb1⟩
          obtain ⟨a1, c1, rfl⟩ := rowS_slice hr1
          have HN := hide hr1.strs
          have HNB := hide (fun q e => hr1.lt q e)
          have HB1 := hide hb1
          have z1 := hb1.size
          clear hr1 hb1
          go_wp2_with (at_builtin; refine wpList_append_own_at _ rfl (.tmp 23) (.tmp 32) 64 rfl w.heap.size 68 i0 _ 3 40 Tryz.underlying64 (unhide HI) (unhide HZ).1 (unhide HZ).2.1 (unhide HZ).2.2 rfl (by decide) _ ls.length (cellsLn ls) rfl (((unhide HR).below (unhide HB1)).below (below1 _ _)) ⟨w1.heap.size, 0, none⟩ 1 1 (cellsLn [⟨.slice a1 (wds (s.extract f k)).length c1, f, k⟩]) rfl rfl (by simpa using new_newsLn w1 ⟨.slice a1 (wds (s.extract f k)).length c1, f, k⟩) (fun u hu => by simp [cellsLn] at hu; rcases hu with rfl | rfl | rfl <;> rfl) ?b1 ?b2 ?b3 ?next)
          case b1 => unfold maxLen; omega
          case b2 => omega
          case b3 => have := hbel.size; simp; omega
          case next =>
            intro v4 w4 hown4 hgrow4 hnil4 hat4
            have HO := hide (show RowL w4 w.heap.size v4 (ls ++ [⟨.slice a1 (wds (s.extract f k)).length c1, f, k⟩]) by
              unfold RowL
              rw [cellsLn_append, List.length_append]
              exact hown4)
            have HL4 := hide (LnsOk.step (unhide HL) ((unhide HB1).alloc z1 _) (fun q e => by have e' : g = q := (by simpa [Value.ownBlock] using e); omega) ((unhide HN).below (below1 _ _)) (fun q e => by have := (unhide HNB) q e; simp; omega) hgrow4 (hat4.imp id (fun h => ⟨_, h, by simp⟩)))
            have hbel4 : Below w.heap.size w w4 := ((hbel.trans ((unhide HB1).mono hbel.size)).alloc (by have := hbel.size; omega) _).grown hgrow4 (by have := hbel.size; simp; omega) (fun q hq => ((unhide HR).lt q hq).1)
            obtain ⟨g4, c4, rfl⟩ : ∃ g4 c4, v4 = .slice (some ⟨g4, 0, none⟩) (ls ++ [(⟨.slice a1 (wds (s.extract f k)).length c1, f, k⟩ : LnR)]).length c4 := by
              have h := unhide HO
              obtain ⟨_, ⟨_, h2⟩ | ⟨g', cap, cur, h1, _⟩⟩ := h
              · simp at h2
              · exact ⟨g', cap, h1⟩
            obtain ⟨ls4, HLS⟩ : ∃ ls4, Hid (ls4 = ls ++ [(⟨.slice a1 (wds (s.extract f k)).length c1, f, k⟩ : LnR)]) := ⟨_, hide rfl⟩
            have e4 := unhide HLS
            rw [← e4] at HO HL4
            rw [← e4]
            clear e4 hown4 hgrow4 hnil4 hat4 HN HNB HB1 HR HL
            go_wp2
            refine ⟨⟨k + 1, k + 1, g4, c4, ls4, by omega, Nat.le_refl _, by go_num, by go_num, rfl, ?_, ?_, HO, HL4, hbel4⟩, by simp [intOf]; omega⟩
            · rw [unhide HLS]; simp; omega
            · have := unhide HP
              rw [unhide HLS, plc_append]
              exact hide this
      · have hlt : k < s.size := by omega
        have hltI : (k : Int) < (s.size : Int) := by omega
        have hb : bt s k ≠ 10 := fun e => hput (Or.inr e)
        have HP := hide ((unhide HW).skip hlt hb)
        have hc : ((k : Int) == (s.size : Int)) = false := by simp; omega
        have hc2 : ((s[k].toNat : Int) == 10) = false := by
          rw [bt_get hlt]
          simp only [beq_eq_false_iff_ne, ne_eq]
          intro e
          exact hb (UInt8.toNat_inj.1 (by simpa using (by omega : (bt s k).toNat = 10)))
        clear hb hput
        go_wp2
        exact ⟨⟨k + 1, f, g, c, ls, by omega, by omega, by go_num, rfl, rfl, by omega, HP, HR, HL, hbel⟩, by simp [intOf]; omega⟩
    · have hleI : ¬ (k : Int) ≤ (s.size : Int) := by omega
      have HF := hide ((unhide HW).fin hle)
      go_wp2
      go_ret
      have hg := (unhide HR).lt g rfl
      exact ⟨g, c, ls, rfl, hg.1, hg.2, hide (unhide HR).ops, hide (fun l hl => ((unhide HL) l hl).1), HF, by omega, hbel⟩
end Go.Proofs.YtokabkhnidlcnabGreatDoor

/-
  Walk: the begin line, in the specification (l5Begin).
-/
namespace Go.Proofs.YtokabkhnidlcnabGreatDoor
set_option maxRecDepth 100000
set_option linter.unusedSimpArgs false
set_option linter.unusedVariables false
open Go.RowKit

/-- The words of the line at a place. -/
def wsL (s : ByteArray) (ls : List LnR) (i : Nat) : List ByteArray := wds (s.extract (atL ls i).f (atL ls i).t)

theorem atL_mem {ls : List LnR} {i : Nat} (h : i < ls.length) : atL ls i ∈ ls := by
  unfold atL
  rw [List.getD_eq_getElem?_getD, List.getElem?_eq_getElem h]
  exact List.getElem_mem h

/-- The place of the begin line. -/
def BegIs (s : ByteArray) (ls : List LnR) (r : Int) : Prop :=
  (r = -1 ∧ ∀ i, i < ls.length → wsL s ls i ≠ [wBegin]) ∨ ∃ i, i < ls.length ∧ r = (i : Int) ∧ wsL s ls i = [wBegin] ∧ ∀ j, j < i → wsL s ls j ≠ [wBegin]

set_option maxHeartbeats 2000000 in
theorem l5Begin_any (s : ByteArray) (g c : Nat) (ls : List LnR) (w : World) (hl : ls.length ≤ 20001) (ho : OpsL w g ls) (hw : ∀ l ∈ ls, StrsAt w l.wv (wds (s.extract l.f l.t))) :
    Calls Tryz.prog 30 #[.slice (some ⟨g, 0, none⟩) ls.length c] w fun e w' => ∃ r : Int, e = .returned (.int .i64 r) ∧ BegIs s ls r ∧ w' = w := by
  have HO := hide ho
  have HW := hide hw
  clear ho hw
  go_enter Tryz.func30, Tryz.ntmps30
  go_wp2
  go_loop [3] (fun i => ∃ k : Nat, k ≤ ls.length ∧ i = .int .i64 (k : Int) ∧ Hid (∀ j, j < k → wsL s ls j ≠ [wBegin])) (fun i => ls.length - (intOf i).toNat)
  case atStart => exact ⟨0, Nat.zero_le _, rfl, hide (fun j h => by omega)⟩
  case round =>
    obtain ⟨k, hk, rfl, hn⟩ := hrel
    by_cases hlt : k < ls.length
    · have hltI : (k : Int) < (ls.length : Int) := by omega
      obtain ⟨o0, _, _⟩ := (unhide HO) k hlt
      have hst := (unhide HW) _ (atL_mem hlt)
      obtain ⟨ws, hws⟩ : ∃ ws, ws = wsL s ls k := ⟨_, rfl⟩
      have hst2 : StrsAt w (atL ls k).wv ws := by rw [hws]; exact hst
      have HWS := hide hws
      clear hst hws
      by_cases hbeg : ws = [wBegin]
      · obtain ⟨gw, cw, hv, hgw, hc⟩ := hst2.lt (by rw [hbeg]; simp)
        have k0 : w.cell? ⟨gw, 0, none⟩ = some (.string ⟨#[98, 101, 103, 105, 110]⟩) := hc 0 _ (by rw [hbeg]; rfl)
        have hl1 : ws.length = 1 := by rw [hbeg]; rfl
        rw [hl1] at hv
        rw [hv] at o0
        have HB := hide (show wsL s ls k = [wBegin] by rw [← unhide HWS]; exact hbeg)
        clear hc hbeg hst2 hl1 hv
        go_wp2
        go_ret
        exact ⟨_, rfl, Or.inr ⟨k, hlt, rfl, unhide HB, unhide hn⟩, rfl⟩
      · have HB := hide (show wsL s ls k ≠ [wBegin] by rw [← unhide HWS]; exact hbeg)
        have HX := hide (show ∀ j, j < k + 1 → wsL s ls j ≠ [wBegin] from fun j hj => by
          by_cases e : j = k
          · subst e; exact unhide HB
          · exact (unhide hn) j (by omega))
        have hcond : (((ws.length : Int) == 1) = false ∧ ∃ a c, (atL ls k).wv = .slice a ws.length c) ∨ (((ws.length : Int) == 1) = true ∧ ∃ gw c q, (atL ls k).wv = .slice (some ⟨gw, 0, none⟩) ws.length c ∧ w.cell? ⟨gw, 0, none⟩ = some (.string q) ∧ (q.toList == [98, 101, 103, 105, 110]) = false) := by
          by_cases e : ws.length = 1
          · right
            obtain ⟨gw, cw, hv, hgw, hc⟩ := hst2.lt (by omega)
            match ws, e with
            | [q], _ => exact ⟨rfl, gw, cw, q, hv, hc 0 q rfl, lit_no (fun ek => hbeg (by rw [ek]; rfl))⟩
          · left
            obtain ⟨a, cw, hv, _⟩ := hst2
            exact ⟨by simp; omega, a, cw, hv⟩
        clear hbeg hst2
        rcases hcond with ⟨hc1, a, cw, hv⟩ | ⟨hc1, gw, cw, q, hv, k0, hq⟩
        all_goals
          rw [hv] at o0
          clear hv
          try have h00 : (0 : Int) < (ws.length : Int) := (by have := beq_iff_eq.1 hc1; omega)
          go_wp2
          exact ⟨⟨k + 1, by omega, by go_num, HX⟩, by simp [intOf]; omega⟩
    · have HE := hide (show BegIs s ls (-1) from Or.inl ⟨rfl, fun i hi => (unhide hn) i (by omega)⟩)
      go_wp2
      go_ret
      exact ⟨_, rfl, unhide HE, rfl⟩
end Go.Proofs.YtokabkhnidlcnabGreatDoor
