import Derived.OwnWalk
import Derived.Laws.OwnMore
import Derived.Maps.AppendAt
import Derived.Test.YtokabkhnidlcnabGreatDoorL00
import Derived.Test.YtokabkhnidlcnabGreatDoorL07
import Derived.Test.YtokabkhnidlcnabGreatDoorL08

/-
  Rows of texts that a call makes by append.
-/
namespace Go.Proofs.YtokabkhnidlcnabGreatDoor
set_option maxRecDepth 100000
set_option linter.unusedSimpArgs false
set_option linter.unusedVariables false
open Go.RowKit

def cellsS (l : List ByteArray) : List Value := l.map fun s => .string s
theorem cellsS_len (l : List ByteArray) : (cellsS l).length = l.length := by simp [cellsS]
theorem cellsS_append (l l' : List ByteArray) : cellsS (l ++ l') = cellsS l ++ cellsS l' := by simp [cellsS]
theorem cellsS_one' (l : List ByteArray) : ∀ u ∈ cellsS l, u.oneCell' = true := by
  intro u hu
  simp only [cellsS, List.mem_map] at hu
  obtain ⟨b, _, rfl⟩ := hu
  rfl

theorem infoStr : (Tryz.prog.info? 9).map (fun i => (i.zero, i.size, i.bytes)) = some (some (.string ⟨#[]⟩), 1, 16) := by kernel_rfl

theorem new_newsS (w : World) (t : ByteArray) : ∀ j u, (cellsS [t])[j]? = some u → (w.alloc (.cells #[.string t] 9)).cell? ((⟨w.heap.size, 0, none⟩ : Addr).add j) = some u := by
  intro j u hj
  rw [Addr.add_mid]
  have := World.rangeAt_of_block (w := w.alloc (.cells #[.string t] 9)) (b := w.heap.size) (heap_alloc_new w _) 0 1
  exact this j u (by simpa [cellsS] using hj)

/-- A row of texts behind which one may be put. -/
def RowS (w : World) (B : Nat) (v : Value) (ps : List ByteArray) : Prop := w.ownsRow B 9 1 v ps.length (cellsS ps)

theorem rowS_slice {w : World} {B n : Nat} {e : TypeId} {size : Nat} {u : Value} {xs : List Value} (h : w.ownsRow B e size u n xs) : ∃ a c, u = .slice a n c := by
  obtain ⟨_, ⟨rfl, rfl⟩ | ⟨g, cap, cur, rfl, _⟩⟩ := h
  · exact ⟨none, 0, rfl⟩
  · exact ⟨_, _, rfl⟩

theorem RowS.grown {w w' : World} {B : Nat} {u : Value} {us : List ByteArray} {row : Option Nat} (h : RowS w B u us) (hg : w.grownBy w' row) (hne : ∀ k, u.ownBlock = some k → row ≠ some k) : RowS w' B u us :=
  World.ownsRow.kept h hg (by
    cases e : u.ownBlock with
    | none => exact Or.inl rfl
    | some k => exact Or.inr (fun x => hne k e x.symm))

theorem RowS.below {w w' : World} {B : Nat} {u : Value} {us : List ByteArray} (h : RowS w B u us) (hb : Below w.heap.size w w') : RowS w' B u us :=
  h.grown (row := none) ⟨hb.os, hb.tape, hb.output, hb.size, fun i hi _ => hb.block i hi⟩ (fun k _ e => by cases e)

theorem RowS.lt {w : World} {B : Nat} {u : Value} {us : List ByteArray} (h : RowS w B u us) : ∀ g, u.ownBlock = some g → B ≤ g ∧ g < w.heap.size := fun g hg => World.ownsRow.lt h g hg

/-- The texts of a row, as they lie in memory. -/
theorem RowS.cells {w : World} {B g n c : Nat} {us : List ByteArray} (h : RowS w B (.slice (some ⟨g, 0, none⟩) n c) us) : ∀ (j : Nat) x, us[j]? = some x → w.cell? ⟨g, 0 + j, none⟩ = some (.string x) := by
  intro j x hj
  have hl : j < us.length := (List.getElem?_eq_some_iff.1 hj).1
  obtain ⟨_, ⟨h1, _⟩ | ⟨g', cap, cur, h1, h2⟩⟩ := h
  · cases h1
  · have hh : RowS w B (.slice (some ⟨g', 0, none⟩) us.length cap) us := ⟨by assumption, Or.inr ⟨g', cap, cur, rfl, h2⟩⟩
    simp only [Value.slice.injEq, Option.some.injEq, Addr.mk.injEq] at h1
    obtain ⟨⟨rfl, _⟩, _⟩ := h1
    rw [Nat.zero_add, World.ownsRow.cellAt hh j (by omega)]
    simp [cellsS, hj]
end Go.Proofs.YtokabkhnidlcnabGreatDoor

/-
  Walk: the words of a line, in the specification (l5Words).
-/
namespace Go.Proofs.YtokabkhnidlcnabGreatDoor
set_option maxRecDepth 100000
set_option linter.unusedSimpArgs false
set_option linter.unusedVariables false
open Go.RowKit

/-- The words so far, in a walk over the places of a line. -/
def WInv (s : ByteArray) (k f : Nat) (us : List ByteArray) : Prop :=
  (k ≤ s.size ∧ f ≤ k ∧ (∀ j, f ≤ j → j < k → bt s j ≠ 32) ∧ us ++ wdsFrom s f = wds s) ∨ (k = s.size + 1 ∧ us = wds s)

theorem WInv.start (s : ByteArray) : WInv s 0 0 [] := Or.inl ⟨Nat.zero_le _, Nat.le_refl _, fun j h1 h2 => by omega, rfl⟩

theorem WInv.skip {s : ByteArray} {k f : Nat} {us : List ByteArray} (h : WInv s k f us) (hk : k < s.size) (hb : bt s k ≠ 32) : WInv s (k + 1) f us := by
  rcases h with ⟨h1, h2, h3, h4⟩ | ⟨h1, _⟩
  · refine Or.inl ⟨by omega, by omega, fun j j1 j2 => ?_, h4⟩
    by_cases e : j = k
    · subst e; exact hb
    · exact h3 j j1 (by omega)
  · omega

/-- What is put behind the words at a place. -/
def putW (s : ByteArray) (f k : Nat) (us : List ByteArray) : List ByteArray := us ++ (if f < k then [s.extract f k] else [])

theorem putW_yes {s : ByteArray} {f k : Nat} {us : List ByteArray} (h : f < k) : putW s f k us = us ++ [s.extract f k] := by unfold putW; rw [if_pos h]
theorem putW_no {s : ByteArray} {f k : Nat} {us : List ByteArray} (h : ¬ f < k) : putW s f k us = us := by unfold putW; rw [if_neg h]; simp

theorem WInv.put {s : ByteArray} {k f : Nat} {us : List ByteArray} (h : WInv s k f us) (hk : k ≤ s.size) (hb : k = s.size ∨ bt s k = 32) : WInv s (k + 1) (k + 1) (putW s f k us) := by
  rcases h with ⟨h1, h2, h3, h4⟩ | ⟨h1, _⟩
  · have hx : nx 32 s f = k := nx_one (by omega) h2 h1 h3 (fun hl => hb.elim (fun e => by omega) (fun e => e))
    rw [wdsFrom_step s f (by omega), hx] at h4
    unfold putW
    by_cases hl : k < s.size
    · rw [if_pos hl, ← List.append_assoc] at h4
      exact Or.inl ⟨by omega, Nat.le_refl _, fun j j1 j2 => by omega, h4⟩
    · rw [if_neg hl, List.append_nil] at h4
      exact Or.inr ⟨by omega, h4⟩
  · omega

theorem WInv.fin {s : ByteArray} {k f : Nat} {us : List ByteArray} (h : WInv s k f us) (hk : ¬ k ≤ s.size) : us = wds s := by
  rcases h with ⟨h1, _⟩ | ⟨_, h⟩
  · omega
  · exact h

theorem empty_rowS (w : World) : RowS (w.alloc (.cells #[] 9)) w.heap.size (.slice (some ⟨w.heap.size, 0, none⟩) 0 0) [] := by
  have := World.ownsRow_lit (base := w.heap.size) (e := 9) (size := 1) w #[] 0 (Nat.le_refl _) (Nat.zero_le _) rfl
  simpa [RowS, cellsS] using this

/-- What the words' readers answer. -/
def WdsPost (w : World) (s : ByteArray) (e : Ending) (w' : World) : Prop := ∃ v, e = .returned v ∧ RowS w' w.heap.size v (wds s) ∧ (wds s).length ≤ s.size + 1 ∧ Below w.heap.size w w'

set_option maxHeartbeats 2000000 in
theorem l5Words_any (s : ByteArray) (w : World) (hs : s.size ≤ 20000) :
    Calls Tryz.prog 45 #[.string s] w (WdsPost w s) := by
  obtain ⟨i0, hi0, hz0, hz1, hz2⟩ := info_parts' infoStr
  have HI := hide hi0
  have HZ := hide (And.intro hz0 (And.intro hz1 hz2))
  clear hi0 hz0 hz1 hz2
  have HE := hide (empty_rowS w)
  go_enter Tryz.func45, Tryz.ntmps45
  go_wp2
  go_loopw [3, 4, 5] (fun out fr i wr => ∃ (k f : Nat) (us : List ByteArray) (v : Value), k ≤ s.size + 1 ∧ f ≤ k ∧ i = .int .i64 (k : Int) ∧ fr = .int .i64 (f : Int) ∧ out = v ∧ us.length ≤ k ∧ Hid (WInv s k f us) ∧ Hid (RowS wr w.heap.size v us) ∧ Below w.heap.size w wr) (fun _ _ i _ => s.size + 1 - (intOf i).toNat)
  case atStart => exact ⟨0, 0, [], _, Nat.zero_le _, Nat.le_refl _, rfl, rfl, rfl, Nat.zero_le _, hide (WInv.start s), HE, below1 _ _⟩
  case round =>
    clear HE
    obtain ⟨k, f, us, v, hk, hf, rfl, rfl, rfl, hul, HW, HR, hbel⟩ := hrel
    by_cases hle : k ≤ s.size
    · have hleI : (k : Int) ≤ (s.size : Int) := by omega
      by_cases hput : k = s.size ∨ bt s k = 32
      · have HP := hide ((unhide HW).put hle hput)
        have hcond : ((k : Int) == (s.size : Int)) = true ∨ (((k : Int) == (s.size : Int)) = false ∧ ∃ (h : k < s.size), ((s[k].toNat : Int) == 32) = true) := by
          by_cases e : k = s.size
          · left; simp [e]
          · right
            have hlt : k < s.size := by omega
            refine ⟨by simp; omega, hlt, ?_⟩
            have hb : bt s k = 32 := hput.elim (fun h => absurd h e) (fun h => h)
            rw [bt_get hlt, hb]; rfl
        clear hput
        by_cases hfk : f < k
        · have hfkI : (f : Int) < (k : Int) := by omega
          have hfs : (f : Int) ≤ (s.size : Int) := by omega
          have HPW := hide (putW_yes (s := s) (us := us) hfk)
          rcases hcond with hc | ⟨hc, hlt, hc2⟩
          all_goals
            try have hltI : (k : Int) < (s.size : Int) := (by omega)
            go_wp2_with (at_builtin; refine wpList_append_own_at _ rfl (.tmp 26) (.tmp 31) 37 rfl w.heap.size 9 i0 _ 1 16 Tryz.underlying37 (unhide HI) (unhide HZ).1 (unhide HZ).2.1 (unhide HZ).2.2 rfl (by decide) _ us.length (cellsS us) rfl ((unhide HR).below (below1 _ _)) ⟨wr.heap.size, 0, none⟩ 1 1 (cellsS [s.extract f k]) rfl rfl (by simpa using new_newsS wr (s.extract f k)) (cellsS_one' _) ?b1 ?b2 ?b3 ?next)
            case b1 => unfold maxLen; omega
            case b2 => omega
            case b3 => have := hbel.size; simp; omega
            case next =>
              intro v4 w4 hown4 hgrow4 hnil4 hat4
              have HO := hide (show RowS w4 w.heap.size v4 (putW s f k us) by
                rw [unhide HPW]
                unfold RowS
                rw [cellsS_append, List.length_append]
                exact hown4)
              have hl4 : (putW s f k us).length ≤ k + 1 := by rw [unhide HPW]; simp; omega
              have hbel4 : Below w.heap.size w w4 := (hbel.alloc hbel.size _).grown hgrow4 (by have := hbel.size; simp; omega) (fun q hq => ((unhide HR).lt q hq).1)
              clear hown4 hgrow4 hnil4 hat4
              go_wp2
              exact ⟨⟨k + 1, k + 1, _, _, by omega, Nat.le_refl _, by go_num, by go_num, rfl, hl4, HP, HO, hbel4⟩, by simp [intOf]; omega⟩
        · have hfkI : ¬ (f : Int) < (k : Int) := by omega
          have HPW := hide (putW_no (s := s) (us := us) hfk)
          rcases hcond with hc | ⟨hc, hlt, hc2⟩
          all_goals
            try have hltI : (k : Int) < (s.size : Int) := (by omega)
            go_wp2
            refine ⟨⟨k + 1, k + 1, us, _, by omega, Nat.le_refl _, by go_num, by go_num, rfl, by omega, ?_, HR, hbel⟩, by simp [intOf]; omega⟩
            have := unhide HP
            rw [unhide HPW] at this
            exact hide this
      · have hlt : k < s.size := by omega
        have hltI : (k : Int) < (s.size : Int) := by omega
        have hb : bt s k ≠ 32 := fun e => hput (Or.inr e)
        have HP := hide ((unhide HW).skip hlt hb)
        have hc : ((k : Int) == (s.size : Int)) = false := by simp; omega
        have hc2 : ((s[k].toNat : Int) == 32) = false := by
          rw [bt_get hlt]
          simp only [beq_eq_false_iff_ne, ne_eq]
          intro e
          exact hb (UInt8.toNat_inj.1 (by simpa using (by omega : (bt s k).toNat = 32)))
        clear hb hput
        go_wp2
        exact ⟨⟨k + 1, f, us, _, by omega, by omega, by go_num, rfl, rfl, by omega, HP, HR, hbel⟩, by simp [intOf]; omega⟩
    · have hleI : ¬ (k : Int) ≤ (s.size : Int) := by omega
      have HF := hide ((unhide HW).fin hle)
      go_wp2
      go_ret
      have e := unhide HF
      subst e
      exact ⟨_, rfl, unhide HR, by omega, hbel⟩
end Go.Proofs.YtokabkhnidlcnabGreatDoor

/-
  Rows of lines; rows of texts that are read.
-/
namespace Go.Proofs.YtokabkhnidlcnabGreatDoor
set_option maxRecDepth 100000
set_option linter.unusedSimpArgs false
set_option linter.unusedVariables false
open Go.RowKit

/-- A row of texts, as it is read. -/
def StrsAt (w : World) (v : Value) (ws : List ByteArray) : Prop := ∃ a c, v = .slice a ws.length c ∧ (ws.length = 0 ∨ ∃ g, a = some ⟨g, 0, none⟩ ∧ g < w.heap.size ∧ ∀ (j : Nat) x, ws[j]? = some x → w.cell? ⟨g, j, none⟩ = some (.string x))

theorem RowS.strs {w : World} {B : Nat} {v : Value} {ws : List ByteArray} (h : RowS w B v ws) : StrsAt w v ws := by
  obtain ⟨a, c, rfl⟩ := rowS_slice h
  refine ⟨a, c, rfl, ?_⟩
  have h' := h
  obtain ⟨_, ⟨h1, h2⟩ | ⟨g, cap, cur, h1, _⟩⟩ := h'
  · exact Or.inl h2
  · simp only [Value.slice.injEq] at h1
    obtain ⟨rfl, _, rfl⟩ := h1
    exact Or.inr ⟨g, rfl, (h.lt g rfl).2, fun j x hj => by have := h.cells j x hj; simpa using this⟩

theorem StrsAt.grown {w w' : World} {v : Value} {ws : List ByteArray} {row : Option Nat} (h : StrsAt w v ws) (hg : w.grownBy w' row) (hne : ∀ g, v.ownBlock = some g → row ≠ some g) : StrsAt w' v ws := by
  obtain ⟨a, c, rfl, h⟩ := h
  refine ⟨a, c, rfl, h.imp id ?_⟩
  rintro ⟨g, rfl, h1, h2⟩
  exact ⟨g, rfl, Nat.lt_of_lt_of_le h1 hg.size, fun j x hj => (grown_cell hg h1 (hne g rfl) j).trans (h2 j x hj)⟩

theorem StrsAt.below {w w' : World} {v : Value} {ws : List ByteArray} (h : StrsAt w v ws) (hb : Below w.heap.size w w') : StrsAt w' v ws :=
  h.grown (row := none) (grown_belN hb none) (fun g _ e => by cases e)

theorem StrsAt.lt {w : World} {v : Value} {ws : List ByteArray} (h : StrsAt w v ws) (h1 : 1 ≤ ws.length) : ∃ g c, v = .slice (some ⟨g, 0, none⟩) ws.length c ∧ g < w.heap.size ∧ ∀ (j : Nat) x, ws[j]? = some x → w.cell? ⟨g, j, none⟩ = some (.string x) := by
  obtain ⟨a, c, rfl, h | ⟨g, rfl, h2, h3⟩⟩ := h
  · omega
  · exact ⟨g, c, rfl, h2, h3⟩

/-- A line: where its words lie, where it begins and ends. -/
structure LnR where
  wv : Value
  f : Nat
  t : Nat

def LnR.cells (l : LnR) : List Value := [l.wv, .int .i64 (l.f : Int), .int .i64 (l.t : Int)]
def atL (ls : List LnR) (i : Nat) : LnR := ls.getD i ⟨.slice none 0 0, 0, 0⟩
def cellsLn (zs : List LnR) : List Value := zs.flatMap fun x => [x.wv, .int .i64 (x.f : Int), .int .i64 (x.t : Int)]
theorem cellsLn_append (xs ys : List LnR) : cellsLn (xs ++ ys) = cellsLn xs ++ cellsLn ys := by simp [cellsLn]

theorem cellsLn_at : ∀ (zs : List LnR) (i : Nat), i < zs.length → (cellsLn zs)[i * 3]? = some (atL zs i).wv ∧ (cellsLn zs)[i * 3 + 1]? = some (.int .i64 ((atL zs i).f : Int)) ∧ (cellsLn zs)[i * 3 + 2]? = some (.int .i64 ((atL zs i).t : Int))
  | [], i, h => absurd h (Nat.not_lt_zero i)
  | o :: r, 0, _ => ⟨rfl, rfl, rfl⟩
  | o :: r, i + 1, h => by
    have ih := cellsLn_at r i (by simpa using h)
    have e : ∀ j, (cellsLn (o :: r))[(i + 1) * 3 + j]? = (cellsLn r)[i * 3 + j]? := fun j => by
      have : (i + 1) * 3 + j = (i * 3 + j) + 3 := by omega
      rw [this]
      rfl
    exact ⟨(e 0).trans ih.1, (e 1).trans ih.2.1, (e 2).trans ih.2.2⟩

theorem infoLn : (Tryz.prog.info? 68).map (fun i => (i.zero, i.size, i.bytes)) = some (some (.agg #[.slice none 0 0, .int .i64 0, .int .i64 0]), 3, 40) := by kernel_rfl

theorem new_newsLn (w : World) (x : LnR) : ∀ j u, (cellsLn [x])[j]? = some u → (w.alloc (.cells #[x.wv, .int .i64 (x.f : Int), .int .i64 (x.t : Int)] 68)).cell? ((⟨w.heap.size, 0, none⟩ : Addr).add j) = some u := by
  intro j u hj
  rw [Addr.add_mid]
  have := World.rangeAt_of_block (w := w.alloc (.cells #[x.wv, .int .i64 (x.f : Int), .int .i64 (x.t : Int)] 68)) (b := w.heap.size) (heap_alloc_new w _) 0 3
  exact this j u (by simpa [cellsLn] using hj)

def RowL (w : World) (B : Nat) (u : Value) (ls : List LnR) : Prop := w.ownsRow B 68 3 u ls.length (cellsLn ls)

theorem RowL.below {w w' : World} {B : Nat} {u : Value} {us : List LnR} (h : RowL w B u us) (hb : Below w.heap.size w w') : RowL w' B u us :=
  World.ownsRow.kept h (grown_belN hb none) (by cases u.ownBlock with
  | none => exact Or.inl rfl
  | some k => exact Or.inr (by simp))
theorem RowL.lt {w : World} {B : Nat} {u : Value} {us : List LnR} (h : RowL w B u us) : ∀ g, u.ownBlock = some g → B ≤ g ∧ g < w.heap.size := fun g hg => World.ownsRow.lt h g hg

/-- The lines of a row, as they lie in memory. -/
def OpsL (w : World) (g : Nat) (ls : List LnR) : Prop := ∀ i, i < ls.length → w.cell? ⟨g, i * 3, none⟩ = some (atL ls i).wv ∧ w.cell? ⟨g, i * 3 + 1, none⟩ = some (.int .i64 ((atL ls i).f : Int)) ∧ w.cell? ⟨g, i * 3 + 2, none⟩ = some (.int .i64 ((atL ls i).t : Int))

theorem OpsL.below {w w' : World} {g : Nat} {ls : List LnR} {B : Nat} (h : OpsL w g ls) (hb : Below B w w') (hB : g < B) : OpsL w' g ls := fun i hi => by
  obtain ⟨h0, h1, h2⟩ := h i hi
  exact ⟨(hb.cell (p := ⟨g, _, none⟩) hB).trans h0, (hb.cell (p := ⟨g, _, none⟩) hB).trans h1, (hb.cell (p := ⟨g, _, none⟩) hB).trans h2⟩

theorem RowL.ops {w : World} {B g c : Nat} {us : List LnR} (h : RowL w B (.slice (some ⟨g, 0, none⟩) us.length c) us) : OpsL w g us := fun i hi => by
  obtain ⟨c0, c1, c2⟩ := cellsLn_at us i hi
  have e := fun j (hj : j < 3) => World.ownsRow.cellAt h (i * 3 + j) (by omega)
  exact ⟨by simpa using (e 0 (by omega)).trans c0, by simpa using (e 1 (by omega)).trans c1, by simpa using (e 2 (by omega)).trans c2⟩

/-- The words of every line lie there, and nothing that is put behind the row touches them. -/
def LnsOk (w : World) (s : ByteArray) (v : Value) (ls : List LnR) : Prop := ∀ l ∈ ls, StrsAt w l.wv (wds (s.extract l.f l.t)) ∧ ∀ g, l.wv.ownBlock = some g → v.ownBlock ≠ some g ∧ g < w.heap.size

theorem LnsOk.one' {w : World} {s : ByteArray} {v : Value} {ls : List LnR} (h : LnsOk w s v ls) : ∀ u ∈ cellsLn ls, u.oneCell' = true := by
  intro u hu
  simp only [cellsLn, List.mem_flatMap] at hu
  obtain ⟨l, hl, ho⟩ := hu
  obtain ⟨⟨a, c, hv, _⟩, _⟩ := h l hl
  simp at ho
  rcases ho with rfl | rfl | rfl
  · rw [hv]; rfl
  · rfl
  · rfl

/-- One line more. -/
theorem LnsOk.step {w w1 w4 : World} {s : ByteArray} {v v4 nv : Value} {ls : List LnR} {f t : Nat} (h : LnsOk w s v ls) (hb : Below w.heap.size w w1) (hv : ∀ g, v.ownBlock = some g → g < w.heap.size) (hn : StrsAt w1 nv (wds (s.extract f t))) (hnb : ∀ g, nv.ownBlock = some g → w.heap.size ≤ g ∧ g < w1.heap.size)
    (hg : w1.grownBy w4 v.ownBlock) (hat : v4.ownBlock = v.ownBlock ∨ ∃ k, v4.ownBlock = some k ∧ w1.heap.size ≤ k) : LnsOk w4 s v4 (ls ++ [⟨nv, f, t⟩]) := by
  have hne : ∀ g, g < w1.heap.size → v.ownBlock ≠ some g → v4.ownBlock ≠ some g := fun g h1 h2 e => by
    rcases hat with h | ⟨k, h, hk⟩
    · exact h2 (h.symm.trans e)
    · rw [h] at e; injection e with e; omega
  have hz := hb.size
  have hz4 := hg.size
  intro l hl
  rcases List.mem_append.1 hl with hl | hl
  · obtain ⟨h1, h2⟩ := h l hl
    refine ⟨(h1.below hb).grown hg (fun g e => (h2 g e).1), fun g e => ⟨hne g ?_ (h2 g e).1, ?_⟩⟩
    · have := (h2 g e).2; omega
    · have := (h2 g e).2; omega
  · simp only [List.mem_singleton] at hl
    subst hl
    have hx : ∀ g, nv.ownBlock = some g → v.ownBlock ≠ some g := fun g e e2 => by
      have := hv g e2
      have := (hnb g e).1
      omega
    refine ⟨hn.grown hg hx, fun g e => ⟨hne g (hnb g e).2 (hx g e), ?_⟩⟩
    have := (hnb g e).2
    omega
end Go.Proofs.YtokabkhnidlcnabGreatDoor
