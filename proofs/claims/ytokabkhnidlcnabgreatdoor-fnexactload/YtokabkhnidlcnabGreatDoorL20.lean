import Derived.Test.YtokabkhnidlcnabGreatDoorL03
import Derived.Test.YtokabkhnidlcnabGreatDoorL19

/-
  Walks: sets of texts in order, in the program: many at once.
-/
namespace Go.Proofs.YtokabkhnidlcnabGreatDoor
set_option maxRecDepth 100000
set_option linter.unusedSimpArgs false
set_option linter.unusedVariables false
open Go.RowKit Go.Maps

/-- A row that lies apart from a set. -/
def Apt (v : Value) (b : Nat) (kv : Value) (pv : Option Nat) : Prop := ∀ g, v.ownBlock = some g → g ≠ b ∧ kv.ownBlock ≠ some g ∧ pv ≠ some g

theorem StrsAt.eff {w w' : World} {v : Value} {us : List ByteArray} {b o : Nat} {kv : Value} {pv : Option Nat} (h : StrsAt w v us) (he : Eff w w' b o kv pv) (ha : Apt v b kv pv) : StrsAt w' v us := by
  obtain ⟨a, c, rfl, h0 | ⟨g, rfl, hg, hc⟩⟩ := h
  · exact ⟨a, c, rfl, Or.inl h0⟩
  · obtain ⟨h1, h2, h3⟩ := ha g rfl
    exact ⟨_, c, rfl, Or.inr ⟨g, rfl, Nat.lt_of_lt_of_le hg he.size, fun j x hj => (he.cell hg h1 h2 h3 j).trans (hc j x hj)⟩⟩

theorem foldB_take {us ks : List ByteArray} {k : Nat} {p : ByteArray} (h : us[k]? = some p) : (us.take (k + 1)).foldl insB ks = insB ((us.take k).foldl insB ks) p := by
  rw [List.take_add_one, h]
  simp [List.foldl_append]

theorem AddPost.step {w w1 w2 : World} {b o B : Nat} {kv kv1 : Value} {pv pv1 : Option Nat} {ks2 : List ByteArray} (he : Eff w w1 b o kv pv) (hk : SameNew w.heap.size kv.ownBlock kv1.ownBlock) (hp : SameNew w.heap.size pv pv1) (h : AddPost w1 b o B kv1 pv1 ks2 w2) : AddPost w b o B kv pv ks2 w2 := by
  obtain ⟨kv2, pv2, h1, h2, h3, h4⟩ := h
  exact ⟨kv2, pv2, h1, he.trans h2 hk hp, hk.trans h3 he.size, hp.trans h4 he.size⟩

theorem Apt.step {v : Value} {b : Nat} {kv kv1 : Value} {pv pv1 : Option Nat} {H : Nat} (h : Apt v b kv pv) (hv : ∀ g, v.ownBlock = some g → g < H) (hk : SameNew H kv.ownBlock kv1.ownBlock) (hp : SameNew H pv pv1) : Apt v b kv1 pv1 := fun g e =>
  ⟨(h g e).1, hk.ne (h g e).2.1 (hv g e), hp.ne (h g e).2.2 (hv g e)⟩

set_option maxHeartbeats 2000000 in
theorem addAllS_any (b o B : Nat) (kv : Value) (pv : Option Nat) (ks : List ByteArray) (v : Value) (us : List ByteArray) (w : World) (h : SSet w b o B kv pv ks) (hs : ∀ x ∈ us, x.size ≤ maxLen) (hl : ks.length + us.length ≤ 1048576) (hB : B ≤ w.heap.size) (hr : StrsAt w v us) (ha : Apt v b kv pv) :
    Calls Tryz.prog 56 #[.pointer (some ⟨b, o, none⟩), v] w fun e w' => e = .returned (.tuple #[]) ∧ AddPost w b o B kv pv (us.foldl insB ks) w' := by
  have HP := hide (show AddPost w b o B kv pv ((us.take 0).foldl insB ks) w from ⟨kv, pv, by simpa using h, Eff.refl _ _ _ _ _, Or.inl rfl, Or.inl rfl⟩)
  have HA := hide ha
  have HS := hide hs
  have HR := hide hr
  obtain ⟨a, c, rfl, _⟩ := hr
  clear h ha hs
  go_enter Tryz.func56, Tryz.ntmps56
  go_wp2
  go_loopw [8] (fun i wr => ∃ (k : Nat), k ≤ us.length ∧ i = .int .i64 (k : Int) ∧ Hid (AddPost w b o B kv pv ((us.take k).foldl insB ks) wr)) (fun i _ => us.length - (intOf i).toNat)
  case atStart => exact ⟨0, Nat.zero_le _, rfl, HP⟩
  case round =>
    obtain ⟨k, hk, rfl, HQ⟩ := hrel
    by_cases hlt : k < us.length
    · have hltI : (k : Int) < (us.length : Int) := by omega
      obtain ⟨p, hp⟩ : ∃ p, us[k]? = some p := ⟨_, List.getElem?_eq_getElem hlt⟩
      obtain ⟨kv1, pv1, h1, h2, h3, h4⟩ := unhide HQ
      obtain ⟨g, cc, hge, hgl, hgc⟩ := (unhide HR).lt (by omega)
      obtain ⟨rfl, rfl⟩ : a = some ⟨g, 0, none⟩ ∧ c = cc := by injection hge with x _ y; exact ⟨x, y⟩
      obtain ⟨a1, a2, a3⟩ := (unhide HA) g rfl
      have hc : wr.cell? ⟨g, k, none⟩ = some (.string p) := (h2.cell hgl a1 a2 a3 k).trans (hgc k p hp)
      have hln := insBs_len (us.take k) ks
      rw [List.length_take] at hln
      have hz := h2.size
      have HX := hide (addS_any b o B kv1 pv1 _ p wr h1 ((unhide HS) p (List.mem_of_getElem? hp)) (by omega) (by omega))
      have HF := hide (fun w2 (hh : AddPost wr b o B kv1 pv1 (insB ((us.take k).foldl insB ks) p) w2) => show AddPost w b o B kv pv ((us.take (k + 1)).foldl insB ks) w2 from (by rw [foldB_take hp]; exact AddPost.step h2 h3 h4 hh))
      clear hge h1 h2 h3 h4 hln hp HQ
      go_wp2_with (first | (go_at_call 54; (with_reducible refine (unhide HX).mono ?_); rintro e w1 ⟨⟨y, rfl, _⟩, hpo⟩; have HN := hide ((unhide HF) w1 hpo); clear hpo))
      exact ⟨⟨k + 1, by omega, by go_num, HN⟩, by simp [intOf]; omega⟩
    · have HN := hide (show AddPost w b o B kv pv (us.foldl insB ks) wr by have := unhide HQ; rwa [List.take_of_length_le (by omega)] at this)
      go_wp2
      go_end0
      exact ⟨rfl, unhide HN⟩

/-- The texts of a row, each once. -/
def DstPost (w : World) (us : List ByteArray) (e : Ending) (w' : World) : Prop :=
  ∃ v, e = .returned v ∧ RowS w' w.heap.size v (dst us) ∧ Below w.heap.size w w'

set_option maxHeartbeats 2000000 in
theorem distinct_any (v : Value) (us : List ByteArray) (w : World) (hs : ∀ x ∈ us, x.size ≤ maxLen) (hl : us.length ≤ 1048576) (hr : StrsAt w v us) (hv : ∀ g, v.ownBlock = some g → g < w.heap.size) :
    Calls Tryz.prog 52 #[v] w (DstPost w us) := by
  have HX := hide (show Calls Tryz.prog 56 #[.pointer (some ⟨w.heap.size, 0, none⟩), v] (w.alloc (.cells #[.slice none 0 0, .map none] 80)) fun e w' => e = .returned (.tuple #[]) ∧ AddPost (w.alloc (.cells #[.slice none 0 0, .map none] 80)) w.heap.size 0 w.heap.size (.slice none 0 0) none (dst us) w' from by
    refine addAllS_any w.heap.size 0 w.heap.size _ none [] v us _ (SSet.new w _ _) hs (by simpa using hl) (by simp) (hr.below (below1 _ _)) (fun g e => ?_)
    refine ⟨fun e2 => ?_, by simp [Value.ownBlock], by simp⟩
    have := hv g e; omega)
  clear hr hv
  go_enter Tryz.func52, Tryz.ntmps52
  go_wp2_with (first | (go_at_call 56; (with_reducible refine (unhide HX).mono ?_); rintro e w1 ⟨rfl, kv, pv, h1, h2, h3, h4⟩; have c0 := h1.c0; have HR := hide h1.row; have HB := hide (show Below w.heap.size w w1 from (below1 _ _).trans (h2.below (B := w.heap.size) (by simp) (Nat.le_refl _) (fun g e => by simp [Value.ownBlock] at e) (fun g e => by simp at e))); clear h1 h2 h3 h4))
  go_ret
  exact ⟨_, rfl, unhide HR, unhide HB⟩
end Go.Proofs.YtokabkhnidlcnabGreatDoor

/-
  Sets of operators in order, as the program keeps them: memory.
-/
namespace Go.Proofs.YtokabkhnidlcnabGreatDoor
set_option maxRecDepth 100000
set_option linter.unusedSimpArgs false
set_option linter.unusedVariables false
open Go.RowKit Go.Maps

/-- The place of an operator in a row. -/
def idxQ : List OpR → OpR → Option Nat
  | [], _ => none
  | x :: r, t => if sameB x t = true then some 0 else (idxQ r t).map (· + 1)

theorem idxQ_some : ∀ (ks : List OpR) (t : OpR), (idxQ ks t).isSome = true ↔ t ∈ ks
  | [], t => by simp [idxQ]
  | x :: r, t => by
    unfold idxQ
    by_cases e : sameB x t = true
    · rw [if_pos e]; simp [sameB_iff.1 e]
    · rw [if_neg e, Option.isSome_map, idxQ_some r t]
      have : t ≠ x := fun h => e (sameB_iff.2 h.symm)
      simp [List.mem_cons, this]

theorem idxQ_append {ks : List OpR} {u : OpR} (h : u ∉ ks) (t : OpR) : idxQ (ks ++ [u]) t = if sameB t u = true then some ks.length else idxQ ks t := by
  induction ks with
  | nil =>
    simp only [List.nil_append, idxQ, List.length_nil]
    by_cases e : sameB u t = true
    · rw [if_pos e, if_pos (sameB_iff.2 (sameB_iff.1 e).symm)]
    · rw [if_neg e, if_neg (fun x => e (sameB_iff.2 (sameB_iff.1 x).symm))]; rfl
  | cons x r ih =>
    have hx : u ≠ x := fun e => h (by simp [e])
    have hr : u ∉ r := fun e => h (by simp [e])
    simp only [List.cons_append, idxQ, List.length_cons]
    by_cases e : sameB x t = true
    · rw [if_pos e, if_pos e, if_neg (fun e2 => hx (by rw [sameB_iff.1 e, ← sameB_iff.1 e2]))]
    · rw [if_neg e, if_neg e, ih hr]
      by_cases e2 : sameB t u = true
      · rw [if_pos e2, if_pos e2]; rfl
      · rw [if_neg e2, if_neg e2]

def gQ (ks : List OpR) (t : OpR) : Option Value := (idxQ ks t).map fun (i : Nat) => Value.int .i64 (i : Int)

theorem OMap.congr {w : World} {b n : Nat} {G G' : OpR → Option Value} (h : OMap w b n G) (he : ∀ t, G t = G' t) : OMap w b n G' := by
  have : G = G' := funext he
  rw [← this]; exact h

/-- A set of operators in order at ⟨b, o⟩. -/
structure QSet (w : World) (b o B : Nat) (kv : Value) (pv : Option Nat) (ks : List OpR) : Prop where
  c0 : w.cell? ⟨b, o, none⟩ = some kv
  c1 : w.cell? ⟨b, o + 1, none⟩ = some (.map pv)
  f0 : w.frozen? ⟨b, o, none⟩ = false
  f1 : w.frozen? ⟨b, o + 1, none⟩ = false
  row : RowO w B kv ks
  mp : (pv = none ∧ ks = []) ∨ ∃ bm, pv = some bm ∧ B ≤ bm ∧ OMap w bm ks.length (gQ ks)
  nk : kv.ownBlock ≠ some b
  np : pv ≠ some b
  nn : ∀ g, kv.ownBlock = some g → pv ≠ some g

theorem QSet.lt {w : World} {b o B : Nat} {kv : Value} {pv : Option Nat} {ks : List OpR} (h : QSet w b o B kv pv ks) : b < w.heap.size := World.block_lt_of_cell? _ _ h.c0
theorem QSet.plt {w : World} {b o B : Nat} {kv : Value} {pv : Option Nat} {ks : List OpR} (h : QSet w b o B kv pv ks) : ∀ g, pv = some g → B ≤ g ∧ g < w.heap.size := fun g e => by
  rcases h.mp with ⟨h1, _⟩ | ⟨bm, h1, h2, h3⟩
  · rw [h1] at e; cases e
  · rw [h1] at e; injection e with e; subst e; exact ⟨h2, h3.lt⟩

theorem QSet.below {w w' : World} {b o B : Nat} {kv : Value} {pv : Option Nat} {ks : List OpR} (h : QSet w b o B kv pv ks) (hb : Below w.heap.size w w') : QSet w' b o B kv pv ks :=
  ⟨(hb.cell (p := ⟨b, o, none⟩) h.lt).trans h.c0, (hb.cell (p := ⟨b, o + 1, none⟩) h.lt).trans h.c1, (hb.frozen (p := ⟨b, o, none⟩) h.lt).trans h.f0, (hb.frozen (p := ⟨b, o + 1, none⟩) h.lt).trans h.f1, h.row.below hb, h.mp.imp id (fun ⟨bm, h1, h2, h3⟩ => ⟨bm, h1, h2, h3.kept (grown_belN hb none) (by simp)⟩), h.nk, h.np, h.nn⟩

/-- Nothing is in a new set. -/
theorem QSet.new (w : World) (t : TypeId) (B : Nat) : QSet (w.alloc (.cells #[.slice none 0 0, .map none] t)) w.heap.size 0 B (.slice none 0 0) none [] :=
  ⟨by simp [go_sem], by simp [go_sem], by simp [go_sem], by simp [go_sem], World.ownsRow_nil _ _ _ _, Or.inl ⟨rfl, rfl⟩, by simp [Value.ownBlock], by simp, fun g e => by simp [Value.ownBlock] at e⟩

/-- What a put leaves. -/
def AddPostQ (w : World) (b o B : Nat) (kv : Value) (pv : Option Nat) (ks : List OpR) (w' : World) : Prop :=
  ∃ kv' pv', QSet w' b o B kv' pv' ks ∧ Eff w w' b o kv pv ∧ SameNew w.heap.size kv.ownBlock kv'.ownBlock ∧ SameNew w.heap.size pv pv'

theorem put_gQ {ks : List OpR} {t : OpR} (h : t ∉ ks) (t' : OpR) : (if sameB t' t = true then some (Value.int .i64 (ks.length : Int)) else gQ ks t') = gQ (ks ++ [t]) t' := by
  unfold gQ
  rw [idxQ_append h t']
  by_cases e : sameB t' t = true
  · rw [if_pos e, if_pos e]; rfl
  · rw [if_neg e, if_neg e]

/-- The set behind the update of its map and the append to its row. -/
theorem add_closeQ {w W w3 w4 : World} {b o B bm : Nat} {kv v4 : Value} {pv : Option Nat} {ks : List OpR} {t : OpR} {ob : Obj} (h : QSet w b o B kv pv ks) (hB : B ≤ w.heap.size) (ht : t ∉ ks)
    (hWs : w.heap.size ≤ W.heap.size) (hWb : ∀ i, i < w.heap.size → i ≠ b → W.heap[i]? = w.heap[i]?) (hWe : W.os = w.os ∧ W.tape = w.tape ∧ W.output = w.output) (hWc : ∀ o', o' ≠ o + 1 → W.cell? ⟨b, o', none⟩ = w.cell? ⟨b, o', none⟩) (hWf : ∀ o', W.frozen? ⟨b, o', none⟩ = w.frozen? ⟨b, o', none⟩) (hW1 : W.cell? ⟨b, o + 1, none⟩ = some (.map (some bm))) (hWr : RowO W B kv ks) (hbmB : B ≤ bm) (hbmb : bm ≠ b) (hbmk : kv.ownBlock ≠ some bm) (hbmn : SameNew w.heap.size pv (some bm))
    (hm : OMap w3 bm (ks.length + 1) (fun t' => if sameB t' t = true then some (Value.int .i64 (ks.length : Int)) else gQ ks t')) (hk : Kept1 W w3 bm) (hbW : bm < W.heap.size)
    (hg : (w3.alloc ob).grownBy w4 kv.ownBlock) (hr : RowO w4 B v4 (ks ++ [t])) (hat : v4.ownBlock = kv.ownBlock ∨ v4.ownBlock = some (w3.heap.size + 1)) :
    AddPostQ w b o B kv pv (ks ++ [t]) (w4.setCell ⟨b, o, none⟩ v4) := by
  have hbl := h.lt
  have hbW' : b < W.heap.size := by omega
  have hz3 := hk.size
  have hz4 := hg.size
  have hz4' : w3.heap.size + 1 ≤ w4.heap.size := by simpa using hz4
  have hb3 : b < w3.heap.size := by omega
  have kc := fun q => (grown_cell hg (b := b) (by simp; omega) h.nk q).trans (((below1 w3 ob).cell (p := ⟨b, q, none⟩) hb3).trans (hk.cell hbW' (Ne.symm hbmb) q))
  have kf := fun q => (frozen_grown hg (b := b) (by simp; omega) h.nk q).trans (((below1 w3 ob).frozen (p := ⟨b, q, none⟩) hb3).trans (hk.frozen hbW' (Ne.symm hbmb) q))
  have h4b : v4.ownBlock ≠ some b := fun e => by
    rcases hat with hat | hat
    · exact h.nk (hat.symm.trans e)
    · rw [hat] at e; injection e with e; omega
  have h4m : v4.ownBlock ≠ some bm := fun e => by
    rcases hat with hat | hat
    · exact hbmk (hat.symm.trans e)
    · rw [hat] at e; injection e with e; omega
  have hm4 : OMap (w4.setCell ⟨b, o, none⟩ v4) bm (ks ++ [t]).length (gQ (ks ++ [t])) := by
    rw [List.length_append]
    refine ((((hm.kept (grown_belN (below1 w3 ob) none) (by simp)).kept hg (fun e => hbmk e.symm)).kept (set_grown w4 b o v4) (fun e => hbmb (by injection e))).congr (put_gQ ht))
  refine ⟨v4, some bm, ⟨World.cell?_setCell_same _ _ _ ((kc o).trans ((hWc o (by omega)).trans h.c0)), (World.cell?_setCell_other _ _ _ _ (by simp)).trans ((kc (o + 1)).trans hW1), (World.frozen?_setCell _ _ _ _).trans ((kf o).trans ((hWf o).trans h.f0)), (World.frozen?_setCell _ _ _ _).trans ((kf (o + 1)).trans ((hWf (o + 1)).trans h.f1)), hr.grown (set_grown w4 b o v4) (fun k e x => h4b (e.trans x.symm)), Or.inr ⟨bm, rfl, hbmB, hm4⟩, h4b, fun e => hbmb (by injection e), fun g e x => h4m (e.trans x.symm)⟩, ?_, ?_, hbmn⟩
  · refine ⟨hg.os.trans (hk.os.trans hWe.1), hg.tape.trans (hk.tape.trans hWe.2.1), hg.output.trans (hk.output.trans hWe.2.2), by simp [World.setCell]; omega, fun i hi h1 h2 h3 => ?_, fun o' h1 h2 => ⟨(World.cell?_setCell_other _ _ _ _ (by first | (simp; done) | (simp; omega) | (intro x; injection x with _ x; omega))).trans ((kc o').trans (hWc o' h2)), (World.frozen?_setCell _ _ _ _).trans ((kf o').trans (hWf o'))⟩⟩
    rw [Below.heap_setCell _ _ _ _ (by simpa using h1)]
    have hibm : i ≠ bm := fun e => by
      rcases hbmn with x | ⟨k, x, hk2⟩
      · exact h3 (by rw [← x, e])
      · injection x with x; omega
    exact (hg.block i (by simp; omega) (fun e => h2 e.symm)).trans (((below1 w3 ob).block i (by omega)).trans ((hk.block i (by omega) hibm).trans (hWb i hi h1)))
  · rcases hat with hat | hat
    · exact Or.inl hat
    · exact Or.inr ⟨_, hat, by omega⟩
end Go.Proofs.YtokabkhnidlcnabGreatDoor

/-
  Walks: sets of operators in order, in the program.
-/
namespace Go.Proofs.YtokabkhnidlcnabGreatDoor
set_option maxRecDepth 100000
set_option linter.unusedSimpArgs false
set_option linter.unusedVariables false
open Go.RowKit Go.Maps

theorem eqlSomeQ (bm : Nat) (w : World) : (binOp .eql 90 (.map (some bm)) (.map none)).run Tryz.prog w = .ok (.bool false) w := by kernel_rfl
theorem eqlNilQ (w : World) : (binOp .eql 90 (.map none) (.map none)).run Tryz.prog w = .ok (.bool true) w := by kernel_rfl

theorem look_nilQ (t : OpR) (w : World) (hs : Fine t) : (Instr.lookup 90 (.map none) (.agg #[.string t.s, .int .i64 t.k, .int .i64 t.l, .int .i64 t.sd]) true).run Tryz.prog w = .ok (.tuple #[.int .i64 0, .bool false]) w := by
  have h := Maps.look_nil (P := Tryz.prog) (w := w) true lawQ Tryz.underlying90 (zeroI w) (keyQ hs)
  simpa using h

set_option maxHeartbeats 1000000 in
theorem hasQ_any (b o B : Nat) (kv : Value) (pv : Option Nat) (ks : List OpR) (t : OpR) (w : World) (h : QSet w b o B kv pv ks) (hs : Fine t) :
    Calls Tryz.prog 68 #[.pointer (some ⟨b, o, none⟩), .agg #[.string t.s, .int .i64 t.k, .int .i64 t.l, .int .i64 t.sd]] w fun e w' => RetB e (t ∈ ks) ∧ Below w.heap.size w w' := by
  have c1 := h.c1
  have hbl := h.lt
  rcases h.mp with ⟨rfl, rfl⟩ | ⟨bm, rfl, hbm, hm⟩
  · have hrun := fun w => look_nilQ t w hs
    obtain ⟨W, hW⟩ : ∃ W, W = w.alloc (.cells #[.string t.s, .int .i64 t.k, .int .i64 t.l, .int .i64 t.sd] 70) := ⟨_, rfl⟩
    have HB := hide (show Below w.heap.size w W from (by rw [hW]; exact below1 _ _))
    have c1' : W.cell? ⟨b, o + 1, none⟩ = some (.map none) := ((unhide HB).cell (p := ⟨b, o + 1, none⟩) hbl).trans c1
    have k0 : W.cell? ⟨w.heap.size, 0, none⟩ = some (.string t.s) := by rw [hW]; simp [go_sem]
    have k1 : W.cell? ⟨w.heap.size, 1, none⟩ = some (.int .i64 t.k) := by rw [hW]; simp [go_sem]
    have k2 : W.cell? ⟨w.heap.size, 2, none⟩ = some (.int .i64 t.l) := by rw [hW]; simp [go_sem]
    have k3 : W.cell? ⟨w.heap.size, 3, none⟩ = some (.int .i64 t.sd) := by rw [hW]; simp [go_sem]
    have HW := hide hW
    clear h hW
    go_enter Tryz.func68, Tryz.ntmps68
    go_wp2_with fail
    rw [← unhide HW]
    go_region
    go_wp2_with fail
    go_ret
    exact ⟨⟨false, rfl, says_false (by simp)⟩, (unhide HB).drew⟩
  · have HE := hide (show ∀ v : Bool, v = (gQ ks t).isSome → Says v (t ∈ ks) from fun v hv => by
      unfold Says
      rw [hv]
      unfold gQ
      rw [Option.isSome_map]
      exact idxQ_some ks t)
    obtain ⟨W, hW⟩ : ∃ W, W = w.alloc (.cells #[.string t.s, .int .i64 t.k, .int .i64 t.l, .int .i64 t.sd] 70) := ⟨_, rfl⟩
    have HB := hide (show Below w.heap.size w W from (by rw [hW]; exact below1 _ _))
    have hrun := ((hm.kept (grown_belN (unhide HB) none) (by simp)).kept (grown_belN (show Below W.heap.size W W.drew from (Below.refl _ _).drew) none) (by simp)).look (ty := 90) Tryz.underlying90 (zeroI W.drew) hs
    obtain ⟨x, hx⟩ : ∃ x, x = (gQ ks t).getD (.int .i64 0) := ⟨_, rfl⟩
    obtain ⟨y, hy⟩ : ∃ y, y = (gQ ks t).isSome := ⟨_, rfl⟩
    rw [← hx, ← hy] at hrun
    have HY := hide hy
    have c1' : W.cell? ⟨b, o + 1, none⟩ = some (.map (some bm)) := ((unhide HB).cell (p := ⟨b, o + 1, none⟩) hbl).trans c1
    have k0 : W.cell? ⟨w.heap.size, 0, none⟩ = some (.string t.s) := by rw [hW]; simp [go_sem]
    have k1 : W.cell? ⟨w.heap.size, 1, none⟩ = some (.int .i64 t.k) := by rw [hW]; simp [go_sem]
    have k2 : W.cell? ⟨w.heap.size, 2, none⟩ = some (.int .i64 t.l) := by rw [hW]; simp [go_sem]
    have k3 : W.cell? ⟨w.heap.size, 3, none⟩ = some (.int .i64 t.sd) := by rw [hW]; simp [go_sem]
    have HW := hide hW
    clear h hW hx hy hm
    go_enter Tryz.func68, Tryz.ntmps68
    go_wp2_with fail
    rw [← unhide HW]
    go_region
    go_wp2_with fail
    go_ret
    exact ⟨⟨y, rfl, (unhide HE) y (unhide HY)⟩, (unhide HB).drew⟩
end Go.Proofs.YtokabkhnidlcnabGreatDoor
