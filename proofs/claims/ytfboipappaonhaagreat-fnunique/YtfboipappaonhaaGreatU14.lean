import Derived.Maps.AppendAt
import Derived.Deep.MidRow
import Derived.Test.YtfboipappaonhaaGreatU12
import Derived.Test.YtfboipappaonhaaGreatU13

/-
  A row of bytes made of a text, and one byte put behind it.
-/
namespace Go.Proofs.YtfboipappaonhaaGreat
set_option maxRecDepth 100000
set_option linter.unusedSimpArgs false
set_option linter.unusedVariables false
open Go.RowKit

/-- A row of bytes that belongs to the call: its cells may be written, up to its capacity. -/
def RowY (w : World) (B : Nat) (v : Value) (l : List UInt8) : Prop :=
  ∃ g cap, v = .slice (some ⟨g, 0, none⟩) l.length cap ∧ B ≤ g ∧ g < w.heap.size ∧ l.length ≤ cap ∧ cap ≤ maxLen ∧ (∀ j, j < cap → (w.cell? ⟨g, j, none⟩).isSome = true ∧ w.frozen? ⟨g, j, none⟩ = false) ∧ ∀ j u, (cellsB l)[j]? = some u → w.cell? ⟨g, j, none⟩ = some u

theorem RowY.below {w w' : World} {B : Nat} {v : Value} {l : List UInt8} (h : RowY w B v l) (hb : Below w.heap.size w w') : RowY w' B v l := by
  obtain ⟨g, cap, rfl, h1, h2, h3, h4, h5, h6⟩ := h
  refine ⟨g, cap, rfl, h1, Nat.lt_of_lt_of_le h2 hb.size, h3, h4, fun j hj => ?_, fun j u hj => (hb.cell (p := ⟨g, j, none⟩) h2).trans (h6 j u hj)⟩
  have c := hb.cell (p := ⟨g, j, none⟩) h2
  have f := hb.frozen (p := ⟨g, j, none⟩) h2
  exact ⟨by rw [c]; exact (h5 j hj).1, by rw [f]; exact (h5 j hj).2⟩

/-- '[]byte(s)', as a row of its own. -/
theorem conv_row (W : World) (s : ByteArray) (hs : s.size ≤ 100000000) : ∃ (v : Value) (W' : World), (convert 9 22 (.string s)).run Tryz.prog W = .ok v W' ∧ RowY W' W.heap.size v s.data.toList ∧ Below W.heap.size W W' := by
  have hr := run_bytes_of_string (P := Tryz.prog) W 9 22 5 s Tryz.underlying9 Tryz.underlying22 Tryz.underlying5
  have hsl : s.data.toList.length = s.size := by simp
  have hge := grownCap_ge W s.size 0 5
  have hnew := heap_alloc_new W.drew (.cells (bytesRow s (grownCap W s.size 0 5)) 5 ((bytesRow s (grownCap W s.size 0 5)).size, (bytesRow s (grownCap W s.size 0 5)).size + 1))
  have hsz : (bytesRow s (grownCap W s.size 0 5)).size = grownCap W s.size 0 5 := by
    unfold bytesRow
    simp
    have : s.data.size = s.size := rfl
    omega
  refine ⟨_, _, hr, ⟨W.heap.size, grownCap W s.size 0 5, by rw [hsl], Nat.le_refl _, by simp, by rw [hsl]; exact hge, grownCap_le_maxLen W s.size 0 5 (by unfold maxLen; omega), fun j hj => ⟨?_, ?_⟩, fun j u hj => ?_⟩, (Below.refl _ _).drew.alloc (Nat.le_refl _) _⟩
  · rw [cell_of_row _ W.heap.size j _ 5 _ hnew]
    simp [hsz, hj]
  · have hn : (W.drew.alloc (.cells (bytesRow s (grownCap W s.size 0 5)) 5 ((bytesRow s (grownCap W s.size 0 5)).size, (bytesRow s (grownCap W s.size 0 5)).size + 1))).heap[W.heap.size]? = _ := hnew
    unfold World.frozen?
    simp only [hn]
    rw [hsz]
    simp
    omega
  · rw [cell_of_row _ W.heap.size j _ 5 _ hnew]
    have hlt : j < s.data.size := by
      have := (List.getElem?_eq_some_iff.1 hj).1
      rw [cellsB_len] at this
      simpa using this
    rw [bytesRow_at s _ j hlt]
    simp [cellsB] at hj
    obtain ⟨x, hx, rfl⟩ := hj
    rw [Array.getElem?_eq_getElem hlt] at hx
    injection hx with hx
    subst hx
    rfl

/-- One byte behind it. -/
theorem run_app1 (w : World) (ty : TypeId) (B : Nat) (v : Value) (l : List UInt8) (b : UInt8) (h : RowY w B v l) (hB : B ≤ w.heap.size) (ad : Addr) (hx : w.cell? (ad.add 0) = some (.int .u8 (b.toNat : Int))) (hl : l.length ≤ 1000000) :
    ∃ v' w', (Builtin.append_ #[22, 22] ty #[v, .slice (some ad) 1 1]).run Tryz.prog w = .ok v' w' ∧ RowY w' B v' (l ++ [b]) ∧ Below B w w' := by
  obtain ⟨g, cap, rfl, h1, h2, h3, h4, h5, h6⟩ := h
  obtain ⟨i, hi, hz⟩ := Option.map_eq_some_iff.1 infoByte
  simp only [Prod.mk.injEq] at hz
  obtain ⟨hz0, hz1, hz2⟩ := hz
  have hnews : ∀ j u, ([.int .u8 (b.toNat : Int)] : List Value)[j]? = some u → w.cell? (ad.add j) = some u := fun j u hj => by
    match j, hj with
    | 0, hj => simp at hj; subst hj; exact hx
  have hbl : (l ++ [b]).length = l.length + 1 := by simp
  by_cases hroom : l.length + 1 ≤ cap
  · have hf := run_firstCells_some (P := Tryz.prog) w i.size 1 ad 1 1 [.int .u8 (b.toNat : Int)] (by rw [hz1]; rfl) hnews
    obtain ⟨c1, c2⟩ := h5 l.length (by omega)
    obtain ⟨u0, hu0⟩ := Option.isSome_iff_exists.1 c1
    have hadd : (⟨g, l.length, none⟩ : Addr).add 0 = ⟨g, l.length, none⟩ := by unfold Addr.add; split <;> simp_all
    have hst : (storeCells ⟨g, l.length, none⟩ [.int .u8 (b.toNat : Int)] 0).run Tryz.prog w = .ok () (w.setCell ⟨g, l.length, none⟩ (.int .u8 (b.toNat : Int))) := by
      simp only [storeCells, Sem.run_bind]
      rw [hadd, run_store Tryz.prog w _ _ _ rfl, hu0]
      simp [c2]
    refine ⟨.slice (some ⟨g, 0, none⟩) (l.length + 1) cap, w.setCell ⟨g, l.length, none⟩ (.int .u8 (b.toNat : Int)), ?_, ?_, (Below.refl _ _).setCell (by simpa using h1) _⟩
    · rw [hz1] at hf
      simp [Builtin.append_, run_underlying Tryz.underlying22, sizeOf, typeInfo, hi, hz1, Builtin.lenOf, hroom, hf, Addr.add_lit, hst]
    · refine ⟨g, cap, by rw [hbl], h1, by simpa [World.setCell] using h2, by rw [hbl]; exact hroom, h4, fun j hj => ?_, fun j u hj => ?_⟩
      · refine ⟨?_, (World.frozen?_setCell _ _ _ _).trans (h5 j hj).2⟩
        by_cases e : j = l.length
        · subst e; rw [World.cell?_setCell_same _ _ _ hu0]; rfl
        · rw [World.cell?_setCell_other _ _ _ _ (fun x => e (by injection x with _ x; exact x.symm))]; exact (h5 j hj).1
      · rw [cellsB_append] at hj
        by_cases e : j = l.length
        · subst e
          rw [World.cell?_setCell_same _ _ _ hu0]
          rw [List.getElem?_append_right (by rw [cellsB_len]; exact Nat.le_refl _), cellsB_len, Nat.sub_self] at hj
          simpa [cellsB] using hj
        · rw [World.cell?_setCell_other _ _ _ _ (fun x => e (by injection x with _ x; exact x.symm))]
          apply h6
          have hjl : j < l.length + 1 := by
            have := (List.getElem?_eq_some_iff.1 hj).1
            simpa [cellsB_len] using this
          rw [List.getElem?_append_left (by rw [cellsB_len]; omega)] at hj
          exact hj
  · have holds : ∀ j u, (cellsB l)[j]? = some u → w.cell? ((⟨g, 0, none⟩ : Addr).add j) = some u := fun j u hj => by
      rw [Addr.add_mid, Nat.zero_add]; exact h6 j u hj
    have hr := run_append_grow (P := Tryz.prog) w 22 ty 5 i _ Tryz.underlying22 hi hz0 ⟨g, 0, none⟩ l.length cap (cellsB l) (by rw [cellsB_len, hz1, Nat.mul_one]) holds ad 1 1 [.int .u8 (b.toNat : Int)] (by rw [hz1]; rfl) hnews (by omega) (by omega) (growslice_fits (by omega) (by rw [hz2]; omega))
    have hge := grownCap_ge w (l.length + 1) cap 5
    have hnew := heap_alloc_new w.drew (.cells ((cellsB l).toArray ++ [Value.int .u8 (b.toNat : Int)].toArray ++ Builtin.zeroCells (Value.int .u8 0).cells (grownCap w (l.length + 1) cap 5 - (l.length + 1))) 5)
    refine ⟨_, _, hr, ⟨w.heap.size, grownCap w (l.length + 1) cap 5, by rw [hbl], hB, by simp, by rw [hbl]; exact hge, grownCap_le_maxLen w (l.length + 1) cap 5 (by unfold maxLen; omega), fun j hj => ⟨?_, frozen_of_row _ _ _ _ _ hnew⟩, fun j u hj => ?_⟩, ((Below.refl _ _).drew.alloc (Nat.le_refl _) _).mono hB⟩
    · rw [cell_of_row _ w.heap.size j _ 5 _ hnew]
      have : j < ((cellsB l).toArray ++ [Value.int .u8 (b.toNat : Int)].toArray ++ Builtin.zeroCells (Value.int .u8 0).cells (grownCap w (l.length + 1) cap 5 - (l.length + 1))).size := by
        simp [size_zeroCells, cellsB_len, Value.cells]
        omega
      rw [Array.getElem?_eq_getElem this]
      rfl
    · rw [cell_of_row _ w.heap.size j _ 5 _ hnew]
      rw [cellsB_append] at hj
      have hjl : j < l.length + 1 := by
        have := (List.getElem?_eq_some_iff.1 hj).1
        simpa [cellsB_len] using this
      rw [Array.getElem?_append_left (by simp [cellsB_len]; omega)]
      have e : (cellsB l).toArray ++ [Value.int .u8 (b.toNat : Int)].toArray = (cellsB l ++ cellsB [b]).toArray := by simp [cellsB]
      rw [e]
      simpa using hj

theorem wpList_app1 {ops : Array Oper} {rest : List Oper} {o : Oper} {a : Act} {Q : Exit → Act → World → Prop} {w : World} (hgd : o.guard = none) (s x : Operand)
    (ho : o.op = .call { callee := .builtin .append, args := #[s, x], argTypes := #[22, 22] })
    (B : Nat) (v : Value) (l : List UInt8) (b : UInt8) (hs : a.eval s = v) (hown : RowY w B v l) (hB : B ≤ w.heap.size) (ad : Addr) (hx : a.eval x = .slice (some ad) 1 1) (hc : w.cell? (ad.add 0) = some (.int .u8 (b.toNat : Int))) (hl : l.length ≤ 1000000)
    (h : ∀ v' w', RowY w' B v' (l ++ [b]) → Below B w w' → wpList Tryz.prog ops Q rest (a.put o.dst v') w') : wpList Tryz.prog ops Q (o :: rest) a w := by
  refine wpList_plain hgd fun K hK => ?_
  obtain ⟨v', w', hr, h2, h3⟩ := run_app1 w o.type B v l b hown hB ad hc hl
  unfold Oper.wp execOp
  simp only [ho, resolve, invoke, builtin, Sem.run_bind, Sem.run_pure, Result.andThen_ok, List.map_toArray, List.map_cons, List.map_nil, hs, hx, hr]
  exact hK _ _ (h v' w' h2 h3)
end Go.Proofs.YtfboipappaonhaaGreat

/-
  Walk: the draw of a table and a text.
-/
namespace Go.Proofs.YtfboipappaonhaaGreat
set_option maxRecDepth 100000
set_option linter.unusedSimpArgs false
set_option linter.unusedVariables false
open Go.RowKit

/-- The text and the place when i words are drawn. -/
def lexS (xs : List OpR) (bs : List UInt8) (p : Nat) : Nat → ByteArray × Nat
  | 0 => (⟨#[]⟩, p)
  | i + 1 => ((lexS xs bs p i).1 ++ gapN (nxt bs (lexS xs bs p i).2) ++ wordN xs bs (adv bs (lexS xs bs p i).2), wordP xs bs (adv bs (lexS xs bs p i).2))

/-- How many words are drawn. -/
def LexN (xs : List OpR) (bs : List UInt8) (p i : Nat) : Prop := 3 ≤ i ∧ bs.length ≤ (lexS xs bs p i).2 ∧ ∀ j, j < i → j < 3 ∨ (lexS xs bs p j).2 < bs.length

theorem LexN.one {xs : List OpR} {bs : List UInt8} {p i j : Nat} (h : LexN xs bs p i) (h' : LexN xs bs p j) : i = j := by
  rcases Nat.lt_trichotomy i j with e | e | e
  · have := h'.2.2 i e; have := h.1; have := h.2.1; omega
  · exact e
  · have := h.2.2 j e; have := h'.1; have := h'.2.1; omega

theorem wordN_size {xs : List OpR} (hx : ∀ i, i < xs.length → (atO xs i).s.size ≤ 1001) (bs : List UInt8) (p : Nat) : (wordN xs bs p).size ≤ 1001 := by
  have e1 : (⟨#[97, 49, 95, 98]⟩ : ByteArray).size = 4 := rfl
  have e2 : (⟨#[49, 48, 50, 55]⟩ : ByteArray).size = 4 := rfl
  unfold wordN
  split
  · rename_i h
    exact hx _ (Nat.mod_lt _ h.2)
  · split
    · decide
    · split
      · decide
      · split
        · rw [ByteArray.size_extract]; omega
        · split
          · have := txN_size (nxt bs p); omega
          · split
            · show 1 ≤ 1001; omega
            · rw [ByteArray.size_extract]; omega

theorem lexS_size {xs : List OpR} (hx : ∀ i, i < xs.length → (atO xs i).s.size ≤ 1001) (bs : List UInt8) (p : Nat) : ∀ i, (lexS xs bs p i).1.size ≤ 1003 * i
  | 0 => Nat.le_refl _
  | i + 1 => by
    have h1 := lexS_size hx bs p i
    have h2 := gapN_size (nxt bs (lexS xs bs p i).2)
    have h3 := wordN_size hx bs (adv bs (lexS xs bs p i).2)
    show ((lexS xs bs p i).1 ++ gapN (nxt bs (lexS xs bs p i).2) ++ wordN xs bs (adv bs (lexS xs bs p i).2)).size ≤ _
    rw [ByteArray.size_append, ByteArray.size_append]
    omega

theorem adv_ge (bs : List UInt8) (p : Nat) : p ≤ adv bs p := by unfold adv; split <;> omega
theorem adv_gt {bs : List UInt8} {p : Nat} (h : p < bs.length) : adv bs p = p + 1 := by unfold adv; rw [if_pos h]
theorem wordP_ge (xs : List OpR) (bs : List UInt8) (p : Nat) : p ≤ wordP xs bs p := by
  have h1 := adv_ge bs p
  have h2 := adv_ge bs (adv bs p)
  unfold wordP
  repeat' split
  all_goals omega

/-- Each word takes a number, as long as there are some. -/
theorem lexS_far (xs : List OpR) (bs : List UInt8) (p : Nat) (h : p ≤ bs.length) : ∀ i, (∀ j, j < i → j < 3 ∨ (lexS xs bs p j).2 < bs.length) → i ≤ 3 + (lexS xs bs p i).2
  | 0, _ => by omega
  | i + 1, hj => by
    have ih := lexS_far xs bs p h i (fun j hj' => hj j (by omega))
    have h2 := wordP_ge xs bs (adv bs (lexS xs bs p i).2)
    have h3 := adv_ge bs (lexS xs bs p i).2
    show i + 1 ≤ 3 + wordP xs bs (adv bs (lexS xs bs p i).2)
    rcases hj i (by omega) with h4 | h4
    · omega
    · have h5 := adv_gt h4
      omega

/-- What is drawn: the table and the place behind it. -/
def TabD (bs : List UInt8) (xs : List OpR) (q : Nat) : Prop :=
  ∃ ys p, TabTo bs (adv bs (adv bs 0)) (3 + nxt bs (adv bs 0) % 8) ys p ∧ ((nxt bs 0 % 16 = 15 ∧ xs = badT ys bs p ∧ q = badP ys bs p) ∨ (nxt bs 0 % 16 ≠ 15 ∧ xs = ys ∧ q = p))

theorem TabD.one {bs : List UInt8} {xs xs' : List OpR} {q q' : Nat} (h : TabD bs xs q) (h' : TabD bs xs' q') : xs = xs' ∧ q = q' := by
  obtain ⟨ys, p, ht, hc⟩ := h
  obtain ⟨ys', p', ht', hc'⟩ := h'
  obtain ⟨rfl, rfl⟩ := ht.one ht'
  rcases hc with ⟨h, rfl, rfl⟩ | ⟨h, rfl, rfl⟩ <;> rcases hc' with ⟨h', rfl, rfl⟩ | ⟨h', rfl, rfl⟩
  · exact ⟨rfl, rfl⟩
  · exact absurd h h'
  · exact absurd h' h
  · exact ⟨rfl, rfl⟩

/-- Blanks up to a length. -/
def padTo (s : ByteArray) (n : Nat) : ByteArray := ⟨(s.data.toList ++ List.replicate (n - s.size) (32 : UInt8)).toArray⟩

/-- What DrawLex draws. -/
def LexD (bs : List UInt8) (xs : List OpR) (s : ByteArray) : Prop :=
  ∃ q i, TabD bs xs q ∧ LexN xs bs q i ∧ s = if nxt bs 0 % 16 = 14 then padTo (lexS xs bs q i).1 (20000 + nxt bs 0 / 16 % 3 - 1) else (lexS xs bs q i).1

theorem LexD.one {bs : List UInt8} {xs xs' : List OpR} {s s' : ByteArray} (h : LexD bs xs s) (h' : LexD bs xs' s') : xs = xs' ∧ s = s' := by
  obtain ⟨q, i, ht, hn, hs⟩ := h
  obtain ⟨q', i', ht', hn', hs'⟩ := h'
  obtain ⟨rfl, rfl⟩ := ht.one ht'
  obtain rfl := hn.one hn'
  exact ⟨rfl, hs.trans hs'.symm⟩

/-- A drawn table is short, and its texts are. -/
theorem TabTo.len {bs : List UInt8} {p0 : Nat} : ∀ {k : Nat} {xs : List OpR} {p : Nat}, TabTo bs p0 k xs p → xs.length ≤ k ∧ ∀ i, i < xs.length → (atO xs i).s.size ≤ 16
  | 0, xs, p, h => by
    obtain ⟨rfl, _⟩ := h
    exact ⟨Nat.zero_le _, fun i hi => by simp at hi⟩
  | k + 1, xs, p, h => by
    obtain ⟨ys, q, ht, _, hc⟩ := h
    obtain ⟨h1, h2⟩ := ht.len
    rcases hc with ⟨_, rfl⟩ | ⟨_, rfl⟩
    · refine ⟨by simp; omega, fun i hi => ?_⟩
      by_cases e : i < ys.length
      · have : atO (ys ++ [drOp (nxt bs q) (nxt bs (adv bs q)) true]) i = atO ys i := by unfold atO; simp [List.getD, List.getElem?_append, e]
        rw [this]; exact h2 i e
      · have e2 : i = ys.length := by simp at hi; omega
        have : atO (ys ++ [drOp (nxt bs q) (nxt bs (adv bs q)) true]) i = drOp (nxt bs q) (nxt bs (adv bs q)) true := by unfold atO; simp [List.getD, e2]
        rw [this]
        show (txN _).size ≤ 16
        have := txN_size (nxt bs (adv bs q))
        omega
    · exact ⟨by omega, h2⟩
end Go.Proofs.YtfboipappaonhaaGreat

/-
  Spoilt tables, together.
-/
namespace Go.Proofs.YtfboipappaonhaaGreat
set_option maxRecDepth 100000
set_option linter.unusedSimpArgs false
set_option linter.unusedVariables false
open Go.RowKit

theorem l1Spoil_any (rp cap p g c : Nat) (a : Option Addr) (bs : List UInt8) (xs : List OpR) (w : World) (h : RdS w rp a cap bs p) (hl : bs.length ≤ 1200) (hm : xs.length ≤ 10) (hx : Filled w g xs xs.length) (hne : rp < g) (hsx : ∀ i, i < xs.length → (atO xs i).s.size ≤ 1000) :
    Calls Tryz.prog 62 #[.pointer (some ⟨rp, 0, none⟩), .agg #[.slice (some ⟨g, 0, none⟩) xs.length c]] w fun e w' => (∃ g' c', e = .returned (.agg #[.slice (some ⟨g', 0, none⟩) (badT xs bs p).length c']) ∧ (g' = g ∨ w.heap.size ≤ g') ∧ Filled w' g' (badT xs bs p) (badT xs bs p).length) ∧ Hid (RdS w' rp a cap bs (badP xs bs p)) ∧ Hid (KeptRG w w' rp g) := by
  by_cases hb : nxt bs p % 8 = 7 ∨ xs.length = 0
  · exact l1SpoilBig_any rp cap p g c a bs xs w h hl hm hx hne hb
  · exact l1SpoilOne_any rp cap p g c a bs xs w h hl hm hx hne hb hsx

theorem bad_sized {xs : List OpR} (hx : ∀ i, i < xs.length → (atO xs i).s.size ≤ 16) (bs : List UInt8) (p : Nat) : (badT xs bs p).length ≤ 501 + xs.length ∧ ∀ i, i < (badT xs bs p).length → (atO (badT xs bs p) i).s.size ≤ 1001 := by
  unfold badT
  split
  · rw [bigTo_len]
    refine ⟨by omega, fun i hi => ?_⟩
    have : atO (bigTo (nxt bs (adv bs p)) (500 + nxt bs (adv bs p) % 2)) i = bigOp (nxt bs (adv bs p)) i := by
      unfold atO bigTo; simp [List.getD, hi]
    rw [this]
    show 3 ≤ 1001
    omega
  · rw [List.length_set]
    refine ⟨by omega, fun i hi => ?_⟩
    by_cases e : i = nxt bs (adv bs p) % xs.length
    · have : ∀ o, atO (xs.set (nxt bs (adv bs p) % xs.length) o) i = o := fun o => by subst e; unfold atO; simp [List.getD, hi]
      rw [this]
      have hi' := hx i hi
      rw [e] at hi'
      unfold badOp
      split
      · show (ByteArray.extract _ _ _).size ≤ 1001
        rw [ByteArray.size_extract]; omega
      · split
        · show (_ ++ _ : ByteArray).size ≤ 1001
          rw [ByteArray.size_append]
          show _ + 1 ≤ 1001
          omega
        · split
          · show 0 ≤ 1001; omega
          · split
            · show (atO xs _).s.size ≤ 1001; omega
            · split
              · show (atO xs _).s.size ≤ 1001; omega
              · split
                · show (atO xs _).s.size ≤ 1001; omega
                · show (txN _).size ≤ 1001
                  have := txN_size (nxt bs (adv bs (adv bs (adv bs p))))
                  omega
    · have : ∀ o, atO (xs.set (nxt bs (adv bs p) % xs.length) o) i = atO xs i := fun o => by unfold atO; simp [List.getD, List.getElem?_set, Ne.symm e]
      rw [this]
      have := hx i hi
      omega

def lenV : Value → Nat
  | .slice _ n _ => n
  | _ => 0

theorem rdOf_len (l : List UInt8) : (rdOf l).length ≤ 1200 := by unfold rdOf; simp; omega

end Go.Proofs.YtfboipappaonhaaGreat
