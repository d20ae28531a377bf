import Derived.Maps.AppendAt
import Derived.Deep.MidRow
import Derived.Deep.DeepCutAuto
import Derived.Test.YtokabkhnidlcnabGreatR08
import Derived.Test.YtokabkhnidlcnabGreatS00
import Derived.Test.YtokabkhnidlcnabGreatS01
import Derived.Test.YtokabkhnidlcnabGreatS02

/-
  A row of bytes made of a text, and one byte put behind it.
-/
namespace Go.Proofs.YtokabkhnidlcnabGreat
set_option maxRecDepth 100000
set_option linter.unusedSimpArgs false
set_option linter.unusedVariables false
open Go.RowKit

/-- A row of bytes that belongs to the call: its cells may be written, up to its capacity. -/
def RowY (w : World) (B : Nat) (v : Value) (l : List UInt8) : Prop :=
  ∃ g cap, v = .slice (some ⟨g, 0, none⟩) l.length cap ∧ B ≤ g ∧ g < w.heap.size ∧ l.length ≤ cap ∧ cap ≤ maxLen ∧ (∀ j, j < cap → (w.cell? ⟨g, j, none⟩).isSome = true ∧ w.frozen? ⟨g, j, none⟩ = false) ∧ ∀ j u, (cellsB l)[j]? = some u → w.cell? ⟨g, j, none⟩ = some u

theorem RowY.below {w w' : World} {B : Nat} {v : Value} {l : List UInt8} (h : RowY w B v l) (hb : Below w.heap.size w w') : RowY w' B v l := by
  obtain ⟨g, cap, rfl, h1, h2, h3, h4, h5, h6⟩ := h
  refine ⟨g, cap, rfl, h1, Nat.lt_of_lt_of_le h2 hb.size, h3, h4, fun j hj => ?_, fun j u hj => (hb.cell (p := ⟨g, j, none⟩) h2).trans (h6 j u hj)⟩
  have c := hb.cell (p := ⟨g, j, none⟩) h2
  have f := hb.frozen (p := ⟨g, j, none⟩) h2
  exact ⟨by rw [c]; exact (h5 j hj).1, by rw [f]; exact (h5 j hj).2⟩

/-- '[]byte(s)', as a row of its own. -/
theorem conv_row (W : World) (s : ByteArray) (hs : s.size ≤ 100000000) : ∃ (v : Value) (W' : World), (convert 9 87 (.string s)).run Tryz.prog W = .ok v W' ∧ RowY W' W.heap.size v s.data.toList ∧ Below W.heap.size W W' := by
  have hr := run_bytes_of_string (P := Tryz.prog) W 9 87 5 s Tryz.underlying9 Tryz.underlying87 Tryz.underlying5
  have hsl : s.data.toList.length = s.size := by simp
  have hge := grownCap_ge W s.size 0 5
  have hnew := heap_alloc_new W.drew (.cells (bytesRow s (grownCap W s.size 0 5)) 5 ((bytesRow s (grownCap W s.size 0 5)).size, (bytesRow s (grownCap W s.size 0 5)).size + 1))
  have hsz : (bytesRow s (grownCap W s.size 0 5)).size = grownCap W s.size 0 5 := by
    unfold bytesRow
    simp
    have : s.data.size = s.size := rfl
    omega
  refine ⟨_, _, hr, ⟨W.heap.size, grownCap W s.size 0 5, by rw [hsl], Nat.le_refl _, by simp, by rw [hsl]; exact hge, grownCap_le_maxLen W s.size 0 5 (by unfold maxLen; omega), fun j hj => ⟨?_, ?_⟩, fun j u hj => ?_⟩, (Below.refl _ _).drew.alloc (Nat.le_refl _) _⟩
  · rw [cell_of_row _ W.heap.size j _ 5 _ hnew]
    simp [hsz, hj]
  · have hn : (W.drew.alloc (.cells (bytesRow s (grownCap W s.size 0 5)) 5 ((bytesRow s (grownCap W s.size 0 5)).size, (bytesRow s (grownCap W s.size 0 5)).size + 1))).heap[W.heap.size]? = _ := hnew
    unfold World.frozen?
    simp only [hn]
    rw [hsz]
    simp
    omega
  · rw [cell_of_row _ W.heap.size j _ 5 _ hnew]
    have hlt : j < s.data.size := by
      have := (List.getElem?_eq_some_iff.1 hj).1
      rw [cellsB_len] at this
      simpa using this
    rw [bytesRow_at s _ j hlt]
    simp [cellsB] at hj
    obtain ⟨x, hx, rfl⟩ := hj
    rw [Array.getElem?_eq_getElem hlt] at hx
    injection hx with hx
    subst hx
    rfl

/-- One byte behind it. -/
theorem run_app1 (w : World) (ty : TypeId) (B : Nat) (v : Value) (l : List UInt8) (b : UInt8) (h : RowY w B v l) (hB : B ≤ w.heap.size) (ad : Addr) (hx : w.cell? (ad.add 0) = some (.int .u8 (b.toNat : Int))) (hl : l.length ≤ 1000000) :
    ∃ v' w', (Builtin.append_ #[87, 87] ty #[v, .slice (some ad) 1 1]).run Tryz.prog w = .ok v' w' ∧ RowY w' B v' (l ++ [b]) ∧ Below B w w' := by
  obtain ⟨g, cap, rfl, h1, h2, h3, h4, h5, h6⟩ := h
  obtain ⟨i, hi, hz⟩ := Option.map_eq_some_iff.1 infoByte
  simp only [Prod.mk.injEq] at hz
  obtain ⟨hz0, hz1, hz2⟩ := hz
  have hnews : ∀ j u, ([.int .u8 (b.toNat : Int)] : List Value)[j]? = some u → w.cell? (ad.add j) = some u := fun j u hj => by
    match j, hj with
    | 0, hj => simp at hj; subst hj; exact hx
  have hbl : (l ++ [b]).length = l.length + 1 := by simp
  by_cases hroom : l.length + 1 ≤ cap
  · have hf := run_firstCells_some (P := Tryz.prog) w i.size 1 ad 1 1 [.int .u8 (b.toNat : Int)] (by rw [hz1]; rfl) hnews
    obtain ⟨c1, c2⟩ := h5 l.length (by omega)
    obtain ⟨u0, hu0⟩ := Option.isSome_iff_exists.1 c1
    have hadd : (⟨g, l.length, none⟩ : Addr).add 0 = ⟨g, l.length, none⟩ := by unfold Addr.add; split <;> simp_all
    have hst : (storeCells ⟨g, l.length, none⟩ [.int .u8 (b.toNat : Int)] 0).run Tryz.prog w = .ok () (w.setCell ⟨g, l.length, none⟩ (.int .u8 (b.toNat : Int))) := by
      simp only [storeCells, Sem.run_bind]
      rw [hadd, run_store Tryz.prog w _ _ _ rfl, hu0]
      simp [c2]
    refine ⟨.slice (some ⟨g, 0, none⟩) (l.length + 1) cap, w.setCell ⟨g, l.length, none⟩ (.int .u8 (b.toNat : Int)), ?_, ?_, (Below.refl _ _).setCell (by simpa using h1) _⟩
    · rw [hz1] at hf
      simp [Builtin.append_, run_underlying Tryz.underlying87, sizeOf, typeInfo, hi, hz1, Builtin.lenOf, hroom, hf, Addr.add_lit, hst]
    · refine ⟨g, cap, by rw [hbl], h1, by simpa [World.setCell] using h2, by rw [hbl]; exact hroom, h4, fun j hj => ?_, fun j u hj => ?_⟩
      · refine ⟨?_, (World.frozen?_setCell _ _ _ _).trans (h5 j hj).2⟩
        by_cases e : j = l.length
        · subst e; rw [World.cell?_setCell_same _ _ _ hu0]; rfl
        · rw [World.cell?_setCell_other _ _ _ _ (fun x => e (by injection x with _ x; exact x.symm))]; exact (h5 j hj).1
      · rw [cellsB_append] at hj
        by_cases e : j = l.length
        · subst e
          rw [World.cell?_setCell_same _ _ _ hu0]
          rw [List.getElem?_append_right (by rw [cellsB_len]; exact Nat.le_refl _), cellsB_len, Nat.sub_self] at hj
          simpa [cellsB] using hj
        · rw [World.cell?_setCell_other _ _ _ _ (fun x => e (by injection x with _ x; exact x.symm))]
          apply h6
          have hjl : j < l.length + 1 := by
            have := (List.getElem?_eq_some_iff.1 hj).1
            simpa [cellsB_len] using this
          rw [List.getElem?_append_left (by rw [cellsB_len]; omega)] at hj
          exact hj
  · have holds : ∀ j u, (cellsB l)[j]? = some u → w.cell? ((⟨g, 0, none⟩ : Addr).add j) = some u := fun j u hj => by
      rw [Addr.add_mid, Nat.zero_add]; exact h6 j u hj
    have hr := run_append_grow (P := Tryz.prog) w 87 ty 5 i _ Tryz.underlying87 hi hz0 ⟨g, 0, none⟩ l.length cap (cellsB l) (by rw [cellsB_len, hz1, Nat.mul_one]) holds ad 1 1 [.int .u8 (b.toNat : Int)] (by rw [hz1]; rfl) hnews (by omega) (by omega) (growslice_fits (by omega) (by rw [hz2]; omega))
    have hge := grownCap_ge w (l.length + 1) cap 5
    have hnew := heap_alloc_new w.drew (.cells ((cellsB l).toArray ++ [Value.int .u8 (b.toNat : Int)].toArray ++ Builtin.zeroCells (Value.int .u8 0).cells (grownCap w (l.length + 1) cap 5 - (l.length + 1))) 5)
    refine ⟨_, _, hr, ⟨w.heap.size, grownCap w (l.length + 1) cap 5, by rw [hbl], hB, by simp, by rw [hbl]; exact hge, grownCap_le_maxLen w (l.length + 1) cap 5 (by unfold maxLen; omega), fun j hj => ⟨?_, frozen_of_row _ _ _ _ _ hnew⟩, fun j u hj => ?_⟩, ((Below.refl _ _).drew.alloc (Nat.le_refl _) _).mono hB⟩
    · rw [cell_of_row _ w.heap.size j _ 5 _ hnew]
      have : j < ((cellsB l).toArray ++ [Value.int .u8 (b.toNat : Int)].toArray ++ Builtin.zeroCells (Value.int .u8 0).cells (grownCap w (l.length + 1) cap 5 - (l.length + 1))).size := by
        simp [size_zeroCells, cellsB_len, Value.cells]
        omega
      rw [Array.getElem?_eq_getElem this]
      rfl
    · rw [cell_of_row _ w.heap.size j _ 5 _ hnew]
      rw [cellsB_append] at hj
      have hjl : j < l.length + 1 := by
        have := (List.getElem?_eq_some_iff.1 hj).1
        simpa [cellsB_len] using this
      rw [Array.getElem?_append_left (by simp [cellsB_len]; omega)]
      have e : (cellsB l).toArray ++ [Value.int .u8 (b.toNat : Int)].toArray = (cellsB l ++ cellsB [b]).toArray := by simp [cellsB]
      rw [e]
      simpa using hj

theorem wpList_app1 {ops : Array Oper} {rest : List Oper} {o : Oper} {a : Act} {Q : Exit → Act → World → Prop} {w : World} (hgd : o.guard = none) (s x : Operand)
    (ho : o.op = .call { callee := .builtin .append, args := #[s, x], argTypes := #[87, 87] })
    (B : Nat) (v : Value) (l : List UInt8) (b : UInt8) (hs : a.eval s = v) (hown : RowY w B v l) (hB : B ≤ w.heap.size) (ad : Addr) (hx : a.eval x = .slice (some ad) 1 1) (hc : w.cell? (ad.add 0) = some (.int .u8 (b.toNat : Int))) (hl : l.length ≤ 1000000)
    (h : ∀ v' w', RowY w' B v' (l ++ [b]) → Below B w w' → wpList Tryz.prog ops Q rest (a.put o.dst v') w') : wpList Tryz.prog ops Q (o :: rest) a w := by
  refine wpList_plain hgd fun K hK => ?_
  obtain ⟨v', w', hr, h2, h3⟩ := run_app1 w o.type B v l b hown hB ad hc hl
  unfold Oper.wp execOp
  simp only [ho, resolve, invoke, builtin, Sem.run_bind, Sem.run_pure, Result.andThen_ok, List.map_toArray, List.map_cons, List.map_nil, hs, hx, hr]
  exact hK _ _ (h v' w' h2 h3)
end Go.Proofs.YtokabkhnidlcnabGreat

/-
  Walks: the specification's words of a tree, at every tree; its Print.
-/
namespace Go.Proofs.YtokabkhnidlcnabGreat
set_option maxRecDepth 100000
set_option linter.unusedSimpArgs false
set_option linter.unusedVariables false
open Go.RowKit
open Go.Deep (BT)

theorem yT_len (T : ET) : (yT T).length = (ySy T).length := by simp [yT]

theorem l4Yield_any (bz offz cz : Nat) (ns : List OpR) (zs : List NodeR) (B : Nat) (hbz : bz < B) (hzl : zs.length ≤ 20000) : ∀ (T : ET), WellT ns T → ∀ (s : Nat) (us vs : List WordR), Lies zs T s → s + tsz T ≤ zs.length → us.length + (ySy T).length ≤ 90000 → vs = us ++ yT T → YRec bz offz cz zs B (s + tsz T - 1) us vs := by
  intro T
  induction T with
  | nil => intro h; exact h.elim
  | node b o t l r ihl ihr =>
    rintro ⟨rfl, h⟩ s us vs ⟨h1, h2, h3⟩ hz hlen hvs
    simp only [tsz] at hz
    have e : s + tsz (.node b 0 t l r) - 1 = s + tsz l + tsz r := by simp only [tsz]; omega
    rw [e]
    intro u W hW hB hrow
    have hcell : ∀ ja jb : Nat, (if kids (b : Int) = 0 then (0 : Int) else ((s + tsz l : Nat) : Int) - 1) = (ja : Int) → (if kids (b : Int) = 2 then ((s + tsz l + tsz r : Nat) : Int) - 1 else 0) = (jb : Int) → atN zs (s + tsz l + tsz r) = ⟨(b : Int), t, (ja : Int), (jb : Int)⟩ := fun ja jb ha hb => by
      rw [h3, tN, ha, hb]
    rcases h with ⟨h12, rfl, rfl⟩ | ⟨rfl, rfl, hl, rfl⟩ | ⟨h35, hk, hl, rfl⟩ | ⟨rfl, hk, hl, hr⟩
    · have hk0 : kids (b : Int) = 0 := by rcases h12 with h | h <;> subst h <;> decide
      refine ly_any bz offz cz _ zs (b : Int) t 0 0 B u us vs W hW hbz hB hrow (by simp only [tsz] at hz ⊢; omega) hzl (hcell 0 0 (by rw [if_pos hk0]; rfl) (by rw [if_neg (by omega)]; rfl)) (by omega) (Or.inl ⟨hk0, ?_⟩)
      rw [hvs]
      have : yT (.node b 0 t .nil .nil) = [⟨t, false, false⟩] := by
        simp only [yT, ySy]
        rw [if_neg (by omega), if_neg (by omega), if_neg (by omega), if_neg (by omega)]
        simp [wS]
        omega
      rw [this]
    · have hp := hl.sh.pos
      have hy : yT (.node 6 0 ByteArray.empty l .nil) = ⟨opn, false, false⟩ :: (yT l ++ [⟨cls1, false, false⟩]) := by simp [yT, ySy, wS]
      have hy2 : (ySy (.node 6 0 ByteArray.empty l .nil)).length = (ySy l).length + 2 := by simp [ySy]
      rw [hy2] at hlen
      refine ly_any bz offz cz _ zs 6 ByteArray.empty (s + tsz l - 1) 0 B u us vs W hW hbz hB hrow (by simp only [tsz] at hz ⊢; omega) hzl (hcell _ 0 (by rw [if_neg (by decide)]; omega) (by rw [if_neg (by decide)]; rfl)) (by omega) (Or.inr (Or.inr (Or.inl ⟨rfl, us ++ [⟨opn, false, false⟩], us ++ [⟨opn, false, false⟩] ++ yT l, rfl, ihl hl s _ _ h1 (by omega) (by simp; omega) rfl, ?_, ?_⟩)))
      · rw [hvs, hy]; simp
      · simp [yT_len]; omega
    · have hp := hl.sh.pos
      rcases h35 with rfl | rfl
      · have hy : yT (.node 3 0 t l .nil) = ⟨t, true, false⟩ :: yT l := by simp [yT, ySy, wS]
        have hy2 : (ySy (.node 3 0 t l .nil)).length = (ySy l).length + 1 := by simp [ySy]
        rw [hy2] at hlen
        refine ly_any bz offz cz _ zs 3 t (s + tsz l - 1) 0 B u us vs W hW hbz hB hrow (by simp only [tsz] at hz ⊢; omega) hzl (hcell _ 0 (by rw [if_neg (by decide)]; omega) (by rw [if_neg (by decide)]; rfl)) (by omega) (Or.inr (Or.inl ⟨rfl, us ++ [⟨t, true, false⟩], rfl, ihl hl s _ _ h1 (by omega) (by simp; omega) ?_⟩))
        rw [hvs, hy]; simp
      · have hy : yT (.node 5 0 t l .nil) = yT l ++ [⟨t, true, false⟩] := by simp [yT, ySy, wS]
        have hy2 : (ySy (.node 5 0 t l .nil)).length = (ySy l).length + 1 := by simp [ySy]
        rw [hy2] at hlen
        refine ly_any bz offz cz _ zs 5 t (s + tsz l - 1) 0 B u us vs W hW hbz hB hrow (by simp only [tsz] at hz ⊢; omega) hzl (hcell _ 0 (by rw [if_neg (by decide)]; omega) (by rw [if_neg (by decide)]; rfl)) (by omega) (Or.inr (Or.inr (Or.inr (Or.inl ⟨rfl, us ++ yT l, ihl hl s _ _ h1 (by omega) (by omega) rfl, ?_, ?_⟩))))
        · rw [hvs, hy]; simp
        · simp [yT_len]; omega
    · have hp := hl.sh.pos
      have hq := hr.sh.pos
      have hy : yT (.node 4 0 t l r) = yT l ++ (⟨t, true, true⟩ :: yT r) := by simp [yT, ySy, wS]
      have hy2 : (ySy (.node 4 0 t l r)).length = (ySy l).length + (ySy r).length + 1 := by simp [ySy]; omega
      rw [hy2] at hlen
      refine ly_any bz offz cz _ zs 4 t (s + tsz l - 1) (s + tsz l + tsz r - 1) B u us vs W hW hbz hB hrow (by omega) hzl (hcell _ _ (by rw [if_neg (by decide)]; omega) (by rw [if_pos (by decide)]; omega)) (by omega) (Or.inr (Or.inr (Or.inr (Or.inr ⟨rfl, us ++ yT l, us ++ yT l ++ [⟨t, true, true⟩], ihl hl s _ _ h1 (by omega) (by omega) rfl, rfl, ihr hr (s + tsz l) _ _ h2 (by omega) (by simp [yT_len]; omega) ?_, ?_⟩))))
      · rw [hvs, hy]; simp
      · simp [yT_len]; omega
end Go.Proofs.YtokabkhnidlcnabGreat

/-
  Walk: the specification's Print.
-/
namespace Go.Proofs.YtokabkhnidlcnabGreat
set_option maxRecDepth 100000
set_option linter.unusedSimpArgs false
set_option linter.unusedVariables false
open Go.RowKit

theorem new_newsY (w : World) (c : UInt8) : ∀ j u, (cellsB [c])[j]? = some u → (w.alloc (.cells #[.int .u8 (c.toNat : Int)] 5)).cell? ((⟨w.heap.size, 0, none⟩ : Addr).add j) = some u := by
  intro j u hj
  rw [Addr.add_mid]
  have := World.rangeAt_of_block (w := w.alloc (.cells #[.int .u8 (c.toNat : Int)] 5)) (b := w.heap.size) (heap_alloc_new w _) 0 1
  exact this j u (by simpa [cellsB] using hj)

/-- A blank stands in front of word k. -/
def gapK (ws : List WordR) (k : Nat) : Bool := decide (k ≠ 0) && gapW (atW ws (k - 1)) (atW ws k)

theorem txTo_gap (ws : List WordR) (k : Nat) : txTo ws (k + 1) = (txTo ws k ++ (if gapK ws k then [32] else [])) ++ (atW ws k).t.data.toList := by
  simp only [txTo, gapK, ne_eq, Bool.and_eq_true, decide_eq_true_eq, decide_not, Bool.not_eq_true', decide_eq_false_iff_not, List.append_assoc]

set_option maxHeartbeats 4000000 in
theorem specPrint_any (b off cap bn offn cn : Nat) (ns : List OpR) (xs : List NodeR) (w : World) (hm : ns.length ≤ 1048576) (hmn : xs.length ≤ 1048576) (hw : Ops w b off ns) (hsz : Sized ns) (hB : b < w.heap.size) (hwn : OpsN w bn offn xs) (hsn : SizedN xs) (hBn : bn < w.heap.size) :
    Calls Tryz.prog 16 #[.agg #[.slice (some ⟨b, off, none⟩) ns.length cap], .agg #[.slice (some ⟨bn, offn, none⟩) xs.length cn]] w fun e w' => (∃ (s : ByteArray) (v : Bool), e = .returned (.tuple #[.string s, .bool v]) ∧ Hid (PrintIs ns xs s v)) ∧ Below w.heap.size w w' := by
  obtain ⟨i0, hi, hz0, hz1, hz2⟩ := info_parts infoByte
  have HI := hide hi
  have HZB := hide (And.intro hz0 (And.intro hz1 hz2))
  clear hi hz0 hz1 hz2
  have HW := hide hw
  have HWN := hide hwn
  have HZ := hide hsz
  have HZN := hide hsn
  have HB0 := hide (show ∀ o1 o2 : Obj, Below w.heap.size w ((w.alloc o1).alloc o2) from fun o1 o2 => (below1 w o1).alloc (by simp) o2)
  clear hw hwn hsz hsn
  go_enter Tryz.func16, Tryz.ntmps16
  go_wp2_with fail
  refine (specGroup_any b off cap bn offn cn ns xs _ hm hmn ((unhide HW).below ((unhide HB0) _ _) hB) (unhide HZ) (by simp; omega) ((unhide HWN).below ((unhide HB0) _ _) hBn) (unhide HZN) (by simp; omega)).mono ?_
  rintro e w1 ⟨⟨a, c, us, v, rfl, hown, hgi⟩, hb1⟩
  have bel1 : Below w.heap.size w w1 := ((unhide HB0) _ _).trans (hb1.mono (by simp; omega))
  clear hb1 HB0 HW HWN
  rcases unhide hgi with ⟨hy, rfl, hus⟩ | ⟨hn, rfl, rfl⟩
  case inr =>
    have HN := hide hn
    clear hn hgi hown
    go_wp2_with fail
    go_ret2
    exact ⟨⟨_, _, rfl, hide (Or.inr ⟨unhide HN, rfl, rfl⟩)⟩, bel1.alloc bel1.size _⟩
  case inl =>
    obtain ⟨G, hG, hgood, htx, hz20, hgs, hfs⟩ := print_tree hy
    have hus2 : us = nd G 0 := hus.trans hgs
    have hul : us.length = tsz G := by rw [hus2, nd_len]
    have hgp := hgood.sh.pos
    obtain ⟨g2, rfl, hg2, hfil⟩ : ∃ g, a = some ⟨g, 0, none⟩ ∧ w.heap.size + 2 ≤ g ∧ FilledN w1 g us us.length := by
      rcases unhide hown with ⟨h, _⟩ | ⟨g, h1, h2, h3⟩
      · omega
      · exact ⟨g, h1, by simpa using h2, h3⟩
    have hgl := hfil.1
    have hul1 : 1 ≤ us.length := by omega
    have hul2 : us.length ≤ 20000 := by omega
    have ei : (us.length : Int) - 1 = ((us.length - 1 : Nat) : Int) := by omega
    obtain ⟨W3, HW3⟩ : ∃ W3, Hid (W3 = (w1.alloc (.cells #[.slice (some ⟨g2, 0, none⟩) us.length c] 28)).alloc (.cells #[] 89)) := ⟨_, hide rfl⟩
    have hb3 : Below w1.heap.size w1 W3 := by rw [unhide HW3]; exact (below1 _ _).alloc (by simp) _
    have s3 : W3.heap.size = w1.heap.size + 2 := by rw [unhide HW3]; simp
    have bel3 := bel1.trans (hb3.mono bel1.size)
    have HR3 := hide (show RowW W3 (w1.heap.size + 1) (.slice (some ⟨w1.heap.size + 1, 0, none⟩) 0 0) [] by
      rw [unhide HW3]
      have := World.ownsRow_lit (base := w1.heap.size + 1) (e := 89) (size := 3) (w1.alloc (.cells #[.slice (some ⟨g2, 0, none⟩) us.length c] 28)) #[] 0 (by simp) (Nat.zero_le _) rfl
      simpa [RowW, cellsW] using this)
    have hyl := ySy_le G
    have hrec := l4Yield_any g2 0 c ns us (w1.heap.size + 1) (by omega) hul2 G hgood.well 0 [] (yT G) (by rw [hus2]; exact lies_self G) (by omega) (by simp; omega) (by simp)
    rw [Nat.zero_add, ← hul] at hrec
    have HCALL := hide (hrec (.slice (some ⟨w1.heap.size + 1, 0, none⟩) 0 0) W3 (hfil.ops.below hb3 hgl) (by omega) (unhide HR3))
    rw [unhide HW3] at HCALL
    obtain ⟨ws, HWS⟩ : ∃ ws, Hid (ws = yT G) := ⟨_, hide rfl⟩
    rw [← unhide HWS] at HCALL
    have hwl : ws.length ≤ 40000 := by rw [unhide HWS, yT_len]; omega
    have hwp : 1 ≤ ws.length := by rw [unhide HWS]; exact yT_pos hgood.sh
    have HTX := hide (show (⟨(txT (grT ns (treeOf xs) 0)).toArray⟩ : ByteArray) = ⟨(txTo ws ws.length).toArray⟩ by rw [← hG, unhide HWS]; rfl)
    have HTL := hide (show ∀ k, k ≤ ws.length → (txTo ws k).length ≤ 20001 * k from txTo_len ws (fun x hx => by
      rw [unhide HWS] at hx
      simp only [yT, List.mem_map] at hx
      obtain ⟨q, hq, rfl⟩ := hx
      exact txB_words G htx q hq))
    have HTS := hide (show ∀ k, k < ws.length → (atW ws k).t.size ≤ 20000 from fun k hk => by
      have hx : atW ws k ∈ ws := by simp [atW, List.getD, hk]
      rw [unhide HWS] at hx
      simp only [yT, List.mem_map] at hx
      obtain ⟨q, hq, e⟩ := hx
      have e' : wS q = atW ws k := by rw [unhide HWS]; exact e
      rw [← e']
      exact txB_words G htx q hq)
    have HY := hide hy
    clear hy hgi hown hG hgood htx hz20 hgs hfs hus hus2 hul hgp hfil hyl hrec HR3
    go_wp2_with fail
    refine (unhide HCALL).mono ?_
    rw [← unhide HW3]
    rintro x w4 ⟨u', rfl, hr, hg, ho⟩
    obtain ⟨g4, c4, rfl⟩ : ∃ g k, u' = .slice (some ⟨g, 0, none⟩) ws.length k := by
      obtain ⟨_, ⟨rfl, h0⟩ | ⟨g, cap, cur, h, _⟩⟩ := unhide hr
      · omega
      · exact ⟨_, _, h⟩
    have HOW := hide (unhide hr).ops
    have hg4 := ((unhide hr).lt g4 rfl).2
    have bel4 : Below w.heap.size w w4 := bel3.trans ⟨(unhide hg).os, (unhide hg).tape, (unhide hg).output, (unhide hg).size, fun i hi => (unhide hg).block i (by have := bel3.size; omega) (by simp [Value.ownBlock]; have := bel1.size; omega)⟩
    clear hr hg ho HCALL HW3 bel3 hb3 s3
    have HO := hide (show (w4.alloc (.cells #[] 5)).ownsRow w4.heap.size 5 1 (.slice (some ⟨w4.heap.size, 0, none⟩) 0 0) 0 (cellsB (txTo ws 0)) by
      show (w4.alloc (.cells #[] 5)).ownsRow w4.heap.size 5 1 (.slice (some ⟨w4.heap.size, 0, none⟩) 0 0) 0 []
      simpa using World.ownsRow_lit (base := w4.heap.size) (e := 5) (size := 1) w4 #[] 0 (Nat.le_refl _) (Nat.zero_le _) rfl)
    go_wp2
    go_loopw [9, 10] (fun out i wr => ∃ (k go co n : Nat), k ≤ ws.length ∧ i = .int .i64 (k : Int) ∧ out = .slice (some ⟨go, 0, none⟩) n co ∧ Hid (n = (txTo ws k).length) ∧ Hid (wr.ownsRow w4.heap.size 5 1 (.slice (some ⟨go, 0, none⟩) n co) n (cellsB (txTo ws k))) ∧ Below w4.heap.size w4 wr) (fun _ i _ => ws.length - (intOf i).toNat)
    case atStart => exact ⟨0, w4.heap.size, 0, 0, Nat.zero_le _, rfl, rfl, hide rfl, HO, below1 _ _⟩
    case round =>
      clear HO
      obtain ⟨k, go, co, n, hk, rfl, rfl, hn, hown, hbel⟩ := hrel
      by_cases hlt : k < ws.length
      · obtain ⟨x0, x1, x2⟩ := ((unhide HOW).below hbel hg4) k hlt
        have hkI : (k : Int) < (ws.length : Int) := by omega
        obtain ⟨xt, hxt⟩ : ∃ xt, xt = (atW ws k).t := ⟨_, rfl⟩
        obtain ⟨xo, hxo⟩ : ∃ xo, xo = (atW ws k).o := ⟨_, rfl⟩
        obtain ⟨xi, hxi⟩ : ∃ xi, xi = (atW ws k).i := ⟨_, rfl⟩
        obtain ⟨yo, hyo⟩ : ∃ yo, yo = (atW ws (k - 1)).o := ⟨_, rfl⟩
        obtain ⟨yi, hyi⟩ : ∃ yi, yi = (atW ws (k - 1)).i := ⟨_, rfl⟩
        obtain ⟨gp, HGP⟩ : ∃ gp, Hid (gp = gapK ws k) := ⟨_, hide rfl⟩
        have HGQ := hide (show gp = (decide (k ≠ 0) && (xi || yi || (xo && yo))) by rw [unhide HGP, gapK, gapW, hxo, hxi, hyo, hyi])
        rw [← hxt] at x0
        rw [← hxo] at x1
        rw [← hxi] at x2
        have HPV := hide (show k ≠ 0 → wr.cell? ⟨g4, (k - 1) * 3 + 1, none⟩ = some (.bool yo) ∧ wr.cell? ⟨g4, (k - 1) * 3 + 2, none⟩ = some (.bool yi) from fun h => by
          obtain ⟨_, y1, y2⟩ := ((unhide HOW).below hbel hg4) (k - 1) (by omega)
          rw [hyo, hyi]
          exact ⟨y1, y2⟩)
        have hts : xt.size ≤ 20000 := by rw [hxt]; exact (unhide HTS) k hlt
        have HXT := hide hxt
        have htl := (unhide HTL) k (by omega)
        rw [← unhide hn] at htl
        have hnb : n ≤ 800040000 := by omega
        have hgw : g4 < wr.heap.size := Nat.lt_of_lt_of_le hg4 hbel.size
        clear hxt hxo hxi hyo hyi htl
        go_upto_region 10 with fail
        go_cut [64] (fun s64 wx => s64 = .bool gp ∧ wx = wr.alloc (.cells #[.string xt, .bool xo, .bool xi] 89))
        case first =>
          clear hown x0 x1 x2
          have fin : ∀ g : Bool, g = gp → Value.bool g = .bool gp := fun g h => by rw [h]
          have HF := hide fin
          clear fin
          by_cases hk0 : k = 0
          · have HE := hide (show false = gp by rw [unhide HGQ]; simp [hk0])
            have hkz : ¬ (0 : Int) < (k : Int) := by omega
            clear HPV HGQ HGP hk0
            go_wp2
            go_meet
            exact ⟨(unhide HF) _ (unhide HE), rfl⟩
          · obtain ⟨y1, y2⟩ := (unhide HPV) hk0
            have HE := hide (show (xi || yi || (xo && yo)) = gp by rw [unhide HGQ]; simp [hk0])
            have hkz : (0 : Int) < (k : Int) := by omega
            have hk1 : (k : Int) - 1 = ((k - 1 : Nat) : Int) := by omega
            have hk2 : ((k - 1 : Nat) : Int) < (ws.length : Int) := by omega
            have y1' := ((below1 wr (.cells #[.string xt, .bool xo, .bool xi] 89)).cell (p := ⟨g4, (k - 1) * 3 + 1, none⟩) hgw).trans y1
            have y2' := ((below1 wr (.cells #[.string xt, .bool xo, .bool xi] 89)).cell (p := ⟨g4, (k - 1) * 3 + 2, none⟩) hgw).trans y2
            clear HPV HGQ HGP hk0
            cases xi
            · cases yi
              · cases xo
                · go_wp2
                  go_meet
                  exact ⟨(unhide HF) _ (by rw [← unhide HE]; rfl), rfl⟩
                · go_wp2
                  go_meet
                  exact ⟨(unhide HF) _ (by rw [← unhide HE]; rfl), rfl⟩
              · go_wp2
                go_meet
                exact ⟨(unhide HF) _ (by rw [← unhide HE]; rfl), rfl⟩
            · go_wp2
              go_meet
              exact ⟨(unhide HF) _ (by rw [← unhide HE]; rfl), rfl⟩
        case rest =>
          obtain ⟨rfl, rfl⟩ := hcut
          have HB1 := hide (hbel.alloc hbel.size (.cells #[.string xt, .bool xo, .bool xi] 89))
          have HO1 := hide ((unhide hown).kept (grown_bel (below1 wr (.cells #[.string xt, .bool xo, .bool xi] 89)) none) (Or.inr (by simp [Value.ownBlock])))
          have HTX1 := hide (txTo_gap ws k)
          have hgo0 : go < wr.heap.size := ((unhide hown).lt go rfl).2
          clear hown HPV x0 x1 x2 HGQ
          cases gp
          · have HEQ := hide (show txTo ws (k + 1) = txTo ws k ++ xt.data.toList by rw [unhide HTX1, ← unhide HGP, ← unhide HXT]; simp)
            obtain ⟨c1, w6, hrun1, hnew1, hb6⟩ := conv_bytes (wr.alloc (.cells #[.string xt, .bool xo, .bool xi] 89)) xt
            have HN1 := hide hnew1
            have HO6 := hide ((unhide HO1).kept (grown_bel hb6 none) (Or.inr (by simp [Value.ownBlock])))
            have HB6 := hide ((unhide HB1).trans (hb6.mono (unhide HB1).size))
            have z6 := (unhide HB6).size
            clear hnew1 hb6 HO1 HB1
            go_wp2_with (at_builtin; refine wpList_append_own _ rfl (.tmp 68) (.tmp 71) 87 rfl w4.heap.size 5 i0 _ 1 1 Tryz.underlying87 (unhide HI) (unhide HZB).1 (unhide HZB).2.1 (unhide HZB).2.2 rfl (by decide) _ n (cellsB (txTo ws k)) rfl (unhide HO6) ⟨wr.heap.size + 1, 0, none⟩ xt.size c1 (cellsB xt.data.toList) rfl (by rw [cellsB_len]; simp) (by simpa using unhide HN1) (cellsB_one _) ?b1 ?b2 ?b3 ?next)
            case b1 => unfold maxLen; omega
            case b2 => omega
            case b3 => exact z6
            case next =>
              intro v7 w7 hown7 hgrow7 hnil7
              have hgo := (unhide HO6).lt go rfl
              have hbel7 : Below w4.heap.size w4 w7 := (unhide HB6).grown hgrow7 z6 (fun q hq => by simp [Value.ownBlock] at hq; omega)
              obtain ⟨g7, q7, rfl⟩ := owns_bval hown7 (by simp [hnil7])
              rw [← cellsB_append, ← unhide HEQ] at hown7
              have HO7 := hide hown7
              have HL7 := hide (show n + xt.size = (txTo ws (k + 1)).length by rw [unhide HEQ, List.length_append, ← unhide hn]; simp)
              clear hown7 hgrow7 hnil7 HN1 HO6 HB6 hrun1
              go_wp2
              exact ⟨⟨k + 1, g7, q7, _, by omega, by go_num, rfl, HL7, HO7, hbel7⟩, by simp [intOf]; omega⟩
          · obtain ⟨tk, HTK⟩ : ∃ tk, Hid (tk = txTo ws k ++ [32]) := ⟨_, hide rfl⟩
            have HEQ := hide (show txTo ws (k + 1) = tk ++ xt.data.toList by rw [unhide HTX1, ← unhide HGP, ← unhide HXT, unhide HTK]; simp)
            have ht1 : tk.length ≤ 800040001 := by rw [unhide HTK, List.length_append, ← unhide hn]; simp; omega
            have HTN := hide (show n + 1 = tk.length by rw [unhide HTK, List.length_append, ← unhide hn]; simp)
            go_wp2_with (at_builtin; refine wpList_append_own _ rfl (.tmp 65) (.tmp 66) 87 rfl w4.heap.size 5 i0 _ 1 1 Tryz.underlying87 (unhide HI) (unhide HZB).1 (unhide HZB).2.1 (unhide HZB).2.2 rfl (by decide) _ n (cellsB (txTo ws k)) rfl ((unhide HO1).kept (grown_bel (below1 _ _) none) (Or.inr (by simp [Value.ownBlock]))) ⟨wr.heap.size + 1, 0, none⟩ 1 1 (cellsB [32]) rfl rfl (by simpa using new_newsY (wr.alloc (.cells #[.string xt, .bool xo, .bool xi] 89)) 32) (cellsB_one _) ?b1 ?b2 ?b3 ?next)
            case b1 => unfold maxLen; omega
            case b2 => omega
            case b3 => have := (unhide HB1).size; simp at this ⊢; omega
            case next =>
              intro v5 w5 hown5 hgrow5 hnil5
              have hgo := (unhide HO1).lt go rfl
              have hbel5 : Below w4.heap.size w4 w5 := ((unhide HB1).alloc (unhide HB1).size _).grown hgrow5 (by have := (unhide HB1).size; simp at this ⊢; omega) (fun q hq => by simp [Value.ownBlock] at hq; omega)
              obtain ⟨g5, q5, rfl⟩ := owns_bval hown5 (by simp [hnil5])
              rw [← cellsB_append, ← unhide HTK] at hown5
              have hgr : go < wr.heap.size + 1 := by have := hgo.2; simpa using this
              have y0 : w5.cell? ⟨wr.heap.size, 0, none⟩ = some (.string xt) := hgrow5.cell (by simp [go_sem]) (by simp [Value.ownBlock]; omega)
              obtain ⟨c1, w6, hrun1, hnew1, hb6⟩ := conv_bytes w5 xt
              have HN1 := hide hnew1
              have HO6 := hide (hown5.kept (grown_bel hb6 none) (Or.inr (by simp [Value.ownBlock])))
              have HB6 := hide (hbel5.trans (hb6.mono hbel5.size))
              have z6 := (unhide HB6).size
              clear hnew1 hb6 HO1 HB1 hown5 hgrow5 hnil5 hgo
              go_wp2_with (at_builtin; refine wpList_append_own _ rfl (.tmp 68) (.tmp 71) 87 rfl w4.heap.size 5 i0 _ 1 1 Tryz.underlying87 (unhide HI) (unhide HZB).1 (unhide HZB).2.1 (unhide HZB).2.2 rfl (by decide) _ (n + 1) (cellsB tk) rfl (unhide HO6) ⟨w5.heap.size, 0, none⟩ xt.size c1 (cellsB xt.data.toList) rfl (by rw [cellsB_len]; simp) (unhide HN1) (cellsB_one _) ?b4 ?b5 ?b6 ?next2)
              case b4 => unfold maxLen; omega
              case b5 => omega
              case b6 => exact z6
              case next2 =>
                intro v7 w7 hown7 hgrow7 hnil7
                have hgo7 := (unhide HO6).lt g5 rfl
                have hbel7 : Below w4.heap.size w4 w7 := (unhide HB6).grown hgrow7 z6 (fun q hq => by simp [Value.ownBlock] at hq; omega)
                obtain ⟨g7, q7, rfl⟩ := owns_bval hown7 (by simp [hnil7])
                rw [← cellsB_append, ← unhide HEQ] at hown7
                have HO7 := hide hown7
                have HL7 := hide (show n + 1 + xt.size = (txTo ws (k + 1)).length by rw [unhide HEQ, List.length_append, ← unhide HTN]; simp)
                clear hown7 hgrow7 hnil7 HN1 HO6 HB6 hrun1 y0 hgo7
                go_wp2
                exact ⟨⟨k + 1, g7, q7, _, by omega, by go_num, rfl, HL7, HO7, hbel7⟩, by simp [intOf]; omega⟩
      · have hkx : k = ws.length := by omega
        have hcv := conv_string wr go n co (txTo ws k) (unhide hn) (owns_bcells (unhide hown))
        have HK := hide hkx
        clear hkx
        go_wp2
        go_ret2
        exact ⟨⟨_, _, rfl, hide (Or.inl ⟨unhide HY, rfl, by rw [unhide HTX, unhide HK]⟩)⟩, bel4.trans (hbel.mono bel4.size)⟩
end Go.Proofs.YtokabkhnidlcnabGreat
