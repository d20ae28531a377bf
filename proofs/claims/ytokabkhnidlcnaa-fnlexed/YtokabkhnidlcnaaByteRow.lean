/-
  A row of bytes made of a text, and one byte put behind it.
-/
import Derived.Test.YtokabkhnidlcnaaBytes
import Derived.Maps.AppendAt
import Derived.Deep.MidRow
namespace Go.Proofs.Ytokabkhnidlcnaa
set_option maxRecDepth 100000
set_option linter.unusedSimpArgs false
set_option linter.unusedVariables false
open Go.RowKit

/-- A row of bytes that belongs to the call: its cells may be written, up to its capacity. -/
def RowY (w : World) (B : Nat) (v : Value) (l : List UInt8) : Prop :=
  ∃ g cap, v = .slice (some ⟨g, 0, none⟩) l.length cap ∧ B ≤ g ∧ g < w.heap.size ∧ l.length ≤ cap ∧ cap ≤ maxLen ∧ (∀ j, j < cap → (w.cell? ⟨g, j, none⟩).isSome = true ∧ w.frozen? ⟨g, j, none⟩ = false) ∧ ∀ j u, (cellsB l)[j]? = some u → w.cell? ⟨g, j, none⟩ = some u

theorem RowY.below {w w' : World} {B : Nat} {v : Value} {l : List UInt8} (h : RowY w B v l) (hb : Below w.heap.size w w') : RowY w' B v l := by
  obtain ⟨g, cap, rfl, h1, h2, h3, h4, h5, h6⟩ := h
  refine ⟨g, cap, rfl, h1, Nat.lt_of_lt_of_le h2 hb.size, h3, h4, fun j hj => ?_, fun j u hj => (hb.cell (p := ⟨g, j, none⟩) h2).trans (h6 j u hj)⟩
  have c := hb.cell (p := ⟨g, j, none⟩) h2
  have f := hb.frozen (p := ⟨g, j, none⟩) h2
  exact ⟨by rw [c]; exact (h5 j hj).1, by rw [f]; exact (h5 j hj).2⟩

/-- '[]byte(s)', as a row of its own. -/
theorem conv_row (W : World) (s : ByteArray) (hs : s.size ≤ 100000000) : ∃ (v : Value) (W' : World), (convert 9 22 (.string s)).run Try.prog W = .ok v W' ∧ RowY W' W.heap.size v s.data.toList ∧ Below W.heap.size W W' := by
  have hr := run_bytes_of_string (P := Try.prog) W 9 22 5 s Try.underlying9 Try.underlying22 Try.underlying5
  have hsl : s.data.toList.length = s.size := by simp
  have hge := grownCap_ge W s.size 0 5
  have hnew := heap_alloc_new W.drew (.cells (bytesRow s (grownCap W s.size 0 5)) 5 ((bytesRow s (grownCap W s.size 0 5)).size, (bytesRow s (grownCap W s.size 0 5)).size + 1))
  have hsz : (bytesRow s (grownCap W s.size 0 5)).size = grownCap W s.size 0 5 := by
    unfold bytesRow
    simp
    have : s.data.size = s.size := rfl
    omega
  refine ⟨_, _, hr, ⟨W.heap.size, grownCap W s.size 0 5, by rw [hsl], Nat.le_refl _, by simp, by rw [hsl]; exact hge, grownCap_le_maxLen W s.size 0 5 (by unfold maxLen; omega), fun j hj => ⟨?_, ?_⟩, fun j u hj => ?_⟩, (Below.refl _ _).drew.alloc (Nat.le_refl _) _⟩
  · rw [cell_of_row _ W.heap.size j _ 5 _ hnew]
    simp [hsz, hj]
  · have hn : (W.drew.alloc (.cells (bytesRow s (grownCap W s.size 0 5)) 5 ((bytesRow s (grownCap W s.size 0 5)).size, (bytesRow s (grownCap W s.size 0 5)).size + 1))).heap[W.heap.size]? = _ := hnew
    unfold World.frozen?
    simp only [hn]
    rw [hsz]
    simp
    omega
  · rw [cell_of_row _ W.heap.size j _ 5 _ hnew]
    have hlt : j < s.data.size := by
      have := (List.getElem?_eq_some_iff.1 hj).1
      rw [cellsB_len] at this
      simpa using this
    rw [bytesRow_at s _ j hlt]
    simp [cellsB] at hj
    obtain ⟨x, hx, rfl⟩ := hj
    rw [Array.getElem?_eq_getElem hlt] at hx
    injection hx with hx
    subst hx
    rfl

/-- One byte behind it. -/
theorem run_app1 (w : World) (ty : TypeId) (B : Nat) (v : Value) (l : List UInt8) (b : UInt8) (h : RowY w B v l) (hB : B ≤ w.heap.size) (ad : Addr) (hx : w.cell? (ad.add 0) = some (.int .u8 (b.toNat : Int))) (hl : l.length ≤ 1000000) :
    ∃ v' w', (Builtin.append_ #[22, 22] ty #[v, .slice (some ad) 1 1]).run Try.prog w = .ok v' w' ∧ RowY w' B v' (l ++ [b]) ∧ Below B w w' := by
  obtain ⟨g, cap, rfl, h1, h2, h3, h4, h5, h6⟩ := h
  obtain ⟨i, hi, hz⟩ := Option.map_eq_some_iff.1 infoByte
  simp only [Prod.mk.injEq] at hz
  obtain ⟨hz0, hz1, hz2⟩ := hz
  have hnews : ∀ j u, ([.int .u8 (b.toNat : Int)] : List Value)[j]? = some u → w.cell? (ad.add j) = some u := fun j u hj => by
    match j, hj with
    | 0, hj => simp at hj; subst hj; exact hx
  have hbl : (l ++ [b]).length = l.length + 1 := by simp
  by_cases hroom : l.length + 1 ≤ cap
  · have hf := run_firstCells_some (P := Try.prog) w i.size 1 ad 1 1 [.int .u8 (b.toNat : Int)] (by rw [hz1]; rfl) hnews
    obtain ⟨c1, c2⟩ := h5 l.length (by omega)
    obtain ⟨u0, hu0⟩ := Option.isSome_iff_exists.1 c1
    have hadd : (⟨g, l.length, none⟩ : Addr).add 0 = ⟨g, l.length, none⟩ := by unfold Addr.add; split <;> simp_all
    have hst : (storeCells ⟨g, l.length, none⟩ [.int .u8 (b.toNat : Int)] 0).run Try.prog w = .ok () (w.setCell ⟨g, l.length, none⟩ (.int .u8 (b.toNat : Int))) := by
      simp only [storeCells, Sem.run_bind]
      rw [hadd, run_store Try.prog w _ _ _ rfl, hu0]
      simp [c2]
    refine ⟨.slice (some ⟨g, 0, none⟩) (l.length + 1) cap, w.setCell ⟨g, l.length, none⟩ (.int .u8 (b.toNat : Int)), ?_, ?_, (Below.refl _ _).setCell (by simpa using h1) _⟩
    · rw [hz1] at hf
      simp [Builtin.append_, run_underlying Try.underlying22, sizeOf, typeInfo, hi, hz1, Builtin.lenOf, hroom, hf, Addr.add_lit, hst]
    · refine ⟨g, cap, by rw [hbl], h1, by simpa [World.setCell] using h2, by rw [hbl]; exact hroom, h4, fun j hj => ?_, fun j u hj => ?_⟩
      · refine ⟨?_, (World.frozen?_setCell _ _ _ _).trans (h5 j hj).2⟩
        by_cases e : j = l.length
        · subst e; rw [World.cell?_setCell_same _ _ _ hu0]; rfl
        · rw [World.cell?_setCell_other _ _ _ _ (fun x => e (by injection x with _ x; exact x.symm))]; exact (h5 j hj).1
      · rw [cellsB_append] at hj
        by_cases e : j = l.length
        · subst e
          rw [World.cell?_setCell_same _ _ _ hu0]
          rw [List.getElem?_append_right (by rw [cellsB_len]; exact Nat.le_refl _), cellsB_len, Nat.sub_self] at hj
          simpa [cellsB] using hj
        · rw [World.cell?_setCell_other _ _ _ _ (fun x => e (by injection x with _ x; exact x.symm))]
          apply h6
          have hjl : j < l.length + 1 := by
            have := (List.getElem?_eq_some_iff.1 hj).1
            simpa [cellsB_len] using this
          rw [List.getElem?_append_left (by rw [cellsB_len]; omega)] at hj
          exact hj
  · have holds : ∀ j u, (cellsB l)[j]? = some u → w.cell? ((⟨g, 0, none⟩ : Addr).add j) = some u := fun j u hj => by
      rw [Addr.add_mid, Nat.zero_add]; exact h6 j u hj
    have hr := run_append_grow (P := Try.prog) w 22 ty 5 i _ Try.underlying22 hi hz0 ⟨g, 0, none⟩ l.length cap (cellsB l) (by rw [cellsB_len, hz1, Nat.mul_one]) holds ad 1 1 [.int .u8 (b.toNat : Int)] (by rw [hz1]; rfl) hnews (by omega) (by omega) (growslice_fits (by omega) (by rw [hz2]; omega))
    have hge := grownCap_ge w (l.length + 1) cap 5
    have hnew := heap_alloc_new w.drew (.cells ((cellsB l).toArray ++ [Value.int .u8 (b.toNat : Int)].toArray ++ Builtin.zeroCells (Value.int .u8 0).cells (grownCap w (l.length + 1) cap 5 - (l.length + 1))) 5)
    refine ⟨_, _, hr, ⟨w.heap.size, grownCap w (l.length + 1) cap 5, by rw [hbl], hB, by simp, by rw [hbl]; exact hge, grownCap_le_maxLen w (l.length + 1) cap 5 (by unfold maxLen; omega), fun j hj => ⟨?_, frozen_of_row _ _ _ _ _ hnew⟩, fun j u hj => ?_⟩, ((Below.refl _ _).drew.alloc (Nat.le_refl _) _).mono hB⟩
    · rw [cell_of_row _ w.heap.size j _ 5 _ hnew]
      have : j < ((cellsB l).toArray ++ [Value.int .u8 (b.toNat : Int)].toArray ++ Builtin.zeroCells (Value.int .u8 0).cells (grownCap w (l.length + 1) cap 5 - (l.length + 1))).size := by
        simp [size_zeroCells, cellsB_len, Value.cells]
        omega
      rw [Array.getElem?_eq_getElem this]
      rfl
    · rw [cell_of_row _ w.heap.size j _ 5 _ hnew]
      rw [cellsB_append] at hj
      have hjl : j < l.length + 1 := by
        have := (List.getElem?_eq_some_iff.1 hj).1
        simpa [cellsB_len] using this
      rw [Array.getElem?_append_left (by simp [cellsB_len]; omega)]
      have e : (cellsB l).toArray ++ [Value.int .u8 (b.toNat : Int)].toArray = (cellsB l ++ cellsB [b]).toArray := by simp [cellsB]
      rw [e]
      simpa using hj

theorem wpList_app1 {ops : Array Oper} {rest : List Oper} {o : Oper} {a : Act} {Q : Exit → Act → World → Prop} {w : World} (hgd : o.guard = none) (s x : Operand)
    (ho : o.op = .call { callee := .builtin .append, args := #[s, x], argTypes := #[22, 22] })
    (B : Nat) (v : Value) (l : List UInt8) (b : UInt8) (hs : a.eval s = v) (hown : RowY w B v l) (hB : B ≤ w.heap.size) (ad : Addr) (hx : a.eval x = .slice (some ad) 1 1) (hc : w.cell? (ad.add 0) = some (.int .u8 (b.toNat : Int))) (hl : l.length ≤ 1000000)
    (h : ∀ v' w', RowY w' B v' (l ++ [b]) → Below B w w' → wpList Try.prog ops Q rest (a.put o.dst v') w') : wpList Try.prog ops Q (o :: rest) a w := by
  refine wpList_plain hgd fun K hK => ?_
  obtain ⟨v', w', hr, h2, h3⟩ := run_app1 w o.type B v l b hown hB ad hc hl
  unfold Oper.wp execOp
  simp only [ho, resolve, invoke, builtin, Sem.run_bind, Sem.run_pure, Result.andThen_ok, List.map_toArray, List.map_cons, List.map_nil, hs, hx, hr]
  exact hK _ _ (h v' w' h2 h3)
end Go.Proofs.Ytokabkhnidlcnaa
