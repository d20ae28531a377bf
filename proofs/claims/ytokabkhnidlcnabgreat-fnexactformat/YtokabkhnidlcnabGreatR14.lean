import Derived.Shelf.Strings.BuilderK
import Derived.Deep.RegionHeld
import Derived.Test.YtokabkhnidlcnabGreatR08

/-
  strings.Builder at this program: WriteString and String of a builder of the call's own.
-/
namespace Go.Proofs.YtokabkhnidlcnabGreat
set_option maxRecDepth 100000
open Go.RowKit Go.Shelf

def bldRen : Go.Shelf.Ren := ⟨fun | 169 => 90 | n => n, fun | 70 => 176 | 9 => 9 | 0 => 0 | 72 => 178 | 37 => 87 | 127 => 208 | 3 => 3 | 5 => 5 | n => n, fun | n => n⟩
theorem bldLays : Go.Proofs.Lays.n169 Tryz.prog bldRen := {
  mixed := by kernel_rfl
  f169 := Tryz.func90.trans (congrArg some (by kernel_rfl))
  t0 := Tryz.underlying0
  a0 := Tryz.isAgg0
  z0 := Tryz.sizeOf0
  v0 := Tryz.zeroValue0
  t3 := Tryz.underlying3
  a3 := Tryz.isAgg3
  z3 := Tryz.sizeOf3
  v3 := Tryz.zeroValue3
  t9 := Tryz.underlying9
  a9 := Tryz.isAgg9
  z9 := Tryz.sizeOf9
  v9 := Tryz.zeroValue9
  t37 := Tryz.underlying87
  a37 := Tryz.isAgg87
  z37 := Tryz.sizeOf87
  v37 := Tryz.zeroValue87
  t70 := Tryz.underlying176
  a70 := Tryz.isAgg176
  z70 := Tryz.sizeOf176
  v70 := Tryz.zeroValue176
  t72 := Tryz.underlying178
  a72 := Tryz.isAgg178
  z72 := Tryz.sizeOf178
  v72 := Tryz.zeroValue178
  t127 := Tryz.underlying208
  a127 := Tryz.isAgg208
  z127 := Tryz.sizeOf208
  v127 := Tryz.zeroValue208 }
theorem bldExtra : Builder.Extra Tryz.prog bldRen := {
  sizeBuilder := by kernel_rfl
  liesBuilder := by kernel_rfl
  t5 := Tryz.underlying5
  a5 := Tryz.isAgg5
  z5 := Tryz.sizeOf5
  v5 := Tryz.zeroValue5
  infoByte := by kernel_rfl
  cellsByte := by kernel_rfl
  sizeByte := by kernel_rfl
  neB5 := by decide }

/-- A builder of the call's own, which holds the bytes l. -/
def Bld (B b : Nat) (l : List UInt8) (w : World) : Prop := Lib.IsBuilderF 178 5 B b (cellsB l) w

theorem cellsB_lib (l : List UInt8) : cellsB l = Lib.byteCells l := rfl

theorem bldString_any (B b : Nat) (l : List UInt8) (w : World) (h : Bld B b l w) (hBw : B ≤ w.heap.size) :
    Calls Tryz.prog 90 #[.pointer (some ⟨b, 0, none⟩)] w fun e w' => e = .returned (.string ⟨l.toArray⟩) ∧ Bld B b l w' ∧ Below B w w' ∧ Lib.OthersKept 5 (some b) w w' :=
  Any.Builder_String_any_k bldLays bldExtra B b l w h hBw

set_option maxHeartbeats 1000000 in
theorem bldCheck_used (b : Nat) (w : World) (h0 : w.cell? ⟨b, 0, none⟩ = some (.pointer (some ⟨b, 0, none⟩))) :
    Calls Tryz.prog 126 #[.pointer (some ⟨b, 0, none⟩)] w fun e w' => e = .returned (.tuple #[]) ∧ w' = w := by
  obtain ⟨j, hj, _⟩ := Option.map_eq_some_iff.1 bldExtra.sizeBuilder
  go_enter Tryz.func126, Tryz.ntmps126
  go_wp2
  rw [Lib.run_neq_ptr_same w _ Tryz.underlying176 hj]
  go_wp2
  go_end0
  exact ⟨rfl, rfl⟩

set_option maxHeartbeats 1000000 in
theorem bldCheck_fresh (b : Nat) (w : World) (h0 : w.cell? ⟨b, 0, none⟩ = some (.pointer none)) (hsh : w.shape? b = some (178, 2)) (hfz : w.frozen? ⟨b, 0, none⟩ = false) :
    Calls Tryz.prog 126 #[.pointer (some ⟨b, 0, none⟩)] w fun e w' => e = .returned (.tuple #[]) ∧ w' = w.setCell ⟨b, 0, none⟩ (.pointer (some ⟨b, 0, none⟩)) := by
  obtain ⟨j, hj, hjs⟩ := Option.map_eq_some_iff.1 bldExtra.sizeBuilder
  go_enter Tryz.func126, Tryz.ntmps126
  go_wp2
  rw [Lib.run_to_unsafe w ⟨b, 0, none⟩ Tryz.underlying176 Tryz.underlying216 hj (by rw [hjs]; decide) hsh (Nat.zero_lt_succ 1)]
  simp only [Result.andThen]
  rw [Oper.upon_value]
  go_wp2
  rw [run_callFunc_extern Tryz.func145 (by kernel_rfl) (by kernel_rfl) (by kernel_rfl) (e := Extern.AbiNoEscape.same) (by kernel_rfl)]
  rw [Lib.run_noEscape]
  simp only [Result.andThen]
  rw [Oper.upon_value]
  go_wp2
  rw [Lib.run_from_unsafe w ⟨b, 0, none⟩ Tryz.underlying216 Tryz.underlying176 hj hsh bldExtra.liesBuilder]
  simp only [Result.andThen]
  rw [Oper.upon_value]
  go_wp2
  go_end0
  exact ⟨rfl, rfl⟩

theorem bldCheck_any (B b : Nat) (bs : List Value) (w : World) (h : Lib.IsBuilderF 178 5 B b bs w) :
    Calls Tryz.prog 126 #[.pointer (some ⟨b, 0, none⟩)] w fun e w' => e = .returned (.tuple #[]) ∧ (Lib.BuilderAtF 178 5 B b (.pointer (some ⟨b, 0, none⟩)) bs w' ∧ Below B w w' ∧ Lib.OthersKept 5 (some b) w w') := by
  rcases h with h | h
  · refine (bldCheck_fresh b w h.cell0 h.shape h.frozen0).mono ?_
    rintro e w' ⟨rfl, rfl⟩
    exact ⟨rfl, h.used _, (Below.refl B w).setCell (p := ⟨b, 0, none⟩) h.1 _, (Lib.OthersKept.refl _ _ w).setCell ⟨b, 0, none⟩ rfl _⟩
  · refine (bldCheck_used b w h.cell0).mono ?_
    rintro e w' ⟨rfl, rfl⟩
    exact ⟨rfl, h, Below.refl B _, Lib.OthersKept.refl _ _ _⟩

theorem strCells_B (s : ByteArray) : Lib.strCells s = cellsB s.data.toList := by
  rfl

set_option maxHeartbeats 2000000 in
theorem bldWrite_any (B b : Nat) (l : List UInt8) (s : ByteArray) (w : World) (h : Bld B b l w) (hlen : l.length + s.size ≤ 140737488355328) (hBw : B ≤ w.heap.size) :
    Calls Tryz.prog 89 #[.pointer (some ⟨b, 0, none⟩), .string s] w fun e w' => (∃ v, e = .returned v) ∧ Bld B b (l ++ s.data.toList) w' ∧ Below B w w' ∧ Lib.OthersKept 5 (some b) w w' := by
  obtain ⟨i0, hi, hz0, hz1, hz2⟩ := info_parts infoByte
  go_enter Tryz.func89, Tryz.ntmps89
  go_wp2_with fail
  refine (bldCheck_any B b (cellsB l) _ h).mono ?_
  rintro e w1 ⟨rfl, h1, hb1, hk1⟩
  obtain ⟨hB, v, hbk, hown, hne⟩ := h1
  have hlen' : (cellsB l).length + s.size ≤ 140737488355328 := by rw [cellsB_len]; exact hlen
  have c0 : w1.cell? ⟨b, 0, none⟩ = some (.pointer (some ⟨b, 0, none⟩)) := by rw [Lib.cell_of_heap hbk]; rfl
  have c1 : w1.cell? ⟨b, 1, none⟩ = some v := by rw [Lib.cell_of_heap hbk]; rfl
  go_wp2_with (at_builtin; refine Lib.wpList_append_own_stringF _ rfl _ _ 87 9 rfl B 5 i0 Tryz.underlying87 Tryz.underlying9 hi hz0 hz1 hz2 _ _ _ rfl hown s rfl ?c3 ?c4 ?c5 ?_)
  case c3 => unfold maxLen; omega
  case c4 => omega
  case c5 => have := hb1.size; omega
  intro v' w2 hown' hgrow _
  have hlt : b < w1.heap.size := block_lt_of_cell c0
  have hb2 : w2.heap[b]? = some (.cells #[.pointer (some ⟨b, 0, none⟩), v] 178 (0, 0)) := by
    rw [hgrow.block b hlt (fun e => hne e.symm)]
    exact hbk
  have d0 : w2.cell? ⟨b, 0, none⟩ = some (.pointer (some ⟨b, 0, none⟩)) := by rw [Lib.cell_of_heap hb2]; rfl
  have d1 : w2.cell? ⟨b, 1, none⟩ = some v := by rw [Lib.cell_of_heap hb2]; rfl
  have f1 : w2.frozen? ⟨b, 1, none⟩ = false := Lib.frozen_of_heap hb2 1
  obtain ⟨ao, n', cap, rfl⟩ : ∃ ao n' cap, v' = .slice ao n' cap := by
    rcases hown'.2 with ⟨hv, _⟩ | ⟨g, cap, cur, fz, hv, _⟩
    · exact ⟨_, _, _, hv⟩
    · exact ⟨_, _, _, hv⟩
  go_wp2
  go_ret2
  refine ⟨⟨_, rfl⟩, ?_, ?_, (hk1.grown hgrow (Lib.ownsRowF_kind hown)).setCell ⟨b, 1, none⟩ rfl _⟩
  · exact Or.inr (Lib.BuilderAtF.put (T := 178) (e := 5) hB hb2 (bs' := cellsB (l ++ s.data.toList)) (by rw [cellsB_append, ← strCells_B]; simpa [Lib.strCells_length] using hown') (by decide))
  · exact (hb1.grown hgrow (by have := hb1.size; omega) (fun k hk => (hown.lt k hk).1)).setCell (p := ⟨b, 1, none⟩) hB _
end Go.Proofs.YtokabkhnidlcnabGreat

/-
  Walk: the program's Render, by a strings.Builder.
-/
namespace Go.Proofs.YtokabkhnidlcnabGreat
set_option maxRecDepth 100000
open Go.RowKit

theorem bld_start (w : World) : Bld w.heap.size w.heap.size [] (w.alloc (.cells #[.pointer none, .slice none 0 0] 178)) :=
  Lib.IsBuilderF.of (Or.inl ⟨Nat.le_refl _, .slice none 0 0, heap_alloc_new w _, World.ownsRow_nil _ _ _ _, by simp [Value.ownBlock]⟩)

theorem Bld.alloc {B b : Nat} {l : List UInt8} {w : World} (h : Bld B b l w) (o : Obj) : Bld B b l (w.alloc o) := Lib.IsBuilderF.alloc h o

theorem bld_lt {B b : Nat} {l : List UInt8} {w : World} (h : Bld B b l w) : b < w.heap.size := by
  rcases h with h | h
  · exact h.lt
  · exact h.lt

set_option maxHeartbeats 4000000 in
theorem implRender_any (b off cap : Nat) (xs : List TokR) (w : World) (hm : xs.length + totToT xs xs.length ≤ 1048576) (hw : OpsT w b off xs) (hB : b < w.heap.size) :
    Calls Tryz.prog 111 #[.slice (some ⟨b, off, none⟩) xs.length cap] w fun e w' => e = .returned (.string ⟨(rendTo xs xs.length).toArray⟩) ∧ Below w.heap.size w w' := by
  have HW := hide hw
  have HO := hide (bld_start w)
  clear hw
  go_enter Tryz.func111, Tryz.ntmps111
  go_wp2
  go_loopw [8] (fun i wr => ∃ k : Nat, k ≤ xs.length ∧ i = .int .i64 (k : Int) ∧ Hid (Bld w.heap.size w.heap.size (rendTo xs k) wr) ∧ Below w.heap.size w wr) (fun i _ => xs.length - (intOf i).toNat)
  case atStart => exact ⟨0, Nat.zero_le _, rfl, HO, below1 _ _⟩
  case round =>
    clear HO
    obtain ⟨k, hk, rfl, hbl, hbel⟩ := hrel
    by_cases hlt : k < xs.length
    · obtain ⟨a0, a1, a2⟩ := ((unhide HW) k hlt).below hbel hB
      have hnn := rend_len xs k
      have htk : totToT xs (k + 1) ≤ totToT xs xs.length := tot_mono xs _ _ (by omega)
      simp only [totToT, totT] at htk
      have hl1 : (rendTo xs k).length + (atT xs k).g.size ≤ 1048576 := by omega
      have hl2 : (rendTo xs k ++ (atT xs k).g.data.toList).length + (atT xs k).t.size ≤ 1048576 := by
        rw [List.length_append]
        have : (atT xs k).g.data.toList.length = (atT xs k).g.size := by simp
        omega
      have HBL := hide ((unhide hbl).alloc (.cells #[.int .i64 (atT xs k).k, .string (atT xs k).g, .string (atT xs k).t] 56))
      have L1 := hide hl1
      have L2 := hide hl2
      have hblt := hide (show w.heap.size < wr.heap.size from bld_lt (unhide hbl))
      clear hnn htk hl1 hl2 hbl
      go_wp2_with fail
      refine (bldWrite_any _ _ _ _ _ (unhide HBL) (by have := unhide L1; omega) (by have := hbel.size; simp; omega)).mono ?_
      rintro e w1 ⟨⟨v, rfl⟩, hb1, hbe1, hk1⟩
      have HB1 := hide hb1
      have hz1 : wr.heap.size < w1.heap.size := by have := hbe1.size; simp at this; omega
      have ht : w1.heap[wr.heap.size]? = some (.cells #[.int .i64 (atT xs k).k, .string (atT xs k).g, .string (atT xs k).t] 56 (0, 0)) := hk1 _ _ (heap_alloc_new wr _) (by have := hbel.size; simp; have := (unhide hblt); omega) (by simp)
      have q2 : w1.cell? ⟨wr.heap.size, 2, none⟩ = some (.string (atT xs k).t) := by rw [Lib.cell_of_heap ht]; rfl
      have hbel1 : Below w.heap.size w w1 := (hbel.alloc hbel.size _).trans hbe1
      clear hb1 hk1 ht hbe1
      go_wp2_with fail
      refine (bldWrite_any _ _ _ _ _ (unhide HB1) (by have := unhide L2; omega) hbel1.size).mono ?_
      rintro e w2 ⟨⟨v2, rfl⟩, hb2, hbe2, _⟩
      have HB2 := hide (show Bld w.heap.size w.heap.size (rendTo xs (k + 1)) w2 from hb2)
      have hbel2 := hbel1.trans hbe2
      clear hb2 hbe2
      go_wp2
      exact ⟨⟨k + 1, by omega, by go_num, HB2, hbel2⟩, by simp [intOf]; omega⟩
    · have HK := hide (show k = xs.length by omega)
      go_wp2_with fail
      refine (bldString_any _ _ _ _ (unhide hbl) hbel.size).mono ?_
      rintro e w1 ⟨rfl, _, hbe1, _⟩
      go_wp2
      go_ret
      exact ⟨ret_str (by rw [unhide HK]), hbel.trans hbe1⟩
end Go.Proofs.YtokabkhnidlcnabGreat

/-
  Walk: the place of a token in the text.
-/
namespace Go.Proofs.YtokabkhnidlcnabGreat
set_option maxRecDepth 100000
set_option linter.unusedSimpArgs false
set_option linter.unusedVariables false
open Go.RowKit

/-- Where token i begins. -/
def offT (ts : List TokR) (i : Nat) : Nat := totToT ts i + (atT ts i).g.size

theorem atT_take {ts : List TokR} {i j : Nat} (h : j < i) : atT (ts.take i) j = atT ts j := by
  simp [atT, List.getD, List.getElem?_take, h]

theorem tot_take (ts : List TokR) (i : Nat) : ∀ k, k ≤ i → totToT (ts.take i) k = totToT ts k
  | 0, _ => rfl
  | k + 1, h => by
    simp only [totToT]
    rw [tot_take ts i k (by omega), atT_take (by omega)]

set_option maxHeartbeats 1000000 in
theorem offsetOf_any (g o c i : Nat) (ts : List TokR) (w : World) (hm : ts.length + totToT ts ts.length ≤ 1048576) (hi : i < ts.length) (hc : ts.length ≤ c) (hc2 : c ≤ maxLen) (hw : OpsT w g o ts) (hB : g < w.heap.size) (hz : (atT ts i).g.size ≤ 1048576) :
    Calls Tryz.prog 68 #[.slice (some ⟨g, o, none⟩) ts.length c, .int .i64 (i : Int)] w fun e w' => e = .returned (.int .i64 (offT ts i : Int)) ∧ Below w.heap.size w w' := by
  have htl : (ts.take i).length = i := by simp; omega
  have htm := tot_mono ts i ts.length (by omega)
  have hdr : Below w.heap.size w w.drew := (Below.refl _ _).drew
  have HX := implRender_any g o c (ts.take i) w.drew (by rw [htl, tot_take ts i i (Nat.le_refl _)]; omega) (fun j hj => by
    rw [htl] at hj
    have h := (hw j (by omega)).below hdr hB
    unfold CellsT at h ⊢
    rw [atT_take hj]
    exact h) hB
  rw [htl] at HX
  have e0 : (rendTo (ts.take i) i).length = totToT ts i := by rw [rend_len, tot_take ts i i (Nat.le_refl _)]
  obtain ⟨S, hS⟩ : ∃ S : ByteArray, S = ⟨(rendTo (ts.take i) i).toArray⟩ := ⟨_, rfl⟩
  rw [← hS] at HX
  have hSz : S.size = totToT ts i := by rw [hS, ← e0]; simp [ByteArray.size]
  obtain ⟨k0, k1, k2⟩ := hw i hi
  have hiI : (i : Int) < (ts.length : Int) := by omega
  have HS := hide hSz
  have HOFF := hide (show (offT ts i : Int) = (S.size : Int) + ((atT ts i).g.size : Int) by unfold offT; rw [hSz]; omega)
  have hb1 : S.size ≤ 1048576 := by omega
  clear hS e0 hSz htm htl hw hdr
  go_enter Tryz.func68, Tryz.ntmps68
  go_wp2_with fail
  have HBC := hide (show Below w.heap.size w w.drew from (Below.refl _ _).drew)
  go_region_held (fun w' => w'.cell? ⟨g, o + i * 3 + 1, none⟩ = some (.string (atT ts i).g)) (first | (go_keep; done) | exact ((unhide HBC).cell (p := ⟨g, o + i * 3 + 1, none⟩) hB).trans k1)
    (first | (go_at_call 111; refine HX.mono ?_; rintro x w1 ⟨rfl, hb⟩; replace HBC := hide ((unhide HBC).trans hb); clear HX hb))
  have hwr : IntKind.i64.wrap ((S.size : Int) + ((atT ts i).g.size : Int)) = (S.size : Int) + ((atT ts i).g.size : Int) := by rw [IntKind.wrap_i64]; omega
  rw [hwr, ← unhide HOFF]
  go_wp2_with fail
  go_ret
  exact ⟨rfl, unhide HBC⟩
end Go.Proofs.YtokabkhnidlcnabGreat
