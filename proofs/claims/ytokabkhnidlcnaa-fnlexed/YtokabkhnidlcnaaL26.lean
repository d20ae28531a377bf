import Derived.Shelf.Strings.BuilderK
import Derived.Test.YtokabkhnidlcnaaL08
import Derived.Test.YtokabkhnidlcnaaL25

/-
  Walk: the face of what ImplRol2 walks.
-/
namespace Go.Proofs.Ytokabkhnidlcnaa
set_option maxRecDepth 100000
set_option linter.unusedSimpArgs false
open Go.RowKit Go.Maps

set_option maxHeartbeats 4000000 in
theorem implRoles_any (b off cap b' off' cap' : Nat) (xs : List OpR) (ts : List TokR) (w : World) (hmx : xs.length ≤ 1048576) (hm : ts.length ≤ 1048576) (hw : Ops w b off xs) (hsz : Sized xs) (hB : b < w.heap.size) (hw' : OpsT w b' off' ts) (hst : SizedT ts) (hB' : b' < w.heap.size) :
    Calls Try.prog 10 #[.agg #[.slice (some ⟨b, off, none⟩) xs.length cap], .slice (some ⟨b', off', none⟩) ts.length cap'] w fun e w' => (∃ (a : Option Addr) (c : Nat) (us : List Int) (v : Int), e = .returned (.tuple #[.slice a us.length c, .int .i64 v]) ∧ OwnedI w' w.heap.size a us ∧ RolesIs xs (IsCode xs 0) ts us v) ∧ Below w.heap.size w w' := by
  have HW := hide hw
  have HS := hide hsz
  have HT := hide hw'
  have HST := hide hst
  clear hw hsz hw' hst
  go_enter Try.func10, Try.ntmps10
  go_wp2_with fail
  refine (indexTable_any b off cap xs _ hmx ((unhide HW).below (below1 _ _) hB) (unhide HS) (by simp; omega)).mono ?_
  rintro e w1 ⟨⟨x, y, c, rfl, hc, hix⟩, hb1⟩
  have HC := hide hc
  have HIX := hide hix
  have z1 : w.heap.size + 1 ≤ w1.heap.size := by have := hb1.size; simp at this; omega
  have bel1 : Below w.heap.size w w1 := (below1 _ _).trans (hb1.mono (by simp))
  clear hc hix hb1
  by_cases hc0 : c = 0
  case neg =>
    have hc0' : (c != 0) = true := by simpa using hc0
    have HN := hide (show ¬ IsCode xs 0 from fun h => hc0 (IsCode_one (unhide HC) h))
    clear hc0
    go_wp2_with fail
    go_ret2
    exact ⟨⟨none, 0, [], 0, rfl, Or.inl ⟨rfl, rfl⟩, Or.inl ⟨unhide HN, rfl, rfl⟩⟩, bel1.alloc bel1.size _⟩
  subst hc0
  obtain ⟨bo, bs, rfl, rfl, hidx⟩ := (unhide HIX) rfl
  have HID := hide hidx
  clear HIX hidx
  have HIJ := hide ((unhide HID).kept (below1 w1 (.cells #[.map (some bo), .map (some bs)] 66)))
  clear HID
  have belA : Below w.heap.size w (w1.alloc (.cells #[.map (some bo), .map (some bs)] 66)) := bel1.alloc bel1.size _
  go_wp2_with fail
  refine (rolesM_any bo bs b' off' cap' xs ts _ hm (unhide HIJ) (unhide HC) ((unhide HT).below belA hB') (unhide HST) (by have := belA.size; omega)).mono ?_
  rintro e w2 ⟨⟨a, c2, us, v, rfl, hO, hR⟩, hb2⟩
  have HO := hide hO
  have HR := hide hR
  clear hO hR
  have bel2 : Below w.heap.size w w2 := belA.trans (hb2.mono belA.size)
  go_wp2_with fail
  go_ret2
  refine ⟨⟨a, c2, us, v, rfl, ?_, unhide HR⟩, bel2⟩
  rcases unhide HO with h | ⟨g, rfl, hg, hf⟩
  · exact Or.inl h
  · exact Or.inr ⟨g, rfl, Nat.le_trans belA.size hg, hf⟩
end Go.Proofs.Ytokabkhnidlcnaa

/-
  strings.Builder at this program: WriteString and String of a builder of the call's own.
-/
namespace Go.Proofs.Ytokabkhnidlcnaa
set_option maxRecDepth 100000
open Go.RowKit Go.Shelf

def bldRen : Go.Shelf.Ren := ⟨fun | 169 => 37 | n => n, fun | 70 => 74 | 9 => 9 | 0 => 0 | 72 => 76 | 37 => 22 | 127 => 102 | 3 => 3 | 5 => 5 | n => n, fun | n => n⟩
theorem bldLays : Go.Proofs.Lays.n169 Try.prog bldRen := {
  mixed := by kernel_rfl
  f169 := Try.func37.trans (congrArg some (by kernel_rfl))
  t0 := Try.underlying0
  a0 := Try.isAgg0
  z0 := Try.sizeOf0
  v0 := Try.zeroValue0
  t3 := Try.underlying3
  a3 := Try.isAgg3
  z3 := Try.sizeOf3
  v3 := Try.zeroValue3
  t9 := Try.underlying9
  a9 := Try.isAgg9
  z9 := Try.sizeOf9
  v9 := Try.zeroValue9
  t37 := Try.underlying22
  a37 := Try.isAgg22
  z37 := Try.sizeOf22
  v37 := Try.zeroValue22
  t70 := Try.underlying74
  a70 := Try.isAgg74
  z70 := Try.sizeOf74
  v70 := Try.zeroValue74
  t72 := Try.underlying76
  a72 := Try.isAgg76
  z72 := Try.sizeOf76
  v72 := Try.zeroValue76
  t127 := Try.underlying102
  a127 := Try.isAgg102
  z127 := Try.sizeOf102
  v127 := Try.zeroValue102 }
theorem bldExtra : Builder.Extra Try.prog bldRen := {
  sizeBuilder := by kernel_rfl
  liesBuilder := by kernel_rfl
  t5 := Try.underlying5
  a5 := Try.isAgg5
  z5 := Try.sizeOf5
  v5 := Try.zeroValue5
  infoByte := by kernel_rfl
  cellsByte := by kernel_rfl
  sizeByte := by kernel_rfl
  neB5 := by decide }

/-- A builder of the call's own, which holds the bytes l. -/
def Bld (B b : Nat) (l : List UInt8) (w : World) : Prop := Lib.IsBuilderF 76 5 B b (cellsB l) w

theorem cellsB_lib (l : List UInt8) : cellsB l = Lib.byteCells l := rfl

theorem bldString_any (B b : Nat) (l : List UInt8) (w : World) (h : Bld B b l w) (hBw : B ≤ w.heap.size) :
    Calls Try.prog 37 #[.pointer (some ⟨b, 0, none⟩)] w fun e w' => e = .returned (.string ⟨l.toArray⟩) ∧ Bld B b l w' ∧ Below B w w' ∧ Lib.OthersKept 5 (some b) w w' :=
  Any.Builder_String_any_k bldLays bldExtra B b l w h hBw

set_option maxHeartbeats 1000000 in
theorem bldCheck_used (b : Nat) (w : World) (h0 : w.cell? ⟨b, 0, none⟩ = some (.pointer (some ⟨b, 0, none⟩))) :
    Calls Try.prog 60 #[.pointer (some ⟨b, 0, none⟩)] w fun e w' => e = .returned (.tuple #[]) ∧ w' = w := by
  obtain ⟨j, hj, _⟩ := Option.map_eq_some_iff.1 bldExtra.sizeBuilder
  go_enter Try.func60, Try.ntmps60
  go_wp2
  rw [Lib.run_neq_ptr_same w _ Try.underlying74 hj]
  go_wp2
  go_end0
  exact ⟨rfl, rfl⟩

set_option maxHeartbeats 1000000 in
theorem bldCheck_fresh (b : Nat) (w : World) (h0 : w.cell? ⟨b, 0, none⟩ = some (.pointer none)) (hsh : w.shape? b = some (76, 2)) (hfz : w.frozen? ⟨b, 0, none⟩ = false) :
    Calls Try.prog 60 #[.pointer (some ⟨b, 0, none⟩)] w fun e w' => e = .returned (.tuple #[]) ∧ w' = w.setCell ⟨b, 0, none⟩ (.pointer (some ⟨b, 0, none⟩)) := by
  obtain ⟨j, hj, hjs⟩ := Option.map_eq_some_iff.1 bldExtra.sizeBuilder
  go_enter Try.func60, Try.ntmps60
  go_wp2
  rw [Lib.run_to_unsafe w ⟨b, 0, none⟩ Try.underlying74 Try.underlying116 hj (by rw [hjs]; decide) hsh (Nat.zero_lt_succ 1)]
  simp only [Result.andThen]
  rw [Oper.upon_value]
  go_wp2
  rw [run_callFunc_extern Try.func78 (by kernel_rfl) (by kernel_rfl) (by kernel_rfl) (e := Extern.AbiNoEscape.same) (by kernel_rfl)]
  rw [Lib.run_noEscape]
  simp only [Result.andThen]
  rw [Oper.upon_value]
  go_wp2
  rw [Lib.run_from_unsafe w ⟨b, 0, none⟩ Try.underlying116 Try.underlying74 hj hsh bldExtra.liesBuilder]
  simp only [Result.andThen]
  rw [Oper.upon_value]
  go_wp2
  go_end0
  exact ⟨rfl, rfl⟩

theorem bldCheck_any (B b : Nat) (bs : List Value) (w : World) (h : Lib.IsBuilderF 76 5 B b bs w) :
    Calls Try.prog 60 #[.pointer (some ⟨b, 0, none⟩)] w fun e w' => e = .returned (.tuple #[]) ∧ (Lib.BuilderAtF 76 5 B b (.pointer (some ⟨b, 0, none⟩)) bs w' ∧ Below B w w' ∧ Lib.OthersKept 5 (some b) w w') := by
  rcases h with h | h
  · refine (bldCheck_fresh b w h.cell0 h.shape h.frozen0).mono ?_
    rintro e w' ⟨rfl, rfl⟩
    exact ⟨rfl, h.used _, (Below.refl B w).setCell (p := ⟨b, 0, none⟩) h.1 _, (Lib.OthersKept.refl _ _ w).setCell ⟨b, 0, none⟩ rfl _⟩
  · refine (bldCheck_used b w h.cell0).mono ?_
    rintro e w' ⟨rfl, rfl⟩
    exact ⟨rfl, h, Below.refl B _, Lib.OthersKept.refl _ _ _⟩

theorem strCells_B (s : ByteArray) : Lib.strCells s = cellsB s.data.toList := by
  rfl

set_option maxHeartbeats 2000000 in
theorem bldWrite_any (B b : Nat) (l : List UInt8) (s : ByteArray) (w : World) (h : Bld B b l w) (hlen : l.length + s.size ≤ 140737488355328) (hBw : B ≤ w.heap.size) :
    Calls Try.prog 36 #[.pointer (some ⟨b, 0, none⟩), .string s] w fun e w' => (∃ v, e = .returned v) ∧ Bld B b (l ++ s.data.toList) w' ∧ Below B w w' ∧ Lib.OthersKept 5 (some b) w w' := by
  obtain ⟨i0, hi, hz0, hz1, hz2⟩ := info_parts infoByte
  go_enter Try.func36, Try.ntmps36
  go_wp2_with fail
  refine (bldCheck_any B b (cellsB l) _ h).mono ?_
  rintro e w1 ⟨rfl, h1, hb1, hk1⟩
  obtain ⟨hB, v, hbk, hown, hne⟩ := h1
  have hlen' : (cellsB l).length + s.size ≤ 140737488355328 := by rw [cellsB_len]; exact hlen
  have c0 : w1.cell? ⟨b, 0, none⟩ = some (.pointer (some ⟨b, 0, none⟩)) := by rw [Lib.cell_of_heap hbk]; rfl
  have c1 : w1.cell? ⟨b, 1, none⟩ = some v := by rw [Lib.cell_of_heap hbk]; rfl
  go_wp2_with (at_builtin; refine Lib.wpList_append_own_stringF _ rfl _ _ 22 9 rfl B 5 i0 Try.underlying22 Try.underlying9 hi hz0 hz1 hz2 _ _ _ rfl hown s rfl ?c3 ?c4 ?c5 ?_)
  case c3 => unfold maxLen; omega
  case c4 => omega
  case c5 => have := hb1.size; omega
  intro v' w2 hown' hgrow _
  have hlt : b < w1.heap.size := block_lt_of_cell c0
  have hb2 : w2.heap[b]? = some (.cells #[.pointer (some ⟨b, 0, none⟩), v] 76 (0, 0)) := by
    rw [hgrow.block b hlt (fun e => hne e.symm)]
    exact hbk
  have d0 : w2.cell? ⟨b, 0, none⟩ = some (.pointer (some ⟨b, 0, none⟩)) := by rw [Lib.cell_of_heap hb2]; rfl
  have d1 : w2.cell? ⟨b, 1, none⟩ = some v := by rw [Lib.cell_of_heap hb2]; rfl
  have f1 : w2.frozen? ⟨b, 1, none⟩ = false := Lib.frozen_of_heap hb2 1
  obtain ⟨ao, n', cap, rfl⟩ : ∃ ao n' cap, v' = .slice ao n' cap := by
    rcases hown'.2 with ⟨hv, _⟩ | ⟨g, cap, cur, fz, hv, _⟩
    · exact ⟨_, _, _, hv⟩
    · exact ⟨_, _, _, hv⟩
  go_wp2
  go_ret2
  refine ⟨⟨_, rfl⟩, ?_, ?_, (hk1.grown hgrow (Lib.ownsRowF_kind hown)).setCell ⟨b, 1, none⟩ rfl _⟩
  · exact Or.inr (Lib.BuilderAtF.put (T := 76) (e := 5) hB hb2 (bs' := cellsB (l ++ s.data.toList)) (by rw [cellsB_append, ← strCells_B]; simpa [Lib.strCells_length] using hown') (by decide))
  · exact (hb1.grown hgrow (by have := hb1.size; omega) (fun k hk => (hown.lt k hk).1)).setCell (p := ⟨b, 1, none⟩) hB _
end Go.Proofs.Ytokabkhnidlcnaa
