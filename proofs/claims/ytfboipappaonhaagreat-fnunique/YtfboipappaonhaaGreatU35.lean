import Derived.Shelf.Strings.BuilderK
import Derived.Test.YtfboipappaonhaaGreatU12
import Derived.Test.YtfboipappaonhaaGreatU34

/-
  The parser's first step, for every token.
-/
namespace Go.Proofs.YtfboipappaonhaaGreat
set_option maxRecDepth 100000
set_option linter.unusedSimpArgs false
set_option linter.unusedVariables false
open Go.RowKit Go.Maps

/-- The tokens fit. -/
structure Fits (ns : List OpR) (ts : List TokR) : Prop where
  code : IsCode ns 0
  all : ∀ i, i < ts.length → FitE ns (bhTo ns ts i, opTo ts i) (sgs ns ts i (ts.length - i))
  role : ∀ i, i < ts.length → 0 ≤ roleTo ns ts i
  tok : ∀ i, i < ts.length → TokOk ns (atT ts i)
  size : ∀ i, i < ts.length → (atT ts i).t.size ≤ maxLen
  len : ts.length ≤ 100000

theorem sgs_head {ns : List OpR} {ts : List TokR} {i : Nat} (hi : i < ts.length) : sgs ns ts i (ts.length - i) = sgT ns ts i :: sgs ns ts (i + 1) (ts.length - (i + 1)) := by
  have e : ts.length - i = ts.length - (i + 1) + 1 := by omega
  rw [e, sgs_succ]

theorem fits_lt {ns : List OpR} {ts : List TokR} {i : Nat} {st : Bool × Nat} (h : FitE ns st (sgs ns ts i (ts.length - i))) : i < ts.length := by
  by_cases hi : i < ts.length
  · exact hi
  · have e : ts.length - i = 0 := by omega
    rw [e] at h
    exact (fitE_nil h).elim

/-- All readings of fewer tokens. -/
def Shorter (ns : List OpR) (ts : List TokR) (p g o c bf bb : Nat) (m : Nat) : Prop :=
  ∀ (i d : Nat) (least : Int) (w : World), ts.length - i < m → least ≤ 1001 → FitE ns (false, d) (sgs ns ts i (ts.length - i)) → PC w p g o bf bb ns ts → PrsAt w p g o ts.length c i bf bb →
    Calls Tryz.prog 86 #[.pointer (some ⟨p, 0, none⟩), .int .i64 least] w (RPost ns w p g o ts.length c bf bb (RD ns least none (sgs ns ts i (ts.length - i))))

theorem first_any {ns : List OpR} {ts : List TokR} (hF : Fits ns ts) {p g o c bf bb : Nat} (i d : Nat) (least : Int) (w : World) (hs : Shorter ns ts p g o c bf bb (ts.length - i)) (hl : least ≤ 1001) (hf : FitE ns (false, d) (sgs ns ts i (ts.length - i))) (hpc : PC w p g o bf bb ns ts) (hp : PrsAt w p g o ts.length c i bf bb) :
    Calls Tryz.prog 136 #[.pointer (some ⟨p, 0, none⟩), .int .i64 least] w (RPost ns w p g o ts.length c bf bb (fstS ns least (sgT ns ts i) (sgs ns ts (i + 1) (ts.length - (i + 1))))) := by
  have hi := fits_lt hf
  have hb : bhTo ns ts i = false := fitE_bh (hF.all i hi) hf
  have hf' := hf
  rw [sgs_head hi] at hf'
  have hrd : ∀ (d' : Nat) (l' : Int), l' ≤ 1001 → FitE ns (false, d') (sgs ns ts (i + 1) (ts.length - (i + 1))) → Reads ns w p g o ts.length c bf bb (i + 1) l' (sgs ns ts (i + 1) (ts.length - (i + 1))) :=
    fun d' l' hl' hf'' w' hk' hp' => hs (i + 1) d' l' w' (by omega) hl' hf'' (hpc.kept hk') hp'
  have hgd : ∀ T r, fstS ns least (sgT ns ts i) (sgs ns ts (i + 1) (ts.length - (i + 1))) = some (T, r) → GoodT ns T := fun T r h => (fst_sound hF.code hl hf' h).2.1
  rcases tok_front (hF.role i hi) hb (hF.tok i hi) with ⟨hk, hno, hne, hsg⟩ | ⟨hk, hha, hne, hsg⟩ | ⟨hk, hop, hsg⟩
  · have := first_leaf p g o c bf bb i least w hpc hp hi hF.len (hF.size i hi) hk hno hne
    have e : fstS ns least (sgT ns ts i) (sgs ns ts (i + 1) (ts.length - (i + 1))) = some (.node (atT ts i).k.toNat 0 (atT ts i).t .nil .nil, sgs ns ts (i + 1) (ts.length - (i + 1))) := by
      rw [hsg]
      unfold fstS
      rw [if_neg (by simp only; omega), if_neg (by simp only; omega)]
    rw [e]
    exact this
  · have hk3 : knB ns (3, (atT ts i).t) = true := has_kn hha (by decide)
    refine first_pre p g o c bf bb i least w hpc hp hi hF.len (hF.size i hi) hha hne (hrd d _ ?_ ?_) _ ?_ hgd
    · exact (holes_le hF.code (s := (3, (atT ts i).t)) (Or.inl rfl) hk3).1
    · rw [hsg] at hf'
      rcases fitE_false hf' with ⟨x, _⟩ | ⟨_, _, x⟩ | ⟨x, _⟩
      · simp at x
      · exact x
      · simp at x
    · rw [hsg]
      unfold fstS
      rw [if_pos rfl]
      rfl
  · have hfo : FitE ns (false, d + 1) (sgs ns ts (i + 1) (ts.length - (i + 1))) := by
      rw [hsg] at hf'
      rcases fitE_false hf' with ⟨x, _⟩ | ⟨x, _, _⟩ | ⟨_, x⟩
      · simp at x
      · simp at x
      · exact x
    refine first_open hF.code p g o c bf bb i d least w hpc hp hi hF.len (hF.size i hi) hop hfo (hrd (d + 1) 0 (by omega) hfo) _ ?_
    rw [hsg]
    unfold fstS
    rw [if_neg (by decide), if_pos rfl]
    rfl
end Go.Proofs.YtfboipappaonhaaGreat

/-
  Tokens of a text that fit, as the parser wants them.
-/
namespace Go.Proofs.YtfboipappaonhaaGreat
set_option maxRecDepth 100000
set_option linter.unusedSimpArgs false
set_option linter.unusedVariables false
open Go.RowKit

theorem lexed_last {ns : List OpR} {s : ByteArray} : ∀ (ts : List TokR) (i : Nat), Lexed ns s i ts → 0 < ts.length ∧ (atT ts (ts.length - 1)).k = 7
  | [], _, h => h.elim
  | t :: out, i, h => by
    rcases h with ⟨rfl, _, _, rfl⟩ | ⟨p, n, k, _, _, _, _, _, rfl, hr⟩
    · exact ⟨by simp, rfl⟩
    · obtain ⟨h1, h2⟩ := lexed_last out _ hr
      refine ⟨by simp, ?_⟩
      have e : (⟨(k : Int), s.extract i p, s.extract p (p + n)⟩ :: out : List TokR).length - 1 = (out.length - 1) + 1 := by simp; omega
      rw [e]
      exact h2

theorem lexed_size {ns : List OpR} {s : ByteArray} : ∀ (ts : List TokR) (i : Nat), Lexed ns s i ts → ∀ j, j < ts.length → (atT ts j).g.size ≤ s.size ∧ (atT ts j).t.size ≤ s.size
  | [], _, h, _, _ => h.elim
  | t :: out, i, h, j, hj => by
    rcases h with ⟨rfl, _, _, rfl⟩ | ⟨p, n, k, _, _, _, _, _, rfl, hr⟩
    · have : j = 0 := by simp at hj; omega
      subst this
      refine ⟨?_, ?_⟩
      · simp [atT, ByteArray.size_extract]
      · simp [atT]
        exact Nat.zero_le _
    · cases j with
      | zero => exact ⟨by simp [atT, ByteArray.size_extract]; omega, by simp [atT, ByteArray.size_extract]; omega⟩
      | succ j => exact lexed_size out _ hr j (by simpa using hj)

theorem fit_all {ns : List OpR} {ts : List TokR} (hf : FitTo ns ts ts.length) (hl : 0 < ts.length ∧ (atT ts (ts.length - 1)).k = 7) : ∀ i, i < ts.length → FitE ns (bhTo ns ts i, opTo ts i) (sgs ns ts i (ts.length - i)) := by
  intro i hi
  obtain ⟨hseg, hend⟩ := fit_end hf hl.1 hl.2
  have e1 : ts.length - 1 = i + (ts.length - 1 - i) := by omega
  have h1 : sgs ns ts 0 (ts.length - 1) = sgs ns ts 0 i ++ sgs ns ts i (ts.length - 1 - i) := by
    have := sgs_add ns ts 0 i (ts.length - 1 - i)
    rw [← e1, Nat.zero_add] at this
    exact this
  have h2 : sgs ns ts i (ts.length - i) = sgs ns ts i (ts.length - 1 - i) ++ [eoS] := by
    have e2 : ts.length = i + (ts.length - i) := by omega
    have h3 := sgs_add ns ts 0 i (ts.length - i)
    rw [← e2, Nat.zero_add, hend, h1, List.append_assoc] at h3
    exact (List.append_cancel_left h3).symm
  refine ⟨sgs ns ts i (ts.length - 1 - i), h2, ?_⟩
  unfold Seg at hseg
  rw [h1, runS_append, run_sgs i hi (fun j hj => hf j (by omega))] at hseg
  exact hseg

theorem fits_of {ns : List OpR} {ts : List TokR} {s : ByteArray} (hv : IsCode ns 0) (hok : okTo ns ns.length) (hs : s.size ≤ 20000) (hx : Lexed ns s 0 ts) (hf : FitTo ns ts ts.length) : Fits ns ts where
  code := hv
  all := fit_all hf (lexed_last ts 0 hx)
  role := hf
  tok := toks_ok (signTexts_of hok) ts 0 hx
  size := fun i hi => by have := (lexed_size ts 0 hx i hi).2; unfold maxLen; omega
  len := by have := Lexed.len ts 0 hx; omega
end Go.Proofs.YtfboipappaonhaaGreat

/-
  strings.Builder at this program: WriteString and String of a builder of the call's own.
-/
namespace Go.Proofs.YtfboipappaonhaaGreat
set_option maxRecDepth 100000
open Go.RowKit Go.Shelf

def bldRen : Go.Shelf.Ren := ⟨fun | 169 => 71 | n => n, fun | 70 => 135 | 9 => 9 | 0 => 0 | 72 => 137 | 37 => 22 | 127 => 195 | 3 => 3 | 5 => 5 | n => n, fun | n => n⟩
theorem bldLays : Go.Proofs.Lays.n169 Tryz.prog bldRen := {
  mixed := by kernel_rfl
  f169 := Tryz.func71.trans (congrArg some (by kernel_rfl))
  t0 := Tryz.underlying0
  a0 := Tryz.isAgg0
  z0 := Tryz.sizeOf0
  v0 := Tryz.zeroValue0
  t3 := Tryz.underlying3
  a3 := Tryz.isAgg3
  z3 := Tryz.sizeOf3
  v3 := Tryz.zeroValue3
  t9 := Tryz.underlying9
  a9 := Tryz.isAgg9
  z9 := Tryz.sizeOf9
  v9 := Tryz.zeroValue9
  t37 := Tryz.underlying22
  a37 := Tryz.isAgg22
  z37 := Tryz.sizeOf22
  v37 := Tryz.zeroValue22
  t70 := Tryz.underlying135
  a70 := Tryz.isAgg135
  z70 := Tryz.sizeOf135
  v70 := Tryz.zeroValue135
  t72 := Tryz.underlying137
  a72 := Tryz.isAgg137
  z72 := Tryz.sizeOf137
  v72 := Tryz.zeroValue137
  t127 := Tryz.underlying195
  a127 := Tryz.isAgg195
  z127 := Tryz.sizeOf195
  v127 := Tryz.zeroValue195 }
theorem bldExtra : Builder.Extra Tryz.prog bldRen := {
  sizeBuilder := by kernel_rfl
  liesBuilder := by kernel_rfl
  t5 := Tryz.underlying5
  a5 := Tryz.isAgg5
  z5 := Tryz.sizeOf5
  v5 := Tryz.zeroValue5
  infoByte := by kernel_rfl
  cellsByte := by kernel_rfl
  sizeByte := by kernel_rfl
  neB5 := by decide }

/-- A builder of the call's own, which holds the bytes l. -/
def Bld (B b : Nat) (l : List UInt8) (w : World) : Prop := Lib.IsBuilderF 137 5 B b (cellsB l) w

theorem cellsB_lib (l : List UInt8) : cellsB l = Lib.byteCells l := rfl

theorem bldString_any (B b : Nat) (l : List UInt8) (w : World) (h : Bld B b l w) (hBw : B ≤ w.heap.size) :
    Calls Tryz.prog 71 #[.pointer (some ⟨b, 0, none⟩)] w fun e w' => e = .returned (.string ⟨l.toArray⟩) ∧ Bld B b l w' ∧ Below B w w' ∧ Lib.OthersKept 5 (some b) w w' :=
  Any.Builder_String_any_k bldLays bldExtra B b l w h hBw

set_option maxHeartbeats 1000000 in
theorem bldCheck_used (b : Nat) (w : World) (h0 : w.cell? ⟨b, 0, none⟩ = some (.pointer (some ⟨b, 0, none⟩))) :
    Calls Tryz.prog 118 #[.pointer (some ⟨b, 0, none⟩)] w fun e w' => e = .returned (.tuple #[]) ∧ w' = w := by
  obtain ⟨j, hj, _⟩ := Option.map_eq_some_iff.1 bldExtra.sizeBuilder
  go_enter Tryz.func118, Tryz.ntmps118
  go_wp2
  rw [Lib.run_neq_ptr_same w _ Tryz.underlying135 hj]
  go_wp2
  go_end0
  exact ⟨rfl, rfl⟩

set_option maxHeartbeats 1000000 in
theorem bldCheck_fresh (b : Nat) (w : World) (h0 : w.cell? ⟨b, 0, none⟩ = some (.pointer none)) (hsh : w.shape? b = some (137, 2)) (hfz : w.frozen? ⟨b, 0, none⟩ = false) :
    Calls Tryz.prog 118 #[.pointer (some ⟨b, 0, none⟩)] w fun e w' => e = .returned (.tuple #[]) ∧ w' = w.setCell ⟨b, 0, none⟩ (.pointer (some ⟨b, 0, none⟩)) := by
  obtain ⟨j, hj, hjs⟩ := Option.map_eq_some_iff.1 bldExtra.sizeBuilder
  go_enter Tryz.func118, Tryz.ntmps118
  go_wp2
  rw [Lib.run_to_unsafe w ⟨b, 0, none⟩ Tryz.underlying135 Tryz.underlying218 hj (by rw [hjs]; decide) hsh (Nat.zero_lt_succ 1)]
  simp only [Result.andThen]
  rw [Oper.upon_value]
  go_wp2
  rw [run_callFunc_extern Tryz.func155 (by kernel_rfl) (by kernel_rfl) (by kernel_rfl) (e := Extern.AbiNoEscape.same) (by kernel_rfl)]
  rw [Lib.run_noEscape]
  simp only [Result.andThen]
  rw [Oper.upon_value]
  go_wp2
  rw [Lib.run_from_unsafe w ⟨b, 0, none⟩ Tryz.underlying218 Tryz.underlying135 hj hsh bldExtra.liesBuilder]
  simp only [Result.andThen]
  rw [Oper.upon_value]
  go_wp2
  go_end0
  exact ⟨rfl, rfl⟩

theorem bldCheck_any (B b : Nat) (bs : List Value) (w : World) (h : Lib.IsBuilderF 137 5 B b bs w) :
    Calls Tryz.prog 118 #[.pointer (some ⟨b, 0, none⟩)] w fun e w' => e = .returned (.tuple #[]) ∧ (Lib.BuilderAtF 137 5 B b (.pointer (some ⟨b, 0, none⟩)) bs w' ∧ Below B w w' ∧ Lib.OthersKept 5 (some b) w w') := by
  rcases h with h | h
  · refine (bldCheck_fresh b w h.cell0 h.shape h.frozen0).mono ?_
    rintro e w' ⟨rfl, rfl⟩
    exact ⟨rfl, h.used _, (Below.refl B w).setCell (p := ⟨b, 0, none⟩) h.1 _, (Lib.OthersKept.refl _ _ w).setCell ⟨b, 0, none⟩ rfl _⟩
  · refine (bldCheck_used b w h.cell0).mono ?_
    rintro e w' ⟨rfl, rfl⟩
    exact ⟨rfl, h, Below.refl B _, Lib.OthersKept.refl _ _ _⟩

theorem strCells_B (s : ByteArray) : Lib.strCells s = cellsB s.data.toList := by
  rfl

set_option maxHeartbeats 2000000 in
theorem bldWrite_any (B b : Nat) (l : List UInt8) (s : ByteArray) (w : World) (h : Bld B b l w) (hlen : l.length + s.size ≤ 140737488355328) (hBw : B ≤ w.heap.size) :
    Calls Tryz.prog 70 #[.pointer (some ⟨b, 0, none⟩), .string s] w fun e w' => (∃ v, e = .returned v) ∧ Bld B b (l ++ s.data.toList) w' ∧ Below B w w' ∧ Lib.OthersKept 5 (some b) w w' := by
  obtain ⟨i0, hi, hz0, hz1, hz2⟩ := info_parts infoByte
  go_enter Tryz.func70, Tryz.ntmps70
  go_wp2_with fail
  refine (bldCheck_any B b (cellsB l) _ h).mono ?_
  rintro e w1 ⟨rfl, h1, hb1, hk1⟩
  obtain ⟨hB, v, hbk, hown, hne⟩ := h1
  have hlen' : (cellsB l).length + s.size ≤ 140737488355328 := by rw [cellsB_len]; exact hlen
  have c0 : w1.cell? ⟨b, 0, none⟩ = some (.pointer (some ⟨b, 0, none⟩)) := by rw [Lib.cell_of_heap hbk]; rfl
  have c1 : w1.cell? ⟨b, 1, none⟩ = some v := by rw [Lib.cell_of_heap hbk]; rfl
  go_wp2_with (at_builtin; refine Lib.wpList_append_own_stringF _ rfl _ _ 22 9 rfl B 5 i0 Tryz.underlying22 Tryz.underlying9 hi hz0 hz1 hz2 _ _ _ rfl hown s rfl ?c3 ?c4 ?c5 ?_)
  case c3 => unfold maxLen; omega
  case c4 => omega
  case c5 => have := hb1.size; omega
  intro v' w2 hown' hgrow _
  have hlt : b < w1.heap.size := block_lt_of_cell c0
  have hb2 : w2.heap[b]? = some (.cells #[.pointer (some ⟨b, 0, none⟩), v] 137 (0, 0)) := by
    rw [hgrow.block b hlt (fun e => hne e.symm)]
    exact hbk
  have d0 : w2.cell? ⟨b, 0, none⟩ = some (.pointer (some ⟨b, 0, none⟩)) := by rw [Lib.cell_of_heap hb2]; rfl
  have d1 : w2.cell? ⟨b, 1, none⟩ = some v := by rw [Lib.cell_of_heap hb2]; rfl
  have f1 : w2.frozen? ⟨b, 1, none⟩ = false := Lib.frozen_of_heap hb2 1
  obtain ⟨ao, n', cap, rfl⟩ : ∃ ao n' cap, v' = .slice ao n' cap := by
    rcases hown'.2 with ⟨hv, _⟩ | ⟨g, cap, cur, fz, hv, _⟩
    · exact ⟨_, _, _, hv⟩
    · exact ⟨_, _, _, hv⟩
  go_wp2
  go_ret2
  refine ⟨⟨_, rfl⟩, ?_, ?_, (hk1.grown hgrow (Lib.ownsRowF_kind hown)).setCell ⟨b, 1, none⟩ rfl _⟩
  · exact Or.inr (Lib.BuilderAtF.put (T := 137) (e := 5) hB hb2 (bs' := cellsB (l ++ s.data.toList)) (by rw [cellsB_append, ← strCells_B]; simpa [Lib.strCells_length] using hown') (by decide))
  · exact (hb1.grown hgrow (by have := hb1.size; omega) (fun k hk => (hown.lt k hk).1)).setCell (p := ⟨b, 1, none⟩) hB _
end Go.Proofs.YtfboipappaonhaaGreat
