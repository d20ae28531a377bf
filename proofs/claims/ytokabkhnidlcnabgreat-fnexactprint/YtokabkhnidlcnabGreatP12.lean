import Derived.Deep.RegionHeld
import Derived.BigQuiet
import Derived.Test.YtokabkhnidlcnabGreatP03
import Derived.Test.YtokabkhnidlcnabGreatP04
import Derived.Test.YtokabkhnidlcnabGreatP06
import Derived.Test.YtokabkhnidlcnabGreatP07

/-
  Worlds in which one block alone has turned.
-/
namespace Go.Proofs.YtokabkhnidlcnabGreat
set_option maxRecDepth 100000
open Go.RowKit

/-- Nothing but one block has turned. -/
structure Kept1 (w w' : World) (g : Nat) : Prop where
  os : w'.os = w.os
  tape : w'.tape = w.tape
  output : w'.output = w.output
  size : w.heap.size ≤ w'.heap.size
  block : ∀ i, i < w.heap.size → i ≠ g → w'.heap[i]? = w.heap[i]?

theorem Kept1.refl (w : World) (g : Nat) : Kept1 w w g := ⟨rfl, rfl, rfl, Nat.le_refl _, fun _ _ _ => rfl⟩
theorem Kept1.trans {w w1 w2 : World} {g : Nat} (h : Kept1 w w1 g) (h' : Kept1 w1 w2 g) : Kept1 w w2 g :=
  ⟨h'.os.trans h.os, h'.tape.trans h.tape, h'.output.trans h.output, Nat.le_trans h.size h'.size, fun i hi a => (h'.block i (Nat.lt_of_lt_of_le hi h.size) a).trans (h.block i hi a)⟩
theorem Kept1.of_below {w w' : World} {g : Nat} (h : Below w.heap.size w w') : Kept1 w w' g := ⟨h.os, h.tape, h.output, h.size, fun i hi _ => h.block i hi⟩
theorem Kept1.cell {w w' : World} {g : Nat} (h : Kept1 w w' g) {b : Nat} (hb : b < w.heap.size) (h1 : b ≠ g) (o : Nat) : w'.cell? ⟨b, o, none⟩ = w.cell? ⟨b, o, none⟩ :=
  World.cell?_of_block (w := w) (h.block b hb h1)
theorem Kept1.frozen {w w' : World} {g : Nat} (h : Kept1 w w' g) {b : Nat} (hb : b < w.heap.size) (h1 : b ≠ g) (o : Nat) : w'.frozen? ⟨b, o, none⟩ = w.frozen? ⟨b, o, none⟩ :=
  World.frozen?_of_block (w := w) (h.block b hb h1)
theorem Kept1.below {w w' : World} {g B : Nat} (h : Kept1 w w' g) (hB : B ≤ w.heap.size) (h1 : B ≤ g) : Below B w w' :=
  ⟨h.os, h.tape, h.output, h.size, fun i hi => h.block i (by omega) (by omega)⟩
theorem kept1_setCells {g : Nat} : ∀ (vs : List Value) (o : Nat) (w : World), Kept1 w (w.setCells g o vs) g
  | [], _, w => Kept1.refl w g
  | v :: r, o, w => (show Kept1 w (w.setCell ⟨g, o, none⟩ v) g from ⟨rfl, rfl, rfl, by simp [World.setCell], fun _ _ hi => Below.heap_setCell _ _ _ _ hi⟩).trans (kept1_setCells r (o + 1) _)
theorem Kept1.ops {w w' : World} {g b off : Nat} {xs : List OpR} (h : Kept1 w w' g) (ho : Ops w b off xs) (hb : b < w.heap.size) (hne : b ≠ g) : Ops w' b off xs := fun i hi => by
  obtain ⟨a0, a1, a2, a3⟩ := ho i hi
  have e := h.cell hb hne
  exact ⟨(e _).trans a0, (e _).trans a1, (e _).trans a2, (e _).trans a3⟩
theorem Kept1.filled {w w' : World} {g b k : Nat} {xs : List OpR} (h : Kept1 w w' g) (ho : Filled w b xs k) (hne : b ≠ g) : Filled w' b xs k := by
  obtain ⟨h1, h2, h3⟩ := ho
  have e := h.cell h1 hne
  have f := h.frozen h1 hne
  refine ⟨Nat.lt_of_lt_of_le h1 h.size, fun j hj => ⟨by rw [e]; exact (h2 j hj).1, by rw [f]; exact (h2 j hj).2⟩, fun i hi => ?_⟩
  obtain ⟨a0, a1, a2, a3⟩ := h3 i hi
  exact ⟨(e _).trans a0, (e _).trans a1, (e _).trans a2, (e _).trans a3⟩

theorem grown_kept1 {w w' : World} {g : Nat} (h : Kept1 w w' g) : w.grownBy w' (some g) := ⟨h.os, h.tape, h.output, h.size, fun i hi e => h.block i hi (fun x => e (by rw [x]))⟩

end Go.Proofs.YtokabkhnidlcnabGreat

/-
  Walks: the program's inner trees put into holes (level, enclose, fit).
-/
namespace Go.Proofs.YtokabkhnidlcnabGreat
set_option maxRecDepth 100000
set_option linter.unusedSimpArgs false
set_option linter.unusedVariables false
open Go.RowKit

/-- A value whose level is known. -/
def LevIs (e : Value) (l : Int) : Prop := ∃ T v f r, e = .iface T v ∧ (∀ w, (method 337 T v "loop.example/s0059/impl.level").run Tryz.prog w = .ok (f, r) w) ∧ (∀ a w, (callFunc f a).run Tryz.prog w = .ok (.enter f a) w) ∧
  ∀ w, Calls Tryz.prog f #[r] w fun x w' => x = .returned (.int .i64 l) ∧ Below w.heap.size w w'

theorem closed_level (w : World) : Calls Tryz.prog 167 #[.agg #[]] w fun x w' => x = .returned (.int .i64 1001) ∧ Below w.heap.size w w' := by
  go_enter Tryz.func167, Tryz.ntmps167
  go_wp2_with fail
  go_ret
  exact ⟨rfl, by first | exact below1 _ _ | exact Below.refl _ _⟩

theorem operated_level (p : OpR) (w : World) : Calls Tryz.prog 171 #[.agg #[.string p.s, .int .i64 p.k, .int .i64 p.l, .int .i64 p.sd]] w fun x w' => x = .returned (.int .i64 p.l) ∧ Below w.heap.size w w' := by
  go_enter Tryz.func171, Tryz.ntmps171
  go_wp2_with fail
  go_ret
  exact ⟨rfl, by first | exact below1 _ _ | exact Below.refl _ _⟩

theorem lev_num (t : ByteArray) : LevIs (eNum t) 1001 := ⟨_, _, 167, .agg #[], rfl, fun w => by kernel_rfl, fun a w => by kernel_rfl, closed_level⟩
theorem lev_name (t : ByteArray) : LevIs (eName t) 1001 := ⟨_, _, 167, .agg #[], rfl, fun w => by kernel_rfl, fun a w => by kernel_rfl, closed_level⟩
theorem lev_grp (e : Value) : LevIs (eGrp e) 1001 := ⟨_, _, 167, .agg #[], rfl, fun w => by kernel_rfl, fun a w => by kernel_rfl, closed_level⟩
theorem lev_pre (p : OpR) (e : Value) : LevIs (ePre p e) p.l := ⟨_, _, 171, .agg #[.string p.s, .int .i64 p.k, .int .i64 p.l, .int .i64 p.sd], rfl, fun w => by kernel_rfl, fun a w => by kernel_rfl, operated_level p⟩
theorem lev_post (p : OpR) (e : Value) : LevIs (ePost p e) p.l := ⟨_, _, 171, .agg #[.string p.s, .int .i64 p.k, .int .i64 p.l, .int .i64 p.sd], rfl, fun w => by kernel_rfl, fun a w => by kernel_rfl, operated_level p⟩
theorem lev_inf (p : OpR) (e e' : Value) : LevIs (eInf p e e') p.l := ⟨_, _, 171, .agg #[.string p.s, .int .i64 p.k, .int .i64 p.l, .int .i64 p.sd], rfl, fun w => by kernel_rfl, fun a w => by kernel_rfl, operated_level p⟩

/-- The grouper's count. -/
def GrAt (w : World) (g m : Nat) : Prop := w.cell? ⟨g, 0, none⟩ = some (.int .i64 (m : Int)) ∧ w.frozen? ⟨g, 0, none⟩ = false

theorem GrAt.below {w w' : World} {g m : Nat} (h : GrAt w g m) (hb : Below w.heap.size w w') : GrAt w' g m :=
  ⟨(hb.cell (p := ⟨g, 0, none⟩) (block_lt_of_cell h.1)).trans h.1, (hb.frozen (p := ⟨g, 0, none⟩) (block_lt_of_cell h.1)).trans h.2⟩

theorem GrAt.set {w : World} {g m : Nat} (h : GrAt w g m) (n : Nat) : GrAt (w.setCell ⟨g, 0, none⟩ (.int .i64 (n : Int))) g n :=
  ⟨World.cell?_setCell_same _ _ _ h.1, (World.frozen?_setCell _ _ _ _).trans h.2⟩

theorem Kept1.setG {w : World} {g : Nat} (v : Value) : Kept1 w (w.setCell ⟨g, 0, none⟩ v) g := ⟨rfl, rfl, rfl, by simp [World.setCell], fun _ _ hi => Below.heap_setCell _ _ _ _ hi⟩

def encN (l least : Int) : Nat := if l < least then 2 else 1
def encV (l least : Int) (e : Value) : Value := if l < least then eGrp e else e

set_option maxHeartbeats 1000000 in
theorem enclose_any {e : Value} {l : Int} (h : LevIs e l) (g m : Nat) (least : Int) (w : World) (hg : GrAt w g m) (hm : m ≤ 100000) :
    Calls Tryz.prog 123 #[.pointer (some ⟨g, 0, none⟩), e, .int .i64 least] w fun x w' => x = .returned (encV l least e) ∧ Hid (GrAt w' g (m + encN l least)) ∧ Hid (Kept1 w w' g) := by
  obtain ⟨T, v, f, r, rfl, hme, hcf, hcall⟩ := h
  have HC := hide hcall
  have c0 := hg.1
  have f0 := hg.2
  have hlt := block_lt_of_cell hg.1
  have HG1 := hide (hg.set (m + 1))
  have e1 : ((m + 1 : Nat) : Int) = (m : Int) + 1 := by omega
  have e2 : ((m + 1 + 1 : Nat) : Int) = (m : Int) + 1 + 1 := by omega
  rw [e1] at HG1
  clear hcall hg
  go_enter Tryz.func123, Tryz.ntmps123
  go_wp2_with fail
  refine ((unhide HC) _).mono ?_
  rintro x w1 ⟨rfl, hb1⟩
  have HK1 := hide ((Kept1.setG (w := w) (g := g) (.int .i64 ((m : Int) + 1))).trans (Kept1.of_below hb1))
  have HG2 := hide ((unhide HG1).below hb1)
  have c1 := (unhide HG2).1
  have f1 := (unhide HG2).2
  rw [e1] at c1
  clear hb1 HG1 c0 f0 hme hcf
  by_cases hl : l < least
  · have hl' : ¬ least ≤ l := by omega
    have HN := hide (show encN l least = 2 from if_pos hl)
    have HV := hide (show encV l least (.iface T v) = eGrp (.iface T v) from if_pos hl)
    have HG3 := hide ((unhide HG2).set (m + 1 + 1))
    rw [e2] at HG3
    have HK3 := hide ((unhide HK1).trans (Kept1.setG (w := w1) (g := g) (.int .i64 ((m : Int) + 1 + 1))))
    clear HG2 HK1
    go_wp2_with fail
    go_ret
    exact ⟨by rw [unhide HV]; rfl, by rw [unhide HN]; exact HG3, HK3⟩
  · have hl' : least ≤ l := by omega
    have HN := hide (show encN l least = 1 from if_neg hl)
    have HV := hide (show encV l least (.iface T v) = .iface T v from if_neg hl)
    clear hl
    go_wp2_with fail
    go_ret
    exact ⟨by rw [unhide HV]; rfl, by rw [unhide HN]; exact HG2, HK1⟩

theorem exN_iface (p : OpR) (o : NodeR) (e e' : Value) : ∃ T v, exN p o e e' = .iface T v := by
  unfold exN
  split
  · exact ⟨_, _, rfl⟩
  · split
    · exact ⟨_, _, rfl⟩
    · split
      · exact ⟨_, _, rfl⟩
      · split
        · exact ⟨_, _, rfl⟩
        · split
          · exact ⟨_, _, rfl⟩
          · exact ⟨_, _, rfl⟩
theorem exS_iface (ns : List OpR) (xs : List NodeR) (i : Nat) : ∃ T v, exS ns xs i = .iface T v := by
  rw [exS_is]; exact exN_iface _ _ _ _
theorem encV_iface (l least : Int) (T : TypeId) (v : Value) : ∃ T' v', encV l least (.iface T v) = .iface T' v' := by
  unfold encV
  split
  · exact ⟨_, _, rfl⟩
  · exact ⟨_, _, rfl⟩

/-- Not of another type. -/
def Nots (T : TypeId) (v : Value) (A : TypeId) (z : Value) : Prop := ∀ w, (Instr.typeAssert (.iface T v) 92 A true).run Tryz.prog w = .ok (.tuple #[z, .bool false]) w
def zG : Value := .agg #[.nilIface]
def zP : Value := .agg #[.string ⟨#[]⟩, .int .i64 0, .int .i64 0, .int .i64 0, .nilIface]
def zI : Value := .agg #[.string ⟨#[]⟩, .int .i64 0, .int .i64 0, .int .i64 0, .nilIface, .nilIface]

theorem no_num (v : Value) : Nots 162 v 175 zG ∧ Nots 162 v 170 zP ∧ Nots 162 v 172 zI ∧ Nots 162 v 173 zP :=
  ⟨fun w => by kernel_rfl, fun w => by kernel_rfl, fun w => by kernel_rfl, fun w => by kernel_rfl⟩
theorem no_name (v : Value) : Nots 164 v 175 zG ∧ Nots 164 v 170 zP ∧ Nots 164 v 172 zI ∧ Nots 164 v 173 zP :=
  ⟨fun w => by kernel_rfl, fun w => by kernel_rfl, fun w => by kernel_rfl, fun w => by kernel_rfl⟩
theorem no_pre (v : Value) : Nots 170 v 175 zG := fun w => by kernel_rfl
theorem no_inf (v : Value) : Nots 172 v 175 zG ∧ Nots 172 v 170 zP := ⟨fun w => by kernel_rfl, fun w => by kernel_rfl⟩
theorem no_post (v : Value) : Nots 173 v 175 zG ∧ Nots 173 v 170 zP ∧ Nots 173 v 172 zI := ⟨fun w => by kernel_rfl, fun w => by kernel_rfl, fun w => by kernel_rfl⟩
theorem is_grp (v : Value) : ∀ w, (Instr.typeAssert (.iface 175 v) 92 175 true).run Tryz.prog w = .ok (.tuple #[v, .bool true]) w := fun w => by kernel_rfl
theorem is_pre (v : Value) : ∀ w, (Instr.typeAssert (.iface 170 v) 92 170 true).run Tryz.prog w = .ok (.tuple #[v, .bool true]) w := fun w => by kernel_rfl
theorem is_inf (v : Value) : ∀ w, (Instr.typeAssert (.iface 172 v) 92 172 true).run Tryz.prog w = .ok (.tuple #[v, .bool true]) w := fun w => by kernel_rfl
theorem is_post (v : Value) : ∀ w, (Instr.typeAssert (.iface 173 v) 92 173 true).run Tryz.prog w = .ok (.tuple #[v, .bool true]) w := fun w => by kernel_rfl

/-- What fit hands back. -/
def FitPost (w : World) (g m : Nat) (e : Value) (x : Ending) (w' : World) : Prop := x = .returned e ∧ Hid (GrAt w' g m) ∧ Hid (Kept1 w w' g)

set_option maxHeartbeats 1000000 in
theorem fit_leaf {T : TypeId} {v : Value} (hn : Nots T v 175 zG ∧ Nots T v 170 zP ∧ Nots T v 172 zI ∧ Nots T v 173 zP) {l : Int} (h : LevIs (.iface T v) l) (g m : Nat) (least : Int) (w : World) (hg : GrAt w g m) (hm : m ≤ 100000) :
    Calls Tryz.prog 85 #[.pointer (some ⟨g, 0, none⟩), .iface T v, .int .i64 least] w (FitPost w g (m + encN l least) (encV l least (.iface T v))) := by
  obtain ⟨n1, n2, n3, n4⟩ := hn
  unfold Nots zG at n1
  unfold Nots zP at n2 n4
  unfold Nots zI at n3
  have HG := hide hg
  have HL := hide h
  clear hg h
  go_enter Tryz.func85, Tryz.ntmps85
  go_wp2_with fail
  refine (enclose_any (unhide HL) g m least _ (unhide HG) hm).mono ?_
  rintro x w1 ⟨rfl, h1, h2⟩
  obtain ⟨T', v', hTv⟩ := encV_iface l least T v
  rw [hTv]
  clear n1 n2 n3 n4
  go_wp2_with fail
  go_ret
  exact ⟨by rw [hTv]; rfl, h1, h2⟩

set_option maxHeartbeats 1000000 in
theorem fit_grp {T : TypeId} {v : Value} (g m : Nat) (least : Int) {e : Value} (w : World) (he : ∃ T' v', e = .iface T' v')
    (hc : ∀ o, Calls Tryz.prog 85 #[.pointer (some ⟨g, 0, none⟩), .iface T v, .int .i64 least] (w.alloc o) (FitPost (w.alloc o) g m e)) :
    Calls Tryz.prog 85 #[.pointer (some ⟨g, 0, none⟩), eGrp (.iface T v), .int .i64 least] w (FitPost w g m e) := by
  obtain ⟨T', v', rfl⟩ := he
  have i1 := is_grp (.agg #[.iface T v])
  have HC := hide hc
  clear hc
  unfold eGrp
  go_enter Tryz.func85, Tryz.ntmps85
  go_wp2_with fail
  refine ((unhide HC) _).mono ?_
  rintro x w1 ⟨rfl, h1, h2⟩
  have h3 := hide ((Kept1.of_below (below1 _ _)).trans (unhide h2))
  clear i1
  go_wp2_with fail
  go_ret
  exact ⟨rfl, h1, h3⟩
end Go.Proofs.YtokabkhnidlcnabGreat

/-
  The plain mathematics of parsing: the operator-precedence reader finds the one admissible tree of a row of signs.
-/
namespace Go.Proofs.YtokabkhnidlcnabGreat
set_option maxRecDepth 100000
set_option linter.unusedSimpArgs false
set_option linter.unusedVariables false
open Go.RowKit
open Go.Deep (BT)

/-- Level, least of a hole, sort of a sign; it is that of an operator of the table. -/
def sLv (ns : List OpR) (s : SyR) : Int := levN ns (rt s.1 s.2)
def sH (ns : List OpR) (s : SyR) (b : Bool) : Int := holeN ns (rt s.1 s.2) b
def sSo (ns : List OpR) (s : SyR) : Int := srt (opA ns (rt s.1 s.2)).k (opA ns (rt s.1 s.2)).sd
def knB (ns : List OpR) (s : SyR) : Bool := (fnd ns s.2 ((s.1 : Int) - 2)).isSome

/-- What is known of an operator of a valid table. -/
structure OpF (ns : List OpR) (s : SyR) : Prop where
  lo : 1 ≤ sLv ns s
  hi : sLv ns s ≤ 1000
  pre : s.1 = 3 → sH ns s false = sLv ns s ∧ sSo ns s = 2
  post : s.1 = 5 → sH ns s false = sLv ns s ∧ sSo ns s = 1
  mid : s.1 = 4 → (sSo ns s = 1 ∧ sH ns s false = sLv ns s ∧ sH ns s true = sLv ns s + 1) ∨ (sSo ns s = 2 ∧ sH ns s false = sLv ns s + 1 ∧ sH ns s true = sLv ns s) ∨ (sSo ns s = 3 ∧ sH ns s false = sLv ns s + 1 ∧ sH ns s true = sLv ns s + 1)

theorem valid_parts {ns : List OpR} (h : IsCode ns 0) : okTo ns ns.length ∧ ¬ Pr 4 ns := by
  rcases h with ⟨h, _⟩ | ⟨_, ⟨h, _⟩ | ⟨hok, ⟨h, _⟩ | ⟨_, ⟨h, _⟩ | ⟨_, h4⟩⟩⟩⟩
  · exact absurd h (by decide)
  · exact absurd h (by decide)
  · exact absurd h (by decide)
  · exact absurd h (by decide)
  · exact ⟨hok, h4⟩

theorem sy_at {ns : List OpR} {s : SyR} (hk : knB ns s = true) : ∃ j, j < ns.length ∧ fnd ns s.2 ((s.1 : Int) - 2) = some j ∧ (atO ns j).k = (s.1 : Int) - 2 ∧ opA ns (rt s.1 s.2) = atO ns j := by
  unfold knB at hk
  obtain ⟨j, hj⟩ := Option.isSome_iff_exists.1 hk
  have := fnd_some hj
  refine ⟨j, this.1, hj, this.2.2, ?_⟩
  unfold opA rt
  simp only
  rw [hj]

theorem opF {ns : List OpR} (h : IsCode ns 0) {s : SyR} (hs : s.1 = 3 ∨ s.1 = 4 ∨ s.1 = 5) (hk : knB ns s = true) : OpF ns s := by
  obtain ⟨j, hj, hf, hkk, ho⟩ := sy_at hk
  have hok := (valid_parts h).1 j hj
  have hlv : sLv ns s = (atO ns j).l := by
    unfold sLv levN rt
    simp only
    rw [if_pos (by omega), hf]
  have hh : ∀ b, sH ns s b = holeI (atO ns j).s (atO ns j).k (atO ns j).l (atO ns j).sd b := fun b => by
    unfold sH holeN rt
    simp only
    rw [hf]
    rfl
  have hso : sSo ns s = srt (atO ns j).k (atO ns j).sd := by unfold sSo; rw [ho]
  have hok' : okB (atO ns j).s (atO ns j).k (atO ns j).l (atO ns j).sd = true := hok
  have hok2 := hok'
  unfold okB sideB at hok2
  simp only [Bool.and_eq_true, Bool.or_eq_true, decide_eq_true_eq, beq_iff_eq] at hok2
  obtain ⟨⟨⟨_, h1⟩, h2⟩, h3⟩ := hok2
  refine ⟨by omega, by omega, fun e => ?_, fun e => ?_, fun e => ?_⟩
  · have k1 : (atO ns j).k = 1 := by omega
    rw [hh, hlv, hso, holeI, srt, k1]
    simp_all
  · have k1 : (atO ns j).k = 3 := by omega
    rw [hh, hlv, hso, holeI, srt, k1]
    simp_all
  · have k1 : (atO ns j).k = 2 := by omega
    rw [hh, hh, hlv, hso, holeI, holeI, srt, k1]
    rw [k1] at hok' h3
    rw [hok']
    have h3' : (atO ns j).sd = 1 ∨ (atO ns j).sd = 2 ∨ (atO ns j).sd = 3 := by simp at h3; omega
    rcases h3' with e | e | e <;> simp [infI, e]

theorem same_sort {ns : List OpR} (h : IsCode ns 0) {s s' : SyR} (hs : s.1 = 3 ∨ s.1 = 4 ∨ s.1 = 5) (hs' : s'.1 = 3 ∨ s'.1 = 4 ∨ s'.1 = 5) (hk : knB ns s = true) (hk' : knB ns s' = true) (he : sLv ns s = sLv ns s') : sSo ns s = sSo ns s' := by
  obtain ⟨j, hj, hf, hkk, ho⟩ := sy_at hk
  obtain ⟨j', hj', hf', hkk', ho'⟩ := sy_at hk'
  have hlv : sLv ns s = (atO ns j).l := by unfold sLv levN rt; simp only; rw [if_pos (by omega), hf]
  have hlv' : sLv ns s' = (atO ns j').l := by unfold sLv levN rt; simp only; rw [if_pos (by omega), hf']
  unfold sSo
  rw [ho, ho']
  by_cases hd : srt (atO ns j).k (atO ns j).sd = srt (atO ns j').k (atO ns j').sd
  · exact hd
  · exfalso
    apply (valid_parts h).2
    rcases Nat.lt_trichotomy j j' with e | e | e
    · exact ⟨j', j, e, hj', by simp [cl]; exact ⟨by omega, fun x => hd x.symm⟩⟩
    · subst e; exact absurd rfl hd
    · exact ⟨j, j', e, hj, by simp [cl]; exact ⟨by omega, hd⟩⟩

/-- The level of a tree. -/
def lvT (ns : List OpR) : ET → Int
  | .nil => 1001
  | .node b _ t _ _ => sLv ns (b, t)

/-- A tree over the table that is admissible. -/
def GoodT (ns : List OpR) : ET → Prop
  | .nil => False
  | .node b o t l r => o = 0 ∧ (((b = 1 ∨ b = 2) ∧ l = .nil ∧ r = .nil) ∨
      (b = 6 ∧ t = ByteArray.empty ∧ GoodT ns l ∧ r = .nil) ∨
      ((b = 3 ∨ b = 5) ∧ knB ns (b, t) = true ∧ GoodT ns l ∧ r = .nil ∧ sH ns (b, t) false ≤ lvT ns l) ∨
      (b = 4 ∧ knB ns (b, t) = true ∧ GoodT ns l ∧ GoodT ns r ∧ sH ns (b, t) false ≤ lvT ns l ∧ sH ns (b, t) true ≤ lvT ns r))

theorem lv_closed (ns : List OpR) (b : Nat) (t : ByteArray) (h : ¬ (b = 3 ∨ b = 4 ∨ b = 5)) : sLv ns (b, t) = 1001 := by
  unfold sLv levN rt
  simp only
  rw [if_neg (by omega)]

theorem GoodT.sh {ns : List OpR} : ∀ {T : ET}, GoodT ns T → Sh T
  | .nil, h => h.elim
  | .node b o t l r, ⟨h0, h⟩ => by
    refine ⟨h0, ?_⟩
    rcases h with ⟨h | h, rfl, rfl⟩ | ⟨rfl, _, hl, rfl⟩ | ⟨h | h, _, hl, rfl, _⟩ | ⟨rfl, _, hl, hr, _⟩
    · subst h; exact Or.inl ⟨by decide, rfl, rfl⟩
    · subst h; exact Or.inl ⟨by decide, rfl, rfl⟩
    · exact Or.inr (Or.inl ⟨by decide, hl.sh, rfl⟩)
    · subst h; exact Or.inr (Or.inl ⟨by decide, hl.sh, rfl⟩)
    · subst h; exact Or.inr (Or.inl ⟨by decide, hl.sh, rfl⟩)
    · exact Or.inr (Or.inr ⟨by decide, hl.sh, hr.sh⟩)

/-- The reader: an operand of at least a level from the front (none), or what goes on behind one (some). -/
def rd (ns : List OpR) : Nat → Int → Option ET → List SyR → Option (ET × List SyR)
  | 0, _, _, _ => none
  | _ + 1, _, none, [] => none
  | n + 1, least, none, s :: r =>
    if s.1 = 3 then (if sLv ns s < least then none else (match rd ns n (sH ns s false) none r with
      | none => none
      | some x => rd ns n least (some (.node 3 0 s.2 x.1 .nil)) x.2))
    else if s.1 = 6 then (match rd ns n 0 none r with
      | none => none
      | some x => rd ns n least (some (.node 6 0 ByteArray.empty x.1 .nil)) x.2.tail)
    else rd ns n least (some (.node s.1 0 s.2 .nil .nil)) r
  | _ + 1, _, some T, [] => some (T, [])
  | n + 1, least, some T, s :: r =>
    if s.1 = 4 ∧ least ≤ sLv ns s then (if lvT ns T < sH ns s false then none else (match rd ns n (sH ns s true) none r with
      | none => none
      | some x => rd ns n least (some (.node 4 0 s.2 T x.1)) x.2))
    else if s.1 = 5 ∧ least ≤ sLv ns s then (if lvT ns T < sH ns s false then none else rd ns n least (some (.node 5 0 s.2 T .nil)) r)
    else some (T, s :: r)

theorem rd_len (ns : List OpR) : ∀ n least md ss x, rd ns n least md ss = some x → x.2.length ≤ ss.length
  | 0, _, _, _, _, h => by simp [rd] at h
  | n + 1, least, none, [], x, h => by simp [rd] at h
  | n + 1, least, none, s :: r, x, h => by
    simp only [rd] at h
    split at h
    · split at h
      · cases h
      · split at h
        · cases h
        · rename_i y hy
          have h1 := rd_len ns n _ _ _ _ hy
          have h2 := rd_len ns n _ _ _ _ h
          simp only [List.length_cons]; omega
    · split at h
      · split at h
        · cases h
        · rename_i y hy
          have h1 := rd_len ns n _ _ _ _ hy
          have h2 := rd_len ns n _ _ _ _ h
          have h3 : y.2.tail.length ≤ y.2.length := by simp
          simp only [List.length_cons]; omega
      · have h2 := rd_len ns n _ _ _ _ h
        simp only [List.length_cons]; omega
  | n + 1, least, some T, [], x, h => by
    simp only [rd, Option.some.injEq] at h
    subst h; simp
  | n + 1, least, some T, s :: r, x, h => by
    simp only [rd] at h
    split at h
    · split at h
      · cases h
      · split at h
        · cases h
        · rename_i y hy
          have h1 := rd_len ns n _ _ _ _ hy
          have h2 := rd_len ns n _ _ _ _ h
          simp only [List.length_cons]; omega
    · split at h
      · split at h
        · cases h
        · have h2 := rd_len ns n _ _ _ _ h
          simp only [List.length_cons]; omega
      · simp only [Option.some.injEq] at h
        subst h; simp

theorem rd_fuel (ns : List OpR) : ∀ n m least md ss, ss.length < n → ss.length < m → rd ns n least md ss = rd ns m least md ss
  | 0, _, _, _, _, h, _ => absurd h (Nat.not_lt_zero _)
  | _ + 1, 0, _, _, _, _, h => absurd h (Nat.not_lt_zero _)
  | n + 1, m + 1, least, none, [], _, _ => by simp [rd]
  | n + 1, m + 1, least, some T, [], _, _ => by simp [rd]
  | n + 1, m + 1, least, none, s :: r, h, h' => by
    simp only [List.length_cons] at h h'
    have e1 := fun l => rd_fuel ns n m l none r (by omega) (by omega)
    have e2 := fun l md q => fun (hq : q.length ≤ r.length) => rd_fuel ns n m l md q (by omega) (by omega)
    simp only [rd, e1]
    split
    · split
      · rfl
      · cases hy : rd ns m (sH ns s false) none r with
        | none => rfl
        | some y => exact e2 _ _ _ (rd_len ns m _ _ _ _ hy)
    · split
      · cases hy : rd ns m 0 none r with
        | none => rfl
        | some y => exact e2 _ _ _ (by have := rd_len ns m _ _ _ _ hy; simp; omega)
      · exact e2 _ _ _ (Nat.le_refl _)
  | n + 1, m + 1, least, some T, s :: r, h, h' => by
    simp only [List.length_cons] at h h'
    have e1 := fun l => rd_fuel ns n m l none r (by omega) (by omega)
    have e2 := fun l md q => fun (hq : q.length ≤ r.length) => rd_fuel ns n m l md q (by omega) (by omega)
    simp only [rd, e1]
    split
    · split
      · rfl
      · cases hy : rd ns m (sH ns s true) none r with
        | none => rfl
        | some y => exact e2 _ _ _ (rd_len ns m _ _ _ _ hy)
    · split
      · split
        · rfl
        · exact e2 _ _ _ (Nat.le_refl _)
      · rfl

/-- The reader, with as many steps as it may want. -/
def RD (ns : List OpR) (least : Int) (md : Option ET) (ss : List SyR) : Option (ET × List SyR) := rd ns (ss.length + 1) least md ss

theorem rd_RD (ns : List OpR) (n : Nat) (least : Int) (md : Option ET) (ss : List SyR) (h : ss.length < n) : rd ns n least md ss = RD ns least md ss :=
  rd_fuel ns _ _ _ _ _ h (Nat.lt_succ_self _)

theorem RD_none (ns : List OpR) (least : Int) (s : SyR) (r : List SyR) : RD ns least none (s :: r) =
    if s.1 = 3 then (if sLv ns s < least then none else (match RD ns (sH ns s false) none r with
      | none => none
      | some x => RD ns least (some (.node 3 0 s.2 x.1 .nil)) x.2))
    else if s.1 = 6 then (match RD ns 0 none r with
      | none => none
      | some x => RD ns least (some (.node 6 0 ByteArray.empty x.1 .nil)) x.2.tail)
    else RD ns least (some (.node s.1 0 s.2 .nil .nil)) r := by
  have e : RD ns least none (s :: r) = rd ns (r.length + 1 + 1) least none (s :: r) := rfl
  have e1 : ∀ l, rd ns (r.length + 1) l none r = RD ns l none r := fun l => rfl
  have e2 : ∀ l md q, q.length ≤ r.length → rd ns (r.length + 1) l md q = RD ns l md q := fun l md q hq => rd_RD ns _ l md q (by omega)
  rw [e]
  simp only [rd, e1]
  split
  · split
    · rfl
    · cases hy : RD ns (sH ns s false) none r with
      | none => rfl
      | some y => exact e2 _ _ _ (rd_len ns _ _ _ _ _ hy)
  · split
    · cases hy : RD ns 0 none r with
      | none => rfl
      | some y => exact e2 _ _ _ (by have := rd_len ns _ _ _ _ _ hy; simp; omega)
    · rfl

theorem RD_some (ns : List OpR) (least : Int) (T : ET) (s : SyR) (r : List SyR) : RD ns least (some T) (s :: r) =
    if s.1 = 4 ∧ least ≤ sLv ns s then (if lvT ns T < sH ns s false then none else (match RD ns (sH ns s true) none r with
      | none => none
      | some x => RD ns least (some (.node 4 0 s.2 T x.1)) x.2))
    else if s.1 = 5 ∧ least ≤ sLv ns s then (if lvT ns T < sH ns s false then none else RD ns least (some (.node 5 0 s.2 T .nil)) r)
    else some (T, s :: r) := by
  have e : RD ns least (some T) (s :: r) = rd ns (r.length + 1 + 1) least (some T) (s :: r) := rfl
  have e1 : ∀ l, rd ns (r.length + 1) l none r = RD ns l none r := fun l => rfl
  have e2 : ∀ l md q, q.length ≤ r.length → rd ns (r.length + 1) l md q = RD ns l md q := fun l md q hq => rd_RD ns _ l md q (by omega)
  rw [e]
  simp only [rd, e1]
  split
  · split
    · rfl
    · cases hy : RD ns (sH ns s true) none r with
      | none => rfl
      | some y => exact e2 _ _ _ (rd_len ns _ _ _ _ _ hy)
  · split
    · split
      · rfl
      · rfl
    · rfl

/-- No operator that stands next goes on with an operand of that level. -/
def StopS (ns : List OpR) (least : Int) (ss : List SyR) : Prop := ∀ s r, ss = s :: r → (s.1 = 4 ∨ s.1 = 5) → sLv ns s < least

theorem RD_stop {ns : List OpR} {least : Int} {ss : List SyR} (h : StopS ns least ss) (T : ET) : RD ns least (some T) ss = some (T, ss) := by
  cases ss with
  | nil => rfl
  | cons s r =>
    have hs := h s r rfl
    rw [RD_some, if_neg (fun x => by have := hs (Or.inl x.1); omega), if_neg (fun x => by have := hs (Or.inr x.1); omega)]

/-- Nor with one at the right end of a tree. -/
def RStop (ns : List OpR) : ET → List SyR → Prop
  | .nil, _ => True
  | .node b _ t l r, ss => (b = 3 → StopS ns (sH ns (b, t) false) ss ∧ RStop ns l ss) ∧ (b = 4 → StopS ns (sH ns (b, t) true) ss ∧ RStop ns r ss)

theorem stop_other {ns : List OpR} {least : Int} {s : SyR} {r : List SyR} (h : ¬ (s.1 = 4 ∨ s.1 = 5)) : StopS ns least (s :: r) := fun s' r' e hs => by
  injection e with e1 e2
  subst e1
  exact absurd hs h

theorem rstop_other {ns : List OpR} {s : SyR} {r : List SyR} (h : ¬ (s.1 = 4 ∨ s.1 = 5)) : ∀ T : ET, RStop ns T (s :: r)
  | .nil => trivial
  | .node b o t l q => ⟨fun _ => ⟨stop_other h, rstop_other h l⟩, fun _ => ⟨stop_other h, rstop_other h q⟩⟩

theorem stop_nil {ns : List OpR} {least : Int} : StopS ns least [] := fun s r e => by cases e

theorem rstop_above {ns : List OpR} (hv : IsCode ns 0) {q : SyR} {r : List SyR} : ∀ T : ET, GoodT ns T → sLv ns q < lvT ns T → RStop ns T (q :: r) := by
  intro T
  induction T with
  | nil => intro h; exact h.elim
  | node b o t l rr ihl ihr =>
    rintro ⟨_, h⟩ hq
    have st : ∀ m : Int, sLv ns q < m → StopS ns m (q :: r) := fun m hm s' r' e _ => by
      injection e with e1 e2
      subst e1
      exact hm
    refine ⟨fun e => ?_, fun e => ?_⟩
    · subst e
      rcases h with ⟨h | h, _⟩ | ⟨h, _⟩ | ⟨_, hk, hl, _, hh⟩ | ⟨h, _⟩
      · omega
      · omega
      · omega
      · have f := (opF hv (Or.inl rfl) hk).pre rfl
        simp only [lvT] at hq
        exact ⟨st _ (by omega), ihl hl (by omega)⟩
      · omega
    · subst e
      rcases h with ⟨h | h, _⟩ | ⟨h, _⟩ | ⟨h | h, _⟩ | ⟨_, hk, hl, hr, h1, h2⟩
      · omega
      · omega
      · omega
      · omega
      · omega
      · have f := (opF hv (Or.inr (Or.inl rfl)) hk).mid rfl
        simp only [lvT] at hq
        exact ⟨st _ (by omega), ihr hr (by omega)⟩

/-- A tree that fits into the first hole of an operator stops there. -/
theorem rstop_fit {ns : List OpR} (hv : IsCode ns 0) {q : SyR} {r : List SyR} (hq : q.1 = 4 ∨ q.1 = 5) (hkq : knB ns q = true) : ∀ T : ET, GoodT ns T → sH ns q false ≤ lvT ns T → RStop ns T (q :: r) := by
  intro T hT hle
  have fq := opF hv (by omega) hkq
  have hh : sH ns q false = sLv ns q + 1 ∨ (sH ns q false = sLv ns q ∧ sSo ns q = 1) := by
    rcases hq with e | e
    · rcases fq.mid e with h | h | h
      · exact Or.inr ⟨h.2.1, h.1⟩
      · exact Or.inl h.2.1
      · exact Or.inl h.2.1
    · exact Or.inr (fq.post e)
  by_cases hlt : sLv ns q < lvT ns T
  · exact rstop_above hv T hT hlt
  · have heq : lvT ns T = sLv ns q ∧ sSo ns q = 1 := by
      rcases hh with h | ⟨h, h'⟩
      · omega
      · exact ⟨by omega, h'⟩
    cases T with
    | nil => exact hT.elim
    | node b o t l rr =>
      obtain ⟨_, h⟩ := hT
      simp only [lvT] at heq
      have st : ∀ m : Int, sLv ns q < m → StopS ns m (q :: r) := fun m hm s' r' e _ => by
        injection e with e1 e2
        subst e1
        exact hm
      refine ⟨fun e => ?_, fun e => ?_⟩
      · subst e
        rcases h with ⟨h | h, _⟩ | ⟨h, _⟩ | ⟨_, hk, hl, _, hh⟩ | ⟨h, _⟩
        · omega
        · omega
        · omega
        · have f := (opF hv (Or.inl rfl) hk).pre rfl
          have := same_sort hv (s := (3, t)) (s' := q) (Or.inl rfl) (by omega) hk hkq heq.1
          omega
        · omega
      · subst e
        rcases h with ⟨h | h, _⟩ | ⟨h, _⟩ | ⟨h | h, _⟩ | ⟨_, hk, hl, hr, h1, h2⟩
        · omega
        · omega
        · omega
        · omega
        · omega
        · have f := (opF hv (Or.inr (Or.inl rfl)) hk).mid rfl
          have := same_sort hv (s := (4, t)) (s' := q) (Or.inr (Or.inl rfl)) (by omega) hk hkq heq.1
          have e2 : sH ns (4, t) true = sLv ns (4, t) + 1 := by
            rcases f with h | h | h
            · exact h.2.2
            · omega
            · omega
          exact ⟨st _ (by omega), rstop_above hv rr hr (by omega)⟩

/-- The reader finds an admissible tree. -/
theorem rd_finds {ns : List OpR} (hv : IsCode ns 0) : ∀ (T : ET), GoodT ns T → ∀ (least : Int) (rest : List SyR), least ≤ lvT ns T → RStop ns T rest → RD ns least none (ySy T ++ rest) = RD ns least (some T) rest := by
  intro T
  induction T with
  | nil => intro h; exact h.elim
  | node b o t l r ihl ihr =>
    rintro ⟨rfl, h⟩ least rest hle hst
    simp only [lvT] at hle
    rcases h with ⟨h12, rfl, rfl⟩ | ⟨rfl, rfl, hl, rfl⟩ | ⟨h35, hk, hl, rfl, hh⟩ | ⟨rfl, hk, hl, hr, h1, h2⟩
    · have e : ySy (.node b 0 t .nil .nil) = [(b, t)] := by
        simp only [ySy]
        rw [if_neg (by omega), if_neg (by omega), if_neg (by omega), if_neg (by omega)]
      rw [e]
      show RD ns least none ((b, t) :: rest) = _
      rw [RD_none]
      simp only
      rw [if_neg (by omega), if_neg (by omega)]
    · have e : ySy (.node 6 0 ByteArray.empty l .nil) ++ rest = (6, opn) :: (ySy l ++ ((7, cls1) :: rest)) := by
        simp [ySy]
      rw [e, RD_none]
      simp only
      rw [if_neg (by decide), if_pos trivial]
      have hs : ¬ ((7, cls1) : SyR).1 = 4 ∧ ¬ ((7, cls1) : SyR).1 = 5 := ⟨by decide, by decide⟩
      have h0 : (0 : Int) ≤ lvT ns l := by
        cases l with
        | nil => exact hl.elim
        | node bb oo tt ll rr =>
          simp only [lvT]
          by_cases hb : bb = 3 ∨ bb = 4 ∨ bb = 5
          · have hkn : knB ns (bb, tt) = true := by
              rcases hl.2 with ⟨h | h, _⟩ | ⟨h, _⟩ | ⟨_, hk, _⟩ | ⟨_, hk, _⟩
              · omega
              · omega
              · omega
              · exact hk
              · exact hk
            have := (opF hv (s := (bb, tt)) hb hkn).lo
            omega
          · rw [lv_closed ns bb tt hb]; omega
      rw [ihl hl 0 _ h0 (rstop_other (by omega) l), RD_stop (stop_other (by omega))]
      rfl
    · rcases h35 with rfl | rfl
      · have f := (opF hv (Or.inl rfl) hk).pre rfl
        have e : ySy (.node 3 0 t l .nil) ++ rest = (3, t) :: (ySy l ++ rest) := by simp [ySy]
        obtain ⟨hst1, hst2⟩ := hst.1 rfl
        rw [e, RD_none]
        simp only
        rw [if_pos trivial, if_neg (by omega), ihl hl _ rest hh hst2, RD_stop hst1]
      · have f := (opF hv (Or.inr (Or.inr rfl)) hk).post rfl
        have e : ySy (.node 5 0 t l .nil) ++ rest = ySy l ++ ((5, t) :: rest) := by simp [ySy]
        rw [e, ihl hl least _ (by omega) (rstop_fit hv (q := (5, t)) (Or.inr rfl) hk l hl hh), RD_some]
        simp only
        rw [if_neg (by omega), if_pos ⟨trivial, hle⟩, if_neg (by omega)]
    · have f := (opF hv (Or.inr (Or.inl rfl)) hk).mid rfl
      have e : ySy (.node 4 0 t l r) ++ rest = ySy l ++ ((4, t) :: (ySy r ++ rest)) := by simp [ySy]
      obtain ⟨hst1, hst2⟩ := hst.2 rfl
      rw [e, ihl hl least _ (by omega) (rstop_fit hv (q := (4, t)) (Or.inl rfl) hk l hl h1), RD_some]
      simp only
      rw [if_pos ⟨trivial, hle⟩, if_neg (by omega), ihr hr _ rest h2 hst2, RD_stop hst1]

end Go.Proofs.YtokabkhnidlcnabGreat
