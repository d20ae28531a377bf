import Derived.Maps.AppendAt
import Derived.Deep.RegionHeldLaw
import Derived.Test.YtfboipappaonhaaGreatU02
import Derived.Test.YtfboipappaonhaaGreatU07
import Derived.Test.YtfboipappaonhaaGreatU08
import Derived.Test.YtfboipappaonhaaGreatU15
import Derived.Test.YtfboipappaonhaaGreatU16

/-
  The program's inner trees, as values: what stands for a node, and for a node in a hole.
-/
namespace Go.Proofs.YtfboipappaonhaaGreat
set_option maxRecDepth 100000
set_option linter.unusedSimpArgs false
set_option linter.unusedVariables false
open Go.RowKit

def eNum (t : ByteArray) : Value := .iface 119 (.agg #[.string t])
def eName (t : ByteArray) : Value := .iface 121 (.agg #[.string t])
def ePre (p : OpR) (e : Value) : Value := .iface 129 (.agg #[.string p.s, .int .i64 p.k, .int .i64 p.l, .int .i64 p.sd, e])
def ePost (p : OpR) (e : Value) : Value := .iface 132 (.agg #[.string p.s, .int .i64 p.k, .int .i64 p.l, .int .i64 p.sd, e])
def eInf (p : OpR) (e e' : Value) : Value := .iface 131 (.agg #[.string p.s, .int .i64 p.k, .int .i64 p.l, .int .i64 p.sd, e, e'])
def eGrp (e : Value) : Value := .iface 134 (.agg #[e])

/-- The operator of a node. -/
def opA (ns : List OpR) (o : NodeR) : OpR := match fnd ns o.t (o.k - 2) with
  | some j => atO ns j
  | none => ⟨ByteArray.empty, 0, 0, 0⟩

/-- A node over its kids. -/
def exN (p : OpR) (o : NodeR) (e e' : Value) : Value :=
  if o.k = 1 then eNum o.t else if o.k = 2 then eName o.t else if o.k = 3 then ePre p e else if o.k = 4 then eInf p e e' else if o.k = 5 then ePost p e else eGrp e

/-- The first k nodes. -/
def exL (ns : List OpR) (xs : List NodeR) : Nat → List Value
  | 0 => []
  | k + 1 => exL ns xs k ++ [exN (opA ns (atN xs k)) (atN xs k) ((exL ns xs k).getD (atN xs k).a.toNat .nilIface) ((exL ns xs k).getD (atN xs k).b.toNat .nilIface)]

theorem exL_len (ns : List OpR) (xs : List NodeR) : ∀ k, (exL ns xs k).length = k
  | 0 => rfl
  | k + 1 => by simp [exL, exL_len ns xs k]

def exS (ns : List OpR) (xs : List NodeR) (i : Nat) : Value := (exL ns xs (i + 1)).getD i .nilIface

theorem exS_is (ns : List OpR) (xs : List NodeR) (i : Nat) : exS ns xs i = exN (opA ns (atN xs i)) (atN xs i) ((exL ns xs i).getD (atN xs i).a.toNat .nilIface) ((exL ns xs i).getD (atN xs i).b.toNat .nilIface) := by
  have h := exL_len ns xs i
  unfold exS
  show (exL ns xs i ++ [_]).getD i .nilIface = _
  simp [List.getD, List.getElem?_append, h]

theorem exL_get (ns : List OpR) (xs : List NodeR) : ∀ k i, i < k → (exL ns xs k).getD i .nilIface = exS ns xs i
  | 0, _, h => absurd h (Nat.not_lt_zero _)
  | k + 1, i, h => by
    by_cases e : i = k
    · subst e; rfl
    · have hl := exL_len ns xs k
      rw [← exL_get ns xs k i (by omega)]
      show (exL ns xs k ++ [_]).getD i .nilIface = _
      simp [List.getD, List.getElem?_append, hl, (by omega : i < k)]

theorem exS_one {ns : List OpR} {xs : List NodeR} {i : Nat} (h1 : 1 ≤ i) (ha : (atN xs i).a = (i : Int) - 1) (e' : Value) (hk : kids (atN xs i).k = 1) : exS ns xs i = exN (opA ns (atN xs i)) (atN xs i) (exS ns xs (i - 1)) e' := by
  rw [exS_is, ha]
  have : ((i : Int) - 1).toNat = i - 1 := by omega
  rw [this, exL_get ns xs i (i - 1) (by omega)]
  have h4 : (atN xs i).k ≠ 4 := fun e => by rw [e] at hk; simp [kids] at hk
  simp only [exN, if_neg h4]

theorem exS_two {ns : List OpR} {xs : List NodeR} {i j : Nat} (h1 : 1 ≤ i) (ha : (atN xs i).a = (j : Int)) (hj : j < i) (hb : (atN xs i).b = (i : Int) - 1) : exS ns xs i = exN (opA ns (atN xs i)) (atN xs i) (exS ns xs j) (exS ns xs (i - 1)) := by
  rw [exS_is, ha, hb]
  have : ((i : Int) - 1).toNat = i - 1 := by omega
  rw [this, exL_get ns xs i (i - 1) (by omega), Int.toNat_natCast, exL_get ns xs i j hj]

/-- Brackets, where they are wanted. -/
def closV (ns : List OpR) (o : NodeR) (least : Int) (e : Value) : Value := if levN ns o < least then eGrp e else e

/-- Node i in a hole with that least. -/
def ft (ns : List OpR) (xs : List NodeR) : Nat → Nat → Int → Value
  | 0, _, _ => .nilIface
  | n + 1, i, least =>
    if (atN xs i).k = 6 then ft ns xs n (i - 1) least
    else if kids (atN xs i).k = 0 then closV ns (atN xs i) least (exN (opA ns (atN xs i)) (atN xs i) .nilIface .nilIface)
    else if kids (atN xs i).k = 1 then closV ns (atN xs i) least (exN (opA ns (atN xs i)) (atN xs i) (ft ns xs n (i - 1) (holeN ns (atN xs i) false)) .nilIface)
    else closV ns (atN xs i) least (exN (opA ns (atN xs i)) (atN xs i) (ft ns xs n (atN xs i).a.toNat (holeN ns (atN xs i) false)) (ft ns xs n (i - 1) (holeN ns (atN xs i) true)))

theorem ft_fuel (ns : List OpR) (xs : List NodeR) : ∀ n m i f, i < n → i < m → frS xs i = some f → ∀ l, ft ns xs n i l = ft ns xs m i l
  | 0, _, _, _, h, _, _ => absurd h (Nat.not_lt_zero _)
  | _ + 1, 0, _, _, _, h, _ => absurd h (Nat.not_lt_zero _)
  | n + 1, m + 1, i, f, h, h', hf => by
    intro l
    rcases frS_some hf with ⟨hk, ha, hb, hfi⟩ | ⟨hk, h1i, ha, hbb, hf1⟩ | ⟨hk, h1i, hbb, f2, hf2, h2f, ha, hf1⟩
    · have h6 : (atN xs i).k ≠ 6 := fun e => by rw [e] at hk; simp [kids] at hk
      simp only [ft, if_neg h6, hk, if_true]
    · have e := ft_fuel ns xs n m (i - 1) f (by omega) (by omega) hf1
      simp only [ft, e]
      by_cases h6 : (atN xs i).k = 6
      · rw [if_pos h6, if_pos h6]
      · simp only [if_neg h6, hk, if_true, Nat.one_ne_zero, if_false]
    · have h6 : (atN xs i).k ≠ 6 := fun e => by rw [e] at hk; simp [kids] at hk
      have hle := frS_le hf2
      have e1 := ft_fuel ns xs n m (i - 1) f2 (by omega) (by omega) hf2
      have e2 := ft_fuel ns xs n m (f2 - 1) f (by omega) (by omega) hf1
      have ea : (atN xs i).a.toNat = f2 - 1 := by omega
      simp only [ft, if_neg h6, ea, e1, e2]

def fS (ns : List OpR) (xs : List NodeR) (i : Nat) (l : Int) : Value := ft ns xs (i + 1) i l

theorem fS_zero {ns : List OpR} {xs : List NodeR} {i : Nat} (hk : kids (atN xs i).k = 0) (l : Int) : fS ns xs i l = closV ns (atN xs i) l (exN (opA ns (atN xs i)) (atN xs i) .nilIface .nilIface) := by
  have h6 : (atN xs i).k ≠ 6 := fun e => by rw [e] at hk; simp [kids] at hk
  simp only [fS, ft, if_neg h6, hk, if_true]

theorem fS_group {ns : List OpR} {xs : List NodeR} {i f : Nat} (hk : (atN xs i).k = 6) (h1 : 1 ≤ i) (hf : frS xs (i - 1) = some f) (l : Int) : fS ns xs i l = fS ns xs (i - 1) l := by
  have e : fS ns xs i l = ft ns xs i (i - 1) l := by simp only [fS, ft, if_pos hk]
  rw [e]
  exact ft_fuel ns xs _ _ _ f (by omega) (by omega) hf l

theorem fS_one {ns : List OpR} {xs : List NodeR} {i f : Nat} (hk : kids (atN xs i).k = 1) (h6 : (atN xs i).k ≠ 6) (h1 : 1 ≤ i) (hf : frS xs (i - 1) = some f) (l : Int) :
    fS ns xs i l = closV ns (atN xs i) l (exN (opA ns (atN xs i)) (atN xs i) (fS ns xs (i - 1) (holeN ns (atN xs i) false)) .nilIface) := by
  have e := ft_fuel ns xs i (i - 1 + 1) (i - 1) f (by omega) (by omega) hf
  unfold fS
  conv => lhs; unfold ft
  simp only [if_neg h6, hk, if_true, Nat.one_ne_zero, if_false, e]

theorem fS_two {ns : List OpR} {xs : List NodeR} {i f f2 : Nat} (hk : kids (atN xs i).k = 2) (h1 : 1 ≤ i) (hf2 : frS xs (i - 1) = some f2) (h2 : 1 ≤ f2) (ha : (atN xs i).a = (f2 : Int) - 1) (hf : frS xs (f2 - 1) = some f) (l : Int) :
    fS ns xs i l = closV ns (atN xs i) l (exN (opA ns (atN xs i)) (atN xs i) (fS ns xs (f2 - 1) (holeN ns (atN xs i) false)) (fS ns xs (i - 1) (holeN ns (atN xs i) true))) := by
  have h6 : (atN xs i).k ≠ 6 := fun e => by rw [e] at hk; simp [kids] at hk
  have hle := frS_le hf2
  have e1 := ft_fuel ns xs i (i - 1 + 1) (i - 1) f2 (by omega) (by omega) hf2
  have e2 := ft_fuel ns xs i (f2 - 1 + 1) (f2 - 1) f (by omega) (by omega) hf
  have ea : (atN xs i).a.toNat = f2 - 1 := by omega
  unfold fS
  conv => lhs; unfold ft
  simp only [if_neg h6, ea, e1, e2, hk]
  rfl
end Go.Proofs.YtfboipappaonhaaGreat

/-
  Walks: the nodes of the program's inner trees, put behind a row (appendTo).
-/
namespace Go.Proofs.YtfboipappaonhaaGreat
set_option maxRecDepth 100000
set_option linter.unusedSimpArgs false
set_option linter.unusedVariables false
open Go.RowKit

theorem row_slice {w : World} {B n : Nat} {e : TypeId} {u : Value} {xs : List Value} (h : w.ownsRow B e 4 u n xs) : ∃ a c, u = .slice a n c := by
  obtain ⟨_, ⟨rfl, rfl⟩ | ⟨g, cap, cur, rfl, _⟩⟩ := h
  · exact ⟨none, 0, rfl⟩
  · exact ⟨_, _, rfl⟩

/-- A row of nodes behind which one may be put. -/
def RowV (w : World) (B : Nat) (u : Value) (us : List NodeR) : Prop := w.ownsRow B 81 4 u us.length (cellsN us)

theorem RowV.below {w w' : World} {B : Nat} {u : Value} {us : List NodeR} (h : RowV w B u us) (hb : Below w.heap.size w w') : RowV w' B u us :=
  World.ownsRow.kept h (grown_belN hb none) (by cases u.ownBlock with
  | none => exact Or.inl rfl
  | some k => exact Or.inr (by simp))

theorem RowV.lt {w : World} {B : Nat} {u : Value} {us : List NodeR} (h : RowV w B u us) : ∀ g, u.ownBlock = some g → g < w.heap.size := fun g hg => (World.ownsRow.lt h g hg).2

/-- What a call of appendTo hands back. -/
def AppPost (w : World) (B : Nat) (u : Value) (vs : List NodeR) (x : Ending) (w' : World) : Prop :=
  ∃ u', x = .returned u' ∧ Hid (RowV w' B u' vs) ∧ Hid (w.grownBy w' u.ownBlock) ∧ Hid (u'.ownBlock = u.ownBlock ∨ ∃ k, u'.ownBlock = some k ∧ w.heap.size ≤ k)

/-- A value whose appendTo puts certain nodes behind a row. -/
def AppIs (e : Value) (F : Nat → List NodeR) : Prop := ∃ T v f, e = .iface T v ∧ (∀ w, (method 342 T v "loop.example/s0059/impl.appendTo").run Tryz.prog w = .ok (f, v) w) ∧ (∀ a w, (callFunc f a).run Tryz.prog w = .ok (.enter f a) w) ∧
  ∀ (B : Nat) (u : Value) (us vs : List NodeR) (w : World), RowV w B u us → B ≤ w.heap.size → us.length + (F us.length).length ≤ 100000 → vs = us ++ F us.length → Calls Tryz.prog f #[v, u] w (AppPost w B u vs)

set_option maxHeartbeats 1000000 in
theorem app_num (t : ByteArray) : AppIs (eNum t) (fun _ => [⟨1, t, 0, 0⟩]) := by
  refine ⟨_, _, 187, rfl, fun w => by kernel_rfl, fun a w => by kernel_rfl, ?_⟩
  intro B u us vs w hrow hB hlen hvs
  obtain ⟨i0, hi0, hz0, hz1, hz2⟩ : ∃ i, Tryz.prog.info? 81 = some i ∧ i.zero = some (.agg #[.int .i64 0, .string ⟨#[]⟩, .int .i64 0, .int .i64 0]) ∧ i.size = 4 ∧ i.bytes = 40 := by
    obtain ⟨i, hi, hz⟩ := Option.map_eq_some_iff.1 infoN
    simp only [Prod.mk.injEq] at hz
    exact ⟨i, hi, hz.1, hz.2.1, hz.2.2⟩
  have HI := hide hi0
  have HZ := hide (And.intro hz0 (And.intro hz1 hz2))
  clear hi0 hz0 hz1 hz2
  obtain ⟨a, c, rfl⟩ := row_slice hrow
  have HR := hide hrow
  have HV := hide hvs
  simp only [List.length_cons, List.length_nil] at hlen
  clear hrow hvs
  go_enter Tryz.func187, Tryz.ntmps187
  go_wp2_with (at_builtin; refine wpList_append_own_at _ rfl (.tmp 5) (.tmp 10) 26 rfl B 81 i0 _ 4 40 Tryz.underlying26 (unhide HI) (unhide HZ).1 (unhide HZ).2.1 (unhide HZ).2.2 rfl (by decide) _ us.length (cellsN us) rfl (((unhide HR).below (below1 _ _)).below (below1 _ _)) ⟨w.heap.size + 1, 0, none⟩ 1 1 (cellsN [⟨1, t, 0, 0⟩]) rfl rfl (by simpa using new_newsN (w.alloc _) ⟨1, t, 0, 0⟩) (cellsN_one' _) ?b1 ?b2 ?b3 ?next)
  case b1 => unfold maxLen; omega
  case b2 => omega
  case b3 => first | omega | (simp; omega)
  case next =>
    intro v4 w4 hown4 hgrow4 hnil4 hat4
    have HO := hide (show RowV w4 B v4 vs by
      rw [unhide HV]
      unfold RowV
      rw [cellsN_append, List.length_append]
      exact hown4)
    have HG := hide (grown_below ((below1 _ _).alloc (by simp) _) hgrow4)
    have HA := hide (show v4.ownBlock = (Value.slice a us.length c).ownBlock ∨ ∃ k, v4.ownBlock = some k ∧ w.heap.size ≤ k from hat4.imp id (fun h => ⟨_, h, by first | omega | (simp; omega)⟩))
    clear hown4 hgrow4 hnil4 hat4
    go_wp2_with fail
    go_ret
    exact ⟨v4, rfl, HO, HG, HA⟩

set_option maxHeartbeats 1000000 in
theorem app_name (t : ByteArray) : AppIs (eName t) (fun _ => [⟨2, t, 0, 0⟩]) := by
  refine ⟨_, _, 188, rfl, fun w => by kernel_rfl, fun a w => by kernel_rfl, ?_⟩
  intro B u us vs w hrow hB hlen hvs
  obtain ⟨i0, hi0, hz0, hz1, hz2⟩ : ∃ i, Tryz.prog.info? 81 = some i ∧ i.zero = some (.agg #[.int .i64 0, .string ⟨#[]⟩, .int .i64 0, .int .i64 0]) ∧ i.size = 4 ∧ i.bytes = 40 := by
    obtain ⟨i, hi, hz⟩ := Option.map_eq_some_iff.1 infoN
    simp only [Prod.mk.injEq] at hz
    exact ⟨i, hi, hz.1, hz.2.1, hz.2.2⟩
  have HI := hide hi0
  have HZ := hide (And.intro hz0 (And.intro hz1 hz2))
  clear hi0 hz0 hz1 hz2
  obtain ⟨a, c, rfl⟩ := row_slice hrow
  have HR := hide hrow
  have HV := hide hvs
  simp only [List.length_cons, List.length_nil] at hlen
  clear hrow hvs
  go_enter Tryz.func188, Tryz.ntmps188
  go_wp2_with (at_builtin; refine wpList_append_own_at _ rfl (.tmp 5) (.tmp 10) 26 rfl B 81 i0 _ 4 40 Tryz.underlying26 (unhide HI) (unhide HZ).1 (unhide HZ).2.1 (unhide HZ).2.2 rfl (by decide) _ us.length (cellsN us) rfl (((unhide HR).below (below1 _ _)).below (below1 _ _)) ⟨w.heap.size + 1, 0, none⟩ 1 1 (cellsN [⟨2, t, 0, 0⟩]) rfl rfl (by simpa using new_newsN (w.alloc _) ⟨2, t, 0, 0⟩) (cellsN_one' _) ?b1 ?b2 ?b3 ?next)
  case b1 => unfold maxLen; omega
  case b2 => omega
  case b3 => first | omega | (simp; omega)
  case next =>
    intro v4 w4 hown4 hgrow4 hnil4 hat4
    have HO := hide (show RowV w4 B v4 vs by
      rw [unhide HV]
      unfold RowV
      rw [cellsN_append, List.length_append]
      exact hown4)
    have HG := hide (grown_below ((below1 _ _).alloc (by simp) _) hgrow4)
    have HA := hide (show v4.ownBlock = (Value.slice a us.length c).ownBlock ∨ ∃ k, v4.ownBlock = some k ∧ w.heap.size ≤ k from hat4.imp id (fun h => ⟨_, h, by first | omega | (simp; omega)⟩))
    clear hown4 hgrow4 hnil4 hat4
    go_wp2_with fail
    go_ret
    exact ⟨v4, rfl, HO, HG, HA⟩

/-- The nodes of a kid and one over it. -/
def overF (F : Nat → List NodeR) (k : Int) (t : ByteArray) (s : Nat) : List NodeR := F s ++ [⟨k, t, ((s + (F s).length : Nat) : Int) - 1, 0⟩]

set_option maxHeartbeats 1000000 in
theorem appendOver_any {e : Value} {F : Nat → List NodeR} (h : AppIs e F) (k : Int) (t : ByteArray) (B : Nat) (u : Value) (us vs : List NodeR) (w : World) (hrow : RowV w B u us) (hB : B ≤ w.heap.size) (hlen : us.length + (overF F k t us.length).length ≤ 100000) (hvs : vs = us ++ overF F k t us.length) :
    Calls Tryz.prog 192 #[.agg #[e], u, .int .i64 k, .string t] w (AppPost w B u vs) := by
  obtain ⟨i0, hi0, hz0, hz1, hz2⟩ : ∃ i, Tryz.prog.info? 81 = some i ∧ i.zero = some (.agg #[.int .i64 0, .string ⟨#[]⟩, .int .i64 0, .int .i64 0]) ∧ i.size = 4 ∧ i.bytes = 40 := by
    obtain ⟨i, hi, hz⟩ := Option.map_eq_some_iff.1 infoN
    simp only [Prod.mk.injEq] at hz
    exact ⟨i, hi, hz.1, hz.2.1, hz.2.2⟩
  have HI := hide hi0
  have HZ := hide (And.intro hz0 (And.intro hz1 hz2))
  clear hi0 hz0 hz1 hz2
  obtain ⟨T, v, f, rfl, hm, hcf, hcall⟩ := h
  have HC := hide hcall
  obtain ⟨a, c, rfl⟩ := row_slice hrow
  have HR := hide hrow
  obtain ⟨us1, HU1⟩ : ∃ us1, Hid (us1 = us ++ F us.length) := ⟨_, hide rfl⟩
  have hl1 : us1.length = us.length + (F us.length).length := by rw [unhide HU1, List.length_append]
  have hlen1 : us1.length + 1 ≤ 100000 := by
    simp only [overF, List.length_append, List.length_cons, List.length_nil] at hlen
    omega
  have HL0 := hide (show us.length + (F us.length).length ≤ 100000 by omega)
  have HV := hide (show vs = us1 ++ [⟨k, t, (us1.length : Int) - 1, 0⟩] by
    rw [hvs, unhide HU1, overF, List.length_append, List.append_assoc])
  clear hcall hrow hvs hlen hl1
  go_enter Tryz.func192, Tryz.ntmps192
  go_wp2_with fail
  refine ((unhide HC) B _ us us1 _ ((unhide HR).below (below1 _ _)) (by simp; omega) (unhide HL0) (unhide HU1)).mono ?_
  rintro x w1 ⟨u1, rfl, hr1, hg1, ho1⟩
  obtain ⟨a1, c1, rfl⟩ := row_slice (unhide hr1)
  have HG1 := hide (grown_below (below1 _ _) (unhide hg1))
  have HA1 := hide (show (Value.slice a1 us1.length c1).ownBlock = (Value.slice a us.length c).ownBlock ∨ ∃ k, (Value.slice a1 us1.length c1).ownBlock = some k ∧ w.heap.size ≤ k from (unhide ho1).imp id (fun ⟨k, h1, h2⟩ => ⟨k, h1, by simp at h2; omega⟩))
  have hz := (unhide HG1).size
  clear hg1 ho1 hm hcf
  go_wp2_with (at_builtin; refine wpList_append_own_at _ rfl (.tmp 13) (.tmp 20) 26 rfl B 81 i0 _ 4 40 Tryz.underlying26 (unhide HI) (unhide HZ).1 (unhide HZ).2.1 (unhide HZ).2.2 rfl (by decide) _ us1.length (cellsN us1) rfl ((unhide hr1).below (below1 _ _)) ⟨w1.heap.size, 0, none⟩ 1 1 (cellsN [⟨k, t, (us1.length : Int) - 1, 0⟩]) rfl rfl (by simpa using new_newsN w1 ⟨k, t, (us1.length : Int) - 1, 0⟩) (cellsN_one' _) ?b1 ?b2 ?b3 ?next)
  case b1 => unfold maxLen; omega
  case b2 => omega
  case b3 => first | omega | (simp; omega)
  case next =>
    intro v4 w4 hown4 hgrow4 hnil4 hat4
    have HO := hide (show RowV w4 B v4 vs by
      rw [unhide HV]
      unfold RowV
      rw [cellsN_append, List.length_append]
      exact hown4)
    have HG2 := hide (grown_below (below1 _ _) hgrow4)
    have HG := hide (grown_trans (unhide HG1) (unhide HG2) (unhide HA1))
    have HA := hide (grown_at (unhide HG1) (unhide HA1) v4.ownBlock (hat4.imp id (fun h => ⟨_, h, by first | omega | simp⟩)))
    clear hown4 hgrow4 hnil4 hat4 HG1 HG2 HA1
    go_wp2_with fail
    go_ret
    exact ⟨v4, rfl, HO, HG, HA⟩

theorem post_up {w w1 : World} {B : Nat} {u : Value} {vs : List NodeR} (h : Below w.heap.size w w1) {x : Ending} {w' : World} (hp : AppPost w1 B u vs x w') : AppPost w B u vs x w' := by
  obtain ⟨u', rfl, hr, hg, ho⟩ := hp
  have := h.size
  exact ⟨u', rfl, hr, hide (grown_below h (unhide hg)), hide ((unhide ho).imp id (fun ⟨k, h1, h2⟩ => ⟨k, h1, by omega⟩))⟩

set_option maxHeartbeats 1000000 in
theorem app_grp {e : Value} {F : Nat → List NodeR} (h : AppIs e F) : AppIs (eGrp e) (overF F 6 ByteArray.empty) := by
  refine ⟨_, _, 196, rfl, fun w => by kernel_rfl, fun a w => by kernel_rfl, ?_⟩
  intro B u us vs w hrow hB hlen hvs
  have HH := hide h
  obtain ⟨T, v, f, rfl, hm, hcf, hcall⟩ := h
  have HR := hide hrow
  have HV := hide hvs
  clear hcall hrow hvs hm hcf
  go_enter Tryz.func196, Tryz.ntmps196
  go_wp2_with fail
  refine (appendOver_any (unhide HH) 6 ByteArray.empty B _ us vs _ ((unhide HR).below (below1 _ _)) (by simp; omega) hlen (unhide HV)).mono ?_
  intro x w1 hp
  obtain ⟨u', rfl, hr, hg, ho⟩ := post_up (below1 _ _) hp
  go_wp2_with fail
  go_ret
  exact ⟨u', rfl, hr, hg, ho⟩

set_option maxHeartbeats 1000000 in
theorem app_pre {e : Value} {F : Nat → List NodeR} (h : AppIs e F) (p : OpR) : AppIs (ePre p e) (overF F 3 p.s) := by
  refine ⟨_, _, 191, rfl, fun w => by kernel_rfl, fun a w => by kernel_rfl, ?_⟩
  intro B u us vs w hrow hB hlen hvs
  have HH := hide h
  obtain ⟨T, v, f, rfl, hm, hcf, hcall⟩ := h
  have HR := hide hrow
  have HV := hide hvs
  clear hcall hrow hvs hm hcf
  go_enter Tryz.func191, Tryz.ntmps191
  go_wp2_with fail
  refine (appendOver_any (unhide HH) 3 p.s B _ us vs _ ((unhide HR).below (below1 _ _)) (by simp; omega) hlen (unhide HV)).mono ?_
  intro x w1 hp
  obtain ⟨u', rfl, hr, hg, ho⟩ := post_up (below1 _ _) hp
  go_wp2_with fail
  go_ret
  exact ⟨u', rfl, hr, hg, ho⟩

set_option maxHeartbeats 1000000 in
theorem app_post {e : Value} {F : Nat → List NodeR} (h : AppIs e F) (p : OpR) : AppIs (ePost p e) (overF F 5 p.s) := by
  refine ⟨_, _, 195, rfl, fun w => by kernel_rfl, fun a w => by kernel_rfl, ?_⟩
  intro B u us vs w hrow hB hlen hvs
  have HH := hide h
  obtain ⟨T, v, f, rfl, hm, hcf, hcall⟩ := h
  have HR := hide hrow
  have HV := hide hvs
  clear hcall hrow hvs hm hcf
  go_enter Tryz.func195, Tryz.ntmps195
  go_wp2_with fail
  refine (appendOver_any (unhide HH) 5 p.s B _ us vs _ ((unhide HR).below (below1 _ _)) (by simp; omega) hlen (unhide HV)).mono ?_
  intro x w1 hp
  obtain ⟨u', rfl, hr, hg, ho⟩ := post_up (below1 _ _) hp
  go_wp2_with fail
  go_ret
  exact ⟨u', rfl, hr, hg, ho⟩

/-- The nodes of two kids and one over them. -/
def bothF (F G : Nat → List NodeR) (t : ByteArray) (s : Nat) : List NodeR := (F s ++ G (s + (F s).length)) ++ [⟨4, t, ((s + (F s).length : Nat) : Int) - 1, ((s + (F s).length + (G (s + (F s).length)).length : Nat) : Int) - 1⟩]

set_option maxHeartbeats 2000000 in
theorem app_inf {e e' : Value} {F G : Nat → List NodeR} (h : AppIs e F) (h' : AppIs e' G) (p : OpR) : AppIs (eInf p e e') (bothF F G p.s) := by
  refine ⟨_, _, 193, rfl, fun w => by kernel_rfl, fun a w => by kernel_rfl, ?_⟩
  intro B u us vs w hrow hB hlen hvs
  obtain ⟨i0, hi0, hz0, hz1, hz2⟩ : ∃ i, Tryz.prog.info? 81 = some i ∧ i.zero = some (.agg #[.int .i64 0, .string ⟨#[]⟩, .int .i64 0, .int .i64 0]) ∧ i.size = 4 ∧ i.bytes = 40 := by
    obtain ⟨i, hi, hz⟩ := Option.map_eq_some_iff.1 infoN
    simp only [Prod.mk.injEq] at hz
    exact ⟨i, hi, hz.1, hz.2.1, hz.2.2⟩
  have HI := hide hi0
  have HZ := hide (And.intro hz0 (And.intro hz1 hz2))
  clear hi0 hz0 hz1 hz2
  obtain ⟨T, v, f, rfl, hm, hcf, hcall⟩ := h
  obtain ⟨T', v', f', rfl, hm', hcf', hcall'⟩ := h'
  have HC := hide hcall
  have HC' := hide hcall'
  obtain ⟨a, c, rfl⟩ := row_slice hrow
  have HR := hide hrow
  obtain ⟨us1, HU1⟩ : ∃ us1, Hid (us1 = us ++ F us.length) := ⟨_, hide rfl⟩
  have hl1 : us1.length = us.length + (F us.length).length := by rw [unhide HU1, List.length_append]
  obtain ⟨us2, HU2⟩ : ∃ us2, Hid (us2 = us1 ++ G us1.length) := ⟨_, hide rfl⟩
  have hl2 : us2.length = us1.length + (G us1.length).length := by rw [unhide HU2, List.length_append]
  have hlen1 : us2.length + 1 ≤ 100000 := by
    simp only [bothF, List.length_append, List.length_cons, List.length_nil, ← hl1] at hlen
    omega
  have HL0 := hide (show us.length + (F us.length).length ≤ 100000 by omega)
  have HL1 := hide (show us1.length + (G us1.length).length ≤ 100000 by omega)
  have hlen2 : us1.length ≤ 100000 := by omega
  have HV := hide (show vs = us2 ++ [⟨4, p.s, (us1.length : Int) - 1, (us2.length : Int) - 1⟩] by
    have e : us2 = us ++ (F us.length ++ G us1.length) := (unhide HU2).trans ((congrArg (· ++ G us1.length) (unhide HU1)).trans (List.append_assoc _ _ _))
    rw [hvs]
    unfold bothF
    rw [← hl1, ← hl2, ← List.append_assoc, ← e])
  clear hcall hrow hvs hlen hcall' hl1 hl2
  go_enter Tryz.func193, Tryz.ntmps193
  go_wp2_with fail
  refine ((unhide HC) B _ us us1 _ ((unhide HR).below (below1 _ _)) (by simp; omega) (unhide HL0) (unhide HU1)).mono ?_
  rintro x w1 ⟨u1, rfl, hr1, hg1, ho1⟩
  obtain ⟨a1, c1, rfl⟩ := row_slice (unhide hr1)
  have hnb : (Value.slice a us.length c).ownBlock ≠ some w.heap.size := fun e => by have := (unhide HR).lt _ e; omega
  have q0 : w1.cell? ⟨w.heap.size, 0, none⟩ = some (.string p.s) := (grown_cell (unhide hg1) (b := w.heap.size) (by simp) hnb 0).trans (by simp [go_sem])
  have q5 : w1.cell? ⟨w.heap.size, 5, none⟩ = some (.iface T' v') := (grown_cell (unhide hg1) (b := w.heap.size) (by simp) hnb 5).trans (by simp [go_sem])
  have HG1 := hide (grown_below (below1 _ _) (unhide hg1))
  have HA0 := hide (unhide ho1)
  have HA1 := hide (show (Value.slice a1 us1.length c1).ownBlock = (Value.slice a us.length c).ownBlock ∨ ∃ k, (Value.slice a1 us1.length c1).ownBlock = some k ∧ w.heap.size ≤ k from (unhide ho1).imp id (fun ⟨k, h1, h2⟩ => ⟨k, h1, by simp at h2; omega⟩))
  have hz := (unhide HG1).size
  have hz1 : w.heap.size + 1 ≤ w1.heap.size := by have := (unhide hg1).size; simp at this; omega
  have hnb1 : (Value.slice a1 us1.length c1).ownBlock ≠ some w.heap.size := fun e => by
    rcases unhide HA0 with h | ⟨k, h1, h2⟩
    · exact hnb (h.symm.trans e)
    · rw [h1] at e; injection e with e; simp at h2; omega
  clear hg1 ho1 hm hcf HA0
  go_wp2_with fail
  refine ((unhide HC') B _ us1 us2 _ (unhide hr1) (by omega) (unhide HL1) (unhide HU2)).mono ?_
  rintro x w2 ⟨u2, rfl, hr2, hg2, ho2⟩
  obtain ⟨a2, c2, rfl⟩ := row_slice (unhide hr2)
  have r0 : w2.cell? ⟨w.heap.size, 0, none⟩ = some (.string p.s) := (grown_cell (unhide hg2) (b := w.heap.size) (by omega) hnb1 0).trans q0
  have HG2 := hide (grown_trans (unhide HG1) (unhide hg2) (unhide HA1))
  have HA2 := hide (grown_at (unhide HG1) (unhide HA1) _ (unhide ho2))
  have hz2 := (unhide HG2).size
  clear hg2 ho2 hm' hcf' HG1 HA1 q0 q5 hr1
  go_wp2_with (at_builtin; refine wpList_append_own_at _ rfl (.tmp 17) (.tmp 27) 26 rfl B 81 i0 _ 4 40 Tryz.underlying26 (unhide HI) (unhide HZ).1 (unhide HZ).2.1 (unhide HZ).2.2 rfl (by decide) _ us2.length (cellsN us2) rfl ((unhide hr2).below (below1 _ _)) ⟨w2.heap.size, 0, none⟩ 1 1 (cellsN [⟨4, p.s, (us1.length : Int) - 1, (us2.length : Int) - 1⟩]) rfl rfl (by simpa using new_newsN w2 ⟨4, p.s, (us1.length : Int) - 1, (us2.length : Int) - 1⟩) (cellsN_one' _) ?b1 ?b2 ?b3 ?next)
  case b1 => unfold maxLen; omega
  case b2 => omega
  case b3 => first | omega | (simp; omega)
  case next =>
    intro v4 w4 hown4 hgrow4 hnil4 hat4
    have HO := hide (show RowV w4 B v4 vs by
      rw [unhide HV]
      unfold RowV
      rw [cellsN_append, List.length_append]
      exact hown4)
    have HG3 := hide (grown_below (below1 _ _) hgrow4)
    have HG := hide (grown_trans (unhide HG2) (unhide HG3) (unhide HA2))
    have HA := hide (grown_at (unhide HG2) (unhide HA2) v4.ownBlock (hat4.imp id (fun h => ⟨_, h, by first | omega | simp⟩)))
    clear hown4 hgrow4 hnil4 hat4 HG2 HG3 HA2
    go_wp2_with fail
    go_ret
    exact ⟨v4, rfl, HO, HG, HA⟩

/-- The nodes of a stretch anew. -/
theorem app_fS (ns : List OpR) (xs : List NodeR) (htx : ∀ i, i < xs.length → TxtOk (atN xs i)) (hkn : Knows ns xs) : ∀ n i f, i < n → i < xs.length → frS xs i = some f → ∀ l, AppIs (fS ns xs i l) (gS ns xs i l)
  | 0, _, _, h, _, _ => absurd h (Nat.not_lt_zero _)
  | n + 1, i, f, h, hi, hf => by
    intro l
    have hcl : ∀ (e : Value) (F : Nat → List NodeR), AppIs e F → (∀ s, gS ns xs i l s = clos ns (atN xs i) l s (F s)) → AppIs (closV ns (atN xs i) l e) (gS ns xs i l) := by
      intro e F he hF
      unfold closV
      by_cases hl : levN ns (atN xs i) < l
      · rw [if_pos hl]
        have : gS ns xs i l = overF F 6 ByteArray.empty := by
          funext s
          rw [hF s, clos, if_pos hl, overF]
        rw [this]
        exact app_grp he
      · rw [if_neg hl]
        have : gS ns xs i l = F := by
          funext s
          rw [hF s, clos, if_neg hl]
        rw [this]
        exact he
    have hop : ∀ j, fnd ns (atN xs i).t ((atN xs i).k - 2) = some j → (opA ns (atN xs i)).s = (atN xs i).t := fun j hj => by
      unfold opA
      rw [hj]
      exact (fnd_some hj).2.1
    have hso : isOpN (atN xs i) → (opA ns (atN xs i)).s = (atN xs i).t := fun ho => by
      cases e : fnd ns (atN xs i).t ((atN xs i).k - 2) with
      | none => exact absurd e (hkn i hi ho)
      | some j => exact hop j e
    rcases frS_some hf with ⟨hk, ha, hb, hfi⟩ | ⟨hk, h1i, ha, hbb, hf1⟩ | ⟨hk, h1i, hbb, f2, hf2, h2f, ha, hf1⟩
    · rw [fS_zero hk]
      rcases (htx i hi).2 with ⟨h1, _⟩ | ⟨h2, _⟩ | ⟨h6, _⟩ | ⟨h345, _⟩
      · refine hcl _ _ ?_ (fun s => gS_zero hk l s)
        simp only [exN, h1, if_true]
        exact app_num _
      · refine hcl _ _ ?_ (fun s => gS_zero hk l s)
        simp only [exN, h2, if_true]
        exact app_name _
      · rw [h6] at hk; simp [kids] at hk
      · rcases h345 with h | h | h <;> rw [h] at hk <;> simp [kids] at hk
    · have ih := app_fS ns xs htx hkn n (i - 1) f (by omega) (by omega) hf1
      rcases (htx i hi).2 with ⟨h1, _⟩ | ⟨h2, _⟩ | ⟨h6, _⟩ | ⟨h345, _⟩
      · rw [h1] at hk; simp [kids] at hk
      · rw [h2] at hk; simp [kids] at hk
      · rw [fS_group h6 h1i hf1]
        have : gS ns xs i l = gS ns xs (i - 1) l := by funext s; exact gS_group h6 h1i hf1 l s
        rw [this]
        exact ih l
      · rcases h345 with h | h | h
        · rw [fS_one hk (by omega) h1i hf1]
          refine hcl _ (overF (gS ns xs (i - 1) (holeN ns (atN xs i) false)) 3 (atN xs i).t) ?_ (fun s => by rw [gS_one hk (by omega) h1i hf1 l s rfl, overF, h])
          simp only [exN, h]
          rw [← hso ⟨by omega, by omega⟩]
          exact app_pre (ih _) _
        · rw [h] at hk; simp [kids] at hk
        · rw [fS_one hk (by omega) h1i hf1]
          refine hcl _ (overF (gS ns xs (i - 1) (holeN ns (atN xs i) false)) 5 (atN xs i).t) ?_ (fun s => by rw [gS_one hk (by omega) h1i hf1 l s rfl, overF, h])
          simp only [exN, h]
          rw [← hso ⟨by omega, by omega⟩]
          exact app_post (ih _) _
    · have hle := frS_le hf2
      have h4 : (atN xs i).k = 4 := by
        unfold kids at hk
        split at hk
        · assumption
        · split at hk <;> omega
      rw [fS_two hk h1i hf2 h2f ha hf1]
      refine hcl _ (bothF (gS ns xs (f2 - 1) (holeN ns (atN xs i) false)) (gS ns xs (i - 1) (holeN ns (atN xs i) true)) (atN xs i).t) ?_ (fun s => by rw [gS_two hk h1i hf2 h2f ha hf1 l s rfl rfl, bothF, h4])
      simp only [exN, h4]
      rw [← hso ⟨by omega, by omega⟩]
      exact app_inf (app_fS ns xs htx hkn n (f2 - 1) f (by omega) (by omega) hf1 _) (app_fS ns xs htx hkn n (i - 1) f2 (by omega) (by omega) hf2 _) _
end Go.Proofs.YtfboipappaonhaaGreat

/-
  Walks: the specification's operators of nodes, levels, holes.
-/
namespace Go.Proofs.YtfboipappaonhaaGreat
set_option maxRecDepth 100000
set_option linter.unusedVariables false
set_option linter.unusedSimpArgs false
open Go.RowKit

theorem keep4 {w : World} {B b o : Nat} {v0 v1 v2 v3 u : Value} (hne : B ≠ b) (h : w.cell? ⟨b, o, none⟩ = some u) : ((((w.setCell ⟨B, 0, none⟩ v0).setCell ⟨B, 1, none⟩ v1).setCell ⟨B, 2, none⟩ v2).setCell ⟨B, 3, none⟩ v3).cell? ⟨b, o, none⟩ = some u := by
  rw [World.cell?_setCell_far _ _ _ _ hne, World.cell?_setCell_far _ _ _ _ hne, World.cell?_setCell_far _ _ _ _ hne, World.cell?_setCell_far _ _ _ _ hne]
  exact h

/-- What l2Find gives. -/
def fI : Option Nat → Int
  | some j => (j : Int)
  | none => -1

set_option maxHeartbeats 1000000 in
theorem l2Find_ix (b off cap : Nat) (xs : List OpR) (t : ByteArray) (kd : Int) (w : World) (hm : xs.length ≤ 1048576) (hw : Ops w b off xs) (hB : b < w.heap.size) :
    Calls Tryz.prog 97 #[.agg #[.slice (some ⟨b, off, none⟩) xs.length cap], .string t, .int .i64 kd] w fun e w' => e = .returned (.int .i64 (fI (fnd xs t kd))) ∧ Below w.heap.size w w' := by
  go_enter Tryz.func97, Tryz.ntmps97
  go_wp2
  have hops : Ops (w.alloc (.cells #[.slice (some ⟨b, off, none⟩) xs.length cap] 25)) b off xs := hw.below (below1 _ _) hB
  have HO := hide hops
  clear hops hw
  go_loop [7] (fun i => ∃ k : Nat, k ≤ xs.length ∧ i = .int .i64 k ∧ Hid (∀ j, j < k → ¬ ((atO xs j).s = t ∧ (atO xs j).k = kd))) (fun i => xs.length - (intOf i).toNat)
  case atStart => exact ⟨0, Nat.zero_le _, rfl, hide (fun j h => by omega)⟩
  case round =>
    obtain ⟨k, hk, rfl, hn⟩ := hrel
    by_cases hlt : k < xs.length
    · obtain ⟨a0, a1, a2, a3⟩ := (unhide HO) k hlt
      have hnx := hide (show ∀ (_ : ¬ ((atO xs k).s = t ∧ (atO xs k).k = kd)), ∀ j, j < k + 1 → ¬ ((atO xs j).s = t ∧ (atO xs j).k = kd) from fun hne j hj => by
        by_cases e : j = k
        · subst e; exact hne
        · exact (unhide hn) j (by omega))
      go_wp2
      · rename_i hs1 hk1 _
        go_ret
        refine ⟨ret_int ?_, below1 _ _⟩
        rw [fnd_first hlt (unhide hn) ⟨bytes_inj hs1, by simpa using hk1⟩]
        rfl
      · refine ⟨⟨k + 1, by omega, by go_num, hide ((unhide hnx) ?_)⟩, by simp [intOf]; omega⟩
        rintro ⟨_, h⟩
        simp_all
      · refine ⟨⟨k + 1, by omega, by go_num, hide ((unhide hnx) ?_)⟩, by simp [intOf]; omega⟩
        rintro ⟨h, _⟩
        simp_all
    · go_wp2
      go_ret
      refine ⟨ret_int ?_, below1 _ _⟩
      rw [fnd_not (fun j hj => (unhide hn) j (by omega))]
      rfl

theorem l3IsOp_any (o : NodeR) (w : World) (v : Bool) (hv : v = decide (3 ≤ o.k ∧ o.k ≤ 5)) :
    Calls Tryz.prog 65 #[.agg #[.int .i64 o.k, .string o.t, .int .i64 o.a, .int .i64 o.b]] w fun e w' => e = .returned (.bool v) ∧ Below w.heap.size w w' := by
  by_cases h3 : 3 ≤ o.k
  · by_cases h5 : o.k ≤ 5
    · have HV := hide (show v = true by rw [hv]; simp [h3, h5])
      clear hv
      go_enter Tryz.func65, Tryz.ntmps65
      go_wp2
      go_ret
      exact ⟨ret_bool (unhide HV).symm, below1 _ _⟩
    · have HV := hide (show v = false by rw [hv]; simp [h5])
      clear hv
      go_enter Tryz.func65, Tryz.ntmps65
      go_wp2
      go_ret
      exact ⟨ret_bool (unhide HV).symm, below1 _ _⟩
  · have HV := hide (show v = false by rw [hv]; simp [h3])
    clear hv
    go_enter Tryz.func65, Tryz.ntmps65
    go_wp2
    go_ret
    exact ⟨ret_bool (unhide HV).symm, below1 _ _⟩

set_option maxHeartbeats 1000000 in
theorem l3OpOf_any (b off cap : Nat) (xs : List OpR) (o : NodeR) (j : Nat) (w : World) (hm : xs.length ≤ 1048576) (hw : Ops w b off xs) (hB : b < w.heap.size) (h3 : 3 ≤ o.k) (h5 : o.k ≤ 5) (hf : fnd xs o.t (o.k - 2) = some j) :
    Calls Tryz.prog 98 #[.agg #[.slice (some ⟨b, off, none⟩) xs.length cap], .agg #[.int .i64 o.k, .string o.t, .int .i64 o.a, .int .i64 o.b]] w fun e w' => e = .returned (.agg #[.string (atO xs j).s, .int .i64 (atO xs j).k, .int .i64 (atO xs j).l, .int .i64 (atO xs j).sd]) ∧ Below w.heap.size w w' := by
  have hj := (fnd_some hf).1
  have hjI : (j : Int) < (xs.length : Int) := by omega
  have HFI := hide (show fI (fnd xs o.t (o.k - 2)) = (j : Int) by rw [hf]; rfl)
  have HW := hide hw
  clear hw hf
  have HW3 := hide (show ∀ o1 o2 o3 : Obj, CellsAt (((w.alloc o1).alloc o2).alloc o3).drew b off xs j from fun o1 o2 o3 => ((unhide HW) j hj).below ((((below1 w o1).alloc (by simp) o2).alloc (by simp; omega) o3).drew) hB)
  go_enter Tryz.func98, Tryz.ntmps98
  go_wp2_with fail
  obtain ⟨r0, r1, r2, r3⟩ := (unhide HW3) (.cells #[.slice (some ⟨b, off, none⟩) xs.length cap] 25) (.cells #[.int .i64 o.k, .string o.t, .int .i64 o.a, .int .i64 o.b] 81) (.cells #[.string ⟨#[]⟩, .int .i64 0, .int .i64 0, .int .i64 0] 123)
  have HB3 := hide (show ∀ o1 o2 o3 : Obj, Below w.heap.size w (((w.alloc o1).alloc o2).alloc o3).drew from fun o1 o2 o3 => (((below1 w o1).alloc (by simp) o2).alloc (by simp; omega) o3).drew)
  have hbn1 : b ≠ w.heap.size + 1 + 1 := by omega
  have hbn2 : w.heap.size + 1 + 1 ≠ b := by omega
  have HWR := hide (show IntKind.i64.wrap (o.k - 2) = o.k - 2 by rw [IntKind.wrap_i64]; omega)
  have HSZ := hide (show ((((w.alloc (.cells #[.slice (some ⟨b, off, none⟩) xs.length cap] 25)).alloc (.cells #[.int .i64 o.k, .string o.t, .int .i64 o.a, .int .i64 o.b] 81)).alloc (.cells #[.string ⟨#[]⟩, .int .i64 0, .int .i64 0, .int .i64 0] 123)).drew).heap.size = w.heap.size + 3 from (show (((w.alloc (.cells #[.slice (some ⟨b, off, none⟩) xs.length cap] 25)).alloc (.cells #[.int .i64 o.k, .string o.t, .int .i64 o.a, .int .i64 o.b] 81)).alloc (.cells #[.string ⟨#[]⟩, .int .i64 0, .int .i64 0, .int .i64 0] 123)).heap.size = w.heap.size + 3 by simp))
  have HLT := hide (show b < ((((w.alloc (.cells #[.slice (some ⟨b, off, none⟩) xs.length cap] 25)).alloc (.cells #[.int .i64 o.k, .string o.t, .int .i64 o.a, .int .i64 o.b] 81)).alloc (.cells #[.string ⟨#[]⟩, .int .i64 0, .int .i64 0, .int .i64 0] 123)).drew).heap.size by rw [unhide HSZ]; omega)
  have HL0 := hide (show w.heap.size < ((((w.alloc (.cells #[.slice (some ⟨b, off, none⟩) xs.length cap] 25)).alloc (.cells #[.int .i64 o.k, .string o.t, .int .i64 o.a, .int .i64 o.b] 81)).alloc (.cells #[.string ⟨#[]⟩, .int .i64 0, .int .i64 0, .int .i64 0] 123)).drew).heap.size by rw [unhide HSZ]; omega)
  have HL1 := hide (show w.heap.size + 1 < ((((w.alloc (.cells #[.slice (some ⟨b, off, none⟩) xs.length cap] 25)).alloc (.cells #[.int .i64 o.k, .string o.t, .int .i64 o.a, .int .i64 o.b] 81)).alloc (.cells #[.string ⟨#[]⟩, .int .i64 0, .int .i64 0, .int .i64 0] 123)).drew).heap.size by rw [unhide HSZ]; omega)
  have HL2 := hide (show w.heap.size + 1 + 1 < ((((w.alloc (.cells #[.slice (some ⟨b, off, none⟩) xs.length cap] 25)).alloc (.cells #[.int .i64 o.k, .string o.t, .int .i64 o.a, .int .i64 o.b] 81)).alloc (.cells #[.string ⟨#[]⟩, .int .i64 0, .int .i64 0, .int .i64 0] 123)).drew).heap.size by rw [unhide HSZ]; omega)
  have HLW := hide (show w.heap.size ≤ ((((w.alloc (.cells #[.slice (some ⟨b, off, none⟩) xs.length cap] 25)).alloc (.cells #[.int .i64 o.k, .string o.t, .int .i64 o.a, .int .i64 o.b] 81)).alloc (.cells #[.string ⟨#[]⟩, .int .i64 0, .int .i64 0, .int .i64 0] 123)).drew).heap.size by rw [unhide HSZ]; omega)
  have HC0 := hide (show ((((w.alloc (.cells #[.slice (some ⟨b, off, none⟩) xs.length cap] 25)).alloc (.cells #[.int .i64 o.k, .string o.t, .int .i64 o.a, .int .i64 o.b] 81)).alloc (.cells #[.string ⟨#[]⟩, .int .i64 0, .int .i64 0, .int .i64 0] 123)).drew).cell? ⟨w.heap.size, 0, none⟩ = some (.slice (some ⟨b, off, none⟩) xs.length cap) ∧ ((((w.alloc (.cells #[.slice (some ⟨b, off, none⟩) xs.length cap] 25)).alloc (.cells #[.int .i64 o.k, .string o.t, .int .i64 o.a, .int .i64 o.b] 81)).alloc (.cells #[.string ⟨#[]⟩, .int .i64 0, .int .i64 0, .int .i64 0] 123)).drew).cell? ⟨w.heap.size + 1, 0, none⟩ = some (.int .i64 o.k) ∧ ((((w.alloc (.cells #[.slice (some ⟨b, off, none⟩) xs.length cap] 25)).alloc (.cells #[.int .i64 o.k, .string o.t, .int .i64 o.a, .int .i64 o.b] 81)).alloc (.cells #[.string ⟨#[]⟩, .int .i64 0, .int .i64 0, .int .i64 0] 123)).drew).cell? ⟨w.heap.size + 1, 1, none⟩ = some (.string o.t) from
    (show (((w.alloc (.cells #[.slice (some ⟨b, off, none⟩) xs.length cap] 25)).alloc (.cells #[.int .i64 o.k, .string o.t, .int .i64 o.a, .int .i64 o.b] 81)).alloc (.cells #[.string ⟨#[]⟩, .int .i64 0, .int .i64 0, .int .i64 0] 123)).cell? ⟨w.heap.size, 0, none⟩ = some (.slice (some ⟨b, off, none⟩) xs.length cap) ∧ (((w.alloc (.cells #[.slice (some ⟨b, off, none⟩) xs.length cap] 25)).alloc (.cells #[.int .i64 o.k, .string o.t, .int .i64 o.a, .int .i64 o.b] 81)).alloc (.cells #[.string ⟨#[]⟩, .int .i64 0, .int .i64 0, .int .i64 0] 123)).cell? ⟨w.heap.size + 1, 0, none⟩ = some (.int .i64 o.k) ∧ (((w.alloc (.cells #[.slice (some ⟨b, off, none⟩) xs.length cap] 25)).alloc (.cells #[.int .i64 o.k, .string o.t, .int .i64 o.a, .int .i64 o.b] 81)).alloc (.cells #[.string ⟨#[]⟩, .int .i64 0, .int .i64 0, .int .i64 0] 123)).cell? ⟨w.heap.size + 1, 1, none⟩ = some (.string o.t) from ⟨by simp [go_sem], by simp [go_sem], by simp [go_sem]⟩))
  have HC2 := hide (show (((((w.alloc (.cells #[.slice (some ⟨b, off, none⟩) xs.length cap] 25)).alloc (.cells #[.int .i64 o.k, .string o.t, .int .i64 o.a, .int .i64 o.b] 81)).alloc (.cells #[.string ⟨#[]⟩, .int .i64 0, .int .i64 0, .int .i64 0] 123)).drew).cell? ⟨w.heap.size + 1 + 1, 0, none⟩ = some (.string ⟨#[]⟩) ∧ ((((w.alloc (.cells #[.slice (some ⟨b, off, none⟩) xs.length cap] 25)).alloc (.cells #[.int .i64 o.k, .string o.t, .int .i64 o.a, .int .i64 o.b] 81)).alloc (.cells #[.string ⟨#[]⟩, .int .i64 0, .int .i64 0, .int .i64 0] 123)).drew).cell? ⟨w.heap.size + 1 + 1, 1, none⟩ = some (.int .i64 0) ∧ ((((w.alloc (.cells #[.slice (some ⟨b, off, none⟩) xs.length cap] 25)).alloc (.cells #[.int .i64 o.k, .string o.t, .int .i64 o.a, .int .i64 o.b] 81)).alloc (.cells #[.string ⟨#[]⟩, .int .i64 0, .int .i64 0, .int .i64 0] 123)).drew).cell? ⟨w.heap.size + 1 + 1, 2, none⟩ = some (.int .i64 0) ∧ ((((w.alloc (.cells #[.slice (some ⟨b, off, none⟩) xs.length cap] 25)).alloc (.cells #[.int .i64 o.k, .string o.t, .int .i64 o.a, .int .i64 o.b] 81)).alloc (.cells #[.string ⟨#[]⟩, .int .i64 0, .int .i64 0, .int .i64 0] 123)).drew).cell? ⟨w.heap.size + 1 + 1, 3, none⟩ = some (.int .i64 0)) ∧ ∀ q, ((((w.alloc (.cells #[.slice (some ⟨b, off, none⟩) xs.length cap] 25)).alloc (.cells #[.int .i64 o.k, .string o.t, .int .i64 o.a, .int .i64 o.b] 81)).alloc (.cells #[.string ⟨#[]⟩, .int .i64 0, .int .i64 0, .int .i64 0] 123)).drew).frozen? ⟨w.heap.size + 1 + 1, q, none⟩ = false from
    (show ((((w.alloc (.cells #[.slice (some ⟨b, off, none⟩) xs.length cap] 25)).alloc (.cells #[.int .i64 o.k, .string o.t, .int .i64 o.a, .int .i64 o.b] 81)).alloc (.cells #[.string ⟨#[]⟩, .int .i64 0, .int .i64 0, .int .i64 0] 123)).cell? ⟨w.heap.size + 1 + 1, 0, none⟩ = some (.string ⟨#[]⟩) ∧ (((w.alloc (.cells #[.slice (some ⟨b, off, none⟩) xs.length cap] 25)).alloc (.cells #[.int .i64 o.k, .string o.t, .int .i64 o.a, .int .i64 o.b] 81)).alloc (.cells #[.string ⟨#[]⟩, .int .i64 0, .int .i64 0, .int .i64 0] 123)).cell? ⟨w.heap.size + 1 + 1, 1, none⟩ = some (.int .i64 0) ∧ (((w.alloc (.cells #[.slice (some ⟨b, off, none⟩) xs.length cap] 25)).alloc (.cells #[.int .i64 o.k, .string o.t, .int .i64 o.a, .int .i64 o.b] 81)).alloc (.cells #[.string ⟨#[]⟩, .int .i64 0, .int .i64 0, .int .i64 0] 123)).cell? ⟨w.heap.size + 1 + 1, 2, none⟩ = some (.int .i64 0) ∧ (((w.alloc (.cells #[.slice (some ⟨b, off, none⟩) xs.length cap] 25)).alloc (.cells #[.int .i64 o.k, .string o.t, .int .i64 o.a, .int .i64 o.b] 81)).alloc (.cells #[.string ⟨#[]⟩, .int .i64 0, .int .i64 0, .int .i64 0] 123)).cell? ⟨w.heap.size + 1 + 1, 3, none⟩ = some (.int .i64 0)) ∧ ∀ q, (((w.alloc (.cells #[.slice (some ⟨b, off, none⟩) xs.length cap] 25)).alloc (.cells #[.int .i64 o.k, .string o.t, .int .i64 o.a, .int .i64 o.b] 81)).alloc (.cells #[.string ⟨#[]⟩, .int .i64 0, .int .i64 0, .int .i64 0] 123)).frozen? ⟨w.heap.size + 1 + 1, q, none⟩ = false from ⟨⟨by simp [go_sem], by simp [go_sem], by simp [go_sem], by simp [go_sem]⟩, fun q => by simp [go_sem]⟩))
  go_region_held (fun w' => w'.cell? ⟨w.heap.size, 0, none⟩ = some (.slice (some ⟨b, off, none⟩) xs.length cap) ∧ w'.cell? ⟨w.heap.size + 1, 0, none⟩ = some (.int .i64 o.k) ∧ w'.cell? ⟨w.heap.size + 1, 1, none⟩ = some (.string o.t) ∧ w'.cell? ⟨b, off + j * 4, none⟩ = some (.string (atO xs j).s) ∧ w'.cell? ⟨b, off + j * 4 + 1, none⟩ = some (.int .i64 (atO xs j).k) ∧ w'.cell? ⟨b, off + j * 4 + 2, none⟩ = some (.int .i64 (atO xs j).l) ∧ w'.cell? ⟨b, off + j * 4 + 3, none⟩ = some (.int .i64 (atO xs j).sd)) (first | (go_keep; done) | (refine ⟨keep4 (by omega) ?_, keep4 (by omega) ?_, keep4 (by omega) ?_, keep4 (by omega) ?_, keep4 (by omega) ?_, keep4 (by omega) ?_, keep4 (by omega) ?_⟩ <;> simp [*]))
    (first | (go_at_call 97; have HX := l2Find_ix b off cap xs o.t (o.k - 2) (((w.alloc (.cells #[.slice (some ⟨b, off, none⟩) xs.length cap] 25)).alloc (.cells #[.int .i64 o.k, .string o.t, .int .i64 o.a, .int .i64 o.b] 81)).alloc (.cells #[.string ⟨#[]⟩, .int .i64 0, .int .i64 0, .int .i64 0] 123)).drew hm ((unhide HW).below ((unhide HB3) _ _ _) hB) (unhide HLT); rw [unhide HFI] at HX; rw [unhide HWR]; refine HX.mono ?_; clear HX; rintro e w2 ⟨rfl, hb2⟩; have q0 := (hb2.cell (p := ⟨w.heap.size, 0, none⟩) (unhide HL0)).trans (unhide HC0).1; have q1 := (hb2.cell (p := ⟨w.heap.size + 1, 0, none⟩) (unhide HL1)).trans (unhide HC0).2.1; have q2 := (hb2.cell (p := ⟨w.heap.size + 1, 1, none⟩) (unhide HL1)).trans (unhide HC0).2.2; have s0 := (hb2.cell (p := ⟨b, off + j * 4, none⟩) (unhide HLT)).trans r0; have s1 := (hb2.cell (p := ⟨b, off + j * 4 + 1, none⟩) (unhide HLT)).trans r1; have s2 := (hb2.cell (p := ⟨b, off + j * 4 + 2, none⟩) (unhide HLT)).trans r2; have s3 := (hb2.cell (p := ⟨b, off + j * 4 + 3, none⟩) (unhide HLT)).trans r3; have t0 := (hb2.cell (p := ⟨w.heap.size + 1 + 1, 0, none⟩) (unhide HL2)).trans (unhide HC2).1.1; have t1 := (hb2.cell (p := ⟨w.heap.size + 1 + 1, 1, none⟩) (unhide HL2)).trans (unhide HC2).1.2.1; have t2 := (hb2.cell (p := ⟨w.heap.size + 1 + 1, 2, none⟩) (unhide HL2)).trans (unhide HC2).1.2.2.1; have t3 := (hb2.cell (p := ⟨w.heap.size + 1 + 1, 3, none⟩) (unhide HL2)).trans (unhide HC2).1.2.2.2; have u0 := (hb2.frozen (p := ⟨w.heap.size + 1 + 1, 0, none⟩) (unhide HL2)).trans ((unhide HC2).2 0); have u1 := (hb2.frozen (p := ⟨w.heap.size + 1 + 1, 1, none⟩) (unhide HL2)).trans ((unhide HC2).2 1); have u2 := (hb2.frozen (p := ⟨w.heap.size + 1 + 1, 2, none⟩) (unhide HL2)).trans ((unhide HC2).2 2); have u3 := (hb2.frozen (p := ⟨w.heap.size + 1 + 1, 3, none⟩) (unhide HL2)).trans ((unhide HC2).2 3); have B2 := hide (((unhide HB3) _ _ _).trans (hb2.mono (unhide HLW))); clear hb2))
  go_wp2
  refine bodyPost_ret (v := .agg #[.string (atO xs j).s, .int .i64 (atO xs j).k, .int .i64 (atO xs j).l, .int .i64 (atO xs j).sd]) ?res rfl ⟨rfl, ?_⟩
  case res => simp [results, Tryz.results98, go_sem, t0, t1, t2, t3]
  exact below_setCells (show w.heap.size ≤ w.heap.size + 1 + 1 by omega) [.string (atO xs j).s, .int .i64 (atO xs j).k, .int .i64 (atO xs j).l, .int .i64 (atO xs j).sd] 0 w2 (unhide B2)

theorem fieldLevel (W : World) (s : ByteArray) (k l sd : Int) : (Instr.field 123 (.agg #[.string s, .int .i64 k, .int .i64 l, .int .i64 sd]) 2).run Tryz.prog W = .ok (.int .i64 l) W := by kernel_rfl

theorem levN_op {xs : List OpR} {o : NodeR} {j : Nat} (h3 : 3 ≤ o.k) (h5 : o.k ≤ 5) (hf : fnd xs o.t (o.k - 2) = some j) : levN xs o = (atO xs j).l := by
  unfold levN
  rw [if_pos ⟨h3, h5⟩, hf]
theorem levN_not {xs : List OpR} {o : NodeR} (h : ¬ (3 ≤ o.k ∧ o.k ≤ 5)) : levN xs o = 1001 := by
  unfold levN
  rw [if_neg h]

set_option maxHeartbeats 1000000 in
theorem l3Level_any (b off cap : Nat) (xs : List OpR) (o : NodeR) (w : World) (hm : xs.length ≤ 1048576) (hw : Ops w b off xs) (hB : b < w.heap.size) (hkn : 3 ≤ o.k → o.k ≤ 5 → fnd xs o.t (o.k - 2) ≠ none) :
    Calls Tryz.prog 100 #[.agg #[.slice (some ⟨b, off, none⟩) xs.length cap], .agg #[.int .i64 o.k, .string o.t, .int .i64 o.a, .int .i64 o.b]] w fun e w' => e = .returned (.int .i64 (levN xs o)) ∧ Below w.heap.size w w' := by
  by_cases hop : 3 ≤ o.k ∧ o.k ≤ 5
  · obtain ⟨h3, h5⟩ := hop
    cases hf : fnd xs o.t (o.k - 2) with
    | none => exact absurd hf (hkn h3 h5)
    | some j =>
      have HL := hide (levN_op h3 h5 hf)
      have HW := hide hw
      have HF := hide hf
      have HD := hide (show true = decide (3 ≤ o.k ∧ o.k ≤ 5) by simp [h3, h5])
      clear hw hf hkn
      go_enter Tryz.func100, Tryz.ntmps100
      go_wp2_with fail
      refine (l3IsOp_any o _ true (unhide HD)).mono ?_
      rintro e w1 ⟨rfl, hb1⟩
      have bel1 : Below w.heap.size w w1 := ((below1 _ _).alloc (by simp) _).trans (hb1.mono (by simp; omega))
      have c0 : w1.cell? ⟨w.heap.size, 0, none⟩ = some (.slice (some ⟨b, off, none⟩) xs.length cap) := (hb1.cell (p := ⟨w.heap.size, 0, none⟩) (by simp; omega)).trans (by simp [go_sem])
      have d0 : w1.cell? ⟨w.heap.size + 1, 0, none⟩ = some (.int .i64 o.k) := (hb1.cell (p := ⟨w.heap.size + 1, 0, none⟩) (by simp)).trans (by simp [go_sem])
      have d1 : w1.cell? ⟨w.heap.size + 1, 1, none⟩ = some (.string o.t) := (hb1.cell (p := ⟨w.heap.size + 1, 1, none⟩) (by simp)).trans (by simp [go_sem])
      have d2 : w1.cell? ⟨w.heap.size + 1, 2, none⟩ = some (.int .i64 o.a) := (hb1.cell (p := ⟨w.heap.size + 1, 2, none⟩) (by simp)).trans (by simp [go_sem])
      have d3 : w1.cell? ⟨w.heap.size + 1, 3, none⟩ = some (.int .i64 o.b) := (hb1.cell (p := ⟨w.heap.size + 1, 3, none⟩) (by simp)).trans (by simp [go_sem])
      have hB1 : b < w1.heap.size := Nat.lt_of_lt_of_le hB bel1.size
      clear hb1
      go_wp2_with fail
      refine (l3OpOf_any b off cap xs o j _ hm ((unhide HW).below bel1 hB) hB1 h3 h5 (unhide HF)).mono ?_
      rintro e w2 ⟨rfl, hb2⟩
      have hfld := fieldLevel
      go_wp2
      go_ret
      exact ⟨ret_int (unhide HL).symm, bel1.trans (hb2.mono bel1.size)⟩
  · have HL := hide (levN_not (xs := xs) hop)
    have HD := hide (show false = decide (3 ≤ o.k ∧ o.k ≤ 5) by simp [hop])
    clear hw hop hkn
    go_enter Tryz.func100, Tryz.ntmps100
    go_wp2_with fail
    refine (l3IsOp_any o _ false (unhide HD)).mono ?_
    rintro e w1 ⟨rfl, hb1⟩
    go_wp2_with fail
    go_ret
    exact ⟨ret_int (unhide HL).symm, ((below1 _ _).alloc (by simp) _).trans (hb1.mono (by simp; omega))⟩
end Go.Proofs.YtfboipappaonhaaGreat
