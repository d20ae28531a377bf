import Derived.Test.YtfboipappaonhaaGreatU33

/-
  Walks: the rules in front of an operand.
-/
namespace Go.Proofs.YtfboipappaonhaaGreat
set_option maxRecDepth 100000
set_option linter.unusedSimpArgs false
set_option linter.unusedVariables false
open Go.RowKit Go.Maps

/-- What a reading hands back: no tree, or a tree and where the parser stands. -/
def RPost (ns : List OpR) (w : World) (p g o n c bf bb : Nat) (res : Option (ET × List SyR)) (x : Ending) (w' : World) : Prop :=
  Hid (Kept1 w w' p) ∧ ((res = none ∧ x = noTree) ∨ ∃ T r, res = some (T, r) ∧ x = .returned (exT ns T) ∧ Hid (GoodT ns T) ∧ Hid (PrsAt w' p g o n c (n - r.length) bf bb))

theorem exT_iface {ns : List OpR} {T : ET} (h : GoodT ns T) : ∃ Ty v, exT ns T = .iface Ty v := by
  cases T with
  | nil => exact h.elim
  | node b o t l r => exact exN_iface _ _ _ _

/-- An operator in a block. -/
def OpC (w : World) (a : Nat) (q : OpR) : Prop :=
  w.cell? ⟨a, 0, none⟩ = some (.string q.s) ∧ w.cell? ⟨a, 1, none⟩ = some (.int .i64 q.k) ∧ w.cell? ⟨a, 2, none⟩ = some (.int .i64 q.l) ∧ w.cell? ⟨a, 3, none⟩ = some (.int .i64 q.sd)

theorem OpC.kept {w w' : World} {a p : Nat} {q : OpR} (h : OpC w a q) (hk : Kept1 w w' p) (hne : a ≠ p) : OpC w' a q :=
  have hlt := block_lt_of_cell h.1
  ⟨(hk.cell hlt hne 0).trans h.1, (hk.cell hlt hne 1).trans h.2.1, (hk.cell hlt hne 2).trans h.2.2.1, (hk.cell hlt hne 3).trans h.2.2.2⟩

/-- A reading that is known. -/
def Reads (ns : List OpR) (w0 : World) (p g o n c bf bb i : Nat) (least : Int) (ss : List SyR) : Prop :=
  ∀ w, Kept1 w0 w p → PrsAt w p g o n c i bf bb → Calls Tryz.prog 86 #[.pointer (some ⟨p, 0, none⟩), .int .i64 least] w (RPost ns w p g o n c bf bb (RD ns least none ss))

set_option maxHeartbeats 1000000 in
theorem group_rule {ns : List OpR} (hv : IsCode ns 0) (p g o n c bf bb i d : Nat) (ss : List SyR) (least : Int) (w : World) (hr : Reads ns w p g o n c bf bb i 0 ss) (hp : PrsAt w p g o n c i bf bb) (hn : n ≤ 100000) (hss : ss.length ≤ n) (hf : FitE ns (false, d + 1) ss) (res : Option (ET × List SyR)) (hres : res = (match RD ns 0 none ss with
      | none => none
      | some x => some (.node 6 0 ByteArray.empty x.1 .nil, x.2.tail))) :
    Calls Tryz.prog 82 #[.pointer (some ⟨p, 0, none⟩), .int .i64 least] w (RPost ns w p g o n c bf bb res) := by
  have HX := hr w (Kept1.refl _ _) hp
  have HF := hide hf
  have HV := hide hv
  have HRES := hide hres
  clear hr hp hf hv hres
  go_enter Tryz.func82, Tryz.ntmps82
  go_wp2_with fail
  refine HX.mono ?_
  clear HX
  rintro x w1 ⟨HK, ⟨h0, rfl⟩ | ⟨T, r, h1, rfl, HG, HP⟩⟩
  · rw [h0] at HRES
    exact ⟨rfl, HK, Or.inl ⟨unhide HRES, rfl⟩⟩
  · have HR1 := hide h1
    obtain ⟨q, hq⟩ : ∃ q, r = (7, cls1) :: q := by
      obtain ⟨q, e, _⟩ := grp_sound (unhide HV) (unhide HF) h1
      exact ⟨q, e⟩
    have hlen : r.length ≤ ss.length := rd_len ns _ _ _ _ _ h1
    have hrl : r.length = q.length + 1 := by rw [hq]; rfl
    obtain ⟨m, hm⟩ : ∃ m, m = n - r.length := ⟨_, rfl⟩
    rw [← hm] at HP
    have c1 := (unhide HP).2.1
    have c4 := (unhide HP).2.2.2.2
    have e1 : ((m + 1 : Nat) : Int) = (m : Int) + 1 := by omega
    have HP2 := hide ((unhide HP).set (m + 1))
    rw [e1] at HP2
    have HK2 := hide ((unhide HK).trans (Kept1.setP (p := p) (.int .i64 ((m : Int) + 1))))
    have HM := hide (show m + 1 = n - q.length by omega)
    have HQ := hide hq
    obtain ⟨Ty, v, he⟩ := exT_iface (unhide HG)
    have HE := hide (show exT ns (.node 6 0 ByteArray.empty T .nil) = eGrp (.iface Ty v) by rw [← he]; rfl)
    rw [he]
    have hmm : m ≤ 100000 := by omega
    clear HP HK hq hlen h1 hrl hm he
    go_wp2_with fail
    go_ret
    refine ⟨HK2, Or.inr ⟨.node 6 0 ByteArray.empty T .nil, q, ?_, by rw [unhide HE]; rfl, hide ⟨rfl, Or.inr (Or.inl ⟨rfl, rfl, unhide HG, rfl⟩)⟩, ?_⟩⟩
    · rw [unhide HRES, unhide HR1, unhide HQ]; rfl
    · rw [← unhide HM]; exact HP2

set_option maxHeartbeats 1000000 in
theorem pre_rule {ns : List OpR} (p g o n c bf bb i : Nat) (t : ByteArray) (ss : List SyR) (least : Int) (w : World) (ba bp bh : Nat) (na : ba ≠ p) (nb : bp ≠ p) (nh : bh ≠ p) (hk : knB ns (3, t) = true)
    (hr : Reads ns w p g o n c bf bb i (sH ns (3, t) false) ss) (hp : PrsAt w p g o n c i bf bb) (h1 : OpC w ba (opA ns (rt 3 t))) (h2 : w.cell? ⟨bp, 0, none⟩ = some (.pointer (some ⟨p, 0, none⟩))) (h3 : w.cell? ⟨bh, 0, none⟩ = some (.int .i64 (sH ns (3, t) false)))
    (res : Option (ET × List SyR)) (hres : res = (if sLv ns (3, t) < least then none else (match RD ns (sH ns (3, t) false) none ss with
      | none => none
      | some x => some (.node 3 0 t x.1 .nil, x.2)))) (hgd : ∀ T r, res = some (T, r) → GoodT ns T) :
    Calls Tryz.prog 132 #[.int .i64 least, .pointer (some ⟨ba, 0, none⟩), .pointer (some ⟨bp, 0, none⟩), .pointer (some ⟨bh, 0, none⟩)] w (RPost ns w p g o n c bf bb res) := by
  have HX := hr w.drew (Kept1.of_below ((Below.refl _ _).drew)) (hp.below ((Below.refl _ _).drew))
  obtain ⟨a0, a1, a2, a3⟩ := h1
  rw [sLv_op (ns := ns) (b := 3) (t := t) (Or.inl rfl) hk] at hres
  have HRES := hide hres
  have HGD := hide hgd
  clear hres hgd
  have HL := hide (sLv_op (ns := ns) (b := 3) (t := t) (Or.inl rfl) hk)
  have HE := hide (show ∀ T, exT ns (.node 3 0 t T .nil) = ePre (opA ns (rt 3 t)) (exT ns T) from fun T => rfl)
  generalize opA ns (rt 3 t) = q at a0 a1 a2 a3 HL HE HRES
  generalize sH ns (3, t) false = hl at h3 HX HRES
  clear hr hp
  by_cases hlt : q.l < least
  · have HN := hide hlt
    go_enter Tryz.func132, Tryz.ntmps132
    go_wp2_with fail
    exact ⟨rfl, hide (Kept1.refl _ _), Or.inl ⟨by rw [unhide HRES, if_pos (unhide HN)], rfl⟩⟩
  · have hge : least ≤ q.l := by omega
    have HN := hide hlt
    clear hlt
    go_enter Tryz.func132, Tryz.ntmps132
    go_wp2_with fail
    go_region_held (fun w' => (w'.cell? ⟨ba, 0, none⟩ = some (.string q.s) ∧ w'.cell? ⟨ba, 1, none⟩ = some (.int .i64 q.k) ∧ w'.cell? ⟨ba, 2, none⟩ = some (.int .i64 q.l) ∧ w'.cell? ⟨ba, 3, none⟩ = some (.int .i64 q.sd)) ∧ w'.cell? ⟨bp, 0, none⟩ = some (.pointer (some ⟨p, 0, none⟩)) ∧ w'.cell? ⟨bh, 0, none⟩ = some (.int .i64 hl)) (first | (go_keep; done) | exact ⟨(show OpC w ba q from ⟨a0, a1, a2, a3⟩).kept (unhide HKC) na, ((unhide HKC).cell (block_lt_of_cell h2) nb 0).trans h2, ((unhide HKC).cell (block_lt_of_cell h3) nh 0).trans h3⟩)
      (first | (go_at_call 86; (refine HX.mono ?_; rintro x w1 ⟨HK, ⟨h0, rfl⟩ | ⟨T, r, h1, rfl, HG, HP⟩⟩; (focus (have hn : res = none := (by rw [unhide HRES, h0]; simp); exact ⟨rfl, hide ((Kept1.of_below ((Below.refl _ _).drew)).trans (unhide HK)), Or.inl ⟨hn, rfl⟩⟩)); have HKC := hide ((Kept1.of_below (g := p) ((Below.refl w.heap.size w).drew)).trans (unhide HK)); have HR1 := hide h1; obtain ⟨Ty, v, he⟩ := exT_iface (unhide HG); have HEX := hide he; rw [he]; clear h1 he HX HK)))
    have HX2 := hide (show exT ns (.node 3 0 t T .nil) = ePre q (.iface Ty v) by rw [unhide HE, unhide HEX])
    have HR2 := hide (show res = some (.node 3 0 t T .nil, r) by
      have := unhide HN
      rw [unhide HRES, if_neg (by omega), unhide HR1])
    clear HE HEX HRES HR1
    go_wp2_with fail
    go_ret
    exact ⟨HKC, Or.inr ⟨_, _, unhide HR2, by rw [unhide HX2]; rfl, hide ((unhide HGD) _ _ (unhide HR2)), HP⟩⟩
end Go.Proofs.YtfboipappaonhaaGreat

/-
  Walks: the rules behind an operand.
-/
namespace Go.Proofs.YtfboipappaonhaaGreat
set_option maxRecDepth 100000
set_option linter.unusedSimpArgs false
set_option linter.unusedVariables false
open Go.RowKit Go.Maps

/-- What a rule behind an operand hands back when its operator belongs to it. -/
def BPost (ns : List OpR) (w : World) (p g o n c bf bb : Nat) (res : Option (ET × List SyR)) (x : Ending) (w' : World) : Prop :=
  Hid (Kept1 w w' p) ∧ ((res = none ∧ x = noTree) ∨ ∃ T r, res = some (T, r) ∧ x = .returned (.tuple #[exT ns T, .bool true]) ∧ Hid (GoodT ns T) ∧ Hid (PrsAt w' p g o n c (n - r.length) bf bb))

set_option maxHeartbeats 1000000 in
theorem inf_not {ns : List OpR} (e : Value) (t : ByteArray) (least : Int) (w : World) (ba bp bh bs : Nat) (hk : knB ns (4, t) = true) (h1 : OpC w ba (opA ns (rt 4 t))) (hl : sLv ns (4, t) < least) :
    Calls Tryz.prog 133 #[e, .int .i64 least, .pointer (some ⟨ba, 0, none⟩), .pointer (some ⟨bp, 0, none⟩), .pointer (some ⟨bh, 0, none⟩), .pointer (some ⟨bs, 0, none⟩)] w fun x w' => x = .returned (.tuple #[.nilIface, .bool false]) ∧ w' = w := by
  obtain ⟨a0, a1, a2, a3⟩ := h1
  rw [sLv_op (ns := ns) (b := 4) (t := t) (Or.inr (Or.inl rfl)) hk] at hl
  generalize opA ns (rt 4 t) = q at a0 a1 a2 a3 hl
  go_enter Tryz.func133, Tryz.ntmps133
  go_wp2_with fail
  exact bodyPost_ret (v := .tuple #[.nilIface, .bool false]) (by simp [results, Tryz.results133, go_sem]) rfl ⟨rfl, rfl⟩

set_option maxHeartbeats 1000000 in
theorem post_not {ns : List OpR} (e : Value) (t : ByteArray) (least : Int) (w : World) (ba bp bh : Nat) (hk : knB ns (5, t) = true) (h1 : OpC w ba (opA ns (rt 5 t))) (hl : sLv ns (5, t) < least) :
    Calls Tryz.prog 135 #[e, .int .i64 least, .pointer (some ⟨ba, 0, none⟩), .pointer (some ⟨bp, 0, none⟩), .pointer (some ⟨bh, 0, none⟩)] w fun x w' => x = .returned (.tuple #[.nilIface, .bool false]) ∧ w' = w := by
  obtain ⟨a0, a1, a2, a3⟩ := h1
  rw [sLv_op (ns := ns) (b := 5) (t := t) (Or.inr (Or.inr rfl)) hk] at hl
  generalize opA ns (rt 5 t) = q at a0 a1 a2 a3 hl
  go_enter Tryz.func135, Tryz.ntmps135
  go_wp2_with fail
  exact bodyPost_ret (v := .tuple #[.nilIface, .bool false]) (by simp [results, Tryz.results135, go_sem]) rfl ⟨rfl, rfl⟩

set_option maxHeartbeats 1000000 in
theorem post_rule {ns : List OpR} (p g o n c bf bb i : Nat) (t : ByteArray) (r : List SyR) (L : ET) (least : Int) (w : World) (ba bp bh : Nat) (na : ba ≠ p) (nb : bp ≠ p) (nh : bh ≠ p) (hk : knB ns (5, t) = true) (hL : GoodT ns L) (hi : i + 1 + r.length = n) (hn : n ≤ 100000)
    (hp : PrsAt w p g o n c i bf bb) (h1 : OpC w ba (opA ns (rt 5 t))) (h2 : w.cell? ⟨bp, 0, none⟩ = some (.pointer (some ⟨p, 0, none⟩))) (h3 : w.cell? ⟨bh, 0, none⟩ = some (.int .i64 (sH ns (5, t) false))) (hl : least ≤ sLv ns (5, t))
    (res : Option (ET × List SyR)) (hres : res = (if lvT ns L < sH ns (5, t) false then none else some (.node 5 0 t L .nil, r))) (hgd : ∀ T r, res = some (T, r) → GoodT ns T) :
    Calls Tryz.prog 135 #[exT ns L, .int .i64 least, .pointer (some ⟨ba, 0, none⟩), .pointer (some ⟨bp, 0, none⟩), .pointer (some ⟨bh, 0, none⟩)] w (BPost ns w p g o n c bf bb res) := by
  have HT := take_any (lev_tree ns L hL) p g o n c i bf bb (sH ns (5, t) false) w hp (by omega)
  have HO := hide h1
  obtain ⟨a0, a1, a2, a3⟩ := h1
  rw [sLv_op (ns := ns) (b := 5) (t := t) (Or.inr (Or.inr rfl)) hk] at hl
  have HRES := hide hres
  have HGD := hide hgd
  clear hres hgd
  have HE := hide (show exT ns (.node 5 0 t L .nil) = ePost (opA ns (rt 5 t)) (exT ns L) from rfl)
  generalize opA ns (rt 5 t) = q at a0 a1 a2 a3 hl HE HO
  generalize sH ns (5, t) false = hh at h3 HT HRES
  obtain ⟨Ty, v, he⟩ := exT_iface hL
  rw [he] at HT HE ⊢
  have HI := hide hi
  clear hp hi he
  go_enter Tryz.func135, Tryz.ntmps135
  go_wp2_with fail
  refine HT.mono ?_
  rintro x w1 ⟨HK, ⟨h0, rfl⟩ | ⟨h0, rfl, HP⟩⟩
  · exact ⟨rfl, HK, Or.inl ⟨by rw [unhide HRES, if_pos h0], rfl⟩⟩
  · have HR2 := hide (show res = some (.node 5 0 t L .nil, r) by rw [unhide HRES, if_neg (by omega)])
    obtain ⟨b0, b1, b2, b3⟩ := (unhide HO).kept (unhide HK) na
    have HM := hide (show i + 1 = n - r.length by have := unhide HI; omega)
    clear HT HRES h0 a0 a1 a2 a3
    go_wp2_with fail
    refine bodyPost_ret (v := .tuple #[ePost q (.iface Ty v), .bool true]) (by simp [results, Tryz.results135, go_sem, ePost]) rfl ?_
    exact ⟨HK, Or.inr ⟨_, _, unhide HR2, by rw [unhide HE], hide ((unhide HGD) _ _ (unhide HR2)), by rw [← unhide HM]; exact HP⟩⟩

set_option maxHeartbeats 1000000 in
theorem inf_rule {ns : List OpR} (p g o n c bf bb i : Nat) (t : ByteArray) (r : List SyR) (L : ET) (least : Int) (w : World) (ba bp bh bs : Nat) (na : ba ≠ p) (nb : bp ≠ p) (nh : bh ≠ p) (nq : bs ≠ p) (hk : knB ns (4, t) = true) (hL : GoodT ns L) (hi : i ≤ 100000)
    (hr : Reads ns w p g o n c bf bb (i + 1) (sH ns (4, t) true) r)
    (hp : PrsAt w p g o n c i bf bb) (h1 : OpC w ba (opA ns (rt 4 t))) (h2 : w.cell? ⟨bp, 0, none⟩ = some (.pointer (some ⟨p, 0, none⟩))) (h3 : w.cell? ⟨bh, 0, none⟩ = some (.int .i64 (sH ns (4, t) false))) (h4 : w.cell? ⟨bs, 0, none⟩ = some (.int .i64 (sH ns (4, t) true))) (hl : least ≤ sLv ns (4, t))
    (res : Option (ET × List SyR)) (hres : res = (if lvT ns L < sH ns (4, t) false then none else (match RD ns (sH ns (4, t) true) none r with
      | none => none
      | some x => some (.node 4 0 t L x.1, x.2)))) (hgd : ∀ T r, res = some (T, r) → GoodT ns T) :
    Calls Tryz.prog 133 #[exT ns L, .int .i64 least, .pointer (some ⟨ba, 0, none⟩), .pointer (some ⟨bp, 0, none⟩), .pointer (some ⟨bh, 0, none⟩), .pointer (some ⟨bs, 0, none⟩)] w (BPost ns w p g o n c bf bb res) := by
  have HT := take_any (lev_tree ns L hL) p g o n c i bf bb (sH ns (4, t) false) w hp (by omega)
  have HO := hide h1
  obtain ⟨a0, a1, a2, a3⟩ := h1
  rw [sLv_op (ns := ns) (b := 4) (t := t) (Or.inr (Or.inl rfl)) hk] at hl
  have HRES := hide hres
  have HGD := hide hgd
  have HRD := hide hr
  clear hres hgd hr
  have HE := hide (show ∀ T, exT ns (.node 4 0 t L T) = eInf (opA ns (rt 4 t)) (exT ns L) (exT ns T) from fun T => rfl)
  generalize opA ns (rt 4 t) = q at a0 a1 a2 a3 hl HE HO
  generalize sH ns (4, t) false = hh at h3 HT HRES
  generalize sH ns (4, t) true = hs at h4 HRD HRES
  obtain ⟨Ty, v, he⟩ := exT_iface hL
  rw [he] at HT HE ⊢
  clear hp he
  go_enter Tryz.func133, Tryz.ntmps133
  go_wp2_with fail
  refine HT.mono ?_
  rintro x w1 ⟨HK, ⟨h0, rfl⟩ | ⟨h0, rfl, HP⟩⟩
  · exact ⟨rfl, HK, Or.inl ⟨by rw [unhide HRES, if_pos h0], rfl⟩⟩
  · have hdr := Kept1.of_below (g := p) ((Below.refl w1.heap.size w1).drew)
    have HX := (unhide HRD) w1.drew ((unhide HK).trans hdr) ((unhide HP).below ((Below.refl w1.heap.size w1).drew))
    have HK1 := hide ((unhide HK).trans hdr)
    obtain ⟨b0, b1, b2, b3⟩ := (unhide HO).kept (unhide HK) na
    have d2 := ((unhide HK).cell (block_lt_of_cell h2) nb 0).trans h2
    have d4 := ((unhide HK).cell (block_lt_of_cell h4) nq 0).trans h4
    have HN := hide (show ¬ lvT ns L < hh by omega)
    clear HT HRD h0 a0 a1 a2 a3 HP hdr h2 h3 h4 HK HO
    go_wp2_with fail
    go_region_held (fun w' => (w'.cell? ⟨ba, 0, none⟩ = some (.string q.s) ∧ w'.cell? ⟨ba, 1, none⟩ = some (.int .i64 q.k) ∧ w'.cell? ⟨ba, 2, none⟩ = some (.int .i64 q.l) ∧ w'.cell? ⟨ba, 3, none⟩ = some (.int .i64 q.sd)) ∧ w'.cell? ⟨bp, 0, none⟩ = some (.pointer (some ⟨p, 0, none⟩)) ∧ w'.cell? ⟨bs, 0, none⟩ = some (.int .i64 hs)) (first | (go_keep; done) | exact ⟨(show OpC w1 ba q from ⟨b0, b1, b2, b3⟩).kept (unhide HKD) na, ((unhide HKD).cell (block_lt_of_cell d2) nb 0).trans d2, ((unhide HKD).cell (block_lt_of_cell d4) nq 0).trans d4⟩)
      (first | (go_at_call 86; refine HX.mono ?_; rintro x w2 ⟨HK2, ⟨h0, rfl⟩ | ⟨T, r2, h1, rfl, HG, HP⟩⟩; (focus (have hn : res = none := (by rw [unhide HRES, h0]; simp); exact ⟨rfl, hide ((unhide HK1).trans (unhide HK2)), Or.inl ⟨hn, rfl⟩⟩)); have HKC := hide ((unhide HK1).trans (unhide HK2)); have HKD := hide ((Kept1.of_below (g := p) ((Below.refl w1.heap.size w1).drew)).trans (unhide HK2)); have HR1 := hide h1; obtain ⟨Ty2, v2, he2⟩ := exT_iface (unhide HG); have HEX := hide he2; rw [he2]; clear h1 he2 HX HK2 HK1))
    have HX2 := hide (show exT ns (.node 4 0 t L T) = eInf q (.iface Ty v) (.iface Ty2 v2) by rw [unhide HE, unhide HEX])
    have HR2 := hide (show res = some (.node 4 0 t L T, r2) by have := unhide HN; rw [unhide HRES, if_neg (by omega), unhide HR1])
    clear HE HEX HRES HR1
    go_wp2_with fail
    refine bodyPost_ret (v := .tuple #[eInf q (.iface Ty v) (.iface Ty2 v2), .bool true]) (by simp [results, Tryz.results133, go_sem, eInf]) rfl ?_
    exact ⟨HKC, Or.inr ⟨_, _, unhide HR2, by rw [unhide HX2], hide ((unhide HGD) _ _ (unhide HR2)), HP⟩⟩
end Go.Proofs.YtfboipappaonhaaGreat

/-
  Walks: the parser's first step.
-/
namespace Go.Proofs.YtfboipappaonhaaGreat
set_option maxRecDepth 100000
set_option linter.unusedSimpArgs false
set_option linter.unusedVariables false
open Go.RowKit Go.Maps

/-- The rules in front of an operand. -/
def BfOk (w : World) (p : Nat) (ns : List OpR) (G : ByteArray → Option Value) : Prop :=
  G opn = some (.func (.func 82) #[.pointer (some ⟨p, 0, none⟩)] #[]) ∧
  ∀ t, t ≠ opn → (hasB ns t 1 = false → G t = none) ∧ (hasB ns t 1 = true → ∃ ba bp bh, G t = some (.func (.func 132) #[] #[.pointer (some ⟨ba, 0, none⟩), .pointer (some ⟨bp, 0, none⟩), .pointer (some ⟨bh, 0, none⟩)]) ∧
    ba ≠ p ∧ bp ≠ p ∧ bh ≠ p ∧ OpC w ba (opA ns (rt 3 t)) ∧ w.cell? ⟨bp, 0, none⟩ = some (.pointer (some ⟨p, 0, none⟩)) ∧ w.cell? ⟨bh, 0, none⟩ = some (.int .i64 (sH ns (3, t) false)))

/-- The rules behind an operand. -/
def BbOk (w : World) (p : Nat) (ns : List OpR) (G : ByteArray → Option Value) : Prop :=
  ∀ t, (¬ opT ns t → G t = none) ∧
  (hasB ns t 2 = true → ∃ ba bp bh bs, G t = some (.func (.func 133) #[] #[.pointer (some ⟨ba, 0, none⟩), .pointer (some ⟨bp, 0, none⟩), .pointer (some ⟨bh, 0, none⟩), .pointer (some ⟨bs, 0, none⟩)]) ∧
    ba ≠ p ∧ bp ≠ p ∧ bh ≠ p ∧ bs ≠ p ∧ OpC w ba (opA ns (rt 4 t)) ∧ w.cell? ⟨bp, 0, none⟩ = some (.pointer (some ⟨p, 0, none⟩)) ∧ w.cell? ⟨bh, 0, none⟩ = some (.int .i64 (sH ns (4, t) false)) ∧ w.cell? ⟨bs, 0, none⟩ = some (.int .i64 (sH ns (4, t) true))) ∧
  (hasB ns t 3 = true → ∃ ba bp bh, G t = some (.func (.func 135) #[] #[.pointer (some ⟨ba, 0, none⟩), .pointer (some ⟨bp, 0, none⟩), .pointer (some ⟨bh, 0, none⟩)]) ∧
    ba ≠ p ∧ bp ≠ p ∧ bh ≠ p ∧ OpC w ba (opA ns (rt 5 t)) ∧ w.cell? ⟨bp, 0, none⟩ = some (.pointer (some ⟨p, 0, none⟩)) ∧ w.cell? ⟨bh, 0, none⟩ = some (.int .i64 (sH ns (5, t) false)))

theorem BfOk.kept {w w' : World} {p : Nat} {ns : List OpR} {G : ByteArray → Option Value} (h : BfOk w p ns G) (hk : Kept1 w w' p) : BfOk w' p ns G := by
  refine ⟨h.1, fun t ht => ⟨(h.2 t ht).1, fun hb => ?_⟩⟩
  obtain ⟨ba, bp, bh, h0, n1, n2, n3, h1, h2, h3⟩ := (h.2 t ht).2 hb
  exact ⟨ba, bp, bh, h0, n1, n2, n3, h1.kept hk n1, (hk.cell (block_lt_of_cell h2) n2 0).trans h2, (hk.cell (block_lt_of_cell h3) n3 0).trans h3⟩

theorem BbOk.kept {w w' : World} {p : Nat} {ns : List OpR} {G : ByteArray → Option Value} (h : BbOk w p ns G) (hk : Kept1 w w' p) : BbOk w' p ns G := by
  refine fun t => ⟨(h t).1, fun hb => ?_, fun hb => ?_⟩
  · obtain ⟨ba, bp, bh, bs, h0, n1, n2, n3, n4, h1, h2, h3, h4⟩ := (h t).2.1 hb
    exact ⟨ba, bp, bh, bs, h0, n1, n2, n3, n4, h1.kept hk n1, (hk.cell (block_lt_of_cell h2) n2 0).trans h2, (hk.cell (block_lt_of_cell h3) n3 0).trans h3, (hk.cell (block_lt_of_cell h4) n4 0).trans h4⟩
  · obtain ⟨ba, bp, bh, h0, n1, n2, n3, h1, h2, h3⟩ := (h t).2.2 hb
    exact ⟨ba, bp, bh, h0, n1, n2, n3, h1.kept hk n1, (hk.cell (block_lt_of_cell h2) n2 0).trans h2, (hk.cell (block_lt_of_cell h3) n3 0).trans h3⟩

theorem Kept1.grown {w w' : World} {p : Nat} (h : Kept1 w w' p) : w.grownBy w' (some p) := ⟨h.os, h.tape, h.output, h.size, fun i hi hne => h.block i hi (fun e => hne (by rw [e]))⟩

/-- The parser's surroundings. -/
def PC (w : World) (p g o bf bb : Nat) (ns : List OpR) (ts : List TokR) : Prop :=
  g ≠ p ∧ bf ≠ p ∧ bb ≠ p ∧ OpsT w g o ts ∧ (∃ m G, SMap w bf m G ∧ BfOk w p ns G) ∧ (∃ m G, SMap w bb m G ∧ BbOk w p ns G)

theorem PC.kept {w w' : World} {p g o bf bb : Nat} {ns : List OpR} {ts : List TokR} (h : PC w p g o bf bb ns ts) (hk : Kept1 w w' p) : PC w' p g o bf bb ns ts := by
  obtain ⟨n1, n2, n3, ht, ⟨m, G, hG, hB⟩, ⟨m', G', hG', hB'⟩⟩ := h
  refine ⟨n1, n2, n3, fun i hi => ?_, ⟨m, G, hG.kept hk.grown (fun e => n2 (by injection e)), hB.kept hk⟩, ⟨m', G', hG'.kept hk.grown (fun e => n3 (by injection e)), hB'.kept hk⟩⟩
  obtain ⟨c0, c1, c2⟩ := ht i hi
  exact ⟨(hk.cell (block_lt_of_cell c0) n1 _).trans c0, (hk.cell (block_lt_of_cell c1) n1 _).trans c1, (hk.cell (block_lt_of_cell c2) n1 _).trans c2⟩

set_option maxHeartbeats 1000000 in
theorem first_leaf {ns : List OpR} {ts : List TokR} (p g o c bf bb i : Nat) (least : Int) (w : World) (hpc : PC w p g o bf bb ns ts) (hp : PrsAt w p g o ts.length c i bf bb) (hi : i < ts.length) (hn : ts.length ≤ 100000) (hz : (atT ts i).t.size ≤ maxLen)
    (hk : (atT ts i).k = 1 ∨ (atT ts i).k = 2) (hno : ¬ opT ns (atT ts i).t) (hne : (atT ts i).t ≠ opn) :
    Calls Tryz.prog 136 #[.pointer (some ⟨p, 0, none⟩), .int .i64 least] w (RPost ns w p g o ts.length c bf bb (some (.node (atT ts i).k.toNat 0 (atT ts i).t .nil .nil, sgs ns ts (i + 1) (ts.length - (i + 1))))) := by
  obtain ⟨n1, n2, n3, ht, ⟨m, G, hG, hB⟩, _⟩ := hpc
  obtain ⟨t0, t1, t2⟩ := ht i hi
  have HG := hide hG
  have HP := hide hp
  obtain ⟨q0, q1, q2, q3, q4⟩ := hp
  have hpl := block_lt_of_cell q0
  have hgl := block_lt_of_cell t0
  simp only at hpl hgl
  have hpn : p ≠ w.heap.size := by omega
  have hgn : g ≠ w.heap.size := by omega
  have HNO := hide (show G (atT ts i).t = none from (hB.2 _ hne).1 (by
    cases h : hasB ns (atT ts i).t 1 with
    | false => rfl
    | true =>
      obtain ⟨j, hj, e1, _⟩ := (hasB_iff _ _ _).1 h
      exact absurd ⟨j, hj, e1⟩ hno))
  clear hG hB
  go_enter Tryz.func136, Tryz.ntmps136
  go_wp2_with fail
  go_region
  go_wp2_with fail
  have HKW := hide (show Kept1 w (((w.setCell ⟨p, 1, none⟩ (.int .i64 ((i : Int) + 1))).alloc (.cells #[.int .i64 (atT ts i).k, .string (atT ts i).g, .string (atT ts i).t] 97)).drew).drew p from (Kept1.setP _).trans (Kept1.of_below (((below1 _ _).drew).drew)))
  have e1 : ((i + 1 : Nat) : Int) = (i : Int) + 1 := by omega
  have HPW := (unhide HP).set (i + 1)
  rw [e1] at HPW
  replace HPW := hide (HPW.below (((below1 _ (.cells #[.int .i64 (atT ts i).k, .string (atT ts i).g, .string (atT ts i).t] 97)).drew).drew))
  have hlk := ((unhide HG).kept (unhide HKW).grown (fun e => n2 (by injection e))).look (ty := 154) (e := 159) (z := .nilFunc) Tryz.underlying154 (by kernel_rfl) hz
  rw [unhide HNO] at hlk
  simp only [Option.getD, Option.isSome] at hlk
  clear HG HP q0 q1 q2 q3 q4 ht t0 t1 t2
  obtain ⟨w0, w1, w2, w3, w4⟩ := unhide HPW
  have HEND := hide (show ts.length - (sgs ns ts (i + 1) (ts.length - (i + 1))).length = i + 1 by rw [sgs_len]; omega)
  rcases hk with hk1 | hk1
  · have hb : ((atT ts i).k == 1) = true := by rw [hk1]; rfl
    have HN := hide (show (atT ts i).k.toNat = 1 by rw [hk1]; rfl)
    clear hk1
    go_region
    go_wp2_with fail
    go_ret
    refine ⟨HKW, Or.inr ⟨_, _, rfl, ?_, ?_, ?_⟩⟩
    · rw [unhide HN]; rfl
    · rw [unhide HN]; exact hide ⟨rfl, Or.inl ⟨Or.inl rfl, rfl, rfl⟩⟩
    · rw [unhide HEND]; exact HPW
  · have hb : ((atT ts i).k == 1) = false := by rw [hk1]; rfl
    have HN := hide (show (atT ts i).k.toNat = 2 by rw [hk1]; rfl)
    clear hk1
    go_region
    go_wp2_with fail
    go_ret
    refine ⟨HKW, Or.inr ⟨_, _, rfl, ?_, ?_, ?_⟩⟩
    · rw [unhide HN]; rfl
    · rw [unhide HN]; exact hide ⟨rfl, Or.inl ⟨Or.inr rfl, rfl, rfl⟩⟩
    · rw [unhide HEND]; exact HPW

set_option maxHeartbeats 1000000 in
theorem first_open {ns : List OpR} {ts : List TokR} (hv : IsCode ns 0) (p g o c bf bb i d : Nat) (least : Int) (w : World) (hpc : PC w p g o bf bb ns ts) (hp : PrsAt w p g o ts.length c i bf bb) (hi : i < ts.length) (hn : ts.length ≤ 100000) (hz : (atT ts i).t.size ≤ maxLen)
    (hop : (atT ts i).t = opn) (hf : FitE ns (false, d + 1) (sgs ns ts (i + 1) (ts.length - (i + 1)))) (hr : Reads ns w p g o ts.length c bf bb (i + 1) 0 (sgs ns ts (i + 1) (ts.length - (i + 1))))
    (res : Option (ET × List SyR)) (hres : res = (match RD ns 0 none (sgs ns ts (i + 1) (ts.length - (i + 1))) with
      | none => none
      | some x => some (.node 6 0 ByteArray.empty x.1 .nil, x.2.tail))) :
    Calls Tryz.prog 136 #[.pointer (some ⟨p, 0, none⟩), .int .i64 least] w (RPost ns w p g o ts.length c bf bb res) := by
  obtain ⟨n1, n2, n3, ht, ⟨m, G, hG, hB⟩, _⟩ := hpc
  obtain ⟨t0, t1, t2⟩ := ht i hi
  have HG := hide hG
  have HP := hide hp
  obtain ⟨q0, q1, q2, q3, q4⟩ := hp
  have hpl := block_lt_of_cell q0
  have hgl := block_lt_of_cell t0
  simp only at hpl hgl
  have hpn : p ≠ w.heap.size := by omega
  have hgn : g ≠ w.heap.size := by omega
  have HNO := hide (show G (atT ts i).t = some (.func (.func 82) #[.pointer (some ⟨p, 0, none⟩)] #[]) by rw [hop]; exact hB.1)
  have HF := hide hf
  have HRD := hide hr
  have HRES := hide hres
  clear hf hr hres hop
  clear hG hB
  go_enter Tryz.func136, Tryz.ntmps136
  go_wp2_with fail
  go_region
  go_wp2_with fail
  have HKW := hide (show Kept1 w (((w.setCell ⟨p, 1, none⟩ (.int .i64 ((i : Int) + 1))).alloc (.cells #[.int .i64 (atT ts i).k, .string (atT ts i).g, .string (atT ts i).t] 97)).drew).drew p from (Kept1.setP _).trans (Kept1.of_below (((below1 _ _).drew).drew)))
  have e1 : ((i + 1 : Nat) : Int) = (i : Int) + 1 := by omega
  have HPW := (unhide HP).set (i + 1)
  rw [e1] at HPW
  replace HPW := hide (HPW.below (((below1 _ (.cells #[.int .i64 (atT ts i).k, .string (atT ts i).g, .string (atT ts i).t] 97)).drew).drew))
  have hlk := ((unhide HG).kept (unhide HKW).grown (fun e => n2 (by injection e))).look (ty := 154) (e := 159) (z := .nilFunc) Tryz.underlying154 (by kernel_rfl) hz
  rw [unhide HNO] at hlk
  simp only [Option.getD, Option.isSome] at hlk
  clear HG HP q0 q1 q2 q3 q4 ht t0 t1 t2
  obtain ⟨w0, w1, w2, w3, w4⟩ := unhide HPW
  have HX := group_rule hv p g o ts.length c bf bb (i + 1) d (sgs ns ts (i + 1) (ts.length - (i + 1))) least _ (fun w' hk' hp' => (unhide HRD) w' ((unhide HKW).trans hk') hp') (unhide HPW) hn (by rw [sgs_len]; omega) (unhide HF) res (unhide HRES)
  go_region
  go_wp2_with fail
  refine HX.mono ?_
  rintro x w5 ⟨HK5, ⟨h0, rfl⟩ | ⟨T, r, h1, rfl, HG5, HP5⟩⟩
  · exact ⟨rfl, hide ((unhide HKW).trans (unhide HK5)), Or.inl ⟨h0, rfl⟩⟩
  · have HR5 := hide h1
    have HK6 := hide ((unhide HKW).trans (unhide HK5))
    clear h1 HX HRES HRD HF
    go_wp2_with fail
    go_ret
    exact ⟨HK6, Or.inr ⟨_, _, unhide HR5, rfl, HG5, HP5⟩⟩

set_option maxHeartbeats 1000000 in
theorem first_pre {ns : List OpR} {ts : List TokR} (p g o c bf bb i : Nat) (least : Int) (w : World) (hpc : PC w p g o bf bb ns ts) (hp : PrsAt w p g o ts.length c i bf bb) (hi : i < ts.length) (hn : ts.length ≤ 100000) (hz : (atT ts i).t.size ≤ maxLen)
    (hha : hasB ns (atT ts i).t 1 = true) (hne : (atT ts i).t ≠ opn) (hr : Reads ns w p g o ts.length c bf bb (i + 1) (sH ns (3, (atT ts i).t) false) (sgs ns ts (i + 1) (ts.length - (i + 1))))
    (res : Option (ET × List SyR)) (hres : res = (if sLv ns (3, (atT ts i).t) < least then none else (match RD ns (sH ns (3, (atT ts i).t) false) none (sgs ns ts (i + 1) (ts.length - (i + 1))) with
      | none => none
      | some x => some (.node 3 0 (atT ts i).t x.1 .nil, x.2)))) (hgd : ∀ T r, res = some (T, r) → GoodT ns T) :
    Calls Tryz.prog 136 #[.pointer (some ⟨p, 0, none⟩), .int .i64 least] w (RPost ns w p g o ts.length c bf bb res) := by
  obtain ⟨n1, n2, n3, ht, ⟨m, G, hG, hB⟩, _⟩ := hpc
  obtain ⟨t0, t1, t2⟩ := ht i hi
  have HG := hide hG
  have HP := hide hp
  obtain ⟨q0, q1, q2, q3, q4⟩ := hp
  have hpl := block_lt_of_cell q0
  have hgl := block_lt_of_cell t0
  simp only at hpl hgl
  have hpn : p ≠ w.heap.size := by omega
  have hgn : g ≠ w.heap.size := by omega
  obtain ⟨ba, bp, bh, hg0, m1, m2, m3, k1, k2, k3⟩ := (hB.2 _ hne).2 hha
  have HNO := hide hg0
  have HCE := hide (And.intro k1 (And.intro k2 k3))
  have HRD := hide hr
  have HRES := hide hres
  have HGD := hide hgd
  clear hr hres hgd k1 k2 k3 hg0
  clear hG hB
  go_enter Tryz.func136, Tryz.ntmps136
  go_wp2_with fail
  go_region
  go_wp2_with fail
  have HKW := hide (show Kept1 w (((w.setCell ⟨p, 1, none⟩ (.int .i64 ((i : Int) + 1))).alloc (.cells #[.int .i64 (atT ts i).k, .string (atT ts i).g, .string (atT ts i).t] 97)).drew).drew p from (Kept1.setP _).trans (Kept1.of_below (((below1 _ _).drew).drew)))
  have e1 : ((i + 1 : Nat) : Int) = (i : Int) + 1 := by omega
  have HPW := (unhide HP).set (i + 1)
  rw [e1] at HPW
  replace HPW := hide (HPW.below (((below1 _ (.cells #[.int .i64 (atT ts i).k, .string (atT ts i).g, .string (atT ts i).t] 97)).drew).drew))
  have hlk := ((unhide HG).kept (unhide HKW).grown (fun e => n2 (by injection e))).look (ty := 154) (e := 159) (z := .nilFunc) Tryz.underlying154 (by kernel_rfl) hz
  rw [unhide HNO] at hlk
  simp only [Option.getD, Option.isSome] at hlk
  clear HG HP q0 q1 q2 q3 q4 ht t0 t1 t2
  obtain ⟨w0, w1, w2, w3, w4⟩ := unhide HPW
  have HX := pre_rule p g o ts.length c bf bb (i + 1) (atT ts i).t (sgs ns ts (i + 1) (ts.length - (i + 1))) least _ ba bp bh m1 m2 m3 (has_kn hha (by decide)) (fun w' hk' hp' => (unhide HRD) w' ((unhide HKW).trans hk') hp') (unhide HPW) ((unhide HCE).1.kept (unhide HKW) m1) (((unhide HKW).cell (block_lt_of_cell (unhide HCE).2.1) m2 0).trans (unhide HCE).2.1) (((unhide HKW).cell (block_lt_of_cell (unhide HCE).2.2) m3 0).trans (unhide HCE).2.2) res (unhide HRES) (unhide HGD)
  go_region
  go_wp2_with fail
  refine HX.mono ?_
  rintro x w5 ⟨HK5, ⟨h0, rfl⟩ | ⟨T, r, h1, rfl, HG5, HP5⟩⟩
  · exact ⟨rfl, hide ((unhide HKW).trans (unhide HK5)), Or.inl ⟨h0, rfl⟩⟩
  · have HR5 := hide h1
    have HK6 := hide ((unhide HKW).trans (unhide HK5))
    clear h1 HX HRES HRD HGD HCE
    go_wp2_with fail
    go_ret
    exact ⟨HK6, Or.inr ⟨_, _, unhide HR5, rfl, HG5, HP5⟩⟩
end Go.Proofs.YtfboipappaonhaaGreat
