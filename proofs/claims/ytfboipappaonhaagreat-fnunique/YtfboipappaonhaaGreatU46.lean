import Derived.Defers
import Derived.Recover
import Derived.Laws.Pointers
import Derived.Test.YtfboipappaonhaaGreatU35
import Derived.Test.YtfboipappaonhaaGreatU45

/-
  Walk: the answer to a refusal.
-/
namespace Go.Proofs.YtfboipappaonhaaGreat
set_option maxRecDepth 100000
set_option linter.unusedSimpArgs false
set_option linter.unusedVariables false
open Go.RowKit

set_option maxHeartbeats 1000000 in
theorem answerTo_any (code place : Int) (w : World) :
    Calls Tryz.prog 37 #[.iface 146 (.agg #[.int .i64 code, .int .i64 place])] w fun x w' => x = .returned (.tuple #[.int .i64 code, .int .i64 place]) ∧ Below w.heap.size w w' := by
  go_enter Tryz.func37, Tryz.ntmps37
  have hta : ∀ W : World, (Instr.typeAssert (.iface 146 (.agg #[.int .i64 code, .int .i64 place])) 20 146 true).run Tryz.prog W = .ok (.tuple #[.agg #[.int .i64 code, .int .i64 place], .bool true]) W := fun W => by kernel_rfl
  go_wp2_with fail
  go_region
  go_wp2_with fail
  refine bodyPost_ret (v := .tuple #[.int .i64 code, .int .i64 place]) (by simp [results, Tryz.results37, go_sem]) rfl ⟨rfl, ?_⟩
  first
    | exact (below1 _ _).drew
    | exact below1 _ _
end Go.Proofs.YtfboipappaonhaaGreat

/-
  Walks: the deferred answer of Parse.
-/
namespace Go.Proofs.YtfboipappaonhaaGreat
set_option maxRecDepth 100000
set_option linter.unusedSimpArgs false
set_option linter.unusedVariables false
open Go.RowKit

set_option maxHeartbeats 1000000 in
theorem catch_idle (p q : Addr) (w : World) :
    CallsD Tryz.prog 36 #[.pointer (some p), .pointer (some q)] .returning w fun e u' w' => e = .returned (.tuple #[]) ∧ u' = .returning ∧ w' = w := by
  refine callsD_of_wpS Tryz.func36 rfl fun c₀ cs hu => ?_
  apply wpS_seq
  apply wpS_region
  simp [wpOpsS, go_sem, recoverD, hu, Tryz.ntmps36, Exit.thenS]
  apply wpS_seq
  apply wpS_region
  simp [wpOpsS, go_sem, hu, Tryz.ntmps36, Exit.thenS]
  refine wpS_cond (t := false) (by simp [Act.eval, Array.replicate]) ?_
  simp only [Bool.false_eq_true, if_false]
  refine wpS_of_wp (wp_skip ?_)
  cases c₀
  simp_all [bodyPostS, results, Tryz.results36]

set_option maxHeartbeats 1000000 in
theorem catch_panicking (p q : Nat) (x y code place : Int) (w : World) (hp : w.cell? ⟨p, 0, none⟩ = some (.int .i64 x)) (hpz : w.frozen? ⟨p, 0, none⟩ = false) (hq : w.cell? ⟨q, 0, none⟩ = some (.int .i64 y)) (hqz : w.frozen? ⟨q, 0, none⟩ = false) (hne : p ≠ q) :
    CallsD Tryz.prog 36 #[.pointer (some ⟨p, 0, none⟩), .pointer (some ⟨q, 0, none⟩)] (.panicking [{ v := .iface 146 (.agg #[.int .i64 code, .int .i64 place]), recovered := false }]) w fun e u' w' =>
      e = .returned (.tuple #[]) ∧ u' = .panicking [{ v := .iface 146 (.agg #[.int .i64 code, .int .i64 place]), recovered := true }] ∧ ∃ w1, Below w.heap.size w w1 ∧ w' = (w1.setCell ⟨p, 0, none⟩ (.int .i64 code)).setCell ⟨q, 0, none⟩ (.int .i64 place) := by
  have hpl := block_lt_of_cell hp
  have hql := block_lt_of_cell hq
  refine callsD_of_wpS Tryz.func36 rfl fun c₀ cs hu => ?_
  apply wpS_seq
  apply wpS_region
  simp [wpOpsS, go_sem, recoverD, hu, Tryz.ntmps36, Exit.thenS]
  apply wpS_seq
  apply wpS_region
  simp [wpOpsS, go_sem, hu, Tryz.ntmps36, Exit.thenS]
  refine wpS_cond (t := true) (by simp [Act.eval, Array.replicate]) ?_
  simp only [if_true]
  refine wpS_of_wp ?_
  have HA := answerTo_any code place w
  go_wp2_with fail
  refine HA.mono ?_
  rintro x1 w1 ⟨rfl, hb1⟩
  have p1 := (hb1.cell (p := ⟨p, 0, none⟩) hpl).trans hp
  have p2 := (hb1.frozen (p := ⟨p, 0, none⟩) hpl).trans hpz
  have q1 := (hb1.cell (p := ⟨q, 0, none⟩) hql).trans hq
  have q2 := (hb1.frozen (p := ⟨q, 0, none⟩) hql).trans hqz
  have q3 : (w1.setCell ⟨p, 0, none⟩ (.int .i64 code)).cell? ⟨q, 0, none⟩ = some (.int .i64 y) := (World.cell?_setCell_other _ _ _ _ (fun e => hne (by injection e))).trans q1
  go_wp2_with fail
  refine ⟨rfl, _, rfl, .tuple #[], by simp [results, Tryz.results36, go_sem], rfl, rfl, w1, hb1, rfl⟩
end Go.Proofs.YtfboipappaonhaaGreat

/-
  Walks: the parser's read.
-/
namespace Go.Proofs.YtfboipappaonhaaGreat
set_option maxRecDepth 100000
set_option linter.unusedSimpArgs false
set_option linter.unusedVariables false
open Go.RowKit Go.Maps
open Go.Deep (BT)

def atOf (w : World) (p : Nat) : Nat := match w.cell? ⟨p, 1, none⟩ with
  | some v => (intOf v).toNat
  | none => 0

theorem PrsAt.atOf {w : World} {p g o n c i bf bb : Nat} (h : PrsAt w p g o n c i bf bb) : atOf w p = i := by
  unfold Proofs.YtfboipappaonhaaGreat.atOf
  rw [h.2.1]
  simp [intOf]

/-- What the round's relation says. -/
def RdRel (ns : List OpR) (ts : List TokR) (w : World) (p g o c bf bb d : Nat) (least : Int) (res : Option (ET × List SyR)) (T : ET) (j : Nat) (wr : World) : Prop :=
  GoodT ns T ∧ PrsAt wr p g o ts.length c j bf bb ∧ Kept1 w wr p ∧ FitE ns (true, d) (sgs ns ts j (ts.length - j)) ∧ least ≤ lvT ns T ∧ res = RD ns least (some T) (sgs ns ts j (ts.length - j))

/-- What one operator more behind an operand gives. -/
theorem nxt_inf {ns : List OpR} (hv : IsCode ns 0) {T T' : ET} {t : ByteArray} {d : Nat} {least : Int} {r r' : List SyR} (hT : GoodT ns T) (hf : FitE ns (false, d) r) (hk : knB ns (4, t) = true) (hl : least ≤ sLv ns (4, t))
    (h : (if lvT ns T < sH ns (4, t) false then none else (match RD ns (sH ns (4, t) true) none r with
      | none => none
      | some x => some (BT.node 4 0 t T x.1, x.2))) = some (T', r')) : GoodT ns T' ∧ FitE ns (true, d) r' ∧ least ≤ lvT ns T' ∧ ∃ a, r = a ++ r' := by
  by_cases hlt : lvT ns T < sH ns (4, t) false
  · rw [if_pos hlt] at h; cases h
  · rw [if_neg hlt] at h
    cases hy : RD ns (sH ns (4, t) true) none r with
    | none => rw [hy] at h; cases h
    | some y =>
      rw [hy] at h
      simp only [Option.some.injEq, Prod.mk.injEq] at h
      obtain ⟨rfl, rfl⟩ := h
      obtain ⟨a1, a2, a3, _, a5⟩ := rd_sound hv _ _ none r d y ((holes_le hv (s := (4, t)) (Or.inr (Or.inl rfl)) hk).2 rfl) hf (fun L e => by cases e) hy
      exact ⟨⟨rfl, Or.inr (Or.inr (Or.inr ⟨rfl, hk, hT, a2, by omega, a3⟩))⟩, a1, hl, ySy y.1, a5⟩

theorem nxt_post {ns : List OpR} {T T' : ET} {t : ByteArray} {least : Int} {r r' : List SyR} (hT : GoodT ns T) (hk : knB ns (5, t) = true) (hl : least ≤ sLv ns (5, t))
    (h : (if lvT ns T < sH ns (5, t) false then none else some (BT.node 5 0 t T .nil, r)) = some (T', r')) : GoodT ns T' ∧ least ≤ lvT ns T' ∧ r' = r := by
  by_cases hlt : lvT ns T < sH ns (5, t) false
  · rw [if_pos hlt] at h; cases h
  · rw [if_neg hlt] at h
    simp only [Option.some.injEq, Prod.mk.injEq] at h
    obtain ⟨rfl, rfl⟩ := h
    exact ⟨⟨rfl, Or.inr (Or.inr (Or.inl ⟨Or.inr rfl, hk, hT, rfl, by omega⟩))⟩, hl, rfl⟩

set_option maxHeartbeats 2000000 in
theorem read_step {ns : List OpR} {ts : List TokR} (hF : Fits ns ts) {p g o c bf bb : Nat} (i d : Nat) (least : Int) (w : World) (hs : Shorter ns ts p g o c bf bb (ts.length - i)) (hl : least ≤ 1001) (hf : FitE ns (false, d) (sgs ns ts i (ts.length - i))) (hpc : PC w p g o bf bb ns ts) (hp : PrsAt w p g o ts.length c i bf bb) (res : Option (ET × List SyR)) (hres : res = RD ns least none (sgs ns ts i (ts.length - i))) :
    Calls Tryz.prog 86 #[.pointer (some ⟨p, 0, none⟩), .int .i64 least] w (RPost ns w p g o ts.length c bf bb res) := by
  have hi := fits_lt hf
  have HX := first_any hF i d least w hs hl hf hpc hp
  have HF := hide hF
  have HS := hide hs
  have HPC := hide hpc
  have HRES := hide (show res = (match fstS ns least (sgT ns ts i) (sgs ns ts (i + 1) (ts.length - (i + 1))) with
    | none => none
    | some x => RD ns least (some x.1) x.2) by rw [hres, sgs_head hi, RD_fst]; rfl)
  have HSO := hide (show ∀ x, fstS ns least (sgT ns ts i) (sgs ns ts (i + 1) (ts.length - (i + 1))) = some x → FitE ns (true, d) x.2 ∧ GoodT ns x.1 ∧ least ≤ lvT ns x.1 ∧ sgs ns ts i (ts.length - i) = ySy x.1 ++ x.2 ∧ x.2.length < ts.length - i from fun x hx => by
    have hf' := hf
    rw [sgs_head hi] at hf'
    have h := fst_sound hF.code hl hf' hx
    rw [← sgs_head hi] at h
    refine ⟨h.1, h.2.1, h.2.2.1, h.2.2.2, ?_⟩
    have e := congrArg List.length h.2.2.2
    rw [sgs_len, List.length_append] at e
    have : 1 ≤ (ySy x.1).length := Nat.le_trans (Sh.pos h.2.1.sh) (tsz_le x.1 h.2.1)
    omega)
  generalize fstS ns least (sgT ns ts i) (sgs ns ts (i + 1) (ts.length - (i + 1))) = fr at HX HRES HSO
  clear hF hs hpc hp hres hf
  go_enter Tryz.func86, Tryz.ntmps86
  go_wp2_with fail
  refine HX.mono ?_
  clear HX
  rintro x w1 ⟨HK, ⟨h0, rfl⟩ | ⟨T0, r0, h1, rfl, HG, HP⟩⟩
  · have hn : res = none := by rw [unhide HRES, h0]
    exact ⟨rfl, HK, Or.inl ⟨hn, rfl⟩⟩
  · have HREL := hide (show RdRel ns ts w p g o c bf bb d least res T0 (ts.length - r0.length) w1 from by
      obtain ⟨a1, a2, a3, a4, a5⟩ := (unhide HSO) _ h1
      have hsu := sgs_suffix a4
      have e : i + (ts.length - i) - r0.length = ts.length - r0.length := by omega
      simp only [e] at hsu
      have e2 : ts.length - (ts.length - r0.length) = r0.length := by omega
      refine ⟨a2, unhide HP, unhide HK, ?_, a3, ?_⟩
      · rw [e2, ← hsu.1]; exact a1
      · rw [e2, ← hsu.1, unhide HRES, h1])
    have hij0 : i < ts.length - r0.length := by
      have := ((unhide HSO) _ h1).2.2.2.2
      simp only at this
      omega
    have HIJ := hide hij0
    clear HK h1 HG HP HRES HSO hij0
    go_wp2_with fail
    go_loopw [5] (fun lv wr => ∃ (T : ET) (j : Nat), lv = exT ns T ∧ i < j ∧ Hid (RdRel ns ts w p g o c bf bb d least res T j wr)) (fun _ wr => ts.length - atOf wr p)
    case atStart => exact ⟨T0, _, rfl, unhide HIJ, HREL⟩
    case round =>
      clear HREL
      obtain ⟨T, j, rfl, hij, HREL⟩ := hrel
      have hdr := Kept1.of_below (g := p) ((Below.refl wr.heap.size wr).drew)
      obtain ⟨b1, b2, b3, b4, b5, b6⟩ := unhide HREL
      have hj := fits_lt b4
      have hb : bhTo ns ts j = true := fitE_bh ((unhide HF).all j hj) b4
      obtain ⟨n1, n2, n3, ht, _, ⟨m, G, hG, hB⟩⟩ := (unhide HPC).kept b3
      have HPW := hide ((unhide HPC).kept (b3.trans hdr))
      obtain ⟨t0, t1, t2⟩ := ht j hj
      have HPD := hide (b2.below ((Below.refl wr.heap.size wr).drew))
      have HKD := hide (b3.trans hdr)
      have HAT := hide b2.atOf
      obtain ⟨q0, q1, q2, q3, q4⟩ := b2
      have hlk := (hG.kept hdr.grown (fun e => n3 (by injection e))).look (ty := 155) (e := 164) (z := .nilFunc) Tryz.underlying155 (by kernel_rfl) ((unhide HF).size j hj)
      have hsg := sgs_head (ns := ns) hj
      have hfr := b4
      rw [hsg] at b6 hfr
      rw [RD_some] at b6
      have HGT := hide b1
      have hlen : (sgs ns ts j (ts.length - j)).length = ts.length - j := sgs_len _ _ _ _
      rcases tok_behind ((unhide HF).role j hj) hb ((unhide HF).tok j hj) with ⟨hk, hha, hs4⟩ | ⟨hk, hha, hs5⟩ | ⟨hno, h4, h5⟩
      · obtain ⟨ba, bp, bh, bs, g0, m1, m2, m3, m4, k1, k2, k3, k4⟩ := ((hB.kept hdr) _).2.1 hha
        rw [g0] at hlk
        simp only [Option.getD, Option.isSome] at hlk
        have hk4 : knB ns (4, (atT ts j).t) = true := has_kn hha (by decide)
        rw [hs4] at b6 hfr hsg
        simp only [true_and] at b6
        by_cases hlv : sLv ns (4, (atT ts j).t) < least
        · have HR := hide (show res = some (T, sgs ns ts j (ts.length - j)) by
            rw [b6, if_neg (by omega), if_neg (by simp), ← hsg])
          have HE := hide (show ts.length - (sgs ns ts j (ts.length - j)).length = j by rw [hlen]; omega)
          have HX := inf_not (ns := ns) (exT ns T) (atT ts j).t least wr.drew ba bp bh bs hk4 k1 hlv
          clear b1 b3 b4 b5 b6 hb ht hG hB hsg hfr hlen hdr HREL g0 k1 k2 k3 k4 hlv hk4 hha hs4 hk
          go_wp2_with fail
          go_region
          go_wp2_with fail
          refine HX.mono ?_
          rintro x w2 ⟨rfl, hw2⟩
          have hw := hw2.symm
          subst hw
          clear HX
          go_wp2_with fail
          go_ret
          exact ⟨HKD, Or.inr ⟨_, _, unhide HR, rfl, HGT, by rw [unhide HE]; exact HPD⟩⟩
        · have hge : least ≤ sLv ns (4, (atT ts j).t) := by omega
          have hfn : FitE ns (false, d) (sgs ns ts (j + 1) (ts.length - (j + 1))) := by
            rcases fitE_true hfr with ⟨x, _⟩ | ⟨_, _, x⟩ | ⟨x, _⟩ | ⟨x, _⟩
            · simp [eoS] at x
            · exact x
            · simp at x
            · simp at x
          obtain ⟨nx, hnx⟩ : ∃ nx, nx = (if lvT ns T < sH ns (4, (atT ts j).t) false then none else (match RD ns (sH ns (4, (atT ts j).t) true) none (sgs ns ts (j + 1) (ts.length - (j + 1))) with
            | none => none
            | some x => some (BT.node 4 0 (atT ts j).t T x.1, x.2))) := ⟨_, rfl⟩
          have hnxt : ∀ T' r', nx = some (T', r') → GoodT ns T' ∧ FitE ns (true, d) r' ∧ least ≤ lvT ns T' ∧ ∃ a, sgs ns ts (j + 1) (ts.length - (j + 1)) = a ++ r' := fun T' r' h => nxt_inf (unhide HF).code b1 hfn hk4 hge (by rw [← hnx]; exact h)
          have HNX := hide hnxt
          have HR := hide (show res = nx.bind (fun x => RD ns least (some x.1) x.2) by
            rw [b6, if_pos hge, hnx]
            by_cases hx : lvT ns T < sH ns (4, (atT ts j).t) false
            · rw [if_pos hx, if_pos hx]; rfl
            · rw [if_neg hx, if_neg hx]
              cases RD ns (sH ns (4, (atT ts j).t) true) none (sgs ns ts (j + 1) (ts.length - (j + 1))) with
              | none => rfl
              | some y => rfl)
          have HX := inf_rule p g o ts.length c bf bb j (atT ts j).t (sgs ns ts (j + 1) (ts.length - (j + 1))) T least wr.drew ba bp bh bs m1 m2 m3 m4 hk4 b1 (by have := (unhide HF).len; omega) (fun w' hk' hp' => (unhide HS) (j + 1) d _ w' (by omega) ((holes_le (unhide HF).code (s := (4, (atT ts j).t)) (Or.inr (Or.inl rfl)) hk4).2 rfl) hfn ((unhide HPW).kept hk') hp') (unhide HPD) k1 k2 k3 k4 hge nx hnx (fun T' r' h => (hnxt T' r' h).1)
          clear b1 b3 b4 b5 b6 hb ht hG hB hsg hfr hlen hdr HREL g0 k1 k2 k3 k4 hlv hk4 hha hs4 hk hge hfn hnx hnxt
          go_wp2_with fail
          go_region
          go_wp2_with fail
          refine HX.mono ?_
          clear HX
          rintro x w2 ⟨HK2, ⟨h0, rfl⟩ | ⟨T', r', h1, rfl, HG', HP'⟩⟩
          · have hn : res = none := by rw [unhide HR, h0]; rfl
            exact ⟨rfl, hide ((unhide HKD).trans (unhide HK2)), Or.inl ⟨hn, rfl⟩⟩
          · obtain ⟨c1, c2, c3, a, c4⟩ := (unhide HNX) _ _ h1
            have hsu := sgs_suffix c4
            have hrl := hsu.2
            have e1 : j + 1 + (ts.length - (j + 1)) - r'.length = ts.length - r'.length := by omega
            have e2 : ts.length - (ts.length - r'.length) = r'.length := by omega
            have hsr := hsu.1
            rw [e1] at hsr
            have HREL2 := hide (show RdRel ns ts w p g o c bf bb d least res T' (ts.length - r'.length) w2 from
              ⟨c1, unhide HP', (unhide HKD).trans (unhide HK2), by rw [e2, ← hsr]; exact c2, c3, by rw [e2, ← hsr, unhide HR, h1]; rfl⟩)
            have HLT := hide (show ts.length - atOf w2 p < ts.length - atOf wr p by rw [(unhide HP').atOf, unhide HAT]; omega)
            have HIJ2 := hide (show i < ts.length - r'.length by omega)
            clear c1 c2 c3 c4 hsu hrl e1 e2 hsr h1 HK2 HG' HP' HR HNX
            go_wp2_with fail
            exact ⟨⟨T', _, rfl, unhide HIJ2, HREL2⟩, unhide HLT⟩
      · obtain ⟨ba, bp, bh, g0, m1, m2, m3, k1, k2, k3⟩ := ((hB.kept hdr) _).2.2 hha
        rw [g0] at hlk
        simp only [Option.getD, Option.isSome] at hlk
        have hk5 : knB ns (5, (atT ts j).t) = true := has_kn hha (by decide)
        rw [hs5] at b6 hfr hsg
        rw [if_neg (by simp)] at b6
        simp only [true_and] at b6
        by_cases hlv : sLv ns (5, (atT ts j).t) < least
        · have HR := hide (show res = some (T, sgs ns ts j (ts.length - j)) by
            rw [b6, if_neg (by omega), ← hsg])
          have HE := hide (show ts.length - (sgs ns ts j (ts.length - j)).length = j by rw [hlen]; omega)
          have HX := post_not (ns := ns) (exT ns T) (atT ts j).t least wr.drew ba bp bh hk5 k1 hlv
          clear b1 b3 b4 b5 b6 hb ht hG hB hsg hfr hlen hdr HREL g0 k1 k2 k3 hlv hk5 hha hs5 hk
          go_wp2_with fail
          go_region
          go_wp2_with fail
          refine HX.mono ?_
          rintro x w2 ⟨rfl, hw2⟩
          have hw := hw2.symm
          subst hw
          clear HX
          go_wp2_with fail
          go_ret
          exact ⟨HKD, Or.inr ⟨_, _, unhide HR, rfl, HGT, by rw [unhide HE]; exact HPD⟩⟩
        · have hge : least ≤ sLv ns (5, (atT ts j).t) := by omega
          have hfn : FitE ns (true, d) (sgs ns ts (j + 1) (ts.length - (j + 1))) := by
            rcases fitE_true hfr with ⟨x, _⟩ | ⟨x, _⟩ | ⟨_, _, x⟩ | ⟨x, _⟩
            · simp [eoS] at x
            · simp at x
            · exact x
            · simp at x
          obtain ⟨nx, hnx⟩ : ∃ nx, nx = (if lvT ns T < sH ns (5, (atT ts j).t) false then none else some (BT.node 5 0 (atT ts j).t T .nil, sgs ns ts (j + 1) (ts.length - (j + 1)))) := ⟨_, rfl⟩
          have hnxt : ∀ T' r', nx = some (T', r') → GoodT ns T' ∧ FitE ns (true, d) r' ∧ least ≤ lvT ns T' ∧ ∃ a, sgs ns ts (j + 1) (ts.length - (j + 1)) = a ++ r' := fun T' r' h => by
            obtain ⟨x1, x2, x3⟩ := nxt_post b1 hk5 hge (by rw [← hnx]; exact h)
            exact ⟨x1, by rw [x3]; exact hfn, x2, [], by rw [x3]; rfl⟩
          have HNX := hide hnxt
          have HR := hide (show res = nx.bind (fun x => RD ns least (some x.1) x.2) by
            rw [b6, if_pos hge, hnx]
            by_cases hx : lvT ns T < sH ns (5, (atT ts j).t) false
            · rw [if_pos hx, if_pos hx]; rfl
            · rw [if_neg hx, if_neg hx]; rfl)
          have HX := post_rule p g o ts.length c bf bb j (atT ts j).t (sgs ns ts (j + 1) (ts.length - (j + 1))) T least wr.drew ba bp bh m1 m2 m3 hk5 b1 (by rw [sgs_len]; omega) (unhide HF).len (unhide HPD) k1 k2 k3 hge nx hnx (fun T' r' h => (hnxt T' r' h).1)
          clear b1 b3 b4 b5 b6 hb ht hG hB hsg hfr hlen hdr HREL g0 k1 k2 k3 hlv hk5 hha hs5 hk hge hfn hnx hnxt
          go_wp2_with fail
          go_region
          go_wp2_with fail
          refine HX.mono ?_
          clear HX
          rintro x w2 ⟨HK2, ⟨h0, rfl⟩ | ⟨T', r', h1, rfl, HG', HP'⟩⟩
          · have hn : res = none := by rw [unhide HR, h0]; rfl
            exact ⟨rfl, hide ((unhide HKD).trans (unhide HK2)), Or.inl ⟨hn, rfl⟩⟩
          · obtain ⟨c1, c2, c3, a, c4⟩ := (unhide HNX) _ _ h1
            have hsu := sgs_suffix c4
            have hrl := hsu.2
            have e1 : j + 1 + (ts.length - (j + 1)) - r'.length = ts.length - r'.length := by omega
            have e2 : ts.length - (ts.length - r'.length) = r'.length := by omega
            have hsr := hsu.1
            rw [e1] at hsr
            have HREL2 := hide (show RdRel ns ts w p g o c bf bb d least res T' (ts.length - r'.length) w2 from
              ⟨c1, unhide HP', (unhide HKD).trans (unhide HK2), by rw [e2, ← hsr]; exact c2, c3, by rw [e2, ← hsr, unhide HR, h1]; rfl⟩)
            have HLT := hide (show ts.length - atOf w2 p < ts.length - atOf wr p by rw [(unhide HP').atOf, unhide HAT]; omega)
            have HIJ2 := hide (show i < ts.length - r'.length by omega)
            clear c1 c2 c3 c4 hsu hrl e1 e2 hsr h1 HK2 HG' HP' HR HNX
            go_wp2_with fail
            exact ⟨⟨T', _, rfl, unhide HIJ2, HREL2⟩, unhide HLT⟩
      · have hg0 : G (atT ts j).t = none := (hB _).1 hno
        rw [hg0] at hlk
        simp only [Option.getD, Option.isSome] at hlk
        have HR := hide (show res = some (T, sgs ns ts j (ts.length - j)) by
          rw [b6, if_neg (fun x => h4 x.1), if_neg (fun x => h5 x.1), ← hsg])
        have HE := hide (show ts.length - (sgs ns ts j (ts.length - j)).length = j by rw [hlen]; omega)
        clear b1 b3 b4 b5 b6 hb ht hG hB hsg hfr hlen hdr HREL hno h4 h5 hg0
        go_wp2_with fail
        go_region
        go_wp2_with fail
        go_ret
        exact ⟨HKD, Or.inr ⟨_, _, unhide HR, rfl, HGT, by rw [unhide HE]; exact HPD⟩⟩

theorem read_any {ns : List OpR} {ts : List TokR} (hF : Fits ns ts) {p g o c bf bb : Nat} : ∀ m, Shorter ns ts p g o c bf bb m
  | 0 => fun i d least w h => absurd h (Nat.not_lt_zero _)
  | m + 1 => fun i d least w h hl hf hpc hp =>
    read_step hF i d least w (fun i' d' l' w' h' => read_any hF m i' d' l' w' (by omega)) hl hf hpc hp _ rfl
end Go.Proofs.YtfboipappaonhaaGreat
