import Derived.Test.YtokabkhnidlcnaaL03
import Derived.Test.YtokabkhnidlcnaaL05

/-
  Walk: the specification's TableOk.
-/
namespace Go.Proofs.Ytokabkhnidlcnaa
set_option maxRecDepth 100000
open Go.RowKit

set_option maxHeartbeats 2000000 in
theorem specTableOk_any (b off cap : Nat) (xs : List OpR) (w : World) (hm : xs.length ≤ 1048576) (hw : Ops w b off xs) (hs : Sized xs) (hB : b < w.heap.size) :
    Calls Try.prog 13 #[.agg #[.slice (some ⟨b, off, none⟩) xs.length cap]] w fun e w' => (∃ c, e = .returned (.int .i64 c) ∧ IsCode xs c) ∧ Below w.heap.size w w' := by
  have hx0 := hide (Bx.start (cap := cap) hw hB 25)
  by_cases h500 : 500 < xs.length
  · go_enter Try.func13, Try.ntmps13
    go_wp2
    go_ret
    exact ⟨⟨1, rfl, Or.inl ⟨rfl, h500⟩⟩, below1 _ _⟩
  have h500' : xs.length ≤ 500 := by omega
  go_enter Try.func13, Try.ntmps13
  go_wp2
  go_loopw [4] (fun i wr => ∃ k : Nat, k ≤ xs.length ∧ i = .int .i64 k ∧ okTo xs k ∧ Bx w b off cap xs wr) (fun i _ => xs.length - (intOf i).toNat)
  case atStart => exact ⟨0, Nat.zero_le _, rfl, fun j h => (by omega), unhide hx0⟩
  case round =>
    obtain ⟨k, hk, rfl, hok, hx⟩ := hrel
    by_cases hlt : k < xs.length
    · obtain ⟨a0, a1, a2, a3⟩ := hx.ops k hlt
      have hbx := hx.box
      cases ht : (atO xs k).ok
      · have Ht := hide ht
        unfold OpR.ok at ht
        go_wp2_with (go_at_call 39; refine (l1OpOk_any _ _ _ _ _ (hs k hlt)).mono ?_; rintro e w1 ⟨rfl, hb1⟩)
        go_ret
        refine ⟨⟨2, rfl, Or.inr ⟨h500', Or.inl ⟨rfl, fun h => ?_⟩⟩⟩, (hx.step hb1).bel⟩
        have := h k hlt
        rw [unhide Ht] at this
        cases this
      · have Ht := hide ht
        unfold OpR.ok at ht
        go_wp2_with (go_at_call 39; refine (l1OpOk_any _ _ _ _ _ (hs k hlt)).mono ?_; rintro e w1 ⟨rfl, hb1⟩)
        exact ⟨⟨k + 1, by omega, by go_num, okTo_succ hok (unhide Ht), hx.step hb1⟩, by simp [intOf]; omega⟩
    · have hall : okTo xs xs.length := by have : k = xs.length := by omega
                                          exact this ▸ hok
      clear hok hx0
      go_wp2
      go_loopw [5] (fun c wr => ∃ cc : Int, c = .int .i64 cc ∧ 3 ≤ cc ∧ cc ≤ 5 ∧ Hid ((3 < cc → ¬ Pr 3 xs) ∧ (4 < cc → ¬ Pr 4 xs)) ∧ Bx w b off cap xs wr) (fun c _ => (5 - intOf c).toNat)
      case atStart => exact ⟨3, rfl, by omega, by omega, hide ⟨fun h => (by omega), fun h => (by omega)⟩, hx⟩
      case round =>
        clear hx
        obtain ⟨cc, rfl, hc3, hc5, hno, hx⟩ := hrel
        by_cases hc4 : cc ≤ 4
        · have hcc := hide (show cc = 3 ∨ cc = 4 by omega)
          go_wp2
          go_loopw [6] (fun i wr => ∃ k : Nat, k ≤ xs.length ∧ i = .int .i64 k ∧ Hid (NoPr cc xs k) ∧ Bx w b off cap xs wr) (fun i _ => xs.length - (intOf i).toNat)
          case atStart => exact ⟨0, Nat.zero_le _, rfl, hide (fun i j _ h => (by omega)), hx⟩
          case round =>
            clear hx
            obtain ⟨p, hp, rfl, hnp, hx⟩ := hrel
            by_cases hlp : p < xs.length
            · go_wp2
              go_loopw [7] (fun j wr => ∃ m : Nat, m ≤ p ∧ j = .int .i64 m ∧ Hid (∀ j, j < m → ¬ cl cc (atO xs p) (atO xs j)) ∧ Bx w b off cap xs wr) (fun j _ => p - (intOf j).toNat)
              case atStart => exact ⟨0, Nat.zero_le _, rfl, hide (fun j h => (by omega)), hx⟩
              case round =>
                clear hx
                obtain ⟨m, hmp, rfl, hnm, hx⟩ := hrel
                by_cases hlm : m < p
                · have hlmx : m < xs.length := by omega
                  obtain ⟨a0, a1, a2, a3⟩ := hx.ops p hlp
                  obtain ⟨d0, d1, d2, d3⟩ := hx.ops m hlmx
                  have hbx := hx.box
                  have hlt := hx.lt
                  have i1 : (p : Int) < (xs.length : Int) := by omega
                  have i2 : (m : Int) < (xs.length : Int) := by omega
                  go_wp2_with fail
                  go_region_held (fun w' => w'.cell? ⟨w.heap.size, 0, none⟩ = some (.slice (some ⟨b, off, none⟩) xs.length cap) ∧
                    (w'.cell? ⟨b, off + p * 4, none⟩ = some (.string (atO xs p).s) ∧ w'.cell? ⟨b, off + p * 4 + 1, none⟩ = some (.int .i64 (atO xs p).k) ∧ w'.cell? ⟨b, off + p * 4 + 2, none⟩ = some (.int .i64 (atO xs p).l) ∧ w'.cell? ⟨b, off + p * 4 + 3, none⟩ = some (.int .i64 (atO xs p).sd)) ∧
                    (w'.cell? ⟨b, off + m * 4, none⟩ = some (.string (atO xs m).s) ∧ w'.cell? ⟨b, off + m * 4 + 1, none⟩ = some (.int .i64 (atO xs m).k) ∧ w'.cell? ⟨b, off + m * 4 + 2, none⟩ = some (.int .i64 (atO xs m).l) ∧ w'.cell? ⟨b, off + m * 4 + 3, none⟩ = some (.int .i64 (atO xs m).sd))) (go_keep)
                    (first | (go_at_call 40; refine (l1Clash_any (atO xs p) (atO xs m) cc _ (unhide hcc)).mono ?_; rintro e w1 ⟨⟨v, rfl, hv⟩, hb1⟩; have HV := hide hv; clear hv; have hx1 := hx.drew.step hb1; obtain ⟨q0, q1, q2, q3⟩ := hx1.ops p hlp; obtain ⟨r0, r1, r2, r3⟩ := hx1.ops m hlmx; have qb := hx1.box))
                  cases v
                  · go_wp2
                    refine ⟨⟨m + 1, by omega, by go_num, hide ?_, hx1⟩, by simp [intOf]; omega⟩
                    intro j hj
                    by_cases e : j = m
                    · subst e
                      exact fun h => Bool.false_ne_true ((unhide HV).2 h)
                    · exact (unhide hnm) j (by omega)
                  · go_wp2
                    go_ret
                    refine ⟨⟨cc, rfl, Or.inr ⟨h500', Or.inr ⟨hall, ?_⟩⟩⟩, hx1.bel⟩
                    have hpr : Pr cc xs := ⟨p, m, hlm, hlp, (unhide HV).1 (by trivial)⟩
                    rcases unhide hcc with e | e
                    · subst e; exact Or.inl ⟨rfl, hpr⟩
                    · subst e; exact Or.inr ⟨(unhide hno).1 (by omega), Or.inl ⟨rfl, hpr⟩⟩
                · go_wp2
                  refine ⟨⟨p + 1, by omega, by go_num, hide (NoPr_succ (unhide hnp) (fun j hj => (unhide hnm) j (by omega))), hx⟩, by simp [intOf]; omega⟩
            · go_wp2
              refine ⟨⟨cc + 1, by go_num, by omega, by omega, hide ?_, hx⟩, by simp [intOf]; omega⟩
              have hn : ¬ Pr cc xs := NoPr_not (by have e : p = xs.length := by omega
                                                   exact e ▸ (unhide hnp))
              rcases unhide hcc with e | e
              · subst e; exact ⟨fun _ => hn, fun h => (by omega)⟩
              · subst e; exact ⟨fun _ => (unhide hno).1 (by omega), fun _ => hn⟩
        · go_wp2
          go_ret
          exact ⟨⟨0, rfl, Or.inr ⟨h500', Or.inr ⟨hall, Or.inr ⟨(unhide hno).1 (by omega), Or.inr ⟨rfl, (unhide hno).2 (by omega)⟩⟩⟩⟩⟩, hx.bel⟩
end Go.Proofs.Ytokabkhnidlcnaa

/-
  Walks: operators that are drawn.
-/
namespace Go.Proofs.Ytokabkhnidlcnaa
set_option maxRecDepth 100000
set_option linter.unusedSimpArgs false
set_option linter.unusedVariables false
open Go.RowKit

/-- The texts that are drawn. -/
def txL : List ByteArray := [⟨#[43]⟩, ⟨#[45]⟩, ⟨#[43, 43]⟩, ⟨#[42]⟩, ⟨#[33]⟩, ⟨#[61, 61]⟩, ⟨#[43, 43, 43]⟩, ⟨#[33, 61]⟩, ⟨#[45, 45]⟩, ⟨#[94]⟩, ⟨#[61, 62]⟩, ⟨#[63, 58]⟩]
def txN (k : Nat) : ByteArray := txL.getD (k % 12) ⟨#[]⟩

theorem txN_at {k j : Nat} (h : k % 12 = j) : txN k = txL.getD j ⟨#[]⟩ := by rw [txN, h]
theorem txN_size (k : Nat) : (txN k).size ≤ 3 := by
  have h : k % 12 < 12 := Nat.mod_lt _ (by decide)
  have : ∀ j : Fin 12, (txL.getD j.val ⟨#[]⟩).size ≤ 3 := by decide
  exact this ⟨k % 12, h⟩

set_option maxHeartbeats 1000000 in
theorem l1Text_any (k : Nat) (w : World) (hk : k < 1000000) :
    Calls Try.prog 46 #[.int .i64 (k : Int)] w fun e w' => e = .returned (.string (txN k)) ∧ w' = w := by
  go_enter Try.func46, Try.ntmps46
  go_wp2
  all_goals
    go_ret
    refine ⟨ret_str ?_, rfl⟩
    go_light
    simp only [beq_iff_eq, beq_eq_false_iff_ne, ne_eq] at *
    first
      | (refine Eq.trans ?_ (txN_at (j := 0) ?_).symm
         · rfl
         · omega)
      | (refine Eq.trans ?_ (txN_at (j := 1) ?_).symm
         · rfl
         · omega)
      | (refine Eq.trans ?_ (txN_at (j := 2) ?_).symm
         · rfl
         · omega)
      | (refine Eq.trans ?_ (txN_at (j := 3) ?_).symm
         · rfl
         · omega)
      | (refine Eq.trans ?_ (txN_at (j := 4) ?_).symm
         · rfl
         · omega)
      | (refine Eq.trans ?_ (txN_at (j := 5) ?_).symm
         · rfl
         · omega)
      | (refine Eq.trans ?_ (txN_at (j := 6) ?_).symm
         · rfl
         · omega)
      | (refine Eq.trans ?_ (txN_at (j := 7) ?_).symm
         · rfl
         · omega)
      | (refine Eq.trans ?_ (txN_at (j := 8) ?_).symm
         · rfl
         · omega)
      | (refine Eq.trans ?_ (txN_at (j := 9) ?_).symm
         · rfl
         · omega)
      | (refine Eq.trans ?_ (txN_at (j := 10) ?_).symm
         · rfl
         · omega)
      | (refine Eq.trans ?_ (txN_at (j := 11) ?_).symm
         · rfl
         · omega)

/-- The operator that two numbers make. -/
def drKind (k : Nat) : Int := if k % 8 < 2 then 1 else if k % 8 = 2 then 3 else 2
def drSide (k : Nat) : Int := if k % 8 < 2 then 0 else if k % 8 = 2 then 0 else 1 + ((k / 8 % 3 : Nat) : Int)
def drLevel (k v : Nat) (tidy : Bool) : Int :=
  if 250 ≤ k then 997 + srt (drKind k) (drSide k) else if tidy = true then 3 * ((v / 12 % 4 : Nat) : Int) + srt (drKind k) (drSide k) else 1 + ((v / 12 % 6 : Nat) : Int)
def drOp (k v : Nat) (tidy : Bool) : OpR := ⟨txN v, drKind k, drLevel k v tidy, drSide k⟩

theorem RdS.set {w : World} {rp cap p : Nat} {a : Option Addr} {bs : List UInt8} (h : RdS w rp a cap bs p) (b o : Nat) (v : Value) (hb : rp < b) : RdS (w.setCell ⟨b, o, none⟩ v) rp a cap bs p :=
  h.kept (fun i hi => Below.heap_setCell _ _ _ _ (by simp; omega))
theorem Kept1.setNew {w w1 : World} {g b : Nat} (h : Kept1 w w1 g) (o : Nat) (v : Value) (hb : w.heap.size ≤ b) : Kept1 w (w1.setCell ⟨b, o, none⟩ v) g :=
  ⟨h.os, h.tape, h.output, by simpa [World.setCell] using h.size, fun i hi hg => (Below.heap_setCell _ _ _ _ (by simp; omega)).trans (h.block i hi hg)⟩
theorem Kept1.belowN {w w1 w2 : World} {g : Nat} (h : Kept1 w w1 g) (hb : Below w1.heap.size w1 w2) : Kept1 w w2 g := h.trans (Kept1.of_below hb)

theorem drOp_Afb {k v : Nat} (hc : k % 8 < 2) (hb : 250 ≤ k) (hk : k < 256) (hv : v < 256) : (⟨txN v, 1, wrap64 (997 + srt 1 (0)), 0⟩ : OpR) = drOp k v false := by
  have e1 : drKind k = 1 := by simp [drKind]; omega
  have e2 : drSide k = 0 := by simp [drSide]; omega
  unfold drOp drLevel
  rw [e1, e2]
  simp [hb, srt, wrap64]
  try omega
theorem drOp_Afs {k v : Nat} (hc : k % 8 < 2) (hb : ¬ 250 ≤ k) (hk : k < 256) (hv : v < 256) : (⟨txN v, 1, 1 + (v : Int) / 12 % 6, 0⟩ : OpR) = drOp k v false := by
  have e1 : drKind k = 1 := by simp [drKind]; omega
  have e2 : drSide k = 0 := by simp [drSide]; omega
  unfold drOp drLevel
  rw [e1, e2]
  simp [hb, srt, wrap64]
  try omega
theorem drOp_Atb {k v : Nat} (hc : k % 8 < 2) (hb : 250 ≤ k) (hk : k < 256) (hv : v < 256) : (⟨txN v, 1, wrap64 (997 + srt 1 (0)), 0⟩ : OpR) = drOp k v true := by
  have e1 : drKind k = 1 := by simp [drKind]; omega
  have e2 : drSide k = 0 := by simp [drSide]; omega
  unfold drOp drLevel
  rw [e1, e2]
  simp [hb, srt, wrap64]
  try omega
theorem drOp_Ats {k v : Nat} (hc : k % 8 < 2) (hb : ¬ 250 ≤ k) (hk : k < 256) (hv : v < 256) : (⟨txN v, 1, wrap64 (3 * ((v : Int) / 12 % 4) + srt 1 (0)), 0⟩ : OpR) = drOp k v true := by
  have e1 : drKind k = 1 := by simp [drKind]; omega
  have e2 : drSide k = 0 := by simp [drSide]; omega
  unfold drOp drLevel
  rw [e1, e2]
  simp [hb, srt, wrap64]
  try omega
theorem drOp_Bfb {k v : Nat} (hc : k % 8 = 2) (hb : 250 ≤ k) (hk : k < 256) (hv : v < 256) : (⟨txN v, 3, wrap64 (997 + srt 3 (0)), 0⟩ : OpR) = drOp k v false := by
  have e1 : drKind k = 3 := by simp [drKind]; omega
  have e2 : drSide k = 0 := by simp [drSide]; omega
  unfold drOp drLevel
  rw [e1, e2]
  simp [hb, srt, wrap64]
  try omega
theorem drOp_Bfs {k v : Nat} (hc : k % 8 = 2) (hb : ¬ 250 ≤ k) (hk : k < 256) (hv : v < 256) : (⟨txN v, 3, 1 + (v : Int) / 12 % 6, 0⟩ : OpR) = drOp k v false := by
  have e1 : drKind k = 3 := by simp [drKind]; omega
  have e2 : drSide k = 0 := by simp [drSide]; omega
  unfold drOp drLevel
  rw [e1, e2]
  simp [hb, srt, wrap64]
  try omega
theorem drOp_Btb {k v : Nat} (hc : k % 8 = 2) (hb : 250 ≤ k) (hk : k < 256) (hv : v < 256) : (⟨txN v, 3, wrap64 (997 + srt 3 (0)), 0⟩ : OpR) = drOp k v true := by
  have e1 : drKind k = 3 := by simp [drKind]; omega
  have e2 : drSide k = 0 := by simp [drSide]; omega
  unfold drOp drLevel
  rw [e1, e2]
  simp [hb, srt, wrap64]
  try omega
theorem drOp_Bts {k v : Nat} (hc : k % 8 = 2) (hb : ¬ 250 ≤ k) (hk : k < 256) (hv : v < 256) : (⟨txN v, 3, wrap64 (3 * ((v : Int) / 12 % 4) + srt 3 (0)), 0⟩ : OpR) = drOp k v true := by
  have e1 : drKind k = 3 := by simp [drKind]; omega
  have e2 : drSide k = 0 := by simp [drSide]; omega
  unfold drOp drLevel
  rw [e1, e2]
  simp [hb, srt, wrap64]
  try omega
theorem drOp_Cfb {k v : Nat} (hc : 2 < k % 8) (hb : 250 ≤ k) (hk : k < 256) (hv : v < 256) : (⟨txN v, 2, wrap64 (997 + srt 2 (1 + (k : Int) / 8 % 3)), 1 + (k : Int) / 8 % 3⟩ : OpR) = drOp k v false := by
  have e1 : drKind k = 2 := by simp [drKind]; omega
  have e2 : drSide k = 1 + (k : Int) / 8 % 3 := by simp [drSide]; omega
  unfold drOp drLevel
  rw [e1, e2]
  simp [hb, srt, wrap64]
  try omega
theorem drOp_Cfs {k v : Nat} (hc : 2 < k % 8) (hb : ¬ 250 ≤ k) (hk : k < 256) (hv : v < 256) : (⟨txN v, 2, 1 + (v : Int) / 12 % 6, 1 + (k : Int) / 8 % 3⟩ : OpR) = drOp k v false := by
  have e1 : drKind k = 2 := by simp [drKind]; omega
  have e2 : drSide k = 1 + (k : Int) / 8 % 3 := by simp [drSide]; omega
  unfold drOp drLevel
  rw [e1, e2]
  simp [hb, srt, wrap64]
  try omega
theorem drOp_Ctb {k v : Nat} (hc : 2 < k % 8) (hb : 250 ≤ k) (hk : k < 256) (hv : v < 256) : (⟨txN v, 2, wrap64 (997 + srt 2 (1 + (k : Int) / 8 % 3)), 1 + (k : Int) / 8 % 3⟩ : OpR) = drOp k v true := by
  have e1 : drKind k = 2 := by simp [drKind]; omega
  have e2 : drSide k = 1 + (k : Int) / 8 % 3 := by simp [drSide]; omega
  unfold drOp drLevel
  rw [e1, e2]
  simp [hb, srt, wrap64]
  try omega
theorem drOp_Cts {k v : Nat} (hc : 2 < k % 8) (hb : ¬ 250 ≤ k) (hk : k < 256) (hv : v < 256) : (⟨txN v, 2, wrap64 (3 * ((v : Int) / 12 % 4) + srt 2 (1 + (k : Int) / 8 % 3)), 1 + (k : Int) / 8 % 3⟩ : OpR) = drOp k v true := by
  have e1 : drKind k = 2 := by simp [drKind]; omega
  have e2 : drSide k = 1 + (k : Int) / 8 % 3 := by simp [drSide]; omega
  unfold drOp drLevel
  rw [e1, e2]
  simp [hb, srt, wrap64]
  try omega

set_option maxHeartbeats 4000000 in
theorem l1DrawOp_any (rp cap p : Nat) (tidy : Bool) (a : Option Addr) (bs : List UInt8) (w : World) (h : RdS w rp a cap bs p) (hl : bs.length ≤ 1200) :
    Calls Try.prog 45 #[.pointer (some ⟨rp, 0, none⟩), .bool tidy] w fun e w' => (∃ o : OpR, e = .returned (.agg #[.string o.s, .int .i64 o.k, .int .i64 o.l, .int .i64 o.sd]) ∧ Hid (o = drOp (nxt bs p) (nxt bs (adv bs p)) tidy)) ∧ Hid (RdS w' rp a cap bs (adv bs (adv bs p))) ∧ Hid (Kept1 w w' rp) := by
  have hrpw := h.lt
  have H := hide h
  clear h
  go_enter Try.func45, Try.ntmps45
  go_wp2_with fail
  refine (next_at rp cap p a bs _ ((unhide H).below (below1 _ _)) hl).mono ?_
  rintro e w1 ⟨⟨k, rfl, hk, HK⟩, H1, HP1⟩
  go_wp2_with fail
  refine (next_at rp cap _ a bs _ (unhide H1) hl).mono ?_
  rintro e w2 ⟨⟨v, rfl, hv, HV⟩, H2, HP2⟩
  have HP := hide ((unhide HP1).trans (unhide HP2))
  clear H H1 HP1 HP2
  have zw : w.heap.size < w2.heap.size := by have := (unhide HP).size; simp at this; omega
  have hrp := (unhide H2).lt
  have r0 : w2.cell? ⟨w.heap.size, 0, none⟩ = some (.string ⟨#[]⟩) ∧ w2.cell? ⟨w.heap.size, 1, none⟩ = some (.int .i64 0) ∧ w2.cell? ⟨w.heap.size, 2, none⟩ = some (.int .i64 0) ∧ w2.cell? ⟨w.heap.size, 3, none⟩ = some (.int .i64 0) := by
    have e := fun o => (unhide HP).cell (b := w.heap.size) (by simp) (by have := hrpw; omega) o
    refine ⟨(e _).trans ?_, (e _).trans ?_, (e _).trans ?_, (e _).trans ?_⟩ <;> simp [go_sem]
  obtain ⟨r0, r1, r2, r3⟩ := r0
  have f0 : ∀ o, w2.frozen? ⟨w.heap.size, o, none⟩ = false := fun o => ((unhide HP).frozen (b := w.heap.size) (by simp) (by have := hrpw; omega) o).trans (by simp [go_sem])
  have HPW := hide (show Kept1 w w2 rp from (Kept1.of_below (below1 _ _)).trans (unhide HP))
  clear HP
  have hcs : k % 8 < 2 ∨ k % 8 = 2 ∨ 2 < k % 8 := by omega
  rcases hcs with hc | hc | hc
  · have HCK := hide hc
    have hk8I : (k : Int) % 8 < 2 := by omega
    clear hc
    cases tidy
    · skip
      go_wp2_with (first | (go_at_call 46; refine (l1Text_any _ _ (by omega)).mono ?_; rintro e w3 ⟨rfl, hx⟩; obtain rfl := hx.symm) | (go_at_call 62; refine (l1Sort_any _ _ _ _ _).mono ?_; rintro e w3 ⟨rfl, hb3⟩; have hA3 := fun o => hb3.cell (p := ⟨w.heap.size, o, none⟩) (by simp; omega); have hB3 := fun o => hb3.cell (p := ⟨w2.heap.size, o, none⟩) (by first | (simp; done) | (simp; omega)); have hE3 := fun o => hb3.frozen (p := ⟨w.heap.size, o, none⟩) (by simp; omega); have hF3 := fun o => hb3.frozen (p := ⟨w2.heap.size, o, none⟩) (by first | (simp; done) | (simp; omega)); have hz3 : w2.heap.size + 1 ≤ w3.heap.size := (by have := hb3.size; simp at this; omega)))
      · refine bodyPost_ret (v := .agg #[.string (txN v), .int .i64 1, .int .i64 (1 + (v : Int) / 12 % 6), .int .i64 (0)]) ?res rfl ⟨⟨⟨txN v, 1, 1 + (v : Int) / 12 % 6, 0⟩, rfl, hide ?_⟩, hide ?_, hide ?_⟩
        case res => simp [results, Try.results45, go_sem, *]
        · rw [← unhide HV, ← unhide HK]
          exact drOp_Afs (unhide HCK) (by omega) hk hv
        · repeat (first | exact unhide H2 | refine RdS.set ?_ _ _ _ (by omega) | refine RdS.below ?_ (below1 _ _) | refine RdS.below ?_ (by assumption))
        · repeat (first | exact unhide HPW | refine Kept1.setNew ?_ _ _ (by omega) | refine Kept1.belowN ?_ (below1 _ _) | refine Kept1.belowN ?_ (by assumption))
    · skip
      go_wp2_with (first | (go_at_call 46; refine (l1Text_any _ _ (by omega)).mono ?_; rintro e w3 ⟨rfl, hx⟩; obtain rfl := hx.symm) | (go_at_call 62; refine (l1Sort_any _ _ _ _ _).mono ?_; rintro e w3 ⟨rfl, hb3⟩; have hA3 := fun o => hb3.cell (p := ⟨w.heap.size, o, none⟩) (by simp; omega); have hB3 := fun o => hb3.cell (p := ⟨w2.heap.size, o, none⟩) (by first | (simp; done) | (simp; omega)); have hE3 := fun o => hb3.frozen (p := ⟨w.heap.size, o, none⟩) (by simp; omega); have hF3 := fun o => hb3.frozen (p := ⟨w2.heap.size, o, none⟩) (by first | (simp; done) | (simp; omega)); have hz3 : w2.heap.size + 1 ≤ w3.heap.size := (by have := hb3.size; simp at this; omega)))
      · refine bodyPost_ret (v := .agg #[.string (txN v), .int .i64 1, .int .i64 (wrap64 (3 * ((v : Int) / 12 % 4) + srt 1 (0))), .int .i64 (0)]) ?res rfl ⟨⟨⟨txN v, 1, wrap64 (3 * ((v : Int) / 12 % 4) + srt 1 (0)), 0⟩, rfl, hide ?_⟩, hide ?_, hide ?_⟩
        case res => simp [results, Try.results45, go_sem, *]
        · rw [← unhide HV, ← unhide HK]
          exact drOp_Ats (unhide HCK) (by omega) hk hv
        · repeat (first | exact unhide H2 | refine RdS.set ?_ _ _ _ (by omega) | refine RdS.below ?_ (below1 _ _) | refine RdS.below ?_ (by assumption))
        · repeat (first | exact unhide HPW | refine Kept1.setNew ?_ _ _ (by omega) | refine Kept1.belowN ?_ (below1 _ _) | refine Kept1.belowN ?_ (by assumption))
  · have HCK := hide hc
    have hk8I : ¬ (k : Int) % 8 < 2 := by omega
    have hk8J : ((k : Int) % 8 == 2) = true := by simp; omega
    clear hc
    cases tidy
    · skip
      go_wp2_with (first | (go_at_call 46; refine (l1Text_any _ _ (by omega)).mono ?_; rintro e w3 ⟨rfl, hx⟩; obtain rfl := hx.symm) | (go_at_call 62; refine (l1Sort_any _ _ _ _ _).mono ?_; rintro e w3 ⟨rfl, hb3⟩; have hA3 := fun o => hb3.cell (p := ⟨w.heap.size, o, none⟩) (by simp; omega); have hB3 := fun o => hb3.cell (p := ⟨w2.heap.size, o, none⟩) (by first | (simp; done) | (simp; omega)); have hE3 := fun o => hb3.frozen (p := ⟨w.heap.size, o, none⟩) (by simp; omega); have hF3 := fun o => hb3.frozen (p := ⟨w2.heap.size, o, none⟩) (by first | (simp; done) | (simp; omega)); have hz3 : w2.heap.size + 1 ≤ w3.heap.size := (by have := hb3.size; simp at this; omega)))
      · refine bodyPost_ret (v := .agg #[.string (txN v), .int .i64 3, .int .i64 (wrap64 (997 + srt 3 (0))), .int .i64 (0)]) ?res rfl ⟨⟨⟨txN v, 3, wrap64 (997 + srt 3 (0)), 0⟩, rfl, hide ?_⟩, hide ?_, hide ?_⟩
        case res => simp [results, Try.results45, go_sem, *]
        · rw [← unhide HV, ← unhide HK]
          exact drOp_Bfb (unhide HCK) (by omega) hk hv
        · repeat (first | exact unhide H2 | refine RdS.set ?_ _ _ _ (by omega) | refine RdS.below ?_ (below1 _ _) | refine RdS.below ?_ (by assumption))
        · repeat (first | exact unhide HPW | refine Kept1.setNew ?_ _ _ (by omega) | refine Kept1.belowN ?_ (below1 _ _) | refine Kept1.belowN ?_ (by assumption))
      · refine bodyPost_ret (v := .agg #[.string (txN v), .int .i64 3, .int .i64 (1 + (v : Int) / 12 % 6), .int .i64 (0)]) ?res rfl ⟨⟨⟨txN v, 3, 1 + (v : Int) / 12 % 6, 0⟩, rfl, hide ?_⟩, hide ?_, hide ?_⟩
        case res => simp [results, Try.results45, go_sem, *]
        · rw [← unhide HV, ← unhide HK]
          exact drOp_Bfs (unhide HCK) (by omega) hk hv
        · repeat (first | exact unhide H2 | refine RdS.set ?_ _ _ _ (by omega) | refine RdS.below ?_ (below1 _ _) | refine RdS.below ?_ (by assumption))
        · repeat (first | exact unhide HPW | refine Kept1.setNew ?_ _ _ (by omega) | refine Kept1.belowN ?_ (below1 _ _) | refine Kept1.belowN ?_ (by assumption))
    · skip
      go_wp2_with (first | (go_at_call 46; refine (l1Text_any _ _ (by omega)).mono ?_; rintro e w3 ⟨rfl, hx⟩; obtain rfl := hx.symm) | (go_at_call 62; refine (l1Sort_any _ _ _ _ _).mono ?_; rintro e w3 ⟨rfl, hb3⟩; have hA3 := fun o => hb3.cell (p := ⟨w.heap.size, o, none⟩) (by simp; omega); have hB3 := fun o => hb3.cell (p := ⟨w2.heap.size, o, none⟩) (by first | (simp; done) | (simp; omega)); have hE3 := fun o => hb3.frozen (p := ⟨w.heap.size, o, none⟩) (by simp; omega); have hF3 := fun o => hb3.frozen (p := ⟨w2.heap.size, o, none⟩) (by first | (simp; done) | (simp; omega)); have hz3 : w2.heap.size + 1 ≤ w3.heap.size := (by have := hb3.size; simp at this; omega)))
      · refine bodyPost_ret (v := .agg #[.string (txN v), .int .i64 3, .int .i64 (wrap64 (997 + srt 3 (0))), .int .i64 (0)]) ?res rfl ⟨⟨⟨txN v, 3, wrap64 (997 + srt 3 (0)), 0⟩, rfl, hide ?_⟩, hide ?_, hide ?_⟩
        case res => simp [results, Try.results45, go_sem, *]
        · rw [← unhide HV, ← unhide HK]
          exact drOp_Btb (unhide HCK) (by omega) hk hv
        · repeat (first | exact unhide H2 | refine RdS.set ?_ _ _ _ (by omega) | refine RdS.below ?_ (below1 _ _) | refine RdS.below ?_ (by assumption))
        · repeat (first | exact unhide HPW | refine Kept1.setNew ?_ _ _ (by omega) | refine Kept1.belowN ?_ (below1 _ _) | refine Kept1.belowN ?_ (by assumption))
      · refine bodyPost_ret (v := .agg #[.string (txN v), .int .i64 3, .int .i64 (wrap64 (3 * ((v : Int) / 12 % 4) + srt 3 (0))), .int .i64 (0)]) ?res rfl ⟨⟨⟨txN v, 3, wrap64 (3 * ((v : Int) / 12 % 4) + srt 3 (0)), 0⟩, rfl, hide ?_⟩, hide ?_, hide ?_⟩
        case res => simp [results, Try.results45, go_sem, *]
        · rw [← unhide HV, ← unhide HK]
          exact drOp_Bts (unhide HCK) (by omega) hk hv
        · repeat (first | exact unhide H2 | refine RdS.set ?_ _ _ _ (by omega) | refine RdS.below ?_ (below1 _ _) | refine RdS.below ?_ (by assumption))
        · repeat (first | exact unhide HPW | refine Kept1.setNew ?_ _ _ (by omega) | refine Kept1.belowN ?_ (below1 _ _) | refine Kept1.belowN ?_ (by assumption))
  · have HCK := hide hc
    have hk8I : ¬ (k : Int) % 8 < 2 := by omega
    have hk8J : ((k : Int) % 8 == 2) = false := by simp; omega
    clear hc
    cases tidy
    · skip
      go_wp2_with (first | (go_at_call 46; refine (l1Text_any _ _ (by omega)).mono ?_; rintro e w3 ⟨rfl, hx⟩; obtain rfl := hx.symm) | (go_at_call 62; refine (l1Sort_any _ _ _ _ _).mono ?_; rintro e w3 ⟨rfl, hb3⟩; have hA3 := fun o => hb3.cell (p := ⟨w.heap.size, o, none⟩) (by simp; omega); have hB3 := fun o => hb3.cell (p := ⟨w2.heap.size, o, none⟩) (by first | (simp; done) | (simp; omega)); have hE3 := fun o => hb3.frozen (p := ⟨w.heap.size, o, none⟩) (by simp; omega); have hF3 := fun o => hb3.frozen (p := ⟨w2.heap.size, o, none⟩) (by first | (simp; done) | (simp; omega)); have hz3 : w2.heap.size + 1 ≤ w3.heap.size := (by have := hb3.size; simp at this; omega)))
      · refine bodyPost_ret (v := .agg #[.string (txN v), .int .i64 2, .int .i64 (wrap64 (997 + srt 2 (1 + (k : Int) / 8 % 3))), .int .i64 (1 + (k : Int) / 8 % 3)]) ?res rfl ⟨⟨⟨txN v, 2, wrap64 (997 + srt 2 (1 + (k : Int) / 8 % 3)), 1 + (k : Int) / 8 % 3⟩, rfl, hide ?_⟩, hide ?_, hide ?_⟩
        case res => simp [results, Try.results45, go_sem, *]
        · rw [← unhide HV, ← unhide HK]
          exact drOp_Cfb (unhide HCK) (by omega) hk hv
        · repeat (first | exact unhide H2 | refine RdS.set ?_ _ _ _ (by omega) | refine RdS.below ?_ (below1 _ _) | refine RdS.below ?_ (by assumption))
        · repeat (first | exact unhide HPW | refine Kept1.setNew ?_ _ _ (by omega) | refine Kept1.belowN ?_ (below1 _ _) | refine Kept1.belowN ?_ (by assumption))
      · refine bodyPost_ret (v := .agg #[.string (txN v), .int .i64 2, .int .i64 (1 + (v : Int) / 12 % 6), .int .i64 (1 + (k : Int) / 8 % 3)]) ?res rfl ⟨⟨⟨txN v, 2, 1 + (v : Int) / 12 % 6, 1 + (k : Int) / 8 % 3⟩, rfl, hide ?_⟩, hide ?_, hide ?_⟩
        case res => simp [results, Try.results45, go_sem, *]
        · rw [← unhide HV, ← unhide HK]
          exact drOp_Cfs (unhide HCK) (by omega) hk hv
        · repeat (first | exact unhide H2 | refine RdS.set ?_ _ _ _ (by omega) | refine RdS.below ?_ (below1 _ _) | refine RdS.below ?_ (by assumption))
        · repeat (first | exact unhide HPW | refine Kept1.setNew ?_ _ _ (by omega) | refine Kept1.belowN ?_ (below1 _ _) | refine Kept1.belowN ?_ (by assumption))
    · skip
      go_wp2_with (first | (go_at_call 46; refine (l1Text_any _ _ (by omega)).mono ?_; rintro e w3 ⟨rfl, hx⟩; obtain rfl := hx.symm) | (go_at_call 62; refine (l1Sort_any _ _ _ _ _).mono ?_; rintro e w3 ⟨rfl, hb3⟩; have hA3 := fun o => hb3.cell (p := ⟨w.heap.size, o, none⟩) (by simp; omega); have hB3 := fun o => hb3.cell (p := ⟨w2.heap.size, o, none⟩) (by first | (simp; done) | (simp; omega)); have hE3 := fun o => hb3.frozen (p := ⟨w.heap.size, o, none⟩) (by simp; omega); have hF3 := fun o => hb3.frozen (p := ⟨w2.heap.size, o, none⟩) (by first | (simp; done) | (simp; omega)); have hz3 : w2.heap.size + 1 ≤ w3.heap.size := (by have := hb3.size; simp at this; omega)))
      · refine bodyPost_ret (v := .agg #[.string (txN v), .int .i64 2, .int .i64 (wrap64 (997 + srt 2 (1 + (k : Int) / 8 % 3))), .int .i64 (1 + (k : Int) / 8 % 3)]) ?res rfl ⟨⟨⟨txN v, 2, wrap64 (997 + srt 2 (1 + (k : Int) / 8 % 3)), 1 + (k : Int) / 8 % 3⟩, rfl, hide ?_⟩, hide ?_, hide ?_⟩
        case res => simp [results, Try.results45, go_sem, *]
        · rw [← unhide HV, ← unhide HK]
          exact drOp_Ctb (unhide HCK) (by omega) hk hv
        · repeat (first | exact unhide H2 | refine RdS.set ?_ _ _ _ (by omega) | refine RdS.below ?_ (below1 _ _) | refine RdS.below ?_ (by assumption))
        · repeat (first | exact unhide HPW | refine Kept1.setNew ?_ _ _ (by omega) | refine Kept1.belowN ?_ (below1 _ _) | refine Kept1.belowN ?_ (by assumption))
      · refine bodyPost_ret (v := .agg #[.string (txN v), .int .i64 2, .int .i64 (wrap64 (3 * ((v : Int) / 12 % 4) + srt 2 (1 + (k : Int) / 8 % 3))), .int .i64 (1 + (k : Int) / 8 % 3)]) ?res rfl ⟨⟨⟨txN v, 2, wrap64 (3 * ((v : Int) / 12 % 4) + srt 2 (1 + (k : Int) / 8 % 3)), 1 + (k : Int) / 8 % 3⟩, rfl, hide ?_⟩, hide ?_, hide ?_⟩
        case res => simp [results, Try.results45, go_sem, *]
        · rw [← unhide HV, ← unhide HK]
          exact drOp_Cts (unhide HCK) (by omega) hk hv
        · repeat (first | exact unhide H2 | refine RdS.set ?_ _ _ _ (by omega) | refine RdS.below ?_ (below1 _ _) | refine RdS.below ?_ (by assumption))
        · repeat (first | exact unhide HPW | refine Kept1.setNew ?_ _ _ (by omega) | refine Kept1.belowN ?_ (below1 _ _) | refine Kept1.belowN ?_ (by assumption))
end Go.Proofs.Ytokabkhnidlcnaa
