import Derived.Deep.QuietTactic
import Derived.BigQuiet
import Derived.OwnWalk
import Derived.Laws.OwnMore
import Derived.Test.YtfboipappaonhaaGreatU00
import Derived.Test.YtfboipappaonhaaGreatU01

/-
  Worlds in which one block alone has turned.
-/
namespace Go.Proofs.YtfboipappaonhaaGreat
set_option maxRecDepth 100000
open Go.RowKit


end Go.Proofs.YtfboipappaonhaaGreat

/-
  Walks: the reader of the draws.
-/
namespace Go.Proofs.YtfboipappaonhaaGreat
set_option maxRecDepth 100000
set_option linter.unusedSimpArgs false
open Go.RowKit

/-- The byte at place p of what is read, 0 behind the end; the place behind it. -/
def nxt (bs : List UInt8) (p : Nat) : Nat := (bs.getD p 0).toNat
def adv (bs : List UInt8) (p : Nat) : Nat := if p < bs.length then p + 1 else p

theorem nxt_lt (bs : List UInt8) (p : Nat) : nxt bs p < 256 := UInt8.toNat_lt _
theorem adv_le {bs : List UInt8} {p : Nat} (h : p ≤ bs.length) : adv bs p ≤ bs.length := by unfold adv; split <;> omega

/-- A reader in memory. -/
structure RdS (w : World) (rp : Nat) (a : Option Addr) (cap : Nat) (bs : List UInt8) (p : Nat) : Prop where
  c0 : w.cell? ⟨rp, 0, none⟩ = some (.slice a bs.length cap)
  c1 : w.cell? ⟨rp, 1, none⟩ = some (.int .i64 (p : Int))
  fz : w.frozen? ⟨rp, 1, none⟩ = false
  le : p ≤ bs.length
  bts : bs.length = 0 ∨ ∃ b off, a = some ⟨b, off, none⟩ ∧ b < rp ∧ ∀ i, i < bs.length → w.cell? ⟨b, off + i, none⟩ = some (.int .u8 ((bs.getD i 0).toNat : Int))

theorem RdS.lt {w : World} {rp cap p : Nat} {a : Option Addr} {bs : List UInt8} (h : RdS w rp a cap bs p) : rp < w.heap.size := block_lt_of_cell h.c0

theorem RdS.kept {w w' : World} {rp cap p : Nat} {a : Option Addr} {bs : List UInt8} (h : RdS w rp a cap bs p) (hb : ∀ i, i ≤ rp → w'.heap[i]? = w.heap[i]?) : RdS w' rp a cap bs p := by
  have e := fun o => World.cell?_of_block (w := w) (w' := w') (a := ⟨rp, o, none⟩) (hb rp (Nat.le_refl _))
  refine ⟨(e _).trans h.c0, (e _).trans h.c1, (World.frozen?_of_block (w := w) (w' := w') (a := ⟨rp, 1, none⟩) (hb rp (Nat.le_refl _))).trans h.fz, h.le, ?_⟩
  rcases h.bts with h0 | ⟨b, off, ha, hlt, hc⟩
  · exact Or.inl h0
  · exact Or.inr ⟨b, off, ha, hlt, fun i hi => (World.cell?_of_block (w := w) (w' := w') (a := ⟨b, off + i, none⟩) (hb b (Nat.le_of_lt hlt))).trans (hc i hi)⟩

theorem RdS.below {w w' : World} {rp cap p : Nat} {a : Option Addr} {bs : List UInt8} (h : RdS w rp a cap bs p) (hb : Below w.heap.size w w') : RdS w' rp a cap bs p :=
  h.kept (fun i hi => hb.block i (by have := h.lt; omega))

theorem RdS.move {w : World} {rp cap p : Nat} {a : Option Addr} {bs : List UInt8} (h : RdS w rp a cap bs p) (hp : p < bs.length) (n : Int) (hn : n = ((p + 1 : Nat) : Int)) : RdS (w.setCell ⟨rp, 1, none⟩ (.int .i64 n)) rp a cap bs (p + 1) := by
  subst hn
  refine ⟨(World.cell?_setCell_other _ _ _ _ (by simp)).trans h.c0, World.cell?_setCell_same _ _ _ h.c1, (World.frozen?_setCell _ _ _ _).trans h.fz, by omega, ?_⟩
  rcases h.bts with h0 | ⟨b, off, ha, hlt, hc⟩
  · exact Or.inl h0
  · exact Or.inr ⟨b, off, ha, hlt, fun i hi => (World.cell?_setCell_other _ _ _ _ (fun e => by simp at e; first | done | omega)).trans (hc i hi)⟩

theorem kept1_drewN (w : World) (n g : Nat) : Kept1 w (w.drewN n) g := ⟨rfl, rfl, rfl, Nat.le_refl _, fun _ _ _ => rfl⟩
theorem kept1_set (w : World) (p o : Nat) (v : Value) : Kept1 w (w.setCell ⟨p, o, none⟩ v) p := kept1_setCells [v] o w
theorem RdS.drewN {w : World} {rp cap p : Nat} {a : Option Addr} {bs : List UInt8} (h : RdS w rp a cap bs p) (n : Nat) : RdS (w.drewN n) rp a cap bs p := h.kept (fun _ _ => rfl)

set_option maxHeartbeats 1000000 in
theorem next_any (rp cap p : Nat) (a : Option Addr) (bs : List UInt8) (w : World) (h : RdS w rp a cap bs p) (hl : bs.length ≤ 1200) :
    Calls Tryz.prog 48 #[.pointer (some ⟨rp, 0, none⟩)] w fun e w' => e = .returned (.int .i64 (nxt bs p : Int)) ∧ Hid (RdS w' rp a cap bs (adv bs p)) ∧ Kept1 w w' rp := by
  have H := hide h
  obtain ⟨c0, c1, fz, le, bts⟩ := h
  by_cases hp : p < bs.length
  · have hpI : (p : Int) < (bs.length : Int) := by omega
    rcases bts with h0 | ⟨b, off, rfl, hlt, hc⟩
    · omega
    have b0 := hc p hp
    have HA := hide (show adv bs p = p + 1 by simp [adv, hp])
    have HN := hide (show nxt bs p = (bs.getD p 0).toNat from rfl)
    clear hc
    go_enter Tryz.func48, Tryz.ntmps48
    go_wp2_with fail
    go_quiet (fail)
    go_wp2_with fail
    go_quiet (fail)
    go_wp2_with fail
    go_ret
    rw [unhide HA]
    refine ⟨ret_int ?_, hide (((unhide H).drewN _).move hp _ (by omega)), (kept1_drewN w _ _).trans (kept1_set _ rp 1 _)⟩
    have h8 : nxt bs p < 256 := nxt_lt bs p
    have h9 : nxt bs p = bs[p].toNat := by simp [nxt, hp]
    rw [h9] at h8 ⊢
    unfold wrap64
    omega
  · have hpI : ¬ (p : Int) < (bs.length : Int) := by omega
    have HA := hide (show adv bs p = p by simp [adv, hp])
    have HN := hide (show nxt bs p = 0 by simp [nxt, hp])
    go_enter Tryz.func48, Tryz.ntmps48
    go_wp2_with fail
    go_quiet (fail)
    go_wp2_with fail
    go_ret
    rw [unhide HA, unhide HN]
    exact ⟨rfl, hide ((unhide H).drewN _), kept1_drewN w _ _⟩

/-- In one step: whatever world the reader is in. -/
theorem next_at (rp cap p : Nat) (a : Option Addr) (bs : List UInt8) (w : World) (h : RdS w rp a cap bs p) (hl : bs.length ≤ 1200) :
    Calls Tryz.prog 48 #[.pointer (some ⟨rp, 0, none⟩)] w fun e w' => (∃ k : Nat, e = .returned (.int .i64 (k : Int)) ∧ k < 256 ∧ Hid (k = nxt bs p)) ∧ Hid (RdS w' rp a cap bs (adv bs p)) ∧ Hid (Kept1 w w' rp) := by
  refine (next_any rp cap p a bs w h hl).mono ?_
  rintro e w' ⟨rfl, h1, h2⟩
  exact ⟨⟨nxt bs p, rfl, nxt_lt bs p, hide rfl⟩, h1, hide h2⟩

set_option maxHeartbeats 1000000 in
theorem left_any (rp cap p : Nat) (a : Option Addr) (bs : List UInt8) (w : World) (h : RdS w rp a cap bs p) (hl : bs.length ≤ 1200) :
    Calls Tryz.prog 162 #[.pointer (some ⟨rp, 0, none⟩)] w fun e w' => e = .returned (.int .i64 ((bs.length - p : Nat) : Int)) ∧ Hid (RdS w' rp a cap bs p) ∧ Below w.heap.size w w' := by
  have H := hide h
  obtain ⟨c0, c1, fz, le, bts⟩ := h
  clear bts
  go_enter Tryz.func162, Tryz.ntmps162
  go_wp2_with fail
  go_quiet (fail)
  go_wp2_with fail
  go_ret
  exact ⟨ret_int (by omega), hide ((unhide H).drewN _), ⟨rfl, rfl, rfl, Nat.le_refl _, fun _ _ => rfl⟩⟩

/-- The bytes that are read at all. -/
def rdOf (l : List UInt8) : List UInt8 := l.take 1200

/-- The bytes of an argument. -/
def ArgY (w : World) (a : Option Addr) (l : List UInt8) : Prop := l.length = 0 ∨ ∃ b off, a = some ⟨b, off, none⟩ ∧ b < w.heap.size ∧ ∀ i, i < l.length → w.cell? ⟨b, off + i, none⟩ = some (.int .u8 ((l.getD i 0).toNat : Int))

set_option maxHeartbeats 1000000 in
theorem l1Open_any (a : Option Addr) (cap : Nat) (l : List UInt8) (w : World) (hl : l.length ≤ 1048576) (hcap : l.length ≤ cap) (h : ArgY w a l) :
    Calls Tryz.prog 47 #[.slice a l.length cap] w fun e w' => (∃ rp cap', e = .returned (.pointer (some ⟨rp, 0, none⟩)) ∧ w.heap.size ≤ rp ∧ Hid (RdS w' rp a cap' (rdOf l) 0)) ∧ Below w.heap.size w w' := by
  have H := hide h
  clear h
  by_cases h12 : 1200 < l.length
  · have h12' : (1200 : Int) < (l.length : Int) := by omega
    rcases unhide H with h0 | ⟨b, off, rfl, hb, hc⟩
    · omega
    have HC := hide hc
    clear hc
    have hci : (1200 : Int) ≤ (cap : Int) := by omega
    go_enter Tryz.func47, Tryz.ntmps47
    go_wp2_with fail
    go_ret
    have hr : RdS (w.alloc (.cells #[.slice (some ⟨b, off, none⟩) 1200 cap, .int .i64 0] 172)) w.heap.size (some ⟨b, off, none⟩) cap (rdOf l) 0 := by
      have hlen : (rdOf l).length = 1200 := by simp [rdOf]; omega
      refine ⟨by rw [hlen]; simp [go_sem], by simp [go_sem], by simp [go_sem], Nat.zero_le _, Or.inr ⟨b, off, rfl, hb, fun i hi => ?_⟩⟩
      rw [hlen] at hi
      rw [(below1 w _).cell (p := ⟨b, off + i, none⟩) hb, (unhide HC) i (by omega)]
      simp [rdOf, hi, List.getElem?_take]
    refine ⟨?_, below1 _ _⟩
    first
      | exact ⟨w.heap.size, cap, rfl, Nat.le_refl _, hide hr⟩
      | exact ⟨w.heap.size, rfl, Nat.le_refl _, cap, hide hr⟩
  · have h12' : ¬ (1200 : Int) < (l.length : Int) := by omega
    have HE := hide (show rdOf l = l from List.take_of_length_le (by omega))
    go_enter Tryz.func47, Tryz.ntmps47
    go_wp2_with fail
    go_ret
    have hr : RdS (w.alloc (.cells #[.slice a l.length cap, .int .i64 0] 172)) w.heap.size a cap (rdOf l) 0 := by
      rw [unhide HE]
      refine ⟨by simp [go_sem], by simp [go_sem], by simp [go_sem], Nat.zero_le _, ?_⟩
      rcases unhide H with h0 | ⟨b, off, rfl, hb, hc⟩
      · exact Or.inl h0
      · exact Or.inr ⟨b, off, rfl, hb, fun i hi => ((below1 w _).cell (p := ⟨b, off + i, none⟩) hb).trans (hc i hi)⟩
    refine ⟨?_, below1 _ _⟩
    first
      | exact ⟨w.heap.size, cap, rfl, Nat.le_refl _, hide hr⟩
      | exact ⟨w.heap.size, rfl, Nat.le_refl _, cap, hide hr⟩
end Go.Proofs.YtfboipappaonhaaGreat

/-
  What grows: worlds in which one row may have changed.
-/
namespace Go.Proofs.YtfboipappaonhaaGreat
set_option maxRecDepth 100000
open Go.RowKit

theorem grown_belN {w w' : World} (h : Below w.heap.size w w') (row : Option Nat) : w.grownBy w' row := ⟨h.os, h.tape, h.output, h.size, fun i hi _ => h.block i hi⟩

theorem grown_below {w w1 w2 : World} {row : Option Nat} (h : Below w.heap.size w w1) (h2 : w1.grownBy w2 row) : w.grownBy w2 row :=
  ⟨h2.os.trans h.os, h2.tape.trans h.tape, h2.output.trans h.output, Nat.le_trans h.size h2.size, fun i hi hr => (h2.block i (Nat.lt_of_lt_of_le hi h.size) hr).trans (h.block i hi)⟩

theorem grown_trans {w w1 w2 : World} {row row' : Option Nat} (h : w.grownBy w1 row) (h2 : w1.grownBy w2 row') (hr : row' = row ∨ ∃ k, row' = some k ∧ w.heap.size ≤ k) : w.grownBy w2 row :=
  ⟨h2.os.trans h.os, h2.tape.trans h.tape, h2.output.trans h.output, Nat.le_trans h.size h2.size, fun i hi hne => (h2.block i (Nat.lt_of_lt_of_le hi h.size) (fun e => by
    rcases hr with rfl | ⟨k, rfl, hk⟩
    · exact hne e
    · injection e with e; omega)).trans (h.block i hi hne)⟩

theorem grown_cell {w w' : World} {row : Option Nat} (h : w.grownBy w' row) {b : Nat} (hb : b < w.heap.size) (hne : row ≠ some b) (o : Nat) : w'.cell? ⟨b, o, none⟩ = w.cell? ⟨b, o, none⟩ :=
  World.cell?_of_block (w := w) (h.block b hb (fun e => hne e.symm))

theorem grown_at {w w' : World} {row row' : Option Nat} (h : w.grownBy w' row) (hr : row' = row ∨ ∃ k, row' = some k ∧ w.heap.size ≤ k) (r : Option Nat) (hr2 : r = row' ∨ ∃ k, r = some k ∧ w'.heap.size ≤ k) : r = row ∨ ∃ k, r = some k ∧ w.heap.size ≤ k := by
  have := h.size
  rcases hr2 with rfl | ⟨k, rfl, hk⟩
  · exact hr
  · exact Or.inr ⟨k, rfl, by omega⟩

theorem info_parts' {t : TypeId} {z : Value} {s b : Nat} (h : (Tryz.prog.info? t).map (fun i => (i.zero, i.size, i.bytes)) = some (some z, s, b)) : ∃ i, Tryz.prog.info? t = some i ∧ i.zero = some z ∧ i.size = s ∧ i.bytes = b := by
  obtain ⟨i, hi, hz⟩ := Option.map_eq_some_iff.1 h
  simp only [Prod.mk.injEq] at hz
  exact ⟨i, hi, hz.1, hz.2.1, hz.2.2⟩
end Go.Proofs.YtfboipappaonhaaGreat
