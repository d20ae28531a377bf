import Derived.Deep.QuietTactic
import Derived.BigQuiet
import Derived.Test.YtokabkhnidlcnaaL00
import Derived.Test.YtokabkhnidlcnaaL02

/-
  Walks: the reader of the draws.
-/
namespace Go.Proofs.Ytokabkhnidlcnaa
set_option maxRecDepth 100000
set_option linter.unusedSimpArgs false
open Go.RowKit

/-- The byte at place p of what is read, 0 behind the end; the place behind it. -/
def nxt (bs : List UInt8) (p : Nat) : Nat := (bs.getD p 0).toNat
def adv (bs : List UInt8) (p : Nat) : Nat := if p < bs.length then p + 1 else p

theorem nxt_lt (bs : List UInt8) (p : Nat) : nxt bs p < 256 := UInt8.toNat_lt _
theorem adv_le {bs : List UInt8} {p : Nat} (h : p ≤ bs.length) : adv bs p ≤ bs.length := by unfold adv; split <;> omega

/-- A reader in memory. -/
structure RdS (w : World) (rp : Nat) (a : Option Addr) (cap : Nat) (bs : List UInt8) (p : Nat) : Prop where
  c0 : w.cell? ⟨rp, 0, none⟩ = some (.slice a bs.length cap)
  c1 : w.cell? ⟨rp, 1, none⟩ = some (.int .i64 (p : Int))
  fz : w.frozen? ⟨rp, 1, none⟩ = false
  le : p ≤ bs.length
  bts : bs.length = 0 ∨ ∃ b off, a = some ⟨b, off, none⟩ ∧ b < rp ∧ ∀ i, i < bs.length → w.cell? ⟨b, off + i, none⟩ = some (.int .u8 ((bs.getD i 0).toNat : Int))

theorem RdS.lt {w : World} {rp cap p : Nat} {a : Option Addr} {bs : List UInt8} (h : RdS w rp a cap bs p) : rp < w.heap.size := block_lt_of_cell h.c0

theorem RdS.kept {w w' : World} {rp cap p : Nat} {a : Option Addr} {bs : List UInt8} (h : RdS w rp a cap bs p) (hb : ∀ i, i ≤ rp → w'.heap[i]? = w.heap[i]?) : RdS w' rp a cap bs p := by
  have e := fun o => World.cell?_of_block (w := w) (w' := w') (a := ⟨rp, o, none⟩) (hb rp (Nat.le_refl _))
  refine ⟨(e _).trans h.c0, (e _).trans h.c1, (World.frozen?_of_block (w := w) (w' := w') (a := ⟨rp, 1, none⟩) (hb rp (Nat.le_refl _))).trans h.fz, h.le, ?_⟩
  rcases h.bts with h0 | ⟨b, off, ha, hlt, hc⟩
  · exact Or.inl h0
  · exact Or.inr ⟨b, off, ha, hlt, fun i hi => (World.cell?_of_block (w := w) (w' := w') (a := ⟨b, off + i, none⟩) (hb b (Nat.le_of_lt hlt))).trans (hc i hi)⟩

theorem RdS.below {w w' : World} {rp cap p : Nat} {a : Option Addr} {bs : List UInt8} (h : RdS w rp a cap bs p) (hb : Below w.heap.size w w') : RdS w' rp a cap bs p :=
  h.kept (fun i hi => hb.block i (by have := h.lt; omega))

theorem RdS.move {w : World} {rp cap p : Nat} {a : Option Addr} {bs : List UInt8} (h : RdS w rp a cap bs p) (hp : p < bs.length) (n : Int) (hn : n = ((p + 1 : Nat) : Int)) : RdS (w.setCell ⟨rp, 1, none⟩ (.int .i64 n)) rp a cap bs (p + 1) := by
  subst hn
  refine ⟨(World.cell?_setCell_other _ _ _ _ (by simp)).trans h.c0, World.cell?_setCell_same _ _ _ h.c1, (World.frozen?_setCell _ _ _ _).trans h.fz, by omega, ?_⟩
  rcases h.bts with h0 | ⟨b, off, ha, hlt, hc⟩
  · exact Or.inl h0
  · exact Or.inr ⟨b, off, ha, hlt, fun i hi => (World.cell?_setCell_other _ _ _ _ (fun e => by simp at e; first | done | omega)).trans (hc i hi)⟩

theorem kept1_drewN (w : World) (n g : Nat) : Kept1 w (w.drewN n) g := ⟨rfl, rfl, rfl, Nat.le_refl _, fun _ _ _ => rfl⟩
theorem kept1_set (w : World) (p o : Nat) (v : Value) : Kept1 w (w.setCell ⟨p, o, none⟩ v) p := kept1_setCells [v] o w
theorem RdS.drewN {w : World} {rp cap p : Nat} {a : Option Addr} {bs : List UInt8} (h : RdS w rp a cap bs p) (n : Nat) : RdS (w.drewN n) rp a cap bs p := h.kept (fun _ _ => rfl)

set_option maxHeartbeats 1000000 in
theorem next_any (rp cap p : Nat) (a : Option Addr) (bs : List UInt8) (w : World) (h : RdS w rp a cap bs p) (hl : bs.length ≤ 1200) :
    Calls Try.prog 22 #[.pointer (some ⟨rp, 0, none⟩)] w fun e w' => e = .returned (.int .i64 (nxt bs p : Int)) ∧ Hid (RdS w' rp a cap bs (adv bs p)) ∧ Kept1 w w' rp := by
  have H := hide h
  obtain ⟨c0, c1, fz, le, bts⟩ := h
  by_cases hp : p < bs.length
  · have hpI : (p : Int) < (bs.length : Int) := by omega
    rcases bts with h0 | ⟨b, off, rfl, hlt, hc⟩
    · omega
    have b0 := hc p hp
    have HA := hide (show adv bs p = p + 1 by simp [adv, hp])
    have HN := hide (show nxt bs p = (bs.getD p 0).toNat from rfl)
    clear hc
    go_enter Try.func22, Try.ntmps22
    go_wp2_with fail
    go_quiet (fail)
    go_wp2_with fail
    go_quiet (fail)
    go_wp2_with fail
    go_ret
    rw [unhide HA]
    refine ⟨ret_int ?_, hide (((unhide H).drewN _).move hp _ (by omega)), (kept1_drewN w _ _).trans (kept1_set _ rp 1 _)⟩
    have h8 : nxt bs p < 256 := nxt_lt bs p
    have h9 : nxt bs p = bs[p].toNat := by simp [nxt, hp]
    rw [h9] at h8 ⊢
    unfold wrap64
    omega
  · have hpI : ¬ (p : Int) < (bs.length : Int) := by omega
    have HA := hide (show adv bs p = p by simp [adv, hp])
    have HN := hide (show nxt bs p = 0 by simp [nxt, hp])
    go_enter Try.func22, Try.ntmps22
    go_wp2_with fail
    go_quiet (fail)
    go_wp2_with fail
    go_ret
    rw [unhide HA, unhide HN]
    exact ⟨rfl, hide ((unhide H).drewN _), kept1_drewN w _ _⟩

/-- In one step: whatever world the reader is in. -/
theorem next_at (rp cap p : Nat) (a : Option Addr) (bs : List UInt8) (w : World) (h : RdS w rp a cap bs p) (hl : bs.length ≤ 1200) :
    Calls Try.prog 22 #[.pointer (some ⟨rp, 0, none⟩)] w fun e w' => (∃ k : Nat, e = .returned (.int .i64 (k : Int)) ∧ k < 256 ∧ Hid (k = nxt bs p)) ∧ Hid (RdS w' rp a cap bs (adv bs p)) ∧ Hid (Kept1 w w' rp) := by
  refine (next_any rp cap p a bs w h hl).mono ?_
  rintro e w' ⟨rfl, h1, h2⟩
  exact ⟨⟨nxt bs p, rfl, nxt_lt bs p, hide rfl⟩, h1, hide h2⟩

set_option maxHeartbeats 1000000 in
theorem left_any (rp cap p : Nat) (a : Option Addr) (bs : List UInt8) (w : World) (h : RdS w rp a cap bs p) (hl : bs.length ≤ 1200) :
    Calls Try.prog 25 #[.pointer (some ⟨rp, 0, none⟩)] w fun e w' => e = .returned (.int .i64 ((bs.length - p : Nat) : Int)) ∧ Hid (RdS w' rp a cap bs p) ∧ Below w.heap.size w w' := by
  have H := hide h
  obtain ⟨c0, c1, fz, le, bts⟩ := h
  clear bts
  go_enter Try.func25, Try.ntmps25
  go_wp2_with fail
  go_quiet (fail)
  go_wp2_with fail
  go_ret
  exact ⟨ret_int (by omega), hide ((unhide H).drewN _), ⟨rfl, rfl, rfl, Nat.le_refl _, fun _ _ => rfl⟩⟩

/-- The bytes that are read at all. -/
def rdOf (l : List UInt8) : List UInt8 := l.take 1200

/-- The bytes of an argument. -/
def ArgY (w : World) (a : Option Addr) (l : List UInt8) : Prop := l.length = 0 ∨ ∃ b off, a = some ⟨b, off, none⟩ ∧ b < w.heap.size ∧ ∀ i, i < l.length → w.cell? ⟨b, off + i, none⟩ = some (.int .u8 ((l.getD i 0).toNat : Int))

set_option maxHeartbeats 1000000 in
theorem l1Open_any (a : Option Addr) (cap : Nat) (l : List UInt8) (w : World) (hl : l.length ≤ 1048576) (hcap : l.length ≤ cap) (h : ArgY w a l) :
    Calls Try.prog 21 #[.slice a l.length cap] w fun e w' => (∃ rp cap', e = .returned (.pointer (some ⟨rp, 0, none⟩)) ∧ w.heap.size ≤ rp ∧ Hid (RdS w' rp a cap' (rdOf l) 0)) ∧ Below w.heap.size w w' := by
  have H := hide h
  clear h
  by_cases h12 : 1200 < l.length
  · have h12' : (1200 : Int) < (l.length : Int) := by omega
    rcases unhide H with h0 | ⟨b, off, rfl, hb, hc⟩
    · omega
    have HC := hide hc
    clear hc
    have hci : (1200 : Int) ≤ (cap : Int) := by omega
    go_enter Try.func21, Try.ntmps21
    go_wp2_with fail
    go_ret
    have hr : RdS (w.alloc (.cells #[.slice (some ⟨b, off, none⟩) 1200 cap, .int .i64 0] 88)) w.heap.size (some ⟨b, off, none⟩) cap (rdOf l) 0 := by
      have hlen : (rdOf l).length = 1200 := by simp [rdOf]; omega
      refine ⟨by rw [hlen]; simp [go_sem], by simp [go_sem], by simp [go_sem], Nat.zero_le _, Or.inr ⟨b, off, rfl, hb, fun i hi => ?_⟩⟩
      rw [hlen] at hi
      rw [(below1 w _).cell (p := ⟨b, off + i, none⟩) hb, (unhide HC) i (by omega)]
      simp [rdOf, hi, List.getElem?_take]
    refine ⟨?_, below1 _ _⟩
    first
      | exact ⟨w.heap.size, cap, rfl, Nat.le_refl _, hide hr⟩
      | exact ⟨w.heap.size, rfl, Nat.le_refl _, cap, hide hr⟩
  · have h12' : ¬ (1200 : Int) < (l.length : Int) := by omega
    have HE := hide (show rdOf l = l from List.take_of_length_le (by omega))
    go_enter Try.func21, Try.ntmps21
    go_wp2_with fail
    go_ret
    have hr : RdS (w.alloc (.cells #[.slice a l.length cap, .int .i64 0] 88)) w.heap.size a cap (rdOf l) 0 := by
      rw [unhide HE]
      refine ⟨by simp [go_sem], by simp [go_sem], by simp [go_sem], Nat.zero_le _, ?_⟩
      rcases unhide H with h0 | ⟨b, off, rfl, hb, hc⟩
      · exact Or.inl h0
      · exact Or.inr ⟨b, off, rfl, hb, fun i hi => ((below1 w _).cell (p := ⟨b, off + i, none⟩) hb).trans (hc i hi)⟩
    refine ⟨?_, below1 _ _⟩
    first
      | exact ⟨w.heap.size, cap, rfl, Nat.le_refl _, hide hr⟩
      | exact ⟨w.heap.size, rfl, Nat.le_refl _, cap, hide hr⟩
end Go.Proofs.Ytokabkhnidlcnaa

/-
  Walks: signs and texts of operators, in both texts.
-/
namespace Go.Proofs.Ytokabkhnidlcnaa
set_option maxRecDepth 100000
open Go.RowKit

set_option maxHeartbeats 400000 in
theorem l1IsSign_any (c : UInt8) (w : World) :
    Calls Try.prog 66 #[.int .u8 (c.toNat : Int)] w fun e w' => e = .returned (.bool (sgB c)) ∧ w' = w := by
  go_enter Try.func66, Try.ntmps66
  go_wp2
  go_loop [4] (fun i => ∃ k : Nat, k ≤ 18 ∧ i = .int .i64 k ∧ ∀ j, j < k → sgL.getD j 0 ≠ c) (fun i => 18 - (intOf i).toNat)
  case atStart => exact ⟨0, by omega, rfl, fun j h => by omega⟩
  case round =>
    obtain ⟨k, hk, rfl, hn⟩ := hrel
    by_cases hlt : k < 18
    · go_wp2
      · go_ret
        exact ⟨ret_bool (sgB_some c k hlt (by rw [← lit_get k hlt (by exact hlt)]; exact u8_eq _ _ ‹_›)).symm, rfl⟩
      · refine ⟨⟨k + 1, by omega, by go_num, ?_⟩, by simp [intOf]; omega⟩
        intro j hj
        by_cases e : j = k
        · subst e
          rw [← lit_get j hlt (by exact hlt)]
          exact u8_ne _ _ ‹_›
        · exact hn j (by omega)
    · go_wp2
      go_ret
      exact ⟨ret_bool (sgB_none c (fun j hj => hn j (by omega))).symm, rfl⟩

set_option maxHeartbeats 400000 in
theorem isSign_any (c : UInt8) (w : World) :
    Calls Try.prog 79 #[.int .u8 (c.toNat : Int)] w fun e w' => e = .returned (.bool (sgB c)) ∧ w' = w := by
  go_enter Try.func79, Try.ntmps79
  go_wp2
  rw [run_callFunc_extern Try.func84 (by kernel_rfl) (by kernel_rfl) (by kernel_rfl) (e := Extern.BytealgIndexByte.indexByte) (by kernel_rfl), Lib.run_indexByteString]
  simp only [Result.andThen]
  rw [Oper.upon_value]
  go_wp2
  go_ret
  refine ⟨?_, rfl⟩
  exact congrArg (fun b => Ending.returned (.bool b)) (idx_sg c)
end Go.Proofs.Ytokabkhnidlcnaa
