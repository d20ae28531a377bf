/-
  Walks: marks. What markText gives is a function of its number.
-/
import Derived.Test.YtokabkhnidlcnabDoorBase
namespace Go.Proofs.YtokabkhnidlcnabDoor
set_option maxRecDepth 100000
open Go.RowKit

/-- The digits of k ahead of what is there already; f: fuel. -/
def digs : Nat → Nat → List UInt8 → List UInt8
  | 0, _, out => out
  | f + 1, k, out => if k = 0 then out else digs f (k / 10) ((48 + UInt8.ofNat (k % 10)) :: out)

/-- The text of a mark. -/
def MT (k : Nat) : ByteArray := ⟨(109 :: digs 20 k []).toArray⟩

theorem digs_len : ∀ (f k : Nat) (out : List UInt8), (digs f k out).length ≤ out.length + f
  | 0, _, _ => Nat.le_refl _
  | f + 1, k, out => by
    unfold digs
    split
    · omega
    · have := digs_len f (k / 10) ((48 + UInt8.ofNat (k % 10)) :: out)
      simp only [List.length_cons] at this
      omega

theorem MT_size (k : Nat) : (MT k).size ≤ 21 := by
  have := digs_len 20 k []
  show (109 :: digs 20 k []).toArray.size ≤ 21
  simp at *
  omega

theorem MT_max (k : Nat) : (MT k).size ≤ maxLen := by
  have := MT_size k
  unfold maxLen
  omega

theorem conv1 (W : World) (c : Int) : (convert 59 9 (.slice (some ⟨W.heap.size, 0, none⟩) 1 1)).run Tryd.prog (W.alloc (.cells #[.int .u8 c] 5)) = .ok (.string ⟨#[UInt8.ofNat c.toNat]⟩) (W.alloc (.cells #[.int .u8 c] 5)) := by
  rw [run_convert_bytes_string _ 59 9 5 _ _ _ Tryd.underlying59 Tryd.underlying5 Tryd.underlying9]
  have hl : (loadCells ⟨W.heap.size, 0, none⟩ 1).run Tryd.prog (W.alloc (.cells #[.int .u8 c] 5)) = .ok ([c].map (Value.int .u8)).toArray (W.alloc (.cells #[.int .u8 c] 5)) :=
    run_loadCells_list (P := Tryd.prog) _ ⟨W.heap.size, 0, none⟩ [.int .u8 c] (fun j v hv => by
      match j, hv with
      | 0, hv => simp at hv; subst hv; simp [Addr.add, go_sem])
  rw [run_bytesToString _ ⟨W.heap.size, 0, none⟩ 1 1 [c] hl]
  rfl

theorem cat_bytes (l l' : List UInt8) : (ByteArray.mk l.toArray ++ ByteArray.mk l'.toArray) = ByteArray.mk (l ++ l').toArray := by
  apply ByteArray.ext
  simp

set_option maxRecDepth 100000 in
set_option maxHeartbeats 1000000 in
theorem markText_any (k : Nat) (w : World) (h0 : 1 ≤ k) (h1 : k ≤ 1000000000) :
    Calls Tryd.prog 28 #[.int .i64 (k : Int)] w fun e w' => e = .returned (.string (MT k)) ∧ Below w.heap.size w w' := by
  have hk0 : (0 : Int) < (k : Int) := by omega
  go_enter Tryd.func28, Tryd.ntmps28
  go_wp2
  go_loopw [0, 3] (fun kk out wr => ∃ (n f : Nat) (l : List UInt8), kk = .int .i64 (n : Int) ∧ out = .string ⟨l.toArray⟩ ∧ n ≤ 1000000000 ∧ l.length + f ≤ 20 ∧ Hid (n < 10 ^ f) ∧ Hid (digs f n l = digs 20 k []) ∧ Below w.heap.size w wr) (fun kk _ _ => (intOf kk).toNat)
  case atStart => exact ⟨k, 20, [], rfl, rfl, h1, by simp, hide (by omega), hide rfl, Below.refl _ _⟩
  case round =>
    obtain ⟨n, f, l, rfl, rfl, hn, hlf, hnf, hd, hbel⟩ := hrel
    by_cases hn0 : 0 < n
    · have hn0' : (0 : Int) < (n : Int) := by omega
      obtain ⟨f', rfl⟩ : ∃ f', f = f' + 1 := by
        cases f with
        | zero => exact absurd (unhide hnf) (by simp; omega)
        | succ f' => exact ⟨f', rfl⟩
      have hcv := fun W c => conv1 W c
      go_wp2
      refine ⟨⟨n / 10, f', (48 + UInt8.ofNat (n % 10)) :: l, by simp, ?_, by omega, by simp; omega, hide ?_, hide ?_, hbel.alloc hbel.size _⟩, by simp [intOf]; omega⟩
      · show Value.string (ByteArray.mk [48 + UInt8.ofNat (n % 10)].toArray ++ ByteArray.mk l.toArray) = _
        rw [cat_bytes]
        rfl
      · have := unhide hnf
        rw [Nat.pow_succ] at this
        omega
      · have := unhide hd
        unfold digs at this
        rw [if_neg (by omega)] at this
        exact this
    · have hn00 : n = 0 := by omega
      go_wp2
      go_ret
      refine ⟨?_, hbel⟩
      have e : l = digs 20 k [] := by
        rw [← unhide hd, hn00]
        cases f <;> simp [digs]
      show Ending.returned (.string (ByteArray.mk [109].toArray ++ ByteArray.mk l.toArray)) = _
      rw [cat_bytes, e]
      rfl

theorem markText_int (x : Int) (k : Nat) (w : World) (hx : x = (k : Int)) (h0 : 1 ≤ k) (h1 : k ≤ 1000000000) :
    Calls Tryd.prog 28 #[.int .i64 x] w fun e w' => e = .returned (.string (MT k)) ∧ Below w.heap.size w w' := by
  subst hx
  exact markText_any k w h0 h1
end Go.Proofs.YtokabkhnidlcnabDoor
