import Derived.Deep.RegionHeld
import Derived.Test.YtokabkhnidlcnabGreatDoorL00
import Derived.Test.YtokabkhnidlcnabGreatDoorL02
import Derived.Test.YtokabkhnidlcnabGreatDoorL10

/-
  Rows of operators that hold the same.
-/
namespace Go.Proofs.YtokabkhnidlcnabGreatDoor
set_option maxRecDepth 100000
open Go.RowKit

set_option maxHeartbeats 400000 in
theorem eqOp_same (s : ByteArray) (k l sd : Int) (w : World) :
    Calls Tryz.prog 59 #[.agg #[.string s, .int .i64 k, .int .i64 l, .int .i64 sd], .agg #[.string s, .int .i64 k, .int .i64 l, .int .i64 sd]] w fun e w' => e = .returned (.bool true) ∧ Below w.heap.size w w' := by
  go_enter Tryz.func59, Tryz.ntmps59
  go_wp2
  go_ret
  exact ⟨rfl, (below1 _ _).alloc (by simp) _⟩

set_option maxHeartbeats 1000000 in
theorem eqOpS_same (b off b' off' cap cap' : Nat) (xs : List OpR) (w : World) (hm : xs.length ≤ 1048576) (h : Ops w b off xs) (h' : Ops w b' off' xs) (hB : b < w.heap.size) (hB' : b' < w.heap.size) :
    Calls Tryz.prog 44 #[.slice (some ⟨b, off, none⟩) xs.length cap, .slice (some ⟨b', off', none⟩) xs.length cap'] w fun e w' => e = .returned (.bool true) ∧ Below w.heap.size w w' := by
  go_enter Tryz.func44, Tryz.ntmps44
  go_wp2
  go_loopw [5] (fun i wr => ∃ k : Nat, k ≤ xs.length ∧ i = .int .i64 k ∧ Below w.heap.size w wr) (fun i _ => xs.length - (intOf i).toNat)
  case atStart => exact ⟨0, Nat.zero_le _, rfl, Below.refl _ _⟩
  case round =>
    obtain ⟨k, hk, rfl, hbel⟩ := hrel
    by_cases hlt : k < xs.length
    · obtain ⟨a0, a1, a2, a3⟩ := (h k hlt).below hbel hB
      obtain ⟨c0, c1, c2, c3⟩ := (h' k hlt).below hbel hB'
      have hltI : (k : Int) < (xs.length : Int) := by omega
      have zb : b < wr.heap.size := Nat.lt_of_lt_of_le hB hbel.size
      have zb' : b' < wr.heap.size := Nat.lt_of_lt_of_le hB' hbel.size
      go_wp2_with fail
      go_region_held (fun w' => w'.cell? ⟨b, off + k * 4, none⟩ = some (.string (atO xs k).s) ∧ w'.cell? ⟨b, off + k * 4 + 1, none⟩ = some (.int .i64 (atO xs k).k) ∧
        w'.cell? ⟨b, off + k * 4 + 2, none⟩ = some (.int .i64 (atO xs k).l) ∧ w'.cell? ⟨b, off + k * 4 + 3, none⟩ = some (.int .i64 (atO xs k).sd) ∧
        w'.cell? ⟨b', off' + k * 4, none⟩ = some (.string (atO xs k).s) ∧ w'.cell? ⟨b', off' + k * 4 + 1, none⟩ = some (.int .i64 (atO xs k).k) ∧
        w'.cell? ⟨b', off' + k * 4 + 2, none⟩ = some (.int .i64 (atO xs k).l) ∧ w'.cell? ⟨b', off' + k * 4 + 3, none⟩ = some (.int .i64 (atO xs k).sd)) (go_keep)
        (first | (go_at_call 59; refine (eqOp_same _ _ _ _ _).mono ?_; rintro e w1 ⟨rfl, hb1⟩; obtain ⟨q0, q1, q2, q3⟩ := CellsAt.below (w := wr.drew) ⟨a0, a1, a2, a3⟩ hb1 zb; obtain ⟨p0, p1, p2, p3⟩ := CellsAt.below (w := wr.drew) ⟨c0, c1, c2, c3⟩ hb1 zb'))
      go_wp2
      exact ⟨⟨k + 1, by omega, by go_num, hbel.trans (((Below.refl _ _).drew.trans hb1).mono hbel.size)⟩, by simp [intOf]; omega⟩
    · go_wp2
      go_ret
      exact ⟨rfl, hbel⟩
end Go.Proofs.YtokabkhnidlcnabGreatDoor

/-
  Walks: marks. What markText gives is a function of its number.
-/
namespace Go.Proofs.YtokabkhnidlcnabGreatDoor
set_option maxRecDepth 100000
open Go.RowKit

/-- The digits of k ahead of what is there already; f: fuel. -/
def digs : Nat → Nat → List UInt8 → List UInt8
  | 0, _, out => out
  | f + 1, k, out => if k = 0 then out else digs f (k / 10) ((48 + UInt8.ofNat (k % 10)) :: out)

/-- The text of a mark. -/
def MT (k : Nat) : ByteArray := ⟨(109 :: digs 20 k []).toArray⟩

theorem digs_len : ∀ (f k : Nat) (out : List UInt8), (digs f k out).length ≤ out.length + f
  | 0, _, _ => Nat.le_refl _
  | f + 1, k, out => by
    unfold digs
    split
    · omega
    · have := digs_len f (k / 10) ((48 + UInt8.ofNat (k % 10)) :: out)
      simp only [List.length_cons] at this
      omega

theorem MT_size (k : Nat) : (MT k).size ≤ 21 := by
  have := digs_len 20 k []
  show (109 :: digs 20 k []).toArray.size ≤ 21
  simp at *
  omega

theorem MT_max (k : Nat) : (MT k).size ≤ maxLen := by
  have := MT_size k
  unfold maxLen
  omega

theorem conv1 (W : World) (c : Int) : (convert 95 9 (.slice (some ⟨W.heap.size, 0, none⟩) 1 1)).run Tryz.prog (W.alloc (.cells #[.int .u8 c] 5)) = .ok (.string ⟨#[UInt8.ofNat c.toNat]⟩) (W.alloc (.cells #[.int .u8 c] 5)) := by
  rw [run_convert_bytes_string _ 95 9 5 _ _ _ Tryz.underlying95 Tryz.underlying5 Tryz.underlying9]
  have hl : (loadCells ⟨W.heap.size, 0, none⟩ 1).run Tryz.prog (W.alloc (.cells #[.int .u8 c] 5)) = .ok ([c].map (Value.int .u8)).toArray (W.alloc (.cells #[.int .u8 c] 5)) :=
    run_loadCells_list (P := Tryz.prog) _ ⟨W.heap.size, 0, none⟩ [.int .u8 c] (fun j v hv => by
      match j, hv with
      | 0, hv => simp at hv; subst hv; simp [Addr.add, go_sem])
  rw [run_bytesToString _ ⟨W.heap.size, 0, none⟩ 1 1 [c] hl]
  rfl

theorem cat_bytes (l l' : List UInt8) : (ByteArray.mk l.toArray ++ ByteArray.mk l'.toArray) = ByteArray.mk (l ++ l').toArray := by
  apply ByteArray.ext
  simp

set_option maxRecDepth 100000 in
set_option maxHeartbeats 1000000 in
theorem markText_any (k : Nat) (w : World) (h0 : 1 ≤ k) (h1 : k ≤ 1000000000) :
    Calls Tryz.prog 26 #[.int .i64 (k : Int)] w fun e w' => e = .returned (.string (MT k)) ∧ Below w.heap.size w w' := by
  have hk0 : (0 : Int) < (k : Int) := by omega
  go_enter Tryz.func26, Tryz.ntmps26
  go_wp2
  go_loopw [0, 3] (fun kk out wr => ∃ (n f : Nat) (l : List UInt8), kk = .int .i64 (n : Int) ∧ out = .string ⟨l.toArray⟩ ∧ n ≤ 1000000000 ∧ l.length + f ≤ 20 ∧ Hid (n < 10 ^ f) ∧ Hid (digs f n l = digs 20 k []) ∧ Below w.heap.size w wr) (fun kk _ _ => (intOf kk).toNat)
  case atStart => exact ⟨k, 20, [], rfl, rfl, h1, by simp, hide (by omega), hide rfl, Below.refl _ _⟩
  case round =>
    obtain ⟨n, f, l, rfl, rfl, hn, hlf, hnf, hd, hbel⟩ := hrel
    by_cases hn0 : 0 < n
    · have hn0' : (0 : Int) < (n : Int) := by omega
      obtain ⟨f', rfl⟩ : ∃ f', f = f' + 1 := by
        cases f with
        | zero => exact absurd (unhide hnf) (by simp; omega)
        | succ f' => exact ⟨f', rfl⟩
      have hcv := fun W c => conv1 W c
      go_wp2
      refine ⟨⟨n / 10, f', (48 + UInt8.ofNat (n % 10)) :: l, by simp, ?_, by omega, by simp; omega, hide ?_, hide ?_, hbel.alloc hbel.size _⟩, by simp [intOf]; omega⟩
      · show Value.string (ByteArray.mk [48 + UInt8.ofNat (n % 10)].toArray ++ ByteArray.mk l.toArray) = _
        rw [cat_bytes]
        rfl
      · have := unhide hnf
        rw [Nat.pow_succ] at this
        omega
      · have := unhide hd
        unfold digs at this
        rw [if_neg (by omega)] at this
        exact this
    · have hn00 : n = 0 := by omega
      go_wp2
      go_ret
      refine ⟨?_, hbel⟩
      have e : l = digs 20 k [] := by
        rw [← unhide hd, hn00]
        cases f <;> simp [digs]
      show Ending.returned (.string (ByteArray.mk [109].toArray ++ ByteArray.mk l.toArray)) = _
      rw [cat_bytes, e]
      rfl

theorem markText_int (x : Int) (k : Nat) (w : World) (hx : x = (k : Int)) (h0 : 1 ≤ k) (h1 : k ≤ 1000000000) :
    Calls Tryz.prog 26 #[.int .i64 x] w fun e w' => e = .returned (.string (MT k)) ∧ Below w.heap.size w w' := by
  subst hx
  exact markText_any k w h0 h1
end Go.Proofs.YtokabkhnidlcnabGreatDoor

/-
  Marks in rows of operators.
-/
namespace Go.Proofs.YtokabkhnidlcnabGreatDoor
set_option maxRecDepth 100000
open Go.RowKit

/-- The marks from k on. -/
def mk1 (c : Nat) : OpR := ⟨MT c, (c : Int) + 1, (c : Int) + 1 + 1, (c : Int) + 1 + 1 + 1⟩
def mks (k n : Nat) : List OpR := (List.range n).map fun i => mk1 (k + 4 * i)
theorem mks_len (k n : Nat) : (mks k n).length = n := by simp [mks]
theorem mks_at {k n i : Nat} (h : i < n) : atO (mks k n) i = mk1 (k + 4 * i) := by simp [atO, mks, h]

theorem Filled.step_of {w : World} {g k : Nat} {xs : List OpR} (h : Filled w g xs k) (hk : k < xs.length) {o : OpR} (e : atO xs k = o) :
    Filled (w.setCells g (k * 4) [.string o.s, .int .i64 o.k, .int .i64 o.l, .int .i64 o.sd]) g xs (k + 1) := by
  subst e
  exact h.step hk

/-- The row may be filled anew. -/
theorem Filled.anew {w : World} {g : Nat} {xs ys : List OpR} {k : Nat} (h : Filled w g xs k) (hl : xs.length = ys.length) : Filled w g ys 0 :=
  ⟨h.1, hl ▸ h.2.1, fun i hi => absurd hi (Nat.not_lt_zero i)⟩

set_option maxRecDepth 100000 in
set_option maxHeartbeats 2000000 in
theorem markOpS_any (g cap k : Nat) (xs : List OpR) (w : World) (hm : xs.length ≤ 1048576) (h1 : 1 ≤ k) (hk : k ≤ 10000000) (hw : Filled w g xs xs.length) :
    Calls Tryz.prog 27 #[.slice (some ⟨g, 0, none⟩) xs.length cap, .int .i64 (k : Int)] w fun e w' => e = .returned (.int .i64 ((k + 4 * xs.length : Nat) : Int)) ∧ Filled w' g (mks k xs.length) xs.length ∧ Kept1 w w' g := by
  have hw0 := hide (hw.anew (mks_len k xs.length).symm)
  clear hw
  go_enter Tryz.func27, Tryz.ntmps27
  go_wp2
  go_loopw [1, 5] (fun kk i wr => ∃ n c : Nat, n ≤ xs.length ∧ i = .int .i64 (n : Int) ∧ kk = .int .i64 (c : Int) ∧ 1 ≤ c ∧ c ≤ 100000000 ∧ Hid (c = k + 4 * n) ∧ Hid (Filled wr g (mks k xs.length) n) ∧ Hid (Kept1 w wr g)) (fun _ i _ => xs.length - (intOf i).toNat)
  case atStart => exact ⟨0, k, Nat.zero_le _, rfl, rfl, h1, by omega, hide (by omega), hw0, hide (Kept1.refl _ _)⟩
  case round =>
    clear hw0
    obtain ⟨n, c, hn, rfl, rfl, hc1, hc2, hc, hf, hkp⟩ := hrel
    by_cases hlt : n < xs.length
    · go_wp2_with fail
      refine (markText_any c _ hc1 (by omega)).mono ?_
      rintro e w1 ⟨rfl, hb1⟩
      have hf1 := (unhide hf).below hb1 (unhide hf).1
      obtain ⟨⟨e0, f0⟩, ⟨e1, f1⟩, ⟨e2, f2⟩, ⟨e3, f3⟩⟩ := fill_cells hf1 (by rw [mks_len]; exact hlt)
      obtain ⟨v0, e0⟩ := e0
      obtain ⟨v1, e1⟩ := e1
      obtain ⟨v2, e2⟩ := e2
      obtain ⟨v3, e3⟩ := e3
      have HF := hide (hf1.step_of (o := mk1 c) (by rw [mks_len]; exact hlt) (by rw [mks_at hlt, unhide hc]))
      have HK := hide (((unhide hkp).trans (Kept1.of_below hb1)).trans (kept1_setCells [.string (mk1 c).s, .int .i64 (mk1 c).k, .int .i64 (mk1 c).l, .int .i64 (mk1 c).sd] (n * 4) w1))
      clear hf1 hf hkp hb1
      go_wp2_with fail
      refine ⟨⟨n + 1, c + 4, by omega, by go_num, by go_num, by omega, ?_, hide ?_, HF, HK⟩, by simp [intOf]; omega⟩
      · have := unhide hc; omega
      · have := unhide hc; omega
    · have hnn : n = xs.length := by omega
      have HF : Filled wr g (mks k xs.length) xs.length := by
        have := unhide hf
        rw [hnn] at this
        exact this
      have HF' := hide HF
      clear HF hnn
      go_wp2
      go_ret
      exact ⟨ret_int (by have := unhide hc; omega), unhide HF', unhide hkp⟩
end Go.Proofs.YtokabkhnidlcnabGreatDoor
