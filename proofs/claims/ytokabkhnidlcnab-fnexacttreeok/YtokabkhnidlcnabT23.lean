import Derived.Test.YtokabkhnidlcnabT00
import Derived.Test.YtokabkhnidlcnabT02

/-
  Walks: marks. What markText gives is a function of its number.
-/
namespace Go.Proofs.Ytokabkhnidlcnab
set_option maxRecDepth 100000
open Go.RowKit

/-- The digits of k ahead of what is there already; f: fuel. -/
def digs : Nat → Nat → List UInt8 → List UInt8
  | 0, _, out => out
  | f + 1, k, out => if k = 0 then out else digs f (k / 10) ((48 + UInt8.ofNat (k % 10)) :: out)

/-- The text of a mark. -/
def MT (k : Nat) : ByteArray := ⟨(109 :: digs 20 k []).toArray⟩

theorem digs_len : ∀ (f k : Nat) (out : List UInt8), (digs f k out).length ≤ out.length + f
  | 0, _, _ => Nat.le_refl _
  | f + 1, k, out => by
    unfold digs
    split
    · omega
    · have := digs_len f (k / 10) ((48 + UInt8.ofNat (k % 10)) :: out)
      simp only [List.length_cons] at this
      omega

theorem MT_size (k : Nat) : (MT k).size ≤ 21 := by
  have := digs_len 20 k []
  show (109 :: digs 20 k []).toArray.size ≤ 21
  simp at *
  omega

theorem MT_max (k : Nat) : (MT k).size ≤ maxLen := by
  have := MT_size k
  unfold maxLen
  omega

theorem conv1 (W : World) (c : Int) : (convert 93 9 (.slice (some ⟨W.heap.size, 0, none⟩) 1 1)).run Try.prog (W.alloc (.cells #[.int .u8 c] 5)) = .ok (.string ⟨#[UInt8.ofNat c.toNat]⟩) (W.alloc (.cells #[.int .u8 c] 5)) := by
  rw [run_convert_bytes_string _ 93 9 5 _ _ _ Try.underlying93 Try.underlying5 Try.underlying9]
  have hl : (loadCells ⟨W.heap.size, 0, none⟩ 1).run Try.prog (W.alloc (.cells #[.int .u8 c] 5)) = .ok ([c].map (Value.int .u8)).toArray (W.alloc (.cells #[.int .u8 c] 5)) :=
    run_loadCells_list (P := Try.prog) _ ⟨W.heap.size, 0, none⟩ [.int .u8 c] (fun j v hv => by
      match j, hv with
      | 0, hv => simp at hv; subst hv; simp [Addr.add, go_sem])
  rw [run_bytesToString _ ⟨W.heap.size, 0, none⟩ 1 1 [c] hl]
  rfl

theorem cat_bytes (l l' : List UInt8) : (ByteArray.mk l.toArray ++ ByteArray.mk l'.toArray) = ByteArray.mk (l ++ l').toArray := by
  apply ByteArray.ext
  simp

set_option maxRecDepth 100000 in
set_option maxHeartbeats 1000000 in
theorem markText_any (k : Nat) (w : World) (h0 : 1 ≤ k) (h1 : k ≤ 1000000000) :
    Calls Try.prog 56 #[.int .i64 (k : Int)] w fun e w' => e = .returned (.string (MT k)) ∧ Below w.heap.size w w' := by
  have hk0 : (0 : Int) < (k : Int) := by omega
  go_enter Try.func56, Try.ntmps56
  go_wp2
  go_loopw [0, 3] (fun kk out wr => ∃ (n f : Nat) (l : List UInt8), kk = .int .i64 (n : Int) ∧ out = .string ⟨l.toArray⟩ ∧ n ≤ 1000000000 ∧ l.length + f ≤ 20 ∧ Hid (n < 10 ^ f) ∧ Hid (digs f n l = digs 20 k []) ∧ Below w.heap.size w wr) (fun kk _ _ => (intOf kk).toNat)
  case atStart => exact ⟨k, 20, [], rfl, rfl, h1, by simp, hide (by omega), hide rfl, Below.refl _ _⟩
  case round =>
    obtain ⟨n, f, l, rfl, rfl, hn, hlf, hnf, hd, hbel⟩ := hrel
    by_cases hn0 : 0 < n
    · have hn0' : (0 : Int) < (n : Int) := by omega
      obtain ⟨f', rfl⟩ : ∃ f', f = f' + 1 := by
        cases f with
        | zero => exact absurd (unhide hnf) (by simp; omega)
        | succ f' => exact ⟨f', rfl⟩
      have hcv := fun W c => conv1 W c
      go_wp2
      refine ⟨⟨n / 10, f', (48 + UInt8.ofNat (n % 10)) :: l, by simp, ?_, by omega, by simp; omega, hide ?_, hide ?_, hbel.alloc hbel.size _⟩, by simp [intOf]; omega⟩
      · show Value.string (ByteArray.mk [48 + UInt8.ofNat (n % 10)].toArray ++ ByteArray.mk l.toArray) = _
        rw [cat_bytes]
        rfl
      · have := unhide hnf
        rw [Nat.pow_succ] at this
        omega
      · have := unhide hd
        unfold digs at this
        rw [if_neg (by omega)] at this
        exact this
    · have hn00 : n = 0 := by omega
      go_wp2
      go_ret
      refine ⟨?_, hbel⟩
      have e : l = digs 20 k [] := by
        rw [← unhide hd, hn00]
        cases f <;> simp [digs]
      show Ending.returned (.string (ByteArray.mk [109].toArray ++ ByteArray.mk l.toArray)) = _
      rw [cat_bytes, e]
      rfl

theorem markText_int (x : Int) (k : Nat) (w : World) (hx : x = (k : Int)) (h0 : 1 ≤ k) (h1 : k ≤ 1000000000) :
    Calls Try.prog 56 #[.int .i64 x] w fun e w' => e = .returned (.string (MT k)) ∧ Below w.heap.size w w' := by
  subst hx
  exact markText_any k w h0 h1
end Go.Proofs.Ytokabkhnidlcnab

/-
  Lists of Node in memory: the helpers of the laws over them. Written by wip/shape.py, parted by hand.
-/
namespace Go.Proofs.Ytokabkhnidlcnab
set_option maxRecDepth 100000
open Go.RowKit

set_option maxHeartbeats 400000 in
theorem szN_any (o : NodeR) (left : Int) (w : World) (hs0 : o.t.size ≤ maxLen) (h0 : 0 ≤ left) (h1 : left ≤ 1048576) :
    Calls Try.prog 97 #[.agg #[.int .i64 o.k, .string o.t, .int .i64 o.a, .int .i64 o.b], .int .i64 left] w fun e w' => (∃ r, e = .returned (.int .i64 r) ∧ (r < 0 ∨ (0 ≤ r ∧ r + totN o = left))) ∧ Below w.heap.size w w' := by
  unfold maxLen at hs0
  by_cases c0 : left < o.t.size
  · go_enter Try.func97, Try.ntmps97
    go_wp2
    go_ret
    exact ⟨⟨-1, rfl, Or.inl (by omega)⟩, below1 _ _⟩
  go_enter Try.func97, Try.ntmps97
  go_wp2
  go_ret
  exact ⟨⟨_, rfl, Or.inr (by unfold totN; omega)⟩, below1 _ _⟩

/-- What is left behind a list. -/
def LeftN (left r : Int) (xs : List NodeR) : Prop := r < 0 ∨ (0 ≤ r ∧ r + xs.length + totToN xs xs.length = left)

set_option maxHeartbeats 1000000 in
theorem szNS_any (a : Option Addr) (cap : Nat) (xs : List NodeR) (left : Int) (w : World) (hm : xs.length ≤ maxLen) (hw : ArgN w a xs) (hs : SizedN xs) (hl0 : 0 ≤ left) (hl1 : left ≤ 1048576) :
    Calls Try.prog 64 #[.slice a xs.length cap, .int .i64 left] w fun e w' => (∃ r, e = .returned (.int .i64 r) ∧ LeftN left r xs) ∧ Below w.heap.size w w' := by
  unfold maxLen at hm
  by_cases hneg : left < xs.length
  · go_enter Try.func64, Try.ntmps64
    go_wp2
    go_ret
    exact ⟨⟨-1, rfl, Or.inl (by omega)⟩, Below.refl _ _⟩
  rcases hw with h0 | ⟨b, off, rfl, hw, hB⟩
  · have ht : totToN xs xs.length = 0 := by rw [h0]; rfl
    have HT := hide ht
    clear ht
    go_enter Try.func64, Try.ntmps64
    go_wp2
    refine wp_loop_rounds 1 ?_
    rw [rounds_succ]
    go_wp2
    go_ret
    exact ⟨⟨_, rfl, Or.inr (by have := unhide HT; omega)⟩, Below.refl _ _⟩
  · go_enter Try.func64, Try.ntmps64
    go_wp2
    go_loopw [1, 5] (fun lf i wr => ∃ (k : Nat) (r : Int), k ≤ xs.length ∧ i = .int .i64 k ∧ lf = .int .i64 r ∧ 0 ≤ r ∧ r ≤ 1048576 ∧ Hid (r + xs.length + totToN xs k = left) ∧ Below w.heap.size w wr) (fun _ i _ => xs.length - (intOf i).toNat)
    case atStart => exact ⟨0, _, Nat.zero_le _, rfl, rfl, by omega, by omega, hide (by simp only [totToN]; omega), Below.refl _ _⟩
    case round =>
      obtain ⟨k, r, hk, rfl, rfl, hr0, hr1, ht, hbel⟩ := hrel
      by_cases hlt : k < xs.length
      · obtain ⟨h0, h1, h2, h3⟩ := (hw k hlt).below hbel hB
        go_wp2_with fail
        refine (szN_any (atN xs k) r _ (hs k hlt) hr0 hr1).mono ?_
        rintro e w1 ⟨⟨r1, rfl, hr⟩, hb1⟩
        by_cases hneg1 : r1 < 0
        · go_wp2_with fail
          go_ret
          exact ⟨⟨-1, rfl, Or.inl (by omega)⟩, hbel.trans (hb1.mono hbel.size)⟩
        · have h01 : 0 ≤ r1 := by omega
          have hR := hide (show r1 + totN (atN xs k) = r by omega)
          have h11 : r1 ≤ 1048576 := by have := unhide hR; omega
          clear hr
          go_wp2_with fail
          exact ⟨⟨k + 1, r1, by omega, by go_num, rfl, h01, h11, hide (by have a := unhide ht; have b := unhide hR; simp only [totToN]; omega), hbel.trans (hb1.mono hbel.size)⟩, by simp [intOf]; omega⟩
      · have hkx : k = xs.length := by omega
        have HT := hide (show r + xs.length + totToN xs xs.length = left by have := unhide ht; rw [hkx] at this; exact this)
        clear ht hkx
        go_wp2
        go_ret
        exact ⟨⟨_, rfl, Or.inr ⟨hr0, unhide HT⟩⟩, hbel⟩

theorem toN_any (o : NodeR) (w : World) :
    Calls Try.prog 103 #[.agg #[.int .i64 o.k, .string o.t, .int .i64 o.a, .int .i64 o.b]] w fun e w' => e = .returned (.agg #[.int .i64 o.k, .string o.t, .int .i64 o.a, .int .i64 o.b]) ∧ Below w.heap.size w w' := by
  go_enter Try.func103, Try.ntmps103
  go_wp2
  exact bodyPost_ret (v := .agg #[.int .i64 o.k, .string o.t, .int .i64 o.a, .int .i64 o.b]) (by simp [results, Try.results103, go_sem]) rfl ⟨rfl, (((Below.refl _ _).alloc (Nat.le_refl _) _).alloc (by simp) _).alloc (by simp; omega) _⟩

set_option maxHeartbeats 1000000 in
theorem toNS_any (a : Option Addr) (cap : Nat) (xs : List NodeR) (w : World) (hm : xs.length ≤ 1048576) (hw : ArgN w a xs) :
    Calls Try.prog 67 #[.slice a xs.length cap] w fun e w' => (∃ g, e = .returned (.slice (some ⟨g, 0, none⟩) xs.length xs.length) ∧ w.heap.size ≤ g ∧ FilledN w' g xs xs.length) ∧ Below w.heap.size w w' := by
  obtain ⟨inf, hi, hz⟩ := Option.map_eq_some_iff.1 infoN
  simp only [Prod.mk.injEq] at hz
  obtain ⟨hz, hsz, hby⟩ := hz
  have hmk : ∀ W : World, (Instr.makeSlice 56 (.int .i64 (xs.length : Int)) (.int .i64 (xs.length : Int))).run Try.prog W = .ok (.slice (some ⟨W.heap.size, 0, none⟩) xs.length xs.length) (W.alloc (.cells (madeCells #[.int .i64 0, .string ⟨#[]⟩, .int .i64 0, .int .i64 0] (xs.length * 4)) 115)) := by
    intro W
    have := run_make (P := Try.prog) W 56 115 inf _ Try.underlying56 hi hz .i64 .i64 xs.length xs.length (by omega) (Int.le_refl _) (by rw [hby]; omega) (by omega)
    simpa [hsz, Value.cells] using this
  clear hz hsz hby hi
  rcases hw with h0 | ⟨b, off, rfl, hw, hB⟩
  · obtain rfl := List.eq_nil_of_length_eq_zero h0
    have hmk0 : ∀ W : World, (Instr.makeSlice 56 (.int .i64 0) (.int .i64 0)).run Try.prog W = .ok (.slice (some ⟨W.heap.size, 0, none⟩) 0 0) (W.alloc (.cells #[] 115)) := fun W => by kernel_rfl
    clear hmk h0 hm
    go_enter Try.func67, Try.ntmps67
    go_wp2
    refine wp_loop_rounds 1 ?_
    rw [rounds_succ]
    go_wp2
    go_ret
    exact ⟨⟨w.heap.size, rfl, Nat.le_refl _, by simp, fun j hj => (by simp at hj), fun i hi => (by simp at hi)⟩, below1 _ _⟩
  · go_enter Try.func67, Try.ntmps67
    go_wp2
    go_loopw [4] (fun i wr => ∃ k : Nat, k ≤ xs.length ∧ i = .int .i64 k ∧ FilledN wr w.heap.size xs k ∧ Below w.heap.size w wr) (fun i _ => xs.length - (intOf i).toNat)
    case atStart => exact ⟨0, Nat.zero_le _, rfl, ⟨by simp, made_thereN _ _ _ _, fun i hi => by omega⟩, below1 _ _⟩
    case round =>
      obtain ⟨k, hk, rfl, hfil, hbel⟩ := hrel
      by_cases hlt : k < xs.length
      · obtain ⟨h0, h1, h2, h3⟩ := (hw k hlt).below hbel hB
        go_wp2_with fail
        refine (toN_any (atN xs k) _).mono ?_
        rintro e w1 ⟨rfl, hb⟩
        have hfil1 := hfil.below hb hfil.1
        obtain ⟨⟨e0, f0⟩, ⟨e1, f1⟩, ⟨e2, f2⟩, ⟨e3, f3⟩⟩ := fill_cellsN hfil1 hlt
        obtain ⟨v0, e0⟩ := e0
        obtain ⟨v1, e1⟩ := e1
        obtain ⟨v2, e2⟩ := e2
        obtain ⟨v3, e3⟩ := e3
        have HF := hide (hfil1.step hlt)
        have HB := hide (below_setCells (Nat.le_refl w.heap.size) [.int .i64 (atN xs k).k, .string (atN xs k).t, .int .i64 (atN xs k).a, .int .i64 (atN xs k).b] (k * 4) w1 (hbel.trans (hb.mono hbel.size)))
        clear hfil1 hfil
        go_wp2_with fail
        exact ⟨⟨k + 1, by omega, by go_num, unhide HF, unhide HB⟩, by simp [intOf]; omega⟩
      · go_wp2
        go_ret
        have : k = xs.length := by omega
        exact ⟨⟨w.heap.size, rfl, Nat.le_refl _, this ▸ hfil⟩, hbel⟩

set_option maxHeartbeats 400000 in
theorem eqN_same (o : NodeR) (w : World) :
    Calls Try.prog 108 #[.agg #[.int .i64 o.k, .string o.t, .int .i64 o.a, .int .i64 o.b], .agg #[.int .i64 o.k, .string o.t, .int .i64 o.a, .int .i64 o.b]] w fun e w' => e = .returned (.bool true) ∧ Below w.heap.size w w' := by
  go_enter Try.func108, Try.ntmps108
  go_wp2
  go_ret
  exact ⟨rfl, (below1 _ _).alloc (by simp) _⟩

set_option maxHeartbeats 1000000 in
theorem eqNS_same (b off b' off' cap cap' : Nat) (xs : List NodeR) (w : World) (hm : xs.length ≤ 1048576) (h : OpsN w b off xs) (h' : OpsN w b' off' xs) (hB : b < w.heap.size) (hB' : b' < w.heap.size) :
    Calls Try.prog 70 #[.slice (some ⟨b, off, none⟩) xs.length cap, .slice (some ⟨b', off', none⟩) xs.length cap'] w fun e w' => e = .returned (.bool true) ∧ Below w.heap.size w w' := by
  go_enter Try.func70, Try.ntmps70
  go_wp2
  go_loopw [5] (fun i wr => ∃ k : Nat, k ≤ xs.length ∧ i = .int .i64 k ∧ Below w.heap.size w wr) (fun i _ => xs.length - (intOf i).toNat)
  case atStart => exact ⟨0, Nat.zero_le _, rfl, Below.refl _ _⟩
  case round =>
    obtain ⟨k, hk, rfl, hbel⟩ := hrel
    by_cases hlt : k < xs.length
    · obtain ⟨a0, a1, a2, a3⟩ := (h k hlt).below hbel hB
      obtain ⟨c0, c1, c2, c3⟩ := (h' k hlt).below hbel hB'
      have hltI : (k : Int) < (xs.length : Int) := by omega
      have zb : b < wr.heap.size := Nat.lt_of_lt_of_le hB hbel.size
      have zb' : b' < wr.heap.size := Nat.lt_of_lt_of_le hB' hbel.size
      go_wp2_with fail
      go_region_held (fun w' => w'.cell? ⟨b, off + k * 4, none⟩ = some (.int .i64 (atN xs k).k) ∧ w'.cell? ⟨b, off + k * 4 + 1, none⟩ = some (.string (atN xs k).t) ∧ w'.cell? ⟨b, off + k * 4 + 2, none⟩ = some (.int .i64 (atN xs k).a) ∧ w'.cell? ⟨b, off + k * 4 + 3, none⟩ = some (.int .i64 (atN xs k).b) ∧ w'.cell? ⟨b', off' + k * 4, none⟩ = some (.int .i64 (atN xs k).k) ∧ w'.cell? ⟨b', off' + k * 4 + 1, none⟩ = some (.string (atN xs k).t) ∧ w'.cell? ⟨b', off' + k * 4 + 2, none⟩ = some (.int .i64 (atN xs k).a) ∧ w'.cell? ⟨b', off' + k * 4 + 3, none⟩ = some (.int .i64 (atN xs k).b)) (go_keep)
        (first | (go_at_call 108; refine (eqN_same (atN xs k) _).mono ?_; rintro e w1 ⟨rfl, hb1⟩; have q0 := (hb1.cell (p := ⟨b, off + k * 4, none⟩) zb).trans (show wr.drew.cell? ⟨b, off + k * 4, none⟩ = _ from a0); have q1 := (hb1.cell (p := ⟨b, off + k * 4 + 1, none⟩) zb).trans (show wr.drew.cell? ⟨b, off + k * 4 + 1, none⟩ = _ from a1); have q2 := (hb1.cell (p := ⟨b, off + k * 4 + 2, none⟩) zb).trans (show wr.drew.cell? ⟨b, off + k * 4 + 2, none⟩ = _ from a2); have q3 := (hb1.cell (p := ⟨b, off + k * 4 + 3, none⟩) zb).trans (show wr.drew.cell? ⟨b, off + k * 4 + 3, none⟩ = _ from a3); have p0 := (hb1.cell (p := ⟨b', off' + k * 4, none⟩) zb').trans (show wr.drew.cell? ⟨b', off' + k * 4, none⟩ = _ from c0); have p1 := (hb1.cell (p := ⟨b', off' + k * 4 + 1, none⟩) zb').trans (show wr.drew.cell? ⟨b', off' + k * 4 + 1, none⟩ = _ from c1); have p2 := (hb1.cell (p := ⟨b', off' + k * 4 + 2, none⟩) zb').trans (show wr.drew.cell? ⟨b', off' + k * 4 + 2, none⟩ = _ from c2); have p3 := (hb1.cell (p := ⟨b', off' + k * 4 + 3, none⟩) zb').trans (show wr.drew.cell? ⟨b', off' + k * 4 + 3, none⟩ = _ from c3)))
      go_wp2
      exact ⟨⟨k + 1, by omega, by go_num, hbel.trans (((Below.refl _ _).drew.trans hb1).mono hbel.size)⟩, by simp [intOf]; omega⟩
    · go_wp2
      go_ret
      exact ⟨rfl, hbel⟩

set_option maxHeartbeats 1000000 in
theorem eqNS_arg (a a' : Option Addr) (cap cap' : Nat) (xs : List NodeR) (w : World) (hm : xs.length ≤ 1048576) (h : ArgN w a xs) (h' : ArgN w a' xs) :
    Calls Try.prog 70 #[.slice a xs.length cap, .slice a' xs.length cap'] w fun e w' => e = .returned (.bool true) ∧ Below w.heap.size w w' := by
  by_cases h0 : xs.length = 0
  · obtain rfl := List.eq_nil_of_length_eq_zero h0
    clear h h' h0 hm
    go_enter Try.func70, Try.ntmps70
    go_wp2
    refine wp_loop_rounds 1 ?_
    rw [rounds_succ]
    go_wp2
    go_ret
    exact ⟨rfl, Below.refl _ _⟩
  · rcases h with h | ⟨b, off, rfl, h1, h2⟩
    · exact absurd h h0
    · rcases h' with h' | ⟨b', off', rfl, h1', h2'⟩
      · exact absurd h' h0
      · exact eqNS_same b off b' off' cap cap' xs w hm h1 h1' h2 h2'

/-- The marks from k on. -/
def mkN (c : Nat) : NodeR := ⟨(c : Int), MT (c + 1), (c : Int) + 1 + 1, (c : Int) + 1 + 1 + 1⟩
def mksN (k n : Nat) : List NodeR := (List.range n).map fun i => mkN (k + 4 * i)
theorem mksN_len (k n : Nat) : (mksN k n).length = n := by simp [mksN]
theorem mksN_at {k n i : Nat} (h : i < n) : atN (mksN k n) i = mkN (k + 4 * i) := by simp [atN, mksN, h]

/-- n elements are whole; of the next one m cells hold what they must. -/
def PartN (w : World) (g : Nat) (xs : List NodeR) (n m : Nat) : Prop := FilledN w g xs n ∧ ∀ j v, j < m → [.int .i64 (atN xs n).k, .string (atN xs n).t, .int .i64 (atN xs n).a, .int .i64 (atN xs n).b][j]? = some v → w.cell? ⟨g, n * 4 + j, none⟩ = some v

theorem PartN.start {w : World} {g n : Nat} {xs : List NodeR} (h : FilledN w g xs n) : PartN w g xs n 0 := ⟨h, fun j _ hj => absurd hj (Nat.not_lt_zero j)⟩

theorem PartN.below {w w' : World} {g n m : Nat} {xs : List NodeR} {B : Nat} (h : PartN w g xs n m) (hb : Below B w w') (hB : g < B) : PartN w' g xs n m :=
  ⟨h.1.below hb hB, fun j v hj hv => (hb.cell (p := ⟨g, _, none⟩) hB).trans (h.2 j v hj hv)⟩

theorem PartN.set {w : World} {g n m : Nat} {xs : List NodeR} (h : PartN w g xs n m) (hn : n < xs.length) (hm : m < 4) {v : Value} (hv : [.int .i64 (atN xs n).k, .string (atN xs n).t, .int .i64 (atN xs n).a, .int .i64 (atN xs n).b][m]? = some v) : PartN (w.setCell ⟨g, n * 4 + m, none⟩ v) g xs n (m + 1) := by
  obtain ⟨⟨h1, h2, h3⟩, h4⟩ := h
  obtain ⟨u, hu⟩ := Option.isSome_iff_exists.1 (h2 (n * 4 + m) (by omega)).1
  rw [Nat.zero_add] at hu
  have oth : ∀ o, o ≠ n * 4 + m → (w.setCell ⟨g, n * 4 + m, none⟩ v).cell? ⟨g, o, none⟩ = w.cell? ⟨g, o, none⟩ := fun o ho => World.cell?_setCell_other _ _ _ _ (fun e => ho (by injection e with _ e; exact e.symm))
  refine ⟨⟨by simpa [World.setCell] using h1, fun j hj => ⟨?_, ?_⟩, fun i hi => ?_⟩, fun j u' hj hu' => ?_⟩
  · by_cases e : 0 + j = n * 4 + m
    · rw [e, World.cell?_setCell_same _ _ _ hu]; rfl
    · rw [oth _ e]; exact (h2 j hj).1
  · rw [World.frozen?_setCell]; exact (h2 j hj).2
  · obtain ⟨a0, a1, a2, a3⟩ := h3 i hi
    exact ⟨(oth _ (by omega)).trans a0, (oth _ (by omega)).trans a1, (oth _ (by omega)).trans a2, (oth _ (by omega)).trans a3⟩
  · by_cases e : j = m
    · subst e
      rw [hv] at hu'
      injection hu' with hu'
      subst hu'
      exact World.cell?_setCell_same _ _ _ hu
    · rw [oth _ (by omega)]
      exact h4 j u' (by omega) hu'

theorem PartN.done {w : World} {g n : Nat} {xs : List NodeR} (h : PartN w g xs n 4) : FilledN w g xs (n + 1) := by
  obtain ⟨⟨h1, h2, h3⟩, h4⟩ := h
  refine ⟨h1, h2, fun i hi => ?_⟩
  by_cases e : i = n
  · subst e
    exact ⟨by simpa using h4 0 _ (by omega) rfl, by simpa using h4 1 _ (by omega) rfl, by simpa using h4 2 _ (by omega) rfl, by simpa using h4 3 _ (by omega) rfl⟩
  · exact h3 i (by omega)

/-- The next cell may be written. -/
theorem PartN.cell {w : World} {g n m : Nat} {xs : List NodeR} (h : PartN w g xs n m) (hn : n < xs.length) (j : Nat) (hj : j < 4) : (∃ u, w.cell? ⟨g, n * 4 + j, none⟩ = some u) ∧ w.frozen? ⟨g, n * 4 + j, none⟩ = false := by
  have := h.1.2.1 (n * 4 + j) (by omega)
  rw [Nat.zero_add] at this
  exact ⟨Option.isSome_iff_exists.1 this.1, this.2⟩

/-- Nothing but one block has turned. -/
structure KeptN (w w' : World) (g : Nat) : Prop where
  os : w'.os = w.os
  tape : w'.tape = w.tape
  output : w'.output = w.output
  size : w.heap.size ≤ w'.heap.size
  block : ∀ i, i < w.heap.size → i ≠ g → w'.heap[i]? = w.heap[i]?

theorem KeptN.refl (w : World) (g : Nat) : KeptN w w g := ⟨rfl, rfl, rfl, Nat.le_refl _, fun _ _ _ => rfl⟩
theorem KeptN.trans {w w1 w2 : World} {g : Nat} (h : KeptN w w1 g) (h' : KeptN w1 w2 g) : KeptN w w2 g :=
  ⟨h'.os.trans h.os, h'.tape.trans h.tape, h'.output.trans h.output, Nat.le_trans h.size h'.size, fun i hi a => (h'.block i (Nat.lt_of_lt_of_le hi h.size) a).trans (h.block i hi a)⟩
theorem KeptN.below {w w1 w2 : World} {g : Nat} (h : KeptN w w1 g) (h' : Below w1.heap.size w1 w2) : KeptN w w2 g := h.trans ⟨h'.os, h'.tape, h'.output, h'.size, fun i hi _ => h'.block i hi⟩
theorem KeptN.set {w w1 : World} {g : Nat} (h : KeptN w w1 g) (o : Nat) (v : Value) : KeptN w (w1.setCell ⟨g, o, none⟩ v) g :=
  h.trans ⟨rfl, rfl, rfl, by simp [World.setCell], fun _ _ hi => Below.heap_setCell _ _ _ _ hi⟩
theorem KeptN.grown {w w' : World} {g : Nat} (h : KeptN w w' g) : w.grownBy w' (some g) := ⟨h.os, h.tape, h.output, h.size, fun i hi e => h.block i hi (fun x => e (by rw [x]))⟩

set_option maxRecDepth 100000 in
set_option maxHeartbeats 4000000 in
theorem markNS_any (g cap k : Nat) (xs : List NodeR) (w : World) (hm : xs.length ≤ 1048576) (h1 : 1 ≤ k) (hk : k ≤ 10000000) (hw : FilledN w g xs xs.length) :
    Calls Try.prog 74 #[.slice (some ⟨g, 0, none⟩) xs.length cap, .int .i64 (k : Int)] w fun e w' => (∃ k' : Nat, e = .returned (.int .i64 (k' : Int)) ∧ Hid (k' = k + 4 * xs.length)) ∧ Hid (FilledN w' g (mksN k xs.length) xs.length) ∧ Hid (KeptN w w' g) := by
  have hw0 := hide (hw.anew (mksN_len k xs.length).symm)
  clear hw
  go_enter Try.func74, Try.ntmps74
  go_wp2
  go_loopw [1, 5] (fun kk i wr => ∃ n c : Nat, n ≤ xs.length ∧ i = .int .i64 (n : Int) ∧ kk = .int .i64 (c : Int) ∧ 1 ≤ c ∧ c ≤ 100000000 ∧ Hid (c = k + 4 * n) ∧ Hid (FilledN wr g (mksN k xs.length) n) ∧ Hid (KeptN w wr g)) (fun _ i _ => xs.length - (intOf i).toNat)
  case atStart => exact ⟨0, k, Nat.zero_le _, rfl, rfl, h1, by omega, hide (by omega), hw0, hide (KeptN.refl _ _)⟩
  case round =>
    clear hw0
    obtain ⟨n, c, hn, rfl, rfl, hc1, hc2, hc, hf, hkp⟩ := hrel
    by_cases hlt : n < xs.length
    · have hln : n < (mksN k xs.length).length := by rw [mksN_len]; exact hlt
      have hat := hide (show atN (mksN k xs.length) n = mkN c by rw [mksN_at hlt, unhide hc])
      have hP0 := hide (PartN.start (unhide hf))
      have hgl := (unhide hf).1
      clear hf
      obtain ⟨⟨u0_0, e0_0⟩, f0_0⟩ := (unhide hP0).cell hln 0 (by omega)
      obtain ⟨⟨u0_1, e0_1⟩, f0_1⟩ := (unhide hP0).cell hln 1 (by omega)
      obtain ⟨⟨u0_2, e0_2⟩, f0_2⟩ := (unhide hP0).cell hln 2 (by omega)
      obtain ⟨⟨u0_3, e0_3⟩, f0_3⟩ := (unhide hP0).cell hln 3 (by omega)
      simp only [Nat.add_zero] at e0_0 f0_0
      have hP0x := hide ((unhide hP0).set hln (by omega) (m := 0) (v := .int .i64 ((c : Int))) (by rw [unhide hat]; rfl))
      have hkpx := hide ((unhide hkp).set (n * 4 + 0) (.int .i64 ((c : Int))))
      clear hP0 hkp
      go_wp2_with fail
      refine (markText_int _ (c + 1) _ (by omega) (by omega) (by omega)).mono ?_
      rintro e w1 ⟨rfl, hb1⟩
      have hP1 := hide ((unhide hP0x).below hb1 (unhide hP0x).1.1)
      have hK1 := hide ((unhide hkpx).below hb1)
      clear hP0x hkpx hb1 e0_0 f0_0 e0_1 f0_1 e0_2 f0_2 e0_3 f0_3
      obtain ⟨⟨u1_0, e1_0⟩, f1_0⟩ := (unhide hP1).cell hln 0 (by omega)
      obtain ⟨⟨u1_1, e1_1⟩, f1_1⟩ := (unhide hP1).cell hln 1 (by omega)
      obtain ⟨⟨u1_2, e1_2⟩, f1_2⟩ := (unhide hP1).cell hln 2 (by omega)
      obtain ⟨⟨u1_3, e1_3⟩, f1_3⟩ := (unhide hP1).cell hln 3 (by omega)
      simp only [Nat.add_zero] at e1_0 f1_0
      have hP1x := hide ((unhide hP1).set hln (by omega) (m := 1) (v := .string (MT (c + 1))) (by rw [unhide hat]; rfl))
      have hK1x := hide ((unhide hK1).set (n * 4 + 1) (.string (MT (c + 1))))
      clear hP1 hK1
      have hP1xx := hide ((unhide hP1x).set hln (by omega) (m := 2) (v := .int .i64 ((c : Int) + 1 + 1)) (by rw [unhide hat]; rfl))
      have hK1xx := hide ((unhide hK1x).set (n * 4 + 2) (.int .i64 ((c : Int) + 1 + 1)))
      clear hP1x hK1x
      have hP1xxx := hide ((unhide hP1xx).set hln (by omega) (m := 3) (v := .int .i64 ((c : Int) + 1 + 1 + 1)) (by rw [unhide hat]; rfl))
      have hK1xxx := hide ((unhide hK1xx).set (n * 4 + 3) (.int .i64 ((c : Int) + 1 + 1 + 1)))
      clear hP1xx hK1xx
      go_wp2_with fail
      refine ⟨⟨n + 1, c + 4, by omega, by go_num, by go_num, by omega, ?_, hide ?_, hide (unhide hP1xxx).done, hK1xxx⟩, by simp [intOf]; omega⟩
      · have := unhide hc; omega
      · have := unhide hc; omega
    · have hnn : n = xs.length := by omega
      have HF : FilledN wr g (mksN k xs.length) xs.length := by
        have := unhide hf
        rw [hnn] at this
        exact this
      have HF' := hide HF
      have HC := hide (show c = k + 4 * xs.length by have := unhide hc; omega)
      clear HF hnn hc
      go_wp2
      go_ret
      exact ⟨⟨c, rfl, HC⟩, HF', hkp⟩

set_option maxRecDepth 100000 in
set_option maxHeartbeats 4000000 in
theorem heldNS_any (g cap k n : Nat) (w : World) (hm : n ≤ 1048576) (h1 : 1 ≤ k) (hk : k ≤ 10000000) (hw : FilledN w g (mksN k n) n) :
    Calls Try.prog 75 #[.slice (some ⟨g, 0, none⟩) n cap, .int .i64 (k : Int)] w fun e w' => (∃ k' : Nat, e = .returned (.int .i64 (k' : Int)) ∧ Hid (k' = k + 4 * n)) ∧ Below w.heap.size w w' := by
  have hw0 := hide hw
  clear hw
  go_enter Try.func75, Try.ntmps75
  go_wp2
  go_loopw [1, 5] (fun kk i wr => ∃ m c : Nat, m ≤ n ∧ i = .int .i64 (m : Int) ∧ kk = .int .i64 (c : Int) ∧ 1 ≤ c ∧ c ≤ 100000000 ∧ Hid (c = k + 4 * m) ∧ Below w.heap.size w wr) (fun _ i _ => n - (intOf i).toNat)
  case atStart => exact ⟨0, k, Nat.zero_le _, rfl, rfl, h1, by omega, hide (by omega), Below.refl _ _⟩
  case round =>
    obtain ⟨m, c, hmn, rfl, rfl, hc1, hc2, hc, hbel⟩ := hrel
    by_cases hlt : m < n
    · have hcell := (((unhide hw0).2.2 m hlt).below hbel (unhide hw0).1)
      have hat : atN (mksN k n) m = mkN c := by rw [mksN_at hlt, unhide hc]
      have z0 : g < wr.heap.size := Nat.lt_of_lt_of_le (unhide hw0).1 hbel.size
      unfold CellsN at hcell
      rw [hat] at hcell
      simp only [mkN, Nat.zero_add] at hcell
      obtain ⟨q0_0, q0_1, q0_2, q0_3⟩ := hcell
      have hltI : (m : Int) < (n : Int) := by omega
      have B0 := hbel
      clear hat
      go_wp2_with fail
      go_region_held (fun w' => w'.cell? ⟨g, m * 4, none⟩ = some (.int .i64 ((c : Int))) ∧ w'.cell? ⟨g, m * 4 + 1, none⟩ = some (.string (MT (c + 1))) ∧ w'.cell? ⟨g, m * 4 + 2, none⟩ = some (.int .i64 ((c : Int) + 1 + 1)) ∧ w'.cell? ⟨g, m * 4 + 3, none⟩ = some (.int .i64 ((c : Int) + 1 + 1 + 1))) (go_keep)
        (first | (go_at_call 56; refine (markText_int _ (c + 1) _ (by omega) (by omega) (by omega)).mono ?_; rintro e w1 ⟨rfl, hb1⟩; have q1_0 := (hb1.cell (p := ⟨g, m * 4, none⟩) z0).trans (show wr.drew.cell? ⟨g, m * 4, none⟩ = _ from q0_0); have q1_1 := (hb1.cell (p := ⟨g, m * 4 + 1, none⟩) z0).trans (show wr.drew.cell? ⟨g, m * 4 + 1, none⟩ = _ from q0_1); have q1_2 := (hb1.cell (p := ⟨g, m * 4 + 2, none⟩) z0).trans (show wr.drew.cell? ⟨g, m * 4 + 2, none⟩ = _ from q0_2); have q1_3 := (hb1.cell (p := ⟨g, m * 4 + 3, none⟩) z0).trans (show wr.drew.cell? ⟨g, m * 4 + 3, none⟩ = _ from q0_3)))
      have z1 : g < w1.heap.size := Nat.lt_of_lt_of_le z0 hb1.size
      have B1 := B0.trans (((Below.refl wr.heap.size wr).drew.trans hb1).mono B0.size)
      clear q0_0 q0_1 q0_2 q0_3 hb1 z0
      go_wp2
      refine ⟨⟨m + 1, c + 4, by omega, by go_num, by go_num, by omega, ?_, hide ?_, B1⟩, by simp [intOf]; omega⟩
      · have := unhide hc; omega
      · have := unhide hc; omega
    · have HC := hide (show c = k + 4 * n by have := unhide hc; omega)
      clear hc
      go_wp2
      go_ret
      exact ⟨⟨c, rfl, HC⟩, hbel⟩

end Go.Proofs.Ytokabkhnidlcnab
