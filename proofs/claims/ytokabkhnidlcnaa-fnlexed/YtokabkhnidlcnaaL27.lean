import Derived.Test.YtokabkhnidlcnaaL11
import Derived.Test.YtokabkhnidlcnaaL13
import Derived.Test.YtokabkhnidlcnaaL14
import Derived.Test.YtokabkhnidlcnaaL20
import Derived.Test.YtokabkhnidlcnaaL21
import Derived.Test.YtokabkhnidlcnaaL22
import Derived.Test.YtokabkhnidlcnaaL24
import Derived.Test.YtokabkhnidlcnaaL25
import Derived.Test.YtokabkhnidlcnaaL26

/-
  Walk: the program's Render, by a strings.Builder.
-/
namespace Go.Proofs.Ytokabkhnidlcnaa
set_option maxRecDepth 100000
open Go.RowKit

theorem bld_start (w : World) : Bld w.heap.size w.heap.size [] (w.alloc (.cells #[.pointer none, .slice none 0 0] 76)) :=
  Lib.IsBuilderF.of (Or.inl ⟨Nat.le_refl _, .slice none 0 0, heap_alloc_new w _, World.ownsRow_nil _ _ _ _, by simp [Value.ownBlock]⟩)

theorem Bld.alloc {B b : Nat} {l : List UInt8} {w : World} (h : Bld B b l w) (o : Obj) : Bld B b l (w.alloc o) := Lib.IsBuilderF.alloc h o

theorem bld_lt {B b : Nat} {l : List UInt8} {w : World} (h : Bld B b l w) : b < w.heap.size := by
  rcases h with h | h
  · exact h.lt
  · exact h.lt

set_option maxHeartbeats 4000000 in
theorem implRender_any (b off cap : Nat) (xs : List TokR) (w : World) (hm : xs.length + totToT xs xs.length ≤ 1048576) (hw : OpsT w b off xs) (hB : b < w.heap.size) :
    Calls Try.prog 11 #[.slice (some ⟨b, off, none⟩) xs.length cap] w fun e w' => e = .returned (.string ⟨(rendTo xs xs.length).toArray⟩) ∧ Below w.heap.size w w' := by
  have HW := hide hw
  have HO := hide (bld_start w)
  clear hw
  go_enter Try.func11, Try.ntmps11
  go_wp2
  go_loopw [8] (fun i wr => ∃ k : Nat, k ≤ xs.length ∧ i = .int .i64 (k : Int) ∧ Hid (Bld w.heap.size w.heap.size (rendTo xs k) wr) ∧ Below w.heap.size w wr) (fun i _ => xs.length - (intOf i).toNat)
  case atStart => exact ⟨0, Nat.zero_le _, rfl, HO, below1 _ _⟩
  case round =>
    clear HO
    obtain ⟨k, hk, rfl, hbl, hbel⟩ := hrel
    by_cases hlt : k < xs.length
    · obtain ⟨a0, a1, a2⟩ := ((unhide HW) k hlt).below hbel hB
      have hnn := rend_len xs k
      have htk : totToT xs (k + 1) ≤ totToT xs xs.length := tot_mono xs _ _ (by omega)
      simp only [totToT, totT] at htk
      have hl1 : (rendTo xs k).length + (atT xs k).g.size ≤ 1048576 := by omega
      have hl2 : (rendTo xs k ++ (atT xs k).g.data.toList).length + (atT xs k).t.size ≤ 1048576 := by
        rw [List.length_append]
        have : (atT xs k).g.data.toList.length = (atT xs k).g.size := by simp
        omega
      have HBL := hide ((unhide hbl).alloc (.cells #[.int .i64 (atT xs k).k, .string (atT xs k).g, .string (atT xs k).t] 60))
      have L1 := hide hl1
      have L2 := hide hl2
      have hblt := hide (show w.heap.size < wr.heap.size from bld_lt (unhide hbl))
      clear hnn htk hl1 hl2 hbl
      go_wp2_with fail
      refine (bldWrite_any _ _ _ _ _ (unhide HBL) (by have := unhide L1; omega) (by have := hbel.size; simp; omega)).mono ?_
      rintro e w1 ⟨⟨v, rfl⟩, hb1, hbe1, hk1⟩
      have HB1 := hide hb1
      have hz1 : wr.heap.size < w1.heap.size := by have := hbe1.size; simp at this; omega
      have ht : w1.heap[wr.heap.size]? = some (.cells #[.int .i64 (atT xs k).k, .string (atT xs k).g, .string (atT xs k).t] 60 (0, 0)) := hk1 _ _ (heap_alloc_new wr _) (by have := hbel.size; simp; have := (unhide hblt); omega) (by simp)
      have q2 : w1.cell? ⟨wr.heap.size, 2, none⟩ = some (.string (atT xs k).t) := by rw [Lib.cell_of_heap ht]; rfl
      have hbel1 : Below w.heap.size w w1 := (hbel.alloc hbel.size _).trans hbe1
      clear hb1 hk1 ht hbe1
      go_wp2_with fail
      refine (bldWrite_any _ _ _ _ _ (unhide HB1) (by have := unhide L2; omega) hbel1.size).mono ?_
      rintro e w2 ⟨⟨v2, rfl⟩, hb2, hbe2, _⟩
      have HB2 := hide (show Bld w.heap.size w.heap.size (rendTo xs (k + 1)) w2 from hb2)
      have hbel2 := hbel1.trans hbe2
      clear hb2 hbe2
      go_wp2
      exact ⟨⟨k + 1, by omega, by go_num, HB2, hbel2⟩, by simp [intOf]; omega⟩
    · have HK := hide (show k = xs.length by omega)
      go_wp2_with fail
      refine (bldString_any _ _ _ _ (unhide hbl) hbel.size).mono ?_
      rintro e w1 ⟨rfl, _, hbe1, _⟩
      go_wp2
      go_ret
      exact ⟨ret_str (by rw [unhide HK]), hbel.trans hbe1⟩
end Go.Proofs.Ytokabkhnidlcnaa

/-
  Walk: the law FnLexed.
-/
namespace Go.Proofs.Ytokabkhnidlcnaa
set_option maxRecDepth 100000
set_option linter.unusedSimpArgs false
set_option linter.unusedVariables false
open Go.RowKit

theorem LexD.sized {bs : List UInt8} {xs : List OpR} {s : ByteArray} (h : LexD bs xs s) : xs.length ≤ 1048576 ∧ Sized xs := by
  obtain ⟨q, i, ⟨ys, p, ht, hc⟩, _⟩ := h
  obtain ⟨h1, h2⟩ := ht.len
  have h3 := Nat.mod_lt (nxt bs (adv bs 0)) (show 0 < 8 by decide)
  rcases hc with ⟨_, rfl, _⟩ | ⟨_, rfl, _⟩
  · obtain ⟨h4, h5⟩ := bad_sized h2 bs p
    exact ⟨by omega, fun i hi => by have := h5 i hi; unfold maxLen; omega⟩
  · exact ⟨by omega, fun i hi => by have := h2 i hi; unfold maxLen; omega⟩

set_option maxHeartbeats 4000000 in
theorem lawLexed (a : Option Addr) (cap : Nat) (l : List UInt8) (w : World) (hm : l.length ≤ maxLen) (hcap : l.length ≤ cap) (h : ArgY w a l) :
    Calls Try.prog 3 #[.slice a l.length cap] w fun e w' => e = .returned (.bool true) ∧ Below w.heap.size w w' := by
  have HA := hide h
  clear h
  by_cases hl : l.length ≤ 1048576
  case neg =>
    have hlI : (1048576 : Int) < (l.length : Int) := by omega
    unfold maxLen at hm
    go_enter Try.func3, Try.ntmps3
    go_wp2_with fail
    go_ret
    exact ⟨rfl, Below.refl _ _⟩
  have hlI : ¬ (1048576 : Int) < (l.length : Int) := by omega
  go_enter Try.func3, Try.ntmps3
  go_wp2_with fail
  refine (drawLex_any a cap l _ hl hcap (unhide HA)).mono ?_
  rintro e w1 ⟨⟨g1, c1, xs, s, rfl, hg1, hsz1, hF1, hD1⟩, hb1⟩
  obtain ⟨hxl, hxs⟩ := (unhide hD1).sized
  have hsm : s.size ≤ maxLen := by unfold maxLen; omega
  have HXS := hide hxs
  have hF1' := hide ((unhide hF1).below (below1 w1 (.cells #[.slice (some ⟨g1, 0, none⟩) xs.length c1] 25)) (unhide hF1).1)
  have bel1 : Below w.heap.size w (w1.alloc (.cells #[.slice (some ⟨g1, 0, none⟩) xs.length c1] 25)) := hb1.alloc hb1.size _
  clear hb1 hxs hF1
  go_wp2_with fail
  refine (specLex_any g1 0 c1 xs s _ hxl (unhide hF1').ops (unhide HXS) (unhide hF1').1 hsm).mono ?_
  rintro e w2 ⟨⟨g2, c2, us, v, rfl, hg2, hF2, hL2⟩, hb2⟩
  have HL2 := hide hL2
  have HF2 := hide hF2
  have HT2 := hide ((unhide hF1').below hb2 (unhide hF1').1)
  have t2 : w2.cell? ⟨w1.heap.size, 0, none⟩ = some (.slice (some ⟨g1, 0, none⟩) xs.length c1) := (hb2.cell (p := ⟨w1.heap.size, 0, none⟩) (by simp)).trans (by simp [go_sem])
  have bel2 := bel1.trans (hb2.mono bel1.size)
  clear hb2 hF2 hL2 hF1' bel1 hg2
  go_wp2_with fail
  refine (drawLex_any a cap l _ hl hcap (by
    rcases unhide HA with h | ⟨b, off, rfl, hb, hc⟩
    · exact Or.inl h
    · exact Or.inr ⟨b, off, rfl, Nat.lt_of_lt_of_le hb bel2.size, fun i hi => (bel2.cell (p := ⟨b, off + i, none⟩) hb).trans (hc i hi)⟩)).mono ?_
  rintro e w3 ⟨⟨g3, c3, xs', s', rfl, hg3, hsz3, hF3, hD3⟩, hb3⟩
  obtain ⟨rfl, rfl⟩ := (unhide hD3).one (unhide hD1)
  have HF3 := hide ((unhide hF3).below (below1 w3 (.cells #[.slice (some ⟨g3, 0, none⟩) xs'.length c3] 25)) (unhide hF3).1)
  have hbA := hb3.alloc hb3.size (.cells #[.slice (some ⟨g3, 0, none⟩) xs'.length c3] 25)
  have HU3 := hide ((unhide HF2).below hbA (unhide HF2).1)
  have HT3 := hide ((unhide HT2).below hbA (unhide HT2).1)
  have t3 := (hbA.cell (p := ⟨w1.heap.size, 0, none⟩) (block_lt_of_cell t2)).trans t2
  have bel3 := bel2.trans (hbA.mono bel2.size)
  clear hb3 hbA hF3 hD3 HF2 HT2 t2 bel2 hD1
  go_wp2_with fail
  refine (implLex_any g3 0 c3 xs' s' _ hxl (unhide HF3).ops (unhide HXS) (unhide HF3).1 hsm).mono ?_
  rintro e w4 ⟨⟨a4, c4, us', v', rfl, hO4, hL4⟩, hb4⟩
  obtain ⟨rfl, rfl⟩ := hL4.one (unhide HL2)
  have hvv : (v' != v') = false := by simp
  have HO4 := hide hO4
  have HU4 := hide ((unhide HU3).below hb4 (unhide HU3).1)
  have HT4 := hide ((unhide HT3).below hb4 (unhide HT3).1)
  have HF4 := hide ((unhide HF3).below hb4 (unhide HF3).1)
  have t4 := (hb4.cell (p := ⟨w1.heap.size, 0, none⟩) (block_lt_of_cell t3)).trans t3
  have q4 : w4.cell? ⟨w3.heap.size, 0, none⟩ = some (.slice (some ⟨g3, 0, none⟩) xs'.length c3) := (hb4.cell (p := ⟨w3.heap.size, 0, none⟩) (by simp)).trans (by simp [go_sem])
  have bel4 := bel3.trans (hb4.mono bel3.size)
  clear hb4 hO4 hL4 HU3 HT3 HF3 t3 bel3
  rcases unhide HL2 with ⟨hok, rfl, hLx⟩ | ⟨hno, rfl, rfl⟩
  case inr =>
    go_wp2_with fail
    go_ret
    exact ⟨rfl, bel4⟩
  obtain ⟨hre, hul, htt⟩ := lexed_all hLx
  have hs20 := hok.2
  have hul1 : us'.length ≤ 1048576 := by omega
  have hst : SizedT us' := fun i hi => by
    have h1 := tot_mono us' (i + 1) us'.length (by omega)
    have h2 : totToT us' (i + 1) = totToT us' i + totT (atT us' i) := rfl
    unfold totT at h2
    unfold maxLen
    omega
  have hul0 : 1 ≤ us'.length := by
    cases us' with
    | nil => exact hLx.elim
    | cons t r => simp
  obtain ⟨g4, rfl, hg4, hF4⟩ : ∃ g, a4 = some ⟨g, 0, none⟩ ∧ (w3.alloc (.cells #[.slice (some ⟨g3, 0, none⟩) xs'.length c3] 25)).heap.size ≤ g ∧ FilledT w4 g us' us'.length := by
    rcases unhide HO4 with ⟨h, _⟩ | h
    · omega
    · exact h
  have HG4 := hide hF4
  have HST := hide hst
  have HRE := hide hre
  clear HO4 hF4 hst hre hLx HL2
  go_wp2_with fail
  refine (specRoles_any g1 0 c1 g2 0 c2 xs' us' _ hxl hul1 (unhide HT4).ops (unhide HXS) (unhide HT4).1 (unhide HU4).ops (unhide HU4).1).mono ?_
  rintro e w5 ⟨⟨g5, c5, rs, pl, rfl, hg5, hF5, hR5⟩, hb5⟩
  have HR5 := hide hR5
  have HF5 := hide ((unhide HF4).below hb5 (unhide HF4).1)
  have HG5 := hide ((unhide HG4).below hb5 (unhide HG4).1)
  have q5 := (hb5.cell (p := ⟨w3.heap.size, 0, none⟩) (block_lt_of_cell q4)).trans q4
  have bel5 := bel4.trans (hb5.mono bel4.size)
  clear hb5 hR5 hF5 hg5 HF4 HG4 q4 bel4 HT4 HU4 t4
  go_wp2_with fail
  refine (implRoles_any g3 0 c3 g4 0 c4 xs' us' _ hxl hul1 (unhide HF5).ops (unhide HXS) (unhide HF5).1 (unhide HG5).ops (unhide HST) (unhide HG5).1).mono ?_
  rintro e w6 ⟨⟨a6, c6, rs', pl', rfl, hO6, hR6⟩, hb6⟩
  obtain ⟨rfl, rfl⟩ := hR6.one (unhide HR5)
  have HG6 := hide ((unhide HG5).below hb6 (unhide HG5).1)
  have bel6 := bel5.trans (hb6.mono bel5.size)
  clear hb6 hR6 hO6 HG5 HF5 q5 bel5 HR5
  go_wp2_with fail
  refine (implRender_any g4 0 c4 us' _ (by rw [htt]; omega) (unhide HG6).ops (unhide HG6).1).mono ?_
  rintro e w7 ⟨rfl, hb7⟩
  have bel7 := bel6.trans (hb7.mono bel6.size)
  rw [unhide HRE]
  clear hb7 HG6 bel6 HRE
  go_wp2_with fail
  go_ret
  exact ⟨by simp, bel7⟩
end Go.Proofs.Ytokabkhnidlcnaa
