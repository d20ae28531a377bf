/-
  Walk: the program's Render, by a strings.Builder.
-/
import Derived.Test.YtokabkhnidlcnabRendM
import Derived.Test.YtokabkhnidlcnabBuilder
namespace Go.Proofs.Ytokabkhnidlcnab
set_option maxRecDepth 100000
open Go.RowKit

theorem bld_start (w : World) : Bld w.heap.size w.heap.size [] (w.alloc (.cells #[.pointer none, .slice none 0 0] 97)) :=
  Lib.IsBuilderF.of (Or.inl ⟨Nat.le_refl _, .slice none 0 0, heap_alloc_new w _, World.ownsRow_nil _ _ _ _, by simp [Value.ownBlock]⟩)

theorem Bld.alloc {B b : Nat} {l : List UInt8} {w : World} (h : Bld B b l w) (o : Obj) : Bld B b l (w.alloc o) := Lib.IsBuilderF.alloc h o

theorem bld_lt {B b : Nat} {l : List UInt8} {w : World} (h : Bld B b l w) : b < w.heap.size := by
  rcases h with h | h
  · exact h.lt
  · exact h.lt

set_option maxHeartbeats 4000000 in
theorem implRender_any (b off cap : Nat) (xs : List TokR) (w : World) (hm : xs.length + totToT xs xs.length ≤ 1048576) (hw : OpsT w b off xs) (hB : b < w.heap.size) :
    Calls Try.prog 25 #[.slice (some ⟨b, off, none⟩) xs.length cap] w fun e w' => e = .returned (.string ⟨(rendTo xs xs.length).toArray⟩) ∧ Below w.heap.size w w' := by
  have HW := hide hw
  have HO := hide (bld_start w)
  clear hw
  go_enter Try.func25, Try.ntmps25
  go_wp2
  go_loopw [8] (fun i wr => ∃ k : Nat, k ≤ xs.length ∧ i = .int .i64 (k : Int) ∧ Hid (Bld w.heap.size w.heap.size (rendTo xs k) wr) ∧ Below w.heap.size w wr) (fun i _ => xs.length - (intOf i).toNat)
  case atStart => exact ⟨0, Nat.zero_le _, rfl, HO, below1 _ _⟩
  case round =>
    clear HO
    obtain ⟨k, hk, rfl, hbl, hbel⟩ := hrel
    by_cases hlt : k < xs.length
    · obtain ⟨a0, a1, a2⟩ := ((unhide HW) k hlt).below hbel hB
      have hnn := rend_len xs k
      have htk : totToT xs (k + 1) ≤ totToT xs xs.length := tot_mono xs _ _ (by omega)
      simp only [totToT, totT] at htk
      have hl1 : (rendTo xs k).length + (atT xs k).g.size ≤ 1048576 := by omega
      have hl2 : (rendTo xs k ++ (atT xs k).g.data.toList).length + (atT xs k).t.size ≤ 1048576 := by
        rw [List.length_append]
        have : (atT xs k).g.data.toList.length = (atT xs k).g.size := by simp
        omega
      have HBL := hide ((unhide hbl).alloc (.cells #[.int .i64 (atT xs k).k, .string (atT xs k).g, .string (atT xs k).t] 79))
      have L1 := hide hl1
      have L2 := hide hl2
      have hblt := hide (show w.heap.size < wr.heap.size from bld_lt (unhide hbl))
      clear hnn htk hl1 hl2 hbl
      go_wp2_with fail
      refine (bldWrite_any _ _ _ _ _ (unhide HBL) (by have := unhide L1; omega) (by have := hbel.size; simp; omega)).mono ?_
      rintro e w1 ⟨⟨v, rfl⟩, hb1, hbe1, hk1⟩
      have HB1 := hide hb1
      have hz1 : wr.heap.size < w1.heap.size := by have := hbe1.size; simp at this; omega
      have ht : w1.heap[wr.heap.size]? = some (.cells #[.int .i64 (atT xs k).k, .string (atT xs k).g, .string (atT xs k).t] 79 (0, 0)) := hk1 _ _ (heap_alloc_new wr _) (by have := hbel.size; simp; have := (unhide hblt); omega) (by simp)
      have q2 : w1.cell? ⟨wr.heap.size, 2, none⟩ = some (.string (atT xs k).t) := by rw [Lib.cell_of_heap ht]; rfl
      have hbel1 : Below w.heap.size w w1 := (hbel.alloc hbel.size _).trans hbe1
      clear hb1 hk1 ht hbe1
      go_wp2_with fail
      refine (bldWrite_any _ _ _ _ _ (unhide HB1) (by have := unhide L2; omega) hbel1.size).mono ?_
      rintro e w2 ⟨⟨v2, rfl⟩, hb2, hbe2, _⟩
      have HB2 := hide (show Bld w.heap.size w.heap.size (rendTo xs (k + 1)) w2 from hb2)
      have hbel2 := hbel1.trans hbe2
      clear hb2 hbe2
      go_wp2
      exact ⟨⟨k + 1, by omega, by go_num, HB2, hbel2⟩, by simp [intOf]; omega⟩
    · have HK := hide (show k = xs.length by omega)
      go_wp2_with fail
      refine (bldString_any _ _ _ _ (unhide hbl) hbel.size).mono ?_
      rintro e w1 ⟨rfl, _, hbe1, _⟩
      go_wp2
      go_ret
      exact ⟨ret_str (by rw [unhide HK]), hbel.trans hbe1⟩
end Go.Proofs.Ytokabkhnidlcnab
