/-
  Walk: the specification's Render.
-/
import Derived.Test.YtokabkhnidlcnabRendM
namespace Go.Proofs.Ytokabkhnidlcnab
set_option maxRecDepth 100000
open Go.RowKit

set_option maxRecDepth 100000 in
set_option maxHeartbeats 4000000 in
theorem specRender_any (b off cap : Nat) (xs : List TokR) (w : World) (hm : xs.length + totToT xs xs.length ≤ 1048576) (hw : OpsT w b off xs) (hB : b < w.heap.size) :
    Calls Try.prog 23 #[.slice (some ⟨b, off, none⟩) xs.length cap] w fun e w' => e = .returned (.string ⟨(rendTo xs xs.length).toArray⟩) ∧ Below w.heap.size w w' := by
  obtain ⟨i0, hi, hz0, hz1, hz2⟩ := info_parts infoByte
  have HI := hide hi
  have HZ := hide (And.intro hz0 (And.intro hz1 hz2))
  have HW := hide hw
  have HO := hide (show (w.alloc (.cells #[] 5)).ownsRow w.heap.size 5 1 (.slice (some ⟨w.heap.size, 0, none⟩) 0 0) 0 (cellsB (rendTo xs 0)) by
    show (w.alloc (.cells #[] 5)).ownsRow w.heap.size 5 1 (.slice (some ⟨w.heap.size, 0, none⟩) 0 0) 0 []
    simpa using World.ownsRow_lit (base := w.heap.size) (e := 5) (size := 1) w #[] 0 (Nat.le_refl _) (Nat.zero_le _) rfl)
  clear hi hz0 hz1 hz2 hw
  go_enter Try.func23, Try.ntmps23
  go_wp2
  go_loopw [3, 4] (fun out i wr => ∃ (k go co n : Nat), k ≤ xs.length ∧ i = .int .i64 (k : Int) ∧ out = .slice (some ⟨go, 0, none⟩) n co ∧ Hid (n = (rendTo xs k).length) ∧ Hid (wr.ownsRow w.heap.size 5 1 (.slice (some ⟨go, 0, none⟩) n co) n (cellsB (rendTo xs k))) ∧ Below w.heap.size w wr) (fun _ i _ => xs.length - (intOf i).toNat)
  case atStart => exact ⟨0, w.heap.size, 0, 0, Nat.zero_le _, rfl, rfl, hide rfl, HO, below1 _ _⟩
  case round =>
    clear HO
    obtain ⟨k, go, co, n, hk, rfl, rfl, hn, hown, hbel⟩ := hrel
    by_cases hlt : k < xs.length
    · have hcell := ((unhide HW) k hlt).below hbel hB
      obtain ⟨a0, a1, a2⟩ := hcell
      have hnn := (unhide hn).trans (rend_len xs k)
      have htk : totToT xs (k + 1) ≤ totToT xs xs.length := tot_mono xs _ _ (by omega)
      simp only [totToT, totT] at htk
      obtain ⟨c1, w1, hrun1, hnew1, hb1⟩ := conv_bytes wr (atT xs k).g
      have HN1 := hide hnew1
      have HB1 := hide hb1
      have b2 := (hb1.cell (p := ⟨b, off + k * 3 + 2, none⟩) (Nat.lt_of_lt_of_le hB hbel.size)).trans a2
      have hown1 := hide ((unhide hown).kept (grown_bel hb1 none) (Or.inr (by simp [Value.ownBlock])))
      have hbel1 := hbel.trans (hb1.mono hbel.size)
      have HNN := hide hnn
      have hnb : n + (atT xs k).g.size + (atT xs k).t.size ≤ 1048576 := by omega
      clear hnew1 hb1 hown hnn htk hbel a2
      go_wp2_with (at_builtin; refine wpList_append_own _ rfl (.tmp 12) (.tmp 18) 93 rfl w.heap.size 5 i0 _ 1 1 Try.underlying93 (unhide HI) (unhide HZ).1 (unhide HZ).2.1 (unhide HZ).2.2 rfl (by decide) _ n (cellsB (rendTo xs k)) rfl (unhide hown1) ⟨wr.heap.size, 0, none⟩ (atT xs k).g.size c1 (cellsB (atT xs k).g.data.toList) rfl (by rw [cellsB_len]; simp) (unhide HN1) (cellsB_one _) ?b1 ?b2 ?b3 ?next)
      case b1 => unfold maxLen; omega
      case b2 => omega
      case b3 => exact hbel1.size
      case next =>
        intro v2 w2 hown2 hgrow2 hnil2
        have hgo := (unhide hown1).lt go rfl
        have hbel2 : Below w.heap.size w w2 := hbel1.grown hgrow2 hbel1.size (fun q hq => by simp [Value.ownBlock] at hq; omega)
        obtain ⟨g2, q2, rfl⟩ := owns_bval hown2 (by simp [hnil2])
        rw [← cellsB_append] at hown2
        have d2 : w2.cell? ⟨b, off + k * 3 + 2, none⟩ = some (.string (atT xs k).t) := hgrow2.cell b2 (by simp [Value.ownBlock]; omega)
        obtain ⟨c3, w3, hrun3, hnew3, hb3⟩ := conv_bytes w2 (atT xs k).t
        have HN3 := hide hnew3
        have hown3 := hide (hown2.kept (grown_bel hb3 none) (Or.inr (by simp [Value.ownBlock])))
        have hbel3 := hbel2.trans (hb3.mono hbel2.size)
        clear hown2 hgrow2 hnil2 hown1 HN1 HB1 hnew3 hb3 b2 hrun1 a0 a1
        go_wp2_with (at_builtin; refine wpList_append_own _ rfl (.tmp 20) (.tmp 26) 93 rfl w.heap.size 5 i0 _ 1 1 Try.underlying93 (unhide HI) (unhide HZ).1 (unhide HZ).2.1 (unhide HZ).2.2 rfl (by decide) _ (n + (atT xs k).g.size) _ rfl (unhide hown3) ⟨w2.heap.size, 0, none⟩ (atT xs k).t.size c3 (cellsB (atT xs k).t.data.toList) rfl (by rw [cellsB_len]; simp) (unhide HN3) (cellsB_one _) ?b1 ?b2 ?b3 ?next)
        case b1 => unfold maxLen; omega
        case b2 => omega
        case b3 => exact hbel3.size
        case next =>
          intro v4 w4 hown4 hgrow4 hnil4
          have hg2 := (unhide hown3).lt g2 rfl
          have hbel4 : Below w.heap.size w w4 := hbel3.grown hgrow4 hbel3.size (fun q hq => by simp [Value.ownBlock] at hq; omega)
          obtain ⟨g4, q4, rfl⟩ := owns_bval hown4 (by simp [hnil4])
          rw [← cellsB_append] at hown4
          have HO4 := hide (show w4.ownsRow w.heap.size 5 1 (.slice (some ⟨g4, 0, none⟩) (n + (atT xs k).g.size + (atT xs k).t.size) q4) (n + (atT xs k).g.size + (atT xs k).t.size) (cellsB (rendTo xs (k + 1))) from hown4)
          have HL4 := hide (show n + (atT xs k).g.size + (atT xs k).t.size = (rendTo xs (k + 1)).length by rw [rend_len]; have := unhide HNN; simp only [totToT, totT]; omega)
          clear hown4 hgrow4 hnil4 hown3 HN3 HNN hn
          go_wp2
          exact ⟨⟨k + 1, g4, q4, _, by omega, by go_num, rfl, HL4, HO4, hbel4⟩, by simp [intOf]; omega⟩
    · have hkx : k = xs.length := by omega
      have hcv := conv_string wr go n co (rendTo xs k) (unhide hn) (owns_bcells (unhide hown))
      have HK := hide hkx
      clear hkx
      go_wp2
      go_ret
      exact ⟨ret_str (by rw [unhide HK]), hbel⟩
end Go.Proofs.Ytokabkhnidlcnab
