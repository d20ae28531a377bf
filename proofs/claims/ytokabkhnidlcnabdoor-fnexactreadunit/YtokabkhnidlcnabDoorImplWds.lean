/-
  Walk: the words of a line, in the program (wordsOf).
-/
import Derived.Test.YtokabkhnidlcnabDoorLnRow
import Derived.Test.YtokabkhnidlcnabDoorLibUnit
namespace Go.Proofs.YtokabkhnidlcnabDoor
set_option maxRecDepth 100000
set_option linter.unusedSimpArgs false
set_option linter.unusedVariables false
open Go.RowKit

theorem RowS.mono {w : World} {B B' : Nat} {v : Value} {ws : List ByteArray} (h : RowS w B v ws) (hb : B' ≤ B) : RowS w B' v ws := by
  obtain ⟨h1, h2 | ⟨g, cap, cur, hv, hg, h3⟩⟩ := h
  · exact ⟨h1, Or.inl h2⟩
  · exact ⟨h1, Or.inr ⟨g, cap, cur, hv, Nat.le_trans hb hg, h3⟩⟩

theorem row_cells (w : World) (ps : List ByteArray) (k : Nat) (p : ByteArray) (h : ps[k]? = some p) : (w.alloc (.cells (ps.map Value.string).toArray 9)).cell? ⟨w.heap.size, k, none⟩ = some (.string p) := by
  have := World.rangeAt_of_block (w := w.alloc (.cells (ps.map Value.string).toArray 9)) (b := w.heap.size) (heap_alloc_new w _) 0 ps.length
  have h2 := this k (.string p) (by simp [List.getElem?_take, h, (List.getElem?_eq_some_iff.1 h).1]; exact (List.getElem?_eq_some_iff.1 h).2)
  simpa using h2

set_option maxHeartbeats 2000000 in
theorem wordsOf_any (s : ByteArray) (w : World) (hs : s.size ≤ 20000) (hm : MaxL w) :
    Calls Tryd.prog 13 #[.string s] w (WdsPost w s) := by
  obtain ⟨i0, hi0, hz0, hz1, hz2⟩ := info_parts' infoStr
  have HI := hide hi0
  have HZ := hide (And.intro hz0 (And.intro hz1 hz2))
  clear hi0 hz0 hz1 hz2
  go_enter Tryd.func13, Tryd.ntmps13
  go_wp2_with (go_at_call 25; refine (split_at' s hs w hm).mono ?_; rintro e w1 ⟨ps, HF, hpl, rfl, hw1⟩; have HC := hide (show ∀ k p, ps[k]? = some p → w1.cell? ⟨w.heap.size, k, none⟩ = some (.string p) from fun k p hk => (by rw [hw1]; exact row_cells w ps k p hk)); have HB0 := hide (show Below w.heap.size w w1 from (by rw [hw1]; exact below1 _ _)); have hz1 : w.heap.size + 1 ≤ w1.heap.size := (by rw [hw1]; simp); clear hw1)
  go_loopw [3, 9] (fun out i wr => ∃ (k : Nat) (us : List ByteArray) (v : Value), k ≤ ps.length ∧ i = .int .i64 (k : Int) ∧ out = v ∧ us.length ≤ k ∧ Hid (us = full (ps.take k)) ∧ Hid (RowS wr w1.heap.size v us) ∧ Below w1.heap.size w1 wr) (fun _ i _ => ps.length - (intOf i).toNat)
  case atStart => exact ⟨0, [], _, Nat.zero_le _, rfl, rfl, Nat.zero_le _, hide rfl, hide (World.ownsRow_nil _ _ _ _), Below.refl _ _⟩
  case round =>
    obtain ⟨k, us, v, hk, rfl, rfl, hul, HU, HR, hbel⟩ := hrel
    by_cases hlt : k < ps.length
    · have hltI : (k : Int) < (ps.length : Int) := by omega
      obtain ⟨p, hp⟩ : ∃ p, ps[k]? = some p := ⟨_, List.getElem?_eq_getElem hlt⟩
      have hc : wr.cell? ⟨w.heap.size, k, none⟩ = some (.string p) := (hbel.cell (p := ⟨w.heap.size, k, none⟩) (by show w.heap.size < w1.heap.size; omega)).trans ((unhide HC) k p hp)
      have HT := hide (full_take ps k p hp)
      by_cases h0 : 0 < p.size
      · have hne := not_empty (t := p) (by omega)
        have HT2 := hide (show full (ps.take (k + 1)) = us ++ [p] by rw [unhide HT, if_pos h0, unhide HU])
        clear hp HT h0
        go_wp2_with (at_builtin; refine wpList_append_own_at _ rfl (.tmp 15) (.tmp 17) 22 rfl w1.heap.size 9 i0 _ 1 16 Tryd.underlying22 (unhide HI) (unhide HZ).1 (unhide HZ).2.1 (unhide HZ).2.2 rfl (by decide) _ us.length (cellsS us) rfl ((unhide HR).below (below1 _ _)) ⟨wr.heap.size, 0, none⟩ 1 1 (cellsS [p]) rfl rfl (by simpa using new_newsS wr p) (cellsS_one' _) ?b1 ?b2 ?b3 ?next)
        case b1 => unfold maxLen; omega
        case b2 => omega
        case b3 => have := hbel.size; simp; omega
        case next =>
          intro v4 w4 hown4 hgrow4 hnil4 hat4
          have HO := hide (show RowS w4 w1.heap.size v4 (us ++ [p]) by
            unfold RowS
            rw [cellsS_append, List.length_append]
            exact hown4)
          have hbel4 : Below w1.heap.size w1 w4 := (hbel.alloc hbel.size _).grown hgrow4 (by have := hbel.size; simp; omega) (fun q hq => ((unhide HR).lt q hq).1)
          clear hown4 hgrow4 hnil4 hat4
          go_wp2
          exact ⟨⟨k + 1, us ++ [p], _, by omega, by go_num, rfl, by simp; omega, hide (unhide HT2).symm, HO, hbel4⟩, by simp [intOf]; omega⟩
      · obtain rfl := bytes_nil (t := p) (by omega)
        have HT2 := hide (show full (ps.take (k + 1)) = us by rw [unhide HT, if_neg h0, unhide HU, List.append_nil])
        clear hp HT h0
        go_wp2
        exact ⟨⟨k + 1, us, _, by omega, by go_num, rfl, by omega, hide (unhide HT2).symm, HR, hbel⟩, by simp [intOf]; omega⟩
    · have hkz : k = ps.length := by omega
      have HE := hide (show us = wds s by rw [unhide HU, hkz, List.take_length, unhide HF])
      clear hkz
      go_wp2
      go_ret
      have e := unhide HE
      subst e
      exact ⟨_, rfl, (unhide HR).mono (by omega), by omega, (unhide HB0).trans (hbel.mono (by omega))⟩
end Go.Proofs.YtokabkhnidlcnabDoor
