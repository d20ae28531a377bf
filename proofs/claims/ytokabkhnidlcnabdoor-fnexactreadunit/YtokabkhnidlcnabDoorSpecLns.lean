/-
  Walk: the lines of a text, in the specification (l5Lines).
-/
import Derived.Test.YtokabkhnidlcnabDoorLnRow
namespace Go.Proofs.YtokabkhnidlcnabDoor
set_option maxRecDepth 100000
set_option linter.unusedSimpArgs false
set_option linter.unusedVariables false
open Go.RowKit

/-- Where the lines begin and end. -/
def plc (ls : List LnR) : List (Nat × Nat) := ls.map fun l => (l.f, l.t)
theorem plc_append (a b : List LnR) : plc (a ++ b) = plc a ++ plc b := by simp [plc]

/-- The lines so far, in a walk over the places of a text. -/
def LInv (s : ByteArray) (k f : Nat) (ps : List (Nat × Nat)) : Prop :=
  (k ≤ s.size ∧ f ≤ k ∧ (∀ j, f ≤ j → j < k → bt s j ≠ 10) ∧ ps ++ pcs 10 s f = pcs 10 s 0) ∨ (k = s.size + 1 ∧ ps = pcs 10 s 0)

theorem LInv.start (s : ByteArray) : LInv s 0 0 [] := Or.inl ⟨Nat.zero_le _, Nat.le_refl _, fun j h1 h2 => by omega, rfl⟩

theorem LInv.skip {s : ByteArray} {k f : Nat} {us : List (Nat × Nat)} (h : LInv s k f us) (hk : k < s.size) (hb : bt s k ≠ 10) : LInv s (k + 1) f us := by
  rcases h with ⟨h1, h2, h3, h4⟩ | ⟨h1, _⟩
  · refine Or.inl ⟨by omega, by omega, fun j j1 j2 => ?_, h4⟩
    by_cases e : j = k
    · subst e; exact hb
    · exact h3 j j1 (by omega)
  · omega

theorem LInv.put {s : ByteArray} {k f : Nat} {us : List (Nat × Nat)} (h : LInv s k f us) (hk : k ≤ s.size) (hb : k = s.size ∨ bt s k = 10) : f ≤ k ∧ LInv s (k + 1) (k + 1) (us ++ [(f, k)]) := by
  rcases h with ⟨h1, h2, h3, h4⟩ | ⟨h1, _⟩
  · refine ⟨h2, ?_⟩
    have hx : nx 10 s f = k := nx_one (by omega) h2 h1 h3 (fun hl => hb.elim (fun e => by omega) (fun e => e))
    rw [pcs_step 10 s f (by omega), hx] at h4
    by_cases hl : k < s.size
    · rw [if_pos hl] at h4
      exact Or.inl ⟨by omega, Nat.le_refl _, fun j j1 j2 => by omega, by simpa using h4⟩
    · rw [if_neg hl] at h4
      exact Or.inr ⟨by omega, h4⟩
  · omega

theorem LInv.fin {s : ByteArray} {k f : Nat} {us : List (Nat × Nat)} (h : LInv s k f us) (hk : ¬ k ≤ s.size) : us = pcs 10 s 0 := by
  rcases h with ⟨h1, _⟩ | ⟨_, h⟩
  · omega
  · exact h

theorem empty_rowL (w : World) : RowL (w.alloc (.cells #[] 35)) w.heap.size (.slice (some ⟨w.heap.size, 0, none⟩) 0 0) [] := by
  have := World.ownsRow_lit (base := w.heap.size) (e := 35) (size := 3) w #[] 0 (Nat.le_refl _) (Nat.zero_le _) rfl
  simpa [RowL, cellsLn] using this

/-- What l5Lines answers. -/
def LnsPost (w : World) (s : ByteArray) (e : Ending) (w' : World) : Prop := ∃ (g c : Nat) (ls : List LnR), e = .returned (.slice (some ⟨g, 0, none⟩) ls.length c) ∧ w.heap.size ≤ g ∧ g < w'.heap.size ∧ Hid (OpsL w' g ls) ∧ Hid (∀ l ∈ ls, StrsAt w' l.wv (wds (s.extract l.f l.t))) ∧ Hid (plc ls = pcs 10 s 0) ∧ ls.length ≤ s.size + 1 ∧ Below w.heap.size w w'

set_option maxHeartbeats 4000000 in
theorem l5Lines_any (s : ByteArray) (w : World) (hs : s.size ≤ 20000) :
    Calls Tryd.prog 9 #[.string s] w (LnsPost w s) := by
  obtain ⟨i0, hi0, hz0, hz1, hz2⟩ := info_parts' infoLn
  have HI := hide hi0
  have HZ := hide (And.intro hz0 (And.intro hz1 hz2))
  clear hi0 hz0 hz1 hz2
  have HE := hide (empty_rowL w)
  go_enter Tryd.func9, Tryd.ntmps9
  go_wp2
  go_loopw [3, 4, 5] (fun out fr i wr => ∃ (k f g c : Nat) (ls : List LnR), k ≤ s.size + 1 ∧ f ≤ k ∧ i = .int .i64 (k : Int) ∧ fr = .int .i64 (f : Int) ∧ out = .slice (some ⟨g, 0, none⟩) ls.length c ∧ ls.length ≤ k ∧ Hid (LInv s k f (plc ls)) ∧ Hid (RowL wr w.heap.size (.slice (some ⟨g, 0, none⟩) ls.length c) ls) ∧ Hid (LnsOk wr s (.slice (some ⟨g, 0, none⟩) ls.length c) ls) ∧ Below w.heap.size w wr) (fun _ _ i _ => s.size + 1 - (intOf i).toNat)
  case atStart => exact ⟨0, 0, w.heap.size, 0, [], Nat.zero_le _, Nat.le_refl _, rfl, rfl, rfl, Nat.zero_le _, hide (LInv.start s), HE, hide (fun l hl => by cases hl), below1 _ _⟩
  case round =>
    clear HE
    obtain ⟨k, f, g, c, ls, hk, hf, rfl, rfl, rfl, hul, HW, HR, HL, hbel⟩ := hrel
    by_cases hle : k ≤ s.size
    · have hleI : (k : Int) ≤ (s.size : Int) := by omega
      by_cases hput : k = s.size ∨ bt s k = 10
      · obtain ⟨hfk, hp⟩ := (unhide HW).put hle hput
        have HP := hide hp
        have hcond : ((k : Int) == (s.size : Int)) = true ∨ (((k : Int) == (s.size : Int)) = false ∧ ∃ (h : k < s.size), ((s[k].toNat : Int) == 10) = true) := by
          by_cases e : k = s.size
          · left; simp [e]
          · right
            have hlt : k < s.size := by omega
            refine ⟨by simp; omega, hlt, ?_⟩
            have hb : bt s k = 10 := hput.elim (fun h => absurd h e) (fun h => h)
            rw [bt_get hlt, hb]; rfl
        clear hput hp
        have hfs : (f : Int) ≤ (k : Int) := by omega
        have hsz : (s.extract f k).size ≤ 20000 := by rw [size_ext]; omega
        have hg := ((unhide HR).lt g rfl).2
        rcases hcond with hc | ⟨hc, hlt, hc2⟩
        all_goals
          try have hltI : (k : Int) < (s.size : Int) := (by omega)
          go_wp2_with fail
          refine (l5Words_any (s.extract f k) _ hsz).mono ?_
          rintro e w1 ⟨nv, rfl, hr1, hl1, hb1⟩
          obtain ⟨a1, c1, rfl⟩ := rowS_slice hr1
          have HN := hide hr1.strs
          have HNB := hide (fun q e => hr1.lt q e)
          have HB1 := hide hb1
          have z1 := hb1.size
          clear hr1 hb1
          go_wp2_with (at_builtin; refine wpList_append_own_at _ rfl (.tmp 23) (.tmp 32) 31 rfl w.heap.size 35 i0 _ 3 40 Tryd.underlying31 (unhide HI) (unhide HZ).1 (unhide HZ).2.1 (unhide HZ).2.2 rfl (by decide) _ ls.length (cellsLn ls) rfl (((unhide HR).below (unhide HB1)).below (below1 _ _)) ⟨w1.heap.size, 0, none⟩ 1 1 (cellsLn [⟨.slice a1 (wds (s.extract f k)).length c1, f, k⟩]) rfl rfl (by simpa using new_newsLn w1 ⟨.slice a1 (wds (s.extract f k)).length c1, f, k⟩) (fun u hu => by simp [cellsLn] at hu; rcases hu with rfl | rfl | rfl <;> rfl) ?b1 ?b2 ?b3 ?next)
          case b1 => unfold maxLen; omega
          case b2 => omega
          case b3 => have := hbel.size; simp; omega
          case next =>
            intro v4 w4 hown4 hgrow4 hnil4 hat4
            have HO := hide (show RowL w4 w.heap.size v4 (ls ++ [⟨.slice a1 (wds (s.extract f k)).length c1, f, k⟩]) by
              unfold RowL
              rw [cellsLn_append, List.length_append]
              exact hown4)
            have HL4 := hide (LnsOk.step (unhide HL) ((unhide HB1).alloc z1 _) (fun q e => by have e' : g = q := (by simpa [Value.ownBlock] using e); omega) ((unhide HN).below (below1 _ _)) (fun q e => by have := (unhide HNB) q e; simp; omega) hgrow4 (hat4.imp id (fun h => ⟨_, h, by simp⟩)))
            have hbel4 : Below w.heap.size w w4 := ((hbel.trans ((unhide HB1).mono hbel.size)).alloc (by have := hbel.size; omega) _).grown hgrow4 (by have := hbel.size; simp; omega) (fun q hq => ((unhide HR).lt q hq).1)
            obtain ⟨g4, c4, rfl⟩ : ∃ g4 c4, v4 = .slice (some ⟨g4, 0, none⟩) (ls ++ [(⟨.slice a1 (wds (s.extract f k)).length c1, f, k⟩ : LnR)]).length c4 := by
              have h := unhide HO
              obtain ⟨_, ⟨_, h2⟩ | ⟨g', cap, cur, h1, _⟩⟩ := h
              · simp at h2
              · exact ⟨g', cap, h1⟩
            obtain ⟨ls4, HLS⟩ : ∃ ls4, Hid (ls4 = ls ++ [(⟨.slice a1 (wds (s.extract f k)).length c1, f, k⟩ : LnR)]) := ⟨_, hide rfl⟩
            have e4 := unhide HLS
            rw [← e4] at HO HL4
            rw [← e4]
            clear e4 hown4 hgrow4 hnil4 hat4 HN HNB HB1 HR HL
            go_wp2
            refine ⟨⟨k + 1, k + 1, g4, c4, ls4, by omega, Nat.le_refl _, by go_num, by go_num, rfl, ?_, ?_, HO, HL4, hbel4⟩, by simp [intOf]; omega⟩
            · rw [unhide HLS]; simp; omega
            · have := unhide HP
              rw [unhide HLS, plc_append]
              exact hide this
      · have hlt : k < s.size := by omega
        have hltI : (k : Int) < (s.size : Int) := by omega
        have hb : bt s k ≠ 10 := fun e => hput (Or.inr e)
        have HP := hide ((unhide HW).skip hlt hb)
        have hc : ((k : Int) == (s.size : Int)) = false := by simp; omega
        have hc2 : ((s[k].toNat : Int) == 10) = false := by
          rw [bt_get hlt]
          simp only [beq_eq_false_iff_ne, ne_eq]
          intro e
          exact hb (UInt8.toNat_inj.1 (by simpa using (by omega : (bt s k).toNat = 10)))
        clear hb hput
        go_wp2
        exact ⟨⟨k + 1, f, g, c, ls, by omega, by omega, by go_num, rfl, rfl, by omega, HP, HR, HL, hbel⟩, by simp [intOf]; omega⟩
    · have hleI : ¬ (k : Int) ≤ (s.size : Int) := by omega
      have HF := hide ((unhide HW).fin hle)
      go_wp2
      go_ret
      have hg := (unhide HR).lt g rfl
      exact ⟨g, c, ls, rfl, hg.1, hg.2, hide (unhide HR).ops, hide (fun l hl => ((unhide HL) l hl).1), HF, by omega, hbel⟩
end Go.Proofs.YtokabkhnidlcnabDoor
