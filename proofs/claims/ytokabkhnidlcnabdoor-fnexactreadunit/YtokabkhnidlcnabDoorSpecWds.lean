/-
  Walk: the words of a line, in the specification (l5Words).
-/
import Derived.Test.YtokabkhnidlcnabDoorUnitS
import Derived.Test.YtokabkhnidlcnabDoorStrRow
import Derived.Test.YtokabkhnidlcnabDoorGrowK
namespace Go.Proofs.YtokabkhnidlcnabDoor
set_option maxRecDepth 100000
set_option linter.unusedSimpArgs false
set_option linter.unusedVariables false
open Go.RowKit

/-- The words so far, in a walk over the places of a line. -/
def WInv (s : ByteArray) (k f : Nat) (us : List ByteArray) : Prop :=
  (k ≤ s.size ∧ f ≤ k ∧ (∀ j, f ≤ j → j < k → bt s j ≠ 32) ∧ us ++ wdsFrom s f = wds s) ∨ (k = s.size + 1 ∧ us = wds s)

theorem WInv.start (s : ByteArray) : WInv s 0 0 [] := Or.inl ⟨Nat.zero_le _, Nat.le_refl _, fun j h1 h2 => by omega, rfl⟩

theorem WInv.skip {s : ByteArray} {k f : Nat} {us : List ByteArray} (h : WInv s k f us) (hk : k < s.size) (hb : bt s k ≠ 32) : WInv s (k + 1) f us := by
  rcases h with ⟨h1, h2, h3, h4⟩ | ⟨h1, _⟩
  · refine Or.inl ⟨by omega, by omega, fun j j1 j2 => ?_, h4⟩
    by_cases e : j = k
    · subst e; exact hb
    · exact h3 j j1 (by omega)
  · omega

/-- What is put behind the words at a place. -/
def putW (s : ByteArray) (f k : Nat) (us : List ByteArray) : List ByteArray := us ++ (if f < k then [s.extract f k] else [])

theorem putW_yes {s : ByteArray} {f k : Nat} {us : List ByteArray} (h : f < k) : putW s f k us = us ++ [s.extract f k] := by unfold putW; rw [if_pos h]
theorem putW_no {s : ByteArray} {f k : Nat} {us : List ByteArray} (h : ¬ f < k) : putW s f k us = us := by unfold putW; rw [if_neg h]; simp

theorem WInv.put {s : ByteArray} {k f : Nat} {us : List ByteArray} (h : WInv s k f us) (hk : k ≤ s.size) (hb : k = s.size ∨ bt s k = 32) : WInv s (k + 1) (k + 1) (putW s f k us) := by
  rcases h with ⟨h1, h2, h3, h4⟩ | ⟨h1, _⟩
  · have hx : nx 32 s f = k := nx_one (by omega) h2 h1 h3 (fun hl => hb.elim (fun e => by omega) (fun e => e))
    rw [wdsFrom_step s f (by omega), hx] at h4
    unfold putW
    by_cases hl : k < s.size
    · rw [if_pos hl, ← List.append_assoc] at h4
      exact Or.inl ⟨by omega, Nat.le_refl _, fun j j1 j2 => by omega, h4⟩
    · rw [if_neg hl, List.append_nil] at h4
      exact Or.inr ⟨by omega, h4⟩
  · omega

theorem WInv.fin {s : ByteArray} {k f : Nat} {us : List ByteArray} (h : WInv s k f us) (hk : ¬ k ≤ s.size) : us = wds s := by
  rcases h with ⟨h1, _⟩ | ⟨_, h⟩
  · omega
  · exact h

theorem empty_rowS (w : World) : RowS (w.alloc (.cells #[] 9)) w.heap.size (.slice (some ⟨w.heap.size, 0, none⟩) 0 0) [] := by
  have := World.ownsRow_lit (base := w.heap.size) (e := 9) (size := 1) w #[] 0 (Nat.le_refl _) (Nat.zero_le _) rfl
  simpa [RowS, cellsS] using this

/-- What the words' readers answer. -/
def WdsPost (w : World) (s : ByteArray) (e : Ending) (w' : World) : Prop := ∃ v, e = .returned v ∧ RowS w' w.heap.size v (wds s) ∧ (wds s).length ≤ s.size + 1 ∧ Below w.heap.size w w'

set_option maxHeartbeats 2000000 in
theorem l5Words_any (s : ByteArray) (w : World) (hs : s.size ≤ 20000) :
    Calls Tryd.prog 21 #[.string s] w (WdsPost w s) := by
  obtain ⟨i0, hi0, hz0, hz1, hz2⟩ := info_parts' infoStr
  have HI := hide hi0
  have HZ := hide (And.intro hz0 (And.intro hz1 hz2))
  clear hi0 hz0 hz1 hz2
  have HE := hide (empty_rowS w)
  go_enter Tryd.func21, Tryd.ntmps21
  go_wp2
  go_loopw [3, 4, 5] (fun out fr i wr => ∃ (k f : Nat) (us : List ByteArray) (v : Value), k ≤ s.size + 1 ∧ f ≤ k ∧ i = .int .i64 (k : Int) ∧ fr = .int .i64 (f : Int) ∧ out = v ∧ us.length ≤ k ∧ Hid (WInv s k f us) ∧ Hid (RowS wr w.heap.size v us) ∧ Below w.heap.size w wr) (fun _ _ i _ => s.size + 1 - (intOf i).toNat)
  case atStart => exact ⟨0, 0, [], _, Nat.zero_le _, Nat.le_refl _, rfl, rfl, rfl, Nat.zero_le _, hide (WInv.start s), HE, below1 _ _⟩
  case round =>
    clear HE
    obtain ⟨k, f, us, v, hk, hf, rfl, rfl, rfl, hul, HW, HR, hbel⟩ := hrel
    by_cases hle : k ≤ s.size
    · have hleI : (k : Int) ≤ (s.size : Int) := by omega
      by_cases hput : k = s.size ∨ bt s k = 32
      · have HP := hide ((unhide HW).put hle hput)
        have hcond : ((k : Int) == (s.size : Int)) = true ∨ (((k : Int) == (s.size : Int)) = false ∧ ∃ (h : k < s.size), ((s[k].toNat : Int) == 32) = true) := by
          by_cases e : k = s.size
          · left; simp [e]
          · right
            have hlt : k < s.size := by omega
            refine ⟨by simp; omega, hlt, ?_⟩
            have hb : bt s k = 32 := hput.elim (fun h => absurd h e) (fun h => h)
            rw [bt_get hlt, hb]; rfl
        clear hput
        by_cases hfk : f < k
        · have hfkI : (f : Int) < (k : Int) := by omega
          have hfs : (f : Int) ≤ (s.size : Int) := by omega
          have HPW := hide (putW_yes (s := s) (us := us) hfk)
          rcases hcond with hc | ⟨hc, hlt, hc2⟩
          all_goals
            try have hltI : (k : Int) < (s.size : Int) := (by omega)
            go_wp2_with (at_builtin; refine wpList_append_own_at _ rfl (.tmp 26) (.tmp 31) 22 rfl w.heap.size 9 i0 _ 1 16 Tryd.underlying22 (unhide HI) (unhide HZ).1 (unhide HZ).2.1 (unhide HZ).2.2 rfl (by decide) _ us.length (cellsS us) rfl ((unhide HR).below (below1 _ _)) ⟨wr.heap.size, 0, none⟩ 1 1 (cellsS [s.extract f k]) rfl rfl (by simpa using new_newsS wr (s.extract f k)) (cellsS_one' _) ?b1 ?b2 ?b3 ?next)
            case b1 => unfold maxLen; omega
            case b2 => omega
            case b3 => have := hbel.size; simp; omega
            case next =>
              intro v4 w4 hown4 hgrow4 hnil4 hat4
              have HO := hide (show RowS w4 w.heap.size v4 (putW s f k us) by
                rw [unhide HPW]
                unfold RowS
                rw [cellsS_append, List.length_append]
                exact hown4)
              have hl4 : (putW s f k us).length ≤ k + 1 := by rw [unhide HPW]; simp; omega
              have hbel4 : Below w.heap.size w w4 := (hbel.alloc hbel.size _).grown hgrow4 (by have := hbel.size; simp; omega) (fun q hq => ((unhide HR).lt q hq).1)
              clear hown4 hgrow4 hnil4 hat4
              go_wp2
              exact ⟨⟨k + 1, k + 1, _, _, by omega, Nat.le_refl _, by go_num, by go_num, rfl, hl4, HP, HO, hbel4⟩, by simp [intOf]; omega⟩
        · have hfkI : ¬ (f : Int) < (k : Int) := by omega
          have HPW := hide (putW_no (s := s) (us := us) hfk)
          rcases hcond with hc | ⟨hc, hlt, hc2⟩
          all_goals
            try have hltI : (k : Int) < (s.size : Int) := (by omega)
            go_wp2
            refine ⟨⟨k + 1, k + 1, us, _, by omega, Nat.le_refl _, by go_num, by go_num, rfl, by omega, ?_, HR, hbel⟩, by simp [intOf]; omega⟩
            have := unhide HP
            rw [unhide HPW] at this
            exact hide this
      · have hlt : k < s.size := by omega
        have hltI : (k : Int) < (s.size : Int) := by omega
        have hb : bt s k ≠ 32 := fun e => hput (Or.inr e)
        have HP := hide ((unhide HW).skip hlt hb)
        have hc : ((k : Int) == (s.size : Int)) = false := by simp; omega
        have hc2 : ((s[k].toNat : Int) == 32) = false := by
          rw [bt_get hlt]
          simp only [beq_eq_false_iff_ne, ne_eq]
          intro e
          exact hb (UInt8.toNat_inj.1 (by simpa using (by omega : (bt s k).toNat = 32)))
        clear hb hput
        go_wp2
        exact ⟨⟨k + 1, f, us, _, by omega, by omega, by go_num, rfl, rfl, by omega, HP, HR, hbel⟩, by simp [intOf]; omega⟩
    · have hleI : ¬ (k : Int) ≤ (s.size : Int) := by omega
      have HF := hide ((unhide HW).fin hle)
      go_wp2
      go_ret
      have e := unhide HF
      subst e
      exact ⟨_, rfl, unhide HR, by omega, hbel⟩
end Go.Proofs.YtokabkhnidlcnabDoor
