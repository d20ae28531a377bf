/-
  Walk: the begin line, in the specification (l5Begin).
-/
import Derived.Test.YtokabkhnidlcnabDoorSpecLns
namespace Go.Proofs.YtokabkhnidlcnabDoor
set_option maxRecDepth 100000
set_option linter.unusedSimpArgs false
set_option linter.unusedVariables false
open Go.RowKit

/-- The words of the line at a place. -/
def wsL (s : ByteArray) (ls : List LnR) (i : Nat) : List ByteArray := wds (s.extract (atL ls i).f (atL ls i).t)

theorem atL_mem {ls : List LnR} {i : Nat} (h : i < ls.length) : atL ls i ∈ ls := by
  unfold atL
  rw [List.getD_eq_getElem?_getD, List.getElem?_eq_getElem h]
  exact List.getElem_mem h

/-- The place of the begin line. -/
def BegIs (s : ByteArray) (ls : List LnR) (r : Int) : Prop :=
  (r = -1 ∧ ∀ i, i < ls.length → wsL s ls i ≠ [wBegin]) ∨ ∃ i, i < ls.length ∧ r = (i : Int) ∧ wsL s ls i = [wBegin] ∧ ∀ j, j < i → wsL s ls j ≠ [wBegin]

set_option maxHeartbeats 2000000 in
theorem l5Begin_any (s : ByteArray) (g c : Nat) (ls : List LnR) (w : World) (hl : ls.length ≤ 20001) (ho : OpsL w g ls) (hw : ∀ l ∈ ls, StrsAt w l.wv (wds (s.extract l.f l.t))) :
    Calls Tryd.prog 10 #[.slice (some ⟨g, 0, none⟩) ls.length c] w fun e w' => ∃ r : Int, e = .returned (.int .i64 r) ∧ BegIs s ls r ∧ w' = w := by
  have HO := hide ho
  have HW := hide hw
  clear ho hw
  go_enter Tryd.func10, Tryd.ntmps10
  go_wp2
  go_loop [3] (fun i => ∃ k : Nat, k ≤ ls.length ∧ i = .int .i64 (k : Int) ∧ Hid (∀ j, j < k → wsL s ls j ≠ [wBegin])) (fun i => ls.length - (intOf i).toNat)
  case atStart => exact ⟨0, Nat.zero_le _, rfl, hide (fun j h => by omega)⟩
  case round =>
    obtain ⟨k, hk, rfl, hn⟩ := hrel
    by_cases hlt : k < ls.length
    · have hltI : (k : Int) < (ls.length : Int) := by omega
      obtain ⟨o0, _, _⟩ := (unhide HO) k hlt
      have hst := (unhide HW) _ (atL_mem hlt)
      obtain ⟨ws, hws⟩ : ∃ ws, ws = wsL s ls k := ⟨_, rfl⟩
      have hst2 : StrsAt w (atL ls k).wv ws := by rw [hws]; exact hst
      have HWS := hide hws
      clear hst hws
      by_cases hbeg : ws = [wBegin]
      · obtain ⟨gw, cw, hv, hgw, hc⟩ := hst2.lt (by rw [hbeg]; simp)
        have k0 : w.cell? ⟨gw, 0, none⟩ = some (.string ⟨#[98, 101, 103, 105, 110]⟩) := hc 0 _ (by rw [hbeg]; rfl)
        have hl1 : ws.length = 1 := by rw [hbeg]; rfl
        rw [hl1] at hv
        rw [hv] at o0
        have HB := hide (show wsL s ls k = [wBegin] by rw [← unhide HWS]; exact hbeg)
        clear hc hbeg hst2 hl1 hv
        go_wp2
        go_ret
        exact ⟨_, rfl, Or.inr ⟨k, hlt, rfl, unhide HB, unhide hn⟩, rfl⟩
      · have HB := hide (show wsL s ls k ≠ [wBegin] by rw [← unhide HWS]; exact hbeg)
        have HX := hide (show ∀ j, j < k + 1 → wsL s ls j ≠ [wBegin] from fun j hj => by
          by_cases e : j = k
          · subst e; exact unhide HB
          · exact (unhide hn) j (by omega))
        have hcond : (((ws.length : Int) == 1) = false ∧ ∃ a c, (atL ls k).wv = .slice a ws.length c) ∨ (((ws.length : Int) == 1) = true ∧ ∃ gw c q, (atL ls k).wv = .slice (some ⟨gw, 0, none⟩) ws.length c ∧ w.cell? ⟨gw, 0, none⟩ = some (.string q) ∧ (q.toList == [98, 101, 103, 105, 110]) = false) := by
          by_cases e : ws.length = 1
          · right
            obtain ⟨gw, cw, hv, hgw, hc⟩ := hst2.lt (by omega)
            match ws, e with
            | [q], _ => exact ⟨rfl, gw, cw, q, hv, hc 0 q rfl, lit_no (fun ek => hbeg (by rw [ek]; rfl))⟩
          · left
            obtain ⟨a, cw, hv, _⟩ := hst2
            exact ⟨by simp; omega, a, cw, hv⟩
        clear hbeg hst2
        rcases hcond with ⟨hc1, a, cw, hv⟩ | ⟨hc1, gw, cw, q, hv, k0, hq⟩
        all_goals
          rw [hv] at o0
          clear hv
          try have h00 : (0 : Int) < (ws.length : Int) := (by have := beq_iff_eq.1 hc1; omega)
          go_wp2
          exact ⟨⟨k + 1, by omega, by go_num, HX⟩, by simp [intOf]; omega⟩
    · have HE := hide (show BegIs s ls (-1) from Or.inl ⟨rfl, fun i hi => (unhide hn) i (by omega)⟩)
      go_wp2
      go_ret
      exact ⟨_, rfl, unhide HE, rfl⟩
end Go.Proofs.YtokabkhnidlcnabDoor
