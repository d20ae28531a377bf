/-
  Words: numbers and names (isWord).
-/
import Derived.Test.YtokabkhnidlcnabDoorKindBE
namespace Go.Proofs.YtokabkhnidlcnabDoor
set_option maxRecDepth 100000
open Go.RowKit

/-- A text of one word. -/
def WordT (first : Nat) (s : ByteArray) : Prop := 1 ≤ s.size ∧ cls (bt s 0) = first ∧ ∀ j, j < s.size → stays first (bt s j) = true

set_option maxHeartbeats 1000000 in
theorem isWord_any (first : Nat) (s : ByteArray) (w : World) (hs : s.size ≤ maxLen) :
    Calls Tryd.prog 44 #[.int .i64 (first : Int), .string s] w fun e w' => RetB e (WordT first s) ∧ w' = w := by
  unfold maxLen at hs
  by_cases h0 : s.size = 0
  · have HN := hide (show ¬ WordT first s from fun h => by have := h.1; omega)
    obtain rfl := bytes_nil h0
    go_enter Tryd.func44, Tryd.ntmps44
    go_wp2_with fail
    go_ret
    exact ⟨⟨_, rfl, says_false (unhide HN)⟩, rfl⟩
  have hne := not_empty h0
  have h0I : (0 : Int) < (s.size : Int) := by omega
  have h0N : 0 < s.size := by omega
  by_cases hc : cls (bt s 0) = first
  case neg =>
    have HN := hide (show ¬ WordT first s from fun h => hc h.2.1)
    have hb := bt_get h0N
    have hc' : ((cls s[0] : Int) != (first : Int)) = true := by rw [hb]; simp; omega
    clear hb
    go_enter Tryd.func44, Tryd.ntmps44
    go_wp2_with (go_at_call 52; refine (kindOfByte_any _ _).mono ?_; rintro e w' ⟨rfl, hx⟩; obtain rfl := hx.symm)
    go_ret
    exact ⟨⟨_, rfl, says_false (unhide HN)⟩, rfl⟩
  have HC := hide hc
  have hb := bt_get h0N
  have HX := hide (show (cls s[0] : Int) = (first : Int) by rw [hb]; omega)
  clear hb hc
  go_enter Tryd.func44, Tryd.ntmps44
  go_wp2_with (go_at_call 52; refine (kindOfByte_any _ _).mono ?_; rw [unhide HX]; rintro e w' ⟨rfl, hx⟩; obtain rfl := hx.symm)
  go_loop [17] (fun i => ∃ k : Nat, k ≤ s.size ∧ i = .int .i64 (k : Int) ∧ Hid (∀ j, j < k → stays first (bt s j) = true)) (fun i => s.size - (intOf i).toNat)
  case atStart => exact ⟨0, Nat.zero_le _, rfl, hide (fun j h => by omega)⟩
  case round =>
    obtain ⟨k, hk, rfl, hn⟩ := hrel
    by_cases hlt : k < s.size
    · have hltI : (k : Int) < (s.size : Int) := by omega
      cases hb : stays first s[k]
      · have Hb := hide (show stays first (bt s k) = false by rw [← bt_get hlt]; exact hb)
        go_wp2_with (go_at_call 53; refine (staysWord_any _ _ _).mono ?_; rintro e w' ⟨rfl, hx⟩; obtain rfl := hx.symm)
        go_ret
        exact ⟨⟨_, rfl, says_false (fun h => by have := h.2.2 k hlt; rw [unhide Hb] at this; cases this)⟩, rfl⟩
      · have Hb := hide (show stays first (bt s k) = true by rw [← bt_get hlt]; exact hb)
        go_wp2_with (go_at_call 53; refine (staysWord_any _ _ _).mono ?_; rintro e w' ⟨rfl, hx⟩; obtain rfl := hx.symm)
        refine ⟨⟨k + 1, by omega, by go_num, hide (fun j hj => ?_)⟩, by simp [intOf]; omega⟩
        by_cases e : j = k
        · subst e; exact unhide Hb
        · exact (unhide hn) j (by omega)
    · go_wp2_with fail
      go_ret
      exact ⟨⟨_, rfl, says_true ⟨by omega, unhide HC, fun j hj => (unhide hn) j (by omega)⟩⟩, rfl⟩

theorem WordT_2 (s : ByteArray) : WordT 2 s ↔ NumT s := by
  unfold WordT NumT stays
  constructor
  · rintro ⟨h1, h2, h3⟩
    refine ⟨h1, fun j hj => ?_⟩
    have := h3 j hj
    simpa using this
  · rintro ⟨h1, h2⟩
    exact ⟨h1, h2 0 (by omega), fun j hj => by simp [h2 j hj]⟩

theorem WordT_3 (s : ByteArray) : WordT 3 s ↔ NameT s := by
  unfold WordT NameT stays
  constructor
  · rintro ⟨h1, h2, h3⟩
    refine ⟨h1, fun j hj => ?_⟩
    have := h3 j hj
    simp at this
    by_cases e : j = 0
    · subst e; exact Or.inl h2
    · omega
  · rintro ⟨h1, h2⟩
    refine ⟨h1, ?_, fun j hj => ?_⟩
    · have := h2 0 (by omega); omega
    · have := h2 j hj; simp; omega
end Go.Proofs.YtokabkhnidlcnabDoor
