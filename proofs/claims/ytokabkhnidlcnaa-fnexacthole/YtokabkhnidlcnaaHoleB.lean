/-
  Walks: Hole, in both texts.
-/
import Derived.Test.YtokabkhnidlcnaaOk
import Derived.Test.YtokabkhnidlcnaaCore
namespace Go.Proofs.Ytokabkhnidlcnaa
set_option maxRecDepth 100000
open Go.RowKit

set_option maxHeartbeats 1000000 in
theorem specHole_any (s : ByteArray) (k l sd : Int) (b : Bool) (w : World) (hs : s.size ≤ maxLen) :
    Calls Try.prog 18 #[.agg #[.string s, .int .i64 k, .int .i64 l, .int .i64 sd], .bool b] w fun e w' => e = .returned (.int .i64 (holeI s k l sd b)) ∧ Below w.heap.size w w' := by
  cases ht : okB s k l sd
  · have hf := hide (hole_bad s k l sd b ht)
    go_enter Try.func18, Try.ntmps18
    go_wp2_with (go_at_call 39; refine (l1OpOk_any _ _ _ _ _ hs).mono ?_; rintro e w' ⟨rfl, hb⟩)
    go_ret
    exact ⟨ret_int (unhide hf).symm, (below1 _ _).trans (hb.mono (by simp))⟩
  · obtain ⟨⟨hl1, hl2⟩, h⟩ := ok_shape s k l sd ht
    rcases h with ⟨rfl, rfl⟩ | ⟨rfl, rfl⟩ | ⟨rfl, rfl⟩ | ⟨rfl, rfl⟩ | ⟨rfl, rfl⟩ <;> cases b
    all_goals
      have hf := hide (ht)
      go_enter Try.func18, Try.ntmps18
      go_wp2_with (go_at_call 39; refine (l1OpOk_any _ _ _ _ _ hs).mono ?_; rintro e w' ⟨rfl, hb⟩; obtain ⟨hc, hz⟩ := bcell hb)
      go_ret
      exact ⟨ret_int (by simp [holeI, infI, unhide hf]), (below1 _ _).trans (hb.mono (by simp))⟩

set_option maxHeartbeats 400000 in
theorem infixHole_any (s : ByteArray) (k l sd : Int) (b : Bool) (w : World) (hl1 : 1 ≤ l) (hl2 : l ≤ 1000) :
    Calls Try.prog 44 #[.agg #[.string s, .int .i64 k, .int .i64 l, .int .i64 sd], .bool b] w fun e w' => e = .returned (.int .i64 (infI l sd b)) ∧ Below w.heap.size w w' := by
  cases b
  · by_cases h : sd = 1
    · have h' : (sd == 1) = true := by simpa using h
      have H := hide h
      clear h
      go_enter Try.func44, Try.ntmps44
      go_wp2
      go_ret
      exact ⟨ret_int (by simp [infI, unhide H]), below1 _ _⟩
    · have h' : (sd == 1) = false := by simpa using h
      go_enter Try.func44, Try.ntmps44
      go_wp2
      go_ret
      exact ⟨ret_int (by simp [infI, h]), below1 _ _⟩
  · by_cases h : sd = 2
    · have h' : (sd == 2) = true := by simpa using h
      have H := hide h
      clear h
      go_enter Try.func44, Try.ntmps44
      go_wp2
      go_ret
      exact ⟨ret_int (by simp [infI, unhide H]), below1 _ _⟩
    · have h' : (sd == 2) = false := by simpa using h
      go_enter Try.func44, Try.ntmps44
      go_wp2
      go_ret
      exact ⟨ret_int (by simp [infI, h]), below1 _ _⟩

set_option maxHeartbeats 1000000 in
theorem implHole_any (s : ByteArray) (k l sd : Int) (b : Bool) (w : World) (hs : s.size ≤ maxLen) :
    Calls Try.prog 20 #[.agg #[.string s, .int .i64 k, .int .i64 l, .int .i64 sd], .bool b] w fun e w' => e = .returned (.int .i64 (holeI s k l sd b)) ∧ Below w.heap.size w w' := by
  cases ht : okB s k l sd
  · have hf := hide (hole_bad s k l sd b ht)
    go_enter Try.func20, Try.ntmps20
    go_wp2_with (go_at_call 43; refine (wellFormed_any _ _ _ _ _ hs).mono ?_; rintro e w' ⟨rfl, hb⟩)
    go_ret
    exact ⟨ret_int (unhide hf).symm, (below1 _ _).trans (hb.mono (by simp))⟩
  · obtain ⟨⟨hl1, hl2⟩, h⟩ := ok_shape s k l sd ht
    have hf := hide ht
    by_cases h2 : k = 2
    · subst h2
      clear h
      go_enter Try.func20, Try.ntmps20
      go_wp2_with (first | (go_at_call 43; refine (wellFormed_any _ _ _ _ _ hs).mono ?_; rintro e w' ⟨rfl, hb⟩; obtain ⟨hc, hz⟩ := bcell hb) | (go_at_call 44; refine (infixHole_any _ _ _ _ _ _ hl1 hl2).mono ?_; rintro e w1 ⟨rfl, hb1⟩))
      go_ret
      exact ⟨ret_int (by simp [holeI, unhide hf]), (below1 _ _).trans ((hb.mono (by simp)).trans (hb1.mono (by have := hb.size; simp at this; omega)))⟩
    · have h2' : (k == 2) = false := by simpa using h2
      clear h
      cases b
      all_goals
        go_enter Try.func20, Try.ntmps20
        go_wp2_with (first | (go_at_call 43; refine (wellFormed_any _ _ _ _ _ hs).mono ?_; rintro e w' ⟨rfl, hb⟩; obtain ⟨hc, hz⟩ := bcell hb))
        go_ret
        exact ⟨ret_int (by simp [holeI, unhide hf, h2]), (below1 _ _).trans (hb.mono (by simp))⟩

end Go.Proofs.Ytokabkhnidlcnaa
