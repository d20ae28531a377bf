/-
  Walk: the face of what ImplLex5 walks.
-/
import Derived.Test.YtokabkhnidlcnabImplLex5
namespace Go.Proofs.Ytokabkhnidlcnab
set_option maxRecDepth 100000
open Go.RowKit Go.Maps

set_option maxHeartbeats 4000000 in
theorem implLex_any (b off cap : Nat) (xs : List OpR) (s : ByteArray) (w : World) (hm : xs.length ≤ 1048576) (hw : Ops w b off xs) (hsz : Sized xs) (hB : b < w.heap.size) (hs : s.size ≤ maxLen) :
    Calls Try.prog 18 #[.agg #[.slice (some ⟨b, off, none⟩) xs.length cap], .string s] w fun e w' => (∃ (a : Option Addr) (c : Nat) (us : List TokR) (v : Bool), e = .returned (.tuple #[.slice a us.length c, .bool v]) ∧ OwnedT w' w.heap.size a us ∧ LexIs xs (IsCode xs 0) s us v) ∧ Below w.heap.size w w' := by
  unfold maxLen at hs
  have HW := hide hw
  have HS := hide hsz
  clear hw hsz
  go_enter Try.func18, Try.ntmps18
  go_wp2_with fail
  refine (indexTable_any b off cap xs _ hm ((unhide HW).below (below1 _ _) hB) (unhide HS) (by simp; omega)).mono ?_
  rintro e w1 ⟨⟨x, y, c, rfl, hc, hix⟩, hb1⟩
  have HC := hide hc
  have HIX := hide hix
  have z1 : w.heap.size + 1 ≤ w1.heap.size := by have := hb1.size; simp at this; omega
  have bel1 : Below w.heap.size w w1 := (below1 _ _).trans (hb1.mono (by simp))
  have c1 : w1.cell? ⟨w.heap.size, 0, none⟩ = some (.slice (some ⟨b, off, none⟩) xs.length cap) := by rw [hb1.cell (p := ⟨w.heap.size, 0, none⟩) (by simp)]; simp [go_sem]
  clear hc hix hb1
  by_cases hc0 : c = 0
  case neg =>
    have hc0' : (c != 0) = true := by simpa using hc0
    have HN := hide (show ¬ (IsCode xs 0 ∧ s.size ≤ 20000) from fun h => hc0 (IsCode_one (unhide HC) h.1))
    clear hc0
    go_wp2_with fail
    go_ret2
    exact ⟨⟨none, 0, [], false, rfl, Or.inl ⟨rfl, rfl⟩, Or.inr ⟨unhide HN, rfl, rfl⟩⟩, bel1.alloc bel1.size _⟩
  subst hc0
  obtain ⟨bo, bs, rfl, rfl, hidx⟩ := (unhide HIX) rfl
  have HID := hide hidx
  clear HIX hidx
  by_cases h2 : 20000 < s.size
  · have HN := hide (show ¬ (IsCode xs 0 ∧ s.size ≤ 20000) from fun h => by omega)
    have h2' : (20000 : Int) < (s.size : Int) := by omega
    go_wp2_with fail
    go_ret2
    exact ⟨⟨none, 0, [], false, rfl, Or.inl ⟨rfl, rfl⟩, Or.inr ⟨unhide HN, rfl, rfl⟩⟩, bel1.alloc bel1.size _⟩
  have h20 : s.size ≤ 20000 := by omega
  have h20' : ¬ (20000 : Int) < (s.size : Int) := by omega
  clear hs h2
  have HIJ := hide ((unhide HID).kept (below1 w1 (.cells #[.map (some bo), .map (some bs)] 85)))
  clear HID c1
  go_wp2_with fail
  refine (cut_any bo bs xs s _ (unhide HIJ) (unhide HC) (unhide HS) h20).mono ?_
  rintro e w2 ⟨⟨g, cp, us, rfl, hg, hfil, hlex⟩, hb2⟩
  have bel2 : Below w.heap.size w w2 := (bel1.alloc bel1.size _).trans (hb2.mono (by simp; omega))
  have hg2 : w.heap.size ≤ g := by simp at hg; omega
  go_wp2_with fail
  go_ret2
  exact ⟨⟨some ⟨g, 0, none⟩, cp, us, true, rfl, Or.inr ⟨g, rfl, hg2, unhide hfil⟩, Or.inl ⟨⟨unhide HC, h20⟩, rfl, unhide hlex⟩⟩, bel2⟩
end Go.Proofs.Ytokabkhnidlcnab
