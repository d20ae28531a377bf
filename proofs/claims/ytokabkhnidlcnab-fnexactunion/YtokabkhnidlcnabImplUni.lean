/-
  Walk: the program's Union.
-/
import Derived.Test.YtokabkhnidlcnabUnseen
namespace Go.Proofs.Ytokabkhnidlcnab
set_option maxRecDepth 100000
open Go.RowKit Go.Maps

/-- A list that a call has made: nil and empty, or a row of its own. -/
def Owned (w : World) (n : Nat) (a : Option Addr) (us : List OpR) : Prop := (us.length = 0 ∧ a = none) ∨ ∃ g, a = some ⟨g, 0, none⟩ ∧ n ≤ g ∧ Filled w g us us.length

theorem atO_left {xs ys : List OpR} {i : Nat} (h : i < xs.length) : atO (xs ++ ys) i = atO xs i := by
  unfold atO
  simp [List.getD, List.getElem?_append_left h]

theorem atO_right {xs ys : List OpR} {i : Nat} (_h : i < ys.length) : atO (xs ++ ys) (xs.length + i) = atO ys i := by
  unfold atO
  simp [List.getD, List.getElem?_append_right]

set_option maxRecDepth 100000 in
set_option maxHeartbeats 4000000 in
theorem implUnion_core (g g' c c' : Nat) (xs ys zs : List OpR) (HZS : Hid (zs = xs ++ ys)) (w : World) (hm : xs.length + ys.length ≤ 1048576) (hx : Ops w g 0 xs) (hy : Ops w g' 0 ys) (hB : g < w.heap.size) (hB' : g' < w.heap.size) (hf : ∀ i, i < zs.length → Fine (atO zs i)) :
    Calls Try.prog 13 #[.agg #[.slice (some ⟨g, 0, none⟩) xs.length c], .agg #[.slice (some ⟨g', 0, none⟩) ys.length c']] w fun e w' => (∃ a cap, e = .returned (.agg #[.slice a (uniTo zs zs.length).length cap]) ∧ Owned w' w.heap.size a (uniTo zs zs.length)) ∧ Below w.heap.size w w' := by
  have hlen : zs.length = xs.length + ys.length := by rw [unhide HZS]; simp
  have hat1 : ∀ i, i < xs.length → atO zs (0 + i) = atO xs i := fun i hi => by rw [unhide HZS, Nat.zero_add]; exact atO_left hi
  have hat2 : ∀ i, i < ys.length → atO zs (xs.length + i) = atO ys i := fun i hi => by rw [unhide HZS]; exact atO_right hi
  have HL := hide hlen
  have H1 := hide hat1
  have H2 := hide hat2
  have HF := hide hf
  have HX := hide (fun o1 o2 o3 o4 => hx.below ((((below1 w o1).alloc (by simp) o2).alloc (by simp; omega) o3).alloc (by simp; omega) o4) hB)
  have HY := hide (fun o1 o2 o3 o4 => hy.below ((((below1 w o1).alloc (by simp) o2).alloc (by simp; omega) o3).alloc (by simp; omega) o4) hB')
  have hmm := @run_makeMap Try.prog
  have hss : ∀ o1 o2 o3, Seen ((((w.alloc o1).alloc o2).alloc o3).alloc (.map #[] 0)) (w.heap.size + 1 + 1 + 1) zs 0 := fun o1 o2 o3 => by
    have := Seen.start (((w.alloc o1).alloc o2).alloc o3) zs
    simpa using this
  have HS := hide hss
  clear hlen hat1 hat2 hf hx hy hss
  go_enter Try.func13, Try.ntmps13
  go_wp2_with fail
  refine (unseen_any g c (w.heap.size + 1 + 1 + 1) (w.heap.size + 4) 0 xs zs _ _ (by omega) (unhide HX _ _ _ _) (unhide H1) (fun i hi => (unhide HF) i (by have := unhide HL; omega)) (unhide HS _ _ _) (World.ownsRow_nil _ _ _ _) (by omega) (by omega) (by omega) (by simp)).mono ?_
  rintro e w1 ⟨⟨v1, rfl, hown1⟩, hs1, hk1⟩
  rw [Nat.zero_add] at hown1 hs1
  have d1 : w1.cell? ⟨w.heap.size + 1, 0, none⟩ = some (.slice (some ⟨g', 0, none⟩) ys.length c') := by rw [hk1.cell (by omega) (by omega)]; simp [go_sem]
  have d2 : w1.cell? ⟨w.heap.size + 1 + 1, 0, none⟩ = some (.slice none 0 0) := by rw [hk1.cell (by omega) (by omega)]; simp [go_sem]
  have d3 : w1.frozen? ⟨w.heap.size + 1 + 1, 0, none⟩ = false := by rw [hk1.frozen (by omega) (by omega)]; simp [go_sem]
  have z1 : w.heap.size + 4 ≤ w1.heap.size := by have := hk1.size; simp at this; omega
  have hy1 : Ops w1 g' 0 ys := fun i hi => hk1.cellsAt ((unhide HY _ _ _ _) i hi) (by omega) (by omega)
  have hbw1 : Below w.heap.size w w1 := ((((below1 _ _).alloc (by simp) _).alloc (by simp; omega) _).alloc (by simp; omega) _).trans ⟨hk1.os, hk1.tape, hk1.output, hk1.size, fun i hi => hk1.block i (by omega) (by omega)⟩
  have HO1 := hide hown1
  have HS1 := hide hs1
  have HY1 := hide hy1
  clear hown1 hs1 hk1 hy1 HX HY HS
  go_wp2_with fail
  refine (unseen_any g' c' (w.heap.size + 1 + 1 + 1) (w.heap.size + 4) xs.length ys zs _ _ hm (unhide HY1) (unhide H2) (fun i hi => (unhide HF) i (by have := unhide HL; omega)) (unhide HS1) (unhide HO1) (by omega) (by omega) (by omega) z1).mono ?_
  rintro e w2 ⟨⟨v2, rfl, hown2⟩, hs2, hk2⟩
  have e2 : w2.cell? ⟨w.heap.size + 1 + 1, 0, none⟩ = some (.slice none 0 0) := (hk2.cell (by omega) (by omega) _).trans d2
  have e3 : w2.frozen? ⟨w.heap.size + 1 + 1, 0, none⟩ = false := (hk2.frozen (by omega) (by omega) _).trans d3
  have hbw2 : Below w.heap.size w w2 := hbw1.trans ⟨hk2.os, hk2.tape, hk2.output, hk2.size, fun i hi => hk2.block i (by omega) (by omega)⟩
  rw [← unhide HL] at hown2
  by_cases hv : v2 = .slice none 0 0
  · subst hv
    have hl0 : (uniTo zs zs.length).length = 0 := by
      obtain ⟨_, h | ⟨_, _, _, h, _⟩⟩ := hown2
      · exact h.2
      · simp at h
    have HL0 := hide hl0
    clear hown2 hs2 hk2 HO1 HS1 HY1 d1 d2 d3 hl0 hbw1 H1 H2 HF
    go_wp2_with fail
    refine bodyPost_ret (v := .agg #[.slice none 0 0]) (by simp [results, Try.results13, go_sem, e2]) rfl ⟨⟨none, 0, ?_, Or.inl ⟨unhide HL0, rfl⟩⟩, hbw2.setCell (by simp; omega) _⟩
    rw [unhide HL0]
  · obtain ⟨go, co, rfl⟩ := owns_value hown2 hv
    obtain ⟨hgo, hfo⟩ := owns_filled hown2
    have HFO := hide hfo
    clear hown2 hs2 hk2 HO1 HS1 HY1 d1 d2 d3 hfo hbw1 H1 H2 HF hv
    go_wp2_with fail
    refine bodyPost_ret (v := .agg #[.slice (some ⟨go, 0, none⟩) (uniTo zs zs.length).length co]) (by simp [results, Try.results13, go_sem, e2]) rfl ⟨⟨_, co, rfl, Or.inr ⟨go, rfl, by omega, ?_⟩⟩, hbw2.setCell (by simp; omega) _⟩
    exact (unhide HFO).setCell _ _ (by simp; omega)

theorem implUnion_any (g g' c c' : Nat) (xs ys : List OpR) (w : World) (hm : xs.length + ys.length ≤ 1048576) (hx : Ops w g 0 xs) (hy : Ops w g' 0 ys) (hB : g < w.heap.size) (hB' : g' < w.heap.size) (hf : ∀ i, i < (xs ++ ys).length → Fine (atO (xs ++ ys) i)) :
    Calls Try.prog 13 #[.agg #[.slice (some ⟨g, 0, none⟩) xs.length c], .agg #[.slice (some ⟨g', 0, none⟩) ys.length c']] w fun e w' => (∃ a cap, e = .returned (.agg #[.slice a (uniTo (xs ++ ys) (xs ++ ys).length).length cap]) ∧ Owned w' w.heap.size a (uniTo (xs ++ ys) (xs ++ ys).length)) ∧ Below w.heap.size w w' :=
  implUnion_core g g' c c' xs ys (xs ++ ys) (hide rfl) w hm hx hy hB hB' hf
end Go.Proofs.Ytokabkhnidlcnab
