import Derived.ProofKit
import Derived.Lib.SmallJoins
import Derived.Deep.Slices
import Derived.Deep.Strs
import Derived.Test.YtokabkhnidlcnabT21
import Derived.Test.YtokabkhnidlcnabT22
import Derived.Test.YtokabkhnidlcnabT23
import Derived.Test.YtokabkhnidlcnabT24
import Derived.Test.YtokabkhnidlcnabT26

/-
  Walk: the law of TreeOk.
-/
namespace Go.Proofs.Ytokabkhnidlcnab
set_option maxRecDepth 100000
set_option linter.unusedSimpArgs false
set_option linter.unusedVariables false
open Go.RowKit Go.Maps
attribute [local simp] heap_drew

theorem Cs.add {cs : List (Nat × Nat × Value)} {w : World} (h : Cs cs w) (v : Value) (t : TypeId) : Cs ((w.heap.size, 0, v) :: cs) (w.alloc (.cells #[v] t)) := fun p hp => by
  rcases List.mem_cons.1 hp with rfl | hp
  · simp [go_sem]
  · exact (h.below (below1 _ _)) p hp

set_option maxHeartbeats 4000000 in
theorem lawTreeOk (a a' : Option Addr) (cap cap' : Nat) (xs : List OpR) (ns : List NodeR) (w : World) (hm : xs.length ≤ maxLen) (hmn : ns.length ≤ maxLen) (hw : Arg w a xs) (hwn : ArgN w a' ns) (hsz : Sized xs) (hsn : SizedN ns) :
    Calls Try.prog 7 #[.agg #[.slice a xs.length cap], .agg #[.slice a' ns.length cap']] w fun e w' => e = .returned (.bool true) ∧ Below w.heap.size w w' := by
  have HA := hide hw
  have HAN := hide hwn
  have HZ := hide hsz
  have HZN := hide hsn
  have bel0 : Below w.heap.size w ((w.alloc (.cells #[.slice a xs.length cap] 24)).alloc (.cells #[.slice a' ns.length cap'] 53)) := (below1 _ _).alloc (by simp) _
  have HC0 := hide (show Cs [(w.heap.size, 0, .slice a xs.length cap), (w.heap.size + 1, 0, .slice a' ns.length cap')] ((w.alloc (.cells #[.slice a xs.length cap] 24)).alloc (.cells #[.slice a' ns.length cap'] 53)) from fun p hp => by
    simp only [List.mem_cons, List.not_mem_nil, or_false] at hp
    rcases hp with rfl | rfl
    · simp [go_sem]
    · simp [go_sem])
  clear hw hwn hsz hsn
  go_enter Try.func7, Try.ntmps7
  go_wp2_with fail
  refine (szTable_any a cap xs _ _ hm ((unhide HA).below bel0) (unhide HZ) (by decide) (by decide)).mono ?_
  rintro e w1 ⟨⟨r, rfl, hr⟩, hb1⟩
  have HC1 := hide ((unhide HC0).below hb1)
  have bel1 := bel0.trans (hb1.mono bel0.size)
  clear HC0 hb1 bel0
  by_cases hr0 : r < 0
  · go_wp2_with fail
    go_ret
    exact ⟨rfl, bel1⟩
  have hr1 : 0 ≤ r ∧ r ≤ 1048576 ∧ xs.length ≤ 1048576 := by unfold Left at hr; omega
  obtain ⟨hra, hrb, hnx⟩ := hr1
  have k1 := (unhide HC1) (w.heap.size + 1, 0, .slice a' ns.length cap') (by simp)
  simp only at k1
  clear hr
  go_wp2_with fail
  refine (szTree_any a' cap' ns _ _ hmn ((unhide HAN).below bel1) (unhide HZN) hra hrb).mono ?_
  rintro e w2 ⟨⟨r2, rfl, hr2⟩, hb2⟩
  have HSC := hide ((unhide HC1).below hb2)
  have bel2 := bel1.trans (hb2.mono bel1.size)
  clear HC1 hb2 bel1 k1
  by_cases hr20 : r2 < 0
  · go_wp2_with fail
    go_ret
    exact ⟨rfl, bel2⟩
  have hnn : ns.length ≤ 1048576 := by unfold LeftN at hr2; omega
  clear hr2
  go_wp2_with fail
  replace HSC := hide ((unhide HSC).below (Below.refl _ _).drew)
  have HBC := hide bel2.drew
  clear bel2
  go_region_held (fun w' => w'.cell? ⟨w.heap.size, 0, none⟩ = some (.slice a xs.length cap) ∧ w'.cell? ⟨w.heap.size + 1, 0, none⟩ = some (.slice a' ns.length cap')) (first | (go_keep; done) | exact ⟨(unhide HSC) (w.heap.size, 0, .slice a xs.length cap) (by simp), (unhide HSC) (w.heap.size + 1, 0, .slice a' ns.length cap') (by simp)⟩)
    (first | (go_at_call 12; have HX := toTable_inL (w := w) a cap xs _ hnx (unhide HA) (unhide HBC); refine HX.mono ?_; clear HX; rintro e w3 ⟨⟨g3, rfl, hg3, hf3⟩, hb3⟩; replace HSC := hide ((unhide HSC).below hb3); replace HBC := hide ((unhide HBC).trans (hb3.mono (unhide HBC).size)); clear hb3 hg3) | (go_at_call 33; have HX := toTree_in (w := w) a' cap' ns _ hnn (unhide HAN) (unhide HBC); refine HX.mono ?_; clear HX; rintro e w4 ⟨⟨g4, rfl, hg4, hgl4, hf4⟩, hb4⟩; replace HSC := hide ((unhide HSC).below hb4); replace HBC := hide ((unhide HBC).trans (hb4.mono (unhide HBC).size)); replace hf3 := hide ((unhide hf3).below hb4 (unhide hf3).1); clear hb4 hg4) | (go_at_call 32; have HX := specTreeOk_any g3 0 xs.length g4 0 ns.length xs ns _ hnx hnn (unhide hf3).ops (unhide HZ) (unhide hf3).1 (unhide hf4).ops (unhide HZN) (unhide hf4).1; refine HX.mono ?_; clear HX; rintro e w5 ⟨⟨c, rfl, hcc⟩, hb5⟩; have HCC := hide hcc; replace HSC := hide ((unhide HSC).below hb5); replace HBC := hide ((unhide HBC).trans (hb5.mono (unhide HBC).size)); clear hb5 hcc))
  clear hf3 hf4 hgl4
  have k0 := (unhide HSC) (w.heap.size, 0, .slice a xs.length cap) (by simp)
  simp only at k0
  go_wp2_with fail
  refine (toTable_inL (w := w) a cap xs _ hnx (unhide HA) (unhide HBC)).mono ?_
  rintro e w6 ⟨⟨g6, rfl, hg6, hf6⟩, hb6⟩
  have HS6 := hide (((unhide HSC).below hb6).add (.slice (some ⟨g6, 0, none⟩) xs.length xs.length) 28)
  have HB6 := hide (((unhide HBC).trans (hb6.mono (unhide HBC).size)).alloc ((unhide HBC).trans (hb6.mono (unhide HBC).size)).size (.cells #[.slice (some ⟨g6, 0, none⟩) xs.length xs.length] 28))
  have HF6 := hide ((unhide hf6).below (below1 w6 (.cells #[.slice (some ⟨g6, 0, none⟩) xs.length xs.length] 28)) (unhide hf6).1)
  clear HSC HBC hb6 hf6 hg6 k0
  have k1 := (unhide HS6) (w.heap.size + 1, 0, .slice a' ns.length cap') (by simp)
  simp only at k1
  go_wp2_with fail
  refine (toTree_in (w := w) a' cap' ns _ hnn (unhide HAN) (unhide HB6)).mono ?_
  rintro e w7 ⟨⟨g7, rfl, hg7, hgl7, hf7⟩, hb7⟩
  have HS7 := hide (((unhide HS6).below hb7).add (.slice (some ⟨g7, 0, none⟩) ns.length ns.length) 58)
  have HB7 := hide (((unhide HB6).trans (hb7.mono (unhide HB6).size)).alloc ((unhide HB6).trans (hb7.mono (unhide HB6).size)).size (.cells #[.slice (some ⟨g7, 0, none⟩) ns.length ns.length] 58))
  have HF7 := hide (((unhide HF6).below hb7 (unhide HF6).1).below (below1 w7 (.cells #[.slice (some ⟨g7, 0, none⟩) ns.length ns.length] 58)) ((unhide HF6).below hb7 (unhide HF6).1).1)
  have HN7 := hide ((unhide hf7).below (below1 w7 (.cells #[.slice (some ⟨g7, 0, none⟩) ns.length ns.length] 58)) (unhide hf7).1)
  clear HS6 HB6 HF6 hb7 hf7 hg7 hgl7 k1
  have k6 := (unhide HS7) (w6.heap.size, 0, .slice (some ⟨g6, 0, none⟩) xs.length xs.length) (by simp)
  have k7 := (unhide HS7) (w7.heap.size, 0, .slice (some ⟨g7, 0, none⟩) ns.length ns.length) (by simp)
  simp only at k6 k7
  go_wp2_with fail
  refine (implTreeOk_any g6 0 xs.length g7 0 ns.length xs ns _ hnx hnn (unhide HF7).ops (unhide HZ) (unhide HF7).1 (unhide HN7).ops (unhide HZN) (unhide HN7).1).mono ?_
  rintro e w8 ⟨⟨c', rfl, hcc'⟩, hb8⟩
  obtain rfl := hcc'.one (unhide HCC)
  have hne : (c' != c') = false := by simp
  have HSC := hide ((unhide HS7).below hb8)
  have HBC := hide ((unhide HB7).trans (hb8.mono (unhide HB7).size))
  have HF := hide ((unhide HF7).below hb8 (unhide HF7).1)
  have HN := hide ((unhide HN7).below hb8 (unhide HN7).1)
  clear HS7 HB7 HF7 HN7 hb8 hcc' k6 k7
  go_wp2_with fail
  replace HSC := hide ((unhide HSC).below (Below.refl _ _).drew)
  replace HBC := hide (unhide HBC).drew
  replace HF := hide ((unhide HF).below (Below.refl _ _).drew (unhide HF).1)
  replace HN := hide ((unhide HN).below (Below.refl _ _).drew (unhide HN).1)
  go_region_held (fun w' => w'.cell? ⟨w.heap.size, 0, none⟩ = some (.slice a xs.length cap) ∧ w'.cell? ⟨w6.heap.size, 0, none⟩ = some (.slice (some ⟨g6, 0, none⟩) xs.length xs.length)) (first | (go_keep; done) | exact ⟨(unhide HSC) (w.heap.size, 0, .slice a xs.length cap) (by simp), (unhide HSC) (w6.heap.size, 0, .slice (some ⟨g6, 0, none⟩) xs.length xs.length) (by simp)⟩)
    (first | (go_at_call 12; have HX := toTable_inL (w := w) a cap xs _ hnx (unhide HA) (unhide HBC); refine HX.mono ?_; clear HX; rintro e w9 ⟨⟨g9, rfl, hg9, hf9⟩, hb9⟩; replace HSC := hide ((unhide HSC).below hb9); replace HBC := hide ((unhide HBC).trans (hb9.mono (unhide HBC).size)); replace HF := hide ((unhide HF).below hb9 (unhide HF).1); replace HN := hide ((unhide HN).below hb9 (unhide HN).1); clear hb9 hg9) | (go_at_call 14; have HX := eqTable_same g6 0 g9 0 xs.length xs.length xs _ hnx (unhide HF).ops (unhide hf9).ops (unhide HF).1 (unhide hf9).1; refine HX.mono ?_; clear HX; rintro e w10 ⟨rfl, hb10⟩; replace HSC := hide ((unhide HSC).below hb10); replace HBC := hide ((unhide HBC).trans (hb10.mono (unhide HBC).size)); replace HN := hide ((unhide HN).below hb10 (unhide HN).1); clear hb10))
  clear hf9 HF
  go_wp2_with fail
  replace HSC := hide ((unhide HSC).below (Below.refl _ _).drew)
  replace HBC := hide (unhide HBC).drew
  replace HN := hide ((unhide HN).below (Below.refl _ _).drew (unhide HN).1)
  go_region_held (fun w' => w'.cell? ⟨w.heap.size + 1, 0, none⟩ = some (.slice a' ns.length cap') ∧ w'.cell? ⟨w7.heap.size, 0, none⟩ = some (.slice (some ⟨g7, 0, none⟩) ns.length ns.length)) (first | (go_keep; done) | exact ⟨(unhide HSC) (w.heap.size + 1, 0, .slice a' ns.length cap') (by simp), (unhide HSC) (w7.heap.size, 0, .slice (some ⟨g7, 0, none⟩) ns.length ns.length) (by simp)⟩)
    (first | (go_at_call 33; have HX := toTree_in (w := w) a' cap' ns _ hnn (unhide HAN) (unhide HBC); refine HX.mono ?_; clear HX; rintro e w11 ⟨⟨g11, rfl, hg11, hgl11, hf11⟩, hb11⟩; replace HSC := hide ((unhide HSC).below hb11); replace HBC := hide ((unhide HBC).trans (hb11.mono (unhide HBC).size)); replace HN := hide ((unhide HN).below hb11 (unhide HN).1); clear hb11 hg11) | (go_at_call 35; have HX := eqTree_arg (some ⟨g7, 0, none⟩) (some ⟨g11, 0, none⟩) ns.length ns.length ns _ hnn (unhide HN).arg (unhide hf11).arg; refine HX.mono ?_; clear HX; rintro e w12 ⟨rfl, hb12⟩; replace HSC := hide ((unhide HSC).below hb12); replace HBC := hide ((unhide HBC).trans (hb12.mono (unhide HBC).size)); clear hb12))
  go_wp2_with fail
  go_ret
  exact ⟨rfl, unhide HBC⟩
end Go.Proofs.Ytokabkhnidlcnab

/-
  A list of Node that comes in, opened. Written by wip/shape.py.
-/
namespace Go.Proofs.Ytokabkhnidlcnab
set_option maxRecDepth 100000
open Go.ChangeShapes Go.WideShapes Go.ChangeAt Go.RowKit Go.Joins
open Go.Deep (trod_struct3)

theorem OpnN.cells9 : Try.prog.cellsOf 9 = 1 := by kernel_rfl
theorem OpnN.cells3 : Try.prog.cellsOf 3 = 1 := by kernel_rfl
theorem OpnN.cellsE : Try.prog.cellsOf 144 = 4 := by kernel_rfl

/-- The fields fit their types. -/
def FineN (o : NodeR) : Prop := (Lit.int .i64 o.k).wf = true ∧ o.t.size ≤ maxLen ∧ (Lit.int .i64 o.a).wf = true ∧ (Lit.int .i64 o.b).wf = true
def AllFineN (xs : List NodeR) : Prop := ∀ i, i < xs.length → FineN (atN xs i)
theorem AllFineN.sized {xs : List NodeR} (h : AllFineN xs) : SizedN xs := fun i hi => (h i hi).2.1

section
variable {H : Type} {enc : TypeId × Value → H} {W : World} {base : Nat} {spare : Nat → Bool} {held : Bool}

set_option maxRecDepth 100000 in
theorem open_elN {n : Nat} {cs : List Value} {x : DataW H × List MemPlace} (h : DataW.trod enc Try.prog W base spare held n 144 cs = some x) :
    ∃ o : NodeR, cs = [.int .i64 o.k, .string o.t, .int .i64 o.a, .int .i64 o.b] ∧ FineN o := by
  obtain ⟨y0, y1, y2, y3, m, _, hlen, g0, g1, g2, g3⟩ := trod_struct4 Try.underlying144 h
  rw [OpnN.cellsE] at hlen
  match cs, hlen with
  | [c0, c1, c2, c3], _ =>
    simp only [OpnN.cells9, OpnN.cells3] at g0 g1 g2 g3
    obtain ⟨v0, e0, _, w0⟩ := DataW.trod_int Try.underlying3 g0
    obtain ⟨v1, e1, _, w1⟩ := DataW.trod_string Try.underlying9 g1
    obtain ⟨v2, e2, _, w2⟩ := DataW.trod_int Try.underlying3 g2
    obtain ⟨v3, e3, _, w3⟩ := DataW.trod_int Try.underlying3 g3
    simp at e0 e1 e2 e3
    subst e0 e1 e2 e3
    exact ⟨⟨v0, v1, v2, v3⟩, rfl, w0, w1, w2, w3⟩

theorem addr_spotN {x : Addr} {v : Value} (h : W.cell? (x.add 0) = some v) : x = ⟨x.block, x.off, none⟩ := by
  obtain ⟨b, off, spot⟩ := x
  have hs : spot = none := by
    have := World.cell?_spot h
    simpa [Addr.add] using this
  subst hs
  rfl

theorem open_listN {fuel : Nat} {cs : List Value} {x : DataW H × List MemPlace} (h : DataW.trod enc Try.prog W 0 (fun _ => true) held fuel 51 cs = some x) :
    ∃ (a : Option Addr) (cap : Nat) (xs : List NodeR), cs = [.slice a xs.length cap] ∧ xs.length ≤ maxLen ∧ ArgN W a xs ∧ AllFineN xs := by
  rcases Go.Deep.open_slice Try.underlying51 h with ⟨rfl, _⟩ | ⟨a, len, cap, m, n, D, Pl, rfl, _, hl, hm, hmm, _, hx⟩
  · exact ⟨none, 0, [], rfl, Nat.zero_le _, Or.inl rfl, fun i hi => absurd hi (Nat.not_lt_zero i)⟩
  have hlm : len ≤ m := by rw [hmm]; simpa using hl
  rw [OpnN.cellsE] at hx
  have each : ∀ i, i < len → ∃ o : NodeR, (W.cell? (a.add (i * 4)) = some (.int .i64 o.k) ∧ W.cell? (a.add (i * 4 + 1)) = some (.string o.t) ∧ W.cell? (a.add (i * 4 + 2)) = some (.int .i64 o.a) ∧ W.cell? (a.add (i * 4 + 3)) = some (.int .i64 o.b)) ∧ FineN o := by
    intro i hi
    obtain ⟨cs', h1, h2⟩ := hx i (by omega)
    obtain ⟨_, hlen, hcell⟩ := World.cells?_some h1
    obtain ⟨o, rfl, ho⟩ := open_elN h2
    have e0 := hcell 0 (by omega)
    have e1 := hcell 1 (by omega)
    have e2 := hcell 2 (by omega)
    have e3 := hcell 3 (by omega)
    rw [Go.Deep.add_add] at e0 e1 e2 e3
    exact ⟨o, ⟨by simpa using e0, by simpa using e1, by simpa using e2, by simpa using e3⟩, ho⟩
  obtain ⟨f, hf⟩ := @Go.Deep.choose_lt NodeR ⟨NodeR.zero⟩ len _ each
  have hlx : ((List.range len).map f).length = len := by simp
  have hat : ∀ i, i < len → atN ((List.range len).map f) i = f i := fun i hi => by simp [atN, hi]
  refine ⟨some a, cap, (List.range len).map f, by rw [hlx], by rw [hlx]; omega, ?_, fun i hi => by rw [hlx] at hi; rw [hat i hi]; exact (hf i hi).2⟩
  by_cases h0 : len = 0
  · exact Or.inl (by rw [hlx]; exact h0)
  · have hs := addr_spotN (show W.cell? (a.add 0) = _ from (hf 0 (by omega)).1.1)
    refine Or.inr ⟨a.block, a.off, by rw [← hs], fun i hi => ?_, ?_⟩
    · rw [hlx] at hi
      obtain ⟨⟨e0, e1, e2, e3⟩, _⟩ := hf i hi
      rw [hs, Addr.add_mid] at e0 e1 e2 e3
      unfold CellsN
      rw [hat i hi]
      exact ⟨e0, by simpa [Nat.add_assoc] using e1, by simpa [Nat.add_assoc] using e2, by simpa [Nat.add_assoc] using e3⟩
    · have := block_lt_of_cell (show W.cell? (a.add 0) = _ from (hf 0 (by omega)).1.1)
      simpa [Addr.add] using this
end
end Go.Proofs.Ytokabkhnidlcnab
