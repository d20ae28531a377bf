import Derived.OpenShut
import Derived.ShutString
import Derived.ChangeOld
import Derived.ChangeMaps5
import Derived.Below
import Derived.Test.YtokabkhnidlcnabGreatR33
import Derived.Test.YtokabkhnidlcnabGreatR36
import Derived.Test.YtokabkhnidlcnabGreatS00
import Derived.Test.YtokabkhnidlcnabGreatS04
import Derived.Test.YtokabkhnidlcnabGreatS09

/-
  Walk: the program's Format.
-/
namespace Go.Proofs.YtokabkhnidlcnabGreat
set_option maxRecDepth 100000
set_option linter.unusedSimpArgs false
set_option linter.unusedVariables false
open Go.RowKit

set_option maxHeartbeats 2000000 in
theorem implFormat_any (b off cap : Nat) (xs : List OpR) (s : ByteArray) (w : World) (hmx : xs.length ≤ 1048576) (hw : Ops w b off xs) (hsz : Sized xs) (hB : b < w.heap.size) (hs : s.size ≤ 1048576) :
    Calls Tryz.prog 20 #[.agg #[.slice (some ⟨b, off, none⟩) xs.length cap], .string s] w fun e w' => (∃ (t : ByteArray) (c p : Int), e = .returned (.tuple #[.string t, .int .i64 c, .int .i64 p]) ∧ Hid (FormIs xs s t c p)) ∧ Below w.heap.size w w' := by
  have HW := hide hw
  have HS := hide hsz
  have hb0 := below1 w (.cells #[.slice (some ⟨b, off, none⟩) xs.length cap] 33)
  have HX := implParse_any b off cap xs s _ hmx (hw.below hb0 hB) hsz (by have := hb0.size; omega) hs
  clear hw hsz
  go_enter Tryz.func20, Tryz.ntmps20
  go_wp2_with fail
  refine HX.mono ?_
  clear HX
  rintro e w1 ⟨⟨a, cc, us, c, p, rfl, ho, hp⟩, hb1⟩
  have bel1 : Below w.heap.size w w1 := hb0.trans (hb1.mono hb0.size)
  have t1 : w1.cell? ⟨w.heap.size, 0, none⟩ = some (.slice (some ⟨b, off, none⟩) xs.length cap) := (hb1.cell (p := ⟨w.heap.size, 0, none⟩) (by simp)).trans (by simp [go_sem])
  have z1 : w.heap.size + 1 ≤ w1.heap.size := by have := hb1.size; simp at this; omega
  clear hb1 hb0
  have hb2 := below1 w1 (.cells #[.slice a us.length cc] 28)
  have bel2 := bel1.trans (hb2.mono bel1.size)
  by_cases hc : c = 0
  case neg =>
    have hc' : (c != 0) = true := by simpa using hc
    have HN := hide (show FormIs xs s ⟨#[]⟩ c p from ⟨us, c, p, unhide hp, Or.inl ⟨hc, rfl, rfl, rfl⟩⟩)
    clear hc ho
    go_wp2_with fail
    refine bodyPost_ret (v := .tuple #[.string ⟨#[]⟩, .int .i64 c, .int .i64 p]) (by simp [results, Tryz.results20, go_sem]) rfl ⟨⟨_, _, _, rfl, HN⟩, bel2⟩
  subst hc
  obtain ⟨hl1, hl2, hsn⟩ := parse_tree (unhide hp)
  obtain ⟨g, rfl, hfl⟩ : ∃ g, a = some ⟨g, 0, none⟩ ∧ FilledN w1 g us us.length := by
    rcases unhide ho with ⟨h0, _⟩ | ⟨g, e, _, hf⟩
    · omega
    · exact ⟨g, e, hf⟩
  have hg := hfl.1
  have t2 := (hb2.cell (p := ⟨w.heap.size, 0, none⟩) (by simp only; omega)).trans t1
  have HX := implPrint_any b off cap g 0 cc xs us _ hmx (by omega) ((unhide HW).below bel2 hB) (unhide HS) (Nat.lt_of_lt_of_le hB bel2.size) (hfl.below hb2 hg).ops hsn (by have := hb2.size; omega)
  clear ho hfl hsn t1 hl1 hl2 hg
  go_wp2_with fail
  refine HX.mono ?_
  clear HX
  rintro e w3 ⟨⟨t, v, rfl, ht⟩, hb3⟩
  have bel3 := bel2.trans (hb3.mono bel2.size)
  have HN := hide (show FormIs xs s t 0 0 from ⟨us, 0, p, unhide hp, Or.inr ⟨rfl, ⟨v, unhide ht⟩, rfl, rfl⟩⟩)
  clear hb3 ht hb2
  go_wp2_with fail
  refine bodyPost_ret (v := .tuple #[.string t, .int .i64 0, .int .i64 0]) (by simp [results, Tryz.results20, go_sem]) rfl ⟨⟨_, _, _, rfl, HN⟩, bel3⟩
end Go.Proofs.YtokabkhnidlcnabGreat

/-
  Walk: the law of Format.
-/
namespace Go.Proofs.YtokabkhnidlcnabGreat
set_option maxRecDepth 100000
set_option linter.unusedSimpArgs false
set_option linter.unusedVariables false
open Go.RowKit Go.Maps
attribute [local simp] heap_drew

set_option maxHeartbeats 8000000 in
theorem lawFormat (a : Option Addr) (cap : Nat) (xs : List OpR) (s : ByteArray) (w : World) (hm : xs.length ≤ maxLen) (hw : Arg w a xs) (hsz : Sized xs) (hs : s.size ≤ maxLen) :
    Calls Tryz.prog 5 #[.agg #[.slice a xs.length cap], .string s] w fun e w' => e = .returned (.bool true) ∧ Below w.heap.size w w' := by
  have HA := hide hw
  have HZ := hide hsz
  unfold maxLen at hs
  have HS0 := hide (show StG w (w.alloc (.cells #[.slice a xs.length cap] 24)) [(w.heap.size, .slice a xs.length cap)] [] [] from (StG.start w).alloc _ _)
  clear hw hsz
  by_cases hbig : 1048576 < s.size
  · have hbig' : (1048576 : Int) < (s.size : Int) := by omega
    go_enter Tryz.func5, Tryz.ntmps5
    go_wp2_with fail
    go_ret
    exact ⟨rfl, below1 _ _⟩
  have hbig' : ¬ (1048576 : Int) < (s.size : Int) := by omega
  have hss : s.size ≤ 1048576 := by omega
  go_enter Tryz.func5, Tryz.ntmps5
  go_wp2_with fail
  refine (szTable_any a cap xs _ _ hm ((unhide HA).below (unhide HS0).bel) (unhide HZ) (by decide) (by decide)).mono ?_
  rintro e w1 ⟨⟨r, rfl, hr⟩, hb1⟩
  have HS1 := hide ((unhide HS0).step hb1)
  have bel1 := (unhide HS1).bel
  clear HS0 hb1
  by_cases hr0 : r < 0
  · go_wp2_with fail
    go_ret
    exact ⟨rfl, bel1⟩
  have hnx : xs.length ≤ 1048576 := by unfold Left at hr; omega
  have e0 := (unhide HS1).cell (w.heap.size, .slice a xs.length cap) (by simp)
  simp only at e0
  clear hr
  go_wp2_with fail
  refine (toTableG (w := w) a cap xs hnx (unhide HA) (unhide HS1)).mono ?_
  rintro e w2 ⟨g2, rfl, hg2, hg2l, hb2, HS2⟩
  have z2 := hb2.size
  have z0 := (unhide HS1).lt (w.heap.size, .slice a xs.length cap) (by simp)
  simp only at z0
  clear HS1 hb2 e0 bel1
  go_wp2_with fail
  refine (specFormat_any g2 0 xs.length xs s _ hnx ((unhide HS2).ops (g2, xs) (by simp)).ops (unhide HZ) ((unhide HS2).ops (g2, xs) (by simp)).1 hss).mono ?_
  rintro e w3 ⟨⟨tx, cd, pl, rfl, HU⟩, hb3⟩
  have z3 := hb3.size
  have HS3 := hide (((unhide HS2).step hb3).sub (cs' := [(w.heap.size, .slice a xs.length cap)]) (os' := []) (rs' := []) (by simp) (by simp) (by simp))
  clear HS2 hb3
  have e0 := (unhide HS3).cell (w.heap.size, .slice a xs.length cap) (by simp)
  simp only at e0
  go_wp2_with fail
  refine (toTableG (w := w) a cap xs hnx (unhide HA) (unhide HS3)).mono ?_
  rintro e w4 ⟨g4, rfl, hg4, hg4l, hb4, hs4⟩
  have HS4 := hide ((unhide hs4).alloc (.slice (some ⟨g4, 0, none⟩) xs.length xs.length) 33)
  have z4 := hb4.size
  clear HS3 hb4 hs4 e0
  have e4 := (unhide HS4).cell (w4.heap.size, .slice (some ⟨g4, 0, none⟩) xs.length xs.length) (by simp)
  simp only at e4
  go_wp2_with fail
  refine (implFormat_any g4 0 xs.length xs s _ hnx ((unhide HS4).ops (g4, xs) (by simp)).ops (unhide HZ) ((unhide HS4).ops (g4, xs) (by simp)).1 hss).mono ?_
  rintro e w5 ⟨⟨tx', cd', pl', rfl, HU'⟩, hb5⟩
  obtain ⟨rfl, rfl, rfl⟩ := (unhide HU').one (unhide HU)
  have HSC := hide ((unhide HS4).step hb5).drew
  have hvc : (cd' != cd') = false := by simp
  have hvp : (pl' != pl') = false := by simp
  clear HS4 hb5 e4 HU'
  have q0 := (unhide HSC).cell (w.heap.size, .slice a xs.length cap) (by simp)
  have q7 := (unhide HSC).cell (w4.heap.size, .slice (some ⟨g4, 0, none⟩) xs.length xs.length) (by simp)
  simp only at q0 q7
  go_wp2_with fail
  go_region_held (fun w' => w'.cell? ⟨w.heap.size, 0, none⟩ = some (.slice a xs.length cap) ∧ w'.cell? ⟨w4.heap.size, 0, none⟩ = some (.slice (some ⟨g4, 0, none⟩) xs.length xs.length)) (first | (go_keep; done) | exact ⟨(unhide HSC).cell (w.heap.size, .slice a xs.length cap) (by simp), (unhide HSC).cell (w4.heap.size, .slice (some ⟨g4, 0, none⟩) xs.length xs.length) (by simp)⟩)
    (first | (go_at_call 8; have HX := toTableG (w := w) a cap xs hnx (unhide HA) (unhide HSC); refine HX.mono ?_; clear HX; rintro e w11 ⟨g11, rfl, hg11, hg11l, hb11, hs11⟩; replace HSC := hs11; clear hb11 hs11) | (go_at_call 11; have HX := eqTable_same g4 0 g11 0 xs.length xs.length xs _ hnx ((unhide HSC).ops (g4, xs) (by simp)).ops ((unhide HSC).ops (g11, xs) (by simp)).ops ((unhide HSC).ops (g4, xs) (by simp)).1 ((unhide HSC).ops (g11, xs) (by simp)).1; refine HX.mono ?_; clear HX; rintro e w12 ⟨rfl, hb12⟩; replace HSC := hide ((unhide HSC).step hb12); clear hb12))
  have bel9 := (unhide HSC).bel
  go_wp2_with fail
  go_ret
  exact ⟨rfl, bel9⟩
end Go.Proofs.YtokabkhnidlcnabGreat

/-
  FnExactFormat: the statement, out of the walk 'lawFormat'.
-/
namespace Go.Proofs.YtokabkhnidlcnabGreat
set_option maxRecDepth 100000
open Go.ChangeShapes Go.WideShapes Go.ChangeAt Go.RowKit Go.Joins
set_option linter.unusedVariables false

theorem FormP.own : ownKnob Tryz.prog.godebug = none := by kernel_rfl

theorem FormP.lifted (os : Os) (started : os.Started) (H : Type) (enc : TypeId × Value → H) :
    ReturnsInHanded {} Tryz.checked os 5 .any (Rows.fnExactFormatSpec.pre6 enc Tryz.prog Tryz.f5 Rows.fnExactFormatRow.domain false) (Rows.fnExactFormatSpec.post enc Tryz.prog Tryz.f5 false true false false) := by
  refine returnsInHanded_of_change (C := Tryz.checked) FormP.own started (by kernel_rfl) Tryz.func5
    (ChangeSpec.witness6 (enc := enc) (C := Tryz.checked) false ⟨#[], #[.agg #[.slice none 0 0], .string ⟨#[]⟩], []⟩ 8 (by kernel_rfl) (by kernel_rfl) (by kernel_rfl) (by kernel_rfl)) ?_
  intro W base args ds gs before hval0 hW hcnd _
  have hval : ∀ (j : Nat) t v, Tryz.f5.params[j]? = some t → args[j]? = some v → Value.okWide Tryz.prog W .any base t v := hval0
  have hW' := hW
  obtain ⟨p, q, hA0, hV, rfl, hfz, hnd⟩ := hW
  have hA : DataW.TrodAll enc Tryz.prog W 0 (fun _ => true) true Tryz.f5.params.toList args.toList ds p := hA0
  rw [Tryz.params5] at hA hval
  obtain ⟨v0, vs0, d0, ds0, p0, q0, hargs, rfl, rfl, h0, r0⟩ := trodAll_cons hA
  obtain ⟨v1, vs1, d1, ds1, p1, q1, rfl, rfl, rfl, h1, r1⟩ := trodAll_cons r0
  obtain ⟨rfl, rfl, rfl⟩ := trodAll_nil r1
  obtain rfl : args = #[v0, v1] := by cases args; simp_all
  obtain ⟨rfl, rfl⟩ := trodVars_none hV
  have k0 := h0
  have k1 := h1
  have lt0 : ∀ x ∈ p0, x.block < W.heap.size := by obtain ⟨m, hm⟩ := k0; exact DataW.trod_lt m _ _ _ hm
  have lt1 : ∀ x ∈ p1, x.block < W.heap.size := by obtain ⟨m, hm⟩ := k1; exact DataW.trod_lt m _ _ _ hm
  obtain ⟨a, cap, xs, rfl, hx1, hx2, hx3⟩ := open_table (hval 0 24 v0 rfl rfl) h0
  obtain ⟨s, rfl, _, _, hs⟩ := Go.ChangeMaps.open_string Tryz.underlying9 (hval 1 9 v1 rfl rfl) h1
  clear hA0 hval0
  refine (lawFormat a cap xs s W hx1 hx2 hx3 hs).mono fun e W' ⟨he, bel⟩ => ?_
  subst he
  exact ⟨_, rfl, _, _, _, [], _, [], hW', trodAll_mk1 (shut_bool Tryz.underlying4 _), (trodAll_cons_mk (Below.trod laidOutT (by kernel_rfl) (of_decide_eq_true (by kernel_rfl)) k0 bel lt0) (trodAll_cons_mk (Below.trod laidOutT (by kernel_rfl) (of_decide_eq_true (by kernel_rfl)) k1 bel lt1) trodAll_mk0)), rfl, bel.frame _, fun h => by cases h⟩

theorem format_holds : Rows.FnExactFormatSaid :=
  OpenClaim.holds_of_wide 5 Tryz.f5 rfl rfl rfl rfl rfl rfl rfl ⟨rfl, rfl, rfl, rfl, rfl⟩ rfl rfl rfl rfl rfl (by kernel_rfl) Tryz.func5 (by kernel_rfl)
    (of_decide_eq_true (by kernel_rfl)) (by unfold Func.isWrapper; first | (rw [if_pos (by decide +kernel)]; kernel_rfl) | (rw [if_neg (by decide +kernel)]; exact ⟨rfl, rfl⟩))
    (fun os started H enc _ => FormP.lifted os started H enc)

#print axioms format_holds
end Go.Proofs.YtokabkhnidlcnabGreat
