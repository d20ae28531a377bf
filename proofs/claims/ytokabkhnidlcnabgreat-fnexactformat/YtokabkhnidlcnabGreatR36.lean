import Derived.ProofKit
import Derived.Lib.SmallJoins
import Derived.Deep.Slices
import Derived.Test.YtokabkhnidlcnabGreatR00
import Derived.Test.YtokabkhnidlcnabGreatR33
import Derived.Test.YtokabkhnidlcnabGreatR34
import Derived.Test.YtokabkhnidlcnabGreatR35

/-
  What a law over tables and trees keeps in memory.
-/
namespace Go.Proofs.YtokabkhnidlcnabGreat
set_option maxRecDepth 100000
set_option linter.unusedSimpArgs false
set_option linter.unusedVariables false
open Go.RowKit

/-- Cells, rows of operators and rows of nodes, in a world that has grown out of w. -/
structure StG (w wc : World) (cs : List (Nat × Value)) (os : List (Nat × List OpR)) (rs : List (Option Addr × List NodeR)) : Prop where
  tree : StT w wc cs rs
  ops : ∀ r ∈ os, Filled wc r.1 r.2 r.2.length

theorem StG.start (w : World) : StG w w [] [] [] := ⟨StT.start w, fun r hr => (by cases hr)⟩
theorem StG.step {w wc w' : World} {cs : List (Nat × Value)} {os : List (Nat × List OpR)} {rs : List (Option Addr × List NodeR)} (h : StG w wc cs os rs) (hb : Below wc.heap.size wc w') : StG w w' cs os rs :=
  ⟨h.tree.step hb, fun r hr => (h.ops r hr).below hb (h.ops r hr).1⟩
theorem StG.drew {w wc : World} {cs : List (Nat × Value)} {os : List (Nat × List OpR)} {rs : List (Option Addr × List NodeR)} (h : StG w wc cs os rs) : StG w wc.drew cs os rs := h.step (Below.refl _ _).drew
theorem StG.alloc {w wc : World} {cs : List (Nat × Value)} {os : List (Nat × List OpR)} {rs : List (Option Addr × List NodeR)} (h : StG w wc cs os rs) (v : Value) (t : TypeId) : StG w (wc.alloc (.cells #[v] t)) ((wc.heap.size, v) :: cs) os rs :=
  ⟨h.tree.alloc v t, fun r hr => (h.ops r hr).below (below1 _ _) (h.ops r hr).1⟩
theorem StG.addr {w wc : World} {cs : List (Nat × Value)} {os : List (Nat × List OpR)} {rs : List (Option Addr × List NodeR)} (h : StG w wc cs os rs) {n : Nat} {a : Option Addr} {us : List NodeR} (hf : OwnedN wc n a us) : StG w wc cs os ((a, us) :: rs) := ⟨h.tree.addr hf, h.ops⟩
theorem StG.addo {w wc : World} {cs : List (Nat × Value)} {os : List (Nat × List OpR)} {rs : List (Option Addr × List NodeR)} (h : StG w wc cs os rs) {g : Nat} {xs : List OpR} (hf : Filled wc g xs xs.length) : StG w wc cs ((g, xs) :: os) rs :=
  ⟨h.tree, fun r hr => by
    rcases List.mem_cons.1 hr with rfl | hr
    · exact hf
    · exact h.ops r hr⟩
theorem StG.addc {w wc : World} {cs : List (Nat × Value)} {os : List (Nat × List OpR)} {rs : List (Option Addr × List NodeR)} (h : StG w wc cs os rs) {b : Nat} {v : Value} (hc : wc.cell? ⟨b, 0, none⟩ = some v) : StG w wc ((b, v) :: cs) os rs := ⟨h.tree.addc hc, h.ops⟩
theorem StG.sub {w wc : World} {cs cs' : List (Nat × Value)} {os os' : List (Nat × List OpR)} {rs rs' : List (Option Addr × List NodeR)} (h : StG w wc cs os rs) (hc : ∀ p ∈ cs', p ∈ cs) (ho : ∀ r ∈ os', r ∈ os) (hr : ∀ r ∈ rs', r ∈ rs) : StG w wc cs' os' rs' :=
  ⟨h.tree.sub hc hr, fun r h' => h.ops r (ho r h')⟩
theorem StG.grown {w wc w' : World} {cs : List (Nat × Value)} {os : List (Nat × List OpR)} {rs : List (Option Addr × List NodeR)} {row : Option Nat} (h : StG w wc cs os rs) (hg : wc.grownBy w' row) (hr : ∀ k, row = some k → w.heap.size ≤ k ∧ (∀ p ∈ cs, p.1 ≠ k) ∧ (∀ r ∈ os, r.1 ≠ k) ∧ ∀ r ∈ rs, r.1.map (·.block) ≠ some k) : StG w w' cs os rs :=
  ⟨h.tree.grown hg (fun k hk => ⟨(hr k hk).1, (hr k hk).2.1, (hr k hk).2.2.2⟩), fun r h' => (h.ops r h').grownW hg (fun e => (hr r.1 e.symm).2.2.1 r h' rfl)⟩
theorem StG.bel {w wc : World} {cs : List (Nat × Value)} {os : List (Nat × List OpR)} {rs : List (Option Addr × List NodeR)} (h : StG w wc cs os rs) : Below w.heap.size w wc := h.tree.bel
theorem StG.cell {w wc : World} {cs : List (Nat × Value)} {os : List (Nat × List OpR)} {rs : List (Option Addr × List NodeR)} (h : StG w wc cs os rs) (p : Nat × Value) (hp : p ∈ cs) : wc.cell? ⟨p.1, 0, none⟩ = some p.2 := h.tree.cells p hp
theorem StG.lt {w wc : World} {cs : List (Nat × Value)} {os : List (Nat × List OpR)} {rs : List (Option Addr × List NodeR)} (h : StG w wc cs os rs) : ∀ p ∈ cs, p.1 < wc.heap.size := h.tree.lt

/-- A store into a variable of one cell. -/
theorem StG.store {w wc : World} {cs : List (Nat × Value)} {os : List (Nat × List OpR)} {rs : List (Option Addr × List NodeR)} (h : StG w wc cs os rs) {b : Nat} {u : Value} (v : Value) (hc : wc.cell? ⟨b, 0, none⟩ = some u) (h1 : w.heap.size ≤ b) (h2 : ∀ p ∈ cs, p.1 ≠ b) (h3 : ∀ r ∈ os, r.1 ≠ b) (h4 : ∀ r ∈ rs, r.1.map (·.block) ≠ some b) : StG w (wc.setCell ⟨b, 0, none⟩ v) ((b, v) :: cs) os rs :=
  (h.grown (w' := wc.setCell ⟨b, 0, none⟩ v) (row := some b) (⟨rfl, rfl, rfl, by simp [World.setCell], fun i _ hi => Below.heap_setCell _ _ _ _ (fun e => hi (by rw [e]))⟩ : wc.grownBy (wc.setCell ⟨b, 0, none⟩ v) (some b)) (fun k hk => by
    injection hk with hk
    subst hk
    exact ⟨h1, h2, h3, h4⟩)).addc (World.cell?_setCell_same wc ⟨b, 0, none⟩ v hc)

/-- A copy of a table, in whatever state. -/
theorem toTableG {w W : World} {cs : List (Nat × Value)} {os : List (Nat × List OpR)} {rs : List (Option Addr × List NodeR)} (a : Option Addr) (cap : Nat) (xs : List OpR) (hm : xs.length ≤ 1048576) (ha : Arg w a xs) (hs : StG w W cs os rs) :
    Calls Tryz.prog 8 #[.agg #[.slice a xs.length cap]] W fun e w' => ∃ g, e = .returned (.agg #[.slice (some ⟨g, 0, none⟩) xs.length xs.length]) ∧ W.heap.size ≤ g ∧ g < w'.heap.size ∧ Below W.heap.size W w' ∧ Hid (StG w w' cs ((g, xs) :: os) rs) := by
  refine (toTable_inL (w := w) a cap xs W hm ha hs.bel).mono ?_
  rintro e w' ⟨⟨g, rfl, hg, hf⟩, hb⟩
  exact ⟨g, rfl, hg, (unhide hf).1, hb, hide ((hs.step hb).addo (unhide hf))⟩

theorem owned_some {w : World} {g : Nat} {xs : List NodeR} (h : OwnedN w 0 (some ⟨g, 0, none⟩) xs) : FilledN w g xs xs.length := by
  rcases h with ⟨_, h⟩ | ⟨g', h, _, h'⟩
  · simp at h
  · simp at h; subst h; exact h'

theorem StG.row {w wc : World} {cs : List (Nat × Value)} {os : List (Nat × List OpR)} {rs : List (Option Addr × List NodeR)} (h : StG w wc cs os rs) {g : Nat} {xs : List NodeR} (hr : (some ⟨g, 0, none⟩, xs) ∈ rs) : FilledN wc g xs xs.length := by
  rcases h.tree.rows _ hr with ⟨_, h⟩ | ⟨g', h, _, h'⟩
  · simp at h
  · simp at h; subst h; exact h'
end Go.Proofs.YtokabkhnidlcnabGreat

/-
  Walk: the law of Parse.
-/
namespace Go.Proofs.YtokabkhnidlcnabGreat
set_option maxRecDepth 100000
set_option linter.unusedSimpArgs false
set_option linter.unusedVariables false
open Go.RowKit Go.Maps
attribute [local simp] heap_drew

theorem ReadIs.len {ns : List OpR} {ts : List TokR} {us : List NodeR} {c p : Int} (hv : IsCode ns 0) (hf : FitTo ns ts ts.length) (hl : 0 < ts.length ∧ (atT ts (ts.length - 1)).k = 7) (h : ReadIs ns ts us c p) : us.length ≤ ts.length := by
  rcases h with ⟨_, rfl, _⟩ | ⟨T, r, hr, ⟨_, rfl, _⟩ | ⟨_, rfl, _⟩⟩
  · simp
  · simp
  · have hfe := fit_all hf hl 0 hl.1
    rw [Nat.sub_zero] at hfe
    have h1 := rd_sound hv _ _ none _ 0 _ (by omega) hfe (fun L e => by cases e) hr
    have e := congrArg List.length h1.2.2.2.2
    simp only [yM, List.nil_append, List.length_append] at e
    rw [sgs_len] at e
    have := tsz_le T h1.2.1
    rw [nd_len]
    omega

theorem ParseIs.len {ns : List OpR} {s : ByteArray} {us : List NodeR} {c p : Int} (h : ParseIs ns s us c p) : us.length ≤ 20001 := by
  rcases h with ⟨_, rfl, _⟩ | ⟨hv, ⟨_, rfl, _⟩ | ⟨h20, ts, hx, ⟨i, _, _, _, rfl, _⟩ | ⟨hno, ⟨i, _, _, _, rfl, _⟩ | ⟨hf, h⟩⟩⟩⟩
  · simp
  · simp
  · simp
  · simp
  · have := h.len hv hf (lexed_last ts 0 hx)
    have := (lexed_all hx).2.1
    omega

theorem specParseG {w W : World} {cs : List (Nat × Value)} {os : List (Nat × List OpR)} {rs : List (Option Addr × List NodeR)} (g3 c3 : Nat) (ns : List OpR) (s : ByteArray) (hm : ns.length ≤ 1048576) (hsz : Sized ns) (hss : s.size ≤ 1048576) (h3 : (g3, ns) ∈ os) (hs : StG w W cs os rs) :
    Calls Tryz.prog 7 #[.agg #[.slice (some ⟨g3, 0, none⟩) ns.length c3], .string s] W fun e w' => ∃ a c us cd pl, e = .returned (.tuple #[.agg #[.slice a us.length c], .int .i64 cd, .int .i64 pl]) ∧ Hid (ParseIs ns s us cd pl) ∧ Hid (∀ k, a.map (·.block) = some k → W.heap.size ≤ k ∧ k < w'.heap.size) ∧ Below W.heap.size W w' ∧ Hid (StG w w' cs os ((a, us) :: rs)) := by
  refine (specParse_any g3 0 c3 ns s W hm (hs.ops _ h3).ops hsz (hs.ops _ h3).1 hss).mono ?_
  rintro e w' ⟨⟨a, c, us, cd, pl, rfl, ho, hp⟩, hb⟩
  exact ⟨a, c, us, cd, pl, rfl, hp, hide (unhide ho).lt, hb, hide ((hs.step hb).addr (unhide ho))⟩

theorem implParseG {w W : World} {cs : List (Nat × Value)} {os : List (Nat × List OpR)} {rs : List (Option Addr × List NodeR)} (g3 c3 : Nat) (ns : List OpR) (s : ByteArray) (us : List NodeR) (cd pl : Int) (hm : ns.length ≤ 1048576) (hsz : Sized ns) (hss : s.size ≤ 1048576) (h3 : (g3, ns) ∈ os) (hu : ParseIs ns s us cd pl) (hs : StG w W cs os rs) :
    Calls Tryz.prog 9 #[.agg #[.slice (some ⟨g3, 0, none⟩) ns.length c3], .string s] W fun e w' => ∃ a c, e = .returned (.tuple #[.agg #[.slice a us.length c], .int .i64 cd, .int .i64 pl]) ∧ Hid (∀ k, a.map (·.block) = some k → W.heap.size ≤ k ∧ k < w'.heap.size) ∧ Below W.heap.size W w' ∧ Hid (StG w w' cs os ((a, us) :: rs)) := by
  refine (implParse_any g3 0 c3 ns s W hm (hs.ops _ h3).ops hsz (hs.ops _ h3).1 hss).mono ?_
  rintro e w' ⟨⟨a, c, us', cd', pl', rfl, ho, hp⟩, hb⟩
  obtain ⟨rfl, rfl, rfl⟩ := (unhide hp).one hu
  exact ⟨a, c, rfl, hide (unhide ho).lt, hb, hide ((hs.step hb).addr (unhide ho))⟩

set_option maxHeartbeats 16000000 in
theorem lawParse (a : Option Addr) (cap : Nat) (xs : List OpR) (s : ByteArray) (w : World) (hm : xs.length ≤ maxLen) (hw : Arg w a xs) (hsz : Sized xs) (hs : s.size ≤ maxLen) :
    Calls Tryz.prog 3 #[.agg #[.slice a xs.length cap], .string s] w fun e w' => e = .returned (.bool true) ∧ Below w.heap.size w w' := by
  have HA := hide hw
  have HZ := hide hsz
  unfold maxLen at hs
  have HS0 := hide (show StG w (w.alloc (.cells #[.slice a xs.length cap] 24)) [(w.heap.size, .slice a xs.length cap)] [] [] from (StG.start w).alloc _ _)
  clear hw hsz
  by_cases hbig : 1048576 < s.size
  · have hbig' : (1048576 : Int) < (s.size : Int) := by omega
    go_enter Tryz.func3, Tryz.ntmps3
    go_wp2_with fail
    go_ret
    exact ⟨rfl, below1 _ _⟩
  have hbig' : ¬ (1048576 : Int) < (s.size : Int) := by omega
  have hss : s.size ≤ 1048576 := by omega
  go_enter Tryz.func3, Tryz.ntmps3
  go_wp2_with fail
  refine (szTable_any a cap xs _ _ hm ((unhide HA).below (unhide HS0).bel) (unhide HZ) (by decide) (by decide)).mono ?_
  rintro e w1 ⟨⟨r, rfl, hr⟩, hb1⟩
  have HS1 := hide ((unhide HS0).step hb1)
  have bel1 := (unhide HS1).bel
  clear HS0 hb1
  by_cases hr0 : r < 0
  · go_wp2_with fail
    go_ret
    exact ⟨rfl, bel1⟩
  have hnx : xs.length ≤ 1048576 := by unfold Left at hr; omega
  have e0 := (unhide HS1).cell (w.heap.size, .slice a xs.length cap) (by simp)
  simp only at e0
  clear hr
  go_wp2_with fail
  refine (toTableG (w := w) a cap xs hnx (unhide HA) (unhide HS1)).mono ?_
  rintro e w2 ⟨g2, rfl, hg2, hg2l, hb2, HS2⟩
  have z2 := hb2.size
  have z0 := (unhide HS1).lt (w.heap.size, .slice a xs.length cap) (by simp)
  simp only at z0
  clear HS1 hb2 e0 bel1
  go_wp2_with fail
  refine (specParseG (w := w) g2 xs.length xs s hnx (unhide HZ) hss (by simp) (unhide HS2)).mono ?_
  rintro e w3 ⟨aw, cw, us, cd, pl, rfl, HU, HLW, hb3, hs3⟩
  have z3 := hb3.size
  have HS3 := hide (((unhide hs3).sub (cs' := [(w.heap.size, .slice a xs.length cap)]) (os' := []) (rs' := [(aw, us)]) (by simp) (by simp) (by simp)).alloc (.slice aw us.length cw) 28)
  have hul : us.length ≤ 20001 := (unhide HU).len
  have hul' : us.length ≤ 1048576 := by omega
  clear HS2 hb3 hs3
  have e0 := (unhide HS3).cell (w.heap.size, .slice a xs.length cap) (by simp)
  simp only at e0
  go_wp2_with fail
  refine (toTableG (w := w) a cap xs hnx (unhide HA) (unhide HS3)).mono ?_
  rintro e w4 ⟨g4, rfl, hg4, hg4l, hb4, hs4⟩
  have HS4 := hide ((unhide hs4).alloc (.slice (some ⟨g4, 0, none⟩) xs.length xs.length) 33)
  have z4 : w3.heap.size + 1 ≤ w4.heap.size := by have := hb4.size; simpa using this
  have hg4' : w3.heap.size + 1 ≤ g4 := by simpa using hg4
  clear HS3 hb4 hs4 e0 hg4
  have e4 := (unhide HS4).cell (w4.heap.size, .slice (some ⟨g4, 0, none⟩) xs.length xs.length) (by simp)
  simp only at e4
  go_wp2_with fail
  refine (implParseG (w := w) g4 xs.length xs s us cd pl hnx (unhide HZ) hss (by simp) (unhide HU) (unhide HS4)).mono ?_
  rintro e w5 ⟨a9, c9, rfl, HL9, hb5, hs5⟩
  have HS5 := hide ((unhide hs5).alloc (.slice a9 us.length c9) 28)
  have z5 : w4.heap.size + 1 ≤ w5.heap.size := by have := hb5.size; simpa using this
  have hvc : (cd != cd) = false := by simp
  have hvp : (pl != pl) = false := by simp
  clear HS4 hb5 hs5 e4
  have k6 := (unhide HS5).cell (w3.heap.size, .slice aw us.length cw) (by simp)
  have k9 := (unhide HS5).cell (w5.heap.size, .slice a9 us.length c9) (by simp)
  simp only at k6 k9
  go_wp2_with fail
  refine (eqTree_arg a9 aw c9 cw us _ hul' ((unhide HS5).tree.rows (a9, us) (by simp)).arg ((unhide HS5).tree.rows (aw, us) (by simp)).arg).mono ?_
  rintro e w6 ⟨rfl, hb6⟩
  have HSC := hide ((unhide HS5).step hb6).drew
  have z6 : w5.heap.size + 1 ≤ w6.heap.size := by have := hb6.size; simpa using this
  clear HS5 hb6 k6 k9
  have q0 := (unhide HSC).cell (w.heap.size, .slice a xs.length cap) (by simp)
  have q7 := (unhide HSC).cell (w4.heap.size, .slice (some ⟨g4, 0, none⟩) xs.length xs.length) (by simp)
  simp only at q0 q7
  go_wp2_with fail
  go_region_held (fun w' => w'.cell? ⟨w.heap.size, 0, none⟩ = some (.slice a xs.length cap) ∧ w'.cell? ⟨w4.heap.size, 0, none⟩ = some (.slice (some ⟨g4, 0, none⟩) xs.length xs.length)) (first | (go_keep; done) | exact ⟨(unhide HSC).cell (w.heap.size, .slice a xs.length cap) (by simp), (unhide HSC).cell (w4.heap.size, .slice (some ⟨g4, 0, none⟩) xs.length xs.length) (by simp)⟩)
    (first | (go_at_call 8; have HX := toTableG (w := w) a cap xs hnx (unhide HA) (unhide HSC); refine HX.mono ?_; clear HX; rintro e w11 ⟨g11, rfl, hg11, hg11l, hb11, hs11⟩; replace HSC := hs11; clear hb11 hs11) | (go_at_call 11; have HX := eqTable_same g4 0 g11 0 xs.length xs.length xs _ hnx ((unhide HSC).ops (g4, xs) (by simp)).ops ((unhide HSC).ops (g11, xs) (by simp)).ops ((unhide HSC).ops (g4, xs) (by simp)).1 ((unhide HSC).ops (g11, xs) (by simp)).1; refine HX.mono ?_; clear HX; rintro e w12 ⟨rfl, hb12⟩; replace HSC := hide ((unhide HSC).step hb12); clear hb12))
  clear q0 q7
  have HT := hide ((unhide HSC).sub (cs' := [(w.heap.size, .slice a xs.length cap), (w3.heap.size, .slice aw us.length cw), (w4.heap.size, .slice (some ⟨g4, 0, none⟩) xs.length xs.length), (w5.heap.size, .slice a9 us.length c9)]) (os' := [(g4, xs)]) (rs' := [(a9, us), (aw, us)]) (by simp) (by simp) (by simp))
  clear HSC
  have e7 := (unhide HT).cell (w4.heap.size, .slice (some ⟨g4, 0, none⟩) xs.length xs.length) (by simp)
  simp only at e7
  go_wp2_with fail
  refine (markTable1 g4 xs.length xs _ hnx ((unhide HT).ops (g4, xs) (by simp))).mono ?_
  rintro e w15 ⟨⟨k1, rfl, hk1⟩, hg15⟩
  have HT16 := hide (((unhide HT).sub (cs' := [(w.heap.size, .slice a xs.length cap), (w3.heap.size, .slice aw us.length cw), (w5.heap.size, .slice a9 us.length c9)]) (os' := []) (rs' := [(a9, us), (aw, us)]) (by simp) (by simp) (by simp)).grown hg15 (fun k hk => by
    simp at hk
    subst hk
    refine ⟨by omega, ?_, by simp, ?_⟩
    · simp; omega
    · intro r hr e
      simp only [List.mem_cons, List.not_mem_nil, or_false] at hr
      rcases hr with rfl | rfl
      · have := (unhide HL9) _ e; simp at this; omega
      · have := (unhide HLW) _ e; omega))
  have hk20 : ¬ (k1 : Int) < 0 := by omega
  clear HT hg15 e7 hk1
  have k6 := (unhide HT16).cell (w3.heap.size, .slice aw us.length cw) (by simp)
  have k9 := (unhide HT16).cell (w5.heap.size, .slice a9 us.length c9) (by simp)
  simp only at k6 k9
  go_wp2_with fail
  refine (eqTree_arg a9 aw c9 cw us _ hul' ((unhide HT16).tree.rows (a9, us) (by simp)).arg ((unhide HT16).tree.rows (aw, us) (by simp)).arg).mono ?_
  rintro e w17 ⟨rfl, hb17⟩
  have HT17 := hide ((unhide HT16).step hb17)
  clear HT16 hb17 k6 k9
  have k9 := (unhide HT17).cell (w5.heap.size, .slice a9 us.length c9) (by simp)
  simp only at k9
  go_wp2_with fail
  refine (markTree_own a9 c9 0 us _ hul' ((unhide HT17).tree.rows (a9, us) (by simp))).mono ?_
  rintro e w18 ⟨⟨m1, rfl, hm1⟩, hM18, hg18⟩
  have HT18 := hide (((unhide HT17).sub (cs' := [(w.heap.size, .slice a xs.length cap), (w3.heap.size, .slice aw us.length cw), (w5.heap.size, .slice a9 us.length c9)]) (os' := []) (rs' := [(aw, us)]) (by simp) (by simp) (by simp)).grown hg18 (fun k hk => by
    have h9 := (unhide HL9) k hk
    simp at h9
    refine ⟨by omega, ?_, by simp, ?_⟩
    · simp; omega
    · intro r hr e
      simp only [List.mem_cons, List.not_mem_nil, or_false] at hr
      subst hr
      have := (unhide HLW) _ e; omega))
  clear HT17 hg18 k9
  have k9 := (unhide HT18).cell (w5.heap.size, .slice a9 us.length c9) (by simp)
  simp only at k9
  go_wp2_with fail
  refine (heldTree_own a9 c9 us.length _ hul' (unhide hM18)).mono ?_
  rintro e w19 ⟨⟨q1, rfl, hq1⟩, hb19⟩
  obtain rfl : q1 = m1 := (unhide hq1).trans (unhide hm1).symm
  have HS19 := hide ((unhide HT18).step hb19)
  have HM := hide ((unhide hM18).step hb19)
  have hq10 : ¬ (q1 : Int) < 0 := by omega
  clear HT18 hM18 hb19 hq1 k9
  have e0 := (unhide HS19).cell (w.heap.size, .slice a xs.length cap) (by simp)
  simp only at e0
  go_wp2_with fail
  refine (toTableG (w := w) a cap xs hnx (unhide HA) (unhide HS19)).mono ?_
  rintro e w20 ⟨g20, rfl, hg20, hg20l, hb20, HS20⟩
  have HM20 := hide ((unhide HM).step hb20)
  clear HS19 HM hb20 e0
  go_wp2_with fail
  refine (implParseG (w := w) g20 xs.length xs s us cd pl hnx (unhide HZ) hss (by simp) (unhide HU) (unhide HS20)).mono ?_
  rintro e w21 ⟨ah, ch, rfl, HLH, hb21, hs21⟩
  have HS21 := hide ((unhide hs21).alloc (.slice ah us.length ch) 28)
  have HM21 := hide (((unhide HM20).step hb21).step (below1 w21 (.cells #[.slice ah us.length ch] 28)))
  clear HS20 HM20 hb21 hs21
  have k15 := (unhide HS21).cell (w21.heap.size, .slice ah us.length ch) (by simp)
  have k6 := (unhide HS21).cell (w3.heap.size, .slice aw us.length cw) (by simp)
  simp only at k15 k6
  go_wp2_with fail
  refine (eqTree_arg ah aw ch cw us _ hul' ((unhide HS21).tree.rows (ah, us) (by simp)).arg ((unhide HS21).tree.rows (aw, us) (by simp)).arg).mono ?_
  rintro e w31 ⟨rfl, hb31⟩
  have HS31 := hide ((unhide HS21).step hb31)
  have HM31 := hide ((unhide HM21).step hb31)
  clear HS21 HM21 hb31 k15 k6
  have k9 := (unhide HS31).cell (w5.heap.size, .slice a9 us.length c9) (by simp)
  simp only at k9
  go_wp2_with fail
  refine (heldTree_own a9 c9 us.length _ hul' (unhide HM31)).mono ?_
  rintro e w32 ⟨⟨q2, rfl, hq2⟩, hb32⟩
  obtain rfl : q2 = q1 := (unhide hq2).trans (unhide hm1).symm
  have bel32 := ((unhide HS31).step hb32).bel
  clear HS31 HM31 hb32 hq2 k9
  go_wp2_with fail
  go_ret
  exact ⟨rfl, bel32⟩
end Go.Proofs.YtokabkhnidlcnabGreat

/-
  A table that comes in, opened.
-/
namespace Go.Proofs.YtokabkhnidlcnabGreat
set_option maxRecDepth 100000
open Go.ChangeShapes Go.WideShapes Go.ChangeAt Go.RowKit Go.Joins

theorem Opn.cells9 : Tryz.prog.cellsOf 9 = 1 := by kernel_rfl
theorem Opn.cells3 : Tryz.prog.cellsOf 3 = 1 := by kernel_rfl
theorem Opn.cellsOp : Tryz.prog.cellsOf 102 = 4 := by kernel_rfl
theorem Opn.cellsTable : Tryz.prog.cellsOf 24 = 1 := by kernel_rfl
theorem Opn.cellsOps : Tryz.prog.cellsOf 22 = 1 := by kernel_rfl

section
variable {H : Type} {enc : TypeId × Value → H} {W : World} {base : Nat} {spare : Nat → Bool} {held : Bool}

/-- One operator, from its four cells. -/
theorem open_op {n : Nat} {cs : List Value} {x : DataW H × List MemPlace} (h : DataW.trod enc Tryz.prog W base spare held n 102 cs = some x) :
    ∃ o : OpR, cs = [.string o.s, .int .i64 o.k, .int .i64 o.l, .int .i64 o.sd] ∧ o.s.size ≤ maxLen := by
  obtain ⟨y0, y1, y2, y3, m, _, hlen, t0, t1, t2, t3⟩ := trod_struct4 Tryz.underlying102 h
  rw [Opn.cellsOp] at hlen
  match cs, hlen with
  | [c0, c1, c2, c3], _ =>
    simp only [Opn.cells9, Opn.cells3] at t0 t1 t2 t3
    obtain ⟨s, e0, _, hs⟩ := DataW.trod_string Tryz.underlying9 t0
    obtain ⟨k, e1, _, _⟩ := DataW.trod_int Tryz.underlying3 t1
    obtain ⟨l, e2, _, _⟩ := DataW.trod_int Tryz.underlying3 t2
    obtain ⟨sd, e3, _, _⟩ := DataW.trod_int Tryz.underlying3 t3
    simp at e0 e1 e2 e3
    subst e0 e1 e2 e3
    exact ⟨⟨s, k, l, sd⟩, rfl, hs⟩

theorem addr_spot {x : Addr} {v : Value} (h : W.cell? (x.add 0) = some v) : x = ⟨x.block, x.off, none⟩ := by
  obtain ⟨b, off, spot⟩ := x
  have hs : spot = none := by
    have := World.cell?_spot h
    simpa [Addr.add] using this
  subst hs
  rfl

/-- A slice of operators, opened. -/
theorem open_ops {fuel : Nat} {cs : List Value} {x : DataW H × List MemPlace} (h : DataW.trod enc Tryz.prog W 0 (fun _ => true) held fuel 22 cs = some x) :
    ∃ (a : Option Addr) (cap : Nat) (xs : List OpR), cs = [.slice a xs.length cap] ∧ xs.length ≤ maxLen ∧ Arg W a xs ∧ Sized xs := by
  rcases Go.Deep.open_slice Tryz.underlying22 h with ⟨rfl, _⟩ | ⟨a, len, cap, m, n, D, Pl, rfl, _, hl, hm, hmm, _, hx⟩
  · exact ⟨none, 0, [], rfl, Nat.zero_le _, Or.inl rfl, fun i hi => absurd hi (Nat.not_lt_zero i)⟩
  have hlm : len ≤ m := by rw [hmm]; simpa using hl
  rw [Opn.cellsOp] at hx
  have each : ∀ i, i < len → ∃ o : OpR, (W.cell? (a.add (i * 4)) = some (.string o.s) ∧ W.cell? (a.add (i * 4 + 1)) = some (.int .i64 o.k) ∧ W.cell? (a.add (i * 4 + 2)) = some (.int .i64 o.l) ∧ W.cell? (a.add (i * 4 + 3)) = some (.int .i64 o.sd)) ∧ o.s.size ≤ maxLen := by
    intro i hi
    obtain ⟨cs', h1, h2⟩ := hx i (by omega)
    obtain ⟨_, hlen, hcell⟩ := World.cells?_some h1
    obtain ⟨o, rfl, ho⟩ := open_op h2
    have e0 := hcell 0 (by omega)
    have e1 := hcell 1 (by omega)
    have e2 := hcell 2 (by omega)
    have e3 := hcell 3 (by omega)
    rw [Go.Deep.add_add] at e0 e1 e2 e3
    exact ⟨o, ⟨by simpa using e0, by simpa using e1, by simpa using e2, by simpa using e3⟩, ho⟩
  obtain ⟨f, hf⟩ := @Go.Deep.choose_lt OpR ⟨OpR.zero⟩ len _ each
  have hlx : ((List.range len).map f).length = len := by simp
  have hat : ∀ i, i < len → atO ((List.range len).map f) i = f i := fun i hi => by simp [atO, hi]
  refine ⟨some a, cap, (List.range len).map f, by rw [hlx], by rw [hlx]; omega, ?_, fun i hi => by rw [hlx] at hi; rw [hat i hi]; exact (hf i hi).2⟩
  by_cases h0 : len = 0
  · exact Or.inl (by rw [hlx]; exact h0)
  · have hs := addr_spot (show W.cell? (a.add 0) = _ from (hf 0 (by omega)).1.1)
    refine Or.inr ⟨a.block, a.off, by rw [← hs], fun i hi => ?_, ?_⟩
    · rw [hlx] at hi
      obtain ⟨⟨e0, e1, e2, e3⟩, _⟩ := hf i hi
      rw [hs, Addr.add_mid] at e0 e1 e2 e3
      unfold CellsAt
      rw [hat i hi]
      exact ⟨e0, by simpa [Nat.add_assoc] using e1, by simpa [Nat.add_assoc] using e2, by simpa [Nat.add_assoc] using e3⟩
    · have := block_lt_of_cell (show W.cell? (a.add 0) = _ from (hf 0 (by omega)).1.1)
      simpa [Addr.add] using this

/-- A table, opened. -/
theorem open_table {r : Go.Reach} {b0 : Nat} {v : Value} {d : DataW H} {p : List MemPlace} (hv : Value.okWide Tryz.prog W r b0 24 v) (h : DataW.Trod enc Tryz.prog W 0 (fun _ => true) held 24 v d p) :
    ∃ (a : Option Addr) (cap : Nat) (xs : List OpR), v = .agg #[.slice a xs.length cap] ∧ xs.length ≤ maxLen ∧ Arg W a xs ∧ Sized xs := by
  obtain ⟨cs, rfl, hsz⟩ := okWide_struct Tryz.underlying24 hv
  rw [Opn.cellsTable] at hsz
  obtain ⟨fuel, hf⟩ := h
  obtain ⟨y0, n, _, _, t0⟩ := trod_struct1 Tryz.underlying24 hf
  obtain ⟨l⟩ := cs
  match l, hsz with
  | [c0], _ =>
    simp only [Opn.cellsOps] at t0
    obtain ⟨a, cap, xs, e, h1, h2, h3⟩ := open_ops t0
    simp [Value.cells] at e
    subst e
    exact ⟨a, cap, xs, rfl, h1, h2, h3⟩
end
end Go.Proofs.YtokabkhnidlcnabGreat
