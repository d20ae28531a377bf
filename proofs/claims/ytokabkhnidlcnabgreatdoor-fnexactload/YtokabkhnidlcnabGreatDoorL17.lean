import Derived.Test.YtokabkhnidlcnabGreatDoorL11
import Derived.Test.YtokabkhnidlcnabGreatDoorL14
import Derived.Test.YtokabkhnidlcnabGreatDoorL15
import Derived.Test.YtokabkhnidlcnabGreatDoorL16

/-
  The operators of a module; steps, ways and ranks.
-/
namespace Go.Proofs.YtokabkhnidlcnabGreatDoor
set_option maxRecDepth 100000
set_option linter.unusedSimpArgs false
set_option linter.unusedVariables false

/-- An operator that a header may declare. -/
def OpSm (o : OpR) : Prop := o.s.size ≤ 20000 ∧ (1 ≤ o.k ∧ o.k ≤ 3) ∧ (0 ≤ o.l ∧ o.l < 1000000) ∧ (0 ≤ o.sd ∧ o.sd ≤ 3)

theorem OpW.small {ws : List ByteArray} {o : OpR} (h : OpW ws o) (hs : ∀ x ∈ ws, x.size ≤ 20000) : OpSm o := by
  obtain ⟨k, t, l, hl, h⟩ := h
  have hv : valTo l l.size < 1000000 := by
    have h1 := valTo_le l hl.2.2 l.size (Nat.le_refl _)
    have h2 : 10 ^ l.size ≤ 10 ^ 6 := Nat.pow_le_pow_right (by decide) hl.2.1
    omega
  rcases h with ⟨rfl, h⟩ | ⟨sd, rfl, _, hne, rfl⟩
  · rcases h with ⟨_, rfl⟩ | ⟨_, rfl⟩
    · exact ⟨hs t (by simp), ⟨by simp, by simp⟩, ⟨by simp, by simp; omega⟩, ⟨by simp, by simp⟩⟩
    · exact ⟨hs t (by simp), ⟨by simp, by simp⟩, ⟨by simp, by simp; omega⟩, ⟨by simp, by simp⟩⟩
  · refine ⟨hs t (by simp), ⟨by simp, by simp⟩, ⟨by simp, by simp; omega⟩, ?_⟩
    rcases side_cases sd with e | e | e | e <;> simp [e]

theorem UnF.small {s : ByteArray} (hs : s.size ≤ 20000) : ∀ (ls : List (Nat × Nat)) (n : Nat) (us : List ByteArray) (os : List OpR) {u : List ByteArray} {o : List OpR} {b : ByteArray} {c l : Int}, UnF s ls n us os u o b c l → (∀ x ∈ os, OpSm x) → ∀ x ∈ o, OpSm x
  | [], n, us, os, _, _, _, _, _, h => by
    obtain ⟨rfl, rfl, rfl, rfl, rfl⟩ := h
    exact fun _ x hx => by cases hx
  | p :: r, n, us, os, u, o, b, c, l, h => by
    rcases h with ⟨_, rfl, rfl, rfl, rfl, rfl⟩ | ⟨_, ⟨us', os', hl, h⟩ | ⟨_, rfl, rfl, rfl, rfl, rfl⟩⟩
    · exact fun h => h
    · intro h0
      refine UnF.small hs r (n + 1) us' os' h ?_
      rcases hl with ⟨_, rfl, rfl⟩ | ⟨x, hx, rfl, rfl⟩ | ⟨o', ho, rfl, rfl⟩
      · exact h0
      · exact h0
      · intro x hx
        rcases List.mem_append.1 hx with hx | hx
        · exact h0 x hx
        · simp at hx
          subst hx
          refine ho.small (fun z hz => ?_)
          unfold wds at hz
          obtain ⟨q, _, rfl⟩ := List.mem_map.1 hz
          simp only [ByteArray.size_extract]
          omega
    · exact fun _ x hx => by cases hx

theorem unit_small {s : ByteArray} {u : List ByteArray} {o : List OpR} {b : ByteArray} {c l : Int} (h : UnitIs s u o b c l) : ∀ x ∈ o, OpSm x := by
  rcases h with ⟨_, rfl, rfl, rfl, rfl, rfl⟩ | ⟨h0, h⟩
  · exact fun x hx => by cases hx
  · exact UnF.small h0 _ _ _ _ h (fun x hx => by cases hx)

theorem UnitsOf.small {ms : List ModR} {U : List UnR} (h : UnitsOf ms U) : ∀ o ∈ allOps U, OpSm o := by
  intro o ho
  obtain ⟨u, hu, ho⟩ := List.mem_flatMap.1 ho
  obtain ⟨i, hi, rfl⟩ := mem_atU hu
  exact unit_small (h.2 i (by rw [← h.1]; exact hi)) o ho

theorem small_sized {xs : List OpR} (h : ∀ o ∈ xs, OpSm o) : Sized xs := fun i hi => by
  have := (h _ (atO_mem hi)).1
  unfold maxLen
  omega

theorem mat0_edg {ms : List ModR} {U : List UnR} (h3 : ∀ i, i < ms.length → ¬ B3 ms i) (i j : Nat) : mat0 ms U i j = true ↔ Edg ms U i j := by
  unfold mat0 Edg
  simp only [Bool.and_eq_true, decide_eq_true_eq, List.any_eq_true, beq_iff_eq]
  constructor
  · rintro ⟨h1, h2, u, hu, rfl⟩
    exact ⟨h1, h2, by rw [(nmF_spec ms u).1 h2]; exact hu⟩
  · rintro ⟨h1, h2, h⟩
    refine ⟨h1, h2, _, h, ?_⟩
    exact nmF_one h2 rfl (fun q hq e => h3 j h2 ⟨q, hq, e⟩)

theorem reach_is {ms : List ModR} {U : List UnR} (h3 : ∀ i, i < ms.length → ¬ B3 ms i) (i j : Nat) : wrN (mat0 ms U) ms.length i j = true ↔ TC (Edg ms U) i j :=
  wrN_is (mat0_edg h3) (fun i j h => ⟨h.1, h.2.1⟩) i j

theorem use_edg {ms : List ModR} {U : List UnR} {i : Nat} (hi : i < ms.length) (h4 : ¬ B4 ms U i) {u : ByteArray} (hu : u ∈ (atU U i).us) : nmF ms u < ms.length ∧ Edg ms U i (nmF ms u) := by
  have hle := nmF_le ms u
  have hlt : nmF ms u < ms.length := by
    by_cases e : nmF ms u < ms.length
    · exact e
    · exact absurd ⟨u, hu, fun j hj => (nmF_spec ms u).2 j (by omega)⟩ h4
  exact ⟨hlt, hi, hlt, by rw [(nmF_spec ms u).1 hlt]; exact hu⟩

/-- Ranks, where no module uses itself. -/
theorem ranks {ms : List ModR} {U : List UnR} (h3 : ∀ i, i < ms.length → ¬ B3 ms i) (h4 : ∀ i, i < ms.length → ¬ B4 ms U i) (h5 : ∀ i, i < ms.length → ¬ TC (Edg ms U) i i) :
    ∃ rk : Nat → Nat, (∀ i, i < ms.length → ∀ u ∈ (atU U i).us, rk (nmF ms u) < rk i) ∧ ∀ i, i < ms.length → rk i < ms.length := by
  refine ⟨rkW (wrN (mat0 ms U) ms.length) ms.length, fun i hi u hu => ?_, fun i hi => rk_lt (reach_is h3) hi (h5 i hi)⟩
  obtain ⟨h1, h2⟩ := use_edg hi (h4 i hi) hu
  exact rk_step (reach_is h3) h2 h1 (h5 _ h1)
end Go.Proofs.YtokabkhnidlcnabGreatDoor

/-
  Rows of tables, as they are handed back.
-/
namespace Go.Proofs.YtokabkhnidlcnabGreatDoor
set_option maxRecDepth 100000
set_option linter.unusedSimpArgs false
set_option linter.unusedVariables false
open Go.RowKit

def atS2 (out : List (List OpR)) (i : Nat) : List OpR := out.getD i []

/-- A row of tables, as it is read. -/
def TabsAt (w : World) (v : Value) (out : List (List OpR)) : Prop := ∃ a c, v = .slice a out.length c ∧ (out.length = 0 ∨ ∃ g, a = some ⟨g, 0, none⟩ ∧ g < w.heap.size ∧ ∀ i, i < out.length → ∃ t, w.cell? ⟨g, i, none⟩ = some t ∧ OpsAt w t (atS2 out i))

theorem TabsAt.below {w w' : World} {v : Value} {out : List (List OpR)} (h : TabsAt w v out) (hb : Below w.heap.size w w') : TabsAt w' v out := by
  obtain ⟨a, c, rfl, h⟩ := h
  refine ⟨a, c, rfl, h.imp id ?_⟩
  rintro ⟨g, rfl, h1, h2⟩
  refine ⟨g, rfl, Nat.lt_of_lt_of_le h1 hb.size, fun i hi => ?_⟩
  obtain ⟨t, h3, h4⟩ := h2 i hi
  exact ⟨t, (hb.cell (p := ⟨g, i, none⟩) h1).trans h3, h4.grown (row := none) (grown_belN hb none) (fun g _ e => by cases e)⟩

theorem atS2_map {n i : Nat} {S : Nat → List OpR} (h : i < n) : atS2 ((List.range n).map S) i = S i := by
  simp [atS2, List.getD_eq_getElem?_getD, h]
end Go.Proofs.YtokabkhnidlcnabGreatDoor

/-
  Walk: the specification's Load.
-/
namespace Go.Proofs.YtokabkhnidlcnabGreatDoor
set_option maxRecDepth 100000
set_option linter.unusedSimpArgs false
set_option linter.unusedVariables false
open Go.RowKit

/-- A row of tables, each with a place. -/
def TabsS (w : World) (v : Value) (out : List (List OpR)) : Prop := ∃ g c, v = .slice (some ⟨g, 0, none⟩) out.length c ∧ (out.length = 0 ∨ g < w.heap.size ∧ ∀ i, i < out.length → ∃ t, w.cell? ⟨g, i, none⟩ = some t ∧ OpsS w t (atS2 out i))

theorem TabsS.tabs {w : World} {v : Value} {out : List (List OpR)} (h : TabsS w v out) : TabsAt w v out := by
  obtain ⟨g, c, rfl, h⟩ := h
  refine ⟨_, c, rfl, h.imp id fun h => ⟨g, rfl, h.1, fun i hi => ?_⟩⟩
  obtain ⟨t, h1, h2⟩ := h.2 i hi
  exact ⟨t, h1, h2.at'⟩

/-- What Load hands back. -/
def LoadPost (w : World) (ms : List ModR) (e : Ending) (w' : World) : Prop := ∃ (v : Value) (out : List (List OpR)) (c who : Int), e = .returned (.tuple #[v, .int .i64 c, .int .i64 who]) ∧ Hid (LoadIs ms out c who) ∧ Hid (TabsS w' v out) ∧ (∀ o ∈ out, o.length ≤ 1048576 ∧ Sized o) ∧ Below w.heap.size w w'

theorem none_tabs (w' : World) (b : Nat) : TabsS w' (.slice (some ⟨b, 0, none⟩) 0 0) [] := ⟨_, 0, rfl, Or.inl rfl⟩

theorem B3_named {ms : List ModR} {k : Nat} (hk : k < ms.length) : nmI ms (atM ms k).n = (nmF ms (atM ms k).n : Int) ∧ (nmF ms (atM ms k).n < k ↔ B3 ms k) := by
  obtain ⟨h1, h2⟩ := nmF_spec ms (atM ms k).n
  have hle : nmF ms (atM ms k).n ≤ k := by
    by_cases e : nmF ms (atM ms k).n ≤ k
    · exact e
    · exact absurd rfl (h2 k (by omega))
  constructor
  · unfold nmI
    rw [if_pos (by omega)]
  · constructor
    · intro h
      exact ⟨_, h, h1 (by omega)⟩
    · rintro ⟨j, hj, e⟩
      by_cases h : nmF ms (atM ms k).n < k
      · exact h
      · exact absurd e (h2 j (by omega))

set_option maxHeartbeats 32000000 in
theorem specLoad_any (a : Option Addr) (c0 : Nat) (ms : List ModR) (w : World) (hn : ms.length ≤ 1048576) (hM : ArgM w a ms) (hz : SizedM ms) :
    Calls Tryz.prog 5 #[.slice a ms.length c0] w (LoadPost w ms) := by
  by_cases h100 : 100 < ms.length
  · have hI : (100 : Int) < (ms.length : Int) := by omega
    have HL := hide (show LoadIs ms [] 1 100 from Or.inl ⟨h100, rfl, rfl, rfl⟩)
    clear h100
    go_enter Tryz.func5, Tryz.ntmps5
    go_wp2
    go_ret3
    exact ⟨_, [], 1, 100, rfl, HL, hide (none_tabs _ _), (fun o ho => by cases ho), below1 _ _⟩
  have hn1 : ms.length ≤ 100 := by omega
  have hI : ¬ (100 : Int) < (ms.length : Int) := by omega
  obtain ⟨n, hnn⟩ : ∃ n, n = ms.length := ⟨_, rfl⟩
  have HM := hide hM
  have HSZ := hide hz
  have HNN := hide hnn
  have HNM := hide (fun u W h => l5Named_any a c0 ms u W hn h)
  have HUN := hide (fun W h1 h2 => l5Units_any a c0 ms W hn1 h1 hz h2)
  have HRC := hide (fun gU cU vs U W h1 h2 h3 h4 h5 h6 h7 => l5Reach_any a c0 gU cU ms vs U W hn1 h1 h2 h3 h4 h5 h6 h7)
  have HSC := hide (fun gU cU vs U W rk h1 h2 h3 h4 h5 h6 h7 h8 h9 => l5Scopes_any a c0 gU cU ms vs U W rk hn1 h1 h2 h3 h4 h5 h6 h7 h8 h9)
  have HDONE := hide (show ∀ out c who, FirstB ms.length (B2 ms) (fun i => out = [] ∧ c = 2 ∧ who = (i : Int)) (LdNam ms out c who) → LoadIs ms out c who from fun out c who h => Or.inr ⟨hn1, h⟩)
  rw [← hnn] at hn1 hI ⊢
  have hnn1 : n ≤ ms.length := by omega
  have hnn2 : ms.length ≤ n := by omega
  clear hM hz hn h100 hnn
  obtain ⟨N0, hN0⟩ : ∃ N0, N0 = w.heap.size := ⟨_, rfl⟩
  go_enter Tryz.func5, Tryz.ntmps5
  go_wp2_with fail
  obtain ⟨W0, hW0⟩ : ∃ W0, W0 = w.alloc (.cells #[] 54) := ⟨_, rfl⟩
  have hbW0 : Below w.heap.size w W0 := by rw [hW0]; exact below1 _ _
  rw [← hW0]
  clear hW0
  -- code 2
  go_loopw [7] (fun iv wr => ∃ k : Nat, k ≤ n ∧ iv = .int .i64 (k : Int) ∧ Hid (∀ j, j < k → ¬ B2 ms j) ∧ Below w.heap.size w wr) (fun iv _ => n - (intOf iv).toNat)
  case atStart => exact ⟨0, Nat.zero_le _, rfl, hide (fun j h => by omega), hbW0⟩
  case round =>
    clear hbW0 W0
    obtain ⟨k, hk, rfl, HB, hbel⟩ := hrel
    by_cases hlt : k < n
    · have hltI : (k : Int) < (n : Int) := by omega
      have hltm : k < ms.length := by omega
      rcases unhide HM with h | ⟨b, off, rfl, hops, hBl⟩
      · omega
      obtain ⟨m0, m1⟩ := (hops k hltm).below hbel hBl
      have HRD := hide (specReadUnit_any (atM ms k).t wr ((unhide HSZ) k hltm).2)
      have hns := ((unhide HSZ) k hltm).1
      have hbl2 : b < wr.heap.size := Nat.lt_of_lt_of_le hBl hbel.size
      clear hops
      go_wp2_with fail
      (with_reducible refine (unhide HRD).mono ?_)
      rintro e w1 ⟨vu, vo, us, os, b', c', l', rfl, hi1, ru1, ro1, hne1, hlu, hlo, hb1⟩
      obtain ⟨a1, c1, rfl⟩ := rowS_slice ru1
      obtain ⟨a2, c2, rfl⟩ : ∃ a c, vo = .slice a os.length c := rowS_slice ro1
      have m0' : w1.cell? ⟨b, off + k * 2, none⟩ = some (.string (atM ms k).n) := (hb1.cell (p := ⟨b, off + k * 2, none⟩) hbl2).trans m0
      have z1 := hb1.size
      have hbl3 : b < w1.heap.size := by omega
      have HB1 := hide (hbel.trans (hb1.mono hbel.size))
      have HUI := hide hi1
      have HBADR := hide (show B2 ms k → LoadIs ms [] 2 (k : Int) from fun h => (unhide HDONE) [] 2 (k : Int) (Or.inl ⟨k, hltm, h, unhide HB, rfl, rfl, rfl⟩))
      have HNX := hide (show ¬ B2 ms k → ∀ j, j < k + 1 → ¬ B2 ms j from fun h j hj => by
        by_cases e : j = k
        · subst e; exact h
        · exact (unhide HB) j (by omega))
      have HNAME := hide (fun W => l2IsName_any (atM ms k).n W hns)
      have hnI : (atM ms k).n.size ≤ 9223372036854775807 := hns
      clear hi1 ru1 ro1 hne1 hb1 HRD m0 m1 HB
      by_cases hc : c' = 0
      · subst hc
        by_cases hN : NameT (atM ms k).n
        · have HNT := hide hN
          by_cases h64 : 64 < (atM ms k).n.size
          · have h64I : (64 : Int) < ((atM ms k).n.size : Int) := by omega
            have HR := hide ((unhide HBADR) (Or.inr (Or.inr h64)))
            clear hN h64
            go_wp2_with (first | (go_at_call 15; (with_reducible refine ((unhide HNAME) _).mono ?_); rintro e w2 ⟨⟨v, rfl, hv⟩, hx⟩; obtain rfl := hx.symm; obtain rfl : v = true := (by cases v; exact (hv.2 (unhide HNT)); rfl); clear hv hx))
            go_ret3
            exact ⟨_, [], 2, _, rfl, HR, hide (none_tabs _ _), (fun o ho => by cases ho), (unhide HB1).alloc (by have := (unhide HB1).size; omega) _⟩
          · have h64I : ¬ (64 : Int) < ((atM ms k).n.size : Int) := by omega
            have HOK := hide ((unhide HNX) (fun hB => by
              rcases hB with ⟨us', os', b2, c2, l2, hu, hne⟩ | h | h
              · exact hne ((unhide HUI).one hu).2.2.2.1.symm
              · exact h (unhide HNT)
              · exact h64 h))
            clear hN h64
            go_wp2_with (first | (go_at_call 15; (with_reducible refine ((unhide HNAME) _).mono ?_); rintro e w2 ⟨⟨v, rfl, hv⟩, hx⟩; obtain rfl := hx.symm; obtain rfl : v = true := (by cases v; exact (hv.2 (unhide HNT)); rfl); clear hv hx))
            exact ⟨⟨k + 1, by omega, by go_num, HOK, (unhide HB1).alloc (by have := (unhide HB1).size; omega) _⟩, by simp [intOf]; omega⟩
        · have HNT := hide hN
          have HR := hide ((unhide HBADR) (Or.inr (Or.inl hN)))
          clear hN
          go_wp2_with (first | (go_at_call 15; (with_reducible refine ((unhide HNAME) _).mono ?_); rintro e w2 ⟨⟨v, rfl, hv⟩, hx⟩; obtain rfl := hx.symm; obtain rfl : v = false := (by cases v; rfl; exact absurd (hv.1 rfl) (unhide HNT)); clear hv hx))
          go_ret3
          exact ⟨_, [], 2, _, rfl, HR, hide (none_tabs _ _), (fun o ho => by cases ho), (unhide HB1).alloc (by have := (unhide HB1).size; omega) _⟩
      · have hcI : (c' != 0) = true := by simpa using hc
        have HR := hide ((unhide HBADR) (Or.inl ⟨us, os, b', c', l', unhide HUI, hc⟩))
        clear hc
        go_wp2_with fail
        go_ret3
        exact ⟨_, [], 2, _, rfl, HR, hide (none_tabs _ _), (fun o ho => by cases ho), (unhide HB1).alloc (by have := (unhide HB1).size; omega) _⟩
    · have HG2 := hide (show ∀ i, i < ms.length → ¬ B2 ms i from fun i hi => (unhide HB) i (by omega))
      have HD2 := hide (show ∀ out c who, LdNam ms out c who → LoadIs ms out c who from fun out c who h => (unhide HDONE) out c who (Or.inr ⟨unhide HG2, h⟩))
      clear HB HDONE
      go_wp2_with fail
      -- code 3
      go_loopw [11] (fun iv wr => ∃ k : Nat, k ≤ n ∧ iv = .int .i64 (k : Int) ∧ Hid (∀ j, j < k → ¬ B3 ms j) ∧ Below w.heap.size w wr) (fun iv _ => n - (intOf iv).toNat)
      case atStart => exact ⟨0, Nat.zero_le _, rfl, hide (fun j h => by omega), hbel⟩
      case round =>
        clear hbel
        obtain ⟨k, hk, rfl, HB, hbel⟩ := hrel
        by_cases hlt : k < n
        · have hltI : (k : Int) < (n : Int) := by omega
          have hltm : k < ms.length := by omega
          have HMr := hide ((unhide HM).below hbel)
          rcases unhide HM with h | ⟨b, off, rfl, hops, hBl⟩
          · omega
          obtain ⟨m0, m1⟩ := (hops k hltm).below hbel hBl
          have HCALL := hide ((unhide HNM) (atM ms k).n wr (unhide HMr))
          obtain ⟨q, hq⟩ : ∃ q, q = nmF ms (atM ms k).n := ⟨_, rfl⟩
          have hB3 := B3_named hltm
          rw [hB3.1, ← hq, ← unhide HNN] at HCALL
          have hB3' := hB3.2
          rw [← hq] at hB3'
          by_cases hqk : q < k
          · have hqI : (q : Int) < (k : Int) := by omega
            have HR := hide ((unhide HD2) [] 3 (k : Int) (Or.inl ⟨k, hltm, hB3'.1 hqk, unhide HB, rfl, rfl, rfl⟩))
            clear hB3 hB3' hq hops hqk HB
            go_wp2_with fail
            (with_reducible refine (unhide HCALL).mono ?_)
            rintro e w2 ⟨rfl, hx⟩
            obtain rfl := hx.symm
            clear hx HCALL
            go_wp2_with fail
            go_ret3
            exact ⟨_, [], 3, _, rfl, HR, hide (none_tabs _ _), (fun o ho => by cases ho), hbel⟩
          · have hqI : ¬ (q : Int) < (k : Int) := by omega
            have HOK := hide (show ∀ j, j < k + 1 → ¬ B3 ms j from fun j hj => by
              by_cases e : j = k
              · subst e; exact fun h => hqk (hB3'.2 h)
              · exact (unhide HB) j (by omega))
            clear hB3 hB3' hq hops hqk HB
            go_wp2_with fail
            (with_reducible refine (unhide HCALL).mono ?_)
            rintro e w2 ⟨rfl, hx⟩
            obtain rfl := hx.symm
            clear hx HCALL
            go_wp2_with fail
            exact ⟨⟨k + 1, by omega, by go_num, HOK, hbel⟩, by simp [intOf]; omega⟩
        · have HG3 := hide (show ∀ i, i < ms.length → ¬ B3 ms i from fun i hi => (unhide HB) i (by omega))
          have HD3 := hide (show ∀ out c who, LdUse ms out c who → LoadIs ms out c who from fun out c who h => (unhide HD2) out c who (Or.inr ⟨unhide HG3, h⟩))
          have HUNr := hide ((unhide HUN) wr ((unhide HM).below hbel) (unhide HG2))
          rw [← unhide HNN] at HUNr
          clear HB HD2 HUN
          go_wp2_with fail
          (with_reducible refine (unhide HUNr).mono ?_)
          rintro e w3 ⟨gU, cU, vs, U, rfl, hgU1, hgU, hvl, HOV, HUA, HUO, hb3⟩
          have HBW3 := hide (hbel.trans (hb3.mono hbel.size))
          have z3 := (unhide HBW3).size
          have HVL := hide (show vs.length = n by rw [unhide HNN]; exact hvl)
          have HD4 := hide (show ∀ out c who, FirstB ms.length (B4 ms U) (fun i => out = [] ∧ c = 4 ∧ who = (i : Int)) (LdWay ms U out c who) → LoadIs ms out c who from fun out c who h => (unhide HD3) out c who ⟨U, unhide HUO, h⟩)
          have HUL := hide (show ∀ i, i < ms.length → (atU U i).us.length ≤ 20001 from fun i hi => (unit_uses ((unhide HUO).2 i hi)).1)
          rw [unhide HVL]
          clear hb3 hbel HUNr hvl HD3
          go_wp2_with fail
          -- code 4
          go_loopw [13] (fun iv wr => ∃ k : Nat, k ≤ n ∧ iv = .int .i64 (k : Int) ∧ Hid (∀ j, j < k → ¬ B4 ms U j) ∧ Below w3.heap.size w3 wr) (fun iv _ => n - (intOf iv).toNat)
          case atStart => exact ⟨0, Nat.zero_le _, rfl, hide (fun j h => by omega), Below.refl _ _⟩
          case round =>
            obtain ⟨k, hk, rfl, HB, hbel⟩ := hrel
            obtain ⟨wo, rfl⟩ : ∃ wo, wo = wr := ⟨_, rfl⟩
            by_cases hlt : k < n
            · have hltI : (k : Int) < (n : Int) := by omega
              have hltm : k < ms.length := by omega
              obtain ⟨us, hus⟩ : ∃ us, us = (atU U k).us := ⟨_, rfl⟩
              have HUS := hide hus
              have hul : us.length ≤ 20001 := by rw [hus]; exact (unhide HUL) k hltm
              have hvk : k < vs.length := by rw [unhide HVL]; exact hlt
              have HFAC := hide (show ∀ W : World, Below w3.heap.size w3 W → W.cell? ⟨gU, k * 3, none⟩ = some (atV vs k).vu ∧ StrsAt W (atV vs k).vu us from fun W hb => by
                obtain ⟨v0, _, _⟩ := ((unhide HOV).below hb hgU) k hvk
                have hx := ((unhide HUA).belowB hb (Nat.le_refl _)).uses hvk
                rw [← unhide HUS] at hx
                exact ⟨v0, hx⟩)
              clear hus
              go_wp2_with fail
              go_loopw [14] (fun iq wr => ∃ q : Nat, q ≤ us.length ∧ iq = .int .i64 (q : Int) ∧ Hid (∀ p, p < q → ∀ u, us[p]? = some u → nmF ms u < n) ∧ wr = wo) (fun iq _ => us.length - (intOf iq).toNat)
              case atStart => exact ⟨0, Nat.zero_le _, rfl, hide (fun p hp => by omega), rfl⟩
              case round =>
                obtain ⟨q, hq, rfl, HQ, rfl⟩ := hrel
                obtain ⟨v0, hst⟩ := (unhide HFAC) wr hbel
                by_cases hqlt : q < us.length
                · have hqI : (q : Int) < (us.length : Int) := by omega
                  obtain ⟨gw, cw, hv, hgw, hc⟩ := hst.lt (by omega)
                  rw [hv] at v0
                  obtain ⟨u, hu⟩ : ∃ u, us[q]? = some u := ⟨_, List.getElem?_eq_getElem hqlt⟩
                  have k0 := hc q u hu
                  have hum : u ∈ us := List.mem_of_getElem? hu
                  have hbwr : Below w.heap.size w wr := (unhide HBW3).trans (hbel.mono z3)
                  have HCALL := hide ((unhide HNM) u wr ((unhide HM).below hbwr))
                  rw [← unhide HNN] at HCALL
                  by_cases hin : nmF ms u < n
                  · obtain ⟨m, hm⟩ : ∃ m, m = nmF ms u := ⟨_, rfl⟩
                    have hnm : nmI ms u = (m : Int) := by
                      unfold nmI
                      rw [← hm, ← unhide HNN, if_pos (by rw [hm]; exact hin)]
                    rw [hnm] at HCALL
                    have hmI : ¬ (m : Int) < 0 := by omega
                    have HQ2 := hide (show ∀ p, p < q + 1 → ∀ u, us[p]? = some u → nmF ms u < n from fun p hp u' hu' => by
                      by_cases e : p = q
                      · subst e
                        rw [hu] at hu'
                        injection hu' with hu'
                        subst hu'
                        exact hin
                      · exact (unhide HQ) p (by omega) u' hu')
                    clear hc hst hu hum hm hnm hv hin HQ
                    go_wp2_with fail
                    (with_reducible refine (unhide HCALL).mono ?_)
                    rintro e w2 ⟨rfl, hx⟩
                    obtain rfl := hx.symm
                    clear hx HCALL
                    go_wp2_with fail
                    exact ⟨⟨q + 1, by omega, by go_num, HQ2, trivial⟩, by simp [intOf]; omega⟩
                  · have hnm : nmI ms u = -1 := by
                      unfold nmI
                      rw [if_neg (by rw [← unhide HNN]; exact hin)]
                    rw [hnm] at HCALL
                    have HR := hide ((unhide HD4) [] 4 (k : Int) (Or.inl ⟨k, hltm, ⟨u, by rw [← unhide HUS]; exact hum, fun j hj => (nmF_spec ms u).2 j (by omega)⟩, unhide HB, rfl, rfl, rfl⟩))
                    have HBR := hide hbwr
                    clear hc hst hu hum hnm hv hin HQ hbwr
                    go_wp2_with fail
                    (with_reducible refine (unhide HCALL).mono ?_)
                    rintro e w2 ⟨rfl, hx⟩
                    obtain rfl := hx.symm
                    clear hx HCALL
                    go_wp2_with fail
                    go_ret3
                    exact ⟨_, [], 4, _, rfl, HR, hide (none_tabs _ _), (fun o ho => by cases ho), unhide HBR⟩
                · obtain ⟨aw, cw, hv, _⟩ := hst
                  rw [hv] at v0
                  have HOK := hide (show ∀ j, j < k + 1 → ¬ B4 ms U j from fun j hj => by
                    by_cases e : j = k
                    · subst e
                      rintro ⟨u, hu, hno⟩
                      rw [← unhide HUS] at hu
                      obtain ⟨p, hp, e⟩ := List.getElem_of_mem hu
                      have h1 := (unhide HQ) p (by omega) u (by rw [List.getElem?_eq_getElem hp, e])
                      exact hno _ (by omega) ((nmF_spec ms u).1 (by omega))
                    · exact (unhide HB) j (by omega))
                  clear hv HQ
                  go_wp2_with fail
                  exact ⟨⟨k + 1, by omega, by go_num, HOK, hbel⟩, by simp [intOf]; omega⟩
            · have HG4 := hide (show ∀ i, i < ms.length → ¬ B4 ms U i from fun i hi => (unhide HB) i (by omega))
              have HD5 := hide (show ∀ out c who, LdWay ms U out c who → LoadIs ms out c who from fun out c who h => (unhide HD4) out c who (Or.inr ⟨unhide HG4, h⟩))
              have hbwo : Below w.heap.size w wo := (unhide HBW3).trans (hbel.mono z3)
              have zo := hbel.size
              have hUAo : UnsAt wo wo.heap.size vs U := ((unhide HUA).belowB hbel (Nat.le_refl _)).mono zo
              have HRr := hide ((unhide HRC) gU cU vs U wo ((unhide HM).below hbwo) ((unhide HOV).below hbel hgU) (by omega) hUAo (unhide HUO) (by rw [unhide HVL, unhide HNN]) (unhide HG4))
              rw [← unhide HNN] at HRr
              have HBWo := hide hbwo
              clear HB HD4 HRC hbwo hUAo
              go_wp2_with fail
              (with_reducible refine (unhide HRr).mono ?_)
              rintro e w5 ⟨gR, cR, rs, rfl, hgR1, hgR, HCR, HBR, hb5⟩
              have HBW5 := hide ((unhide HBWo).trans (hb5.mono (unhide HBWo).size))
              have z5 := hb5.size
              have HB35 := hide (hbel.trans (hb5.mono zo))
              have HTC := hide (show ∀ i, wrN (mat0 ms U) n i i = true ↔ TC (Edg ms U) i i from fun i => by rw [unhide HNN]; exact reach_is (unhide HG3) i i)
              clear hb5 HRr HBWo hbel
              go_wp2_with fail
              -- code 5
              go_loopw [16] (fun iv wr => ∃ k : Nat, k ≤ n ∧ iv = .int .i64 (k : Int) ∧ Hid (∀ j, j < k → ¬ TC (Edg ms U) j j) ∧ wr = w5) (fun iv _ => n - (intOf iv).toNat)
              case atStart => exact ⟨0, Nat.zero_le _, rfl, hide (fun j h => by omega), rfl⟩
              case round =>
                obtain ⟨k, hk, rfl, HB, rfl⟩ := hrel
                by_cases hlt : k < n
                · have hltI : (k : Int) < (n : Int) := by omega
                  have hltm : k < ms.length := by omega
                  have c0' := (unhide HCR) k hlt
                  obtain ⟨b0', _⟩ := ((unhide HBR) k hlt).2 k hlt
                  cases hW : wrN (mat0 ms U) n k k
                  · rw [hW] at b0'
                    have HOK := hide (show ∀ j, j < k + 1 → ¬ TC (Edg ms U) j j from fun j hj => by
                      by_cases e : j = k
                      · subst e
                        intro h
                        rw [((unhide HTC) j).2 h] at hW
                        cases hW
                      · exact (unhide HB) j (by omega))
                    clear hW HB
                    go_wp2_with fail
                    exact ⟨⟨k + 1, by omega, by go_num, HOK, trivial⟩, by simp [intOf]; omega⟩
                  · rw [hW] at b0'
                    have HR := hide ((unhide HD5) [] 5 (k : Int) (Or.inl ⟨k, hltm, ((unhide HTC) k).1 hW, unhide HB, rfl, rfl, rfl⟩))
                    clear hW HB
                    go_wp2_with fail
                    go_ret3
                    exact ⟨_, [], 5, _, rfl, HR, hide (none_tabs _ _), (fun o ho => by cases ho), unhide HBW5⟩
                · have HG5 := hide (show ∀ i, i < ms.length → ¬ TC (Edg ms U) i i from fun i hi => (unhide HB) i (by omega))
                  have HD6 := hide (show ∀ out c who, LdSc ms U out c who → LoadIs ms out c who from fun out c who h => (unhide HD5) out c who (Or.inr ⟨unhide HG5, h⟩))
                  obtain ⟨rk, hk1, hk2⟩ := ranks (unhide HG3) (unhide HG4) (unhide HG5)
                  have z35 := (unhide HB35).size
                  have hUA5 : UnsAt wr wr.heap.size vs U := ((unhide HUA).belowB (unhide HB35) (Nat.le_refl _)).mono z35
                  have HSr := hide ((unhide HSC) gU cU vs U wr rk ((unhide HM).below (unhide HBW5)) ((unhide HOV).below (unhide HB35) hgU) (by omega) hUA5 (unhide HUO) (by rw [unhide HVL, unhide HNN]) (unhide HG4) hk1 hk2)
                  rw [← unhide HNN] at HSr
                  clear HB HD5 HSC hUA5 hk1 hk2 HCR HBR
                  go_wp2_with fail
                  (with_reducible refine (unhide HSr).mono ?_)
                  rintro e w6 ⟨gSS, S, rfl, hgS1, hgS, HSE, HST, hb6⟩
                  rw [← unhide HNN]
                  have HBW6 := hide ((unhide HBW5).trans (hb6.mono (unhide HBW5).size))
                  have HSM := hide (show ∀ i, i < ms.length → Sized (S i) ∧ (S i).length ≤ 400000 from fun i hi => ⟨small_sized (fun o ho => (unhide HUO).small o (((unhide HST) i hi).1 o ho)), Nat.le_trans (ndu_len _ _ ((unhide HSE).nd hi) ((unhide HST) i hi).1) ((unhide HUO).all (by omega))⟩)
                  clear hb6 HSr
                  go_wp2_with fail
                  -- code 6
                  go_loopw [18] (fun iv wr => ∃ k : Nat, k ≤ n ∧ iv = .int .i64 (k : Int) ∧ Hid (∀ j, j < k → ¬ B6 S j) ∧ Below w6.heap.size w6 wr) (fun iv _ => n - (intOf iv).toNat)
                  case atStart => exact ⟨0, Nat.zero_le _, rfl, hide (fun j h => by omega), Below.refl _ _⟩
                  case round =>
                    obtain ⟨k, hk, rfl, HB, hbel⟩ := hrel
                    have hbw : Below w.heap.size w wr := (unhide HBW6).trans (hbel.mono (unhide HBW6).size)
                    by_cases hlt : k < n
                    · have hltI : (k : Int) < (n : Int) := by omega
                      have hltm : k < ms.length := by omega
                      obtain ⟨_, tv, t0, hot0⟩ := (unhide HST) k hltm
                      have hot := hot0.at'
                      clear hot0
                      have hot2 := hot.below hbel
                      obtain ⟨at1, ct1, hv, _⟩ := hot
                      rw [hv] at t0 hot2
                      have t0' : wr.cell? ⟨gSS, k, none⟩ = some (.slice at1 (S k).length ct1) := (hbel.cell (p := ⟨gSS, k, none⟩) hgS).trans t0
                      have HTO := hide (specTableOk_at _ (S k) wr (by have := ((unhide HSM) k hltm).2; omega) hot2 ((unhide HSM) k hltm).1)
                      have HBW := hide hbw
                      clear hv t0 hot2 hbw
                      go_wp2_with fail
                      (with_reducible refine (unhide HTO).mono ?_)
                      rintro e w7 ⟨⟨cc, rfl, hcc⟩, hb7⟩
                      have HB7 := hide (hbel.trans (hb7.mono hbel.size))
                      have HBW7 := hide ((unhide HBW).trans (hb7.mono (unhide HBW).size))
                      clear hb7 HTO
                      by_cases hc0 : cc = 0
                      · subst hc0
                        have HOK := hide (show ∀ j, j < k + 1 → ¬ B6 S j from fun j hj => by
                          by_cases e : j = k
                          · subst e
                            rintro ⟨c', h1, h2⟩
                            exact h2 (IsCode_one h1 hcc)
                          · exact (unhide HB) j (by omega))
                        clear hcc HB
                        go_wp2_with fail
                        exact ⟨⟨k + 1, by omega, by go_num, HOK, unhide HB7⟩, by simp [intOf]; omega⟩
                      · have hcI : (cc != 0) = true := by simpa using hc0
                        have HR := hide ((unhide HD6) [] 6 (k : Int) ⟨S, unhide HSE, Or.inl ⟨k, hltm, ⟨cc, hcc, hc0⟩, unhide HB, rfl, rfl, rfl⟩⟩)
                        clear hcc HB hc0
                        go_wp2_with fail
                        go_ret3
                        exact ⟨_, [], 6, _, rfl, HR, hide (none_tabs _ _), (fun o ho => by cases ho), unhide HBW7⟩
                    · have HR := hide ((unhide HD6) ((List.range ms.length).map S) 0 0 ⟨S, unhide HSE, Or.inr ⟨fun i hi => (unhide HB) i (by omega), rfl, rfl, rfl⟩⟩)
                      have HTB := hide (show TabsS wr (.slice (some ⟨gSS, 0, none⟩) n n) ((List.range ms.length).map S) by
                        refine ⟨_, n, by rw [List.length_map, List.length_range, unhide HNN], Or.inr ⟨Nat.lt_of_lt_of_le hgS hbel.size, fun i hi => ?_⟩⟩
                        have hi' : i < ms.length := by simpa using hi
                        obtain ⟨_, tv, t0, hot⟩ := (unhide HST) i hi'
                        rw [atS2_map hi']
                        exact ⟨tv, (hbel.cell (p := ⟨gSS, i, none⟩) hgS).trans t0, hot.below hbel⟩)
                      have HLN := hide (show ∀ o ∈ (List.range ms.length).map S, o.length ≤ 1048576 ∧ Sized o from fun o ho => by
                        obtain ⟨i, hi, rfl⟩ := List.mem_map.1 ho
                        have := (unhide HSM) i (List.mem_range.1 hi)
                        exact ⟨by omega, this.1⟩)
                      have HBW := hide hbw
                      clear HB hbw
                      go_wp2_with fail
                      go_ret3
                      exact ⟨_, _, 0, 0, rfl, HR, HTB, unhide HLN, unhide HBW⟩
end Go.Proofs.YtokabkhnidlcnabGreatDoor
