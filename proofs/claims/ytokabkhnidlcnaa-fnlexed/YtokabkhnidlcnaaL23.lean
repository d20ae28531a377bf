import Derived.Deep.QuietTactic
import Derived.BigQuiet
import Derived.Test.YtokabkhnidlcnaaL13
import Derived.Test.YtokabkhnidlcnaaL20
import Derived.Test.YtokabkhnidlcnaaL22

/-
  Rows of numbers.
-/
namespace Go.Proofs.Ytokabkhnidlcnaa
set_option maxRecDepth 100000
open Go.RowKit

def atI (xs : List Int) (i : Nat) : Int := xs.getD i 0
def cellsI (l : List Int) : List Value := l.map fun n => .int .i64 n
theorem cellsI_len (l : List Int) : (cellsI l).length = l.length := by simp [cellsI]
theorem cellsI_append (l l' : List Int) : cellsI (l ++ l') = cellsI l ++ cellsI l' := by simp [cellsI]
theorem cellsI_one (l : List Int) : ∀ u ∈ cellsI l, u.oneCell' = true := by
  intro u hu
  simp only [cellsI, List.mem_map] at hu
  obtain ⟨b, _, rfl⟩ := hu
  rfl
theorem cellsI_at (l : List Int) (i : Nat) (h : i < l.length) : (cellsI l)[i]? = some (.int .i64 (atI l i)) := by
  simp [cellsI, atI, h]

/-- A row of numbers of which k lie there; all its cells may be written. -/
def FilledI (w : World) (g : Nat) (xs : List Int) (k : Nat) : Prop :=
  g < w.heap.size ∧ w.there g 0 xs.length ∧ ∀ i, i < k → w.cell? ⟨g, i, none⟩ = some (.int .i64 (atI xs i))

theorem FilledI.grown {w w' : World} {g k : Nat} {xs : List Int} {row : Option Nat} (h : FilledI w g xs k) (hg : w.grownBy w' row) (hne : some g ≠ row) : FilledI w' g xs k := by
  obtain ⟨h1, h2, h3⟩ := h
  have hb := hg.block g h1 hne
  have e : ∀ o, w'.cell? ⟨g, o, none⟩ = w.cell? ⟨g, o, none⟩ := fun o => World.cell?_of_block (w := w) hb
  have f : ∀ o, w'.frozen? ⟨g, o, none⟩ = w.frozen? ⟨g, o, none⟩ := fun o => World.frozen?_of_block (w := w) hb
  exact ⟨Nat.lt_of_lt_of_le h1 hg.size, fun j hj => ⟨by rw [e]; exact (h2 j hj).1, by rw [f]; exact (h2 j hj).2⟩, fun i hi => (e _).trans (h3 i hi)⟩

theorem FilledI.step {w w' : World} {g k : Nat} {xs : List Int} (h : FilledI w g xs k) (hb : Below w.heap.size w w') : FilledI w' g xs k := h.grown (grown_bel hb none) (by simp)

/-- A row that the call owns, as a filled one. -/
theorem owns_filledI {w : World} {base g cap : Nat} {e : TypeId} {zs : List Int} (h : w.ownsRow base e 1 (.slice (some ⟨g, 0, none⟩) zs.length cap) zs.length (cellsI zs)) : base ≤ g ∧ FilledI w g zs zs.length := by
  have hlt := h.lt g rfl
  refine ⟨hlt.1, hlt.2, fun j hj => ⟨?_, h.frozenAt _⟩, fun i hi => ?_⟩
  · rw [h.cellAt (0 + j) (by omega)]
    have : 0 + j < (cellsI zs).length := by rw [cellsI_len]; omega
    rw [List.getElem?_eq_getElem this]
    rfl
  · exact (h.cellAt i (by omega)).trans (cellsI_at zs i hi)

/-- A list of numbers that a call has made. -/
def OwnedI (w : World) (n : Nat) (a : Option Addr) (us : List Int) : Prop := (us.length = 0 ∧ a = none) ∨ ∃ g, a = some ⟨g, 0, none⟩ ∧ n ≤ g ∧ FilledI w g us us.length
def MarkedI (w : World) (a : Option Addr) (k n : Nat) : Prop := (n = 0 ∧ a = none) ∨ ∃ g, a = some ⟨g, 0, none⟩ ∧ FilledI w g ((List.range n).map fun i => ((k + i : Nat) : Int)) n

theorem OwnedI.grown {w w' : World} {n : Nat} {a : Option Addr} {us : List Int} {row : Option Nat} (h : OwnedI w n a us) (hg : w.grownBy w' row) (hr : ∀ k, row = some k → k < n) : OwnedI w' n a us := by
  rcases h with h | ⟨g, rfl, hn, hf⟩
  · exact Or.inl h
  · exact Or.inr ⟨g, rfl, hn, hf.grown hg (fun e => by have := hr g e.symm; omega)⟩
theorem OwnedI.step {w w' : World} {n : Nat} {a : Option Addr} {us : List Int} (h : OwnedI w n a us) (hb : Below w.heap.size w w') : OwnedI w' n a us :=
  h.grown (grown_bel hb none) (fun k hk => by cases hk)
theorem OwnedI.lt {w : World} {n : Nat} {a : Option Addr} {us : List Int} (h : OwnedI w n a us) : ∀ k, a.map (·.block) = some k → n ≤ k ∧ k < w.heap.size := by
  rcases h with ⟨_, rfl⟩ | ⟨g, rfl, hn, hf⟩
  · intro k hk; cases hk
  · intro k hk; injection hk with hk; subst hk; exact ⟨hn, hf.1⟩
theorem MarkedI.grown {w w' : World} {a : Option Addr} {k n : Nat} {row : Option Nat} (h : MarkedI w a k n) (hg : w.grownBy w' row) (hne : ∀ q, a.map (·.block) = some q → some q ≠ row) : MarkedI w' a k n := by
  rcases h with h | ⟨g, rfl, hf⟩
  · exact Or.inl h
  · exact Or.inr ⟨g, rfl, hf.grown hg (hne g rfl)⟩
theorem MarkedI.step {w w' : World} {a : Option Addr} {k n : Nat} (h : MarkedI w a k n) (hb : Below w.heap.size w w') : MarkedI w' a k n :=
  h.grown (grown_bel hb none) (fun q _ => by simp)

/-- Numbers that can be read: nil and empty, or their cells lie there. -/
def ArgI (w : World) (a : Option Addr) (us : List Int) : Prop := us.length = 0 ∨ ∃ g, a = some ⟨g, 0, none⟩ ∧ g < w.heap.size ∧ ∀ i, i < us.length → w.cell? ⟨g, i, none⟩ = some (.int .i64 (atI us i))
theorem FilledI.arg {w : World} {g : Nat} {us : List Int} (h : FilledI w g us us.length) : ArgI w (some ⟨g, 0, none⟩) us := Or.inr ⟨g, rfl, h.1, h.2.2⟩
theorem OwnedI.arg {w : World} {n : Nat} {a : Option Addr} {us : List Int} (h : OwnedI w n a us) : ArgI w a us := by
  rcases h with ⟨h, _⟩ | ⟨g, rfl, _, hf⟩
  · exact Or.inl h
  · exact hf.arg

end Go.Proofs.Ytokabkhnidlcnaa

/-
  Walks: the specification's Roles.
-/
namespace Go.Proofs.Ytokabkhnidlcnaa
set_option maxRecDepth 100000
set_option linter.unusedSimpArgs false
open Go.RowKit

theorem opI_range (ts : List TokR) : ∀ i : Nat, -(i : Int) ≤ opI ts i ∧ opI ts i ≤ (i : Int)
  | 0 => by simp [opI]
  | i + 1 => by
    have := opI_range ts i
    simp only [opI]
    split <;> split <;> omega

set_option maxHeartbeats 1000000 in
theorem l2Open_any (b off cap n : Nat) (ts : List TokR) (w : World) (hm : ts.length ≤ 1048576) (hn : n ≤ ts.length) (hw : OpsT w b off ts) :
    Calls Try.prog 58 #[.slice (some ⟨b, off, none⟩) ts.length cap, .int .i64 (n : Int)] w fun e w' => e = .returned (.int .i64 (opI ts n)) ∧ w' = w := by
  have HW := hide hw
  clear hw
  go_enter Try.func58, Try.ntmps58
  go_wp2
  go_loop [5, 6] (fun o i => ∃ k : Nat, k ≤ n ∧ i = .int .i64 (k : Int) ∧ o = .int .i64 (opI ts k)) (fun _ i => n - (intOf i).toNat)
  case atStart => exact ⟨0, Nat.zero_le _, rfl, rfl⟩
  case round =>
    obtain ⟨k, hk, rfl, rfl⟩ := hrel
    have hr := opI_range ts k
    by_cases hlt : k < n
    · obtain ⟨a0, a1, a2⟩ := (unhide HW) k (by omega)
      have hlt2 : k < ts.length := by omega
      have HS := hide (show opI ts (k + 1) = opI ts k + (if (atT ts k).k = 4 then 1 else 0) - (if (atT ts k).k = 5 then 1 else 0) from rfl)
      go_wp2
      all_goals
        refine ⟨⟨k + 1, by omega, by go_num, ?_⟩, by simp [intOf]; omega⟩
        rw [unhide HS]
        go_light
        simp only [beq_iff_eq, beq_eq_false_iff_ne, ne_eq] at *
        first | (congr 1; split <;> split <;> omega) | simp [*] | (simp_all; omega)
    · have HX := hide (show k = n by omega)
      go_wp2
      go_ret
      exact ⟨ret_int (by rw [unhide HX]), rfl⟩

/-- The first k states. -/
def stsTo (xs : List OpR) (ts : List TokR) (k : Nat) : List Bool := (List.range (k + 1)).map (stTo xs ts)
def cellsBo (l : List Bool) : List Value := l.map fun b => .bool b
theorem cellsBo_one (l : List Bool) : ∀ u ∈ cellsBo l, u.oneCell' = true := by
  intro u hu
  simp only [cellsBo, List.mem_map] at hu
  obtain ⟨b, _, rfl⟩ := hu
  rfl
theorem stsTo_len (xs : List OpR) (ts : List TokR) (k : Nat) : (stsTo xs ts k).length = k + 1 := by simp [stsTo]
theorem stsTo_succ (xs : List OpR) (ts : List TokR) (k : Nat) : cellsBo (stsTo xs ts (k + 1)) = cellsBo (stsTo xs ts k) ++ [.bool (stTo xs ts (k + 1))] := by
  simp [stsTo, cellsBo, List.range_succ (n := k + 1)]
theorem stsTo_at (xs : List OpR) (ts : List TokR) (k i : Nat) (h : i ≤ k) : (cellsBo (stsTo xs ts k))[i]? = some (.bool (stTo xs ts i)) := by
  have : i < k + 1 := by omega
  simp [cellsBo, stsTo, this]

theorem infoBool : (Try.prog.info? 4).map (fun i => (i.zero, i.size, i.bytes)) = some (some (.bool false), 1, 1) := by kernel_rfl

theorem grown_drewN (w : World) (n : Nat) : w.grownBy (w.drewN n) none := ⟨rfl, rfl, rfl, Nat.le_refl _, fun _ _ _ => rfl⟩
theorem below_drewN (w : World) (n : Nat) : Below w.heap.size w (w.drewN n) := ⟨rfl, rfl, rfl, Nat.le_refl _, fun _ _ => rfl⟩

theorem new_newsB (w : World) (v : Bool) : ∀ j u, ([Value.bool v])[j]? = some u → (w.alloc (.cells #[.bool v] 4)).cell? ((⟨w.heap.size, 0, none⟩ : Addr).add j) = some u := by
  intro j u hj
  rw [Addr.add_mid]
  have := World.rangeAt_of_block (w := w.alloc (.cells #[.bool v] 4)) (b := w.heap.size) (heap_alloc_new w _) 0 1
  exact this j u (by simpa using hj)

set_option maxHeartbeats 4000000 in
theorem l2States_any (b off cap b' off' cap' : Nat) (xs : List OpR) (ts : List TokR) (w : World) (hmx : xs.length ≤ 1048576) (hm : ts.length ≤ 1048576) (hw : Ops w b off xs) (hB : b < w.heap.size) (hw' : OpsT w b' off' ts) (hB' : b' < w.heap.size) :
    Calls Try.prog 33 #[.agg #[.slice (some ⟨b, off, none⟩) xs.length cap], .slice (some ⟨b', off', none⟩) ts.length cap'] w fun e w' => (∃ g c, e = .returned (.slice (some ⟨g, 0, none⟩) (ts.length + 1) c) ∧ w.heap.size ≤ g ∧ g < w'.heap.size ∧ ∀ i, i ≤ ts.length → w'.cell? ⟨g, i, none⟩ = some (.bool (stTo xs ts i))) ∧ Below w.heap.size w w' := by
  obtain ⟨i0, hi, hz0, hz1, hz2⟩ := info_parts infoBool
  have HI := hide hi
  have HZ := hide (And.intro hz0 (And.intro hz1 hz2))
  have HW := hide hw
  have HT := hide hw'
  clear hi hz0 hz1 hz2 hw hw'
  have HO := hide (show ((w.alloc (.cells #[.slice (some ⟨b, off, none⟩) xs.length cap] 25)).alloc (.cells #[.bool false] 4)).ownsRow (w.heap.size + 1) 4 1 (.slice (some ⟨w.heap.size + 1, 0, none⟩) 1 1) 1 (cellsBo (stsTo xs ts 0)) by
    have h0 := World.ownsRow_lit (base := w.heap.size + 1) (e := 4) (size := 1) (w.alloc (.cells #[.slice (some ⟨b, off, none⟩) xs.length cap] 25)) #[.bool false] 1 (by simp) (by decide) rfl
    simpa [cellsBo, stsTo, stTo] using h0)
  go_enter Try.func33, Try.ntmps33
  go_wp2_with fail
  go_loopw [5, 6] (fun out i wr => ∃ (k g c : Nat), k ≤ ts.length ∧ i = .int .i64 (k : Int) ∧ out = .slice (some ⟨g, 0, none⟩) (k + 1) c ∧ Hid (wr.ownsRow (w.heap.size + 1) 4 1 (.slice (some ⟨g, 0, none⟩) (k + 1) c) (k + 1) (cellsBo (stsTo xs ts k))) ∧ Below (w.heap.size + 1) (w.alloc (.cells #[.slice (some ⟨b, off, none⟩) xs.length cap] 25)) wr) (fun _ i _ => ts.length - (intOf i).toNat)
  case atStart => exact ⟨0, w.heap.size + 1, 1, Nat.zero_le _, rfl, rfl, HO, (below1 _ _).mono (by simp)⟩
  case round =>
    clear HO
    obtain ⟨k, g, c, hk, rfl, rfl, hown, hbel⟩ := hrel
    have hbw : Below w.heap.size w wr := (below1 _ _).trans (hbel.mono (by omega))
    have zw : w.heap.size < wr.heap.size := by have := hbel.size; simp at this; omega
    have c0 : wr.cell? ⟨w.heap.size, 0, none⟩ = some (.slice (some ⟨b, off, none⟩) xs.length cap) := by
      rw [hbel.cell (p := ⟨w.heap.size, 0, none⟩) (show w.heap.size < _ by omega)]; simp [go_sem]
    by_cases hlt : k < ts.length
    · obtain ⟨a0, a1, a2⟩ := ((unhide HT) k hlt).below hbw hB'
      have s0 : wr.cell? ⟨g, k, none⟩ = some (.bool (stTo xs ts k)) := ((unhide hown).cellAt k (by omega)).trans (stsTo_at xs ts k k (Nat.le_refl _))
      have hltI : (k : Int) < (ts.length : Int) := by omega
      have hk1 : (k : Int) < ((k + 1 : Nat) : Int) := by omega
      have hk1' : (k : Int) < (k : Int) + 1 := by omega
      by_cases h3 : (atT ts k).k = 3
      case pos =>
        have g1 : ((atT ts k).k == 1) = false := by simp; omega
        have g2 : ((atT ts k).k == 2) = false := by simp; omega
        have g5 : ((atT ts k).k == 5) = false := by simp; omega
        have g3 : ((atT ts k).k == 3) = true := by simpa using h3
        cases hst : stTo xs ts k
        · rw [hst] at s0
          have HV := hide (show stTo xs ts (k + 1) = false by simp [stTo, endsOf, hst, h3])
          clear h3
          go_wp2_with fail
          go_quiet (fail)
          go_wp2_with (at_builtin; refine wpList_append_own _ rfl (.tmp 49) (.tmp 51) 70 rfl (w.heap.size + 1) 4 i0 _ 1 1 Try.underlying70 (unhide HI) (unhide HZ).1 (unhide HZ).2.1 (unhide HZ).2.2 rfl (by decide) _ (k + 1) (cellsBo (stsTo xs ts k)) rfl (((unhide hown).kept (grown_drewN wr nq) (Or.inr (by simp [Value.ownBlock]))).alloc _) ⟨(wr.drewN nq).heap.size, 0, none⟩ 1 1 [.bool false] rfl rfl (new_newsB (wr.drewN nq) false) (by simp [Value.oneCell']) ?b1 ?b2 ?b3 ?next)
          case b1 => unfold maxLen; omega
          case b2 => omega
          case b3 => have := (hbel.trans ((below_drewN wr nq).mono zw)).size; simp at this; simp; omega
          case next =>
            intro v4 w4 hown4 hgrow4 hnil4
            have hgo := ((unhide hown).kept (grown_drewN wr nq) (Or.inr (by simp [Value.ownBlock]))).lt g rfl
            have hbel4 : Below (w.heap.size + 1) (w.alloc (.cells #[.slice (some ⟨b, off, none⟩) xs.length cap] 25)) w4 := ((hbel.trans ((below_drewN wr nq).mono zw)).alloc (by have := (hbel.trans ((below_drewN wr nq).mono zw)).size; simp at this; omega) _).grown hgrow4 (by have := (hbel.trans ((below_drewN wr nq).mono zw)).size; simp at this; simp; omega) (fun q hq => by simp [Value.ownBlock] at hq; omega)
            obtain ⟨g4, c4, rfl⟩ := owns_bval hown4 (by simp [hnil4])
            rw [show [Value.bool false] = [.bool (stTo xs ts (k + 1))] by rw [unhide HV], ← stsTo_succ] at hown4
            have HW4 := hide hown4
            clear hown4 hgrow4 hnil4
            go_wp2
            exact ⟨⟨k + 1, g4, c4, by omega, by go_num, rfl, HW4, hbel4⟩, by simp [intOf]; omega⟩
        · rw [hst] at s0
          have HST := hide hst
          have H3 := hide h3
          have zb : b < wr.heap.size := by omega
          have zg := (unhide hown).lt g rfl
          clear h3
          go_wp2_with fail
          go_region_held (fun w' => w'.cell? ⟨w.heap.size, 0, none⟩ = some (.slice (some ⟨b, off, none⟩) xs.length cap) ∧ w'.cell? ⟨g, k, none⟩ = some (.bool true) ∧ w'.cell? ⟨b', off' + k * 3 + 2, none⟩ = some (.string (atT ts k).t)) (go_keep) (first | (go_at_call 57; refine (l2Find_any b off cap xs (atT ts k).t 3 _ hmx ((unhide HW).below hbw.drew hB) zb).mono ?_; rintro e w2 ⟨⟨r, rfl, hr⟩, hb2⟩; have HR := hide hr; have HB2 := hide hb2; have q0 := (hb2.cell (p := ⟨w.heap.size, 0, none⟩) zw).trans (show wr.drew.cell? ⟨w.heap.size, 0, none⟩ = _ from c0); have q1 := (hb2.cell (p := ⟨g, k, none⟩) zg.2).trans (show wr.drew.cell? ⟨g, k, none⟩ = _ from s0); have q2 := (hb2.cell (p := ⟨b', off' + k * 3 + 2, none⟩) (Nat.lt_of_lt_of_le hB' (Nat.le_of_lt zw))).trans (show wr.drew.cell? ⟨b', off' + k * 3 + 2, none⟩ = _ from a2); clear hr hb2))
          have hbel2 := hbel.drew.trans ((unhide HB2).mono zw)
          have HOW2 := hide ((unhide hown).drew.kept (grown_bel (unhide HB2) none) (Or.inr (by simp [Value.ownBlock])))
          by_cases hr0 : 0 ≤ r
          · have HV := hide (show stTo xs ts (k + 1) = true by
              have := (hasB_iff xs (atT ts k).t 3).2 ((unhide HR).1 hr0)
              simp [stTo, endsOf, unhide HST, unhide H3, this])
            go_wp2_with (at_builtin; refine wpList_append_own _ rfl (.tmp 49) (.tmp 51) 70 rfl (w.heap.size + 1) 4 i0 _ 1 1 Try.underlying70 (unhide HI) (unhide HZ).1 (unhide HZ).2.1 (unhide HZ).2.2 rfl (by decide) _ (k + 1) (cellsBo (stsTo xs ts k)) rfl ((unhide HOW2).alloc _) ⟨(w2).heap.size, 0, none⟩ 1 1 [.bool true] rfl rfl (new_newsB (w2) true) (by simp [Value.oneCell']) ?b1 ?b2 ?b3 ?next)
            case b1 => unfold maxLen; omega
            case b2 => omega
            case b3 => have := (hbel2).size; simp at this; simp; omega
            case next =>
              intro v4 w4 hown4 hgrow4 hnil4
              have hgo := (unhide HOW2).lt g rfl
              have hbel4 : Below (w.heap.size + 1) (w.alloc (.cells #[.slice (some ⟨b, off, none⟩) xs.length cap] 25)) w4 := ((hbel2).alloc (by have := (hbel2).size; simp at this; omega) _).grown hgrow4 (by have := (hbel2).size; simp at this; simp; omega) (fun q hq => by simp [Value.ownBlock] at hq; omega)
              obtain ⟨g4, c4, rfl⟩ := owns_bval hown4 (by simp [hnil4])
              rw [show [Value.bool true] = [.bool (stTo xs ts (k + 1))] by rw [unhide HV], ← stsTo_succ] at hown4
              have HW4 := hide hown4
              clear hown4 hgrow4 hnil4
              go_wp2
              exact ⟨⟨k + 1, g4, c4, by omega, by go_num, rfl, HW4, hbel4⟩, by simp [intOf]; omega⟩
          · have HV := hide (show stTo xs ts (k + 1) = false by
              have : hasB xs (atT ts k).t 3 = false := by
                cases h : hasB xs (atT ts k).t 3
                · rfl
                · exact absurd ((unhide HR).2 ((hasB_iff xs (atT ts k).t 3).1 h)) hr0
              simp [stTo, endsOf, unhide HST, unhide H3, this])
            have hr0' : decide (0 ≤ r) = false := decide_eq_false hr0
            go_wp2_with (at_builtin; refine wpList_append_own _ rfl (.tmp 49) (.tmp 51) 70 rfl (w.heap.size + 1) 4 i0 _ 1 1 Try.underlying70 (unhide HI) (unhide HZ).1 (unhide HZ).2.1 (unhide HZ).2.2 rfl (by decide) _ (k + 1) (cellsBo (stsTo xs ts k)) rfl ((unhide HOW2).alloc _) ⟨(w2).heap.size, 0, none⟩ 1 1 [.bool false] rfl rfl (new_newsB (w2) false) (by simp [Value.oneCell']) ?b1 ?b2 ?b3 ?next)
            case b1 => unfold maxLen; omega
            case b2 => omega
            case b3 => have := (hbel2).size; simp at this; simp; omega
            case next =>
              intro v4 w4 hown4 hgrow4 hnil4
              have hgo := (unhide HOW2).lt g rfl
              have hbel4 : Below (w.heap.size + 1) (w.alloc (.cells #[.slice (some ⟨b, off, none⟩) xs.length cap] 25)) w4 := ((hbel2).alloc (by have := (hbel2).size; simp at this; omega) _).grown hgrow4 (by have := (hbel2).size; simp at this; simp; omega) (fun q hq => by simp [Value.ownBlock] at hq; omega)
              obtain ⟨g4, c4, rfl⟩ := owns_bval hown4 (by simp [hnil4])
              rw [show [Value.bool false] = [.bool (stTo xs ts (k + 1))] by rw [unhide HV], ← stsTo_succ] at hown4
              have HW4 := hide hown4
              clear hown4 hgrow4 hnil4
              go_wp2
              exact ⟨⟨k + 1, g4, c4, by omega, by go_num, rfl, HW4, hbel4⟩, by simp [intOf]; omega⟩
      have h1 : (atT ts k).k = 1 ∨ (atT ts k).k = 2 ∨ (atT ts k).k = 5 ∨ ((atT ts k).k ≠ 1 ∧ (atT ts k).k ≠ 2 ∧ (atT ts k).k ≠ 5) := by omega
      rcases h1 with h1 | h1 | h1 | h1
      · have g1 : ((atT ts k).k == 1) = true := by simp; omega
        have g2 : ((atT ts k).k == 2) = false := by simp; omega
        have g5 : ((atT ts k).k == 5) = false := by simp; omega
        have g3 : ((atT ts k).k == 3) = false := by simp; omega
        have HV := hide (show stTo xs ts (k + 1) = true by simp [stTo, endsOf, h3]; omega)
        clear h3
        go_wp2_with fail
        go_quiet (fail)
        go_wp2_with (at_builtin; refine wpList_append_own _ rfl (.tmp 49) (.tmp 51) 70 rfl (w.heap.size + 1) 4 i0 _ 1 1 Try.underlying70 (unhide HI) (unhide HZ).1 (unhide HZ).2.1 (unhide HZ).2.2 rfl (by decide) _ (k + 1) (cellsBo (stsTo xs ts k)) rfl (((unhide hown).kept (grown_drewN wr nq) (Or.inr (by simp [Value.ownBlock]))).alloc _) ⟨(wr.drewN nq).heap.size, 0, none⟩ 1 1 [.bool true] rfl rfl (new_newsB (wr.drewN nq) true) (by simp [Value.oneCell']) ?b1 ?b2 ?b3 ?next)
        case b1 => unfold maxLen; omega
        case b2 => omega
        case b3 => have := (hbel.trans ((below_drewN wr nq).mono zw)).size; simp at this; simp; omega
        case next =>
          intro v4 w4 hown4 hgrow4 hnil4
          have hgo := ((unhide hown).kept (grown_drewN wr nq) (Or.inr (by simp [Value.ownBlock]))).lt g rfl
          have hbel4 : Below (w.heap.size + 1) (w.alloc (.cells #[.slice (some ⟨b, off, none⟩) xs.length cap] 25)) w4 := ((hbel.trans ((below_drewN wr nq).mono zw)).alloc (by have := (hbel.trans ((below_drewN wr nq).mono zw)).size; simp at this; omega) _).grown hgrow4 (by have := (hbel.trans ((below_drewN wr nq).mono zw)).size; simp at this; simp; omega) (fun q hq => by simp [Value.ownBlock] at hq; omega)
          obtain ⟨g4, c4, rfl⟩ := owns_bval hown4 (by simp [hnil4])
          rw [show [Value.bool true] = [.bool (stTo xs ts (k + 1))] by rw [unhide HV], ← stsTo_succ] at hown4
          have HW4 := hide hown4
          clear hown4 hgrow4 hnil4
          go_wp2
          exact ⟨⟨k + 1, g4, c4, by omega, by go_num, rfl, HW4, hbel4⟩, by simp [intOf]; omega⟩
      · have g1 : ((atT ts k).k == 1) = false := by simp; omega
        have g2 : ((atT ts k).k == 2) = true := by simp; omega
        have g5 : ((atT ts k).k == 5) = false := by simp; omega
        have g3 : ((atT ts k).k == 3) = false := by simp; omega
        have HV := hide (show stTo xs ts (k + 1) = true by simp [stTo, endsOf, h3]; omega)
        clear h3
        go_wp2_with fail
        go_quiet (fail)
        go_wp2_with (at_builtin; refine wpList_append_own _ rfl (.tmp 49) (.tmp 51) 70 rfl (w.heap.size + 1) 4 i0 _ 1 1 Try.underlying70 (unhide HI) (unhide HZ).1 (unhide HZ).2.1 (unhide HZ).2.2 rfl (by decide) _ (k + 1) (cellsBo (stsTo xs ts k)) rfl (((unhide hown).kept (grown_drewN wr nq) (Or.inr (by simp [Value.ownBlock]))).alloc _) ⟨(wr.drewN nq).heap.size, 0, none⟩ 1 1 [.bool true] rfl rfl (new_newsB (wr.drewN nq) true) (by simp [Value.oneCell']) ?b1 ?b2 ?b3 ?next)
        case b1 => unfold maxLen; omega
        case b2 => omega
        case b3 => have := (hbel.trans ((below_drewN wr nq).mono zw)).size; simp at this; simp; omega
        case next =>
          intro v4 w4 hown4 hgrow4 hnil4
          have hgo := ((unhide hown).kept (grown_drewN wr nq) (Or.inr (by simp [Value.ownBlock]))).lt g rfl
          have hbel4 : Below (w.heap.size + 1) (w.alloc (.cells #[.slice (some ⟨b, off, none⟩) xs.length cap] 25)) w4 := ((hbel.trans ((below_drewN wr nq).mono zw)).alloc (by have := (hbel.trans ((below_drewN wr nq).mono zw)).size; simp at this; omega) _).grown hgrow4 (by have := (hbel.trans ((below_drewN wr nq).mono zw)).size; simp at this; simp; omega) (fun q hq => by simp [Value.ownBlock] at hq; omega)
          obtain ⟨g4, c4, rfl⟩ := owns_bval hown4 (by simp [hnil4])
          rw [show [Value.bool true] = [.bool (stTo xs ts (k + 1))] by rw [unhide HV], ← stsTo_succ] at hown4
          have HW4 := hide hown4
          clear hown4 hgrow4 hnil4
          go_wp2
          exact ⟨⟨k + 1, g4, c4, by omega, by go_num, rfl, HW4, hbel4⟩, by simp [intOf]; omega⟩
      · have g1 : ((atT ts k).k == 1) = false := by simp; omega
        have g2 : ((atT ts k).k == 2) = false := by simp; omega
        have g5 : ((atT ts k).k == 5) = true := by simp; omega
        have g3 : ((atT ts k).k == 3) = false := by simp; omega
        have HV := hide (show stTo xs ts (k + 1) = true by simp [stTo, endsOf, h3]; omega)
        clear h3
        go_wp2_with fail
        go_quiet (fail)
        go_wp2_with (at_builtin; refine wpList_append_own _ rfl (.tmp 49) (.tmp 51) 70 rfl (w.heap.size + 1) 4 i0 _ 1 1 Try.underlying70 (unhide HI) (unhide HZ).1 (unhide HZ).2.1 (unhide HZ).2.2 rfl (by decide) _ (k + 1) (cellsBo (stsTo xs ts k)) rfl (((unhide hown).kept (grown_drewN wr nq) (Or.inr (by simp [Value.ownBlock]))).alloc _) ⟨(wr.drewN nq).heap.size, 0, none⟩ 1 1 [.bool true] rfl rfl (new_newsB (wr.drewN nq) true) (by simp [Value.oneCell']) ?b1 ?b2 ?b3 ?next)
        case b1 => unfold maxLen; omega
        case b2 => omega
        case b3 => have := (hbel.trans ((below_drewN wr nq).mono zw)).size; simp at this; simp; omega
        case next =>
          intro v4 w4 hown4 hgrow4 hnil4
          have hgo := ((unhide hown).kept (grown_drewN wr nq) (Or.inr (by simp [Value.ownBlock]))).lt g rfl
          have hbel4 : Below (w.heap.size + 1) (w.alloc (.cells #[.slice (some ⟨b, off, none⟩) xs.length cap] 25)) w4 := ((hbel.trans ((below_drewN wr nq).mono zw)).alloc (by have := (hbel.trans ((below_drewN wr nq).mono zw)).size; simp at this; omega) _).grown hgrow4 (by have := (hbel.trans ((below_drewN wr nq).mono zw)).size; simp at this; simp; omega) (fun q hq => by simp [Value.ownBlock] at hq; omega)
          obtain ⟨g4, c4, rfl⟩ := owns_bval hown4 (by simp [hnil4])
          rw [show [Value.bool true] = [.bool (stTo xs ts (k + 1))] by rw [unhide HV], ← stsTo_succ] at hown4
          have HW4 := hide hown4
          clear hown4 hgrow4 hnil4
          go_wp2
          exact ⟨⟨k + 1, g4, c4, by omega, by go_num, rfl, HW4, hbel4⟩, by simp [intOf]; omega⟩
      · have g1 : ((atT ts k).k == 1) = false := by simp; omega
        have g2 : ((atT ts k).k == 2) = false := by simp; omega
        have g5 : ((atT ts k).k == 5) = false := by simp; omega
        have g3 : ((atT ts k).k == 3) = false := by simp; omega
        have HV := hide (show stTo xs ts (k + 1) = false by simp [stTo, endsOf, h3]; omega)
        clear h3
        go_wp2_with fail
        go_quiet (fail)
        go_wp2_with (at_builtin; refine wpList_append_own _ rfl (.tmp 49) (.tmp 51) 70 rfl (w.heap.size + 1) 4 i0 _ 1 1 Try.underlying70 (unhide HI) (unhide HZ).1 (unhide HZ).2.1 (unhide HZ).2.2 rfl (by decide) _ (k + 1) (cellsBo (stsTo xs ts k)) rfl (((unhide hown).kept (grown_drewN wr nq) (Or.inr (by simp [Value.ownBlock]))).alloc _) ⟨(wr.drewN nq).heap.size, 0, none⟩ 1 1 [.bool false] rfl rfl (new_newsB (wr.drewN nq) false) (by simp [Value.oneCell']) ?b1 ?b2 ?b3 ?next)
        case b1 => unfold maxLen; omega
        case b2 => omega
        case b3 => have := (hbel.trans ((below_drewN wr nq).mono zw)).size; simp at this; simp; omega
        case next =>
          intro v4 w4 hown4 hgrow4 hnil4
          have hgo := ((unhide hown).kept (grown_drewN wr nq) (Or.inr (by simp [Value.ownBlock]))).lt g rfl
          have hbel4 : Below (w.heap.size + 1) (w.alloc (.cells #[.slice (some ⟨b, off, none⟩) xs.length cap] 25)) w4 := ((hbel.trans ((below_drewN wr nq).mono zw)).alloc (by have := (hbel.trans ((below_drewN wr nq).mono zw)).size; simp at this; omega) _).grown hgrow4 (by have := (hbel.trans ((below_drewN wr nq).mono zw)).size; simp at this; simp; omega) (fun q hq => by simp [Value.ownBlock] at hq; omega)
          obtain ⟨g4, c4, rfl⟩ := owns_bval hown4 (by simp [hnil4])
          rw [show [Value.bool false] = [.bool (stTo xs ts (k + 1))] by rw [unhide HV], ← stsTo_succ] at hown4
          have HW4 := hide hown4
          clear hown4 hgrow4 hnil4
          go_wp2
          exact ⟨⟨k + 1, g4, c4, by omega, by go_num, rfl, HW4, hbel4⟩, by simp [intOf]; omega⟩
    · have HX := hide (show k = ts.length by omega)
      have hg := (unhide hown).lt g rfl
      have hcs := hide (fun i (hi : i ≤ k) => ((unhide hown).cellAt i (by omega)).trans (stsTo_at xs ts k i hi))
      go_wp2
      go_ret
      have e := unhide HX
      subst e
      exact ⟨⟨g, c, rfl, by omega, hg.2, fun i hi => (unhide hcs) i hi⟩, hbw⟩
end Go.Proofs.Ytokabkhnidlcnaa
