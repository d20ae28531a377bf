import Derived.Maps.AppendAt
import Derived.Test.YtfboipappaonhaaGreatU02
import Derived.Test.YtfboipappaonhaaGreatU04
import Derived.Test.YtfboipappaonhaaGreatU07

/-
  Rows of nodes that a call makes by append.
-/
namespace Go.Proofs.YtfboipappaonhaaGreat
set_option maxRecDepth 100000
open Go.RowKit

/-- The cells of a list of nodes. -/
def cellsN (zs : List NodeR) : List Value := zs.flatMap fun o => [.int .i64 o.k, .string o.t, .int .i64 o.a, .int .i64 o.b]

theorem cellsN_append (xs ys : List NodeR) : cellsN (xs ++ ys) = cellsN xs ++ cellsN ys := by simp [cellsN]
theorem cellsN_len : ∀ zs : List NodeR, (cellsN zs).length = zs.length * 4
  | [] => rfl
  | o :: r => by
    have := cellsN_len r
    simp only [cellsN, List.flatMap_cons, List.length_append, List.length_cons, List.length_nil] at *
    omega

theorem cellsN_at : ∀ (zs : List NodeR) (i : Nat), i < zs.length → (cellsN zs)[i * 4]? = some (.int .i64 (atN zs i).k) ∧ (cellsN zs)[i * 4 + 1]? = some (.string (atN zs i).t) ∧ (cellsN zs)[i * 4 + 2]? = some (.int .i64 (atN zs i).a) ∧ (cellsN zs)[i * 4 + 3]? = some (.int .i64 (atN zs i).b)
  | [], i, h => absurd h (Nat.not_lt_zero i)
  | o :: r, 0, _ => ⟨rfl, rfl, rfl, rfl⟩
  | o :: r, i + 1, h => by
    have ih := cellsN_at r i (by simpa using h)
    have e : ∀ j, (cellsN (o :: r))[(i + 1) * 4 + j]? = (cellsN r)[i * 4 + j]? := fun j => by
      have : (i + 1) * 4 + j = (i * 4 + j) + 4 := by omega
      rw [this]
      rfl
    exact ⟨(e 0).trans ih.1, (e 1).trans ih.2.1, (e 2).trans ih.2.2.1, (e 3).trans ih.2.2.2⟩

theorem cellsN_one' (zs : List NodeR) : ∀ u ∈ cellsN zs, u.oneCell' = true := by
  intro u hu
  simp only [cellsN, List.mem_flatMap] at hu
  obtain ⟨o, _, ho⟩ := hu
  simp at ho
  rcases ho with rfl | rfl | rfl | rfl <;> rfl

/-- A row that the call owns, as a filled one. -/
theorem owns_filledN {w : World} {base g cap : Nat} {e : TypeId} {zs : List NodeR} (h : w.ownsRow base e 4 (.slice (some ⟨g, 0, none⟩) zs.length cap) zs.length (cellsN zs)) : base ≤ g ∧ FilledN w g zs zs.length := by
  have hlt := h.lt g rfl
  refine ⟨hlt.1, hlt.2, fun j hj => ⟨?_, h.frozenAt _⟩, fun i hi => ?_⟩
  · rw [h.cellAt (0 + j) (by omega)]
    have : 0 + j < (cellsN zs).length := by rw [cellsN_len]; omega
    rw [List.getElem?_eq_getElem this]
    rfl
  · obtain ⟨c0, c1, c2, c3⟩ := cellsN_at zs i hi
    have e := fun j (hj : j < 4) => h.cellAt (i * 4 + j) (by omega)
    exact ⟨by simpa using (e 0 (by omega)).trans c0, by simpa using (e 1 (by omega)).trans c1, by simpa using (e 2 (by omega)).trans c2, by simpa using (e 3 (by omega)).trans c3⟩

/-- What an owned row's value is, where it is not nil. -/
theorem owns_valueN {w : World} {base n size : Nat} {e : TypeId} {v : Value} {xs : List Value} (h : w.ownsRow base e size v n xs) (hv : v ≠ .slice none 0 0) : ∃ g cap, v = .slice (some ⟨g, 0, none⟩) n cap := by
  obtain ⟨_, h | ⟨g, cap, cur, hv', _⟩⟩ := h
  · exact absurd h.1 hv
  · exact ⟨g, cap, hv'⟩

theorem owns_capN {w : World} {base n size g cap : Nat} {e : TypeId} {xs : List Value} (h : w.ownsRow base e size (.slice (some ⟨g, 0, none⟩) n cap) n xs) : n ≤ cap ∧ cap ≤ maxLen := by
  obtain ⟨_, h | ⟨g', cap', cur, hv', _, _, h1, h2, _⟩⟩ := h
  · simp at h
  · simp only [Value.slice.injEq, Option.some.injEq] at hv'
    obtain ⟨_, _, rfl⟩ := hv'
    exact ⟨h1, h2⟩

/-- A new node in a block of its own. -/
theorem new_newsN (w : World) (o : NodeR) : ∀ j u, (cellsN [o])[j]? = some u → (w.alloc (.cells #[.int .i64 o.k, .string o.t, .int .i64 o.a, .int .i64 o.b] 81)).cell? ((⟨w.heap.size, 0, none⟩ : Addr).add j) = some u := by
  intro j u hj
  rw [Addr.add_mid]
  have := World.rangeAt_of_block (w := w.alloc (.cells #[.int .i64 o.k, .string o.t, .int .i64 o.a, .int .i64 o.b] 81)) (b := w.heap.size) (heap_alloc_new w _) 0 4
  exact this j u (by simpa [cellsN] using hj)

theorem FilledN.arg {w : World} {g : Nat} {us : List NodeR} (h : FilledN w g us us.length) : ArgN w (some ⟨g, 0, none⟩) us := Or.inr ⟨g, 0, rfl, h.ops, h.1⟩

/-- A list of nodes that a call has made: nil and empty, or a row of its own. -/
def OwnedN (w : World) (n : Nat) (a : Option Addr) (us : List NodeR) : Prop := (us.length = 0 ∧ a = none) ∨ ∃ g, a = some ⟨g, 0, none⟩ ∧ n ≤ g ∧ FilledN w g us us.length

theorem OwnedN.arg {w : World} {n : Nat} {a : Option Addr} {us : List NodeR} (h : OwnedN w n a us) : ArgN w a us := by
  rcases h with ⟨h, _⟩ | ⟨g, rfl, _, hf⟩
  · exact Or.inl h
  · exact hf.arg

theorem OwnedN.grown {w w' : World} {n : Nat} {a : Option Addr} {us : List NodeR} {row : Option Nat} (h : OwnedN w n a us) (hg : w.grownBy w' row) (hr : ∀ k, row = some k → k < n) : OwnedN w' n a us := by
  rcases h with h | ⟨g, rfl, hn, hf⟩
  · exact Or.inl h
  · exact Or.inr ⟨g, rfl, hn, hf.grown hg (fun e => by have := hr g e.symm; omega)⟩

theorem OwnedN.step {w w' : World} {n : Nat} {a : Option Addr} {us : List NodeR} (h : OwnedN w n a us) (hb : Below w.heap.size w w') : OwnedN w' n a us :=
  h.grown (grown_belN hb none) (fun k hk => by cases hk)

theorem OwnedN.lt {w : World} {n : Nat} {a : Option Addr} {us : List NodeR} (h : OwnedN w n a us) : ∀ k, a.map (·.block) = some k → n ≤ k ∧ k < w.heap.size := by
  rcases h with ⟨_, rfl⟩ | ⟨g, rfl, hn, hf⟩
  · intro k hk; cases hk
  · intro k hk; injection hk with hk; subst hk; exact ⟨hn, hf.1⟩
end Go.Proofs.YtfboipappaonhaaGreat

/-
  Walks: the specification's trees without groups.
-/
namespace Go.Proofs.YtfboipappaonhaaGreat
set_option maxRecDepth 100000
set_option linter.unusedVariables false
set_option linter.unusedSimpArgs false
open Go.RowKit

theorem Kept1.grownRow {w w1 w2 : World} {g : Nat} {row : Option Nat} (h : Kept1 w w1 g) (hg : w1.grownBy w2 row) (hr : ∀ k, row = some k → k = g ∨ w.heap.size ≤ k) : Kept1 w w2 g :=
  ⟨hg.os.trans h.os, hg.tape.trans h.tape, hg.output.trans h.output, Nat.le_trans h.size hg.size, fun i hi a => (hg.block i (Nat.lt_of_lt_of_le hi h.size) (fun e => by rcases hr i e.symm with h | h; exact a h; omega)).trans (h.block i hi a)⟩

theorem Kept1.setRow {w w1 : World} {g : Nat} (h : Kept1 w w1 g) (b o : Nat) (v : Value) (hb : b = g ∨ w.heap.size ≤ b) : Kept1 w (w1.setCell ⟨b, o, none⟩ v) g :=
  h.grownRow (row := some b) ⟨rfl, rfl, rfl, by simp [World.setCell], fun i _ hi => Below.heap_setCell _ _ _ _ (fun e => hi (by rw [e]))⟩ (fun k hk => by injection hk with hk; subst hk; exact hb)

theorem owns_set {w : World} {B e size n : Nat} {v : Value} {xs : List Value} (h : w.ownsRow B e size v n xs) (b o : Nat) (u : Value) (hb : v.ownBlock ≠ some b) : (w.setCell ⟨b, o, none⟩ u).ownsRow B e size v n xs :=
  h.kept (row := some b) ⟨rfl, rfl, rfl, by simp [World.setCell], fun i _ hi => Below.heap_setCell _ _ _ _ (fun e => hi (by rw [e]))⟩ (Or.inr hb)

/-- A row of nodes that belongs to the call. -/
def RowN (w : World) (B g c : Nat) (us : List NodeR) : Prop := w.ownsRow B 81 4 (.slice (some ⟨g, 0, none⟩) us.length c) us.length (cellsN us)

theorem RowN.kept {w w' : World} {B g c g' : Nat} {us : List NodeR} (h : RowN w B g c us) (hk : Kept1 w w' g') (hne : g' ≠ g) : RowN w' B g c us :=
  World.ownsRow.kept h (grown_kept1 hk) (Or.inr (by simp [Value.ownBlock]; omega))
theorem RowN.below {w w' : World} {B g c : Nat} {us : List NodeR} (h : RowN w B g c us) (hb : Below w.heap.size w w') : RowN w' B g c us :=
  World.ownsRow.kept h (grown_belN hb none) (Or.inr (by simp [Value.ownBlock]))
theorem RowN.set {w : World} {B g c : Nat} {us : List NodeR} (h : RowN w B g c us) (b o : Nat) (u : Value) (hb : b ≠ g) : RowN (w.setCell ⟨b, o, none⟩ u) B g c us :=
  owns_set h b o u (by simp [Value.ownBlock]; omega)
theorem RowN.lt {w : World} {B g c : Nat} {us : List NodeR} (h : RowN w B g c us) : B ≤ g ∧ g < w.heap.size := World.ownsRow.lt h g rfl

/-- A row with one node more. -/
theorem RowN.snoc {w : World} {B : Nat} {v : Value} {us vs : List NodeR} {o : NodeR} (h : w.ownsRow B 81 4 v (us.length + 1) (cellsN us ++ cellsN [o])) (hv : v ≠ .slice none 0 0) (e : vs = us ++ [o]) : ∃ g c, v = .slice (some ⟨g, 0, none⟩) vs.length c ∧ RowN w B g c vs := by
  subst e
  obtain ⟨g, c, rfl⟩ := owns_valueN h hv
  have hl : us.length + 1 = (us ++ [o]).length := by simp
  rw [← cellsN_append, hl] at h
  exact ⟨g, c, by rw [hl], h⟩

theorem new_newsAt (w : World) (n : Nat) (o : NodeR) (hn : w.heap.size = n) : ∀ j u, (cellsN [o])[j]? = some u → (w.alloc (.cells #[.int .i64 o.k, .string o.t, .int .i64 o.a, .int .i64 o.b] 81)).cell? ((⟨n, 0, none⟩ : Addr).add j) = some u := by
  subst hn
  exact new_newsN w o

set_option maxHeartbeats 8000000 in
theorem l3Erased_any (b off cap : Nat) (xs : List NodeR) (hm : xs.length ≤ 20000) : ∀ (n i f B g c : Nat) (us vs : List NodeR) (w : World), i < n → i < xs.length → Hid (frS xs i = some f) → Hid (us = er xs f) → Hid (vs = er xs (i + 1)) → OpsN w b off xs → b < B → B ≤ w.heap.size → RowN w B g c us →
    Calls Tryz.prog 73 #[.slice (some ⟨b, off, none⟩) xs.length cap, .int .i64 (i : Int), .slice (some ⟨g, 0, none⟩) us.length c] w fun e w' => (∃ g' c', e = .returned (.slice (some ⟨g', 0, none⟩) vs.length c') ∧ Hid (RowN w' B g' c' vs) ∧ (g' = g ∨ w.heap.size ≤ g')) ∧ Hid (Kept1 w w' g)
  | 0, _, _, _, _, _, _, _, _, h, _, _, _, _, _, _, _, _ => absurd h (Nat.not_lt_zero _)
  | n + 1, i, f, B, g, c, us, vs, w, hin, hi, hf, hus, hvs, hw, hb, hB, hrow => by
    obtain ⟨i0, hi0, hz0, hz1, hz2⟩ := info_parts' infoN
    have HI := hide hi0
    have HZ := hide (And.intro hz0 (And.intro hz1 hz2))
    clear hi0 hz0 hz1 hz2
    obtain ⟨h0, h1, h2, h3⟩ := hw i hi
    have IH := hide (l3Erased_any b off cap xs hm n)
    have HW := hide hw
    have HR := hide hrow
    have hg := hrow.lt
    have hiI : (i : Int) < (xs.length : Int) := by omega
    have hul : us.length ≤ 20000 := by
      have a1 := cnt_le xs f
      have a2 := frS_le (unhide hf)
      rw [unhide hus, er_len]; omega
    clear hw hrow
    rcases frS_some (unhide hf) with ⟨hk, ha, hbb, hfi⟩ | ⟨hk, h1i, ha, hbb, hf1⟩ | ⟨hk, h1i, hbb, f2, hf2, h2f, ha, hf1⟩
    · have HK := hide hk
      have h6 : ((atN xs i).k == 6) = false := by
        rw [beq_eq_false_iff_ne]; intro e; rw [e] at hk; simp [kids] at hk
      have HV := hide (show vs = us ++ [⟨(atN xs i).k, (atN xs i).t, 0, 0⟩] by
        rw [unhide hvs, unhide hus, hfi, er_other (by simpa using h6)]
        simp [erN, hk])
      clear hk ha hbb hfi
      go_enter Tryz.func73, Tryz.ntmps73
      go_wp2_with (first | (go_at_call 55; refine (l3Kids_is (unhide HK) 0 rfl _).mono ?_; rintro e w' ⟨rfl, rfl⟩) | (at_builtin; refine wpList_append_own_at _ rfl (.tmp 52) (.tmp 54) 26 rfl B 81 i0 _ 4 40 Tryz.underlying26 (unhide HI) (unhide HZ).1 (unhide HZ).2.1 (unhide HZ).2.2 rfl (by decide) _ us.length (cellsN us) rfl ((((unhide HR).below (below1 _ _)).below (below1 _ _)).below (below1 _ _)) ⟨w.heap.size + 1 + 1, 0, none⟩ 1 1 (cellsN [⟨(atN xs i).k, (atN xs i).t, 0, 0⟩]) rfl rfl (by simpa using new_newsN ((w.alloc _).alloc _) ⟨(atN xs i).k, (atN xs i).t, 0, 0⟩) (cellsN_one' _) ?b1 ?b2 ?b3 ?next))
      case b1 => unfold maxLen; omega
      case b2 => omega
      case b3 => simp; omega
      case next =>
        intro v4 w4 hown4 hgrow4 hnil4 hat4
        obtain ⟨g4, c4, rfl, hr4⟩ := RowN.snoc hown4 (by simp [hnil4]) (unhide HV)
        have HR4 := hide hr4
        have HKp := hide (((Kept1.of_below (g := g) (((below1 _ _).alloc (by simp) _).alloc (by simp; omega) _))).grownRow hgrow4 (fun k hk => by simp [Value.ownBlock] at hk; omega))
        have hgg : g4 = g ∨ w.heap.size ≤ g4 := by simp [Value.ownBlock] at hat4; omega
        clear hown4 hgrow4 hnil4 hr4 hat4
        go_wp2_with fail
        go_ret
        exact ⟨⟨g4, c4, rfl, HR4, hgg⟩, HKp⟩
    · have HK := hide hk
      have ei : (i : Int) - 1 = ((i - 1 : Nat) : Int) := by omega
      rw [ha, ei] at h2
      have hii : i - 1 + 1 = i := by omega
      by_cases h6 : (atN xs i).k = 6
      · have HVS := hide (show vs = er xs (i - 1 + 1) by rw [unhide hvs, er_group h6, hii])
        rw [h6] at h0
        clear hk ha hbb h6
        go_enter Tryz.func73, Tryz.ntmps73
        go_wp2_with fail
        refine ((unhide IH) (i - 1) f B g c us vs _ (by omega) (by omega) (hide hf1) hus HVS ((unhide HW).below (below1 _ _) (by omega)) hb (by simp; omega) ((unhide HR).below (below1 _ _))).mono ?_
        rintro e w1 ⟨⟨g1, c1, rfl, hr1, hg1⟩, hk1⟩
        have hk1' := hide ((Kept1.of_below (g := g) (below1 _ _)).trans (unhide hk1))
        have hg1' : g1 = g ∨ w.heap.size ≤ g1 := by simp at hg1; omega
        go_wp2_with fail
        go_ret
        exact ⟨⟨g1, c1, rfl, hr1, hg1'⟩, hk1'⟩
      · have h6' : ((atN xs i).k == 6) = false := by simpa using h6
        obtain ⟨us1, HU1⟩ : ∃ us1, Hid (us1 = er xs (i - 1 + 1)) := ⟨_, hide rfl⟩
        have hl1 : us1.length ≤ 20000 := by
          have := cnt_le xs (i - 1 + 1)
          rw [unhide HU1, er_len]; omega
        obtain ⟨nd, HND⟩ : ∃ nd : NodeR, Hid (nd = ⟨(atN xs i).k, (atN xs i).t, (us1.length : Int) - 1, 0⟩) := ⟨_, hide rfl⟩
        have HVS := hide (show vs = us1 ++ [nd] by
          rw [unhide hvs, er_other h6, unhide HND, unhide HU1, er_len, hii]
          congr 2
          unfold erN mvd
          rw [hk, ha]
          have : ((i : Int) - 1).toNat + 1 = i := by omega
          rw [this]
          simp)
        clear hk ha hbb h6
        go_enter Tryz.func73, Tryz.ntmps73
        go_wp2_with (go_at_call 55; refine (l3Kids_is (unhide HK) 1 rfl _).mono ?_; rintro e w' ⟨rfl, rfl⟩)
        refine ((unhide IH) (i - 1) f B g c us us1 _ (by omega) (by omega) (hide hf1) hus HU1 ((unhide HW).below ((below1 _ _).alloc (by simp) _) (by omega)) hb (by simp; omega) (((unhide HR).below (below1 _ _)).below (below1 _ _))).mono ?_
        rintro e w1 ⟨⟨g1, c1, rfl, hr1, hg1⟩, hk1⟩
        have hg1l := (unhide hr1).lt
        have hsz1 : w.heap.size + 2 ≤ w1.heap.size := by have := (unhide hk1).size; simp at this; omega
        have hg1' : g1 = g ∨ w.heap.size + 2 ≤ g1 := by simp at hg1; omega
        have p0 : w1.cell? ⟨w.heap.size, 0, none⟩ = some (.int .i64 (atN xs i).k) := ((unhide hk1).cell (b := w.heap.size) (by simp; omega) (by omega) 0).trans (by simp [go_sem])
        have q0 : w1.cell? ⟨w.heap.size + 1, 0, none⟩ = some (.int .i64 (atN xs i).k) := ((unhide hk1).cell (b := w.heap.size + 1) (by simp) (by omega) 0).trans (by simp [go_sem])
        have q1 : w1.cell? ⟨w.heap.size + 1, 1, none⟩ = some (.string (atN xs i).t) := ((unhide hk1).cell (b := w.heap.size + 1) (by simp) (by omega) 1).trans (by simp [go_sem])
        have q2 : w1.cell? ⟨w.heap.size + 1, 2, none⟩ = some (.int .i64 0) := ((unhide hk1).cell (b := w.heap.size + 1) (by simp) (by omega) 2).trans (by simp [go_sem])
        have q3 : w1.cell? ⟨w.heap.size + 1, 3, none⟩ = some (.int .i64 0) := ((unhide hk1).cell (b := w.heap.size + 1) (by simp) (by omega) 3).trans (by simp [go_sem])
        have r2 : w1.frozen? ⟨w.heap.size + 1, 2, none⟩ = false := ((unhide hk1).frozen (b := w.heap.size + 1) (by simp) (by omega) 2).trans (by simp [go_sem])
        have HKA := hide ((Kept1.of_below (g := g) ((below1 w _).alloc (by simp) _)).trans (unhide hk1))
        clear hk1
        have ST := hide (show RowN ((w1.setCell ⟨w.heap.size + 1, 2, none⟩ (.int .i64 ((us1.length : Int) - 1))).alloc (.cells #[.int .i64 nd.k, .string nd.t, .int .i64 nd.a, .int .i64 nd.b] 81)) B g1 c1 us1 from ((unhide hr1).set _ _ _ (by omega)).below (below1 _ _))
        have NW := hide (new_newsAt (w1.setCell ⟨w.heap.size + 1, 2, none⟩ (.int .i64 ((us1.length : Int) - 1))) w1.heap.size nd (by simp [World.setCell]))
        rw [unhide HND] at ST NW
        simp only at ST NW
        go_wp2_with (first | (go_at_call 55; refine (l3Kids_is (unhide HK) 1 rfl _).mono ?_; rintro e w' ⟨rfl, rfl⟩) | (at_builtin; refine wpList_append_own_at _ rfl (.tmp 52) (.tmp 54) 26 rfl B 81 i0 _ 4 40 Tryz.underlying26 (unhide HI) (unhide HZ).1 (unhide HZ).2.1 (unhide HZ).2.2 rfl (by decide) _ us1.length (cellsN us1) rfl (unhide ST) ⟨w1.heap.size, 0, none⟩ 1 1 (cellsN [nd]) rfl rfl (by rw [unhide HND]; exact unhide NW) (cellsN_one' _) ?b1 ?b2 ?b3 ?next))
        case b1 => unfold maxLen; omega
        case b2 => omega
        case b3 => simp; omega
        case next =>
          intro v4 w4 hown4 hgrow4 hnil4 hat4
          obtain ⟨g4, c4, rfl, hr4⟩ := RowN.snoc hown4 (by simp [hnil4]) (unhide HVS)
          have HR4 := hide hr4
          have HKp := hide ((((unhide HKA).setRow (w.heap.size + 1) 2 (.int .i64 ((us1.length : Int) - 1)) (by omega)).trans (Kept1.of_below (below1 _ _))).grownRow hgrow4 (fun k hk => by simp [Value.ownBlock] at hk; omega))
          have hgg : g4 = g ∨ w.heap.size ≤ g4 := by simp [Value.ownBlock] at hat4; omega
          clear hown4 hgrow4 hnil4 hr4 hat4
          go_wp2_with fail
          go_ret
          exact ⟨⟨g4, c4, rfl, HR4, hgg⟩, HKp⟩
    · have HK := hide hk
      have ei : (i : Int) - 1 = ((i - 1 : Nat) : Int) := by omega
      have ef : (f2 : Int) - 1 = ((f2 - 1 : Nat) : Int) := by omega
      rw [ha, ef] at h2
      rw [hbb, ei] at h3
      have hle := frS_le hf2
      have hii : i - 1 + 1 = i := by omega
      have hff : f2 - 1 + 1 = f2 := by omega
      have h6 : (atN xs i).k ≠ 6 := fun e => by rw [e] at hk; simp [kids] at hk
      have h6' : ((atN xs i).k == 6) = false := by simpa using h6
      obtain ⟨us1, HU1⟩ : ∃ us1, Hid (us1 = er xs (f2 - 1 + 1)) := ⟨_, hide rfl⟩
      obtain ⟨us2, HU2⟩ : ∃ us2, Hid (us2 = er xs (i - 1 + 1)) := ⟨_, hide rfl⟩
      have hl1 : us1.length ≤ 20000 := by
        have := cnt_le xs (f2 - 1 + 1)
        rw [unhide HU1, er_len]; omega
      have hl2 : us2.length ≤ 20000 := by
        have := cnt_le xs (i - 1 + 1)
        rw [unhide HU2, er_len]; omega
      obtain ⟨nd, HND⟩ : ∃ nd : NodeR, Hid (nd = ⟨(atN xs i).k, (atN xs i).t, (us1.length : Int) - 1, (us2.length : Int) - 1⟩) := ⟨_, hide rfl⟩
      have HVS := hide (show vs = us2 ++ [nd] by
        rw [unhide hvs, er_other h6, unhide HND, unhide HU1, unhide HU2, er_len, er_len, hii, hff]
        congr 2
        unfold erN mvd
        rw [hk, ha, hbb]
        have e1 : ((i : Int) - 1).toNat + 1 = i := by omega
        have e2 : ((f2 : Int) - 1).toNat + 1 = f2 := by omega
        rw [e1, e2]
        simp)
      have HU1' := hide (show us1 = er xs f2 by rw [unhide HU1, hff])
      clear hk ha hbb h6
      go_enter Tryz.func73, Tryz.ntmps73
      go_wp2_with (go_at_call 55; refine (l3Kids_is (unhide HK) 2 rfl _).mono ?_; rintro e w' ⟨rfl, rfl⟩)
      refine ((unhide IH) (f2 - 1) f B g c us us1 _ (by omega) (by omega) (hide hf1) hus HU1 ((unhide HW).below ((below1 _ _).alloc (by simp) _) (by omega)) hb (by simp; omega) (((unhide HR).below (below1 _ _)).below (below1 _ _))).mono ?_
      rintro e w1 ⟨⟨g1, c1, rfl, hr1, hg1⟩, hk1⟩
      have hg1l := (unhide hr1).lt
      have hsz1 : w.heap.size + 2 ≤ w1.heap.size := by have := (unhide hk1).size; simp at this; omega
      have hg1' : g1 = g ∨ w.heap.size + 2 ≤ g1 := by simp at hg1; omega
      have p0 : w1.cell? ⟨w.heap.size, 0, none⟩ = some (.int .i64 (atN xs i).k) := ((unhide hk1).cell (b := w.heap.size) (by simp; omega) (by omega) 0).trans (by simp [go_sem])
      have p3 : w1.cell? ⟨w.heap.size, 3, none⟩ = some (.int .i64 ((i - 1 : Nat) : Int)) := ((unhide hk1).cell (b := w.heap.size) (by simp; omega) (by omega) 3).trans (by simp [go_sem])
      have q0 : w1.cell? ⟨w.heap.size + 1, 0, none⟩ = some (.int .i64 (atN xs i).k) := ((unhide hk1).cell (b := w.heap.size + 1) (by simp) (by omega) 0).trans (by simp [go_sem])
      have q1 : w1.cell? ⟨w.heap.size + 1, 1, none⟩ = some (.string (atN xs i).t) := ((unhide hk1).cell (b := w.heap.size + 1) (by simp) (by omega) 1).trans (by simp [go_sem])
      have q2 : w1.cell? ⟨w.heap.size + 1, 2, none⟩ = some (.int .i64 0) := ((unhide hk1).cell (b := w.heap.size + 1) (by simp) (by omega) 2).trans (by simp [go_sem])
      have q3 : w1.cell? ⟨w.heap.size + 1, 3, none⟩ = some (.int .i64 0) := ((unhide hk1).cell (b := w.heap.size + 1) (by simp) (by omega) 3).trans (by simp [go_sem])
      have r2 : w1.frozen? ⟨w.heap.size + 1, 2, none⟩ = false := ((unhide hk1).frozen (b := w.heap.size + 1) (by simp) (by omega) 2).trans (by simp [go_sem])
      have r3 : w1.frozen? ⟨w.heap.size + 1, 3, none⟩ = false := ((unhide hk1).frozen (b := w.heap.size + 1) (by simp) (by omega) 3).trans (by simp [go_sem])
      have HKA := hide ((Kept1.of_below (g := g) ((below1 w _).alloc (by simp) _)).trans (unhide hk1))
      clear hk1
      go_wp2_with (go_at_call 55; refine (l3Kids_is (unhide HK) 2 rfl _).mono ?_; rintro e w' ⟨rfl, rfl⟩)
      have HKB := hide ((unhide HKA).setRow (w.heap.size + 1) 2 (.int .i64 ((us1.length : Int) - 1)) (Or.inr (by omega)))
      refine ((unhide IH) (i - 1) f2 B g1 c1 us1 us2 _ (by omega) (by omega) (hide hf2) HU1' HU2 (fun j hj => ?_) hb (by simp [World.setCell]; omega) ((unhide hr1).set _ _ _ (by omega))).mono ?_
      · have e := (unhide HKB).cell (b := b) (by omega) (by omega)
        obtain ⟨a0, a1, a2, a3⟩ := (unhide HW) j hj
        exact ⟨(e _).trans a0, (e _).trans a1, (e _).trans a2, (e _).trans a3⟩
      rintro e w2 ⟨⟨g2, c2, rfl, hr2, hg2⟩, hk2⟩
      have hg2l := (unhide hr2).lt
      have hsz2 : w1.heap.size ≤ w2.heap.size := by have := (unhide hk2).size; simpa [World.setCell] using this
      have hg2' : g2 = g1 ∨ w1.heap.size ≤ g2 := by simpa [World.setCell] using hg2
      have sc : ∀ o, (w1.setCell ⟨w.heap.size + 1, 2, none⟩ (.int .i64 ((us1.length : Int) - 1))).heap.size = w1.heap.size ∧ (o ≠ 2 → (w1.setCell ⟨w.heap.size + 1, 2, none⟩ (.int .i64 ((us1.length : Int) - 1))).cell? ⟨w.heap.size + 1, o, none⟩ = w1.cell? ⟨w.heap.size + 1, o, none⟩) := fun o => ⟨by simp [World.setCell], fun ho => World.cell?_setCell_other _ _ _ _ (fun e => ho (by injection e with _ e; exact e.symm))⟩
      have s0 : w2.cell? ⟨w.heap.size + 1, 0, none⟩ = some (.int .i64 (atN xs i).k) := ((unhide hk2).cell (b := w.heap.size + 1) (by rw [(sc 0).1]; omega) (by omega) 0).trans (((sc 0).2 (by omega)).trans q0)
      have s1 : w2.cell? ⟨w.heap.size + 1, 1, none⟩ = some (.string (atN xs i).t) := ((unhide hk2).cell (b := w.heap.size + 1) (by rw [(sc 0).1]; omega) (by omega) 1).trans (((sc 1).2 (by omega)).trans q1)
      have s2 : w2.cell? ⟨w.heap.size + 1, 2, none⟩ = some (.int .i64 ((us1.length : Int) - 1)) := ((unhide hk2).cell (b := w.heap.size + 1) (by rw [(sc 0).1]; omega) (by omega) 2).trans (World.cell?_setCell_same _ _ _ q2)
      have s3 : w2.cell? ⟨w.heap.size + 1, 3, none⟩ = some (.int .i64 0) := ((unhide hk2).cell (b := w.heap.size + 1) (by rw [(sc 0).1]; omega) (by omega) 3).trans (((sc 3).2 (by omega)).trans q3)
      have t3 : w2.frozen? ⟨w.heap.size + 1, 3, none⟩ = false := ((unhide hk2).frozen (b := w.heap.size + 1) (by rw [(sc 0).1]; omega) (by omega) 3).trans ((World.frozen?_setCell _ _ _ _).trans r3)
      have HKC := hide ((unhide HKB).grownRow (grown_kept1 (unhide hk2)) (fun k hk => by injection hk with hk; subst hk; omega))
      clear hk2 sc p0 p3 q0 q1 q2 q3 r2 r3 HKA HKB hr1
      have ST := hide (show RowN ((w2.setCell ⟨w.heap.size + 1, 3, none⟩ (.int .i64 ((us2.length : Int) - 1))).alloc (.cells #[.int .i64 nd.k, .string nd.t, .int .i64 nd.a, .int .i64 nd.b] 81)) B g2 c2 us2 from ((unhide hr2).set _ _ _ (by omega)).below (below1 _ _))
      have NW := hide (new_newsAt (w2.setCell ⟨w.heap.size + 1, 3, none⟩ (.int .i64 ((us2.length : Int) - 1))) w2.heap.size nd (by simp [World.setCell]))
      rw [unhide HND] at ST NW
      simp only at ST NW
      go_wp2_with (at_builtin; refine wpList_append_own_at _ rfl (.tmp 52) (.tmp 54) 26 rfl B 81 i0 _ 4 40 Tryz.underlying26 (unhide HI) (unhide HZ).1 (unhide HZ).2.1 (unhide HZ).2.2 rfl (by decide) _ us2.length (cellsN us2) rfl (unhide ST) ⟨w2.heap.size, 0, none⟩ 1 1 (cellsN [nd]) rfl rfl (by rw [unhide HND]; exact unhide NW) (cellsN_one' _) ?b1 ?b2 ?b3 ?next)
      case b1 => unfold maxLen; omega
      case b2 => omega
      case b3 => simp; omega
      case next =>
        intro v4 w4 hown4 hgrow4 hnil4 hat4
        obtain ⟨g4, c4, rfl, hr4⟩ := RowN.snoc hown4 (by simp [hnil4]) (unhide HVS)
        have HR4 := hide hr4
        have HKp := hide ((((unhide HKC).setRow (w.heap.size + 1) 3 (.int .i64 ((us2.length : Int) - 1)) (by omega)).trans (Kept1.of_below (below1 _ _))).grownRow hgrow4 (fun k hk => by simp [Value.ownBlock] at hk; omega))
        have hgg : g4 = g ∨ w.heap.size ≤ g4 := by simp [Value.ownBlock] at hat4; omega
        clear hown4 hgrow4 hnil4 hr4 hat4
        go_wp2_with fail
        go_ret
        exact ⟨⟨g4, c4, rfl, HR4, hgg⟩, HKp⟩

set_option maxHeartbeats 4000000 in
theorem specErase_any (b off cap : Nat) (xs : List NodeR) (w : World) (hm : xs.length ≤ 1048576) (hw : OpsN w b off xs) (hs : SizedN xs) (hB : b < w.heap.size) :
    Calls Tryz.prog 34 #[.agg #[.slice (some ⟨b, off, none⟩) xs.length cap]] w fun e w' => (∃ (a : Option Addr) (c : Nat) (us : List NodeR) (v : Bool), e = .returned (.tuple #[.agg #[.slice a us.length c], .bool v]) ∧ Hid (OwnedN w' w.heap.size a us) ∧ Hid (EraseIs xs us v)) ∧ Below w.heap.size w w' := by
  have HW := hide hw
  have HS := hide hs
  clear hw hs
  go_enter Tryz.func34, Tryz.ntmps34
  go_wp2_with fail
  refine (l3InOrder_any b off cap xs _ hm ((unhide HW).below ((below1 _ _).alloc (by simp) _) hB) (unhide HS) (by simp; omega)).mono ?_
  rintro e w1 ⟨⟨v, rfl, hv⟩, hb1⟩
  have HV := hide hv
  have bel1 : Below w.heap.size w w1 := ((below1 _ _).alloc (by simp) _).trans (hb1.mono (by simp; omega))
  have z1 : w.heap.size + 2 ≤ w1.heap.size := by have := hb1.size; simp at this; omega
  have c0 : w1.cell? ⟨w.heap.size, 0, none⟩ = some (.slice (some ⟨b, off, none⟩) xs.length cap) := (hb1.cell (p := ⟨w.heap.size, 0, none⟩) (by simp; omega)).trans (by simp [go_sem])
  have c1 : w1.cell? ⟨w.heap.size + 1, 0, none⟩ = some (.slice none 0 0) := (hb1.cell (p := ⟨w.heap.size + 1, 0, none⟩) (by simp)).trans (by simp [go_sem])
  have d1 : w1.frozen? ⟨w.heap.size + 1, 0, none⟩ = false := (hb1.frozen (p := ⟨w.heap.size + 1, 0, none⟩) (by simp)).trans (by simp [go_sem])
  clear hv hb1
  cases v
  · go_wp2_with fail
    refine bodyPost_ret (v := .tuple #[.agg #[.slice none 0 0], .bool false]) ?res rfl ⟨⟨none, 0, [], false, rfl, hide (Or.inl ⟨rfl, rfl⟩), hide (Or.inr ⟨fun h => Bool.false_ne_true ((unhide HV).2 h), rfl, rfl⟩)⟩, ?_⟩
    case res => simp [results, Tryz.results34, go_sem, c1]
    exact bel1.setCell (by simp) _
  · have HO := hide ((unhide HV).1 rfl)
    have h20 := (unhide HO).2.1
    have h1 := (unhide HO).1
    have ei : (xs.length : Int) - 1 = ((xs.length - 1 : Nat) : Int) := by omega
    have hii : xs.length - 1 + 1 = xs.length := by omega
    obtain ⟨vs, HVS⟩ : ∃ vs, Hid (vs = er xs (xs.length - 1 + 1)) := ⟨_, hide rfl⟩
    have HR0 := hide (show RowN (w1.alloc (.cells #[] 81)) w1.heap.size w1.heap.size 0 [] by
      have := World.ownsRow_lit (base := w1.heap.size) (e := 81) (size := 4) w1 #[] 0 (Nat.le_refl _) (Nat.zero_le _) rfl
      simpa [RowN, cellsN] using this)
    go_wp2_with fail
    refine (l3Erased_any b off cap xs h20 xs.length (xs.length - 1) 0 w1.heap.size w1.heap.size 0 [] vs _ (by omega) (by omega) (hide (unhide HO).2.2.1) (hide rfl) HVS ((unhide HW).below (bel1.trans ((below1 _ _).mono bel1.size)) hB) (by omega) (by simp) (unhide HR0)).mono ?_
    rintro e w2 ⟨⟨g2, c2, rfl, hr2, hg2⟩, hk2⟩
    have hg2l := (unhide hr2).lt
    have z2 : w1.heap.size < w2.heap.size := by have := (unhide hk2).size; simp at this; omega
    have e1 : w2.cell? ⟨w.heap.size + 1, 0, none⟩ = some (.slice none 0 0) := ((unhide hk2).cell (b := w.heap.size + 1) (by simp; omega) (by omega) 0).trans (((below1 _ _).cell (p := ⟨w.heap.size + 1, 0, none⟩) (show w.heap.size + 1 < w1.heap.size by omega)).trans c1)
    have f1 : w2.frozen? ⟨w.heap.size + 1, 0, none⟩ = false := ((unhide hk2).frozen (b := w.heap.size + 1) (by simp; omega) (by omega) 0).trans (((below1 _ _).frozen (p := ⟨w.heap.size + 1, 0, none⟩) (show w.heap.size + 1 < w1.heap.size by omega)).trans d1)
    have bel2 : Below w.heap.size w w2 := (bel1.trans ((below1 _ _).mono bel1.size)).trans ((unhide hk2).below (by simp; omega) (by omega))
    clear c0 c1 d1 hk2 HR0
    go_wp2_with fail
    refine bodyPost_ret (v := .tuple #[.agg #[.slice (some ⟨g2, 0, none⟩) vs.length c2], .bool true]) ?res rfl ⟨⟨some ⟨g2, 0, none⟩, c2, vs, true, rfl, hide (Or.inr ⟨g2, rfl, by omega, ?_⟩), hide (Or.inl ⟨unhide HO, rfl, by rw [unhide HVS, hii]⟩)⟩, ?_⟩
    case res => simp [results, Tryz.results34, go_sem, e1]
    · exact (owns_filledN (unhide hr2)).2.setCell _ _ _ (by omega)
    · exact bel2.setCell (by simp) _
end Go.Proofs.YtfboipappaonhaaGreat

/-
  Walks: trees that are drawn: leaves.
-/
namespace Go.Proofs.YtfboipappaonhaaGreat
set_option maxRecDepth 100000
set_option linter.unusedSimpArgs false
set_option linter.unusedVariables false
open Go.RowKit

/-- What is kept beside a reader and a row. -/
structure K2 (w w' : World) (rp g : Nat) : Prop where
  os : w'.os = w.os
  tape : w'.tape = w.tape
  output : w'.output = w.output
  size : w.heap.size ≤ w'.heap.size
  block : ∀ i, i < w.heap.size → i ≠ rp → i ≠ g → w'.heap[i]? = w.heap[i]?

theorem K2.of1 {w w' : World} {rp g : Nat} (h : Kept1 w w' rp) : K2 w w' rp g := ⟨h.os, h.tape, h.output, h.size, fun i hi h1 _ => h.block i hi h1⟩
theorem K2.ofB {w w' : World} {rp g : Nat} (h : Below w.heap.size w w') : K2 w w' rp g := ⟨h.os, h.tape, h.output, h.size, fun i hi _ _ => h.block i hi⟩
theorem K2.trans {w w1 w2 : World} {rp g g1 : Nat} (h : K2 w w1 rp g) (h' : K2 w1 w2 rp g1) (hg : g1 = g ∨ w.heap.size ≤ g1) : K2 w w2 rp g :=
  ⟨h'.os.trans h.os, h'.tape.trans h.tape, h'.output.trans h.output, Nat.le_trans h.size h'.size, fun i hi a b => (h'.block i (Nat.lt_of_lt_of_le hi h.size) a (by rcases hg with rfl | hg; exact b; omega)).trans (h.block i hi a b)⟩
theorem K2.row {w w1 w2 : World} {rp g g1 : Nat} (h : K2 w w1 rp g) (h' : w1.grownBy w2 (some g1)) (hg : g1 = g ∨ w.heap.size ≤ g1) : K2 w w2 rp g :=
  ⟨h'.os.trans h.os, h'.tape.trans h.tape, h'.output.trans h.output, Nat.le_trans h.size h'.size, fun i hi a b => (h'.block i (Nat.lt_of_lt_of_le hi h.size) (fun e => by injection e with e; rcases hg with rfl | hg; exact b e; omega)).trans (h.block i hi a b)⟩
theorem K2.cell {w w' : World} {rp g : Nat} (h : K2 w w' rp g) {b : Nat} (hb : b < w.heap.size) (h1 : b ≠ rp) (h2 : b ≠ g) (o : Nat) : w'.cell? ⟨b, o, none⟩ = w.cell? ⟨b, o, none⟩ := World.cell?_of_block (w := w) (h.block b hb h1 h2)
theorem K2.frozen {w w' : World} {rp g : Nat} (h : K2 w w' rp g) {b : Nat} (hb : b < w.heap.size) (h1 : b ≠ rp) (h2 : b ≠ g) (o : Nat) : w'.frozen? ⟨b, o, none⟩ = w.frozen? ⟨b, o, none⟩ := World.frozen?_of_block (w := w) (h.block b hb h1 h2)

theorem RdS.row {w w' : World} {rp cap p g : Nat} {a : Option Addr} {bs : List UInt8} (h : RdS w rp a cap bs p) (hg : w.grownBy w' (some g)) (hr : rp < g) : RdS w' rp a cap bs p :=
  h.kept (fun i hi => hg.block i (by have := h.lt; omega) (fun e => by injection e with e; omega))

/-- The leaf of a byte. -/
def leafN (k : Nat) : NodeR := if k % 2 = 0 then ⟨2, (⟨#[97, 98, 99, 100, 95, 57]⟩ : ByteArray).extract (k / 2 % 4) (k / 2 % 4 + 1 + k / 8 % 3), 0, 0⟩ else ⟨1, (⟨#[48, 49, 55, 50]⟩ : ByteArray).extract (k / 2 % 4) 4, 0, 0⟩

/-- What a draw of nodes leaves. -/
def GenPost (w : World) (rp cap : Nat) (a : Option Addr) (bs : List UInt8) (B g : Nat) (q : Nat) (vs : List NodeR) (e : Ending) (w' : World) : Prop :=
  ∃ g' c', e = .returned (.slice (some ⟨g', 0, none⟩) vs.length c') ∧ Hid (RowN w' B g' c' vs) ∧ (g' = g ∨ w.heap.size ≤ g') ∧ Hid (RdS w' rp a cap bs q) ∧ Hid (K2 w w' rp g)

set_option maxHeartbeats 4000000 in
theorem l3Leaf_any (rp cap p B g c : Nat) (a : Option Addr) (bs : List UInt8) (us : List NodeR) (w : World) (h : RdS w rp a cap bs p) (hl : bs.length ≤ 1200) (hm : us.length ≤ 100000) (hr : RowN w B g c us) (hB : B ≤ w.heap.size) (hrp : rp < B) :
    Calls Tryz.prog 163 #[.pointer (some ⟨rp, 0, none⟩), .slice (some ⟨g, 0, none⟩) us.length c] w (GenPost w rp cap a bs B g (adv bs p) (us ++ [leafN (nxt bs p)])) := by
  obtain ⟨i0, hi0, hz0, hz1, hz2⟩ := info_parts' infoN
  have HI := hide hi0
  have HZ := hide (And.intro hz0 (And.intro hz1 hz2))
  have HX := hide (next_at rp cap p a bs w h hl)
  have HR := hide hr
  have hg := hr.lt
  obtain ⟨vs, HVS⟩ : ∃ vs, Hid (vs = us ++ [leafN (nxt bs p)]) := ⟨_, hide rfl⟩
  rw [← unhide HVS]
  clear hi0 hz0 hz1 hz2 h hr
  go_enter Tryz.func163, Tryz.ntmps163
  go_wp2_with fail
  (with_reducible refine (unhide HX).mono ?_)
  rintro e w1 ⟨⟨k, rfl, hk, HK⟩, H1, HP1⟩
  have z1 := (unhide HP1).size
  have HR1 := hide ((unhide HR).kept (unhide HP1) (by omega))
  clear HX HR
  by_cases hp : k % 2 = 0
  · have e0 : ((k : Int) % 2 == 0) = true := by simp; omega
    have e1 : (0 : Int) ≤ (k : Int) / 2 % 4 := by omega
    have e2 : (k : Int) / 2 % 4 ≤ (k : Int) / 2 % 4 + 1 + (k : Int) / 8 % 3 := by omega
    have e3 : (k : Int) / 2 % 4 + 1 + (k : Int) / 8 % 3 ≤ 6 := by omega
    have HV := hide (show vs = us ++ [⟨2, (⟨#[97, 98, 99, 100, 95, 57]⟩ : ByteArray).extract (k / 2 % 4) (k / 2 % 4 + 1 + k / 8 % 3), 0, 0⟩] by rw [unhide HVS, ← unhide HK]; unfold leafN; rw [if_pos hp])
    clear hp
    go_wp2_with (at_builtin; refine wpList_append_own_at _ rfl (.tmp 11) (.tmp 25) 26 rfl B 81 i0 _ 4 40 Tryz.underlying26 (unhide HI) (unhide HZ).1 (unhide HZ).2.1 (unhide HZ).2.2 rfl (by decide) _ us.length (cellsN us) rfl ((unhide HR1).below (below1 _ _)) ⟨w1.heap.size, 0, none⟩ 1 1 (cellsN [⟨2, (⟨#[97, 98, 99, 100, 95, 57]⟩ : ByteArray).extract (k / 2 % 4) (k / 2 % 4 + 1 + k / 8 % 3), 0, 0⟩]) rfl rfl (new_newsN w1 ⟨2, (⟨#[97, 98, 99, 100, 95, 57]⟩ : ByteArray).extract (k / 2 % 4) (k / 2 % 4 + 1 + k / 8 % 3), 0, 0⟩) (cellsN_one' _) ?b1 ?b2 ?b3 ?next)
    case b1 => unfold maxLen; omega
    case b2 => omega
    case b3 => simp; omega
    case next =>
      intro v4 w4 hown4 hgrow4 hnil4 hat4
      obtain ⟨g4, c4, rfl, hr4⟩ := RowN.snoc hown4 (by simp [hnil4]) (unhide HV)
      have HR4 := hide hr4
      have hgr : World.grownBy _ w4 (some g) := hgrow4
      have HD4 := hide (((unhide H1).below (below1 w1 (.cells #[.int .i64 (⟨2, (⟨#[97, 98, 99, 100, 95, 57]⟩ : ByteArray).extract (k / 2 % 4) (k / 2 % 4 + 1 + k / 8 % 3), 0, 0⟩ : NodeR).k, .string (⟨2, (⟨#[97, 98, 99, 100, 95, 57]⟩ : ByteArray).extract (k / 2 % 4) (k / 2 % 4 + 1 + k / 8 % 3), 0, 0⟩ : NodeR).t, .int .i64 0, .int .i64 0] 81))).row hgr (by omega))
      have HK4 := hide (((K2.of1 (g := g) (unhide HP1)).trans (K2.ofB (below1 w1 _)) (Or.inl rfl)).row hgr (Or.inl rfl))
      have hgg : g4 = g ∨ w.heap.size ≤ g4 := by simp [Value.ownBlock] at hat4; omega
      clear hown4 hgrow4 hgr hnil4 hr4 hat4
      go_wp2_with fail
      go_ret
      exact ⟨g4, c4, rfl, HR4, hgg, HD4, HK4⟩
  · have e0 : ((k : Int) % 2 == 0) = false := by simp; omega
    have e1 : (0 : Int) ≤ (k : Int) / 2 % 4 := by omega
    have e2 : (k : Int) / 2 % 4 ≤ 4 := by omega
    have HV := hide (show vs = us ++ [⟨1, (⟨#[48, 49, 55, 50]⟩ : ByteArray).extract (k / 2 % 4) 4, 0, 0⟩] by rw [unhide HVS, ← unhide HK]; unfold leafN; rw [if_neg hp])
    clear hp
    go_wp2_with (at_builtin; refine wpList_append_own_at _ rfl (.tmp 27) (.tmp 33) 26 rfl B 81 i0 _ 4 40 Tryz.underlying26 (unhide HI) (unhide HZ).1 (unhide HZ).2.1 (unhide HZ).2.2 rfl (by decide) _ us.length (cellsN us) rfl ((unhide HR1).below (below1 _ _)) ⟨w1.heap.size, 0, none⟩ 1 1 (cellsN [⟨1, (⟨#[48, 49, 55, 50]⟩ : ByteArray).extract (k / 2 % 4) 4, 0, 0⟩]) rfl rfl (new_newsN w1 ⟨1, (⟨#[48, 49, 55, 50]⟩ : ByteArray).extract (k / 2 % 4) 4, 0, 0⟩) (cellsN_one' _) ?b1 ?b2 ?b3 ?next)
    case b1 => unfold maxLen; omega
    case b2 => omega
    case b3 => simp; omega
    case next =>
      intro v4 w4 hown4 hgrow4 hnil4 hat4
      obtain ⟨g4, c4, rfl, hr4⟩ := RowN.snoc hown4 (by simp [hnil4]) (unhide HV)
      have HR4 := hide hr4
      have hgr : World.grownBy _ w4 (some g) := hgrow4
      have HD4 := hide (((unhide H1).below (below1 w1 (.cells #[.int .i64 (⟨1, (⟨#[48, 49, 55, 50]⟩ : ByteArray).extract (k / 2 % 4) 4, 0, 0⟩ : NodeR).k, .string (⟨1, (⟨#[48, 49, 55, 50]⟩ : ByteArray).extract (k / 2 % 4) 4, 0, 0⟩ : NodeR).t, .int .i64 0, .int .i64 0] 81))).row hgr (by omega))
      have HK4 := hide (((K2.of1 (g := g) (unhide HP1)).trans (K2.ofB (below1 w1 _)) (Or.inl rfl)).row hgr (Or.inl rfl))
      have hgg : g4 = g ∨ w.heap.size ≤ g4 := by simp [Value.ownBlock] at hat4; omega
      clear hown4 hgrow4 hgr hnil4 hr4 hat4
      go_wp2_with fail
      go_ret
      exact ⟨g4, c4, rfl, HR4, hgg, HD4, HK4⟩
end Go.Proofs.YtfboipappaonhaaGreat
