import Derived.OwnWalk
import Derived.Laws.OwnMore
import Derived.Deep.AppendLies
import Derived.Deep.RegionHeldLaw
import Derived.Test.YtokabkhnidlcnaaL02
import Derived.Test.YtokabkhnidlcnaaL06

/-
  Rows of operators that a call makes by append.
-/
namespace Go.Proofs.Ytokabkhnidlcnaa
set_option maxRecDepth 100000
open Go.RowKit

/-- The cells of a list of operators. -/
def cellsL (zs : List OpR) : List Value := zs.flatMap fun o => [.string o.s, .int .i64 o.k, .int .i64 o.l, .int .i64 o.sd]

theorem cellsL_nil : cellsL [] = [] := rfl
theorem cellsL_append (xs ys : List OpR) : cellsL (xs ++ ys) = cellsL xs ++ cellsL ys := by simp [cellsL]
theorem cellsL_one (o : OpR) : cellsL [o] = [.string o.s, .int .i64 o.k, .int .i64 o.l, .int .i64 o.sd] := rfl
theorem cellsL_len : ∀ zs : List OpR, (cellsL zs).length = zs.length * 4
  | [] => rfl
  | o :: r => by
    have := cellsL_len r
    simp only [cellsL, List.flatMap_cons, List.length_append, List.length_cons, List.length_nil] at *
    omega

theorem cellsL_at : ∀ (zs : List OpR) (i : Nat), i < zs.length → (cellsL zs)[i * 4]? = some (.string (atO zs i).s) ∧ (cellsL zs)[i * 4 + 1]? = some (.int .i64 (atO zs i).k) ∧ (cellsL zs)[i * 4 + 2]? = some (.int .i64 (atO zs i).l) ∧ (cellsL zs)[i * 4 + 3]? = some (.int .i64 (atO zs i).sd)
  | [], i, h => absurd h (Nat.not_lt_zero i)
  | o :: r, 0, _ => ⟨rfl, rfl, rfl, rfl⟩
  | o :: r, i + 1, h => by
    have ih := cellsL_at r i (by simpa using h)
    have e : ∀ j, (cellsL (o :: r))[(i + 1) * 4 + j]? = (cellsL r)[i * 4 + j]? := fun j => by
      have : (i + 1) * 4 + j = (i * 4 + j) + 4 := by omega
      rw [this]
      rfl
    exact ⟨(e 0).trans ih.1, (e 1).trans ih.2.1, (e 2).trans ih.2.2.1, (e 3).trans ih.2.2.2⟩

theorem cellsL_one' (zs : List OpR) : ∀ u ∈ cellsL zs, u.oneCell' = true := by
  intro u hu
  simp only [cellsL, List.mem_flatMap] at hu
  obtain ⟨o, _, ho⟩ := hu
  simp at ho
  rcases ho with rfl | rfl | rfl | rfl <;> rfl

/-- The cells of a row, by number. -/
theorem ops_news {w : World} {b off : Nat} {xs : List OpR} (h : Ops w b off xs) : ∀ j u, (cellsL xs)[j]? = some u → w.cell? ((⟨b, off, none⟩ : Addr).add j) = some u := by
  intro j u hj
  have hlt : j < xs.length * 4 := by
    rw [← cellsL_len]
    exact (List.getElem?_eq_some_iff.1 hj).1
  rw [Addr.add_mid]
  have hi : j / 4 < xs.length := by omega
  obtain ⟨a0, a1, a2, a3⟩ := h (j / 4) hi
  obtain ⟨c0, c1, c2, c3⟩ := cellsL_at xs (j / 4) hi
  have hr : j % 4 = 0 ∨ j % 4 = 1 ∨ j % 4 = 2 ∨ j % 4 = 3 := by omega
  rcases hr with e | e | e | e
  · have ej : j = j / 4 * 4 := by omega
    rw [ej] at hj ⊢
    rw [c0] at hj
    rw [← hj]
    exact a0
  · have ej : j = j / 4 * 4 + 1 := by omega
    rw [ej] at hj ⊢
    rw [c1] at hj
    rw [← hj]
    exact a1
  · have ej : j = j / 4 * 4 + 2 := by omega
    rw [ej] at hj ⊢
    rw [c2] at hj
    rw [← hj]
    exact a2
  · have ej : j = j / 4 * 4 + 3 := by omega
    rw [ej] at hj ⊢
    rw [c3] at hj
    rw [← hj]
    exact a3

/-- A row that the call owns, as a filled one. -/
theorem owns_filled {w : World} {base g cap : Nat} {e : TypeId} {zs : List OpR} (h : w.ownsRow base e 4 (.slice (some ⟨g, 0, none⟩) zs.length cap) zs.length (cellsL zs)) : base ≤ g ∧ Filled w g zs zs.length := by
  have hlt := h.lt g rfl
  refine ⟨hlt.1, hlt.2, fun j hj => ⟨?_, h.frozenAt _⟩, fun i hi => ?_⟩
  · rw [h.cellAt (0 + j) (by omega)]
    have : 0 + j < (cellsL zs).length := by rw [cellsL_len]; omega
    rw [List.getElem?_eq_getElem this]
    rfl
  · obtain ⟨c0, c1, c2, c3⟩ := cellsL_at zs i hi
    have e := fun j (hj : j < 4) => h.cellAt (i * 4 + j) (by omega)
    exact ⟨by simpa using (e 0 (by omega)).trans c0, by simpa using (e 1 (by omega)).trans c1, by simpa using (e 2 (by omega)).trans c2, by simpa using (e 3 (by omega)).trans c3⟩

/-- What an owned row's value is, where it is not nil. -/
theorem owns_value {w : World} {base n size : Nat} {e : TypeId} {v : Value} {xs : List Value} (h : w.ownsRow base e size v n xs) (hv : v ≠ .slice none 0 0) : ∃ g cap, v = .slice (some ⟨g, 0, none⟩) n cap := by
  obtain ⟨_, h | ⟨g, cap, cur, hv', _⟩⟩ := h
  · exact absurd h.1 hv
  · exact ⟨g, cap, hv'⟩

theorem infoOp' : (Try.prog.info? 48).map (fun i => (i.zero, i.size, i.bytes)) = some (some (.agg #[.string ⟨#[]⟩, .int .i64 0, .int .i64 0, .int .i64 0]), 4, 40) := by kernel_rfl

theorem below_grown {B : Nat} {w w' : World} {row : Option Nat} (hg : w.grownBy w' row) (hB : B ≤ w.heap.size) (hr : ∀ k, row = some k → B ≤ k) : Below B w w' :=
  (Below.refl B w).grown hg hB hr

theorem owns_cap {w : World} {base n size g cap : Nat} {e : TypeId} {xs : List Value} (h : w.ownsRow base e size (.slice (some ⟨g, 0, none⟩) n cap) n xs) : n ≤ cap ∧ cap ≤ maxLen := by
  obtain ⟨_, h | ⟨g', cap', cur, hv', _, _, h1, h2, _⟩⟩ := h
  · simp at h
  · simp only [Value.slice.injEq, Option.some.injEq] at hv'
    obtain ⟨_, _, rfl⟩ := hv'
    exact ⟨h1, h2⟩

theorem new_owned (w : World) (o : OpR) : (w.alloc (.cells #[.string o.s, .int .i64 o.k, .int .i64 o.l, .int .i64 o.sd] 48)).rangeAt w.heap.size 0 [.string o.s, .int .i64 o.k, .int .i64 o.l, .int .i64 o.sd] := by
  have := World.rangeAt_of_block (w := w.alloc (.cells #[.string o.s, .int .i64 o.k, .int .i64 o.l, .int .i64 o.sd] 48)) (b := w.heap.size) (heap_alloc_new w _) 0 4
  simpa using this

theorem new_news (w : World) (o : OpR) : ∀ j u, (cellsL [o])[j]? = some u → (w.alloc (.cells #[.string o.s, .int .i64 o.k, .int .i64 o.l, .int .i64 o.sd] 48)).cell? ((⟨w.heap.size, 0, none⟩ : Addr).add j) = some u := by
  intro j u hj
  rw [Addr.add_mid]
  exact new_owned w o j u hj

end Go.Proofs.Ytokabkhnidlcnaa

/-
  Walks: tables that are drawn.
-/
namespace Go.Proofs.Ytokabkhnidlcnaa
set_option maxRecDepth 100000
set_option linter.unusedSimpArgs false
set_option linter.unusedVariables false
open Go.RowKit

/-- The operators of the first k draws, and the place behind them. -/
def TabTo (bs : List UInt8) (p0 : Nat) : Nat → List OpR → Nat → Prop
  | 0, xs, p => xs = [] ∧ p = p0
  | k + 1, xs, p => ∃ ys q, TabTo bs p0 k ys q ∧ p = adv bs (adv bs q) ∧
      ((IsCode (ys ++ [drOp (nxt bs q) (nxt bs (adv bs q)) true]) 0 ∧ xs = ys ++ [drOp (nxt bs q) (nxt bs (adv bs q)) true]) ∨
        (¬ IsCode (ys ++ [drOp (nxt bs q) (nxt bs (adv bs q)) true]) 0 ∧ xs = ys))

theorem TabTo.one {bs : List UInt8} {p0 : Nat} : ∀ {k : Nat} {xs ys : List OpR} {p q : Nat}, TabTo bs p0 k xs p → TabTo bs p0 k ys q → xs = ys ∧ p = q
  | 0, _, _, _, _, h, h' => ⟨h.1.trans h'.1.symm, h.2.trans h'.2.symm⟩
  | k + 1, xs, ys, p, q, h, h' => by
    obtain ⟨us, u, hu, rfl, h⟩ := h
    obtain ⟨vs, v, hv, rfl, h'⟩ := h'
    obtain ⟨rfl, rfl⟩ := TabTo.one hu hv
    rcases h with ⟨h, rfl⟩ | ⟨h, rfl⟩ <;> rcases h' with ⟨h', rfl⟩ | ⟨h', rfl⟩
    · exact ⟨rfl, rfl⟩
    · exact absurd h h'
    · exact absurd h' h
    · exact ⟨rfl, rfl⟩

theorem Kept1.grownAt {w w1 w2 : World} {g : Nat} {row : Option Nat} (h : Kept1 w w1 g) (hg : w1.grownBy w2 row) (hr : ∀ k, row = some k → w.heap.size ≤ k) : Kept1 w w2 g :=
  ⟨hg.os.trans h.os, hg.tape.trans h.tape, hg.output.trans h.output, Nat.le_trans h.size hg.size, fun i hi a => (hg.block i (Nat.lt_of_lt_of_le hi h.size) (fun e => by have := hr i e.symm; omega)).trans (h.block i hi a)⟩
theorem RdS.grownAt {w w1 : World} {rp cap p : Nat} {a : Option Addr} {bs : List UInt8} {row : Option Nat} (h : RdS w rp a cap bs p) (hg : w.grownBy w1 row) (hr : ∀ k, row = some k → rp < k) : RdS w1 rp a cap bs p :=
  h.kept (fun i hi => hg.block i (by have := h.lt; omega) (fun e => by have := hr i e.symm; omega))

theorem drOp_size (k v : Nat) (t : Bool) : (drOp k v t).s.size ≤ 3 := txN_size v

theorem TabTo.small {bs : List UInt8} {p0 : Nat} : ∀ {k : Nat} {xs : List OpR} {p : Nat}, TabTo bs p0 k xs p → xs.length ≤ k ∧ ∀ o ∈ xs, o.s.size ≤ 3
  | 0, _, _, h => by rw [h.1]; exact ⟨Nat.le_refl _, fun o h => by cases h⟩
  | k + 1, xs, p, h => by
    obtain ⟨us, u, hu, rfl, h⟩ := h
    have ih := TabTo.small hu
    rcases h with ⟨h, rfl⟩ | ⟨h, rfl⟩
    · refine ⟨by simp; omega, fun o ho => ?_⟩
      rcases List.mem_append.1 ho with ho | ho
      · exact ih.2 o ho
      · rw [List.mem_singleton.1 ho]; exact drOp_size _ _ _
    · exact ⟨by omega, ih.2⟩

set_option maxHeartbeats 4000000 in
theorem l1DrawTable_any (rp cap p : Nat) (a : Option Addr) (bs : List UInt8) (w : World) (h : RdS w rp a cap bs p) (hl : bs.length ≤ 1200) :
    Calls Try.prog 23 #[.pointer (some ⟨rp, 0, none⟩)] w fun e w' => (∃ (g c q : Nat) (xs : List OpR), e = .returned (.agg #[.slice (some ⟨g, 0, none⟩) xs.length c]) ∧ w.heap.size ≤ g ∧ Filled w' g xs xs.length ∧ Hid (TabTo bs (adv bs p) (3 + nxt bs p % 8) xs q) ∧ Hid (RdS w' rp a cap bs q)) ∧ Hid (Kept1 w w' rp) := by
  have hrpw := h.lt
  have H := hide h
  clear h
  go_enter Try.func23, Try.ntmps23
  go_wp2_with fail
  refine (next_at rp cap p a bs _ ((unhide H).below (below1 _ _)) hl).mono ?_
  rintro e w1 ⟨⟨k, rfl, hk, HK⟩, H1, HP1⟩
  go_wp2_with fail
  have HR1 := hide (show RdS ((w1.alloc (Obj.cells #[] 48)).alloc (Obj.cells #[.slice (some ⟨w1.heap.size, 0, none⟩) 0 0] 25)) rp a cap bs (adv bs p) from ((unhide H1).below (below1 _ _)).below (below1 _ _))
  have HW1 := hide (show Kept1 w ((w1.alloc (Obj.cells #[] 48)).alloc (Obj.cells #[.slice (some ⟨w1.heap.size, 0, none⟩) 0 0] 25)) rp from (((Kept1.of_below (below1 _ _)).trans (unhide HP1)).belowN (below1 _ _)).belowN (below1 _ _))
  have z1 : w.heap.size + 1 ≤ w1.heap.size := by have := (unhide HP1).size; simpa using this
  have q0 : w1.cell? ⟨w.heap.size, 0, none⟩ = some (.slice none 0 0) := ((unhide HP1).cell (b := w.heap.size) (by simp) (by omega) 0).trans (by simp [go_sem])
  have q1 : w1.frozen? ⟨w.heap.size, 0, none⟩ = false := ((unhide HP1).frozen (b := w.heap.size) (by simp) (by omega) 0).trans (by simp [go_sem])
  clear H1 HP1 H
  obtain ⟨i0, hi, hz0, hz1, hz2⟩ := info_parts infoOp'
  have HI := hide hi
  have HZ := hide (And.intro hz0 (And.intro hz1 hz2))
  clear hi hz0 hz1 hz2
  have hn : (3 : Int) + (k : Int) % 8 ≤ 10 := by omega
  go_loopw [5] (fun i wr => ∃ (j g c q : Nat) (xs : List OpR), j ≤ 3 + k % 8 ∧ i = .int .i64 (j : Int) ∧ w.heap.size < g ∧ g ≠ w1.heap.size + 1 ∧ g < wr.heap.size ∧ w1.heap.size + 1 < wr.heap.size ∧ wr.cell? ⟨w1.heap.size + 1, 0, none⟩ = some (.slice (some ⟨g, 0, none⟩) xs.length c) ∧ wr.frozen? ⟨w1.heap.size + 1, 0, none⟩ = false ∧ Hid (TabTo bs (adv bs p) j xs q) ∧ Hid (Filled wr g xs xs.length) ∧ Hid (RdS wr rp a cap bs q) ∧ Hid (Kept1 w wr rp) ∧ Hid (wr.cell? ⟨w.heap.size, 0, none⟩ = some (.slice none 0 0) ∧ wr.frozen? ⟨w.heap.size, 0, none⟩ = false)) (fun i _ => 3 + k % 8 - (intOf i).toNat)
  case atStart =>
    refine ⟨0, w1.heap.size, 0, adv bs p, [], Nat.zero_le _, rfl, by omega, by omega, by simp; omega, by simp, by simp [go_sem], by simp [go_sem], hide ⟨rfl, rfl⟩, hide ?_, HR1, HW1, hide ⟨?_, ?_⟩⟩
    · refine ⟨by simp; omega, fun j hj => ?_, fun i hi => ?_⟩
      · simp at hj
      · exact absurd hi (Nat.not_lt_zero _)
    · exact ((below1 _ _).cell (p := ⟨w.heap.size, 0, none⟩) (by simp; omega)).trans (((below1 _ _).cell (p := ⟨w.heap.size, 0, none⟩) z1).trans q0)
    · exact ((below1 _ _).frozen (p := ⟨w.heap.size, 0, none⟩) (by simp; omega)).trans (((below1 _ _).frozen (p := ⟨w.heap.size, 0, none⟩) z1).trans q1)
  case round =>
    clear HR1 HW1 q0 q1
    obtain ⟨j, g, c, q, xs, hj, rfl, hg, hgT, hgl, hTl, t0, t1, HT, HF, HR, HW, HRT⟩ := hrel
    have hsm := hide ((unhide HT).small)
    have hxl : xs.length ≤ 10 := by have := (unhide hsm).1; omega
    by_cases hlt : j < 3 + k % 8
    · have HO := hide (show (wr.alloc (.cells #[] 48)).ownsRow wr.heap.size 48 4 (.slice (some ⟨wr.heap.size, 0, none⟩) 0 0) 0 [] by
        simpa using World.ownsRow_lit (base := wr.heap.size) (e := 48) (size := 4) wr #[] 0 (Nat.le_refl _) (Nat.zero_le _) rfl)
      have HOPS := hide (show Ops (wr.alloc (.cells #[] 48)) g 0 xs from (unhide HF).ops.below (below1 _ _) hgl)
      go_wp2_with (at_builtin; refine wpList_append_own _ rfl (.tmp 18) (.tmp 20) 23 rfl wr.heap.size 48 i0 _ 4 40 Try.underlying23 (unhide HI) (unhide HZ).1 (unhide HZ).2.1 (unhide HZ).2.2 rfl (by decide) _ 0 [] rfl (unhide HO) ⟨g, 0, none⟩ xs.length c (cellsL xs) rfl (cellsL_len xs) (ops_news (unhide HOPS)) (cellsL_one' xs) ?b1 ?b2 ?b3 ?next)
      case b1 => unfold maxLen; omega
      case b2 => omega
      case b3 => simp
      case next =>
        intro v2 w2 hown2 hgrow2 hnil2
        obtain ⟨g2, c2, rfl⟩ := owns_value hown2 (by simpa using hnil2)
        have hrpr := (unhide HR).lt
        have hg2 := (hown2.lt g2 rfl).1
        have hb2 : Below wr.heap.size wr w2 := (below1 _ _).grown hgrow2 (by simp) (fun k hk => by simp [Value.ownBlock] at hk; omega)
        have HR2 := hide ((unhide HR).below hb2)
        have HW2 := hide (Kept1.of_below (g := rp) hb2)
        have HO2 := hide hown2
        clear HO HOPS hown2 hgrow2 hnil2 hb2 HR
        go_wp2_with fail
        refine (l1DrawOp_any rp cap q true a bs _ (unhide HR2) hl).mono ?_
        rintro e w3 ⟨⟨o, rfl, HOo⟩, HR3, HP3⟩
        have HW3 := hide ((unhide HW2).trans (unhide HP3))
        have z3 : wr.heap.size ≤ w3.heap.size := (unhide HW3).size
        have HO3 := hide ((unhide HO2).kept (grown_kept1 (unhide HP3)) (Or.inr (by simp [Value.ownBlock]; omega)))
        clear HR2 HW2 HO2 HP3
        go_wp2_with (at_builtin; refine wpList_append_own _ rfl (.tmp 22) (.tmp 25) 23 rfl wr.heap.size 48 i0 _ 4 40 Try.underlying23 (unhide HI) (unhide HZ).1 (unhide HZ).2.1 (unhide HZ).2.2 rfl (by decide) _ xs.length (cellsL xs) rfl ((unhide HO3).alloc _) ⟨w3.heap.size, 0, none⟩ 1 1 (cellsL [o]) rfl rfl (new_news w3 o) (cellsL_one' _) ?b1 ?b2 ?b3 ?next)
        case b1 => unfold maxLen; omega
        case b2 => omega
        case b3 => simp; omega
        case next =>
          intro v4 w4 hown4 hgrow4 hnil4
          obtain ⟨g4, c4, rfl⟩ := owns_value hown4 (by simp [hnil4])
          obtain ⟨ys, HY⟩ : ∃ ys : List OpR, Hid (ys = xs ++ [o]) := ⟨_, hide rfl⟩
          have hl4 : xs.length + 1 = ys.length := by rw [unhide HY]; simp
          rw [← cellsL_append, hl4, ← unhide HY] at hown4
          rw [hl4]
          have hg4 := (hown4.lt g4 rfl)
          have HF4 := hide (owns_filled hown4).2
          have HW4 := hide (((unhide HW3).belowN (below1 _ _)).grownAt hgrow4 (fun k hk => by simp [Value.ownBlock] at hk; omega))
          have HR4 := hide (((unhide HR3).below (below1 _ _)).grownAt hgrow4 (fun k hk => by simp [Value.ownBlock] at hk; omega))
          have HS4 := hide (show Sized ys from fun i hi => by
            rw [unhide HY] at hi ⊢
            have hm : atO (xs ++ [o]) i ∈ xs ++ [o] := by
              unfold atO
              rw [List.getD_eq_getElem?_getD, List.getElem?_eq_getElem hi, Option.getD_some]
              exact List.getElem_mem hi
            have h3 : (atO (xs ++ [o]) i).s.size ≤ 3 := by
              rcases List.mem_append.1 hm with hm | hm
              · exact (unhide hsm).2 _ hm
              · rw [List.mem_singleton.1 hm, unhide HOo]; exact drOp_size _ _ _
            unfold maxLen; omega)
          have hx1 : ys.length ≤ 11 := by omega
          clear hown4 hgrow4 hnil4 HW3 HR3 HO3 hl4
          go_wp2_with fail
          refine (specTableOk_any g4 0 c4 ys _ (by omega) (unhide HF4).ops (unhide HS4) hg4.2).mono ?_
          rintro e w5 ⟨⟨cc, rfl, hc⟩, hb5⟩
          have HC := hide hc
          have z5 := hb5.size
          have z4 := (unhide HW4).size
          have s0 : w5.cell? ⟨w1.heap.size + 1, 0, none⟩ = some (.slice (some ⟨g, 0, none⟩) xs.length c) := (hb5.cell (p := ⟨w1.heap.size + 1, 0, none⟩) (by simp; omega)).trans (((unhide HW4).cell (b := w1.heap.size + 1) (by omega) (by omega) 0).trans t0)
          have s1 : w5.frozen? ⟨w1.heap.size + 1, 0, none⟩ = false := (hb5.frozen (p := ⟨w1.heap.size + 1, 0, none⟩) (by simp; omega)).trans (((unhide HW4).frozen (b := w1.heap.size + 1) (by omega) (by omega) 0).trans t1)
          have HRT5 := hide (show w5.cell? ⟨w.heap.size, 0, none⟩ = some (.slice none 0 0) ∧ w5.frozen? ⟨w.heap.size, 0, none⟩ = false from
            ⟨(hb5.cell (p := ⟨w.heap.size, 0, none⟩) (by simp; omega)).trans (((unhide HW4).cell (b := w.heap.size) (by omega) (by omega) 0).trans (unhide HRT).1), (hb5.frozen (p := ⟨w.heap.size, 0, none⟩) (by simp; omega)).trans (((unhide HW4).frozen (b := w.heap.size) (by omega) (by omega) 0).trans (unhide HRT).2)⟩)
          have HR5 := hide ((unhide HR4).below hb5)
          have HW5 := hide (((unhide HW).trans (unhide HW4)).belowN hb5)
          have HG5 := hide ((unhide HW4).filled (unhide HF) (by omega) |>.below hb5 (by omega))
          have HF5 := hide ((unhide HF4).below hb5 hg4.2)
          clear HR4 HW4 HF4 hb5 hc t0 t1 HRT HW HF
          by_cases hc0 : cc = 0
          · subst hc0
            go_wp2_with fail
            refine ⟨⟨j + 1, g4, c4, adv bs (adv bs q), ys, by omega, by go_num, by omega, by omega, ?_, ?_, ?_, ?_, hide ?_, hide ?_, hide ?_, hide ?_, hide ?_⟩, by simp [intOf]; omega⟩
            · simp; omega
            · simp; omega
            · exact World.cell?_setCell_same _ _ _ s0
            · exact (World.frozen?_setCell _ _ _ _).trans s1
            · exact ⟨xs, q, unhide HT, rfl, Or.inl ⟨by rw [← unhide HOo, ← unhide HY]; exact unhide HC, by rw [← unhide HOo]; exact unhide HY⟩⟩
            · exact (unhide HF5).setCell _ _ (by simp; omega)
            · exact (unhide HR5).set _ _ _ (by omega)
            · exact (unhide HW5).setNew _ _ (by omega)
            · exact ⟨(World.cell?_setCell_other _ _ _ _ (by first | (simp; done) | (simp; omega))).trans (unhide HRT5).1, (World.frozen?_setCell _ _ _ _).trans (unhide HRT5).2⟩
          · have hc0' : (cc == 0) = false := by simpa using hc0
            go_wp2_with fail
            refine ⟨⟨j + 1, g, c, adv bs (adv bs q), xs, by omega, by go_num, hg, hgT, by omega, by omega, s0, s1, hide ?_, HG5, HR5, HW5, HRT5⟩, by simp [intOf]; omega⟩
            refine ⟨xs, q, unhide HT, rfl, Or.inr ⟨?_, rfl⟩⟩
            rw [← unhide HOo, ← unhide HY]
            exact fun h => hc0 (IsCode_one (unhide HC) h)
    · have hjn : j = 3 + k % 8 := by omega
      obtain ⟨b0, b1⟩ := unhide HRT
      go_wp2_with fail
      refine bodyPost_ret (v := .agg #[.slice (some ⟨g, 0, none⟩) xs.length c]) ?res rfl ⟨⟨g, c, q, xs, rfl, by omega, ?_, hide ?_, hide ?_⟩, hide ?_⟩
      case res => simp [results, Try.results23, go_sem, b0]
      · exact (unhide HF).setCell _ _ (by simp; omega)
      · rw [← unhide HK, ← hjn]; exact unhide HT
      · exact (unhide HR).set _ _ _ (by omega)
      · exact (unhide HW).setNew _ _ (Nat.le_refl _)
end Go.Proofs.Ytokabkhnidlcnaa
