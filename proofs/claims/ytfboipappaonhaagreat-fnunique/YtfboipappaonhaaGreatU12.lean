import Derived.Deep.AppendLies
import Derived.Deep.RegionHeldLaw
import Derived.Laws.IdiomStrings
import Derived.Laws.BytesString
import Derived.OwnWalk
import Derived.Laws.OwnMore
import Derived.Test.YtfboipappaonhaaGreatU00
import Derived.Test.YtfboipappaonhaaGreatU11

/-
  Walks: tables that are drawn.
-/
namespace Go.Proofs.YtfboipappaonhaaGreat
set_option maxRecDepth 100000
set_option linter.unusedSimpArgs false
set_option linter.unusedVariables false
open Go.RowKit

/-- The operators of the first k draws, and the place behind them. -/
def TabTo (bs : List UInt8) (p0 : Nat) : Nat → List OpR → Nat → Prop
  | 0, xs, p => xs = [] ∧ p = p0
  | k + 1, xs, p => ∃ ys q, TabTo bs p0 k ys q ∧ p = adv bs (adv bs q) ∧
      ((IsCode (ys ++ [drOp (nxt bs q) (nxt bs (adv bs q)) true]) 0 ∧ xs = ys ++ [drOp (nxt bs q) (nxt bs (adv bs q)) true]) ∨
        (¬ IsCode (ys ++ [drOp (nxt bs q) (nxt bs (adv bs q)) true]) 0 ∧ xs = ys))

theorem TabTo.one {bs : List UInt8} {p0 : Nat} : ∀ {k : Nat} {xs ys : List OpR} {p q : Nat}, TabTo bs p0 k xs p → TabTo bs p0 k ys q → xs = ys ∧ p = q
  | 0, _, _, _, _, h, h' => ⟨h.1.trans h'.1.symm, h.2.trans h'.2.symm⟩
  | k + 1, xs, ys, p, q, h, h' => by
    obtain ⟨us, u, hu, rfl, h⟩ := h
    obtain ⟨vs, v, hv, rfl, h'⟩ := h'
    obtain ⟨rfl, rfl⟩ := TabTo.one hu hv
    rcases h with ⟨h, rfl⟩ | ⟨h, rfl⟩ <;> rcases h' with ⟨h', rfl⟩ | ⟨h', rfl⟩
    · exact ⟨rfl, rfl⟩
    · exact absurd h h'
    · exact absurd h' h
    · exact ⟨rfl, rfl⟩

theorem Kept1.grownAt {w w1 w2 : World} {g : Nat} {row : Option Nat} (h : Kept1 w w1 g) (hg : w1.grownBy w2 row) (hr : ∀ k, row = some k → w.heap.size ≤ k) : Kept1 w w2 g :=
  ⟨hg.os.trans h.os, hg.tape.trans h.tape, hg.output.trans h.output, Nat.le_trans h.size hg.size, fun i hi a => (hg.block i (Nat.lt_of_lt_of_le hi h.size) (fun e => by have := hr i e.symm; omega)).trans (h.block i hi a)⟩
theorem RdS.grownAt {w w1 : World} {rp cap p : Nat} {a : Option Addr} {bs : List UInt8} {row : Option Nat} (h : RdS w rp a cap bs p) (hg : w.grownBy w1 row) (hr : ∀ k, row = some k → rp < k) : RdS w1 rp a cap bs p :=
  h.kept (fun i hi => hg.block i (by have := h.lt; omega) (fun e => by have := hr i e.symm; omega))

theorem drOp_size (k v : Nat) (t : Bool) : (drOp k v t).s.size ≤ 3 := txN_size v

theorem TabTo.small {bs : List UInt8} {p0 : Nat} : ∀ {k : Nat} {xs : List OpR} {p : Nat}, TabTo bs p0 k xs p → xs.length ≤ k ∧ ∀ o ∈ xs, o.s.size ≤ 3
  | 0, _, _, h => by rw [h.1]; exact ⟨Nat.le_refl _, fun o h => by cases h⟩
  | k + 1, xs, p, h => by
    obtain ⟨us, u, hu, rfl, h⟩ := h
    have ih := TabTo.small hu
    rcases h with ⟨h, rfl⟩ | ⟨h, rfl⟩
    · refine ⟨by simp; omega, fun o ho => ?_⟩
      rcases List.mem_append.1 ho with ho | ho
      · exact ih.2 o ho
      · rw [List.mem_singleton.1 ho]; exact drOp_size _ _ _
    · exact ⟨by omega, ih.2⟩

set_option maxHeartbeats 4000000 in
theorem l1DrawTable_any (rp cap p : Nat) (a : Option Addr) (bs : List UInt8) (w : World) (h : RdS w rp a cap bs p) (hl : bs.length ≤ 1200) :
    Calls Tryz.prog 60 #[.pointer (some ⟨rp, 0, none⟩)] w fun e w' => (∃ (g c q : Nat) (xs : List OpR), e = .returned (.agg #[.slice (some ⟨g, 0, none⟩) xs.length c]) ∧ w.heap.size ≤ g ∧ Filled w' g xs xs.length ∧ Hid (TabTo bs (adv bs p) (3 + nxt bs p % 8) xs q) ∧ Hid (RdS w' rp a cap bs q)) ∧ Hid (Kept1 w w' rp) := by
  have hrpw := h.lt
  have H := hide h
  clear h
  go_enter Tryz.func60, Tryz.ntmps60
  go_wp2_with fail
  refine (next_at rp cap p a bs _ ((unhide H).below (below1 _ _)) hl).mono ?_
  rintro e w1 ⟨⟨k, rfl, hk, HK⟩, H1, HP1⟩
  go_wp2_with fail
  have HR1 := hide (show RdS ((w1.alloc (Obj.cells #[] 123)).alloc (Obj.cells #[.slice (some ⟨w1.heap.size, 0, none⟩) 0 0] 25)) rp a cap bs (adv bs p) from ((unhide H1).below (below1 _ _)).below (below1 _ _))
  have HW1 := hide (show Kept1 w ((w1.alloc (Obj.cells #[] 123)).alloc (Obj.cells #[.slice (some ⟨w1.heap.size, 0, none⟩) 0 0] 25)) rp from (((Kept1.of_below (below1 _ _)).trans (unhide HP1)).belowN (below1 _ _)).belowN (below1 _ _))
  have z1 : w.heap.size + 1 ≤ w1.heap.size := by have := (unhide HP1).size; simpa using this
  have q0 : w1.cell? ⟨w.heap.size, 0, none⟩ = some (.slice none 0 0) := ((unhide HP1).cell (b := w.heap.size) (by simp) (by omega) 0).trans (by simp [go_sem])
  have q1 : w1.frozen? ⟨w.heap.size, 0, none⟩ = false := ((unhide HP1).frozen (b := w.heap.size) (by simp) (by omega) 0).trans (by simp [go_sem])
  clear H1 HP1 H
  obtain ⟨i0, hi, hz0, hz1, hz2⟩ := info_parts infoOp'
  have HI := hide hi
  have HZ := hide (And.intro hz0 (And.intro hz1 hz2))
  clear hi hz0 hz1 hz2
  have hn : (3 : Int) + (k : Int) % 8 ≤ 10 := by omega
  go_loopw [5] (fun i wr => ∃ (j g c q : Nat) (xs : List OpR), j ≤ 3 + k % 8 ∧ i = .int .i64 (j : Int) ∧ w.heap.size < g ∧ g ≠ w1.heap.size + 1 ∧ g < wr.heap.size ∧ w1.heap.size + 1 < wr.heap.size ∧ wr.cell? ⟨w1.heap.size + 1, 0, none⟩ = some (.slice (some ⟨g, 0, none⟩) xs.length c) ∧ wr.frozen? ⟨w1.heap.size + 1, 0, none⟩ = false ∧ Hid (TabTo bs (adv bs p) j xs q) ∧ Hid (Filled wr g xs xs.length) ∧ Hid (RdS wr rp a cap bs q) ∧ Hid (Kept1 w wr rp) ∧ Hid (wr.cell? ⟨w.heap.size, 0, none⟩ = some (.slice none 0 0) ∧ wr.frozen? ⟨w.heap.size, 0, none⟩ = false)) (fun i _ => 3 + k % 8 - (intOf i).toNat)
  case atStart =>
    refine ⟨0, w1.heap.size, 0, adv bs p, [], Nat.zero_le _, rfl, by omega, by omega, by simp; omega, by simp, by simp [go_sem], by simp [go_sem], hide ⟨rfl, rfl⟩, hide ?_, HR1, HW1, hide ⟨?_, ?_⟩⟩
    · refine ⟨by simp; omega, fun j hj => ?_, fun i hi => ?_⟩
      · simp at hj
      · exact absurd hi (Nat.not_lt_zero _)
    · exact ((below1 _ _).cell (p := ⟨w.heap.size, 0, none⟩) (by simp; omega)).trans (((below1 _ _).cell (p := ⟨w.heap.size, 0, none⟩) z1).trans q0)
    · exact ((below1 _ _).frozen (p := ⟨w.heap.size, 0, none⟩) (by simp; omega)).trans (((below1 _ _).frozen (p := ⟨w.heap.size, 0, none⟩) z1).trans q1)
  case round =>
    clear HR1 HW1 q0 q1
    obtain ⟨j, g, c, q, xs, hj, rfl, hg, hgT, hgl, hTl, t0, t1, HT, HF, HR, HW, HRT⟩ := hrel
    have hsm := hide ((unhide HT).small)
    have hxl : xs.length ≤ 10 := by have := (unhide hsm).1; omega
    by_cases hlt : j < 3 + k % 8
    · have HO := hide (show (wr.alloc (.cells #[] 123)).ownsRow wr.heap.size 123 4 (.slice (some ⟨wr.heap.size, 0, none⟩) 0 0) 0 [] by
        simpa using World.ownsRow_lit (base := wr.heap.size) (e := 123) (size := 4) wr #[] 0 (Nat.le_refl _) (Nat.zero_le _) rfl)
      have HOPS := hide (show Ops (wr.alloc (.cells #[] 123)) g 0 xs from (unhide HF).ops.below (below1 _ _) hgl)
      go_wp2_with (at_builtin; refine wpList_append_own _ rfl (.tmp 18) (.tmp 20) 23 rfl wr.heap.size 123 i0 _ 4 40 Tryz.underlying23 (unhide HI) (unhide HZ).1 (unhide HZ).2.1 (unhide HZ).2.2 rfl (by decide) _ 0 [] rfl (unhide HO) ⟨g, 0, none⟩ xs.length c (cellsL xs) rfl (cellsL_len xs) (ops_news (unhide HOPS)) (cellsL_one' xs) ?b1 ?b2 ?b3 ?next)
      case b1 => unfold maxLen; omega
      case b2 => omega
      case b3 => simp
      case next =>
        intro v2 w2 hown2 hgrow2 hnil2
        obtain ⟨g2, c2, rfl⟩ := owns_value hown2 (by simpa using hnil2)
        have hrpr := (unhide HR).lt
        have hg2 := (hown2.lt g2 rfl).1
        have hb2 : Below wr.heap.size wr w2 := (below1 _ _).grown hgrow2 (by simp) (fun k hk => by simp [Value.ownBlock] at hk; omega)
        have HR2 := hide ((unhide HR).below hb2)
        have HW2 := hide (Kept1.of_below (g := rp) hb2)
        have HO2 := hide hown2
        clear HO HOPS hown2 hgrow2 hnil2 hb2 HR
        go_wp2_with fail
        refine (l1DrawOp_any rp cap q true a bs _ (unhide HR2) hl).mono ?_
        rintro e w3 ⟨⟨o, rfl, HOo⟩, HR3, HP3⟩
        have HW3 := hide ((unhide HW2).trans (unhide HP3))
        have z3 : wr.heap.size ≤ w3.heap.size := (unhide HW3).size
        have HO3 := hide ((unhide HO2).kept (grown_kept1 (unhide HP3)) (Or.inr (by simp [Value.ownBlock]; omega)))
        clear HR2 HW2 HO2 HP3
        go_wp2_with (at_builtin; refine wpList_append_own _ rfl (.tmp 22) (.tmp 25) 23 rfl wr.heap.size 123 i0 _ 4 40 Tryz.underlying23 (unhide HI) (unhide HZ).1 (unhide HZ).2.1 (unhide HZ).2.2 rfl (by decide) _ xs.length (cellsL xs) rfl ((unhide HO3).alloc _) ⟨w3.heap.size, 0, none⟩ 1 1 (cellsL [o]) rfl rfl (new_news w3 o) (cellsL_one' _) ?b1 ?b2 ?b3 ?next)
        case b1 => unfold maxLen; omega
        case b2 => omega
        case b3 => simp; omega
        case next =>
          intro v4 w4 hown4 hgrow4 hnil4
          obtain ⟨g4, c4, rfl⟩ := owns_value hown4 (by simp [hnil4])
          obtain ⟨ys, HY⟩ : ∃ ys : List OpR, Hid (ys = xs ++ [o]) := ⟨_, hide rfl⟩
          have hl4 : xs.length + 1 = ys.length := by rw [unhide HY]; simp
          rw [← cellsL_append, hl4, ← unhide HY] at hown4
          rw [hl4]
          have hg4 := (hown4.lt g4 rfl)
          have HF4 := hide (owns_filled hown4).2
          have HW4 := hide (((unhide HW3).belowN (below1 _ _)).grownAt hgrow4 (fun k hk => by simp [Value.ownBlock] at hk; omega))
          have HR4 := hide (((unhide HR3).below (below1 _ _)).grownAt hgrow4 (fun k hk => by simp [Value.ownBlock] at hk; omega))
          have HS4 := hide (show Sized ys from fun i hi => by
            rw [unhide HY] at hi ⊢
            have hm : atO (xs ++ [o]) i ∈ xs ++ [o] := by
              unfold atO
              rw [List.getD_eq_getElem?_getD, List.getElem?_eq_getElem hi, Option.getD_some]
              exact List.getElem_mem hi
            have h3 : (atO (xs ++ [o]) i).s.size ≤ 3 := by
              rcases List.mem_append.1 hm with hm | hm
              · exact (unhide hsm).2 _ hm
              · rw [List.mem_singleton.1 hm, unhide HOo]; exact drOp_size _ _ _
            unfold maxLen; omega)
          have hx1 : ys.length ≤ 11 := by omega
          clear hown4 hgrow4 hnil4 HW3 HR3 HO3 hl4
          go_wp2_with fail
          refine (specTableOk_any g4 0 c4 ys _ (by omega) (unhide HF4).ops (unhide HS4) hg4.2).mono ?_
          rintro e w5 ⟨⟨cc, rfl, hc⟩, hb5⟩
          have HC := hide hc
          have z5 := hb5.size
          have z4 := (unhide HW4).size
          have s0 : w5.cell? ⟨w1.heap.size + 1, 0, none⟩ = some (.slice (some ⟨g, 0, none⟩) xs.length c) := (hb5.cell (p := ⟨w1.heap.size + 1, 0, none⟩) (by simp; omega)).trans (((unhide HW4).cell (b := w1.heap.size + 1) (by omega) (by omega) 0).trans t0)
          have s1 : w5.frozen? ⟨w1.heap.size + 1, 0, none⟩ = false := (hb5.frozen (p := ⟨w1.heap.size + 1, 0, none⟩) (by simp; omega)).trans (((unhide HW4).frozen (b := w1.heap.size + 1) (by omega) (by omega) 0).trans t1)
          have HRT5 := hide (show w5.cell? ⟨w.heap.size, 0, none⟩ = some (.slice none 0 0) ∧ w5.frozen? ⟨w.heap.size, 0, none⟩ = false from
            ⟨(hb5.cell (p := ⟨w.heap.size, 0, none⟩) (by simp; omega)).trans (((unhide HW4).cell (b := w.heap.size) (by omega) (by omega) 0).trans (unhide HRT).1), (hb5.frozen (p := ⟨w.heap.size, 0, none⟩) (by simp; omega)).trans (((unhide HW4).frozen (b := w.heap.size) (by omega) (by omega) 0).trans (unhide HRT).2)⟩)
          have HR5 := hide ((unhide HR4).below hb5)
          have HW5 := hide (((unhide HW).trans (unhide HW4)).belowN hb5)
          have HG5 := hide ((unhide HW4).filled (unhide HF) (by omega) |>.below hb5 (by omega))
          have HF5 := hide ((unhide HF4).below hb5 hg4.2)
          clear HR4 HW4 HF4 hb5 hc t0 t1 HRT HW HF
          by_cases hc0 : cc = 0
          · subst hc0
            go_wp2_with fail
            refine ⟨⟨j + 1, g4, c4, adv bs (adv bs q), ys, by omega, by go_num, by omega, by omega, ?_, ?_, ?_, ?_, hide ?_, hide ?_, hide ?_, hide ?_, hide ?_⟩, by simp [intOf]; omega⟩
            · simp; omega
            · simp; omega
            · exact World.cell?_setCell_same _ _ _ s0
            · exact (World.frozen?_setCell _ _ _ _).trans s1
            · exact ⟨xs, q, unhide HT, rfl, Or.inl ⟨by rw [← unhide HOo, ← unhide HY]; exact unhide HC, by rw [← unhide HOo]; exact unhide HY⟩⟩
            · exact (unhide HF5).setCell _ _ (by simp; omega)
            · exact (unhide HR5).set _ _ _ (by omega)
            · exact (unhide HW5).setNew _ _ (by omega)
            · exact ⟨(World.cell?_setCell_other _ _ _ _ (by first | (simp; done) | (simp; omega))).trans (unhide HRT5).1, (World.frozen?_setCell _ _ _ _).trans (unhide HRT5).2⟩
          · have hc0' : (cc == 0) = false := by simpa using hc0
            go_wp2_with fail
            refine ⟨⟨j + 1, g, c, adv bs (adv bs q), xs, by omega, by go_num, hg, hgT, by omega, by omega, s0, s1, hide ?_, HG5, HR5, HW5, HRT5⟩, by simp [intOf]; omega⟩
            refine ⟨xs, q, unhide HT, rfl, Or.inr ⟨?_, rfl⟩⟩
            rw [← unhide HOo, ← unhide HY]
            exact fun h => hc0 (IsCode_one (unhide HC) h)
    · have hjn : j = 3 + k % 8 := by omega
      obtain ⟨b0, b1⟩ := unhide HRT
      go_wp2_with fail
      refine bodyPost_ret (v := .agg #[.slice (some ⟨g, 0, none⟩) xs.length c]) ?res rfl ⟨⟨g, c, q, xs, rfl, by omega, ?_, hide ?_, hide ?_⟩, hide ?_⟩
      case res => simp [results, Tryz.results60, go_sem, b0]
      · exact (unhide HF).setCell _ _ (by simp; omega)
      · rw [← unhide HK, ← hjn]; exact unhide HT
      · exact (unhide HR).set _ _ _ (by omega)
      · exact (unhide HW).setNew _ _ (Nat.le_refl _)
end Go.Proofs.YtfboipappaonhaaGreat

/-
  Texts and lists of bytes: the conversions, rows of bytes.
-/
namespace Go.Proofs.YtfboipappaonhaaGreat
set_option maxRecDepth 100000
open Go.RowKit

/-- The cells of a list of bytes. -/
def cellsB (l : List UInt8) : List Value := l.map fun b => .int .u8 (b.toNat : Int)

theorem cellsB_len (l : List UInt8) : (cellsB l).length = l.length := by simp [cellsB]
theorem cellsB_append (l l' : List UInt8) : cellsB (l ++ l') = cellsB l ++ cellsB l' := by simp [cellsB]
theorem cellsB_one (l : List UInt8) : ∀ u ∈ cellsB l, u.oneCell' = true := by
  intro u hu
  simp only [cellsB, List.mem_map] at hu
  obtain ⟨b, _, rfl⟩ := hu
  rfl

/-- '[]byte(s)' in whatever world. -/
theorem conv_bytes (W : World) (s : ByteArray) : ∃ (c : Nat) (W' : World), (convert 9 22 (.string s)).run Tryz.prog W = .ok (.slice (some ⟨W.heap.size, 0, none⟩) s.size c) W' ∧
    (∀ j u, (cellsB s.data.toList)[j]? = some u → W'.cell? ((⟨W.heap.size, 0, none⟩ : Addr).add j) = some u) ∧ Below W.heap.size W W' := by
  refine ⟨_, _, run_bytes_of_string (P := Tryz.prog) W 9 22 5 s Tryz.underlying9 Tryz.underlying22 Tryz.underlying5, ?_, ?_⟩
  · intro j u hj
    rw [Addr.add_mid, Nat.zero_add]
    have hlt : j < s.size := by
      have := (List.getElem?_eq_some_iff.1 hj).1
      rw [cellsB_len] at this
      simpa using this
    rw [cell_of_row _ W.heap.size j (bytesRow s (grownCap W s.size 0 5)) 5 _ (heap_alloc_new W.drew _)]
    have : j < s.data.size := hlt
    simp only [bytesRow]
    rw [Array.getElem?_append_left (by simpa using this)]
    simp only [cellsB, List.getElem?_map] at hj
    simpa using hj
  · exact (Below.refl _ _).drew.alloc (Nat.le_refl _) _

/-- 'string(b)' of a row of bytes. -/
theorem conv_string (W : World) (g n c : Nat) (l : List UInt8) (hn : n = l.length) (h : ∀ j u, (cellsB l)[j]? = some u → W.cell? ((⟨g, 0, none⟩ : Addr).add j) = some u) :
    (convert 22 9 (.slice (some ⟨g, 0, none⟩) n c)).run Tryz.prog W = .ok (.string ⟨l.toArray⟩) W := by
  rw [run_convert_bytes_string _ 22 9 5 _ _ _ Tryz.underlying22 Tryz.underlying5 Tryz.underlying9]
  have hl : (loadCells ⟨g, 0, none⟩ n).run Tryz.prog W = .ok ((l.map fun b => (b.toNat : Int)).map (Value.int .u8)).toArray W := by
    have := run_loadCells_list (P := Tryz.prog) W ⟨g, 0, none⟩ (cellsB l) h
    rw [cellsB_len, ← hn] at this
    rw [this]
    simp [cellsB]
  rw [run_bytesToString _ ⟨g, 0, none⟩ n c _ hl]
  congr 2
  clear hl h hn
  have key : ∀ (l : List UInt8) (acc : ByteArray), List.foldl (fun (r : ByteArray) (n : Int) => r.push (UInt8.ofNat n.toNat)) acc (l.map fun b => (b.toNat : Int)) = ⟨(acc.data.toList ++ l).toArray⟩ := by
    intro l
    induction l with
    | nil => intro acc; simp
    | cons b r ih =>
      intro acc
      rw [List.map_cons, List.foldl_cons, ih]
      congr 1
      simp [ByteArray.push]
  rw [key]
  simp

theorem infoByte : (Tryz.prog.info? 5).map (fun i => (i.zero, i.size, i.bytes)) = some (some (.int .u8 0), 1, 1) := by kernel_rfl
end Go.Proofs.YtfboipappaonhaaGreat

/-
  Walks: tables that are spoilt.
-/
namespace Go.Proofs.YtfboipappaonhaaGreat
set_option maxRecDepth 100000
set_option linter.unusedSimpArgs false
set_option linter.unusedVariables false
open Go.RowKit

/-- The operators of a table that is as long as one may be, or by one too long. -/
def gnB : ByteArray := ⟨#[43, 45, 42, 47, 60, 62, 61, 33, 38, 124]⟩
def gnN (i : Nat) : UInt8 := gnB.data.getD i 0
def bigOp (v i : Nat) : OpR := ⟨⟨#[gnN (i % 10), gnN (i / 10 % 10), gnN (i / 100)]⟩, 2, 1 + ((i / 3 : Nat) : Int), 1 + (((i / 3 + v / 2) % 3 : Nat) : Int)⟩
def bigTo (v n : Nat) : List OpR := (List.range n).map (bigOp v)

theorem bigTo_succ (v n : Nat) : bigTo v (n + 1) = bigTo v n ++ [bigOp v n] := by simp [bigTo, List.range_succ]
theorem bigTo_len (v n : Nat) : (bigTo v n).length = n := by simp [bigTo]

/-- One operator, spoilt. -/
def badOp (k : Nat) (o d : OpR) : OpR :=
  if k % 8 = 0 then { o with s := (⟨#[43, 45, 43, 45, 43, 45, 43, 45, 43, 45, 43, 45, 43, 45, 43, 45, 43]⟩ : ByteArray).extract 0 (16 + k / 8 % 2) }
  else if k % 8 = 1 then { o with s := o.s ++ ⟨#[k.toUInt8]⟩ }
  else if k % 8 = 2 then { o with s := ⟨#[]⟩ }
  else if k % 8 = 3 then { o with l := 1001 * ((k / 8 % 2 : Nat) : Int) }
  else if k % 8 = 4 then { o with k := ((k / 8 % 5 : Nat) : Int) }
  else if k % 8 = 5 then { o with sd := ((k / 8 % 5 : Nat) : Int) - 1 }
  else d

/-- What a table becomes, by the numbers at a place; the place behind them. -/
def badT (xs : List OpR) (bs : List UInt8) (p : Nat) : List OpR :=
  if nxt bs p % 8 = 7 ∨ xs.length = 0 then bigTo (nxt bs (adv bs p)) (500 + nxt bs (adv bs p) % 2)
  else xs.set (nxt bs (adv bs p) % xs.length) (badOp (nxt bs p) (atO xs (nxt bs (adv bs p) % xs.length)) (drOp (nxt bs (adv bs (adv bs p))) (nxt bs (adv bs (adv bs (adv bs p)))) false))
def badP (xs : List OpR) (bs : List UInt8) (p : Nat) : Nat :=
  if nxt bs p % 8 = 7 ∨ xs.length = 0 then adv bs (adv bs p)
  else if nxt bs p % 8 = 6 then adv bs (adv bs (adv bs (adv bs p))) else adv bs (adv bs p)

theorem conv3W (W : World) (x y z : Int) : (convert 22 9 (.slice (some ⟨W.heap.size, 0, none⟩) 3 3)).run Tryz.prog (W.alloc (.cells #[.int .u8 x, .int .u8 y, .int .u8 z] 5)) = .ok (.string ⟨#[UInt8.ofNat x.toNat, UInt8.ofNat y.toNat, UInt8.ofNat z.toNat]⟩) (W.alloc (.cells #[.int .u8 x, .int .u8 y, .int .u8 z] 5)) := by
  rw [run_convert_bytes_string _ 22 9 5 _ _ _ Tryz.underlying22 Tryz.underlying5 Tryz.underlying9]
  have hl : (loadCells ⟨W.heap.size, 0, none⟩ 3).run Tryz.prog (W.alloc (.cells #[.int .u8 x, .int .u8 y, .int .u8 z] 5)) = .ok ([x, y, z].map (Value.int .u8)).toArray (W.alloc (.cells #[.int .u8 x, .int .u8 y, .int .u8 z] 5)) :=
    run_loadCells_list (P := Tryz.prog) _ ⟨W.heap.size, 0, none⟩ [.int .u8 x, .int .u8 y, .int .u8 z] (fun j v hv => by
      match j, hv with
      | 0, hv => simp at hv; subst hv; simp [Addr.add, go_sem]
      | 1, hv => simp at hv; subst hv; simp [Addr.add, go_sem]
      | 2, hv => simp at hv; subst hv; simp [Addr.add, go_sem])
  rw [run_bytesToString _ ⟨W.heap.size, 0, none⟩ 3 3 [x, y, z] hl]
  rfl

theorem conv3D (W : World) (x y z : Int) : (convert 22 9 (.slice (some ⟨W.heap.size, 0, none⟩) 3 3)).run Tryz.prog (W.alloc (.cells #[.int .u8 x, .int .u8 y, .int .u8 z] 5)).drew = .ok (.string ⟨#[UInt8.ofNat x.toNat, UInt8.ofNat y.toNat, UInt8.ofNat z.toNat]⟩) (W.alloc (.cells #[.int .u8 x, .int .u8 y, .int .u8 z] 5)).drew :=
  conv3W W.drew x y z

theorem new_newsD (w : World) (o0 : Obj) (o : OpR) : ∀ j u, (cellsL [o])[j]? = some u → ((w.alloc o0).alloc (.cells #[.string o.s, .int .i64 o.k, .int .i64 o.l, .int .i64 o.sd] 123)).drew.cell? ((⟨w.heap.size + 1, 0, none⟩ : Addr).add j) = some u := by
  have h := new_news (w.alloc o0) o
  have e : (w.alloc o0).heap.size = w.heap.size + 1 := by simp
  rw [e] at h
  exact h

theorem gn_at (m : Nat) (h : m < 10) : ((⟨#[43, 45, 42, 47, 60, 62, 61, 33, 38, 124]⟩ : ByteArray)[m]'h) = gnN m := by
  have key : ∀ m : Fin 10, ((⟨#[43, 45, 42, 47, 60, 62, 61, 33, 38, 124]⟩ : ByteArray)[m.val]'m.isLt) = gnN m.val := by decide
  exact key ⟨m, h⟩

/-- Nothing but two blocks has turned. -/
structure KeptRG (w w' : World) (r g : Nat) : Prop where
  os : w'.os = w.os
  tape : w'.tape = w.tape
  output : w'.output = w.output
  size : w.heap.size ≤ w'.heap.size
  block : ∀ i, i < w.heap.size → i ≠ r → i ≠ g → w'.heap[i]? = w.heap[i]?

theorem KeptRG.of1 {w w' : World} {r g : Nat} (h : Kept1 w w' r) : KeptRG w w' r g := ⟨h.os, h.tape, h.output, h.size, fun i hi h1 _ => h.block i hi h1⟩
theorem KeptRG.step {w w1 w2 : World} {r g : Nat} (h : KeptRG w w1 r g) (h' : Kept1 w1 w2 r) : KeptRG w w2 r g :=
  ⟨h'.os.trans h.os, h'.tape.trans h.tape, h'.output.trans h.output, Nat.le_trans h.size h'.size, fun i hi h1 h2 => (h'.block i (Nat.lt_of_lt_of_le hi h.size) h1).trans (h.block i hi h1 h2)⟩
theorem KeptRG.below {w w1 w2 : World} {r g : Nat} (h : KeptRG w w1 r g) (hb : Below w1.heap.size w1 w2) : KeptRG w w2 r g := h.step (Kept1.of_below hb)
theorem KeptRG.setG {w w1 : World} {r g : Nat} (h : KeptRG w w1 r g) (o : Nat) (v : Value) : KeptRG w (w1.setCell ⟨g, o, none⟩ v) r g :=
  ⟨h.os, h.tape, h.output, by simpa [World.setCell] using h.size, fun i hi h1 h2 => (Below.heap_setCell _ _ _ _ h2).trans (h.block i hi h1 h2)⟩
theorem KeptRG.setNew {w w1 : World} {r g b : Nat} (h : KeptRG w w1 r g) (o : Nat) (v : Value) (hb : w.heap.size ≤ b) : KeptRG w (w1.setCell ⟨b, o, none⟩ v) r g :=
  ⟨h.os, h.tape, h.output, by simpa [World.setCell] using h.size, fun i hi h1 h2 => (Below.heap_setCell _ _ _ _ (fun e => by have : i = b := e; omega)).trans (h.block i hi h1 h2)⟩
theorem KeptRG.cell {w w' : World} {r g : Nat} (h : KeptRG w w' r g) {b : Nat} (hb : b < w.heap.size) (h1 : b ≠ r) (h2 : b ≠ g) (o : Nat) : w'.cell? ⟨b, o, none⟩ = w.cell? ⟨b, o, none⟩ := World.cell?_of_block (w := w) (h.block b hb h1 h2)
theorem KeptRG.frozen {w w' : World} {r g : Nat} (h : KeptRG w w' r g) {b : Nat} (hb : b < w.heap.size) (h1 : b ≠ r) (h2 : b ≠ g) (o : Nat) : w'.frozen? ⟨b, o, none⟩ = w.frozen? ⟨b, o, none⟩ := World.frozen?_of_block (w := w) (h.block b hb h1 h2)

/-- A row that holds an operator is not where a slice lies. -/
theorem row_ne {w : World} {g T n c : Nat} {a : Option Addr} {ys : List OpR} (hf : Filled w g ys ys.length) (h0 : 0 < ys.length) (ht : w.cell? ⟨T, 0, none⟩ = some (.slice a n c)) : g ≠ T := by
  rintro rfl
  have := (hf.ops 0 h0).1
  simp only [Nat.zero_mul, Nat.add_zero] at this
  rw [ht] at this
  cases this

set_option maxHeartbeats 4000000 in
theorem l1SpoilBig_any (rp cap p g c : Nat) (a : Option Addr) (bs : List UInt8) (xs : List OpR) (w : World) (h : RdS w rp a cap bs p) (hl : bs.length ≤ 1200) (hm : xs.length ≤ 10) (hx : Filled w g xs xs.length) (hne : rp < g) (hb : nxt bs p % 8 = 7 ∨ xs.length = 0) :
    Calls Tryz.prog 62 #[.pointer (some ⟨rp, 0, none⟩), .agg #[.slice (some ⟨g, 0, none⟩) xs.length c]] w fun e w' => (∃ g' c', e = .returned (.agg #[.slice (some ⟨g', 0, none⟩) (badT xs bs p).length c']) ∧ (g' = g ∨ w.heap.size ≤ g') ∧ Filled w' g' (badT xs bs p) (badT xs bs p).length) ∧ Hid (RdS w' rp a cap bs (badP xs bs p)) ∧ Hid (KeptRG w w' rp g) := by
  have hrpw := h.lt
  have hgw := hx.1
  have H := hide h
  clear h
  go_enter Tryz.func62, Tryz.ntmps62
  go_wp2_with fail
  refine (next_at rp cap p a bs _ (((unhide H).below (below1 _ _)).below (below1 _ _)) hl).mono ?_
  rintro e w1 ⟨⟨k, rfl, hk, HK⟩, H1, HP1⟩
  go_wp2_with fail
  refine (next_at rp cap _ a bs _ (unhide H1) hl).mono ?_
  rintro e w2 ⟨⟨v, rfl, hv, HV⟩, H2, HP2⟩
  have HP := hide ((unhide HP1).trans (unhide HP2))
  have z2 : w.heap.size + 2 ≤ w2.heap.size := by have := (unhide HP).size; simpa using this
  have b0 : w2.cell? ⟨w.heap.size, 0, none⟩ = some (.slice (some ⟨g, 0, none⟩) xs.length c) := ((unhide HP).cell (b := w.heap.size) (by simp; omega) (by omega) 0).trans (by simp [go_sem])
  have r0 : w2.cell? ⟨w.heap.size + 1, 0, none⟩ = some (.slice none 0 0) := ((unhide HP).cell (b := w.heap.size + 1) (by simp) (by omega) 0).trans (by simp [go_sem])
  have r1 : w2.frozen? ⟨w.heap.size + 1, 0, none⟩ = false := ((unhide HP).frozen (b := w.heap.size + 1) (by simp) (by omega) 0).trans (by simp [go_sem])
  have HW := hide (show Kept1 w w2 rp from ((Kept1.of_below ((below1 _ _).alloc (by simp) _))).trans (unhide HP))
  have HX := hide ((unhide HW).filled hx (by omega))
  clear H H1 HP1 HP2 HP hx
  obtain ⟨i0, hi, hz0, hz1, hz2⟩ := info_parts infoOp'
  have HI := hide hi
  have HZ := hide (And.intro hz0 (And.intro hz1 hz2))
  clear hi hz0 hz1 hz2
  by_cases hbig : k % 8 = 7
  · have e0 : ((k : Int) % 8 == 7) = true := by simp; omega
    have hn : (500 : Int) + (v : Int) % 2 ≤ 501 := by omega
    go_wp2_with fail
    have HO0 := hide (show ((w2.alloc (.cells #[] 123)).alloc (.cells #[.slice (some ⟨w2.heap.size, 0, none⟩) 0 0] 25)).ownsRow w2.heap.size 123 4 (.slice (some ⟨w2.heap.size, 0, none⟩) 0 0) 0 [] by
      have := (World.ownsRow_lit (base := w2.heap.size) (e := 123) (size := 4) w2 #[] 0 (Nat.le_refl _) (Nat.zero_le _) rfl).alloc (.cells #[.slice (some ⟨w2.heap.size, 0, none⟩) 0 0] 25)
      simpa using this)
    go_loopw [9] (fun i wr => ∃ (j go co : Nat), j ≤ 500 + v % 2 ∧ i = .int .i64 (j : Int) ∧ go ≠ w2.heap.size + 1 ∧ wr.cell? ⟨w2.heap.size + 1, 0, none⟩ = some (.slice (some ⟨go, 0, none⟩) (bigTo v j).length co) ∧ wr.frozen? ⟨w2.heap.size + 1, 0, none⟩ = false ∧ Hid (wr.ownsRow w2.heap.size 123 4 (.slice (some ⟨go, 0, none⟩) (bigTo v j).length co) (bigTo v j).length (cellsL (bigTo v j))) ∧ w2.heap.size + 1 < wr.heap.size ∧ Below w2.heap.size w2 wr) (fun i _ => 500 + v % 2 - (intOf i).toNat)
    case atStart => exact ⟨0, w2.heap.size, 0, Nat.zero_le _, rfl, by omega, by simp [go_sem, bigTo], by simp [go_sem], HO0, by simp, (below1 _ _).alloc (by simp) _⟩
    case round =>
      clear HO0
      obtain ⟨j, go, co, hj, rfl, hgT, t0, t1, HO, zr, hbel⟩ := hrel
      by_cases hlt : j < 500 + v % 2
      · have e1 : (j : Int) < 500 + (v : Int) % 2 := by omega
        obtain ⟨m0, HM0⟩ : ∃ m : Nat, Hid (m = j % 10) := ⟨_, hide rfl⟩
        obtain ⟨m1, HM1⟩ : ∃ m : Nat, Hid (m = j / 10 % 10) := ⟨_, hide rfl⟩
        obtain ⟨m2, HM2⟩ : ∃ m : Nat, Hid (m = j / 100) := ⟨_, hide rfl⟩
        have f0 : (j : Int) % 10 = (m0 : Int) := by have := unhide HM0; omega
        have f1 : (j : Int) / 10 % 10 = (m1 : Int) := by have := unhide HM1; omega
        have f2 : (j : Int) / 100 = (m2 : Int) := by have := unhide HM2; omega
        have g0 : (m0 : Int) < 10 := by omega
        have g1 : (m1 : Int) < 10 := by omega
        have g2 : (m2 : Int) < 10 := by omega
        have g0' : m0 < 10 := by omega
        have g1' : m1 < 10 := by omega
        have g2' : m2 < 10 := by omega
        have hsz : (⟨#[43, 45, 42, 47, 60, 62, 61, 33, 38, 124]⟩ : ByteArray).size = 10 := rfl
        have g0s : (m0 : Int) < ((⟨#[43, 45, 42, 47, 60, 62, 61, 33, 38, 124]⟩ : ByteArray).size : Int) := g0
        have g1s : (m1 : Int) < ((⟨#[43, 45, 42, 47, 60, 62, 61, 33, 38, 124]⟩ : ByteArray).size : Int) := g1
        have g2s : (m2 : Int) < ((⟨#[43, 45, 42, 47, 60, 62, 61, 33, 38, 124]⟩ : ByteArray).size : Int) := g2
        have hcv := fun x y z => conv3D wr x y z
        go_wp2_with fail
        have hbl : (bigTo v j).length ≤ 501 := by rw [bigTo_len]; omega
        go_region
        go_wp2_with (at_builtin; refine wpList_append_own _ rfl (.tmp 49) (.tmp 62) 23 rfl w2.heap.size 123 i0 _ 4 40 Tryz.underlying23 (unhide HI) (unhide HZ).1 (unhide HZ).2.1 (unhide HZ).2.2 rfl (by decide) _ (bigTo v j).length (cellsL (bigTo v j)) rfl (((unhide HO).alloc _).alloc _).drew ⟨wr.heap.size + 1, 0, none⟩ 1 1 (cellsL [(⟨⟨#[(⟨#[43, 45, 42, 47, 60, 62, 61, 33, 38, 124]⟩ : ByteArray)[m0], (⟨#[43, 45, 42, 47, 60, 62, 61, 33, 38, 124]⟩ : ByteArray)[m1], (⟨#[43, 45, 42, 47, 60, 62, 61, 33, 38, 124]⟩ : ByteArray)[m2]]⟩, 2, 1 + (j : Int) / 3, 1 + ((j : Int) / 3 + (v : Int) / 2) % 3⟩ : OpR)]) rfl rfl (new_newsD wr _ (⟨⟨#[(⟨#[43, 45, 42, 47, 60, 62, 61, 33, 38, 124]⟩ : ByteArray)[m0], (⟨#[43, 45, 42, 47, 60, 62, 61, 33, 38, 124]⟩ : ByteArray)[m1], (⟨#[43, 45, 42, 47, 60, 62, 61, 33, 38, 124]⟩ : ByteArray)[m2]]⟩, 2, 1 + (j : Int) / 3, 1 + ((j : Int) / 3 + (v : Int) / 2) % 3⟩ : OpR)) (cellsL_one' _) ?b1 ?b2 ?b3 ?next)
        case b1 => unfold maxLen; omega
        case b2 => omega
        case b3 => simp; omega
        case next =>
          intro v4 w4 hown4 hgrow4 hnil4
          obtain ⟨g4, c4, rfl⟩ := owns_value hown4 (by simp [hnil4])
          have ho : (⟨⟨#[(⟨#[43, 45, 42, 47, 60, 62, 61, 33, 38, 124]⟩ : ByteArray)[m0], (⟨#[43, 45, 42, 47, 60, 62, 61, 33, 38, 124]⟩ : ByteArray)[m1], (⟨#[43, 45, 42, 47, 60, 62, 61, 33, 38, 124]⟩ : ByteArray)[m2]]⟩, 2, 1 + (j : Int) / 3, 1 + ((j : Int) / 3 + (v : Int) / 2) % 3⟩ : OpR) = bigOp v j := by
            have h0 := unhide HM0
            have h1 := unhide HM1
            have h2 := unhide HM2
            unfold bigOp
            rw [gn_at m0 g0', gn_at m1 g1', gn_at m2 g2', h0, h1, h2]
            congr 1
          have hl4 : (bigTo v j).length + 1 = (bigTo v (j + 1)).length := by rw [bigTo_succ]; simp
          rw [ho, ← cellsL_append, ← bigTo_succ, hl4] at hown4
          rw [hl4]
          have hgo := (unhide HO).lt go rfl
          have hbel4 : Below w2.heap.size w2 w4 := (((hbel.alloc hbel.size _).alloc (by have := hbel.size; simp; omega) _).drew).grown hgrow4 (by have := hbel.size; simp; omega) (fun q hq => by simp [Value.ownBlock] at hq; omega)
          have s0 : w4.cell? ⟨w2.heap.size + 1, 0, none⟩ = some (.slice (some ⟨go, 0, none⟩) (bigTo v j).length co) := by
            refine (hgrow4.cell_far ⟨w2.heap.size + 1, 0, none⟩ (by simp; omega) (by simp [Value.ownBlock]; omega)).trans ?_
            exact ((below1 _ _).cell (p := ⟨w2.heap.size + 1, 0, none⟩) (by simp; omega)).trans (((below1 _ _).cell (p := ⟨w2.heap.size + 1, 0, none⟩) zr).trans t0)
          have s1 : w4.frozen? ⟨w2.heap.size + 1, 0, none⟩ = false := by
            refine (hgrow4.frozen_far ⟨w2.heap.size + 1, 0, none⟩ (by simp; omega) (by simp [Value.ownBlock]; omega)).trans ?_
            exact ((below1 _ _).frozen (p := ⟨w2.heap.size + 1, 0, none⟩) (by simp; omega)).trans (((below1 _ _).frozen (p := ⟨w2.heap.size + 1, 0, none⟩) zr).trans t1)
          have hne4 : g4 ≠ w2.heap.size + 1 := row_ne (owns_filled hown4).2 (by omega) s0
          have HO4 := hide hown4
          have z4 : w2.heap.size + 1 < w4.heap.size := by have := hgrow4.size; simp at this; omega
          clear hown4 hgrow4 hnil4 HO t0 t1 hcv hbel hl4 ho
          go_wp2_with fail
          refine ⟨⟨j + 1, g4, c4, by omega, by go_num, hne4, World.cell?_setCell_same _ _ _ s0, (World.frozen?_setCell _ _ _ _).trans s1, hide ((unhide HO4).kept (grown_kept1 (kept1_set _ _ _ _)) (Or.inr (by simp [Value.ownBlock]; omega))), by simp; omega, hbel4.setCell (by simp) _⟩, by simp [intOf]; omega⟩
      · have hjn := hide (show j = 500 + v % 2 by omega)
        have e1 : ¬ (j : Int) < 500 + (v : Int) % 2 := by omega
        have q0 : wr.cell? ⟨w.heap.size + 1, 0, none⟩ = some (.slice none 0 0) := (hbel.cell (p := ⟨w.heap.size + 1, 0, none⟩) (by simp; omega)).trans r0
        have q1 : wr.frozen? ⟨w.heap.size + 1, 0, none⟩ = false := (hbel.frozen (p := ⟨w.heap.size + 1, 0, none⟩) (by simp; omega)).trans r1
        go_wp2_with fail
        obtain ⟨hgo1, hgo2⟩ := owns_filled (unhide HO)
        have ht : badT xs bs p = bigTo v j := by
          unfold badT
          rw [if_pos hb, ← unhide HV, unhide hjn]
        have hpp : badP xs bs p = adv bs (adv bs p) := by
          unfold badP
          rw [if_pos hb]
        rw [ht, hpp]
        refine bodyPost_ret (v := .agg #[.slice (some ⟨go, 0, none⟩) (bigTo v j).length co]) ?res rfl ⟨⟨go, ⟨co, rfl⟩, Or.inr (by omega), ?_⟩, hide ?_, hide ?_⟩
        case res => simp [results, Tryz.results62, go_sem, q0]
        · exact hgo2.setCell _ _ (by simp; omega)
        · exact ((unhide H2).below hbel).set _ _ _ (by omega)
        · exact ((KeptRG.of1 (unhide HW)).below hbel).setNew _ _ (by omega)
  · have hx0 : xs.length = 0 := by rcases hb with h | h
                                   · exact absurd (by rw [unhide HK]; exact h) hbig
                                   · exact h
    have e0 : ((k : Int) % 8 == 7) = false := by simp; omega
    have e9 : ((xs.length : Int) == 0) = true := by simp [hx0]
    have hn : (500 : Int) + (v : Int) % 2 ≤ 501 := by omega
    go_wp2_with fail
    have HO0 := hide (show ((w2.alloc (.cells #[] 123)).alloc (.cells #[.slice (some ⟨w2.heap.size, 0, none⟩) 0 0] 25)).ownsRow w2.heap.size 123 4 (.slice (some ⟨w2.heap.size, 0, none⟩) 0 0) 0 [] by
      have := (World.ownsRow_lit (base := w2.heap.size) (e := 123) (size := 4) w2 #[] 0 (Nat.le_refl _) (Nat.zero_le _) rfl).alloc (.cells #[.slice (some ⟨w2.heap.size, 0, none⟩) 0 0] 25)
      simpa using this)
    go_loopw [9] (fun i wr => ∃ (j go co : Nat), j ≤ 500 + v % 2 ∧ i = .int .i64 (j : Int) ∧ go ≠ w2.heap.size + 1 ∧ wr.cell? ⟨w2.heap.size + 1, 0, none⟩ = some (.slice (some ⟨go, 0, none⟩) (bigTo v j).length co) ∧ wr.frozen? ⟨w2.heap.size + 1, 0, none⟩ = false ∧ Hid (wr.ownsRow w2.heap.size 123 4 (.slice (some ⟨go, 0, none⟩) (bigTo v j).length co) (bigTo v j).length (cellsL (bigTo v j))) ∧ w2.heap.size + 1 < wr.heap.size ∧ Below w2.heap.size w2 wr) (fun i _ => 500 + v % 2 - (intOf i).toNat)
    case atStart => exact ⟨0, w2.heap.size, 0, Nat.zero_le _, rfl, by omega, by simp [go_sem, bigTo], by simp [go_sem], HO0, by simp, (below1 _ _).alloc (by simp) _⟩
    case round =>
      clear HO0
      obtain ⟨j, go, co, hj, rfl, hgT, t0, t1, HO, zr, hbel⟩ := hrel
      by_cases hlt : j < 500 + v % 2
      · have e1 : (j : Int) < 500 + (v : Int) % 2 := by omega
        obtain ⟨m0, HM0⟩ : ∃ m : Nat, Hid (m = j % 10) := ⟨_, hide rfl⟩
        obtain ⟨m1, HM1⟩ : ∃ m : Nat, Hid (m = j / 10 % 10) := ⟨_, hide rfl⟩
        obtain ⟨m2, HM2⟩ : ∃ m : Nat, Hid (m = j / 100) := ⟨_, hide rfl⟩
        have f0 : (j : Int) % 10 = (m0 : Int) := by have := unhide HM0; omega
        have f1 : (j : Int) / 10 % 10 = (m1 : Int) := by have := unhide HM1; omega
        have f2 : (j : Int) / 100 = (m2 : Int) := by have := unhide HM2; omega
        have g0 : (m0 : Int) < 10 := by omega
        have g1 : (m1 : Int) < 10 := by omega
        have g2 : (m2 : Int) < 10 := by omega
        have g0' : m0 < 10 := by omega
        have g1' : m1 < 10 := by omega
        have g2' : m2 < 10 := by omega
        have hsz : (⟨#[43, 45, 42, 47, 60, 62, 61, 33, 38, 124]⟩ : ByteArray).size = 10 := rfl
        have g0s : (m0 : Int) < ((⟨#[43, 45, 42, 47, 60, 62, 61, 33, 38, 124]⟩ : ByteArray).size : Int) := g0
        have g1s : (m1 : Int) < ((⟨#[43, 45, 42, 47, 60, 62, 61, 33, 38, 124]⟩ : ByteArray).size : Int) := g1
        have g2s : (m2 : Int) < ((⟨#[43, 45, 42, 47, 60, 62, 61, 33, 38, 124]⟩ : ByteArray).size : Int) := g2
        have hcv := fun x y z => conv3D wr x y z
        go_wp2_with fail
        have hbl : (bigTo v j).length ≤ 501 := by rw [bigTo_len]; omega
        go_region
        go_wp2_with (at_builtin; refine wpList_append_own _ rfl (.tmp 49) (.tmp 62) 23 rfl w2.heap.size 123 i0 _ 4 40 Tryz.underlying23 (unhide HI) (unhide HZ).1 (unhide HZ).2.1 (unhide HZ).2.2 rfl (by decide) _ (bigTo v j).length (cellsL (bigTo v j)) rfl (((unhide HO).alloc _).alloc _).drew ⟨wr.heap.size + 1, 0, none⟩ 1 1 (cellsL [(⟨⟨#[(⟨#[43, 45, 42, 47, 60, 62, 61, 33, 38, 124]⟩ : ByteArray)[m0], (⟨#[43, 45, 42, 47, 60, 62, 61, 33, 38, 124]⟩ : ByteArray)[m1], (⟨#[43, 45, 42, 47, 60, 62, 61, 33, 38, 124]⟩ : ByteArray)[m2]]⟩, 2, 1 + (j : Int) / 3, 1 + ((j : Int) / 3 + (v : Int) / 2) % 3⟩ : OpR)]) rfl rfl (new_newsD wr _ (⟨⟨#[(⟨#[43, 45, 42, 47, 60, 62, 61, 33, 38, 124]⟩ : ByteArray)[m0], (⟨#[43, 45, 42, 47, 60, 62, 61, 33, 38, 124]⟩ : ByteArray)[m1], (⟨#[43, 45, 42, 47, 60, 62, 61, 33, 38, 124]⟩ : ByteArray)[m2]]⟩, 2, 1 + (j : Int) / 3, 1 + ((j : Int) / 3 + (v : Int) / 2) % 3⟩ : OpR)) (cellsL_one' _) ?b1 ?b2 ?b3 ?next)
        case b1 => unfold maxLen; omega
        case b2 => omega
        case b3 => simp; omega
        case next =>
          intro v4 w4 hown4 hgrow4 hnil4
          obtain ⟨g4, c4, rfl⟩ := owns_value hown4 (by simp [hnil4])
          have ho : (⟨⟨#[(⟨#[43, 45, 42, 47, 60, 62, 61, 33, 38, 124]⟩ : ByteArray)[m0], (⟨#[43, 45, 42, 47, 60, 62, 61, 33, 38, 124]⟩ : ByteArray)[m1], (⟨#[43, 45, 42, 47, 60, 62, 61, 33, 38, 124]⟩ : ByteArray)[m2]]⟩, 2, 1 + (j : Int) / 3, 1 + ((j : Int) / 3 + (v : Int) / 2) % 3⟩ : OpR) = bigOp v j := by
            have h0 := unhide HM0
            have h1 := unhide HM1
            have h2 := unhide HM2
            unfold bigOp
            rw [gn_at m0 g0', gn_at m1 g1', gn_at m2 g2', h0, h1, h2]
            congr 1
          have hl4 : (bigTo v j).length + 1 = (bigTo v (j + 1)).length := by rw [bigTo_succ]; simp
          rw [ho, ← cellsL_append, ← bigTo_succ, hl4] at hown4
          rw [hl4]
          have hgo := (unhide HO).lt go rfl
          have hbel4 : Below w2.heap.size w2 w4 := (((hbel.alloc hbel.size _).alloc (by have := hbel.size; simp; omega) _).drew).grown hgrow4 (by have := hbel.size; simp; omega) (fun q hq => by simp [Value.ownBlock] at hq; omega)
          have s0 : w4.cell? ⟨w2.heap.size + 1, 0, none⟩ = some (.slice (some ⟨go, 0, none⟩) (bigTo v j).length co) := by
            refine (hgrow4.cell_far ⟨w2.heap.size + 1, 0, none⟩ (by simp; omega) (by simp [Value.ownBlock]; omega)).trans ?_
            exact ((below1 _ _).cell (p := ⟨w2.heap.size + 1, 0, none⟩) (by simp; omega)).trans (((below1 _ _).cell (p := ⟨w2.heap.size + 1, 0, none⟩) zr).trans t0)
          have s1 : w4.frozen? ⟨w2.heap.size + 1, 0, none⟩ = false := by
            refine (hgrow4.frozen_far ⟨w2.heap.size + 1, 0, none⟩ (by simp; omega) (by simp [Value.ownBlock]; omega)).trans ?_
            exact ((below1 _ _).frozen (p := ⟨w2.heap.size + 1, 0, none⟩) (by simp; omega)).trans (((below1 _ _).frozen (p := ⟨w2.heap.size + 1, 0, none⟩) zr).trans t1)
          have hne4 : g4 ≠ w2.heap.size + 1 := row_ne (owns_filled hown4).2 (by omega) s0
          have HO4 := hide hown4
          have z4 : w2.heap.size + 1 < w4.heap.size := by have := hgrow4.size; simp at this; omega
          clear hown4 hgrow4 hnil4 HO t0 t1 hcv hbel hl4 ho
          go_wp2_with fail
          refine ⟨⟨j + 1, g4, c4, by omega, by go_num, hne4, World.cell?_setCell_same _ _ _ s0, (World.frozen?_setCell _ _ _ _).trans s1, hide ((unhide HO4).kept (grown_kept1 (kept1_set _ _ _ _)) (Or.inr (by simp [Value.ownBlock]; omega))), by simp; omega, hbel4.setCell (by simp) _⟩, by simp [intOf]; omega⟩
      · have hjn := hide (show j = 500 + v % 2 by omega)
        have e1 : ¬ (j : Int) < 500 + (v : Int) % 2 := by omega
        have q0 : wr.cell? ⟨w.heap.size + 1, 0, none⟩ = some (.slice none 0 0) := (hbel.cell (p := ⟨w.heap.size + 1, 0, none⟩) (by simp; omega)).trans r0
        have q1 : wr.frozen? ⟨w.heap.size + 1, 0, none⟩ = false := (hbel.frozen (p := ⟨w.heap.size + 1, 0, none⟩) (by simp; omega)).trans r1
        go_wp2_with fail
        obtain ⟨hgo1, hgo2⟩ := owns_filled (unhide HO)
        have ht : badT xs bs p = bigTo v j := by
          unfold badT
          rw [if_pos hb, ← unhide HV, unhide hjn]
        have hpp : badP xs bs p = adv bs (adv bs p) := by
          unfold badP
          rw [if_pos hb]
        rw [ht, hpp]
        refine bodyPost_ret (v := .agg #[.slice (some ⟨go, 0, none⟩) (bigTo v j).length co]) ?res rfl ⟨⟨go, ⟨co, rfl⟩, Or.inr (by omega), ?_⟩, hide ?_, hide ?_⟩
        case res => simp [results, Tryz.results62, go_sem, q0]
        · exact hgo2.setCell _ _ (by simp; omega)
        · exact ((unhide H2).below hbel).set _ _ _ (by omega)
        · exact ((KeptRG.of1 (unhide HW)).below hbel).setNew _ _ (by omega)
end Go.Proofs.YtfboipappaonhaaGreat
