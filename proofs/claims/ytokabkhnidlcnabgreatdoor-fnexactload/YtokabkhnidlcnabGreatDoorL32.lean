import Derived.Deep.MidRow
import Derived.Deep.RegionHeld
import Derived.Laws.MakeOwn
import Derived.OwnWalk
import Derived.Laws.OwnMore
import Derived.Test.YtokabkhnidlcnabGreatDoorL00
import Derived.Test.YtokabkhnidlcnabGreatDoorL04
import Derived.Test.YtokabkhnidlcnabGreatDoorL06
import Derived.Test.YtokabkhnidlcnabGreatDoorL29
import Derived.Test.YtokabkhnidlcnabGreatDoorL31

/-
  Walk: Load of the program.
-/
namespace Go.Proofs.YtokabkhnidlcnabGreatDoor
set_option maxRecDepth 100000
set_option linter.unusedSimpArgs false
set_option linter.unusedVariables false
open Go.RowKit Go.Maps

set_option maxHeartbeats 1000000 in
theorem loadProgram_many (am : Option Addr) (cm : Nat) (ms : List ModR) (w : World) (hn : 100 < ms.length) :
    Calls Tryz.prog 22 #[.slice am ms.length cm] w fun e w' => e = .returned (.tuple #[.pointer none, .int .i64 1, .int .i64 100]) ∧ w' = w := by
  have hnI : (100 : Int) < (ms.length : Int) := by omega
  go_enter Tryz.func22, Tryz.ntmps22
  go_wp2_with fail
  go_ret3
  exact ⟨rfl, rfl⟩

/-- What Load leaves. -/
def LoPost (w : World) (out : List (List OpR)) (c who : Int) (e : Ending) (w' : World) : Prop :=
  ∃ v, e = .returned (.tuple #[v, .int .i64 c, .int .i64 who]) ∧ Hid (TabsR w' w.heap.size v out) ∧ Below w.heap.size w w'

set_option maxHeartbeats 4000000 in
theorem implLoad_any (am : Option Addr) (cm : Nat) (ms : List ModR) (w : World) (g : ms.length ≤ 100 → LdG w am ms) {out : List (List OpR)} {c who : Int} (h : LoadIs ms out c who) :
    Calls Tryz.prog 7 #[.slice am ms.length cm] w (LoPost w out c who) := by
  by_cases hn : ms.length ≤ 100
  · have HX := hide (loadProgram_any am cm ms w (g hn))
    have HL := hide h
    have HG := hide (g hn)
    clear h g
    go_enter Tryz.func7, Tryz.ntmps7
    go_wp2_with fail
    (with_reducible refine (unhide HX).mono ?_)
    rintro e w1 (⟨s, k, cc, hs, hk, hcc, rfl, hf, hb⟩ | ⟨rfl, W, X, ob, hst⟩)
    · obtain ⟨rfl, h1, rfl⟩ := fl_load (unhide HL) hn hs hk hf
      have hne : (cc != 0) = true := by simp; omega
      obtain rfl : cc = c := by omega
      have HB := hide hb
      clear hf hb HX HL h1 hcc
      go_wp2_with fail
      go_ret3
      exact ⟨_, rfl, hide ⟨⟨_, _, rfl⟩, Or.inl rfl⟩, unhide HB⟩
    · obtain ⟨hK, h3, U, ks, C, T, rk, G, ⟨v1, vs, kv, pv, _, _, hU, hb2, hN, hH⟩, h4, h5, hR, hT, hG, h6⟩ := hst
      obtain ⟨rfl, rfl, rfl⟩ := ok_load (unhide HL) hn hb2 h3 hU h4 h5 hR hT h6
      obtain ⟨i0, hi0, hz0, hz1, hz2⟩ := info_parts' infoTabL
      have hmk : ∀ W : World, (Instr.makeSlice 24 (.int .i64 0) (.int .i64 (ms.length : Int))).run Tryz.prog W = .ok (.slice (some ⟨W.heap.size, 0, none⟩) 0 ms.length) (W.alloc (.cells (madeCells #[.slice none 0 0] ms.length) 54)) := by
        intro W
        have := run_make (P := Tryz.prog) W 24 54 i0 _ Tryz.underlying24 hi0 hz0 .i64 .i64 0 ms.length (by omega) (by omega) (by rw [hz2]; omega) (by omega)
        simpa [hz1, Value.cells] using this
      have HI := hide hi0
      have HZ := hide (And.intro hz0 (And.intro hz1 hz2))
      have hbC : w.heap.size < C := by have := hH.hBC; omega
      have hbs : w.heap.size < w1.heap.size := hG.lt
      have hC1 := hH.hC
      obtain ⟨p1, p2, p3⟩ := hU.small hn
      have HSC := hide (fun (r i : Nat) (hi : i < ms.length) (wr : World) (G' : ByteArray → Option Value) (hHr : ScH wr (w.heap.size + 3) C (w.heap.size + 1) w.heap.size am cm ms v1 vs U kv pv ks) (hGr : ScM wr C w.heap.size ms T G') => scopeOf_any _ C _ _ am cm ms v1 vs U kv pv ks T rk hn hN.all hR hT p1 p2 (fun i hi => (p3 i hi).1) (rk i + 1) i hi (by omega) wr G' hHr hGr)
      have HH := hide hH
      have HB1 := hide hK.bel
      have H0 := hide (show LoI w1 (w1.alloc (.cells (madeCells #[.slice none 0 0] ms.length) 54)) C w.heap.size ms T (.slice (some ⟨w1.heap.size, 0, none⟩) 0 ms.length) [] G from
        ⟨grown_belN (below1 _ _) _, hG.below (below1 _ _), World.ownsRow_made w1 _ ms.length (Nat.le_refl _) (by unfold maxLen; omega) (by rw [size_madeCells]; simp), fun j hj x hx g e e2 => by
          obtain ⟨x', e1, _, hb'⟩ := hG.at' j hj _ hx
          have e3 : x = x' := by simpa using e1
          subst e3
          have := (hb' g e).2
          simp [Value.ownBlock] at e2
          omega, fun j hj => by simp at hj⟩)
      clear hi0 hz0 hz1 hz2 HX HL hK h3 hb2 hN hH h4 h5 hR hT hG h6 hU p1 p2 p3
      go_wp2_with fail
      go_loopw [8, 26] (fun vv x wr => ∃ (tv : List Value) (G' : ByteArray → Option Value), tv.length ≤ ms.length ∧ x = .int .i64 (tv.length : Int) ∧ Hid (LoI w1 wr C w.heap.size ms T vv tv G')) (fun _ x _ => ms.length - (intOf x).toNat)
      case atStart => exact ⟨[], G, Nat.zero_le _, rfl, H0⟩
      case round =>
        clear H0
        obtain ⟨tv, G', htl, rfl, HL⟩ := hrel
        obtain ⟨ak, ck, rfl⟩ : ∃ a c, u8 = .slice a tv.length c := rowS_slice (unhide HL).row
        have hzr := (unhide HL).gr.size
        by_cases hlt : tv.length < ms.length
        · have hltI : (tv.length : Int) < (ms.length : Int) := by omega
          obtain ⟨bA, off, rfl, hops, hbl⟩ : ∃ b off, am = some ⟨b, off, none⟩ ∧ OpsM w b off ms ∧ b < w.heap.size := by
            rcases (unhide HG).arg with h | h
            · omega
            · exact h
          obtain ⟨m0, m1⟩ := hops tv.length hlt
          have hsb : wr.heap[bA]? = w.heap[bA]? := ((unhide HL).gr.block bA (by omega) (fun e => by injection e with e; omega)).trans ((unhide HB1).block bA hbl)
          have e0 := (World.cell?_of_block (w := w) (w' := wr) (a := ⟨bA, off + tv.length * 2, none⟩) hsb).trans m0
          have e1 := (World.cell?_of_block (w := w) (w' := wr) (a := ⟨bA, off + tv.length * 2 + 1, none⟩) hsb).trans m1
          obtain ⟨nm, hnm⟩ : ∃ nm, nm = (atM ms tv.length).n := ⟨_, rfl⟩
          obtain ⟨tx, htx⟩ : ∃ tx, tx = (atM ms tv.length).t := ⟨_, rfl⟩
          rw [← hnm] at e0
          rw [← htx] at e1
          obtain ⟨W, hW⟩ : ∃ W, W = wr.alloc (.cells #[.string nm, .string tx] 43) := ⟨_, rfl⟩
          have hbW : Below wr.heap.size wr W := by rw [hW]; exact below1 _ _
          have HX := hide ((unhide HSC) 0 tv.length hlt W G' (((unhide HH).keep (unhide HL).gr).below hbW) ((unhide HL).sc.below hbW))
          rw [← hnm] at HX
          have HW := hide hW
          have HBW := hide hbW
          have hzW : wr.heap.size ≤ W.heap.size := hbW.size
          clear hops m0 m1 hsb hnm htx hW hbW
          go_wp2_with (first | (go_at_call 23; rw [← unhide HW]; (with_reducible refine (unhide HX).mono ?_); rintro e w6 ⟨v, G'', rfl, g1, g2, g3, gp, g4, g5⟩; obtain ⟨v', hv', hov0, _⟩ := g2.at' _ hlt _ g1; have hov := hov0.ops; clear hov0; obtain rfl : v = v' := (by simpa using hv'); obtain ⟨a6, c6, rfl, _⟩ := hov; have HST := hide (fun Wn w4 v4 (hn : Below w6.heap.size w6 Wn) hg hr hat => @LoI.step w1 wr W w6 Wn w4 C w.heap.size ms T _ _ v4 tv G' G'' (unhide HL) hbs hbC hlt (unhide HBW) g1 g2 g3 gp g5 hn hg hr hat); have HR6 := hide (show RowT w6 w1.heap.size (.slice ak tv.length ck) tv from row_same (row_same (unhide HL).row (fun g e => (unhide HBW).block g (World.ownsRow.lt (unhide HL).row g e).2)) (fun g e => g3.block g (by have := (World.ownsRow.lt (unhide HL).row g e).2; omega) (fun x => by injection x with x; have := (World.ownsRow.lt (unhide HL).row g e).1; omega))); have hz6 : W.heap.size ≤ w6.heap.size := g3.size; clear g1 g2 g3 g4 g5 gp hv' HX) | (at_builtin; refine wpList_append_own_at _ rfl (.tmp 30) (.tmp 35) 24 rfl w1.heap.size 54 i0 _ 1 24 Tryz.underlying24 (unhide HI) (unhide HZ).1 (unhide HZ).2.1 (unhide HZ).2.2 rfl (by decide) _ tv.length tv rfl (row_same (unhide HR6) (fun g e => (below1 w6 _).block g (World.ownsRow.lt (unhide HR6) g e).2)) ⟨w6.heap.size, 0, none⟩ 1 1 [.slice a6 (T tv.length).length c6] rfl rfl (fun j u hj => (by cases j with | zero => (simp at hj; subst hj; simp [go_sem]) | succ j => simp at hj)) (fun u hu => (by simp at hu; subst hu; rfl)) ?b1 ?b2 ?b3 ?next))
          case b1 => unfold maxLen; omega
          case b2 => omega
          case b3 => simp; omega
          case next =>
            intro v4 w4 hown4 hgrow4 hnil4 hat4
            have hr4 : RowT w4 w1.heap.size v4 (tv ++ [.slice a6 (T tv.length).length c6]) := by
              unfold RowT
              rw [List.length_append]
              exact hown4
            have HN := hide ((unhide HST) _ w4 v4 (below1 _ _) hgrow4 hr4 (hat4.imp id (fun e => ⟨_, e, by simp⟩)))
            obtain ⟨a4, c4, rfl⟩ := rowS_slice hr4
            clear hown4 hgrow4 hnil4 hat4 hr4 HST
            go_wp2_with fail
            exact ⟨⟨tv ++ [.slice a6 (T tv.length).length c6], G'', (by first | (simp; done) | (simp; omega)), (by first | (simp; done) | (simp; go_num) | go_num), HN⟩, by simp [intOf]; omega⟩
        · have HT := hide ((unhide HL).res (B := w.heap.size) (by omega) (by omega) hC1)
          have HBW := hide (show Below w.heap.size w wr from ⟨(unhide HL).gr.os.trans (unhide HB1).os, (unhide HL).gr.tape.trans (unhide HB1).tape, (unhide HL).gr.output.trans (unhide HB1).output, by have := (unhide HB1).size; omega, fun q hq => ((unhide HL).gr.block q (by omega) (fun e => by injection e with e; omega)).trans ((unhide HB1).block q hq)⟩)
          have hltI : ¬ (tv.length : Int) < (ms.length : Int) := by omega
          go_wp2_with fail
          go_ret3
          exact ⟨_, rfl, HT, unhide HBW⟩
  · obtain ⟨h1, rfl, rfl, rfl⟩ : 100 < ms.length ∧ out = [] ∧ c = 1 ∧ who = 100 := by
      rcases h with h | ⟨h, _⟩
      · exact h
      · exact absurd h hn
    have HX := hide (loadProgram_many am cm ms w (by omega))
    clear g h
    go_enter Tryz.func7, Tryz.ntmps7
    go_wp2_with (first | (go_at_call 22; (with_reducible refine (unhide HX).mono ?_); rintro e w1 ⟨rfl, hx⟩; obtain rfl := hx.symm; clear hx))
    go_ret3
    exact ⟨_, rfl, hide ⟨⟨_, _, rfl⟩, Or.inl rfl⟩, Below.refl _ _⟩
end Go.Proofs.YtokabkhnidlcnabGreatDoor

/-
  What the laws do with rows of modules.
-/
namespace Go.Proofs.YtokabkhnidlcnabGreatDoor
set_option maxRecDepth 100000
open Go.RowKit

/-- The bytes of an element. -/
def totM (o : ModR) : Nat := o.n.size + o.t.size
def totToM (xs : List ModR) : Nat → Nat
  | 0 => 0
  | k + 1 => totToM xs k + totM (atM xs k)

set_option maxHeartbeats 400000 in
theorem szM_any (o : ModR) (left : Int) (w : World) (hs0 : o.n.size ≤ maxLen) (hs1 : o.t.size ≤ maxLen) (h0 : 0 ≤ left) (h1 : left ≤ 1048576) :
    Calls Tryz.prog 13 #[.agg #[.string o.n, .string o.t], .int .i64 left] w fun e w' => (∃ r, e = .returned (.int .i64 r) ∧ (r < 0 ∨ (0 ≤ r ∧ r + totM o = left))) ∧ Below w.heap.size w w' := by
  unfold maxLen at hs0
  unfold maxLen at hs1
  by_cases c0 : left < o.n.size
  · go_enter Tryz.func13, Tryz.ntmps13
    go_wp2
    go_ret
    exact ⟨⟨-1, rfl, Or.inl (by omega)⟩, below1 _ _⟩
  by_cases c1 : left - o.n.size < o.t.size
  · go_enter Tryz.func13, Tryz.ntmps13
    go_wp2
    go_ret
    exact ⟨⟨-1, rfl, Or.inl (by omega)⟩, below1 _ _⟩
  go_enter Tryz.func13, Tryz.ntmps13
  go_wp2
  go_ret
  exact ⟨⟨_, rfl, Or.inr (by unfold totM; omega)⟩, below1 _ _⟩

/-- What is left behind a list. -/
def LeftM (left r : Int) (xs : List ModR) : Prop := r < 0 ∨ (0 ≤ r ∧ r + xs.length + totToM xs xs.length = left)

set_option maxHeartbeats 1000000 in
theorem szMS_any (a : Option Addr) (cap : Nat) (xs : List ModR) (left : Int) (w : World) (hm : xs.length ≤ maxLen) (hw : ArgM w a xs) (hs : SizedM xs) (hl0 : 0 ≤ left) (hl1 : left ≤ 1048576) :
    Calls Tryz.prog 4 #[.slice a xs.length cap, .int .i64 left] w fun e w' => (∃ r, e = .returned (.int .i64 r) ∧ LeftM left r xs) ∧ Below w.heap.size w w' := by
  unfold maxLen at hm
  by_cases hneg : left < xs.length
  · go_enter Tryz.func4, Tryz.ntmps4
    go_wp2
    go_ret
    exact ⟨⟨-1, rfl, Or.inl (by omega)⟩, Below.refl _ _⟩
  rcases hw with h0 | ⟨b, off, rfl, hw, hB⟩
  · have ht : totToM xs xs.length = 0 := by rw [h0]; rfl
    have HT := hide ht
    clear ht
    go_enter Tryz.func4, Tryz.ntmps4
    go_wp2
    refine wp_loop_rounds 1 ?_
    rw [rounds_succ]
    go_wp2
    go_ret
    exact ⟨⟨_, rfl, Or.inr (by have := unhide HT; omega)⟩, Below.refl _ _⟩
  · go_enter Tryz.func4, Tryz.ntmps4
    go_wp2
    go_loopw [1, 5] (fun lf i wr => ∃ (k : Nat) (r : Int), k ≤ xs.length ∧ i = .int .i64 k ∧ lf = .int .i64 r ∧ 0 ≤ r ∧ r ≤ 1048576 ∧ Hid (r + xs.length + totToM xs k = left) ∧ Below w.heap.size w wr) (fun _ i _ => xs.length - (intOf i).toNat)
    case atStart => exact ⟨0, _, Nat.zero_le _, rfl, rfl, by omega, by omega, hide (by simp only [totToM]; omega), Below.refl _ _⟩
    case round =>
      obtain ⟨k, r, hk, rfl, rfl, hr0, hr1, ht, hbel⟩ := hrel
      by_cases hlt : k < xs.length
      · obtain ⟨h0, h1⟩ := (hw k hlt).below hbel hB
        go_wp2_with fail
        refine (szM_any (atM xs k) r _ (hs k hlt).1 (hs k hlt).2 hr0 hr1).mono ?_
        rintro e w1 ⟨⟨r1, rfl, hr⟩, hb1⟩
        by_cases hneg1 : r1 < 0
        · go_wp2_with fail
          go_ret
          exact ⟨⟨-1, rfl, Or.inl (by omega)⟩, hbel.trans (hb1.mono hbel.size)⟩
        · have h01 : 0 ≤ r1 := by omega
          have hR := hide (show r1 + totM (atM xs k) = r by omega)
          have h11 : r1 ≤ 1048576 := by have := unhide hR; omega
          clear hr
          go_wp2_with fail
          exact ⟨⟨k + 1, r1, by omega, by go_num, rfl, h01, h11, hide (by have a := unhide ht; have b := unhide hR; simp only [totToM]; omega), hbel.trans (hb1.mono hbel.size)⟩, by simp [intOf]; omega⟩
      · have hkx : k = xs.length := by omega
        have HT := hide (show r + xs.length + totToM xs xs.length = left by have := unhide ht; rw [hkx] at this; exact this)
        clear ht hkx
        go_wp2
        go_ret
        exact ⟨⟨_, rfl, Or.inr ⟨hr0, unhide HT⟩⟩, hbel⟩

theorem toM_any (o : ModR) (w : World) :
    Calls Tryz.prog 21 #[.agg #[.string o.n, .string o.t]] w fun e w' => e = .returned (.agg #[.string o.n, .string o.t]) ∧ Below w.heap.size w w' := by
  go_enter Tryz.func21, Tryz.ntmps21
  go_wp2
  exact bodyPost_ret (v := .agg #[.string o.n, .string o.t]) (by simp [results, Tryz.results21, go_sem]) rfl ⟨rfl, (((Below.refl _ _).alloc (Nat.le_refl _) _).alloc (by simp) _).alloc (by simp; omega) _⟩

set_option maxHeartbeats 1000000 in
theorem toMS_any (a : Option Addr) (cap : Nat) (xs : List ModR) (w : World) (hm : xs.length ≤ 1048576) (hw : ArgM w a xs) :
    Calls Tryz.prog 6 #[.slice a xs.length cap] w fun e w' => (∃ g, e = .returned (.slice (some ⟨g, 0, none⟩) xs.length xs.length) ∧ w.heap.size ≤ g ∧ FilledM w' g xs xs.length) ∧ Below w.heap.size w w' := by
  obtain ⟨inf, hi, hz⟩ := Option.map_eq_some_iff.1 infoM
  simp only [Prod.mk.injEq] at hz
  obtain ⟨hz, hsz, hby⟩ := hz
  have hmk : ∀ W : World, (Instr.makeSlice 27 (.int .i64 (xs.length : Int)) (.int .i64 (xs.length : Int))).run Tryz.prog W = .ok (.slice (some ⟨W.heap.size, 0, none⟩) xs.length xs.length) (W.alloc (.cells (madeCells #[.string ⟨#[]⟩, .string ⟨#[]⟩] (xs.length * 2)) 43)) := by
    intro W
    have := run_make (P := Tryz.prog) W 27 43 inf _ Tryz.underlying27 hi hz .i64 .i64 xs.length xs.length (by omega) (Int.le_refl _) (by rw [hby]; omega) (by omega)
    simpa [hsz, Value.cells] using this
  clear hz hsz hby hi
  rcases hw with h0 | ⟨b, off, rfl, hw, hB⟩
  · obtain rfl := List.eq_nil_of_length_eq_zero h0
    have hmk0 : ∀ W : World, (Instr.makeSlice 27 (.int .i64 0) (.int .i64 0)).run Tryz.prog W = .ok (.slice (some ⟨W.heap.size, 0, none⟩) 0 0) (W.alloc (.cells #[] 43)) := fun W => by kernel_rfl
    clear hmk h0 hm
    go_enter Tryz.func6, Tryz.ntmps6
    go_wp2
    refine wp_loop_rounds 1 ?_
    rw [rounds_succ]
    go_wp2
    go_ret
    exact ⟨⟨w.heap.size, rfl, Nat.le_refl _, by simp, fun j hj => (by simp at hj), fun i hi => (by simp at hi)⟩, below1 _ _⟩
  · go_enter Tryz.func6, Tryz.ntmps6
    go_wp2
    go_loopw [4] (fun i wr => ∃ k : Nat, k ≤ xs.length ∧ i = .int .i64 k ∧ FilledM wr w.heap.size xs k ∧ Below w.heap.size w wr) (fun i _ => xs.length - (intOf i).toNat)
    case atStart => exact ⟨0, Nat.zero_le _, rfl, ⟨by simp, made_thereM _ _ _ _, fun i hi => by omega⟩, below1 _ _⟩
    case round =>
      obtain ⟨k, hk, rfl, hfil, hbel⟩ := hrel
      by_cases hlt : k < xs.length
      · obtain ⟨h0, h1⟩ := (hw k hlt).below hbel hB
        go_wp2_with fail
        refine (toM_any (atM xs k) _).mono ?_
        rintro e w1 ⟨rfl, hb⟩
        have hfil1 := hfil.below hb hfil.1
        obtain ⟨⟨e0, f0⟩, ⟨e1, f1⟩⟩ := fill_cellsM hfil1 hlt
        obtain ⟨v0, e0⟩ := e0
        obtain ⟨v1, e1⟩ := e1
        have HF := hide (hfil1.step hlt)
        have HB := hide (below_setCells (Nat.le_refl w.heap.size) [.string (atM xs k).n, .string (atM xs k).t] (k * 2) w1 (hbel.trans (hb.mono hbel.size)))
        clear hfil1 hfil
        go_wp2_with fail
        exact ⟨⟨k + 1, by omega, by go_num, unhide HF, unhide HB⟩, by simp [intOf]; omega⟩
      · go_wp2
        go_ret
        have : k = xs.length := by omega
        exact ⟨⟨w.heap.size, rfl, Nat.le_refl _, this ▸ hfil⟩, hbel⟩

set_option maxHeartbeats 400000 in
theorem eqM_same (o : ModR) (w : World) :
    Calls Tryz.prog 25 #[.agg #[.string o.n, .string o.t], .agg #[.string o.n, .string o.t]] w fun e w' => e = .returned (.bool true) ∧ Below w.heap.size w w' := by
  go_enter Tryz.func25, Tryz.ntmps25
  go_wp2
  go_ret
  exact ⟨rfl, (below1 _ _).alloc (by simp) _⟩

set_option maxHeartbeats 1000000 in
theorem eqMS_same (b off b' off' cap cap' : Nat) (xs : List ModR) (w : World) (hm : xs.length ≤ 1048576) (h : OpsM w b off xs) (h' : OpsM w b' off' xs) (hB : b < w.heap.size) (hB' : b' < w.heap.size) :
    Calls Tryz.prog 9 #[.slice (some ⟨b, off, none⟩) xs.length cap, .slice (some ⟨b', off', none⟩) xs.length cap'] w fun e w' => e = .returned (.bool true) ∧ Below w.heap.size w w' := by
  go_enter Tryz.func9, Tryz.ntmps9
  go_wp2
  go_loopw [5] (fun i wr => ∃ k : Nat, k ≤ xs.length ∧ i = .int .i64 k ∧ Below w.heap.size w wr) (fun i _ => xs.length - (intOf i).toNat)
  case atStart => exact ⟨0, Nat.zero_le _, rfl, Below.refl _ _⟩
  case round =>
    obtain ⟨k, hk, rfl, hbel⟩ := hrel
    by_cases hlt : k < xs.length
    · obtain ⟨a0, a1⟩ := (h k hlt).below hbel hB
      obtain ⟨c0, c1⟩ := (h' k hlt).below hbel hB'
      have hltI : (k : Int) < (xs.length : Int) := by omega
      have zb : b < wr.heap.size := Nat.lt_of_lt_of_le hB hbel.size
      have zb' : b' < wr.heap.size := Nat.lt_of_lt_of_le hB' hbel.size
      go_wp2_with fail
      go_region_held (fun w' => w'.cell? ⟨b, off + k * 2, none⟩ = some (.string (atM xs k).n) ∧ w'.cell? ⟨b, off + k * 2 + 1, none⟩ = some (.string (atM xs k).t) ∧ w'.cell? ⟨b', off' + k * 2, none⟩ = some (.string (atM xs k).n) ∧ w'.cell? ⟨b', off' + k * 2 + 1, none⟩ = some (.string (atM xs k).t)) (go_keep)
        (first | (go_at_call 25; refine (eqM_same (atM xs k) _).mono ?_; rintro e w1 ⟨rfl, hb1⟩; have q0 := (hb1.cell (p := ⟨b, off + k * 2, none⟩) zb).trans (show wr.drew.cell? ⟨b, off + k * 2, none⟩ = _ from a0); have q1 := (hb1.cell (p := ⟨b, off + k * 2 + 1, none⟩) zb).trans (show wr.drew.cell? ⟨b, off + k * 2 + 1, none⟩ = _ from a1); have p0 := (hb1.cell (p := ⟨b', off' + k * 2, none⟩) zb').trans (show wr.drew.cell? ⟨b', off' + k * 2, none⟩ = _ from c0); have p1 := (hb1.cell (p := ⟨b', off' + k * 2 + 1, none⟩) zb').trans (show wr.drew.cell? ⟨b', off' + k * 2 + 1, none⟩ = _ from c1)))
      go_wp2
      exact ⟨⟨k + 1, by omega, by go_num, hbel.trans (((Below.refl _ _).drew.trans hb1).mono hbel.size)⟩, by simp [intOf]; omega⟩
    · go_wp2
      go_ret
      exact ⟨rfl, hbel⟩

set_option maxHeartbeats 1000000 in
theorem eqMS_arg (a a' : Option Addr) (cap cap' : Nat) (xs : List ModR) (w : World) (hm : xs.length ≤ 1048576) (h : ArgM w a xs) (h' : ArgM w a' xs) :
    Calls Tryz.prog 9 #[.slice a xs.length cap, .slice a' xs.length cap'] w fun e w' => e = .returned (.bool true) ∧ Below w.heap.size w w' := by
  by_cases h0 : xs.length = 0
  · obtain rfl := List.eq_nil_of_length_eq_zero h0
    clear h h' h0 hm
    go_enter Tryz.func9, Tryz.ntmps9
    go_wp2
    refine wp_loop_rounds 1 ?_
    rw [rounds_succ]
    go_wp2
    go_ret
    exact ⟨rfl, Below.refl _ _⟩
  · rcases h with h | ⟨b, off, rfl, h1, h2⟩
    · exact absurd h h0
    · rcases h' with h' | ⟨b', off', rfl, h1', h2'⟩
      · exact absurd h' h0
      · exact eqMS_same b off b' off' cap cap' xs w hm h1 h1' h2 h2'

/-- The marks from k on. -/
def mkM (c : Nat) : ModR := ⟨MT c, MT (c + 1)⟩
def mksM (k n : Nat) : List ModR := (List.range n).map fun i => mkM (k + 2 * i)
theorem mksM_len (k n : Nat) : (mksM k n).length = n := by simp [mksM]
theorem mksM_at {k n i : Nat} (h : i < n) : atM (mksM k n) i = mkM (k + 2 * i) := by simp [atM, mksM, h]

/-- n elements are whole; of the next one m cells hold what they must. -/
def PartM (w : World) (g : Nat) (xs : List ModR) (n m : Nat) : Prop := FilledM w g xs n ∧ ∀ j v, j < m → [.string (atM xs n).n, .string (atM xs n).t][j]? = some v → w.cell? ⟨g, n * 2 + j, none⟩ = some v

theorem PartM.start {w : World} {g n : Nat} {xs : List ModR} (h : FilledM w g xs n) : PartM w g xs n 0 := ⟨h, fun j _ hj => absurd hj (Nat.not_lt_zero j)⟩

theorem PartM.below {w w' : World} {g n m : Nat} {xs : List ModR} {B : Nat} (h : PartM w g xs n m) (hb : Below B w w') (hB : g < B) : PartM w' g xs n m :=
  ⟨h.1.below hb hB, fun j v hj hv => (hb.cell (p := ⟨g, _, none⟩) hB).trans (h.2 j v hj hv)⟩

theorem PartM.set {w : World} {g n m : Nat} {xs : List ModR} (h : PartM w g xs n m) (hn : n < xs.length) (hm : m < 2) {v : Value} (hv : [.string (atM xs n).n, .string (atM xs n).t][m]? = some v) : PartM (w.setCell ⟨g, n * 2 + m, none⟩ v) g xs n (m + 1) := by
  obtain ⟨⟨h1, h2, h3⟩, h4⟩ := h
  obtain ⟨u, hu⟩ := Option.isSome_iff_exists.1 (h2 (n * 2 + m) (by omega)).1
  rw [Nat.zero_add] at hu
  have oth : ∀ o, o ≠ n * 2 + m → (w.setCell ⟨g, n * 2 + m, none⟩ v).cell? ⟨g, o, none⟩ = w.cell? ⟨g, o, none⟩ := fun o ho => World.cell?_setCell_other _ _ _ _ (fun e => ho (by injection e with _ e; exact e.symm))
  refine ⟨⟨by simpa [World.setCell] using h1, fun j hj => ⟨?_, ?_⟩, fun i hi => ?_⟩, fun j u' hj hu' => ?_⟩
  · by_cases e : 0 + j = n * 2 + m
    · rw [e, World.cell?_setCell_same _ _ _ hu]; rfl
    · rw [oth _ e]; exact (h2 j hj).1
  · rw [World.frozen?_setCell]; exact (h2 j hj).2
  · obtain ⟨a0, a1⟩ := h3 i hi
    exact ⟨(oth _ (by omega)).trans a0, (oth _ (by omega)).trans a1⟩
  · by_cases e : j = m
    · subst e
      rw [hv] at hu'
      injection hu' with hu'
      subst hu'
      exact World.cell?_setCell_same _ _ _ hu
    · rw [oth _ (by omega)]
      exact h4 j u' (by omega) hu'

theorem PartM.done {w : World} {g n : Nat} {xs : List ModR} (h : PartM w g xs n 2) : FilledM w g xs (n + 1) := by
  obtain ⟨⟨h1, h2, h3⟩, h4⟩ := h
  refine ⟨h1, h2, fun i hi => ?_⟩
  by_cases e : i = n
  · subst e
    exact ⟨by simpa using h4 0 _ (by omega) rfl, by simpa using h4 1 _ (by omega) rfl⟩
  · exact h3 i (by omega)

/-- The next cell may be written. -/
theorem PartM.cell {w : World} {g n m : Nat} {xs : List ModR} (h : PartM w g xs n m) (hn : n < xs.length) (j : Nat) (hj : j < 2) : (∃ u, w.cell? ⟨g, n * 2 + j, none⟩ = some u) ∧ w.frozen? ⟨g, n * 2 + j, none⟩ = false := by
  have := h.1.2.1 (n * 2 + j) (by omega)
  rw [Nat.zero_add] at this
  exact ⟨Option.isSome_iff_exists.1 this.1, this.2⟩

/-- Nothing but one block has turned. -/
structure KeptM (w w' : World) (g : Nat) : Prop where
  os : w'.os = w.os
  tape : w'.tape = w.tape
  output : w'.output = w.output
  size : w.heap.size ≤ w'.heap.size
  block : ∀ i, i < w.heap.size → i ≠ g → w'.heap[i]? = w.heap[i]?

theorem KeptM.refl (w : World) (g : Nat) : KeptM w w g := ⟨rfl, rfl, rfl, Nat.le_refl _, fun _ _ _ => rfl⟩
theorem KeptM.trans {w w1 w2 : World} {g : Nat} (h : KeptM w w1 g) (h' : KeptM w1 w2 g) : KeptM w w2 g :=
  ⟨h'.os.trans h.os, h'.tape.trans h.tape, h'.output.trans h.output, Nat.le_trans h.size h'.size, fun i hi a => (h'.block i (Nat.lt_of_lt_of_le hi h.size) a).trans (h.block i hi a)⟩
theorem KeptM.below {w w1 w2 : World} {g : Nat} (h : KeptM w w1 g) (h' : Below w1.heap.size w1 w2) : KeptM w w2 g := h.trans ⟨h'.os, h'.tape, h'.output, h'.size, fun i hi _ => h'.block i hi⟩
theorem KeptM.set {w w1 : World} {g : Nat} (h : KeptM w w1 g) (o : Nat) (v : Value) : KeptM w (w1.setCell ⟨g, o, none⟩ v) g :=
  h.trans ⟨rfl, rfl, rfl, by simp [World.setCell], fun _ _ hi => Below.heap_setCell _ _ _ _ hi⟩
theorem KeptM.grown {w w' : World} {g : Nat} (h : KeptM w w' g) : w.grownBy w' (some g) := ⟨h.os, h.tape, h.output, h.size, fun i hi e => h.block i hi (fun x => e (by rw [x]))⟩

set_option maxRecDepth 100000 in
set_option maxHeartbeats 4000000 in
theorem markMS_any (g cap k : Nat) (xs : List ModR) (w : World) (hm : xs.length ≤ 1048576) (h1 : 1 ≤ k) (hk : k ≤ 10000000) (hw : FilledM w g xs xs.length) :
    Calls Tryz.prog 10 #[.slice (some ⟨g, 0, none⟩) xs.length cap, .int .i64 (k : Int)] w fun e w' => (∃ k' : Nat, e = .returned (.int .i64 (k' : Int)) ∧ Hid (k' = k + 2 * xs.length)) ∧ Hid (FilledM w' g (mksM k xs.length) xs.length) ∧ Hid (KeptM w w' g) := by
  have hw0 := hide (hw.anew (mksM_len k xs.length).symm)
  clear hw
  go_enter Tryz.func10, Tryz.ntmps10
  go_wp2
  go_loopw [1, 5] (fun kk i wr => ∃ n c : Nat, n ≤ xs.length ∧ i = .int .i64 (n : Int) ∧ kk = .int .i64 (c : Int) ∧ 1 ≤ c ∧ c ≤ 100000000 ∧ Hid (c = k + 2 * n) ∧ Hid (FilledM wr g (mksM k xs.length) n) ∧ Hid (KeptM w wr g)) (fun _ i _ => xs.length - (intOf i).toNat)
  case atStart => exact ⟨0, k, Nat.zero_le _, rfl, rfl, h1, by omega, hide (by omega), hw0, hide (KeptM.refl _ _)⟩
  case round =>
    clear hw0
    obtain ⟨n, c, hn, rfl, rfl, hc1, hc2, hc, hf, hkp⟩ := hrel
    by_cases hlt : n < xs.length
    · have hln : n < (mksM k xs.length).length := by rw [mksM_len]; exact hlt
      have hat := hide (show atM (mksM k xs.length) n = mkM c by rw [mksM_at hlt, unhide hc])
      have hP0 := hide (PartM.start (unhide hf))
      have hgl := (unhide hf).1
      clear hf
      obtain ⟨⟨u0_0, e0_0⟩, f0_0⟩ := (unhide hP0).cell hln 0 (by omega)
      obtain ⟨⟨u0_1, e0_1⟩, f0_1⟩ := (unhide hP0).cell hln 1 (by omega)
      simp only [Nat.add_zero] at e0_0 f0_0
      go_wp2_with fail
      refine (markText_int _ (c + 0) _ (by omega) (by omega) (by omega)).mono ?_
      rintro e w1 ⟨rfl, hb1⟩
      have hP1 := hide ((unhide hP0).below hb1 (unhide hP0).1.1)
      have hK1 := hide ((unhide hkp).below hb1)
      clear hP0 hkp hb1 e0_0 f0_0 e0_1 f0_1
      obtain ⟨⟨u1_0, e1_0⟩, f1_0⟩ := (unhide hP1).cell hln 0 (by omega)
      obtain ⟨⟨u1_1, e1_1⟩, f1_1⟩ := (unhide hP1).cell hln 1 (by omega)
      simp only [Nat.add_zero] at e1_0 f1_0
      have hP1x := hide ((unhide hP1).set hln (by omega) (m := 0) (v := .string (MT c)) (by rw [unhide hat]; rfl))
      have hK1x := hide ((unhide hK1).set (n * 2 + 0) (.string (MT c)))
      clear hP1 hK1
      go_wp2_with fail
      refine (markText_int _ (c + 1) _ (by omega) (by omega) (by omega)).mono ?_
      rintro e w2 ⟨rfl, hb2⟩
      have hP2 := hide ((unhide hP1x).below hb2 (unhide hP1x).1.1)
      have hK2 := hide ((unhide hK1x).below hb2)
      clear hP1x hK1x hb2 e1_0 f1_0 e1_1 f1_1
      obtain ⟨⟨u2_0, e2_0⟩, f2_0⟩ := (unhide hP2).cell hln 0 (by omega)
      obtain ⟨⟨u2_1, e2_1⟩, f2_1⟩ := (unhide hP2).cell hln 1 (by omega)
      simp only [Nat.add_zero] at e2_0 f2_0
      have hP2x := hide ((unhide hP2).set hln (by omega) (m := 1) (v := .string (MT (c + 1))) (by rw [unhide hat]; rfl))
      have hK2x := hide ((unhide hK2).set (n * 2 + 1) (.string (MT (c + 1))))
      clear hP2 hK2
      go_wp2_with fail
      refine ⟨⟨n + 1, c + 2, by omega, by go_num, by go_num, by omega, ?_, hide ?_, hide (unhide hP2x).done, hK2x⟩, by simp [intOf]; omega⟩
      · have := unhide hc; omega
      · have := unhide hc; omega
    · have hnn : n = xs.length := by omega
      have HF : FilledM wr g (mksM k xs.length) xs.length := by
        have := unhide hf
        rw [hnn] at this
        exact this
      have HF' := hide HF
      have HC := hide (show c = k + 2 * xs.length by have := unhide hc; omega)
      clear HF hnn hc
      go_wp2
      go_ret
      exact ⟨⟨c, rfl, HC⟩, HF', hkp⟩
end Go.Proofs.YtokabkhnidlcnabGreatDoor

/-
  What Load answers: sizes.
-/
namespace Go.Proofs.YtokabkhnidlcnabGreatDoor
set_option maxRecDepth 100000
set_option linter.unusedSimpArgs false
set_option linter.unusedVariables false
open Go.RowKit

theorem B6_len {S : Nat → List OpR} {i : Nat} (h : ¬ B6 S i) : (S i).length ≤ 500 :=
  Nat.le_of_not_lt fun x => h ⟨1, Or.inl ⟨rfl, x⟩, by decide⟩

/-- What Load answers is small. -/
theorem LoadIs.small {ms : List ModR} {out : List (List OpR)} {c who : Int} (h : LoadIs ms out c who) : out.length ≤ 100 ∧ ∀ o ∈ out, o.length ≤ 500 := by
  have nil : ∀ {x y : Int}, out = [] ∧ c = x ∧ who = y → out.length ≤ 100 ∧ ∀ o ∈ out, o.length ≤ 500 := fun h => by rw [h.1]; exact ⟨by decide, fun o ho => by cases ho⟩
  rcases h with ⟨_, h⟩ | ⟨hn, ⟨_, _, _, _, h⟩ | ⟨_, h⟩⟩
  · exact nil h
  · exact nil h
  rcases h with ⟨_, _, _, _, h⟩ | ⟨_, h⟩
  · exact nil h
  obtain ⟨U, _, h⟩ := h
  rcases h with ⟨_, _, _, _, h⟩ | ⟨_, h⟩
  · exact nil h
  rcases h with ⟨_, _, _, _, h⟩ | ⟨_, h⟩
  · exact nil h
  obtain ⟨S, _, h⟩ := h
  rcases h with ⟨_, _, _, _, h⟩ | ⟨hs, h⟩
  · exact nil h
  obtain ⟨rfl, _⟩ := h
  refine ⟨by simpa using hn, fun o ho => ?_⟩
  obtain ⟨i, hi, rfl⟩ := List.mem_map.1 ho
  exact B6_len (hs i (List.mem_range.1 hi))

theorem UnF.body {s : ByteArray} : ∀ (ls : List (Nat × Nat)) (n : Nat) (us : List ByteArray) (os : List OpR) {u : List ByteArray} {o : List OpR} {b : ByteArray} {c l : Int}, UnF s ls n us os u o b c l → b.size ≤ s.size
  | [], n, us, os, _, _, _, _, _, h => by
    obtain ⟨rfl, rfl, rfl, rfl, rfl⟩ := h
    exact Nat.zero_le _
  | p :: r, n, us, os, u, o, b, c, l, h => by
    rcases h with ⟨_, rfl, rfl, rfl, rfl, rfl⟩ | ⟨_, ⟨us', os', hl, h⟩ | ⟨_, rfl, rfl, rfl, rfl, rfl⟩⟩
    · unfold bodyB
      split
      · rw [ByteArray.size_extract]; omega
      · exact Nat.zero_le _
    · exact UnF.body r _ _ _ h
    · exact Nat.zero_le _

theorem unit_body {s : ByteArray} {u : List ByteArray} {o : List OpR} {b : ByteArray} {c l : Int} (h : UnitIs s u o b c l) : b.size ≤ 20000 := by
  rcases h with ⟨_, rfl, rfl, rfl, rfl, rfl⟩ | ⟨h0, h⟩
  · exact Nat.zero_le _
  · exact Nat.le_trans (UnF.body _ _ _ _ h) h0

/-- Load with the code 0. -/
theorem LoadIs.good {ms : List ModR} {out : List (List OpR)} {who : Int} (h : LoadIs ms out 0 who) : ms.length ≤ 100 ∧ (∀ i, i < ms.length → ¬ B2 ms i) ∧ out.length = ms.length := by
  rcases h with ⟨_, _, h, _⟩ | ⟨hn, ⟨_, _, _, _, _, h, _⟩ | ⟨h2, h⟩⟩
  · cases h
  · cases h
  refine ⟨hn, h2, ?_⟩
  rcases h with ⟨_, _, _, _, _, h, _⟩ | ⟨_, h⟩
  · cases h
  obtain ⟨U, _, h⟩ := h
  rcases h with ⟨_, _, _, _, _, h, _⟩ | ⟨_, h⟩
  · cases h
  rcases h with ⟨_, _, _, _, _, h, _⟩ | ⟨_, h⟩
  · cases h
  obtain ⟨S, _, h⟩ := h
  rcases h with ⟨_, _, _, _, _, h, _⟩ | ⟨hs, h⟩
  · cases h
  obtain ⟨rfl, _⟩ := h
  simp
end Go.Proofs.YtokabkhnidlcnabGreatDoor
