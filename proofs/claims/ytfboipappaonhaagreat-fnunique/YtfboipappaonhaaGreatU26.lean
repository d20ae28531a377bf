import Derived.WalkMore
import Derived.Deep.LoopGhost
import Derived.Deep.RegionHeld
import Derived.BigQuiet
import Derived.Test.YtfboipappaonhaaGreatU02
import Derived.Test.YtfboipappaonhaaGreatU15
import Derived.Test.YtfboipappaonhaaGreatU17
import Derived.Test.YtfboipappaonhaaGreatU25

/-
  Walk: the program's scanner.
-/
namespace Go.Proofs.YtfboipappaonhaaGreat
set_option maxRecDepth 100000
open Go.RowKit Go.Maps

theorem kindOfByte_is (c : UInt8) (k : Int) (w : World) (h : (cls c : Int) = k) :
    Calls Tryz.prog 125 #[.int .u8 (c.toNat : Int)] w fun e w' => e = .returned (.int .i64 k) ∧ w' = w := by
  subst h
  exact kindOfByte_any c w

theorem Idx.of_blocks {w w' : World} {bo bs n : Nat} {xs : List OpR} (h : Idx w bo bs xs n) (h1 : w'.heap[bo]? = w.heap[bo]?) (h2 : w'.heap[bs]? = w.heap[bs]?) : Idx w' bo bs xs n := by
  obtain ⟨⟨D, ⟨es, clock, hb, F, hs, hD⟩, a2⟩, ⟨E, ⟨es', clock', hb', F', hs', hD'⟩, a4⟩, a5⟩ := h
  exact ⟨⟨D, ⟨es, clock, h1.trans hb, F, hs, hD⟩, a2⟩, ⟨E, ⟨es', clock', h2.trans hb', F', hs', hD'⟩, a4⟩, a5⟩

/-- What holds of a scanner that is at work. -/
structure Scan (w wr : World) (p bo bs L : Nat) (xs : List OpR) (s : ByteArray) (gap start : Nat) (acc : List TokR) (v : Value) : Prop where
  sc : Sc wr p bo bs L s gap start v
  own : wr.ownsRow p 97 3 v acc.length (cellsTk acc)
  ne : v.ownBlock ≠ some p
  idx : Idx wr bo bs xs xs.length
  bel : Below p w wr
  rd : Read xs s gap acc
  bl : Blanks s gap start
  le1 : gap ≤ start
  le2 : start ≤ s.size
  hbo : bo < p
  hbs : bs < p

theorem Scan.lt {w wr : World} {p bo bs L gap start : Nat} {xs : List OpR} {s : ByteArray} {acc : List TokR} {v : Value} (h : Scan w wr p bo bs L xs s gap start acc v) : p < wr.heap.size := block_lt_of_cell h.sc.c0

theorem Scan.below {w wr w' : World} {p bo bs L gap start : Nat} {xs : List OpR} {s : ByteArray} {acc : List TokR} {v : Value} (h : Scan w wr p bo bs L xs s gap start acc v) (hb : Below wr.heap.size wr w') : Scan w w' p bo bs L xs s gap start acc v := by
  have hp := h.lt
  obtain ⟨⟨c0, c1, c2, c3, c4, c5, c6, fz⟩, own, ne, idx, bel, rd, bl, le1, le2, hbo, hbs⟩ := h
  have e := fun o => hb.cell (p := ⟨p, o, none⟩) hp
  exact ⟨⟨(e _).trans c0, (e _).trans c1, (e _).trans c2, (e _).trans c3, (e _).trans c4, (e _).trans c5, (e _).trans c6, fun o => (hb.frozen (p := ⟨p, o, none⟩) hp).trans (fz o)⟩,
    own.kept (grown_bel hb none) (Classical.em _), ne, idx.kept hb, bel.trans (hb.mono (Nat.le_of_lt hp)), rd, bl, le1, le2, hbo, hbs⟩

theorem Scan.drew {w wr : World} {p bo bs L gap start : Nat} {xs : List OpR} {s : ByteArray} {acc : List TokR} {v : Value} (h : Scan w wr p bo bs L xs s gap start acc v) : Scan w wr.drew p bo bs L xs s gap start acc v :=
  h.below (Below.refl _ _).drew

theorem Scan.blank {w wr : World} {p bo bs L gap start : Nat} {xs : List OpR} {s : ByteArray} {acc : List TokR} {v : Value} (h : Scan w wr p bo bs L xs s gap start acc v) (hlt : start < s.size) (hc : cls (bt s start) = 1) (n : Int) (hn : n = ((start + 1 : Nat) : Int)) :
    Scan w (wr.setCell ⟨p, 5, none⟩ (.int .i64 n)) p bo bs L xs s gap (start + 1) acc v := by
  subst hn
  obtain ⟨⟨c0, c1, c2, c3, c4, c5, c6, fz⟩, own, ne, idx, bel, rd, bl, le1, le2, hbo, hbs⟩ := h
  have e : ∀ o, o ≠ 5 → (wr.setCell ⟨p, 5, none⟩ (.int .i64 ((start + 1 : Nat) : Int))).cell? ⟨p, o, none⟩ = wr.cell? ⟨p, o, none⟩ := fun o ho => World.cell?_setCell_other _ _ _ _ (by simp)
  refine ⟨⟨(e _ (by omega)).trans c0, (e _ (by omega)).trans c1, (e _ (by omega)).trans c2, (e _ (by omega)).trans c3, (e _ (by omega)).trans c4, World.cell?_setCell_same _ _ _ c5, (e _ (by omega)).trans c6, fun o => by rw [World.frozen?_setCell]; exact fz o⟩,
    own.kept (set1_grown _ p 5 _) (Or.inr ne), ne, idx.set (by omega) (by omega), bel.setCell (Nat.le_refl _) _, rd, fun q h1 h2 => ?_, by omega, by omega, hbo, hbs⟩
  by_cases e : q = start
  · subst e; exact hc
  · exact bl q h1 (by omega)

/-- Behind 'finish'. -/
theorem Scan.fin {w wr w' : World} {p bo bs L gap start q kind g cap : Nat} {xs : List OpR} {s : ByteArray} {acc : List TokR} {v : Value} (h : Scan w wr p bo bs L xs s gap start acc v)
    (hsc : Sc w' p bo bs L s q q (.slice (some ⟨g, 0, none⟩) (acc.length + 1) cap)) (hown : w'.ownsRow p 97 3 (.slice (some ⟨g, 0, none⟩) (acc.length + 1) cap) (acc.length + 1) (cellsTk (acc ++ [⟨(kind : Int), s.extract gap start, s.extract start q⟩])))
    (hg : g ≠ p) (hk : KeptS wr w' p v.ownBlock) (hlt : start < s.size) (hnb : cls (bt s start) ≠ 1) (htok : IsTok xs s start (q - start) kind) (hq : start ≤ q) :
    Scan w w' p bo bs L xs s q q (acc ++ [⟨(kind : Int), s.extract gap start, s.extract start q⟩]) (.slice (some ⟨g, 0, none⟩) (acc.length + 1) cap) := by
  have hp := h.lt
  have hrow : ∀ b : Nat, b < p → some b ≠ v.ownBlock := fun b hb e => by
    have := (h.own.lt b e.symm).1
    omega
  have hqe : start + (q - start) = q := by omega
  have hrd := h.rd.step h.le1 hlt h.bl hnb htok
  rw [hqe] at hrd
  refine ⟨hsc, ?_, by simp [Value.ownBlock]; exact hg, h.idx.of_blocks (hk.block bo (by have := h.hbo; omega) (by have := h.hbo; omega) (hrow _ h.hbo)) (hk.block bs (by have := h.hbs; omega) (by have := h.hbs; omega) (hrow _ h.hbs)), ?_, hrd, fun q' h1 h2 => by omega, Nat.le_refl _, ?_, h.hbo, h.hbs⟩
  · rw [List.length_append]
    exact hown
  · exact h.bel.trans ⟨hk.os, hk.tape, hk.output, hk.size, fun i hi => hk.block i (by omega) (by omega) (hrow i hi)⟩
  · have := htok.2.1
    omega

theorem finish_at (p bo bs L : Nat) (xs : List OpR) (s : ByteArray) (gap start : Nat) (v : Value) (kind q : Nat) (kz qz : Int) (acc : List TokR) (w W : World) (h : Scan w W p bo bs L xs s gap start acc v) (hs : s.size ≤ 20000) (h2 : start ≤ q) (hq : q ≤ s.size) (hkz : kz = (kind : Int)) (hqz : qz = (q : Int)) :
    Calls Tryz.prog 127 #[.pointer (some ⟨p, 0, none⟩), .int .i64 kz, .int .i64 qz] W fun e w' => e = .returned (.tuple #[]) ∧ ∃ g cap : Nat, Hid (Sc w' p bo bs L s q q (.slice (some ⟨g, 0, none⟩) (acc.length + 1) cap)) ∧ Hid (w'.ownsRow p 97 3 (.slice (some ⟨g, 0, none⟩) (acc.length + 1) cap) (acc.length + 1) (cellsTk (acc ++ [⟨(kind : Int), s.extract gap start, s.extract start q⟩]))) ∧ g ≠ p ∧ KeptS W w' p v.ownBlock := by
  subst hkz hqz
  have h1 := h.rd.1
  have h3 := h.le1
  have h4 := h.le2
  exact finish_any p bo bs L s gap start v kind q p acc W h.sc h.le1 h2 hq h.own h.ne (by omega) (Nat.le_of_lt h.lt)

/-- A token ends here. -/
theorem finish_tok (p bo bs L : Nat) (xs : List OpR) (s : ByteArray) (gap start : Nat) (v : Value) (kind q : Nat) (kz qz : Int) (acc : List TokR) (w W : World) (h : Scan w W p bo bs L xs s gap start acc v) (hs : s.size ≤ 20000) (h2 : start ≤ q) (hq : q ≤ s.size) (hkz : kz = (kind : Int)) (hqz : qz = (q : Int)) (hlt : start < s.size) (hnb : cls (bt s start) ≠ 1) (htok : IsTok xs s start (q - start) kind) :
    Calls Tryz.prog 127 #[.pointer (some ⟨p, 0, none⟩), .int .i64 kz, .int .i64 qz] W fun e w' => e = .returned (.tuple #[]) ∧ ∃ (acc' : List TokR) (v' : Value), Hid (Scan w w' p bo bs L xs s q q acc' v') := by
  refine (finish_at p bo bs L xs s gap start v kind q kz qz acc w W h hs h2 hq hkz hqz).mono ?_
  rintro e w' ⟨rfl, g, cap, a, b, c, d⟩
  exact ⟨rfl, _, _, hide (h.fin (unhide a) (unhide b) c d hlt hnb htok h2)⟩

theorem extract_none (s : ByteArray) (i : Nat) : s.extract i i = ⟨#[]⟩ := by
  apply ByteArray.ext
  rw [ByteArray.data_extract]
  simp
  omega

theorem sub_eq {s : ByteArray} {i q : Nat} (h : i ≤ q) : s.extract i q = sub s i (q - i) := by
  unfold sub
  rw [show i + (q - i) = q by omega]

theorem wordKind_2 (w : World) : Calls Tryz.prog 128 #[.int .i64 2] w fun e w' => e = .returned (.int .i64 1) ∧ w' = w := by
  go_enter Tryz.func128, Tryz.ntmps128
  go_wp2
  go_ret
  exact ⟨rfl, rfl⟩
theorem wordKind_3 (w : World) : Calls Tryz.prog 128 #[.int .i64 3] w fun e w' => e = .returned (.int .i64 2) ∧ w' = w := by
  go_enter Tryz.func128, Tryz.ntmps128
  go_wp2
  go_ret
  exact ⟨rfl, rfl⟩

set_option maxHeartbeats 8000000 in
theorem scan_any (p bo bs L : Nat) (xs : List OpR) (s : ByteArray) (w : World) (h : Scan w w p bo bs L xs s 0 0 [] (.slice none 0 0)) (hs : s.size ≤ 20000) (hL : L ≤ 16) (hLx : ∀ j, j < xs.length → (atO xs j).s.size ≤ L) (hv : SignTexts xs) (hk : Kinds xs) :
    Calls Tryz.prog 79 #[.pointer (some ⟨p, 0, none⟩)] w fun e w' => e = .returned (.tuple #[]) ∧ ∃ (g cap : Nat) (us : List TokR), Hid (w'.cell? ⟨p, 6, none⟩ = some (.slice (some ⟨g, 0, none⟩) us.length cap)) ∧ (p ≤ g ∧ us.length ≤ cap ∧ cap ≤ maxLen) ∧ Hid (FilledT w' g us us.length) ∧ Hid (Lexed xs s 0 us) ∧ Below p w w' := by
  have HS := hide h
  have HLX := hide hLx
  have HV := hide hv
  have HK := hide hk
  clear h hLx hv hk
  go_enter Tryz.func79, Tryz.ntmps79
  go_wp2_with fail
  go_step3
  go_wp2_with fail
  go_step3
  go_wp2_with fail
  go_loopg [2] (s.size) (fun k _ wr => ∃ (gap start : Nat) (acc : List TokR) (v : Value), k = s.size - start ∧ Hid (Scan w wr p bo bs L xs s gap start acc v))
  case atStart => exact ⟨0, 0, [], _, by omega, HS⟩
  case round =>
    clear HS
    obtain ⟨gap, start, acc, v, hgk, hsn⟩ := hrel
    have c3 := (unhide hsn).sc.c3
    have c5 := (unhide hsn).sc.c5
    have le2 := (unhide hsn).le2
    by_cases hlt : start < s.size
    · have hltI : (start : Int) < (s.size : Int) := by omega
      go_wp2_with fail
      go_region_held (fun w' => w'.cell? ⟨p, 3, none⟩ = some (.string s) ∧ w'.cell? ⟨p, 5, none⟩ = some (.int .i64 (start : Int))) (go_keep) (fail)
      go_wp2_with fail
      have hc7 := cls_lt (bt s start)
      have hc : cls (bt s start) = 1 ∨ cls (bt s start) = 2 ∨ cls (bt s start) = 3 ∨ cls (bt s start) = 6 ∨ cls (bt s start) = 4 ∨ cls (bt s start) = 5 ∨ cls (bt s start) = 0 := by omega
      have hfz := (unhide hsn).sc.fz 5
      have hst0 : (0 : Int) ≤ (start : Int) := by omega
      clear hc7
      rcases hc with hc | hc | hc | hc | hc | hc | hc
      · have hkb : (cls s[start] : Int) = 1 := by rw [bt_get hlt, hc]; rfl
        have HC := hide hc
        clear hc
        go_region_held (fun w' => w'.cell? ⟨p, 3, none⟩ = some (.string s) ∧ w'.cell? ⟨p, 5, none⟩ = some (.int .i64 (start : Int))) (go_keep) (first | (go_at_call 125; refine (kindOfByte_is _ 1 _ hkb).mono ?_; rintro e w2 ⟨rfl, hx⟩; obtain rfl := hx.symm))
        go_wp2_with fail
        go_roundg (s.size - (start + 1))
        case measure => omega
        case rel => exact ⟨gap, start + 1, acc, v, rfl, hide ((unhide hsn).drew.drew.blank hlt (unhide HC) _ (by omega))⟩
      · have hkb : (cls s[start] : Int) = 2 := by rw [bt_get hlt, hc]; rfl
        have HC := hide hc
        have HSN := hide (unhide hsn).drew.drew
        clear hc hsn
        go_region_held (fun w' => w'.cell? ⟨p, 3, none⟩ = some (.string s) ∧ w'.cell? ⟨p, 5, none⟩ = some (.int .i64 (start : Int))) (go_keep) (first | (go_at_call 125; refine (kindOfByte_is _ 2 _ hkb).mono ?_; rintro e w2 ⟨rfl, hx⟩; obtain rfl := hx.symm))
        go_wp2_with fail
        go_loop [4] (fun ev => ∃ q : Nat, start + 1 ≤ q ∧ q ≤ s.size ∧ ev = .int .i64 (q : Int) ∧ Hid (∀ j, start ≤ j → j < q → cls (bt s j) = 2)) (fun ev => s.size - (intOf ev).toNat)
        case atStart =>
          refine ⟨start + 1, Nat.le_refl _, by omega, by go_num, hide (fun j h1 h2 => ?_)⟩
          have : j = start := by omega
          subst this
          exact unhide HC
        case round =>
          obtain ⟨q, hq1, hq2, rfl, hn⟩ := hrel
          go_wp2_with fail
          refine (goesOn_any p bo bs L s gap start v 2 q _ (unhide HSN).sc hq2 (by omega)).mono ?_
          rintro e w3 ⟨⟨y, rfl, hy⟩, hx⟩
          obtain rfl := hx.symm
          have HY := hide hy
          clear hy
          cases y
          · have HT := hide (show IsTok xs s start (q - start) 1 by
              have no : ¬ (q < s.size ∧ (cls (bt s q) = 2 ∨ (cls (bt s q) = 3 ∧ 2 = 3))) := fun hh => Bool.false_ne_true ((unhide HY).2 hh)
              have hqe : start + (q - start) = q := by omega
              exact ⟨by omega, by omega, Or.inl ⟨unhide HC, rfl, fun j hj => (unhide hn) (start + j) (by omega) (by omega), fun hx hd => no ⟨by omega, Or.inl (by rw [hqe] at hd; exact hd)⟩⟩⟩)
            go_wp2_with (first | (go_at_call 128; refine (wordKind_2 _).mono ?_; rintro e w3 ⟨rfl, hx⟩; obtain rfl := hx.symm))
            refine (finish_tok p bo bs L xs s gap start v 1 q _ _ acc w _ (unhide HSN) hs (by omega) hq2 rfl rfl hlt (by have := unhide HC; omega) (unhide HT)).mono ?_
            rintro e w4 ⟨rfl, acc', v', hsn'⟩
            go_wp2_with fail
            go_roundg (s.size - q)
            case measure => omega
            case rel => exact ⟨q, q, acc', v', rfl, hsn'⟩
          · have HY' := hide (show q < s.size ∧ ∀ j, start ≤ j → j < q + 1 → cls (bt s j) = 2 from by
              have hy := (unhide HY).1 rfl
              refine ⟨hy.1, fun j h1 h2 => ?_⟩
              by_cases e : j = q
              · subst e
                exact hy.2.elim (fun x => x) (fun x => absurd x.2 (by decide))
              · exact (unhide hn) j h1 (by omega))
            have hqlt := (unhide HY').1
            go_wp2_with fail
            exact ⟨⟨q + 1, by omega, by omega, by go_num, hide (unhide HY').2⟩, by simp [intOf]; omega⟩
      · have hkb : (cls s[start] : Int) = 3 := by rw [bt_get hlt, hc]; rfl
        have HC := hide hc
        have HSN := hide (unhide hsn).drew.drew
        clear hc hsn
        go_region_held (fun w' => w'.cell? ⟨p, 3, none⟩ = some (.string s) ∧ w'.cell? ⟨p, 5, none⟩ = some (.int .i64 (start : Int))) (go_keep) (first | (go_at_call 125; refine (kindOfByte_is _ 3 _ hkb).mono ?_; rintro e w2 ⟨rfl, hx⟩; obtain rfl := hx.symm))
        go_wp2_with fail
        go_loop [4] (fun ev => ∃ q : Nat, start + 1 ≤ q ∧ q ≤ s.size ∧ ev = .int .i64 (q : Int) ∧ Hid (∀ j, start ≤ j → j < q → (cls (bt s j) = 2 ∨ cls (bt s j) = 3))) (fun ev => s.size - (intOf ev).toNat)
        case atStart =>
          refine ⟨start + 1, Nat.le_refl _, by omega, by go_num, hide (fun j h1 h2 => ?_)⟩
          have : j = start := by omega
          subst this
          exact Or.inr (unhide HC)
        case round =>
          obtain ⟨q, hq1, hq2, rfl, hn⟩ := hrel
          go_wp2_with fail
          refine (goesOn_any p bo bs L s gap start v 3 q _ (unhide HSN).sc hq2 (by omega)).mono ?_
          rintro e w3 ⟨⟨y, rfl, hy⟩, hx⟩
          obtain rfl := hx.symm
          have HY := hide hy
          clear hy
          cases y
          · have HT := hide (show IsTok xs s start (q - start) 2 by
              have no : ¬ (q < s.size ∧ (cls (bt s q) = 2 ∨ (cls (bt s q) = 3 ∧ 3 = 3))) := fun hh => Bool.false_ne_true ((unhide HY).2 hh)
              have hqe : start + (q - start) = q := by omega
              exact ⟨by omega, by omega, Or.inr (Or.inl ⟨unhide HC, rfl, fun j hj => (unhide hn) (start + j) (by omega) (by omega), fun hx hd => no ⟨by omega, by rw [hqe] at hd; exact hd.elim Or.inl (fun x => Or.inr ⟨x, rfl⟩)⟩⟩)⟩)
            go_wp2_with (first | (go_at_call 128; refine (wordKind_3 _).mono ?_; rintro e w3 ⟨rfl, hx⟩; obtain rfl := hx.symm))
            refine (finish_tok p bo bs L xs s gap start v 2 q _ _ acc w _ (unhide HSN) hs (by omega) hq2 rfl rfl hlt (by have := unhide HC; omega) (unhide HT)).mono ?_
            rintro e w4 ⟨rfl, acc', v', hsn'⟩
            go_wp2_with fail
            go_roundg (s.size - q)
            case measure => omega
            case rel => exact ⟨q, q, acc', v', rfl, hsn'⟩
          · have HY' := hide (show q < s.size ∧ ∀ j, start ≤ j → j < q + 1 → (cls (bt s j) = 2 ∨ cls (bt s j) = 3) from by
              have hy := (unhide HY).1 rfl
              refine ⟨hy.1, fun j h1 h2 => ?_⟩
              by_cases e : j = q
              · subst e
                exact hy.2.elim (fun x => Or.inl x) (fun x => Or.inr x.1)
              · exact (unhide hn) j h1 (by omega))
            have hqlt := (unhide HY').1
            go_wp2_with fail
            exact ⟨⟨q + 1, by omega, by omega, by go_num, hide (unhide HY').2⟩, by simp [intOf]; omega⟩
      · have hkb : (cls s[start] : Int) = 6 := by rw [bt_get hlt, hc]; rfl
        have HC := hide hc
        have HSN := hide (unhide hsn).drew.drew
        have c2 := (unhide hsn).sc.c2
        clear hc hsn
        go_region_held (fun w' => w'.cell? ⟨p, 3, none⟩ = some (.string s) ∧ w'.cell? ⟨p, 5, none⟩ = some (.int .i64 (start : Int))) (go_keep) (first | (go_at_call 125; refine (kindOfByte_is _ 6 _ hkb).mono ?_; rintro e w2 ⟨rfl, hx⟩; obtain rfl := hx.symm))
        have hwr : IntKind.i64.wrap ((start : Int) + (L : Int)) = (start : Int) + (L : Int) := by rw [IntKind.wrap_i64]; omega
        have hmin : min ((start : Int) + (L : Int)) (s.size : Int) = ((min (start + L) s.size : Nat) : Int) := by omega
        go_wp2_with fail
        go_region_held (fun w' => w'.cell? ⟨p, 2, none⟩ = some (.int .i64 (L : Int)) ∧ w'.cell? ⟨p, 3, none⟩ = some (.string s) ∧ w'.cell? ⟨p, 5, none⟩ = some (.int .i64 (start : Int))) (go_keep) (fail)
        go_wp2_with fail
        have HS2 := hide (unhide HSN).drew
        clear HSN c2
        go_loopw [5] (fun ev wq => ∃ q : Nat, start ≤ q ∧ q ≤ s.size ∧ ev = .int .i64 (q : Int) ∧ Hid (∀ m, q < start + m → start + m ≤ s.size → ¬ opT xs (sub s start m)) ∧ Hid (Scan w wq p bo bs L xs s gap start acc v)) (fun ev _ => (intOf ev).toNat)
        case atStart =>
          refine ⟨min (start + L) s.size, by omega, by omega, rfl, hide (fun m h1 h2 ho => ?_), HS2⟩
          obtain ⟨j, hj, e⟩ := ho
          have h3 := (unhide HLX) j hj
          rw [e, sub_size h2] at h3
          omega
        case round =>
          clear HS2
          obtain ⟨q, hq1, hq2, rfl, hn, hsn⟩ := hrel
          have d0 := (unhide hsn).sc.c0
          have d1 := (unhide hsn).sc.c1
          have d3 := (unhide hsn).sc.c3
          have d5 := (unhide hsn).sc.c5
          by_cases hqs : start < q
          · have hqsI : (start : Int) < (q : Int) := by omega
            have hs1 : (start : Int) ≤ (q : Int) := by omega
            have hs2 : (q : Int) ≤ (s.size : Int) := by omega
            have hxe := hide (sub_eq (s := s) hq1)
            have hzp := (unhide hsn).lt
            go_wp2_with fail
            go_region_held (fun w' => w'.cell? ⟨p, 0, none⟩ = some (.map (some bo)) ∧ w'.cell? ⟨p, 1, none⟩ = some (.map (some bs)) ∧ w'.cell? ⟨p, 3, none⟩ = some (.string s) ∧ w'.cell? ⟨p, 5, none⟩ = some (.int .i64 (start : Int))) (go_keep) (first | (go_at_call 129; refine (hasText_any bo bs xs.length xs (s.extract start q) _ (unhide hsn).drew.idx rfl (unhide HK) (by rw [unhide hxe, sub_size (by omega)]; unfold maxLen; omega)).mono ?_; rintro e w5 ⟨⟨y, rfl, hy⟩, hb5⟩; have HY := hide hy; have HS5 := hide ((unhide hsn).drew.below hb5); have e0 := (unhide HS5).sc.c0; have e1 := (unhide HS5).sc.c1; have e3 := (unhide HS5).sc.c3; have e5 := (unhide HS5).sc.c5; clear hy hb5))
            cases y
            · have HN := hide (show ∀ m, q - 1 < start + m → start + m ≤ s.size → ¬ opT xs (sub s start m) from fun m h1 h2 ho => by
                by_cases e : q < start + m
                · exact (unhide hn) m e h2 ho
                · have e2 : m = q - start := by omega
                  subst e2
                  rw [← unhide hxe] at ho
                  exact Bool.false_ne_true ((unhide HY).2 ho))
              go_wp2_with fail
              exact ⟨⟨q - 1, by omega, by omega, by first | (go_num; done) | (congr 1; omega), HN, HS5⟩, by simp [intOf]; omega⟩
            · have HT := hide (show IsTok xs s start (q - start) 3 by
                refine ⟨by omega, by omega, Or.inr (Or.inr (Or.inr (Or.inr (Or.inl ⟨unhide HC, Or.inl ⟨rfl, ?_, fun m h1 h2 => (unhide hn) m (by omega) h2⟩⟩))))⟩
                rw [← unhide hxe]
                exact (unhide HY).1 rfl)
              go_wp2_with fail
              refine (finish_tok p bo bs L xs s gap start v 3 q _ _ acc w _ (unhide HS5) hs (by omega) hq2 rfl rfl hlt (by have := unhide HC; omega) (unhide HT)).mono ?_
              rintro e w6 ⟨rfl, acc', v', hsn'⟩
              go_wp2_with fail
              go_roundg (s.size - q)
              case measure => omega
              case rel => exact ⟨q, q, acc', v', rfl, hsn'⟩
          · have HT := hide (show IsTok xs s start (start + 1 - start) 6 by
              rw [show start + 1 - start = 1 by omega]
              exact ⟨Nat.le_refl _, by omega, Or.inr (Or.inr (Or.inr (Or.inr (Or.inl ⟨unhide HC, Or.inr ⟨rfl, rfl, fun m h1 h2 => (unhide hn) m (by omega) h2⟩⟩))))⟩)
            have hqsI : ¬ (start : Int) < (q : Int) := by omega
            go_wp2_with fail
            refine (finish_tok p bo bs L xs s gap start v 6 (start + 1) _ _ acc w _ (unhide hsn) hs (by omega) (by omega) rfl (by omega) hlt (by have := unhide HC; omega) (unhide HT)).mono ?_
            rintro e w6 ⟨rfl, acc', v', hsn'⟩
            go_wp2_with fail
            go_roundg (s.size - (start + 1))
            case measure => omega
            case rel => exact ⟨start + 1, start + 1, acc', v', rfl, hsn'⟩
      · have hkb : (cls s[start] : Int) = 4 := by rw [bt_get hlt, hc]; rfl
        have HT := hide (show IsTok xs s start (start + 1 - start) 4 by rw [show start + 1 - start = 1 by omega]; exact ⟨Nat.le_refl _, by omega, Or.inr (Or.inr (Or.inl ⟨hc, rfl, rfl⟩))⟩)
        have HC := hide hc
        have HSN := hide (unhide hsn).drew.drew
        clear hc hsn
        go_region_held (fun w' => w'.cell? ⟨p, 3, none⟩ = some (.string s) ∧ w'.cell? ⟨p, 5, none⟩ = some (.int .i64 (start : Int))) (go_keep) (first | (go_at_call 125; refine (kindOfByte_is _ 4 _ hkb).mono ?_; rintro e w2 ⟨rfl, hx⟩; obtain rfl := hx.symm))
        go_wp2_with fail
        refine (finish_tok p bo bs L xs s gap start v 4 (start + 1) _ _ acc w _ (unhide HSN) hs (by omega) (by omega) rfl (by omega) hlt (by have := unhide HC; omega) (unhide HT)).mono ?_
        rintro e w4 ⟨rfl, acc', v', hsn'⟩
        go_wp2_with fail
        go_roundg (s.size - (start + 1))
        case measure => omega
        case rel => exact ⟨start + 1, start + 1, acc', v', rfl, hsn'⟩
      · have hkb : (cls s[start] : Int) = 5 := by rw [bt_get hlt, hc]; rfl
        have HT := hide (show IsTok xs s start (start + 1 - start) 5 by rw [show start + 1 - start = 1 by omega]; exact ⟨Nat.le_refl _, by omega, Or.inr (Or.inr (Or.inr (Or.inl ⟨hc, rfl, rfl⟩)))⟩)
        have HC := hide hc
        have HSN := hide (unhide hsn).drew.drew
        clear hc hsn
        go_region_held (fun w' => w'.cell? ⟨p, 3, none⟩ = some (.string s) ∧ w'.cell? ⟨p, 5, none⟩ = some (.int .i64 (start : Int))) (go_keep) (first | (go_at_call 125; refine (kindOfByte_is _ 5 _ hkb).mono ?_; rintro e w2 ⟨rfl, hx⟩; obtain rfl := hx.symm))
        go_wp2_with fail
        refine (finish_tok p bo bs L xs s gap start v 5 (start + 1) _ _ acc w _ (unhide HSN) hs (by omega) (by omega) rfl (by omega) hlt (by have := unhide HC; omega) (unhide HT)).mono ?_
        rintro e w4 ⟨rfl, acc', v', hsn'⟩
        go_wp2_with fail
        go_roundg (s.size - (start + 1))
        case measure => omega
        case rel => exact ⟨start + 1, start + 1, acc', v', rfl, hsn'⟩
      · have hkb : (cls s[start] : Int) = 0 := by rw [bt_get hlt, hc]; rfl
        have HT := hide (show IsTok xs s start (start + 1 - start) 6 by rw [show start + 1 - start = 1 by omega]; exact ⟨Nat.le_refl _, by omega, Or.inr (Or.inr (Or.inr (Or.inr (Or.inr ⟨hc, rfl, rfl⟩))))⟩)
        have HC := hide hc
        have HSN := hide (unhide hsn).drew.drew
        clear hc hsn
        go_region_held (fun w' => w'.cell? ⟨p, 3, none⟩ = some (.string s) ∧ w'.cell? ⟨p, 5, none⟩ = some (.int .i64 (start : Int))) (go_keep) (first | (go_at_call 125; refine (kindOfByte_is _ 0 _ hkb).mono ?_; rintro e w2 ⟨rfl, hx⟩; obtain rfl := hx.symm))
        go_wp2_with fail
        refine (finish_tok p bo bs L xs s gap start v 6 (start + 1) _ _ acc w _ (unhide HSN) hs (by omega) (by omega) rfl (by omega) hlt (by have := unhide HC; omega) (unhide HT)).mono ?_
        rintro e w4 ⟨rfl, acc', v', hsn'⟩
        go_wp2_with fail
        go_roundg (s.size - (start + 1))
        case measure => omega
        case rel => exact ⟨start + 1, start + 1, acc', v', rfl, hsn'⟩
    · go_wp2_with fail
      go_region_held (fun w' => w'.cell? ⟨p, 3, none⟩ = some (.string s) ∧ w'.cell? ⟨p, 5, none⟩ = some (.int .i64 (start : Int))) (go_keep) (fail)
      go_wp2_with fail
      have HSN := hide (unhide hsn).drew
      have HE := hide (show start = s.size by omega)
      clear hsn
      refine (finish_at p bo bs L xs s gap start v 7 start _ _ acc w _ (unhide HSN) hs (Nat.le_refl _) le2 rfl rfl).mono ?_
      rintro e w4 ⟨rfl, g, cap, hsc, hown, hgp, hkp⟩
      have HKP := hide hkp
      clear hkp
      go_wp2_with fail
      rw [Exit.noGoto_normal]
      go_end0
      refine ⟨rfl, g, cap, acc ++ [⟨7, s.extract gap start, s.extract start start⟩], hide ?_, ?_, hide ?_, hide ?_, ?_⟩
      · rw [List.length_append]; exact (unhide hsc).c6
      · refine ⟨((unhide hown).lt g rfl).1, ?_⟩
        rw [List.length_append]
        obtain ⟨_, ⟨h, _⟩ | ⟨g', cap', cur, h, _, _, h1, h2, _⟩⟩ := unhide hown
        · cases h
        · injection h with _ _ h
          subst h
          exact ⟨h1, h2⟩
      · have ho : w4.ownsRow p 97 3 (.slice (some ⟨g, 0, none⟩) (acc ++ [(⟨7, s.extract gap start, s.extract start start⟩ : TokR)]).length cap) (acc ++ [(⟨7, s.extract gap start, s.extract start start⟩ : TokR)]).length (cellsTk (acc ++ [(⟨7, s.extract gap start, s.extract start start⟩ : TokR)])) := by
          rw [List.length_append]; exact unhide hown
        exact (owns_filledT ho).2
      · have h1 := (unhide HSN)
        have h2 := h1.rd.done (by have := h1.le1; have := h1.le2; omega) (unhide HE ▸ h1.bl)
        rw [extract_none, unhide HE]
        exact h2
      · have h1 := (unhide HSN)
        refine h1.bel.trans ⟨(unhide HKP).os, (unhide HKP).tape, (unhide HKP).output, (unhide HKP).size, fun i hi => (unhide HKP).block i (by have := h1.lt; omega) (by omega) (fun e => ?_)⟩
        have := (h1.own.lt i e.symm).1
        omega
end Go.Proofs.YtfboipappaonhaaGreat

/-
  Walk: the program's Roles.
-/
namespace Go.Proofs.YtfboipappaonhaaGreat
set_option maxRecDepth 100000
set_option linter.unusedSimpArgs false
open Go.RowKit Go.Maps

theorem infoInt : (Tryz.prog.info? 3).map (fun i => (i.zero, i.size, i.bytes)) = some (some (.int .i64 0), 1, 8) := by kernel_rfl

theorem new_newsI (w : World) (v : Int) : ∀ j u, (cellsI [v])[j]? = some u → (w.alloc (.cells #[.int .i64 v] 3)).cell? ((⟨w.heap.size, 0, none⟩ : Addr).add j) = some u := by
  intro j u hj
  rw [Addr.add_mid]
  have := World.rangeAt_of_block (w := w.alloc (.cells #[.int .i64 v] 3)) (b := w.heap.size) (heap_alloc_new w _) 0 1
  exact this j u (by simpa [cellsI] using hj)

theorem opTo_le (ts : List TokR) : ∀ k, opTo ts k ≤ k
  | 0 => Nat.le_refl _
  | k + 1 => by
    have := opTo_le ts k
    simp only [opTo, opOf]
    split
    · omega
    · split <;> omega

theorem role_range (xs : List OpR) (ts : List TokR) (k : Nat) : roleTo xs ts k = -1 ∨ 0 ≤ roleTo xs ts k := by
  unfold roleTo roleOf
  (repeat' split) <;> omega

set_option maxHeartbeats 4000000 in
theorem rolesM_any (bo bs b' off' cap' : Nat) (xs : List OpR) (ts : List TokR) (w : World) (hm : ts.length ≤ 1048576) (hidx : Idx w bo bs xs xs.length) (hc : IsCode xs 0) (hw' : OpsT w b' off' ts) (hst : SizedT ts) (hB' : b' < w.heap.size) :
    Calls Tryz.prog 81 #[.agg #[.map (some bo), .map (some bs)], .slice (some ⟨b', off', none⟩) ts.length cap'] w fun e w' => (∃ (a : Option Addr) (c : Nat) (us : List Int) (v : Int), e = .returned (.tuple #[.slice a us.length c, .int .i64 v]) ∧ OwnedI w' w.heap.size a us ∧ RolesIs xs (IsCode xs 0) ts us v) ∧ Below w.heap.size w w' := by
  have HT := hide hw'
  have HST := hide hst
  have HC := hide hc
  have HID := hide hidx
  clear hw' hst hc hidx
  have hmk : ∀ W : World, (Instr.makeSlice 79 (.int .i64 0) (.int .i64 (ts.length : Int))).run Tryz.prog W = .ok (.slice (some ⟨W.heap.size, 0, none⟩) 0 ts.length) (W.alloc (.cells (madeCells #[.int .i64 0] ts.length) 3)) := by
    obtain ⟨inf, hi, hz⟩ := Option.map_eq_some_iff.1 infoInt
    simp only [Prod.mk.injEq] at hz
    obtain ⟨hz, hsz, hby⟩ := hz
    intro W
    have := run_make (P := Tryz.prog) W 79 3 inf _ Tryz.underlying79 hi hz .i64 .i64 0 ts.length (by omega) (by omega) (by rw [hby]; omega) (by omega)
    simpa [hsz, Value.cells] using this
  have hbo : bo < w.heap.size := by obtain ⟨D, hD, _⟩ := (unhide HID).ops; exact hD.lt
  have hbs : bs < w.heap.size := by obtain ⟨D, hD, _⟩ := (unhide HID).srts; exact hD.lt
  obtain ⟨i0, hi0, hz0, hz1, hz2⟩ := info_parts infoInt
  have HI0 := hide hi0
  have HZ0 := hide (And.intro hz0 (And.intro hz1 hz2))
  clear hi0 hz0 hz1 hz2
  go_enter Tryz.func81, Tryz.ntmps81
  go_wp2_with fail
  clear hmk
  obtain ⟨W0, hW0⟩ : ∃ W0, W0 = ((w.alloc (.cells #[.map (some bo), .map (some bs)] 69)).alloc (.cells #[.map (some bo), .map (some bs), .bool false, .int .i64 0] 205)).alloc (.cells (madeCells #[.int .i64 0] ts.length) 3) := ⟨_, rfl⟩
  have HF0 := hide (show Ft W0 (w.heap.size + 1) bo bs false 0 by
    rw [hW0]
    refine ⟨?_, ?_, ?_, ?_, fun o => ?_⟩ <;> simp [go_sem])
  have HX0 := hide (show Idx W0 bo bs xs xs.length by
    rw [hW0]
    exact (((unhide HID).kept (below1 _ _)).kept (below1 _ _)).kept (below1 _ _))
  have HO0 := hide (show W0.ownsRow (w.heap.size + 2) 3 1 (.slice (some ⟨w.heap.size + 1 + 1, 0, none⟩) 0 ts.length) 0 (cellsI []) by
    rw [hW0]
    have h0 := World.ownsRow_made (base := w.heap.size + 2) (e := 3) (size := 1) ((w.alloc (.cells #[.map (some bo), .map (some bs)] 69)).alloc (.cells #[.map (some bo), .map (some bs), .bool false, .int .i64 0] 205)) (madeCells #[.int .i64 0] ts.length) ts.length (by simp) (by unfold maxLen; omega) (by rw [size_madeCells]; omega)
    simpa [cellsI] using h0)
  have HB0 := hide (show Below w.heap.size w W0 by
    rw [hW0]
    exact ((below1 _ _).alloc (by simp) _).alloc (by simp; omega) _)
  rw [← hW0]
  clear hW0 HID
  go_loopw [7, 19] (fun rv iv wr => ∃ (k g c : Nat), k ≤ ts.length ∧ iv = .int .i64 (k : Int) ∧ rv = .slice (some ⟨g, 0, none⟩) k c ∧ Hid (FitTo xs ts k) ∧ Hid (Ft wr (w.heap.size + 1) bo bs (bhTo xs ts k) (opTo ts k)) ∧ Hid (Idx wr bo bs xs xs.length) ∧ Hid (wr.ownsRow (w.heap.size + 2) 3 1 (.slice (some ⟨g, 0, none⟩) k c) k (cellsI (rolesTo xs ts k))) ∧ Hid (Below w.heap.size w wr) ∧ Hid (k = ts.length → ¬ (0 < ts.length ∧ (atT ts (ts.length - 1)).k = 7))) (fun _ iv _ => ts.length - (intOf iv).toNat)
  case atStart => exact ⟨0, w.heap.size + 1 + 1, ts.length, Nat.zero_le _, rfl, rfl, hide (fun i hi => by omega), HF0, HX0, HO0, HB0, hide (fun h => by omega)⟩
  case round =>
    clear HF0 HX0 HO0 HB0
    obtain ⟨k, g, c, hk, rfl, rfl, hfit, hft, hix, hown, hbl, hend⟩ := hrel
    by_cases hlt : k < ts.length
    · obtain ⟨a0, a1, a2⟩ := ((unhide HT) k hlt).below (unhide hbl) hB'
      have hzp := block_lt_of_cell (unhide hft).c0
      have HF1 := hide ((unhide hft).kept (below1 wr (.cells #[.int .i64 (atT ts k).k, .string (atT ts k).g, .string (atT ts k).t] 97)))
      have HX1 := hide ((unhide hix).kept (below1 wr (.cells #[.int .i64 (atT ts k).k, .string (atT ts k).g, .string (atT ts k).t] 97)))
      have hop : opTo ts k ≤ 1048576 := by
        have := opTo_le ts k
        omega
      have hgl := (unhide hown).lt g rfl
      have hlast : (((k : Int) == (ts.length : Int) - 1)) = decide (k + 1 = ts.length) := by
        rw [Bool.eq_iff_iff]; simp; omega
      go_wp2_with fail
      refine (step_any (w.heap.size + 1) bo bs (opTo ts k) (bhTo xs ts k) (decide (k + 1 = ts.length)) xs (atT ts k) _ (unhide HF1) (unhide HX1) ((unhide HST) k hlt).2 hop).mono ?_
      rintro e w2 ⟨rfl, hs2, hk2⟩
      have HR := hide (show roleOf xs (decide (k + 1 = ts.length)) (atT ts k) (bhTo xs ts k) (opTo ts k) = roleTo xs ts k from rfl)
      rw [unhide HR] at hs2 ⊢
      have hrng := role_range xs ts k
      have zr : wr.heap.size < w2.heap.size := by have := hk2.size; simp at this; omega
      have q0 : w2.cell? ⟨wr.heap.size, 0, none⟩ = some (.int .i64 (atT ts k).k) := by rw [hk2.cell (by simp) (by omega)]; simp [go_sem]
      have HX2 := hide ((unhide HX1).of_blocks (hk2.block bo (by simp; omega) (by omega)) (hk2.block bs (by simp; omega) (by omega)))
      have HO2 := hide ((((unhide hown).alloc (.cells #[.int .i64 (atT ts k).k, .string (atT ts k).g, .string (atT ts k).t] 97))).kept (grown_kept1 hk2) (Or.inr (by simp [Value.ownBlock]; omega)))
      have HB2 := hide (((unhide hbl).alloc (unhide hbl).size (.cells #[.int .i64 (atT ts k).k, .string (atT ts k).g, .string (atT ts k).t] 97)).trans (hk2.below (by have := (unhide hbl).size; simp; omega) (by omega)))
      have HS2 := hide hs2
      have hz2 := (unhide HB2).size
      clear hs2 hk2 hown hbl HX1 HF1 hix hft
      by_cases hr : roleTo xs ts k = -1
      · have HRR := hide hr
        have hr' : (roleTo xs ts k == -1) = true := by simpa using hr
        clear hr hrng
        go_wp2_with fail
        go_ret2
        exact ⟨⟨none, 0, [], (k : Int), rfl, Or.inl ⟨rfl, rfl⟩, Or.inr ⟨unhide HC, Or.inl ⟨k, hlt, unhide hfit, by have := unhide HRR; omega, rfl, rfl⟩⟩⟩, unhide HB2⟩
      have hr' : (roleTo xs ts k == -1) = false := by simpa using hr
      have hr0 : 0 ≤ roleTo xs ts k := by omega
      have HFT := hide (show Ft w2 (w.heap.size + 1) bo bs (bhTo xs ts (k + 1)) (opTo ts (k + 1)) from (unhide HS2) hr0)
      have HFI := hide (show FitTo xs ts (k + 1) from fun i hi => by
        by_cases e : i = k
        · subst e; exact hr0
        · exact (unhide hfit) i (by omega))
      clear hr hrng HS2 hfit
      go_wp2_with (at_builtin; refine wpList_append_own _ rfl (.tmp 35) (.tmp 37) 79 rfl (w.heap.size + 2) 3 i0 _ 1 8 Tryz.underlying79 (unhide HI0) (unhide HZ0).1 (unhide HZ0).2.1 (unhide HZ0).2.2 rfl (by decide) _ k (cellsI (rolesTo xs ts k)) rfl ((unhide HO2).alloc _) ⟨w2.heap.size, 0, none⟩ 1 1 (cellsI [roleTo xs ts k]) rfl rfl (new_newsI w2 (roleTo xs ts k)) (cellsI_one _) ?b1 ?b2 ?b3 ?next)
      case b1 => unfold maxLen; omega
      case b2 => omega
      case b3 => simp; omega
      case next =>
        intro v4 w4 hown4 hgrow4 hnil4
        have hbel4 : Below w.heap.size w w4 := ((unhide HB2).alloc (by omega) _).grown hgrow4 (by simp; omega) (fun q hq => by simp [Value.ownBlock] at hq; omega)
        have hfar : ∀ bb, bb < w2.heap.size → bb ≠ g → w4.heap[bb]? = w2.heap[bb]? := fun bb h1 h2 => (hgrow4.block bb (by simp; omega) (by simp [Value.ownBlock]; omega)).trans ((below1 w2 _).block bb h1)
        have q4 : w4.cell? ⟨wr.heap.size, 0, none⟩ = some (.int .i64 (atT ts k).k) := (World.cell?_of_block (hfar wr.heap.size zr (by omega))).trans q0
        have HX4 := hide ((unhide HX2).of_blocks (hfar bo (by omega) (by omega)) (hfar bs (by omega) (by omega)))
        have hp2 : w.heap.size + 1 < w2.heap.size := by omega
        have HF4 := hide (show Ft w4 (w.heap.size + 1) bo bs (bhTo xs ts (k + 1)) (opTo ts (k + 1)) from by
          have e := fun o => World.cell?_of_block (w := w2) (a := ⟨w.heap.size + 1, o, none⟩) (hfar (w.heap.size + 1) hp2 (by omega))
          have f := fun o => World.frozen?_of_block (w := w2) (a := ⟨w.heap.size + 1, o, none⟩) (hfar (w.heap.size + 1) hp2 (by omega))
          have h := unhide HFT
          exact ⟨(e _).trans h.c0, (e _).trans h.c1, (e _).trans h.c2, (e _).trans h.c3, fun o => (f o).trans (h.fz o)⟩)
        obtain ⟨g4, c4, rfl⟩ := owns_bval hown4 (by simp [hnil4])
        rw [← cellsI_append, ← rolesTo_succ] at hown4
        have HO4 := hide hown4
        have HB4 := hide hbel4
        clear hown4 hgrow4 hnil4 hfar hbel4 HO2 HX2 HFT HB2
        by_cases hl : k + 1 = ts.length
        · have hl' : decide (k + 1 = ts.length) = true := decide_eq_true hl
          by_cases h7 : (atT ts k).k = 7
          · have h7' : ((atT ts k).k == 7) = true := by simpa using h7
            have H7 := hide h7
            have HL := hide hl
            clear h7 hl
            go_wp2_with fail
            go_ret2
            have hl := unhide HL
            have ho := unhide HO4
            have hlen : (rolesTo xs ts (k + 1)).length = k + 1 := rolesTo_len _ _ _
            rw [← hlen] at ho
            obtain ⟨hg, hf⟩ := owns_filledI (by rw [hlen] at ho ⊢; exact ho)
            refine ⟨⟨some ⟨g4, 0, none⟩, c4, rolesTo xs ts (k + 1), -1, by rw [hlen]; first | rfl | (rw [hl]; rfl), Or.inr ⟨g4, rfl, by omega, hf⟩, Or.inr ⟨unhide HC, Or.inr ⟨hl ▸ unhide HFI, Or.inl ⟨⟨by omega, ?_⟩, by rw [hl], rfl⟩⟩⟩⟩, unhide HB4⟩
            rw [← hl]
            exact unhide H7
          · have h7' : ((atT ts k).k == 7) = false := by simpa using h7
            have HE := hide (show k + 1 = ts.length → ¬ (0 < ts.length ∧ (atT ts (ts.length - 1)).k = 7) from fun e => by
              rw [← e]
              exact fun h => h7 h.2)
            have HL := hide hl
            clear hl
            go_wp2_with fail
            have hl := unhide HL
            exact ⟨⟨k + 1, g4, c4, by omega, by go_num, by first | rfl | (rw [hl]), HFI, HF4, HX4, HO4, HB4, HE⟩, by simp [intOf]; omega⟩
        · have hl' : decide (k + 1 = ts.length) = false := decide_eq_false hl
          have HE := hide (show k + 1 = ts.length → ¬ (0 < ts.length ∧ (atT ts (ts.length - 1)).k = 7) from fun e => absurd e hl)
          go_wp2_with fail
          exact ⟨⟨k + 1, g4, c4, by omega, by go_num, rfl, HFI, HF4, HX4, HO4, HB4, HE⟩, by simp [intOf]; omega⟩
    · have HX := hide (show k = ts.length by omega)
      go_wp2_with fail
      go_ret2
      have e := unhide HX
      subst e
      exact ⟨⟨none, 0, [], (ts.length : Int), rfl, Or.inl ⟨rfl, rfl⟩, Or.inr ⟨unhide HC, Or.inr ⟨unhide hfit, Or.inr ⟨(unhide hend) rfl, rfl, rfl⟩⟩⟩⟩, unhide hbl⟩
end Go.Proofs.YtfboipappaonhaaGreat

/-
  Walks: the program's inner trees put into holes (level, enclose, fit).
-/
namespace Go.Proofs.YtfboipappaonhaaGreat
set_option maxRecDepth 100000
set_option linter.unusedSimpArgs false
set_option linter.unusedVariables false
open Go.RowKit

/-- A value whose level is known. -/
def LevIs (e : Value) (l : Int) : Prop := ∃ T v f r, e = .iface T v ∧ (∀ w, (method 342 T v "loop.example/s0059/impl.level").run Tryz.prog w = .ok (f, r) w) ∧ (∀ a w, (callFunc f a).run Tryz.prog w = .ok (.enter f a) w) ∧
  ∀ w, Calls Tryz.prog f #[r] w fun x w' => x = .returned (.int .i64 l) ∧ Below w.heap.size w w'

theorem closed_level (w : World) : Calls Tryz.prog 185 #[.agg #[]] w fun x w' => x = .returned (.int .i64 1001) ∧ Below w.heap.size w w' := by
  go_enter Tryz.func185, Tryz.ntmps185
  go_wp2_with fail
  go_ret
  exact ⟨rfl, by first | exact below1 _ _ | exact Below.refl _ _⟩

theorem operated_level (p : OpR) (w : World) : Calls Tryz.prog 189 #[.agg #[.string p.s, .int .i64 p.k, .int .i64 p.l, .int .i64 p.sd]] w fun x w' => x = .returned (.int .i64 p.l) ∧ Below w.heap.size w w' := by
  go_enter Tryz.func189, Tryz.ntmps189
  go_wp2_with fail
  go_ret
  exact ⟨rfl, by first | exact below1 _ _ | exact Below.refl _ _⟩

theorem lev_num (t : ByteArray) : LevIs (eNum t) 1001 := ⟨_, _, 185, .agg #[], rfl, fun w => by kernel_rfl, fun a w => by kernel_rfl, closed_level⟩
theorem lev_name (t : ByteArray) : LevIs (eName t) 1001 := ⟨_, _, 185, .agg #[], rfl, fun w => by kernel_rfl, fun a w => by kernel_rfl, closed_level⟩
theorem lev_grp (e : Value) : LevIs (eGrp e) 1001 := ⟨_, _, 185, .agg #[], rfl, fun w => by kernel_rfl, fun a w => by kernel_rfl, closed_level⟩
theorem lev_pre (p : OpR) (e : Value) : LevIs (ePre p e) p.l := ⟨_, _, 189, .agg #[.string p.s, .int .i64 p.k, .int .i64 p.l, .int .i64 p.sd], rfl, fun w => by kernel_rfl, fun a w => by kernel_rfl, operated_level p⟩
theorem lev_post (p : OpR) (e : Value) : LevIs (ePost p e) p.l := ⟨_, _, 189, .agg #[.string p.s, .int .i64 p.k, .int .i64 p.l, .int .i64 p.sd], rfl, fun w => by kernel_rfl, fun a w => by kernel_rfl, operated_level p⟩
theorem lev_inf (p : OpR) (e e' : Value) : LevIs (eInf p e e') p.l := ⟨_, _, 189, .agg #[.string p.s, .int .i64 p.k, .int .i64 p.l, .int .i64 p.sd], rfl, fun w => by kernel_rfl, fun a w => by kernel_rfl, operated_level p⟩

/-- The grouper's count. -/
def GrAt (w : World) (g m : Nat) : Prop := w.cell? ⟨g, 0, none⟩ = some (.int .i64 (m : Int)) ∧ w.frozen? ⟨g, 0, none⟩ = false

theorem GrAt.below {w w' : World} {g m : Nat} (h : GrAt w g m) (hb : Below w.heap.size w w') : GrAt w' g m :=
  ⟨(hb.cell (p := ⟨g, 0, none⟩) (block_lt_of_cell h.1)).trans h.1, (hb.frozen (p := ⟨g, 0, none⟩) (block_lt_of_cell h.1)).trans h.2⟩

theorem GrAt.set {w : World} {g m : Nat} (h : GrAt w g m) (n : Nat) : GrAt (w.setCell ⟨g, 0, none⟩ (.int .i64 (n : Int))) g n :=
  ⟨World.cell?_setCell_same _ _ _ h.1, (World.frozen?_setCell _ _ _ _).trans h.2⟩

theorem Kept1.setG {w : World} {g : Nat} (v : Value) : Kept1 w (w.setCell ⟨g, 0, none⟩ v) g := ⟨rfl, rfl, rfl, by simp [World.setCell], fun _ _ hi => Below.heap_setCell _ _ _ _ hi⟩

def encN (l least : Int) : Nat := if l < least then 2 else 1
def encV (l least : Int) (e : Value) : Value := if l < least then eGrp e else e

set_option maxHeartbeats 1000000 in
theorem enclose_any {e : Value} {l : Int} (h : LevIs e l) (g m : Nat) (least : Int) (w : World) (hg : GrAt w g m) (hm : m ≤ 100000) :
    Calls Tryz.prog 115 #[.pointer (some ⟨g, 0, none⟩), e, .int .i64 least] w fun x w' => x = .returned (encV l least e) ∧ Hid (GrAt w' g (m + encN l least)) ∧ Hid (Kept1 w w' g) := by
  obtain ⟨T, v, f, r, rfl, hme, hcf, hcall⟩ := h
  have HC := hide hcall
  have c0 := hg.1
  have f0 := hg.2
  have hlt := block_lt_of_cell hg.1
  have HG1 := hide (hg.set (m + 1))
  have e1 : ((m + 1 : Nat) : Int) = (m : Int) + 1 := by omega
  have e2 : ((m + 1 + 1 : Nat) : Int) = (m : Int) + 1 + 1 := by omega
  rw [e1] at HG1
  clear hcall hg
  go_enter Tryz.func115, Tryz.ntmps115
  go_wp2_with fail
  refine ((unhide HC) _).mono ?_
  rintro x w1 ⟨rfl, hb1⟩
  have HK1 := hide ((Kept1.setG (w := w) (g := g) (.int .i64 ((m : Int) + 1))).trans (Kept1.of_below hb1))
  have HG2 := hide ((unhide HG1).below hb1)
  have c1 := (unhide HG2).1
  have f1 := (unhide HG2).2
  rw [e1] at c1
  clear hb1 HG1 c0 f0 hme hcf
  by_cases hl : l < least
  · have hl' : ¬ least ≤ l := by omega
    have HN := hide (show encN l least = 2 from if_pos hl)
    have HV := hide (show encV l least (.iface T v) = eGrp (.iface T v) from if_pos hl)
    have HG3 := hide ((unhide HG2).set (m + 1 + 1))
    rw [e2] at HG3
    have HK3 := hide ((unhide HK1).trans (Kept1.setG (w := w1) (g := g) (.int .i64 ((m : Int) + 1 + 1))))
    clear HG2 HK1
    go_wp2_with fail
    go_ret
    exact ⟨by rw [unhide HV]; rfl, by rw [unhide HN]; exact HG3, HK3⟩
  · have hl' : least ≤ l := by omega
    have HN := hide (show encN l least = 1 from if_neg hl)
    have HV := hide (show encV l least (.iface T v) = .iface T v from if_neg hl)
    clear hl
    go_wp2_with fail
    go_ret
    exact ⟨by rw [unhide HV]; rfl, by rw [unhide HN]; exact HG2, HK1⟩

theorem exN_iface (p : OpR) (o : NodeR) (e e' : Value) : ∃ T v, exN p o e e' = .iface T v := by
  unfold exN
  split
  · exact ⟨_, _, rfl⟩
  · split
    · exact ⟨_, _, rfl⟩
    · split
      · exact ⟨_, _, rfl⟩
      · split
        · exact ⟨_, _, rfl⟩
        · split
          · exact ⟨_, _, rfl⟩
          · exact ⟨_, _, rfl⟩
theorem exS_iface (ns : List OpR) (xs : List NodeR) (i : Nat) : ∃ T v, exS ns xs i = .iface T v := by
  rw [exS_is]; exact exN_iface _ _ _ _
theorem encV_iface (l least : Int) (T : TypeId) (v : Value) : ∃ T' v', encV l least (.iface T v) = .iface T' v' := by
  unfold encV
  split
  · exact ⟨_, _, rfl⟩
  · exact ⟨_, _, rfl⟩

/-- Not of another type. -/
def Nots (T : TypeId) (v : Value) (A : TypeId) (z : Value) : Prop := ∀ w, (Instr.typeAssert (.iface T v) 56 A true).run Tryz.prog w = .ok (.tuple #[z, .bool false]) w
def zG : Value := .agg #[.nilIface]
def zP : Value := .agg #[.string ⟨#[]⟩, .int .i64 0, .int .i64 0, .int .i64 0, .nilIface]
def zI : Value := .agg #[.string ⟨#[]⟩, .int .i64 0, .int .i64 0, .int .i64 0, .nilIface, .nilIface]

theorem no_num (v : Value) : Nots 119 v 134 zG ∧ Nots 119 v 129 zP ∧ Nots 119 v 131 zI ∧ Nots 119 v 132 zP :=
  ⟨fun w => by kernel_rfl, fun w => by kernel_rfl, fun w => by kernel_rfl, fun w => by kernel_rfl⟩
theorem no_name (v : Value) : Nots 121 v 134 zG ∧ Nots 121 v 129 zP ∧ Nots 121 v 131 zI ∧ Nots 121 v 132 zP :=
  ⟨fun w => by kernel_rfl, fun w => by kernel_rfl, fun w => by kernel_rfl, fun w => by kernel_rfl⟩
theorem no_pre (v : Value) : Nots 129 v 134 zG := fun w => by kernel_rfl
theorem no_inf (v : Value) : Nots 131 v 134 zG ∧ Nots 131 v 129 zP := ⟨fun w => by kernel_rfl, fun w => by kernel_rfl⟩
theorem no_post (v : Value) : Nots 132 v 134 zG ∧ Nots 132 v 129 zP ∧ Nots 132 v 131 zI := ⟨fun w => by kernel_rfl, fun w => by kernel_rfl, fun w => by kernel_rfl⟩
theorem is_grp (v : Value) : ∀ w, (Instr.typeAssert (.iface 134 v) 56 134 true).run Tryz.prog w = .ok (.tuple #[v, .bool true]) w := fun w => by kernel_rfl
theorem is_pre (v : Value) : ∀ w, (Instr.typeAssert (.iface 129 v) 56 129 true).run Tryz.prog w = .ok (.tuple #[v, .bool true]) w := fun w => by kernel_rfl
theorem is_inf (v : Value) : ∀ w, (Instr.typeAssert (.iface 131 v) 56 131 true).run Tryz.prog w = .ok (.tuple #[v, .bool true]) w := fun w => by kernel_rfl
theorem is_post (v : Value) : ∀ w, (Instr.typeAssert (.iface 132 v) 56 132 true).run Tryz.prog w = .ok (.tuple #[v, .bool true]) w := fun w => by kernel_rfl

/-- What fit hands back. -/
def FitPost (w : World) (g m : Nat) (e : Value) (x : Ending) (w' : World) : Prop := x = .returned e ∧ Hid (GrAt w' g m) ∧ Hid (Kept1 w w' g)

set_option maxHeartbeats 1000000 in
theorem fit_leaf {T : TypeId} {v : Value} (hn : Nots T v 134 zG ∧ Nots T v 129 zP ∧ Nots T v 131 zI ∧ Nots T v 132 zP) {l : Int} (h : LevIs (.iface T v) l) (g m : Nat) (least : Int) (w : World) (hg : GrAt w g m) (hm : m ≤ 100000) :
    Calls Tryz.prog 66 #[.pointer (some ⟨g, 0, none⟩), .iface T v, .int .i64 least] w (FitPost w g (m + encN l least) (encV l least (.iface T v))) := by
  obtain ⟨n1, n2, n3, n4⟩ := hn
  unfold Nots zG at n1
  unfold Nots zP at n2 n4
  unfold Nots zI at n3
  have HG := hide hg
  have HL := hide h
  clear hg h
  go_enter Tryz.func66, Tryz.ntmps66
  go_wp2_with fail
  refine (enclose_any (unhide HL) g m least _ (unhide HG) hm).mono ?_
  rintro x w1 ⟨rfl, h1, h2⟩
  obtain ⟨T', v', hTv⟩ := encV_iface l least T v
  rw [hTv]
  clear n1 n2 n3 n4
  go_wp2_with fail
  go_ret
  exact ⟨by rw [hTv]; rfl, h1, h2⟩

set_option maxHeartbeats 1000000 in
theorem fit_grp {T : TypeId} {v : Value} (g m : Nat) (least : Int) {e : Value} (w : World) (he : ∃ T' v', e = .iface T' v')
    (hc : ∀ o, Calls Tryz.prog 66 #[.pointer (some ⟨g, 0, none⟩), .iface T v, .int .i64 least] (w.alloc o) (FitPost (w.alloc o) g m e)) :
    Calls Tryz.prog 66 #[.pointer (some ⟨g, 0, none⟩), eGrp (.iface T v), .int .i64 least] w (FitPost w g m e) := by
  obtain ⟨T', v', rfl⟩ := he
  have i1 := is_grp (.agg #[.iface T v])
  have HC := hide hc
  clear hc
  unfold eGrp
  go_enter Tryz.func66, Tryz.ntmps66
  go_wp2_with fail
  refine ((unhide HC) _).mono ?_
  rintro x w1 ⟨rfl, h1, h2⟩
  have h3 := hide ((Kept1.of_below (below1 _ _)).trans (unhide h2))
  clear i1
  go_wp2_with fail
  go_ret
  exact ⟨rfl, h1, h3⟩
end Go.Proofs.YtfboipappaonhaaGreat
