import Derived.WalkMore
import Derived.Deep.LoopGhost
import Derived.Deep.AppendLies
import Derived.Deep.RegionHeldLaw
import Derived.Test.YtokabkhnidlcnaaL06
import Derived.Test.YtokabkhnidlcnaaL13
import Derived.Test.YtokabkhnidlcnaaL15
import Derived.Test.YtokabkhnidlcnaaL19

/-
  Walk: the program's scanner.
-/
namespace Go.Proofs.Ytokabkhnidlcnaa
set_option maxRecDepth 100000
open Go.RowKit Go.Maps

theorem kindOfByte_is (c : UInt8) (k : Int) (w : World) (h : (cls c : Int) = k) :
    Calls Try.prog 71 #[.int .u8 (c.toNat : Int)] w fun e w' => e = .returned (.int .i64 k) ∧ w' = w := by
  subst h
  exact kindOfByte_any c w

theorem Idx.of_blocks {w w' : World} {bo bs n : Nat} {xs : List OpR} (h : Idx w bo bs xs n) (h1 : w'.heap[bo]? = w.heap[bo]?) (h2 : w'.heap[bs]? = w.heap[bs]?) : Idx w' bo bs xs n := by
  obtain ⟨⟨D, ⟨es, clock, hb, F, hs, hD⟩, a2⟩, ⟨E, ⟨es', clock', hb', F', hs', hD'⟩, a4⟩, a5⟩ := h
  exact ⟨⟨D, ⟨es, clock, h1.trans hb, F, hs, hD⟩, a2⟩, ⟨E, ⟨es', clock', h2.trans hb', F', hs', hD'⟩, a4⟩, a5⟩

/-- What holds of a scanner that is at work. -/
structure Scan (w wr : World) (p bo bs L : Nat) (xs : List OpR) (s : ByteArray) (gap start : Nat) (acc : List TokR) (v : Value) : Prop where
  sc : Sc wr p bo bs L s gap start v
  own : wr.ownsRow p 60 3 v acc.length (cellsTk acc)
  ne : v.ownBlock ≠ some p
  idx : Idx wr bo bs xs xs.length
  bel : Below p w wr
  rd : Read xs s gap acc
  bl : Blanks s gap start
  le1 : gap ≤ start
  le2 : start ≤ s.size
  hbo : bo < p
  hbs : bs < p

theorem Scan.lt {w wr : World} {p bo bs L gap start : Nat} {xs : List OpR} {s : ByteArray} {acc : List TokR} {v : Value} (h : Scan w wr p bo bs L xs s gap start acc v) : p < wr.heap.size := block_lt_of_cell h.sc.c0

theorem Scan.below {w wr w' : World} {p bo bs L gap start : Nat} {xs : List OpR} {s : ByteArray} {acc : List TokR} {v : Value} (h : Scan w wr p bo bs L xs s gap start acc v) (hb : Below wr.heap.size wr w') : Scan w w' p bo bs L xs s gap start acc v := by
  have hp := h.lt
  obtain ⟨⟨c0, c1, c2, c3, c4, c5, c6, fz⟩, own, ne, idx, bel, rd, bl, le1, le2, hbo, hbs⟩ := h
  have e := fun o => hb.cell (p := ⟨p, o, none⟩) hp
  exact ⟨⟨(e _).trans c0, (e _).trans c1, (e _).trans c2, (e _).trans c3, (e _).trans c4, (e _).trans c5, (e _).trans c6, fun o => (hb.frozen (p := ⟨p, o, none⟩) hp).trans (fz o)⟩,
    own.kept (grown_bel hb none) (Classical.em _), ne, idx.kept hb, bel.trans (hb.mono (Nat.le_of_lt hp)), rd, bl, le1, le2, hbo, hbs⟩

theorem Scan.drew {w wr : World} {p bo bs L gap start : Nat} {xs : List OpR} {s : ByteArray} {acc : List TokR} {v : Value} (h : Scan w wr p bo bs L xs s gap start acc v) : Scan w wr.drew p bo bs L xs s gap start acc v :=
  h.below (Below.refl _ _).drew

theorem Scan.blank {w wr : World} {p bo bs L gap start : Nat} {xs : List OpR} {s : ByteArray} {acc : List TokR} {v : Value} (h : Scan w wr p bo bs L xs s gap start acc v) (hlt : start < s.size) (hc : cls (bt s start) = 1) (n : Int) (hn : n = ((start + 1 : Nat) : Int)) :
    Scan w (wr.setCell ⟨p, 5, none⟩ (.int .i64 n)) p bo bs L xs s gap (start + 1) acc v := by
  subst hn
  obtain ⟨⟨c0, c1, c2, c3, c4, c5, c6, fz⟩, own, ne, idx, bel, rd, bl, le1, le2, hbo, hbs⟩ := h
  have e : ∀ o, o ≠ 5 → (wr.setCell ⟨p, 5, none⟩ (.int .i64 ((start + 1 : Nat) : Int))).cell? ⟨p, o, none⟩ = wr.cell? ⟨p, o, none⟩ := fun o ho => World.cell?_setCell_other _ _ _ _ (by simp)
  refine ⟨⟨(e _ (by omega)).trans c0, (e _ (by omega)).trans c1, (e _ (by omega)).trans c2, (e _ (by omega)).trans c3, (e _ (by omega)).trans c4, World.cell?_setCell_same _ _ _ c5, (e _ (by omega)).trans c6, fun o => by rw [World.frozen?_setCell]; exact fz o⟩,
    own.kept (set1_grown _ p 5 _) (Or.inr ne), ne, idx.set (by omega) (by omega), bel.setCell (Nat.le_refl _) _, rd, fun q h1 h2 => ?_, by omega, by omega, hbo, hbs⟩
  by_cases e : q = start
  · subst e; exact hc
  · exact bl q h1 (by omega)

/-- Behind 'finish'. -/
theorem Scan.fin {w wr w' : World} {p bo bs L gap start q kind g cap : Nat} {xs : List OpR} {s : ByteArray} {acc : List TokR} {v : Value} (h : Scan w wr p bo bs L xs s gap start acc v)
    (hsc : Sc w' p bo bs L s q q (.slice (some ⟨g, 0, none⟩) (acc.length + 1) cap)) (hown : w'.ownsRow p 60 3 (.slice (some ⟨g, 0, none⟩) (acc.length + 1) cap) (acc.length + 1) (cellsTk (acc ++ [⟨(kind : Int), s.extract gap start, s.extract start q⟩])))
    (hg : g ≠ p) (hk : KeptS wr w' p v.ownBlock) (hlt : start < s.size) (hnb : cls (bt s start) ≠ 1) (htok : IsTok xs s start (q - start) kind) (hq : start ≤ q) :
    Scan w w' p bo bs L xs s q q (acc ++ [⟨(kind : Int), s.extract gap start, s.extract start q⟩]) (.slice (some ⟨g, 0, none⟩) (acc.length + 1) cap) := by
  have hp := h.lt
  have hrow : ∀ b : Nat, b < p → some b ≠ v.ownBlock := fun b hb e => by
    have := (h.own.lt b e.symm).1
    omega
  have hqe : start + (q - start) = q := by omega
  have hrd := h.rd.step h.le1 hlt h.bl hnb htok
  rw [hqe] at hrd
  refine ⟨hsc, ?_, by simp [Value.ownBlock]; exact hg, h.idx.of_blocks (hk.block bo (by have := h.hbo; omega) (by have := h.hbo; omega) (hrow _ h.hbo)) (hk.block bs (by have := h.hbs; omega) (by have := h.hbs; omega) (hrow _ h.hbs)), ?_, hrd, fun q' h1 h2 => by omega, Nat.le_refl _, ?_, h.hbo, h.hbs⟩
  · rw [List.length_append]
    exact hown
  · exact h.bel.trans ⟨hk.os, hk.tape, hk.output, hk.size, fun i hi => hk.block i (by omega) (by omega) (hrow i hi)⟩
  · have := htok.2.1
    omega

theorem finish_at (p bo bs L : Nat) (xs : List OpR) (s : ByteArray) (gap start : Nat) (v : Value) (kind q : Nat) (kz qz : Int) (acc : List TokR) (w W : World) (h : Scan w W p bo bs L xs s gap start acc v) (hs : s.size ≤ 20000) (h2 : start ≤ q) (hq : q ≤ s.size) (hkz : kz = (kind : Int)) (hqz : qz = (q : Int)) :
    Calls Try.prog 73 #[.pointer (some ⟨p, 0, none⟩), .int .i64 kz, .int .i64 qz] W fun e w' => e = .returned (.tuple #[]) ∧ ∃ g cap : Nat, Hid (Sc w' p bo bs L s q q (.slice (some ⟨g, 0, none⟩) (acc.length + 1) cap)) ∧ Hid (w'.ownsRow p 60 3 (.slice (some ⟨g, 0, none⟩) (acc.length + 1) cap) (acc.length + 1) (cellsTk (acc ++ [⟨(kind : Int), s.extract gap start, s.extract start q⟩]))) ∧ g ≠ p ∧ KeptS W w' p v.ownBlock := by
  subst hkz hqz
  have h1 := h.rd.1
  have h3 := h.le1
  have h4 := h.le2
  exact finish_any p bo bs L s gap start v kind q p acc W h.sc h.le1 h2 hq h.own h.ne (by omega) (Nat.le_of_lt h.lt)

/-- A token ends here. -/
theorem finish_tok (p bo bs L : Nat) (xs : List OpR) (s : ByteArray) (gap start : Nat) (v : Value) (kind q : Nat) (kz qz : Int) (acc : List TokR) (w W : World) (h : Scan w W p bo bs L xs s gap start acc v) (hs : s.size ≤ 20000) (h2 : start ≤ q) (hq : q ≤ s.size) (hkz : kz = (kind : Int)) (hqz : qz = (q : Int)) (hlt : start < s.size) (hnb : cls (bt s start) ≠ 1) (htok : IsTok xs s start (q - start) kind) :
    Calls Try.prog 73 #[.pointer (some ⟨p, 0, none⟩), .int .i64 kz, .int .i64 qz] W fun e w' => e = .returned (.tuple #[]) ∧ ∃ (acc' : List TokR) (v' : Value), Hid (Scan w w' p bo bs L xs s q q acc' v') := by
  refine (finish_at p bo bs L xs s gap start v kind q kz qz acc w W h hs h2 hq hkz hqz).mono ?_
  rintro e w' ⟨rfl, g, cap, a, b, c, d⟩
  exact ⟨rfl, _, _, hide (h.fin (unhide a) (unhide b) c d hlt hnb htok h2)⟩

theorem extract_none (s : ByteArray) (i : Nat) : s.extract i i = ⟨#[]⟩ := by
  apply ByteArray.ext
  rw [ByteArray.data_extract]
  simp
  omega

theorem sub_eq {s : ByteArray} {i q : Nat} (h : i ≤ q) : s.extract i q = sub s i (q - i) := by
  unfold sub
  rw [show i + (q - i) = q by omega]

theorem wordKind_2 (w : World) : Calls Try.prog 74 #[.int .i64 2] w fun e w' => e = .returned (.int .i64 1) ∧ w' = w := by
  go_enter Try.func74, Try.ntmps74
  go_wp2
  go_ret
  exact ⟨rfl, rfl⟩
theorem wordKind_3 (w : World) : Calls Try.prog 74 #[.int .i64 3] w fun e w' => e = .returned (.int .i64 2) ∧ w' = w := by
  go_enter Try.func74, Try.ntmps74
  go_wp2
  go_ret
  exact ⟨rfl, rfl⟩

set_option maxHeartbeats 8000000 in
theorem scan_any (p bo bs L : Nat) (xs : List OpR) (s : ByteArray) (w : World) (h : Scan w w p bo bs L xs s 0 0 [] (.slice none 0 0)) (hs : s.size ≤ 20000) (hL : L ≤ 16) (hLx : ∀ j, j < xs.length → (atO xs j).s.size ≤ L) (hv : SignTexts xs) (hk : Kinds xs) :
    Calls Try.prog 56 #[.pointer (some ⟨p, 0, none⟩)] w fun e w' => e = .returned (.tuple #[]) ∧ ∃ (g cap : Nat) (us : List TokR), Hid (w'.cell? ⟨p, 6, none⟩ = some (.slice (some ⟨g, 0, none⟩) us.length cap)) ∧ p ≤ g ∧ Hid (FilledT w' g us us.length) ∧ Hid (Lexed xs s 0 us) ∧ Below p w w' := by
  have HS := hide h
  have HLX := hide hLx
  have HV := hide hv
  have HK := hide hk
  clear h hLx hv hk
  go_enter Try.func56, Try.ntmps56
  go_wp2_with fail
  go_step3
  go_wp2_with fail
  go_step3
  go_wp2_with fail
  go_loopg [2] (s.size) (fun k _ wr => ∃ (gap start : Nat) (acc : List TokR) (v : Value), k = s.size - start ∧ Hid (Scan w wr p bo bs L xs s gap start acc v))
  case atStart => exact ⟨0, 0, [], _, by omega, HS⟩
  case round =>
    clear HS
    obtain ⟨gap, start, acc, v, hgk, hsn⟩ := hrel
    have c3 := (unhide hsn).sc.c3
    have c5 := (unhide hsn).sc.c5
    have le2 := (unhide hsn).le2
    by_cases hlt : start < s.size
    · have hltI : (start : Int) < (s.size : Int) := by omega
      go_wp2_with fail
      go_region_held (fun w' => w'.cell? ⟨p, 3, none⟩ = some (.string s) ∧ w'.cell? ⟨p, 5, none⟩ = some (.int .i64 (start : Int))) (go_keep) (fail)
      go_wp2_with fail
      have hc7 := cls_lt (bt s start)
      have hc : cls (bt s start) = 1 ∨ cls (bt s start) = 2 ∨ cls (bt s start) = 3 ∨ cls (bt s start) = 6 ∨ cls (bt s start) = 4 ∨ cls (bt s start) = 5 ∨ cls (bt s start) = 0 := by omega
      have hfz := (unhide hsn).sc.fz 5
      have hst0 : (0 : Int) ≤ (start : Int) := by omega
      clear hc7
      rcases hc with hc | hc | hc | hc | hc | hc | hc
      · have hkb : (cls s[start] : Int) = 1 := by rw [bt_get hlt, hc]; rfl
        have HC := hide hc
        clear hc
        go_region_held (fun w' => w'.cell? ⟨p, 3, none⟩ = some (.string s) ∧ w'.cell? ⟨p, 5, none⟩ = some (.int .i64 (start : Int))) (go_keep) (first | (go_at_call 71; refine (kindOfByte_is _ 1 _ hkb).mono ?_; rintro e w2 ⟨rfl, hx⟩; obtain rfl := hx.symm))
        go_wp2_with fail
        go_roundg (s.size - (start + 1))
        case measure => omega
        case rel => exact ⟨gap, start + 1, acc, v, rfl, hide ((unhide hsn).drew.drew.blank hlt (unhide HC) _ (by omega))⟩
      · have hkb : (cls s[start] : Int) = 2 := by rw [bt_get hlt, hc]; rfl
        have HC := hide hc
        have HSN := hide (unhide hsn).drew.drew
        clear hc hsn
        go_region_held (fun w' => w'.cell? ⟨p, 3, none⟩ = some (.string s) ∧ w'.cell? ⟨p, 5, none⟩ = some (.int .i64 (start : Int))) (go_keep) (first | (go_at_call 71; refine (kindOfByte_is _ 2 _ hkb).mono ?_; rintro e w2 ⟨rfl, hx⟩; obtain rfl := hx.symm))
        go_wp2_with fail
        go_loop [4] (fun ev => ∃ q : Nat, start + 1 ≤ q ∧ q ≤ s.size ∧ ev = .int .i64 (q : Int) ∧ Hid (∀ j, start ≤ j → j < q → cls (bt s j) = 2)) (fun ev => s.size - (intOf ev).toNat)
        case atStart =>
          refine ⟨start + 1, Nat.le_refl _, by omega, by go_num, hide (fun j h1 h2 => ?_)⟩
          have : j = start := by omega
          subst this
          exact unhide HC
        case round =>
          obtain ⟨q, hq1, hq2, rfl, hn⟩ := hrel
          go_wp2_with fail
          refine (goesOn_any p bo bs L s gap start v 2 q _ (unhide HSN).sc hq2 (by omega)).mono ?_
          rintro e w3 ⟨⟨y, rfl, hy⟩, hx⟩
          obtain rfl := hx.symm
          have HY := hide hy
          clear hy
          cases y
          · have HT := hide (show IsTok xs s start (q - start) 1 by
              have no : ¬ (q < s.size ∧ (cls (bt s q) = 2 ∨ (cls (bt s q) = 3 ∧ 2 = 3))) := fun hh => Bool.false_ne_true ((unhide HY).2 hh)
              have hqe : start + (q - start) = q := by omega
              exact ⟨by omega, by omega, Or.inl ⟨unhide HC, rfl, fun j hj => (unhide hn) (start + j) (by omega) (by omega), fun hx hd => no ⟨by omega, Or.inl (by rw [hqe] at hd; exact hd)⟩⟩⟩)
            go_wp2_with (first | (go_at_call 74; refine (wordKind_2 _).mono ?_; rintro e w3 ⟨rfl, hx⟩; obtain rfl := hx.symm))
            refine (finish_tok p bo bs L xs s gap start v 1 q _ _ acc w _ (unhide HSN) hs (by omega) hq2 rfl rfl hlt (by have := unhide HC; omega) (unhide HT)).mono ?_
            rintro e w4 ⟨rfl, acc', v', hsn'⟩
            go_wp2_with fail
            go_roundg (s.size - q)
            case measure => omega
            case rel => exact ⟨q, q, acc', v', rfl, hsn'⟩
          · have HY' := hide (show q < s.size ∧ ∀ j, start ≤ j → j < q + 1 → cls (bt s j) = 2 from by
              have hy := (unhide HY).1 rfl
              refine ⟨hy.1, fun j h1 h2 => ?_⟩
              by_cases e : j = q
              · subst e
                exact hy.2.elim (fun x => x) (fun x => absurd x.2 (by decide))
              · exact (unhide hn) j h1 (by omega))
            have hqlt := (unhide HY').1
            go_wp2_with fail
            exact ⟨⟨q + 1, by omega, by omega, by go_num, hide (unhide HY').2⟩, by simp [intOf]; omega⟩
      · have hkb : (cls s[start] : Int) = 3 := by rw [bt_get hlt, hc]; rfl
        have HC := hide hc
        have HSN := hide (unhide hsn).drew.drew
        clear hc hsn
        go_region_held (fun w' => w'.cell? ⟨p, 3, none⟩ = some (.string s) ∧ w'.cell? ⟨p, 5, none⟩ = some (.int .i64 (start : Int))) (go_keep) (first | (go_at_call 71; refine (kindOfByte_is _ 3 _ hkb).mono ?_; rintro e w2 ⟨rfl, hx⟩; obtain rfl := hx.symm))
        go_wp2_with fail
        go_loop [4] (fun ev => ∃ q : Nat, start + 1 ≤ q ∧ q ≤ s.size ∧ ev = .int .i64 (q : Int) ∧ Hid (∀ j, start ≤ j → j < q → (cls (bt s j) = 2 ∨ cls (bt s j) = 3))) (fun ev => s.size - (intOf ev).toNat)
        case atStart =>
          refine ⟨start + 1, Nat.le_refl _, by omega, by go_num, hide (fun j h1 h2 => ?_)⟩
          have : j = start := by omega
          subst this
          exact Or.inr (unhide HC)
        case round =>
          obtain ⟨q, hq1, hq2, rfl, hn⟩ := hrel
          go_wp2_with fail
          refine (goesOn_any p bo bs L s gap start v 3 q _ (unhide HSN).sc hq2 (by omega)).mono ?_
          rintro e w3 ⟨⟨y, rfl, hy⟩, hx⟩
          obtain rfl := hx.symm
          have HY := hide hy
          clear hy
          cases y
          · have HT := hide (show IsTok xs s start (q - start) 2 by
              have no : ¬ (q < s.size ∧ (cls (bt s q) = 2 ∨ (cls (bt s q) = 3 ∧ 3 = 3))) := fun hh => Bool.false_ne_true ((unhide HY).2 hh)
              have hqe : start + (q - start) = q := by omega
              exact ⟨by omega, by omega, Or.inr (Or.inl ⟨unhide HC, rfl, fun j hj => (unhide hn) (start + j) (by omega) (by omega), fun hx hd => no ⟨by omega, by rw [hqe] at hd; exact hd.elim Or.inl (fun x => Or.inr ⟨x, rfl⟩)⟩⟩)⟩)
            go_wp2_with (first | (go_at_call 74; refine (wordKind_3 _).mono ?_; rintro e w3 ⟨rfl, hx⟩; obtain rfl := hx.symm))
            refine (finish_tok p bo bs L xs s gap start v 2 q _ _ acc w _ (unhide HSN) hs (by omega) hq2 rfl rfl hlt (by have := unhide HC; omega) (unhide HT)).mono ?_
            rintro e w4 ⟨rfl, acc', v', hsn'⟩
            go_wp2_with fail
            go_roundg (s.size - q)
            case measure => omega
            case rel => exact ⟨q, q, acc', v', rfl, hsn'⟩
          · have HY' := hide (show q < s.size ∧ ∀ j, start ≤ j → j < q + 1 → (cls (bt s j) = 2 ∨ cls (bt s j) = 3) from by
              have hy := (unhide HY).1 rfl
              refine ⟨hy.1, fun j h1 h2 => ?_⟩
              by_cases e : j = q
              · subst e
                exact hy.2.elim (fun x => Or.inl x) (fun x => Or.inr x.1)
              · exact (unhide hn) j h1 (by omega))
            have hqlt := (unhide HY').1
            go_wp2_with fail
            exact ⟨⟨q + 1, by omega, by omega, by go_num, hide (unhide HY').2⟩, by simp [intOf]; omega⟩
      · have hkb : (cls s[start] : Int) = 6 := by rw [bt_get hlt, hc]; rfl
        have HC := hide hc
        have HSN := hide (unhide hsn).drew.drew
        have c2 := (unhide hsn).sc.c2
        clear hc hsn
        go_region_held (fun w' => w'.cell? ⟨p, 3, none⟩ = some (.string s) ∧ w'.cell? ⟨p, 5, none⟩ = some (.int .i64 (start : Int))) (go_keep) (first | (go_at_call 71; refine (kindOfByte_is _ 6 _ hkb).mono ?_; rintro e w2 ⟨rfl, hx⟩; obtain rfl := hx.symm))
        have hwr : IntKind.i64.wrap ((start : Int) + (L : Int)) = (start : Int) + (L : Int) := by rw [IntKind.wrap_i64]; omega
        have hmin : min ((start : Int) + (L : Int)) (s.size : Int) = ((min (start + L) s.size : Nat) : Int) := by omega
        go_wp2_with fail
        go_region_held (fun w' => w'.cell? ⟨p, 2, none⟩ = some (.int .i64 (L : Int)) ∧ w'.cell? ⟨p, 3, none⟩ = some (.string s) ∧ w'.cell? ⟨p, 5, none⟩ = some (.int .i64 (start : Int))) (go_keep) (fail)
        go_wp2_with fail
        have HS2 := hide (unhide HSN).drew
        clear HSN c2
        go_loopw [5] (fun ev wq => ∃ q : Nat, start ≤ q ∧ q ≤ s.size ∧ ev = .int .i64 (q : Int) ∧ Hid (∀ m, q < start + m → start + m ≤ s.size → ¬ opT xs (sub s start m)) ∧ Hid (Scan w wq p bo bs L xs s gap start acc v)) (fun ev _ => (intOf ev).toNat)
        case atStart =>
          refine ⟨min (start + L) s.size, by omega, by omega, rfl, hide (fun m h1 h2 ho => ?_), HS2⟩
          obtain ⟨j, hj, e⟩ := ho
          have h3 := (unhide HLX) j hj
          rw [e, sub_size h2] at h3
          omega
        case round =>
          clear HS2
          obtain ⟨q, hq1, hq2, rfl, hn, hsn⟩ := hrel
          have d0 := (unhide hsn).sc.c0
          have d1 := (unhide hsn).sc.c1
          have d3 := (unhide hsn).sc.c3
          have d5 := (unhide hsn).sc.c5
          by_cases hqs : start < q
          · have hqsI : (start : Int) < (q : Int) := by omega
            have hs1 : (start : Int) ≤ (q : Int) := by omega
            have hs2 : (q : Int) ≤ (s.size : Int) := by omega
            have hxe := hide (sub_eq (s := s) hq1)
            have hzp := (unhide hsn).lt
            go_wp2_with fail
            go_region_held (fun w' => w'.cell? ⟨p, 0, none⟩ = some (.map (some bo)) ∧ w'.cell? ⟨p, 1, none⟩ = some (.map (some bs)) ∧ w'.cell? ⟨p, 3, none⟩ = some (.string s) ∧ w'.cell? ⟨p, 5, none⟩ = some (.int .i64 (start : Int))) (go_keep) (first | (go_at_call 75; refine (hasText_any bo bs xs.length xs (s.extract start q) _ (unhide hsn).drew.idx rfl (unhide HK) (by rw [unhide hxe, sub_size (by omega)]; unfold maxLen; omega)).mono ?_; rintro e w5 ⟨⟨y, rfl, hy⟩, hb5⟩; have HY := hide hy; have HS5 := hide ((unhide hsn).drew.below hb5); have e0 := (unhide HS5).sc.c0; have e1 := (unhide HS5).sc.c1; have e3 := (unhide HS5).sc.c3; have e5 := (unhide HS5).sc.c5; clear hy hb5))
            cases y
            · have HN := hide (show ∀ m, q - 1 < start + m → start + m ≤ s.size → ¬ opT xs (sub s start m) from fun m h1 h2 ho => by
                by_cases e : q < start + m
                · exact (unhide hn) m e h2 ho
                · have e2 : m = q - start := by omega
                  subst e2
                  rw [← unhide hxe] at ho
                  exact Bool.false_ne_true ((unhide HY).2 ho))
              go_wp2_with fail
              exact ⟨⟨q - 1, by omega, by omega, by first | (go_num; done) | (congr 1; omega), HN, HS5⟩, by simp [intOf]; omega⟩
            · have HT := hide (show IsTok xs s start (q - start) 3 by
                refine ⟨by omega, by omega, Or.inr (Or.inr (Or.inr (Or.inr (Or.inl ⟨unhide HC, Or.inl ⟨rfl, ?_, fun m h1 h2 => (unhide hn) m (by omega) h2⟩⟩))))⟩
                rw [← unhide hxe]
                exact (unhide HY).1 rfl)
              go_wp2_with fail
              refine (finish_tok p bo bs L xs s gap start v 3 q _ _ acc w _ (unhide HS5) hs (by omega) hq2 rfl rfl hlt (by have := unhide HC; omega) (unhide HT)).mono ?_
              rintro e w6 ⟨rfl, acc', v', hsn'⟩
              go_wp2_with fail
              go_roundg (s.size - q)
              case measure => omega
              case rel => exact ⟨q, q, acc', v', rfl, hsn'⟩
          · have HT := hide (show IsTok xs s start (start + 1 - start) 6 by
              rw [show start + 1 - start = 1 by omega]
              exact ⟨Nat.le_refl _, by omega, Or.inr (Or.inr (Or.inr (Or.inr (Or.inl ⟨unhide HC, Or.inr ⟨rfl, rfl, fun m h1 h2 => (unhide hn) m (by omega) h2⟩⟩))))⟩)
            have hqsI : ¬ (start : Int) < (q : Int) := by omega
            go_wp2_with fail
            refine (finish_tok p bo bs L xs s gap start v 6 (start + 1) _ _ acc w _ (unhide hsn) hs (by omega) (by omega) rfl (by omega) hlt (by have := unhide HC; omega) (unhide HT)).mono ?_
            rintro e w6 ⟨rfl, acc', v', hsn'⟩
            go_wp2_with fail
            go_roundg (s.size - (start + 1))
            case measure => omega
            case rel => exact ⟨start + 1, start + 1, acc', v', rfl, hsn'⟩
      · have hkb : (cls s[start] : Int) = 4 := by rw [bt_get hlt, hc]; rfl
        have HT := hide (show IsTok xs s start (start + 1 - start) 4 by rw [show start + 1 - start = 1 by omega]; exact ⟨Nat.le_refl _, by omega, Or.inr (Or.inr (Or.inl ⟨hc, rfl, rfl⟩))⟩)
        have HC := hide hc
        have HSN := hide (unhide hsn).drew.drew
        clear hc hsn
        go_region_held (fun w' => w'.cell? ⟨p, 3, none⟩ = some (.string s) ∧ w'.cell? ⟨p, 5, none⟩ = some (.int .i64 (start : Int))) (go_keep) (first | (go_at_call 71; refine (kindOfByte_is _ 4 _ hkb).mono ?_; rintro e w2 ⟨rfl, hx⟩; obtain rfl := hx.symm))
        go_wp2_with fail
        refine (finish_tok p bo bs L xs s gap start v 4 (start + 1) _ _ acc w _ (unhide HSN) hs (by omega) (by omega) rfl (by omega) hlt (by have := unhide HC; omega) (unhide HT)).mono ?_
        rintro e w4 ⟨rfl, acc', v', hsn'⟩
        go_wp2_with fail
        go_roundg (s.size - (start + 1))
        case measure => omega
        case rel => exact ⟨start + 1, start + 1, acc', v', rfl, hsn'⟩
      · have hkb : (cls s[start] : Int) = 5 := by rw [bt_get hlt, hc]; rfl
        have HT := hide (show IsTok xs s start (start + 1 - start) 5 by rw [show start + 1 - start = 1 by omega]; exact ⟨Nat.le_refl _, by omega, Or.inr (Or.inr (Or.inr (Or.inl ⟨hc, rfl, rfl⟩)))⟩)
        have HC := hide hc
        have HSN := hide (unhide hsn).drew.drew
        clear hc hsn
        go_region_held (fun w' => w'.cell? ⟨p, 3, none⟩ = some (.string s) ∧ w'.cell? ⟨p, 5, none⟩ = some (.int .i64 (start : Int))) (go_keep) (first | (go_at_call 71; refine (kindOfByte_is _ 5 _ hkb).mono ?_; rintro e w2 ⟨rfl, hx⟩; obtain rfl := hx.symm))
        go_wp2_with fail
        refine (finish_tok p bo bs L xs s gap start v 5 (start + 1) _ _ acc w _ (unhide HSN) hs (by omega) (by omega) rfl (by omega) hlt (by have := unhide HC; omega) (unhide HT)).mono ?_
        rintro e w4 ⟨rfl, acc', v', hsn'⟩
        go_wp2_with fail
        go_roundg (s.size - (start + 1))
        case measure => omega
        case rel => exact ⟨start + 1, start + 1, acc', v', rfl, hsn'⟩
      · have hkb : (cls s[start] : Int) = 0 := by rw [bt_get hlt, hc]; rfl
        have HT := hide (show IsTok xs s start (start + 1 - start) 6 by rw [show start + 1 - start = 1 by omega]; exact ⟨Nat.le_refl _, by omega, Or.inr (Or.inr (Or.inr (Or.inr (Or.inr ⟨hc, rfl, rfl⟩))))⟩)
        have HC := hide hc
        have HSN := hide (unhide hsn).drew.drew
        clear hc hsn
        go_region_held (fun w' => w'.cell? ⟨p, 3, none⟩ = some (.string s) ∧ w'.cell? ⟨p, 5, none⟩ = some (.int .i64 (start : Int))) (go_keep) (first | (go_at_call 71; refine (kindOfByte_is _ 0 _ hkb).mono ?_; rintro e w2 ⟨rfl, hx⟩; obtain rfl := hx.symm))
        go_wp2_with fail
        refine (finish_tok p bo bs L xs s gap start v 6 (start + 1) _ _ acc w _ (unhide HSN) hs (by omega) (by omega) rfl (by omega) hlt (by have := unhide HC; omega) (unhide HT)).mono ?_
        rintro e w4 ⟨rfl, acc', v', hsn'⟩
        go_wp2_with fail
        go_roundg (s.size - (start + 1))
        case measure => omega
        case rel => exact ⟨start + 1, start + 1, acc', v', rfl, hsn'⟩
    · go_wp2_with fail
      go_region_held (fun w' => w'.cell? ⟨p, 3, none⟩ = some (.string s) ∧ w'.cell? ⟨p, 5, none⟩ = some (.int .i64 (start : Int))) (go_keep) (fail)
      go_wp2_with fail
      have HSN := hide (unhide hsn).drew
      have HE := hide (show start = s.size by omega)
      clear hsn
      refine (finish_at p bo bs L xs s gap start v 7 start _ _ acc w _ (unhide HSN) hs (Nat.le_refl _) le2 rfl rfl).mono ?_
      rintro e w4 ⟨rfl, g, cap, hsc, hown, hgp, hkp⟩
      have HKP := hide hkp
      clear hkp
      go_wp2_with fail
      rw [Exit.noGoto_normal]
      go_end0
      refine ⟨rfl, g, cap, acc ++ [⟨7, s.extract gap start, s.extract start start⟩], hide ?_, ?_, hide ?_, hide ?_, ?_⟩
      · rw [List.length_append]; exact (unhide hsc).c6
      · exact ((unhide hown).lt g rfl).1
      · have ho : w4.ownsRow p 60 3 (.slice (some ⟨g, 0, none⟩) (acc ++ [(⟨7, s.extract gap start, s.extract start start⟩ : TokR)]).length cap) (acc ++ [(⟨7, s.extract gap start, s.extract start start⟩ : TokR)]).length (cellsTk (acc ++ [(⟨7, s.extract gap start, s.extract start start⟩ : TokR)])) := by
          rw [List.length_append]; exact unhide hown
        exact (owns_filledT ho).2
      · have h1 := (unhide HSN)
        have h2 := h1.rd.done (by have := h1.le1; have := h1.le2; omega) (unhide HE ▸ h1.bl)
        rw [extract_none, unhide HE]
        exact h2
      · have h1 := (unhide HSN)
        refine h1.bel.trans ⟨(unhide HKP).os, (unhide HKP).tape, (unhide HKP).output, (unhide HKP).size, fun i hi => (unhide HKP).block i (by have := h1.lt; omega) (by omega) (fun e => ?_)⟩
        have := (h1.own.lt i e.symm).1
        omega
end Go.Proofs.Ytokabkhnidlcnaa

/-
  Walk: the specification's Lex.
-/
namespace Go.Proofs.Ytokabkhnidlcnaa
set_option maxRecDepth 100000
open Go.RowKit

theorem code_ok {xs : List OpR} (h : IsCode xs 0) : okTo xs xs.length := by
  rcases h with ⟨h, _⟩ | ⟨_, ⟨h, _⟩ | ⟨h, _⟩⟩
  · exact absurd h (by decide)
  · exact absurd h (by decide)
  · exact h

set_option maxHeartbeats 4000000 in
theorem specLex_any (b off cap : Nat) (xs : List OpR) (s : ByteArray) (w : World) (hm : xs.length ≤ 1048576) (hw : Ops w b off xs) (hsz : Sized xs) (hB : b < w.heap.size) (hs : s.size ≤ maxLen) :
    Calls Try.prog 7 #[.agg #[.slice (some ⟨b, off, none⟩) xs.length cap], .string s] w fun e w' => (∃ (g c : Nat) (us : List TokR) (v : Bool), e = .returned (.tuple #[.slice (some ⟨g, 0, none⟩) us.length c, .bool v]) ∧ w.heap.size ≤ g ∧ FilledT w' g us us.length ∧ LexIs xs (IsCode xs 0) s us v) ∧ Below w.heap.size w w' := by
  unfold maxLen at hs
  have HW := hide hw
  have HS := hide hsz
  clear hw hsz
  go_enter Try.func7, Try.ntmps7
  go_wp2_with fail
  refine (specTableOk_any b off cap xs _ hm ((unhide HW).below ((below1 _ _).alloc (by simp) _) hB) (unhide HS) (by simp; omega)).mono ?_
  rintro e w1 ⟨⟨c, rfl, hc⟩, hb1⟩
  have HC := hide hc
  have z1 : w.heap.size + 2 ≤ w1.heap.size := by have := hb1.size; simp at this; omega
  have bel1 : Below w.heap.size w w1 := ((below1 _ _).alloc (by simp) _).trans (hb1.mono (by simp; omega))
  have c1 : w1.cell? ⟨w.heap.size, 0, none⟩ = some (.slice (some ⟨b, off, none⟩) xs.length cap) := by rw [hb1.cell (p := ⟨w.heap.size, 0, none⟩) (by simp; omega)]; simp [go_sem]
  have HO := hide (show w1.ownsRow (w.heap.size + 1) 60 3 (.slice (some ⟨w.heap.size + 1, 0, none⟩) 0 0) 0 (cellsTk []) by
    have h0 := World.ownsRow_lit (base := w.heap.size + 1) (e := 60) (size := 3) (w.alloc (.cells #[.slice (some ⟨b, off, none⟩) xs.length cap] 25)) #[] 0 (by simp) (Nat.zero_le _) rfl
    have h1 := h0.kept (grown_bel hb1 none) (Or.inr (by simp [Value.ownBlock]))
    simpa [cellsTk] using h1)
  have bel1' : Below (w.heap.size + 1) (w.alloc (.cells #[.slice (some ⟨b, off, none⟩) xs.length cap] 25)) w1 := ((below1 _ _).mono (by simp)).trans (hb1.mono (by simp))
  clear hb1 hc
  by_cases hc0 : c = 0
  case neg =>
    have hc0' : (c != 0) = true := by simpa using hc0
    have HN := hide (show ¬ (IsCode xs 0 ∧ s.size ≤ 20000) from fun h => hc0 (IsCode_one (unhide HC) h.1))
    clear hc0
    go_wp2_with fail
    go_ret2
    obtain ⟨hg, hf⟩ := owns_filledT (zs := []) (unhide HO)
    exact ⟨⟨w.heap.size + 1, 0, [], false, rfl, by omega, hf, Or.inr ⟨unhide HN, rfl, rfl⟩⟩, bel1⟩
  subst hc0
  by_cases h2 : 20000 < s.size
  · have HN := hide (show ¬ (IsCode xs 0 ∧ s.size ≤ 20000) from fun h => by omega)
    have h2' : (20000 : Int) < (s.size : Int) := by omega
    go_wp2_with fail
    go_ret2
    obtain ⟨hg, hf⟩ := owns_filledT (zs := []) (unhide HO)
    exact ⟨⟨w.heap.size + 1, 0, [], false, rfl, by omega, hf, Or.inr ⟨unhide HN, rfl, rfl⟩⟩, bel1⟩
  have HV := hide (signTexts_of (code_ok (unhide HC)))
  have HK := hide (kinds_of (code_ok (unhide HC)))
  have h20 : s.size ≤ 20000 := by omega
  clear hs h2
  go_wp2_with fail
  obtain ⟨i0, hi, hz0, hz1, hz2⟩ := info_parts infoT
  have HI := hide hi
  have HZ := hide (And.intro hz0 (And.intro hz1 hz2))
  clear hi hz0 hz1 hz2 c1
  go_loopw [6, 7] (fun out i wr => ∃ (p go co : Nat) (acc : List TokR), p ≤ s.size ∧ i = .int .i64 (p : Int) ∧ out = .slice (some ⟨go, 0, none⟩) acc.length co ∧ Hid (Read xs s p acc) ∧ Hid (wr.ownsRow (w.heap.size + 1) 60 3 (.slice (some ⟨go, 0, none⟩) acc.length co) acc.length (cellsTk acc)) ∧ Below (w.heap.size + 1) (w.alloc (.cells #[.slice (some ⟨b, off, none⟩) xs.length cap] 25)) wr) (fun _ i _ => s.size - (intOf i).toNat)
  case atStart => exact ⟨0, w.heap.size + 1, 0, [], Nat.zero_le _, rfl, rfl, hide (Read.start xs s), HO, bel1'⟩
  case round =>
    clear HO bel1'
    obtain ⟨p, go, co, acc, hp, rfl, rfl, hrd, hown, hbel⟩ := hrel
    have hbw : Below w.heap.size w wr := (below1 _ _).trans (hbel.mono (by omega))
    have zw : w.heap.size < wr.heap.size := by have := hbel.size; simp at this; omega
    have c0 : wr.cell? ⟨w.heap.size, 0, none⟩ = some (.slice (some ⟨b, off, none⟩) xs.length cap) := by
      rw [hbel.cell (p := ⟨w.heap.size, 0, none⟩) (show w.heap.size < _ by omega)]; simp [go_sem]
    go_wp2_with fail
    go_loop [7] (fun iv => ∃ j : Nat, p ≤ j ∧ j ≤ s.size ∧ iv = .int .i64 (j : Int) ∧ Hid (Blanks s p j)) (fun iv => s.size - (intOf iv).toNat)
    case atStart => exact ⟨p, Nat.le_refl _, hp, rfl, hide (fun q h1 h2 => by omega)⟩
    case round =>
      obtain ⟨j, hpj, hj, rfl, hbl⟩ := hrel
      by_cases hlt : j < s.size
      · cases hb : decide (cls s[j] = 1)
        · have hnb := hide (show cls (bt s j) ≠ 1 by rw [bt_get hlt] at hb; simpa using hb)
          have hj' : ((j : Int) == (s.size : Int)) = false := by simp; omega
          have hal : acc.length ≤ 20000 := by have := (unhide hrd).1; omega
          go_wp2_with (go_at_call 28; refine (l2Blank_any _ _).mono ?_; rintro e w2 ⟨rfl, hx⟩; obtain rfl := hx.symm)
          refine (l2Longest_any b off cap xs s j _ hm ((unhide HW).below hbw hB) (by omega) (unhide HK) (by omega) hlt).mono ?_
          rintro e w2 ⟨⟨n, rfl, hn⟩, hb2⟩
          have htok := longest_tok (unhide HV) hn (unhide hnb)
          have hjn : j + n ≤ s.size := htok.2.1
          have hn1 : 1 ≤ n := htok.1
          have HT := hide htok
          have hbel2 := hbel.trans (hb2.mono zw)
          have hbw2 : Below w.heap.size w w2 := (below1 _ _).trans (hbel2.mono (by omega))
          have z2 : w.heap.size < w2.heap.size := Nat.lt_of_lt_of_le zw hb2.size
          have hown2 := hide ((unhide hown).kept (grown_bel hb2 none) (Or.inr (by simp [Value.ownBlock])))
          have d0 : w2.cell? ⟨w.heap.size, 0, none⟩ = some (.slice (some ⟨b, off, none⟩) xs.length cap) := (hb2.cell (p := ⟨w.heap.size, 0, none⟩) zw).trans c0
          have hwr : IntKind.i64.wrap ((j : Int) + (n : Int)) = (j : Int) + (n : Int) := by rw [IntKind.wrap_i64]; omega
          have hs1 : (j : Int) ≤ (j : Int) + (n : Int) := by omega
          have hs2 : (j : Int) + (n : Int) ≤ (s.size : Int) := by omega
          have hs3 : (0 : Int) ≤ (j : Int) + (n : Int) := by omega
          have htn : ((j : Int) + (n : Int)).toNat = j + n := by omega
          have hs4 : (p : Int) ≤ (j : Int) := by omega
          have hs5 : (j : Int) ≤ (s.size : Int) := by omega
          have zb : b < w2.heap.size := by omega
          clear hn htok hb2 hown hbel hbw c0
          go_wp2_with fail
          go_region_held_law (fun w' => w'.cell? ⟨w.heap.size, 0, none⟩ = some (.slice (some ⟨b, off, none⟩) xs.length cap)) (go_keep)
            (first | (go_at_call 30; refine (l2Kind_any b off cap xs (sub s j n) _ hm ((unhide HW).below hbw2.drew hB) zb (unhide HK) (by rw [sub_size hjn]; unfold maxLen; omega)).mono ?_; rintro e w3 ⟨rfl, hb3⟩; have c3 := (hb3.cell (p := ⟨w.heap.size, 0, none⟩) z2).trans (show w2.drew.cell? ⟨w.heap.size, 0, none⟩ = _ from d0); have hbel3 := hbel2.drew.trans (hb3.mono z2); have hown3 := hide ((unhide hown2).drew.kept (grown_bel hb3 none) (Or.inr (by simp [Value.ownBlock]))); have z3 := Nat.lt_of_lt_of_le z2 hb3.size; have hgo := hide ((unhide hown3).lt go rfl)) | (refine step_append_lies _ (by rfl) (.tmp 49) (.tmp 69) 28 (by rfl) (w.heap.size + 1) 60 i0 _ 3 40 Try.underlying28 (unhide HI) (unhide HZ).1 (unhide HZ).2.1 (unhide HZ).2.2 rfl (by decide) _ acc.length (cellsTk acc) (by rfl) ((unhide hown3).alloc _) ⟨w3.heap.size, 0, none⟩ 1 1 (cellsTk [⟨(kindT xs (sub s j n) : Int), s.extract p j, s.extract j (j + n)⟩]) (by rfl) rfl (new_newsT w3 ⟨(kindT xs (sub s j n) : Int), s.extract p j, s.extract j (j + n)⟩) (cellsTk_one' _) (by decide) (by unfold maxLen; omega) (by omega) (by simp; omega) _ rfl ?_; intro g4 c4 w4 hown4 hgrow4 _ hlt4; have q4 := (hgrow4.cell_far ⟨w.heap.size, 0, none⟩ (by simp; omega) (by have := unhide hgo; simp [Value.ownBlock]; omega)).trans (((below1 w3 _).cell (p := ⟨w.heap.size, 0, none⟩) z3).trans c3); simp only [List.getElem_toArray, List.getElem_cons_succ, List.getElem_cons_zero]; simp only [Act.put, List.setIfInBounds_toArray, List.set_cons_zero, List.set_cons_succ]))
          have hbel4 : Below (w.heap.size + 1) _ w4 := (hbel3.alloc z3 _).grown hgrow4 (by simp; omega) (fun q hq => by have := unhide hgo; simp [Value.ownBlock] at hq; omega)
          rw [← cellsTk_append] at hown4
          have hl4 : acc.length + 1 = (acc ++ [(⟨(kindT xs (sub s j n) : Int), s.extract p j, s.extract j (j + n)⟩ : TokR)]).length := by simp
          rw [hl4] at hown4 ⊢
          have HW4 := hide hown4
          clear hown4 hgrow4 hown3 hown2 hbel3 hbel2 c3 q4
          go_wp2
          refine ⟨⟨j + n, g4, c4, _, hjn, by go_num, rfl, hide ((unhide hrd).step hpj hlt (unhide hbl) (unhide hnb) (unhide HT)), HW4, hbel4⟩, by simp [intOf]; omega⟩
        · have Hb := hide (show Blanks s p (j + 1) from fun q h1 h2 => by
            by_cases e : q = j
            · subst e
              rw [bt_get hlt] at hb
              simpa using hb
            · exact (unhide hbl) q h1 (by omega))
          go_wp2_with (go_at_call 28; refine (l2Blank_any _ _).mono ?_; rintro e w' ⟨rfl, rfl⟩)
          exact ⟨⟨j + 1, by omega, by omega, by go_num, Hb⟩, by simp [intOf]; omega⟩
      · have HJ := hide (show j = s.size by omega)
        have hj' : ((j : Int) == (s.size : Int)) = true := by simp; omega
        have hal : acc.length ≤ 20000 := by have := (unhide hrd).1; omega
        go_wp2_with (at_builtin; refine wpList_append_own _ rfl (.tmp 37) (.tmp 43) 28 rfl (w.heap.size + 1) 60 i0 _ 3 40 Try.underlying28 (unhide HI) (unhide HZ).1 (unhide HZ).2.1 (unhide HZ).2.2 rfl (by decide) _ acc.length (cellsTk acc) rfl ((unhide hown).alloc _) ⟨wr.heap.size, 0, none⟩ 1 1 (cellsTk [⟨7, s.extract p j, ⟨#[]⟩⟩]) rfl rfl (new_newsT wr ⟨7, s.extract p j, ⟨#[]⟩⟩) (cellsTk_one' _) ?b1 ?b2 ?b3 ?next)
        case b1 => unfold maxLen; omega
        case b2 => omega
        case b3 => have := hbel.size; simp; omega
        case next =>
          intro v4 w4 hown4 hgrow4 hnil4
          have hgo := (unhide hown).lt go rfl
          have hbel4 : Below w.heap.size w w4 := (hbw.alloc hbw.size _).grown hgrow4 (by have := hbw.size; simp; omega) (fun q hq => by simp [Value.ownBlock] at hq; omega)
          obtain ⟨g4, c4, rfl⟩ := owns_bval hown4 (by simp [hnil4])
          rw [← cellsTk_append] at hown4
          have hl4 : acc.length + 1 = (acc ++ [(⟨7, s.extract p j, ⟨#[]⟩⟩ : TokR)]).length := by simp
          rw [hl4] at hown4 ⊢
          have HW4 := hide hown4
          clear hown4 hgrow4 hnil4
          go_wp2
          go_ret2
          obtain ⟨hg, hf⟩ := owns_filledT (unhide HW4)
          have hdn := (unhide hrd).done hp (unhide HJ ▸ unhide hbl)
          rw [← unhide HJ] at hdn
          exact ⟨⟨g4, c4, _, true, rfl, by omega, hf, Or.inl ⟨⟨unhide HC, h20⟩, rfl, hdn⟩⟩, hbel4⟩
end Go.Proofs.Ytokabkhnidlcnaa
