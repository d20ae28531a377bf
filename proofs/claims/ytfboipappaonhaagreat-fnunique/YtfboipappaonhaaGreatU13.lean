import Derived.Test.YtfboipappaonhaaGreatU12

/-
  Walks: tables of which one operator is spoilt.
-/
namespace Go.Proofs.YtfboipappaonhaaGreat
set_option maxRecDepth 100000
set_option linter.unusedSimpArgs false
set_option linter.unusedVariables false
open Go.RowKit

/-- One operator of a row is another. -/
theorem Filled.put {w : World} {g i : Nat} {xs : List OpR} (h : Filled w g xs xs.length) (hi : i < xs.length) (o : OpR) :
    Filled (w.setCells g (i * 4) [.string o.s, .int .i64 o.k, .int .i64 o.l, .int .i64 o.sd]) g (xs.set i o) (xs.set i o).length := by
  obtain ⟨h1, h2, h3⟩ := h
  have hin := World.cell?_setCells_in g [.string o.s, .int .i64 o.k, .int .i64 o.l, .int .i64 o.sd] (i * 4) w (fun j hj => by
    have := (h2 (i * 4 + j) (by simp at hj; omega)).1
    simpa using this)
  refine ⟨?_, ?_, fun j hj => ?_⟩
  · simpa [World.setCells, World.setCell] using h1
  · rw [List.length_set]; exact World.there_setCells h2 _ _ _
  · rw [List.length_set] at hj
    by_cases e : j = i
    · subst e
      have a0 := hin 0 (by simp)
      have a1 := hin 1 (by simp)
      have a2 := hin 2 (by simp)
      have a3 := hin 3 (by simp)
      have ea : atO (xs.set j o) j = o := by unfold atO; simp [List.getD, hj]
      unfold CellsAt
      rw [ea]
      exact ⟨by simpa using a0, by simpa using a1, by simpa using a2, by simpa using a3⟩
    · obtain ⟨c0, c1, c2, c3⟩ := h3 j hj
      have ea : atO (xs.set i o) j = atO xs j := by unfold atO; simp [List.getD, List.getElem?_set, Ne.symm e]
      have out : ∀ t, t < 4 → (w.setCells g (i * 4) [.string o.s, .int .i64 o.k, .int .i64 o.l, .int .i64 o.sd]).cell? ⟨g, 0 + j * 4 + t, none⟩ = w.cell? ⟨g, 0 + j * 4 + t, none⟩ := fun t ht => by
        simp only [World.setCells]
        rw [World.cell?_setCell_other _ _ _ _ (fun x => by injection x with _ x; omega), World.cell?_setCell_other _ _ _ _ (fun x => by injection x with _ x; omega), World.cell?_setCell_other _ _ _ _ (fun x => by injection x with _ x; omega), World.cell?_setCell_other _ _ _ _ (fun x => by injection x with _ x; omega)]
      unfold CellsAt
      rw [ea]
      exact ⟨(out 0 (by omega)).trans c0, (out 1 (by omega)).trans c1, (out 2 (by omega)).trans c2, (out 3 (by omega)).trans c3⟩
end Go.Proofs.YtfboipappaonhaaGreat

/-
  Walks: blanks and words that are drawn.
-/
namespace Go.Proofs.YtfboipappaonhaaGreat
set_option maxRecDepth 100000
set_option linter.unusedSimpArgs false
set_option linter.unusedVariables false
open Go.RowKit

/-- The blanks that a number makes. -/
def gapN (k : Nat) : ByteArray := if k % 5 = 0 then ⟨#[32]⟩ else if k % 5 = 2 then ⟨#[10, 9]⟩ else if k % 5 = 3 then ⟨#[32, 32]⟩ else ⟨#[]⟩

theorem gapN_size (k : Nat) : (gapN k).size ≤ 2 := by
  unfold gapN
  repeat' split
  all_goals decide

set_option maxHeartbeats 4000000 in
theorem l2Gap_any (rp cap p : Nat) (a : Option Addr) (bs : List UInt8) (w : World) (h : RdS w rp a cap bs p) (hl : bs.length ≤ 1200) :
    Calls Tryz.prog 113 #[.pointer (some ⟨rp, 0, none⟩)] w fun e w' => (∃ g : ByteArray, e = .returned (.string g) ∧ Hid (g = gapN (nxt bs p))) ∧ Hid (RdS w' rp a cap bs (adv bs p)) ∧ Hid (Kept1 w w' rp) := by
  have H := hide h
  clear h
  go_enter Tryz.func113, Tryz.ntmps113
  go_wp2_with fail
  refine (next_at rp cap p a bs _ (unhide H) hl).mono ?_
  rintro e w1 ⟨⟨k, rfl, hk, HK⟩, H1, HP1⟩
  clear H
  have hcs : k % 5 = 0 ∨ k % 5 = 1 ∨ k % 5 = 2 ∨ k % 5 = 3 ∨ k % 5 = 4 := by omega
  rcases hcs with hc | hc | hc | hc | hc
  · have HC := hide hc
    have e0 : ((k : Int) % 5 == 0) = true := by simp; omega
    clear hc
    go_wp2_with fail
    go_ret
    exact ⟨⟨_, rfl, hide (by rw [← unhide HK]; simp [gapN, unhide HC])⟩, H1, HP1⟩
  · have HC := hide hc
    have e0 : ((k : Int) % 5 == 0) = false := by simp; omega
    have e1 : ((k : Int) % 5 == 1) = true := by simp; omega
    clear hc
    go_wp2_with fail
    go_ret
    exact ⟨⟨_, rfl, hide (by rw [← unhide HK]; simp [gapN, unhide HC])⟩, H1, HP1⟩
  · have HC := hide hc
    have e0 : ((k : Int) % 5 == 0) = false := by simp; omega
    have e1 : ((k : Int) % 5 == 1) = false := by simp; omega
    have e2 : ((k : Int) % 5 == 2) = true := by simp; omega
    clear hc
    go_wp2_with fail
    go_ret
    exact ⟨⟨_, rfl, hide (by rw [← unhide HK]; simp [gapN, unhide HC])⟩, H1, HP1⟩
  · have HC := hide hc
    have e0 : ((k : Int) % 5 == 0) = false := by simp; omega
    have e1 : ((k : Int) % 5 == 1) = false := by simp; omega
    have e2 : ((k : Int) % 5 == 2) = false := by simp; omega
    have e3 : ((k : Int) % 5 == 3) = true := by simp; omega
    clear hc
    go_wp2_with fail
    go_ret
    exact ⟨⟨_, rfl, hide (by rw [← unhide HK]; simp [gapN, unhide HC])⟩, H1, HP1⟩
  · have HC := hide hc
    have e0 : ((k : Int) % 5 == 0) = false := by simp; omega
    have e1 : ((k : Int) % 5 == 1) = false := by simp; omega
    have e2 : ((k : Int) % 5 == 2) = false := by simp; omega
    have e3 : ((k : Int) % 5 == 3) = false := by simp; omega
    clear hc
    go_wp2_with fail
    go_ret
    exact ⟨⟨_, rfl, hide (by rw [← unhide HK]; simp [gapN, unhide HC])⟩, H1, HP1⟩

theorem conv1W (W : World) (c : Int) : (convert 22 9 (.slice (some ⟨W.heap.size, 0, none⟩) 1 1)).run Tryz.prog (W.alloc (.cells #[.int .u8 c] 5)) = .ok (.string ⟨#[UInt8.ofNat c.toNat]⟩) (W.alloc (.cells #[.int .u8 c] 5)) := by
  rw [run_convert_bytes_string _ 22 9 5 _ _ _ Tryz.underlying22 Tryz.underlying5 Tryz.underlying9]
  have hl : (loadCells ⟨W.heap.size, 0, none⟩ 1).run Tryz.prog (W.alloc (.cells #[.int .u8 c] 5)) = .ok ([c].map (Value.int .u8)).toArray (W.alloc (.cells #[.int .u8 c] 5)) :=
    run_loadCells_list (P := Tryz.prog) _ ⟨W.heap.size, 0, none⟩ [.int .u8 c] (fun j v hv => by
      match j, hv with
      | 0, hv => simp at hv; subst hv; simp [Addr.add, go_sem])
  rw [run_bytesToString _ ⟨W.heap.size, 0, none⟩ 1 1 [c] hl]
  rfl

/-- The word that is drawn at a place, and the place behind it. -/
def wordN (xs : List OpR) (bs : List UInt8) (p : Nat) : ByteArray :=
  if nxt bs p % 8 < 4 ∧ 0 < xs.length then (atO xs (nxt bs p / 8 % xs.length)).s
  else if nxt bs p % 8 = 4 then ⟨#[40]⟩ else if nxt bs p % 8 = 5 then ⟨#[41]⟩
  else if nxt bs p % 8 = 6 then (⟨#[97, 49, 95, 98]⟩ : ByteArray).extract 0 (1 + nxt bs p / 8 % 4)
  else if 240 ≤ nxt bs p then txN (nxt bs p)
  else if 224 ≤ nxt bs p then ⟨#[(nxt bs (adv bs p)).toUInt8]⟩
  else (⟨#[49, 48, 50, 55]⟩ : ByteArray).extract (nxt bs p / 8 % 4) 4
def wordP (xs : List OpR) (bs : List UInt8) (p : Nat) : Nat :=
  if nxt bs p % 8 < 4 ∧ 0 < xs.length then adv bs p
  else if nxt bs p % 8 = 4 then adv bs p else if nxt bs p % 8 = 5 then adv bs p
  else if nxt bs p % 8 = 6 then adv bs p
  else if 240 ≤ nxt bs p then adv bs p
  else if 224 ≤ nxt bs p then adv bs (adv bs p)
  else adv bs p

set_option maxHeartbeats 4000000 in
theorem l2DrawWord_any (rp cap p g c : Nat) (a : Option Addr) (bs : List UInt8) (xs : List OpR) (w : World) (h : RdS w rp a cap bs p) (hl : bs.length ≤ 1200) (hm : xs.length ≤ 1048576) (hx : Ops w g 0 xs) (hg : g < w.heap.size) (hne : g ≠ rp) :
    Calls Tryz.prog 112 #[.pointer (some ⟨rp, 0, none⟩), .agg #[.slice (some ⟨g, 0, none⟩) xs.length c]] w fun e w' => (∃ s : ByteArray, e = .returned (.string s) ∧ Hid (s = wordN xs bs p)) ∧ Hid (RdS w' rp a cap bs (wordP xs bs p)) ∧ Hid (Kept1 w w' rp) := by
  have hrpw := h.lt
  have H := hide h
  clear h
  go_enter Tryz.func112, Tryz.ntmps112
  go_wp2_with fail
  refine (next_at rp cap p a bs _ ((unhide H).below (below1 _ _)) hl).mono ?_
  rintro e w1 ⟨⟨k, rfl, hk, HK⟩, H1, HP1⟩
  have HW := hide (show Kept1 w w1 rp from (Kept1.of_below (below1 _ _)).trans (unhide HP1))
  have z1 : w.heap.size + 1 ≤ w1.heap.size := by have := (unhide HP1).size; simpa using this
  have b0 : w1.cell? ⟨w.heap.size, 0, none⟩ = some (.slice (some ⟨g, 0, none⟩) xs.length c) := ((unhide HP1).cell (b := w.heap.size) (by simp) (by omega) 0).trans (by simp [go_sem])
  have HX := hide ((unhide HW).ops hx hg hne)
  clear H HP1 hx
  by_cases hA : k % 8 < 4 ∧ 0 < xs.length
  · obtain ⟨hA1, hA2⟩ := hA
    have HA := hide (And.intro hA1 hA2)
    have e0 : (k : Int) % 8 < 4 := by omega
    have e1 : (0 : Int) < (xs.length : Int) := by omega
    have hi : k / 8 % xs.length < xs.length := Nat.mod_lt _ hA2
    obtain ⟨a0, a1, a2, a3⟩ := (unhide HX) _ hi
    simp only [Nat.zero_add] at a0 a1 a2 a3
    clear hA1
    have e3 : ((xs.length : Int) == 0) = false := beq_eq_false_iff_ne.2 (by omega)
    have e4 : (k : Int) / 8 % (xs.length : Int) = ((k / 8 % xs.length : Nat) : Int) := by simp
    have e5 : ((k / 8 % xs.length : Nat) : Int) < (xs.length : Int) := by exact_mod_cast hi
    have HN := hide (show (atO xs (k / 8 % xs.length)).s = wordN xs bs p by simp [wordN, ← unhide HK, unhide HA])
    have HP := hide (show wordP xs bs p = adv bs p by simp [wordP, ← unhide HK, unhide HA])
    generalize k / 8 % xs.length = m at hi a0 a1 a2 a3 e4 e5 HN
    go_wp2_with fail
    go_quiet (fail)
    go_wp2_with fail
    go_ret
    rw [unhide HP]
    exact ⟨⟨_, rfl, HN⟩, hide ((unhide H1).drewN _), hide ((unhide HW).trans (kept1_drewN _ _ _))⟩
  · have HA := hide hA
    by_cases h4 : k % 8 = 4
    · have HC := hide h4
      have e0 : ¬ (k : Int) % 8 < 4 := by omega
      have e1 : ((k : Int) % 8 == 4) = true := by simp; omega
      have HN := hide (show (⟨#[40]⟩ : ByteArray) = wordN xs bs p by simp [wordN, ← unhide HK, unhide HC])
      have HP := hide (show wordP xs bs p = adv bs p by simp [wordP, ← unhide HK, unhide HC])
      clear h4 hA
      go_wp2_with fail
      go_ret
      rw [unhide HP]
      exact ⟨⟨_, rfl, HN⟩, H1, HW⟩
    by_cases h5 : k % 8 = 5
    · have HC := hide h5
      have e0 : ¬ (k : Int) % 8 < 4 := by omega
      have e1 : ((k : Int) % 8 == 4) = false := by simp; omega
      have e2 : ((k : Int) % 8 == 5) = true := by simp; omega
      have HN := hide (show (⟨#[41]⟩ : ByteArray) = wordN xs bs p by simp [wordN, ← unhide HK, unhide HC])
      have HP := hide (show wordP xs bs p = adv bs p by simp [wordP, ← unhide HK, unhide HC])
      clear h4 h5 hA
      go_wp2_with fail
      go_ret
      rw [unhide HP]
      exact ⟨⟨_, rfl, HN⟩, H1, HW⟩
    by_cases h6 : k % 8 = 6
    · have HC := hide h6
      have e0 : ¬ (k : Int) % 8 < 4 := by omega
      have e1 : ((k : Int) % 8 == 4) = false := by simp; omega
      have e2 : ((k : Int) % 8 == 5) = false := by simp; omega
      have e3 : ((k : Int) % 8 == 6) = true := by simp; omega
      have e4 : 1 + (k : Int) / 8 % 4 ≤ 4 := by omega
      have e5 : (0 : Int) ≤ 1 + (k : Int) / 8 % 4 := by omega
      have HN := hide (show (⟨#[97, 49, 95, 98]⟩ : ByteArray).extract 0 (1 + k / 8 % 4) = wordN xs bs p by simp [wordN, ← unhide HK, unhide HC])
      have HP := hide (show wordP xs bs p = adv bs p by simp [wordP, ← unhide HK, unhide HC])
      clear h4 h5 h6 hA
      go_wp2_with fail
      go_ret
      rw [unhide HP]
      exact ⟨⟨_, rfl, HN⟩, H1, HW⟩
    have h7 : (k % 8 < 4 ∧ xs.length = 0) ∨ k % 8 = 7 := by omega
    have HC := hide (show ¬ (k % 8 < 4 ∧ 0 < xs.length) ∧ ¬ k % 8 = 4 ∧ ¬ k % 8 = 5 ∧ ¬ k % 8 = 6 from ⟨hA, h4, h5, h6⟩)
    have e1 : ((k : Int) % 8 == 4) = false := by simp; omega
    have e2 : ((k : Int) % 8 == 5) = false := by simp; omega
    have e3 : ((k : Int) % 8 == 6) = false := by simp; omega
    clear h4 h5 h6 hA
    rcases h7 with ⟨h7, h8⟩ | h7
    · have e0 : (k : Int) % 8 < 4 := by omega
      have e4 : ¬ (0 : Int) < (xs.length : Int) := by omega
      clear h7 h8
      by_cases hb : 240 ≤ k
      · have HB := hide hb
        have e5 : (240 : Int) ≤ (k : Int) := by omega
        have HN := hide (show txN k = wordN xs bs p by simp [wordN, ← unhide HK, unhide HC, unhide HB])
        have HP := hide (show wordP xs bs p = adv bs p by simp [wordP, ← unhide HK, unhide HC, unhide HB])
        clear hb
        go_wp2_with (go_at_call 150; refine (l1Text_any _ _ (by omega)).mono ?_; rintro e w3 ⟨rfl, hx⟩; obtain rfl := hx.symm)
        go_ret
        rw [unhide HP]
        exact ⟨⟨_, rfl, HN⟩, H1, HW⟩
      by_cases hd : 224 ≤ k
      · have HD := hide (And.intro hb hd)
        have e5 : ¬ (240 : Int) ≤ (k : Int) := by omega
        have e6 : (224 : Int) ≤ (k : Int) := by omega
        have HN := hide (show (⟨#[(nxt bs (adv bs p)).toUInt8]⟩ : ByteArray) = wordN xs bs p by simp [wordN, ← unhide HK, unhide HC, unhide HD])
        have HP := hide (show wordP xs bs p = adv bs (adv bs p) by simp [wordP, ← unhide HK, unhide HC, unhide HD])
        clear hb hd
        go_wp2_with fail
        refine (next_at rp cap _ a bs _ (unhide H1) hl).mono ?_
        rintro e w2 ⟨⟨v, rfl, hv, HV⟩, H2, HP2⟩
        have HW2 := hide ((unhide HW).trans (unhide HP2))
        clear H1 HP2 b0
        have hcv := fun W c => conv1W W c
        go_wp2_with fail
        go_ret
        rw [unhide HP]
        refine ⟨⟨_, rfl, hide ?_⟩, hide ((unhide H2).below (below1 _ _)), hide ((unhide HW2).belowN (below1 _ _))⟩
        rw [← unhide HN, ← unhide HV]
      · have HD := hide (And.intro hb hd)
        have e5 : ¬ (240 : Int) ≤ (k : Int) := by omega
        have e6 : ¬ (224 : Int) ≤ (k : Int) := by omega
        have e7 : (k : Int) / 8 % 4 ≤ 4 := by omega
        have e8 : (0 : Int) ≤ (k : Int) / 8 % 4 := by omega
        have HN := hide (show (⟨#[49, 48, 50, 55]⟩ : ByteArray).extract (k / 8 % 4) 4 = wordN xs bs p by simp [wordN, ← unhide HK, unhide HC, unhide HD])
        have HP := hide (show wordP xs bs p = adv bs p by simp [wordP, ← unhide HK, unhide HC, unhide HD])
        clear hb hd
        go_wp2_with fail
        go_ret
        rw [unhide HP]
        exact ⟨⟨_, rfl, HN⟩, H1, HW⟩
    · have e0 : ¬ (k : Int) % 8 < 4 := by omega
      clear h7
      by_cases hb : 240 ≤ k
      · have HB := hide hb
        have e5 : (240 : Int) ≤ (k : Int) := by omega
        have HN := hide (show txN k = wordN xs bs p by simp [wordN, ← unhide HK, unhide HC, unhide HB])
        have HP := hide (show wordP xs bs p = adv bs p by simp [wordP, ← unhide HK, unhide HC, unhide HB])
        clear hb
        go_wp2_with (go_at_call 150; refine (l1Text_any _ _ (by omega)).mono ?_; rintro e w3 ⟨rfl, hx⟩; obtain rfl := hx.symm)
        go_ret
        rw [unhide HP]
        exact ⟨⟨_, rfl, HN⟩, H1, HW⟩
      by_cases hd : 224 ≤ k
      · have HD := hide (And.intro hb hd)
        have e5 : ¬ (240 : Int) ≤ (k : Int) := by omega
        have e6 : (224 : Int) ≤ (k : Int) := by omega
        have HN := hide (show (⟨#[(nxt bs (adv bs p)).toUInt8]⟩ : ByteArray) = wordN xs bs p by simp [wordN, ← unhide HK, unhide HC, unhide HD])
        have HP := hide (show wordP xs bs p = adv bs (adv bs p) by simp [wordP, ← unhide HK, unhide HC, unhide HD])
        clear hb hd
        go_wp2_with fail
        refine (next_at rp cap _ a bs _ (unhide H1) hl).mono ?_
        rintro e w2 ⟨⟨v, rfl, hv, HV⟩, H2, HP2⟩
        have HW2 := hide ((unhide HW).trans (unhide HP2))
        clear H1 HP2 b0
        have hcv := fun W c => conv1W W c
        go_wp2_with fail
        go_ret
        rw [unhide HP]
        refine ⟨⟨_, rfl, hide ?_⟩, hide ((unhide H2).below (below1 _ _)), hide ((unhide HW2).belowN (below1 _ _))⟩
        rw [← unhide HN, ← unhide HV]
      · have HD := hide (And.intro hb hd)
        have e5 : ¬ (240 : Int) ≤ (k : Int) := by omega
        have e6 : ¬ (224 : Int) ≤ (k : Int) := by omega
        have e7 : (k : Int) / 8 % 4 ≤ 4 := by omega
        have e8 : (0 : Int) ≤ (k : Int) / 8 % 4 := by omega
        have HN := hide (show (⟨#[49, 48, 50, 55]⟩ : ByteArray).extract (k / 8 % 4) 4 = wordN xs bs p by simp [wordN, ← unhide HK, unhide HC, unhide HD])
        have HP := hide (show wordP xs bs p = adv bs p by simp [wordP, ← unhide HK, unhide HC, unhide HD])
        clear hb hd
        go_wp2_with fail
        go_ret
        rw [unhide HP]
        exact ⟨⟨_, rfl, HN⟩, H1, HW⟩
end Go.Proofs.YtfboipappaonhaaGreat

/-
  Walk: a table of which one operator is spoilt.
-/
namespace Go.Proofs.YtfboipappaonhaaGreat
set_option maxRecDepth 100000
set_option linter.unusedSimpArgs false
set_option linter.unusedVariables false
open Go.RowKit

set_option maxHeartbeats 8000000 in
theorem l1SpoilOne_any (rp cap p g c : Nat) (a : Option Addr) (bs : List UInt8) (xs : List OpR) (w : World) (h : RdS w rp a cap bs p) (hl : bs.length ≤ 1200) (hm : xs.length ≤ 10) (hx : Filled w g xs xs.length) (hne : rp < g) (hb : ¬ (nxt bs p % 8 = 7 ∨ xs.length = 0)) (hsx : ∀ i, i < xs.length → (atO xs i).s.size ≤ 1000) :
    Calls Tryz.prog 62 #[.pointer (some ⟨rp, 0, none⟩), .agg #[.slice (some ⟨g, 0, none⟩) xs.length c]] w fun e w' => (∃ g' c', e = .returned (.agg #[.slice (some ⟨g', 0, none⟩) (badT xs bs p).length c']) ∧ (g' = g ∨ w.heap.size ≤ g') ∧ Filled w' g' (badT xs bs p) (badT xs bs p).length) ∧ Hid (RdS w' rp a cap bs (badP xs bs p)) ∧ Hid (KeptRG w w' rp g) := by
  have hrpw := h.lt
  have hgw := hx.1
  have H := hide h
  clear h
  go_enter Tryz.func62, Tryz.ntmps62
  go_wp2_with fail
  refine (next_at rp cap p a bs _ (((unhide H).below (below1 _ _)).below (below1 _ _)) hl).mono ?_
  rintro e w1 ⟨⟨k, rfl, hk, HK⟩, H1, HP1⟩
  go_wp2_with fail
  refine (next_at rp cap _ a bs _ (unhide H1) hl).mono ?_
  rintro e w2 ⟨⟨v, rfl, hv, HV⟩, H2, HP2⟩
  have HP := hide ((unhide HP1).trans (unhide HP2))
  have z2 : w.heap.size + 2 ≤ w2.heap.size := by have := (unhide HP).size; simpa using this
  have b0 : w2.cell? ⟨w.heap.size, 0, none⟩ = some (.slice (some ⟨g, 0, none⟩) xs.length c) := ((unhide HP).cell (b := w.heap.size) (by simp; omega) (by omega) 0).trans (by simp [go_sem])
  have r0 : w2.cell? ⟨w.heap.size + 1, 0, none⟩ = some (.slice none 0 0) := ((unhide HP).cell (b := w.heap.size + 1) (by simp) (by omega) 0).trans (by simp [go_sem])
  have r1 : w2.frozen? ⟨w.heap.size + 1, 0, none⟩ = false := ((unhide HP).frozen (b := w.heap.size + 1) (by simp) (by omega) 0).trans (by simp [go_sem])
  have HW := hide (show Kept1 w w2 rp from ((Kept1.of_below ((below1 _ _).alloc (by simp) _))).trans (unhide HP))
  have HX := hide ((unhide HW).filled hx (by omega))
  clear H H1 HP1 HP2 HP hx
  have hlen : 1 ≤ xs.length := by omega
  have hk7 : k % 8 ≠ 7 := by have := unhide HK; omega
  have HB := hide hb
  clear hb
  obtain ⟨i, HI⟩ : ∃ i, Hid (i = v % xs.length) := ⟨_, hide rfl⟩
  have hi : i < xs.length := by rw [unhide HI]; exact Nat.mod_lt _ (by omega)
  have hiI : (i : Int) < (xs.length : Int) := by omega
  have hsi := hsx i hi
  clear hsx
  have emod : (v : Int) % (xs.length : Int) = (i : Int) := by rw [unhide HI]; exact (Int.natCast_emod v xs.length).symm
  have hl0 : ¬ (xs.length : Int) = 0 := by omega
  have hl0' : ((xs.length : Int) == 0) = false := by simpa using hl0
  have e7 : ((k : Int) % 8 == 7) = false := by simp; omega
  obtain ⟨x0, x1, x2, x3⟩ := (unhide HX).ops i hi
  simp only [Nat.zero_add] at x0 x1 x2 x3
  have hgw2 : g < w2.heap.size := (unhide HX).1
  obtain ⟨y0, y1, y2, y3⟩ : w2.frozen? ⟨g, i * 4, none⟩ = false ∧ w2.frozen? ⟨g, i * 4 + 1, none⟩ = false ∧ w2.frozen? ⟨g, i * 4 + 2, none⟩ = false ∧ w2.frozen? ⟨g, i * 4 + 3, none⟩ = false := by
    have h := (unhide HX).2.1
    have f : ∀ j, j < 4 → w2.frozen? ⟨g, i * 4 + j, none⟩ = false := fun j hj => by
      have := (h (i * 4 + j) (by omega)).2
      simpa using this
    exact ⟨f 0 (by omega), f 1 (by omega), f 2 (by omega), f 3 (by omega)⟩
  have hT : w.heap.size < w2.heap.size := by omega
  have hR : w.heap.size + 1 < w2.heap.size := by omega
  have n1 : ¬ g = w.heap.size := by omega
  have n2 : ¬ w.heap.size = g := by omega
  have n3 : ¬ g = w.heap.size + 1 := by omega
  have n4 : ¬ w.heap.size + 1 = g := by omega
  have n5 : ¬ w2.heap.size = g := by omega
  have n6 : ¬ g = w2.heap.size := by omega
  have hcase : k % 8 = 0 ∨ k % 8 = 1 ∨ k % 8 = 2 ∨ k % 8 = 3 ∨ k % 8 = 4 ∨ k % 8 = 5 ∨ k % 8 = 6 := by omega
  have HIX := hide (show badT xs bs p = xs.set i (badOp k (atO xs i) (drOp (nxt bs (adv bs (adv bs p))) (nxt bs (adv bs (adv bs (adv bs p)))) false)) by
    unfold badT
    rw [if_neg (unhide HB), ← unhide HV, ← unhide HI, ← unhide HK])
  rcases hcase with hc | hc | hc | hc | hc | hc | hc
  · have e8 : (k : Int) % 8 = 0 := by omega
    clear hk7 e7
    have HO := hide (show badOp k (atO xs i) (drOp (nxt bs (adv bs (adv bs p))) (nxt bs (adv bs (adv bs (adv bs p)))) false) = ⟨(⟨#[43, 45, 43, 45, 43, 45, 43, 45, 43, 45, 43, 45, 43, 45, 43, 45, 43]⟩ : ByteArray).extract 0 (16 + k / 8 % 2), (atO xs i).k, (atO xs i).l, (atO xs i).sd⟩ by simp [badOp, hc])
    have HPP := hide (show badP xs bs p = adv bs (adv bs p) by
      unfold badP
      rw [if_neg (unhide HB), if_neg (by rw [← unhide HK]; omega)])
    go_wp2_with fail
    rw [unhide HIX, unhide HPP, List.length_set, unhide HO]
    have hF := (unhide HX).put hi ⟨(⟨#[43, 45, 43, 45, 43, 45, 43, 45, 43, 45, 43, 45, 43, 45, 43, 45, 43]⟩ : ByteArray).extract 0 (16 + k / 8 % 2), (atO xs i).k, (atO xs i).l, (atO xs i).sd⟩
    rw [List.length_set] at hF
    refine bodyPost_ret (v := .agg #[.slice (some ⟨g, 0, none⟩) xs.length c]) ?res rfl ⟨⟨g, c, rfl, Or.inl rfl, ?_⟩, hide ?_, hide ?_⟩
    case res => simp [results, Tryz.results62, go_sem, r0, n3, n4, hR]
    · exact (hF.setCell ⟨w.heap.size + 1, 0, none⟩ _ (by simp; omega)).below (below1 _ _) (by simpa [World.setCells, World.setCell] using hgw2)
    · exact ((((((unhide H2).set g _ _ hne).set g _ _ hne).set g _ _ hne).set g _ _ hne).set (w.heap.size + 1) _ _ (by omega)).below (below1 _ _)
    · exact ((((((KeptRG.of1 (unhide HW)).setG _ _).setG _ _).setG _ _).setG _ _).setNew (b := w.heap.size + 1) _ _ (by omega)).below (below1 _ _)
  · have e8 : (k : Int) % 8 = 1 := by omega
    clear hk7 e7
    have HO := hide (show badOp k (atO xs i) (drOp (nxt bs (adv bs (adv bs p))) (nxt bs (adv bs (adv bs (adv bs p)))) false) = ⟨(atO xs i).s ++ ⟨#[UInt8.ofNat k]⟩, (atO xs i).k, (atO xs i).l, (atO xs i).sd⟩ by simp [badOp, hc])
    have HPP := hide (show badP xs bs p = adv bs (adv bs p) by
      unfold badP
      rw [if_neg (unhide HB), if_neg (by rw [← unhide HK]; omega)])
    have hcv : (convert 22 9 (.slice (some ⟨w2.heap.size + 1, 0, none⟩) 1 1)).run Tryz.prog ((w2.alloc (.cells #[.string (atO xs i).s, .int .i64 (atO xs i).k, .int .i64 (atO xs i).l, .int .i64 (atO xs i).sd] 123)).alloc (.cells #[.int .u8 (k : Int)] 5)) = .ok (.string ⟨#[UInt8.ofNat k]⟩) ((w2.alloc (.cells #[.string (atO xs i).s, .int .i64 (atO xs i).k, .int .i64 (atO xs i).l, .int .i64 (atO xs i).sd] 123)).alloc (.cells #[.int .u8 (k : Int)] 5)) := by
      have := conv1W (w2.alloc (.cells #[.string (atO xs i).s, .int .i64 (atO xs i).k, .int .i64 (atO xs i).l, .int .i64 (atO xs i).sd] 123)) (k : Int)
      simpa using this
    go_wp2_with fail
    rw [unhide HIX, unhide HPP, List.length_set, unhide HO]
    have hF := (unhide HX).put hi ⟨(atO xs i).s ++ ⟨#[UInt8.ofNat k]⟩, (atO xs i).k, (atO xs i).l, (atO xs i).sd⟩
    rw [List.length_set] at hF
    refine bodyPost_ret (v := .agg #[.slice (some ⟨g, 0, none⟩) xs.length c]) ?res rfl ⟨⟨g, c, rfl, Or.inl rfl, ?_⟩, hide ?_, hide ?_⟩
    case res =>
      have hR2 : w.heap.size + 1 < w2.heap.size + 1 := by omega
      have hR3 : w.heap.size < w2.heap.size := by omega
      simp [results, Tryz.results62, go_sem, r0, n3, n4, hR, hR2, hR3]
    · exact (hF.setCell ⟨w.heap.size + 1, 0, none⟩ _ (by simp; omega)).below ((below1 _ _).alloc (by simp) _) (by simpa [World.setCells, World.setCell] using hgw2)
    · exact ((((((unhide H2).set g _ _ hne).set g _ _ hne).set g _ _ hne).set g _ _ hne).set (w.heap.size + 1) _ _ (by omega)).below ((below1 _ _).alloc (by simp) _)
    · exact ((((((KeptRG.of1 (unhide HW)).setG _ _).setG _ _).setG _ _).setG _ _).setNew (b := w.heap.size + 1) _ _ (by omega)).below ((below1 _ _).alloc (by simp) _)
  · have e8 : (k : Int) % 8 = 2 := by omega
    clear hk7 e7
    have HO := hide (show badOp k (atO xs i) (drOp (nxt bs (adv bs (adv bs p))) (nxt bs (adv bs (adv bs (adv bs p)))) false) = ⟨⟨#[]⟩, (atO xs i).k, (atO xs i).l, (atO xs i).sd⟩ by simp [badOp, hc])
    have HPP := hide (show badP xs bs p = adv bs (adv bs p) by
      unfold badP
      rw [if_neg (unhide HB), if_neg (by rw [← unhide HK]; omega)])
    go_wp2_with fail
    rw [unhide HIX, unhide HPP, List.length_set, unhide HO]
    have hF := (unhide HX).put hi ⟨⟨#[]⟩, (atO xs i).k, (atO xs i).l, (atO xs i).sd⟩
    rw [List.length_set] at hF
    refine bodyPost_ret (v := .agg #[.slice (some ⟨g, 0, none⟩) xs.length c]) ?res rfl ⟨⟨g, c, rfl, Or.inl rfl, ?_⟩, hide ?_, hide ?_⟩
    case res => simp [results, Tryz.results62, go_sem, r0, n3, n4, hR]
    · exact (hF.setCell ⟨w.heap.size + 1, 0, none⟩ _ (by simp; omega)).below (below1 _ _) (by simpa [World.setCells, World.setCell] using hgw2)
    · exact ((((((unhide H2).set g _ _ hne).set g _ _ hne).set g _ _ hne).set g _ _ hne).set (w.heap.size + 1) _ _ (by omega)).below (below1 _ _)
    · exact ((((((KeptRG.of1 (unhide HW)).setG _ _).setG _ _).setG _ _).setG _ _).setNew (b := w.heap.size + 1) _ _ (by omega)).below (below1 _ _)
  · have e8 : (k : Int) % 8 = 3 := by omega
    clear hk7 e7
    have HO := hide (show badOp k (atO xs i) (drOp (nxt bs (adv bs (adv bs p))) (nxt bs (adv bs (adv bs (adv bs p)))) false) = ⟨(atO xs i).s, (atO xs i).k, 1001 * ((k / 8 % 2 : Nat) : Int), (atO xs i).sd⟩ by simp [badOp, hc])
    have HPP := hide (show badP xs bs p = adv bs (adv bs p) by
      unfold badP
      rw [if_neg (unhide HB), if_neg (by rw [← unhide HK]; omega)])
    go_wp2_with fail
    rw [unhide HIX, unhide HPP, List.length_set, unhide HO]
    have hF := (unhide HX).put hi ⟨(atO xs i).s, (atO xs i).k, 1001 * ((k / 8 % 2 : Nat) : Int), (atO xs i).sd⟩
    rw [List.length_set] at hF
    refine bodyPost_ret (v := .agg #[.slice (some ⟨g, 0, none⟩) xs.length c]) ?res rfl ⟨⟨g, c, rfl, Or.inl rfl, ?_⟩, hide ?_, hide ?_⟩
    case res => simp [results, Tryz.results62, go_sem, r0, n3, n4, hR]
    · exact (hF.setCell ⟨w.heap.size + 1, 0, none⟩ _ (by simp; omega)).below (below1 _ _) (by simpa [World.setCells, World.setCell] using hgw2)
    · exact ((((((unhide H2).set g _ _ hne).set g _ _ hne).set g _ _ hne).set g _ _ hne).set (w.heap.size + 1) _ _ (by omega)).below (below1 _ _)
    · exact ((((((KeptRG.of1 (unhide HW)).setG _ _).setG _ _).setG _ _).setG _ _).setNew (b := w.heap.size + 1) _ _ (by omega)).below (below1 _ _)
  · have e8 : (k : Int) % 8 = 4 := by omega
    clear hk7 e7
    have HO := hide (show badOp k (atO xs i) (drOp (nxt bs (adv bs (adv bs p))) (nxt bs (adv bs (adv bs (adv bs p)))) false) = ⟨(atO xs i).s, ((k / 8 % 5 : Nat) : Int), (atO xs i).l, (atO xs i).sd⟩ by simp [badOp, hc])
    have HPP := hide (show badP xs bs p = adv bs (adv bs p) by
      unfold badP
      rw [if_neg (unhide HB), if_neg (by rw [← unhide HK]; omega)])
    go_wp2_with fail
    rw [unhide HIX, unhide HPP, List.length_set, unhide HO]
    have hF := (unhide HX).put hi ⟨(atO xs i).s, ((k / 8 % 5 : Nat) : Int), (atO xs i).l, (atO xs i).sd⟩
    rw [List.length_set] at hF
    refine bodyPost_ret (v := .agg #[.slice (some ⟨g, 0, none⟩) xs.length c]) ?res rfl ⟨⟨g, c, rfl, Or.inl rfl, ?_⟩, hide ?_, hide ?_⟩
    case res => simp [results, Tryz.results62, go_sem, r0, n3, n4, hR]
    · exact (hF.setCell ⟨w.heap.size + 1, 0, none⟩ _ (by simp; omega)).below (below1 _ _) (by simpa [World.setCells, World.setCell] using hgw2)
    · exact ((((((unhide H2).set g _ _ hne).set g _ _ hne).set g _ _ hne).set g _ _ hne).set (w.heap.size + 1) _ _ (by omega)).below (below1 _ _)
    · exact ((((((KeptRG.of1 (unhide HW)).setG _ _).setG _ _).setG _ _).setG _ _).setNew (b := w.heap.size + 1) _ _ (by omega)).below (below1 _ _)
  · have e8 : (k : Int) % 8 = 5 := by omega
    clear hk7 e7
    have HO := hide (show badOp k (atO xs i) (drOp (nxt bs (adv bs (adv bs p))) (nxt bs (adv bs (adv bs (adv bs p)))) false) = ⟨(atO xs i).s, (atO xs i).k, (atO xs i).l, ((k / 8 % 5 : Nat) : Int) - 1⟩ by simp [badOp, hc])
    have HPP := hide (show badP xs bs p = adv bs (adv bs p) by
      unfold badP
      rw [if_neg (unhide HB), if_neg (by rw [← unhide HK]; omega)])
    go_wp2_with fail
    rw [unhide HIX, unhide HPP, List.length_set, unhide HO]
    have hF := (unhide HX).put hi ⟨(atO xs i).s, (atO xs i).k, (atO xs i).l, ((k / 8 % 5 : Nat) : Int) - 1⟩
    rw [List.length_set] at hF
    refine bodyPost_ret (v := .agg #[.slice (some ⟨g, 0, none⟩) xs.length c]) ?res rfl ⟨⟨g, c, rfl, Or.inl rfl, ?_⟩, hide ?_, hide ?_⟩
    case res => simp [results, Tryz.results62, go_sem, r0, n3, n4, hR]
    · exact (hF.setCell ⟨w.heap.size + 1, 0, none⟩ _ (by simp; omega)).below (below1 _ _) (by simpa [World.setCells, World.setCell] using hgw2)
    · exact ((((((unhide H2).set g _ _ hne).set g _ _ hne).set g _ _ hne).set g _ _ hne).set (w.heap.size + 1) _ _ (by omega)).below (below1 _ _)
    · exact ((((((KeptRG.of1 (unhide HW)).setG _ _).setG _ _).setG _ _).setG _ _).setNew (b := w.heap.size + 1) _ _ (by omega)).below (below1 _ _)
  · have e8 : (k : Int) % 8 = 6 := by omega
    clear hk7 e7
    have HPP := hide (show badP xs bs p = adv bs (adv bs (adv bs (adv bs p))) by
      unfold badP
      rw [if_neg (unhide HB), if_pos (by rw [← unhide HK]; omega)])
    go_wp2_with fail
    refine (l1DrawOp_any rp cap _ false a bs _ ((unhide H2).below (below1 _ _)) hl).mono ?_
    rintro e w4 ⟨⟨o, rfl, ho⟩, H4, HK4⟩
    have HO := hide (show badOp k (atO xs i) (drOp (nxt bs (adv bs (adv bs p))) (nxt bs (adv bs (adv bs (adv bs p)))) false) = o by rw [unhide ho]; simp [badOp, hc])
    have z4 : w2.heap.size + 1 ≤ w4.heap.size := by have := (unhide HK4).size; simpa using this
    have kc : ∀ b j, b < w2.heap.size → b ≠ rp → w4.cell? ⟨b, j, none⟩ = w2.cell? ⟨b, j, none⟩ := fun b j hb hr => ((unhide HK4).cell (b := b) (by simp; omega) hr j).trans ((below1 _ _).cell (p := ⟨b, j, none⟩) hb)
    have kf : ∀ b j, b < w2.heap.size → b ≠ rp → w4.frozen? ⟨b, j, none⟩ = w2.frozen? ⟨b, j, none⟩ := fun b j hb hr => ((unhide HK4).frozen (b := b) (by simp; omega) hr j).trans ((below1 _ _).frozen (p := ⟨b, j, none⟩) hb)
    have X0 := (kc g (i * 4) hgw2 (by omega)).trans x0
    have X1 := (kc g (i * 4 + 1) hgw2 (by omega)).trans x1
    have X2 := (kc g (i * 4 + 2) hgw2 (by omega)).trans x2
    have X3 := (kc g (i * 4 + 3) hgw2 (by omega)).trans x3
    have Y0 := (kf g (i * 4) hgw2 (by omega)).trans y0
    have Y1 := (kf g (i * 4 + 1) hgw2 (by omega)).trans y1
    have Y2 := (kf g (i * 4 + 2) hgw2 (by omega)).trans y2
    have Y3 := (kf g (i * 4 + 3) hgw2 (by omega)).trans y3
    have B0 := (kc w.heap.size 0 (by omega) (by omega)).trans b0
    have R0 := (kc (w.heap.size + 1) 0 (by omega) (by omega)).trans r0
    have R1 := (kf (w.heap.size + 1) 0 (by omega) (by omega)).trans r1
    have o0 : w4.cell? ⟨w2.heap.size, 0, none⟩ = some (.string (atO xs i).s) := ((unhide HK4).cell (b := w2.heap.size) (by simp) (by omega) 0).trans (by simp [go_sem])
    have o1 : w4.cell? ⟨w2.heap.size, 1, none⟩ = some (.int .i64 (atO xs i).k) := ((unhide HK4).cell (b := w2.heap.size) (by simp) (by omega) 1).trans (by simp [go_sem])
    have o2 : w4.cell? ⟨w2.heap.size, 2, none⟩ = some (.int .i64 (atO xs i).l) := ((unhide HK4).cell (b := w2.heap.size) (by simp) (by omega) 2).trans (by simp [go_sem])
    have o3 : w4.cell? ⟨w2.heap.size, 3, none⟩ = some (.int .i64 (atO xs i).sd) := ((unhide HK4).cell (b := w2.heap.size) (by simp) (by omega) 3).trans (by simp [go_sem])
    have f0 : w4.frozen? ⟨w2.heap.size, 0, none⟩ = false := ((unhide HK4).frozen (b := w2.heap.size) (by simp) (by omega) 0).trans (by simp [go_sem])
    have f1 : w4.frozen? ⟨w2.heap.size, 1, none⟩ = false := ((unhide HK4).frozen (b := w2.heap.size) (by simp) (by omega) 1).trans (by simp [go_sem])
    have f2 : w4.frozen? ⟨w2.heap.size, 2, none⟩ = false := ((unhide HK4).frozen (b := w2.heap.size) (by simp) (by omega) 2).trans (by simp [go_sem])
    have f3 : w4.frozen? ⟨w2.heap.size, 3, none⟩ = false := ((unhide HK4).frozen (b := w2.heap.size) (by simp) (by omega) 3).trans (by simp [go_sem])
    have n7 : ¬ w2.heap.size = w.heap.size := by omega
    have n8 : ¬ w.heap.size = w2.heap.size := by omega
    have n9 : ¬ w2.heap.size = w.heap.size + 1 := by omega
    have n10 : ¬ w.heap.size + 1 = w2.heap.size := by omega
    clear kc kf
    go_wp2_with fail
    rw [unhide HIX, unhide HPP, List.length_set, unhide HO]
    have hX4 : Filled w4 g xs xs.length := (unhide HK4).filled ((unhide HX).below (below1 _ _) hgw2) (by omega)
    have hF := ((((hX4.setCell ⟨w2.heap.size, 0, none⟩ (.string o.s) (by simp; omega)).setCell ⟨w2.heap.size, 1, none⟩ (.int .i64 o.k) (by simp; omega)).setCell ⟨w2.heap.size, 2, none⟩ (.int .i64 o.l) (by simp; omega)).setCell ⟨w2.heap.size, 3, none⟩ (.int .i64 o.sd) (by simp; omega)).put hi o
    rw [List.length_set] at hF
    refine bodyPost_ret (v := .agg #[.slice (some ⟨g, 0, none⟩) xs.length c]) ?res rfl ⟨⟨g, c, rfl, Or.inl rfl, ?_⟩, hide ?_, hide ?_⟩
    case res => simp [results, Tryz.results62, go_sem, R0, n3, n4, n9, n10]
    · exact hF.setCell ⟨w.heap.size + 1, 0, none⟩ _ (by simp; omega)
    · exact (((((((((unhide H4).set w2.heap.size _ _ (by omega)).set w2.heap.size _ _ (by omega)).set w2.heap.size _ _ (by omega)).set w2.heap.size _ _ (by omega)).set g _ _ hne).set g _ _ hne).set g _ _ hne).set g _ _ hne).set (w.heap.size + 1) _ _ (by omega)
    · exact (((((((((((KeptRG.of1 (unhide HW)).below (below1 _ _)).step (unhide HK4)).setNew (b := w2.heap.size) _ _ (by omega)).setNew (b := w2.heap.size) _ _ (by omega)).setNew (b := w2.heap.size) _ _ (by omega)).setNew (b := w2.heap.size) _ _ (by omega)).setG _ _).setG _ _).setG _ _).setG _ _).setNew (b := w.heap.size + 1) _ _ (by omega)
end Go.Proofs.YtfboipappaonhaaGreat
