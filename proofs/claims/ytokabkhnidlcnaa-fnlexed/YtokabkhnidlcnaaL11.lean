import Derived.BigQuiet
import Derived.Test.YtokabkhnidlcnaaL10

/-
  Walk: the draw of a table and a text.
-/
namespace Go.Proofs.Ytokabkhnidlcnaa
set_option maxRecDepth 100000
set_option linter.unusedSimpArgs false
set_option linter.unusedVariables false
open Go.RowKit

/-- The text and the place when i words are drawn. -/
def lexS (xs : List OpR) (bs : List UInt8) (p : Nat) : Nat → ByteArray × Nat
  | 0 => (⟨#[]⟩, p)
  | i + 1 => ((lexS xs bs p i).1 ++ gapN (nxt bs (lexS xs bs p i).2) ++ wordN xs bs (adv bs (lexS xs bs p i).2), wordP xs bs (adv bs (lexS xs bs p i).2))

/-- How many words are drawn. -/
def LexN (xs : List OpR) (bs : List UInt8) (p i : Nat) : Prop := 3 ≤ i ∧ bs.length ≤ (lexS xs bs p i).2 ∧ ∀ j, j < i → j < 3 ∨ (lexS xs bs p j).2 < bs.length

theorem LexN.one {xs : List OpR} {bs : List UInt8} {p i j : Nat} (h : LexN xs bs p i) (h' : LexN xs bs p j) : i = j := by
  rcases Nat.lt_trichotomy i j with e | e | e
  · have := h'.2.2 i e; have := h.1; have := h.2.1; omega
  · exact e
  · have := h.2.2 j e; have := h'.1; have := h'.2.1; omega

theorem wordN_size {xs : List OpR} (hx : ∀ i, i < xs.length → (atO xs i).s.size ≤ 1001) (bs : List UInt8) (p : Nat) : (wordN xs bs p).size ≤ 1001 := by
  have e1 : (⟨#[97, 49, 95, 98]⟩ : ByteArray).size = 4 := rfl
  have e2 : (⟨#[49, 48, 50, 55]⟩ : ByteArray).size = 4 := rfl
  unfold wordN
  split
  · rename_i h
    exact hx _ (Nat.mod_lt _ h.2)
  · split
    · decide
    · split
      · decide
      · split
        · rw [ByteArray.size_extract]; omega
        · split
          · have := txN_size (nxt bs p); omega
          · split
            · show 1 ≤ 1001; omega
            · rw [ByteArray.size_extract]; omega

theorem lexS_size {xs : List OpR} (hx : ∀ i, i < xs.length → (atO xs i).s.size ≤ 1001) (bs : List UInt8) (p : Nat) : ∀ i, (lexS xs bs p i).1.size ≤ 1003 * i
  | 0 => Nat.le_refl _
  | i + 1 => by
    have h1 := lexS_size hx bs p i
    have h2 := gapN_size (nxt bs (lexS xs bs p i).2)
    have h3 := wordN_size hx bs (adv bs (lexS xs bs p i).2)
    show ((lexS xs bs p i).1 ++ gapN (nxt bs (lexS xs bs p i).2) ++ wordN xs bs (adv bs (lexS xs bs p i).2)).size ≤ _
    rw [ByteArray.size_append, ByteArray.size_append]
    omega

theorem adv_ge (bs : List UInt8) (p : Nat) : p ≤ adv bs p := by unfold adv; split <;> omega
theorem adv_gt {bs : List UInt8} {p : Nat} (h : p < bs.length) : adv bs p = p + 1 := by unfold adv; rw [if_pos h]
theorem wordP_ge (xs : List OpR) (bs : List UInt8) (p : Nat) : p ≤ wordP xs bs p := by
  have h1 := adv_ge bs p
  have h2 := adv_ge bs (adv bs p)
  unfold wordP
  repeat' split
  all_goals omega

/-- Each word takes a number, as long as there are some. -/
theorem lexS_far (xs : List OpR) (bs : List UInt8) (p : Nat) (h : p ≤ bs.length) : ∀ i, (∀ j, j < i → j < 3 ∨ (lexS xs bs p j).2 < bs.length) → i ≤ 3 + (lexS xs bs p i).2
  | 0, _ => by omega
  | i + 1, hj => by
    have ih := lexS_far xs bs p h i (fun j hj' => hj j (by omega))
    have h2 := wordP_ge xs bs (adv bs (lexS xs bs p i).2)
    have h3 := adv_ge bs (lexS xs bs p i).2
    show i + 1 ≤ 3 + wordP xs bs (adv bs (lexS xs bs p i).2)
    rcases hj i (by omega) with h4 | h4
    · omega
    · have h5 := adv_gt h4
      omega

/-- What is drawn: the table and the place behind it. -/
def TabD (bs : List UInt8) (xs : List OpR) (q : Nat) : Prop :=
  ∃ ys p, TabTo bs (adv bs (adv bs 0)) (3 + nxt bs (adv bs 0) % 8) ys p ∧ ((nxt bs 0 % 16 = 15 ∧ xs = badT ys bs p ∧ q = badP ys bs p) ∨ (nxt bs 0 % 16 ≠ 15 ∧ xs = ys ∧ q = p))

theorem TabD.one {bs : List UInt8} {xs xs' : List OpR} {q q' : Nat} (h : TabD bs xs q) (h' : TabD bs xs' q') : xs = xs' ∧ q = q' := by
  obtain ⟨ys, p, ht, hc⟩ := h
  obtain ⟨ys', p', ht', hc'⟩ := h'
  obtain ⟨rfl, rfl⟩ := ht.one ht'
  rcases hc with ⟨h, rfl, rfl⟩ | ⟨h, rfl, rfl⟩ <;> rcases hc' with ⟨h', rfl, rfl⟩ | ⟨h', rfl, rfl⟩
  · exact ⟨rfl, rfl⟩
  · exact absurd h h'
  · exact absurd h' h
  · exact ⟨rfl, rfl⟩

/-- Blanks up to a length. -/
def padTo (s : ByteArray) (n : Nat) : ByteArray := ⟨(s.data.toList ++ List.replicate (n - s.size) (32 : UInt8)).toArray⟩

/-- What DrawLex draws. -/
def LexD (bs : List UInt8) (xs : List OpR) (s : ByteArray) : Prop :=
  ∃ q i, TabD bs xs q ∧ LexN xs bs q i ∧ s = if nxt bs 0 % 16 = 14 then padTo (lexS xs bs q i).1 (20000 + nxt bs 0 / 16 % 3 - 1) else (lexS xs bs q i).1

theorem LexD.one {bs : List UInt8} {xs xs' : List OpR} {s s' : ByteArray} (h : LexD bs xs s) (h' : LexD bs xs' s') : xs = xs' ∧ s = s' := by
  obtain ⟨q, i, ht, hn, hs⟩ := h
  obtain ⟨q', i', ht', hn', hs'⟩ := h'
  obtain ⟨rfl, rfl⟩ := ht.one ht'
  obtain rfl := hn.one hn'
  exact ⟨rfl, hs.trans hs'.symm⟩

/-- A drawn table is short, and its texts are. -/
theorem TabTo.len {bs : List UInt8} {p0 : Nat} : ∀ {k : Nat} {xs : List OpR} {p : Nat}, TabTo bs p0 k xs p → xs.length ≤ k ∧ ∀ i, i < xs.length → (atO xs i).s.size ≤ 16
  | 0, xs, p, h => by
    obtain ⟨rfl, _⟩ := h
    exact ⟨Nat.zero_le _, fun i hi => by simp at hi⟩
  | k + 1, xs, p, h => by
    obtain ⟨ys, q, ht, _, hc⟩ := h
    obtain ⟨h1, h2⟩ := ht.len
    rcases hc with ⟨_, rfl⟩ | ⟨_, rfl⟩
    · refine ⟨by simp; omega, fun i hi => ?_⟩
      by_cases e : i < ys.length
      · have : atO (ys ++ [drOp (nxt bs q) (nxt bs (adv bs q)) true]) i = atO ys i := by unfold atO; simp [List.getD, List.getElem?_append, e]
        rw [this]; exact h2 i e
      · have e2 : i = ys.length := by simp at hi; omega
        have : atO (ys ++ [drOp (nxt bs q) (nxt bs (adv bs q)) true]) i = drOp (nxt bs q) (nxt bs (adv bs q)) true := by unfold atO; simp [List.getD, e2]
        rw [this]
        show (txN _).size ≤ 16
        have := txN_size (nxt bs (adv bs q))
        omega
    · exact ⟨by omega, h2⟩
end Go.Proofs.Ytokabkhnidlcnaa

/-
  Walk: the draw of a table and a text.
-/
namespace Go.Proofs.Ytokabkhnidlcnaa
set_option maxRecDepth 100000
set_option linter.unusedSimpArgs false
set_option linter.unusedVariables false
open Go.RowKit

theorem l1Spoil_any (rp cap p g c : Nat) (a : Option Addr) (bs : List UInt8) (xs : List OpR) (w : World) (h : RdS w rp a cap bs p) (hl : bs.length ≤ 1200) (hm : xs.length ≤ 10) (hx : Filled w g xs xs.length) (hne : rp < g) (hsx : ∀ i, i < xs.length → (atO xs i).s.size ≤ 1000) :
    Calls Try.prog 24 #[.pointer (some ⟨rp, 0, none⟩), .agg #[.slice (some ⟨g, 0, none⟩) xs.length c]] w fun e w' => (∃ g' c', e = .returned (.agg #[.slice (some ⟨g', 0, none⟩) (badT xs bs p).length c']) ∧ (g' = g ∨ w.heap.size ≤ g') ∧ Filled w' g' (badT xs bs p) (badT xs bs p).length) ∧ Hid (RdS w' rp a cap bs (badP xs bs p)) ∧ Hid (KeptRG w w' rp g) := by
  by_cases hb : nxt bs p % 8 = 7 ∨ xs.length = 0
  · exact l1SpoilBig_any rp cap p g c a bs xs w h hl hm hx hne hb
  · exact l1SpoilOne_any rp cap p g c a bs xs w h hl hm hx hne hb hsx

theorem bad_sized {xs : List OpR} (hx : ∀ i, i < xs.length → (atO xs i).s.size ≤ 16) (bs : List UInt8) (p : Nat) : (badT xs bs p).length ≤ 501 + xs.length ∧ ∀ i, i < (badT xs bs p).length → (atO (badT xs bs p) i).s.size ≤ 1001 := by
  unfold badT
  split
  · rw [bigTo_len]
    refine ⟨by omega, fun i hi => ?_⟩
    have : atO (bigTo (nxt bs (adv bs p)) (500 + nxt bs (adv bs p) % 2)) i = bigOp (nxt bs (adv bs p)) i := by
      unfold atO bigTo; simp [List.getD, hi]
    rw [this]
    show 3 ≤ 1001
    omega
  · rw [List.length_set]
    refine ⟨by omega, fun i hi => ?_⟩
    by_cases e : i = nxt bs (adv bs p) % xs.length
    · have : ∀ o, atO (xs.set (nxt bs (adv bs p) % xs.length) o) i = o := fun o => by subst e; unfold atO; simp [List.getD, hi]
      rw [this]
      have hi' := hx i hi
      rw [e] at hi'
      unfold badOp
      split
      · show (ByteArray.extract _ _ _).size ≤ 1001
        rw [ByteArray.size_extract]; omega
      · split
        · show (_ ++ _ : ByteArray).size ≤ 1001
          rw [ByteArray.size_append]
          show _ + 1 ≤ 1001
          omega
        · split
          · show 0 ≤ 1001; omega
          · split
            · show (atO xs _).s.size ≤ 1001; omega
            · split
              · show (atO xs _).s.size ≤ 1001; omega
              · split
                · show (atO xs _).s.size ≤ 1001; omega
                · show (txN _).size ≤ 1001
                  have := txN_size (nxt bs (adv bs (adv bs (adv bs p))))
                  omega
    · have : ∀ o, atO (xs.set (nxt bs (adv bs p) % xs.length) o) i = atO xs i := fun o => by unfold atO; simp [List.getD, List.getElem?_set, Ne.symm e]
      rw [this]
      have := hx i hi
      omega

def lenV : Value → Nat
  | .slice _ n _ => n
  | _ => 0

theorem below_drewS {B b : Nat} {w wr : World} {v : Value} (h : Below B w wr) (hb : B ≤ b := by simp) : Below B w (wr.drew.setCell ⟨b, 0, none⟩ v) := (h.trans ((Below.refl _ _).drew)).setCell hb _

theorem rdOf_len (l : List UInt8) : (rdOf l).length ≤ 1200 := by unfold rdOf; simp; omega

set_option maxHeartbeats 4000000 in
theorem drawLex_any (a : Option Addr) (cap : Nat) (l : List UInt8) (w : World) (hl : l.length ≤ 1048576) (hcap : l.length ≤ cap) (h : ArgY w a l) :
    Calls Try.prog 6 #[.slice a l.length cap] w fun e w' => (∃ (g c : Nat) (xs : List OpR) (s : ByteArray), e = .returned (.tuple #[.agg #[.slice (some ⟨g, 0, none⟩) xs.length c], .string s]) ∧ w.heap.size ≤ g ∧ s.size ≤ 3000000 ∧ Hid (Filled w' g xs xs.length) ∧ Hid (LexD (rdOf l) xs s)) ∧ Below w.heap.size w w' := by
  have HA := hide h
  clear h
  go_enter Try.func6, Try.ntmps6
  go_wp2_with fail
  refine (l1Open_any a cap l _ hl hcap (by
    rcases unhide HA with h | ⟨b, off, rfl, hb, hc⟩
    · exact Or.inl h
    · exact Or.inr ⟨b, off, rfl, by simp; omega, fun i hi => ((below1 _ _).cell (p := ⟨b, off + i, none⟩) hb).trans (hc i hi)⟩)).mono ?_
  rintro e w1 ⟨⟨rp, cap', rfl, hrp, H1⟩, hb1⟩
  have bel1 : Below w.heap.size w w1 := (below1 _ _).trans (hb1.mono (by simp))
  have r1 : w1.cell? ⟨w.heap.size, 0, none⟩ = some (.slice none 0 0) := (hb1.cell (p := ⟨w.heap.size, 0, none⟩) (by simp)).trans (by simp [go_sem])
  have f1 : w1.frozen? ⟨w.heap.size, 0, none⟩ = false := (hb1.frozen (p := ⟨w.heap.size, 0, none⟩) (by simp)).trans (by simp [go_sem])
  have hrp' : w.heap.size + 1 ≤ rp := by simpa using hrp
  obtain ⟨bs, hbs⟩ : ∃ bs, bs = rdOf l := ⟨_, rfl⟩
  have hbl : bs.length ≤ 1200 := by rw [hbs]; exact rdOf_len l
  rw [← hbs] at H1
  have HBS := hide hbs
  clear hb1 hrp hbs HA
  go_wp2_with fail
  refine (next_at rp cap' 0 a bs _ (unhide H1) hbl).mono ?_
  rintro e w2 ⟨⟨k, rfl, hk, HK⟩, H2, HP2⟩
  have hrl1 := (unhide H1).lt
  have r2 := ((unhide HP2).cell (b := w.heap.size) (by omega) (by omega) 0).trans r1
  have f2 := ((unhide HP2).frozen (b := w.heap.size) (by omega) (by omega) 0).trans f1
  have KW2 := hide (bel1.trans ((unhide HP2).below (B := w.heap.size) bel1.size (by omega)))
  clear H1 r1 f1
  go_wp2_with fail
  refine (l1DrawTable_any rp cap' _ a bs _ (unhide H2) hbl).mono ?_
  rintro e w3 ⟨⟨g3, c3, q3, ys, rfl, hg3, hF3, HT3, H3⟩, HP3⟩
  have hs2 := (unhide HP2).size
  have hs3 := (unhide HP3).size
  have r3 := ((unhide HP3).cell (b := w.heap.size) (by omega) (by omega) 0).trans r2
  have f3 := ((unhide HP3).frozen (b := w.heap.size) (by omega) (by omega) 0).trans f2
  have KW3 := hide ((unhide KW2).trans ((unhide HP3).below (B := w.heap.size) (unhide KW2).size (by omega)))
  obtain ⟨hy1, hy2⟩ := (unhide HT3).len
  have hy10 : ys.length ≤ 10 := by have := Nat.mod_lt (nxt bs (adv bs 0)) (show 0 < 8 by decide); omega
  have HY2 := hide hy2
  have HF3 := hide hF3
  have hg3l := hF3.1
  clear HP2 HP3 KW2 r2 f2 H2 hy1 hy2 hF3
  by_cases hk15 : k % 16 = 15
  · have e15 : ((k : Int) % 16 == 15) = true := by simp; omega
    go_wp2_with fail
    refine (l1Spoil_any rp cap' q3 g3 c3 a bs ys _ ((unhide H3).below (below1 _ _)) hbl hy10 ((unhide HF3).below (below1 _ _) hg3l) (by omega) (fun i hi => by have := (unhide HY2) i hi; omega)).mono ?_
    rintro e w4 ⟨⟨g4, c4, rfl, hg4, hF4⟩, H4, HK4⟩
    have hs4 : w3.heap.size + 1 ≤ w4.heap.size := by have := (unhide HK4).size; simpa using this
    have hg4' : g4 = g3 ∨ w3.heap.size + 1 ≤ g4 := by simpa using hg4
    have t4 : w4.cell? ⟨w3.heap.size, 0, none⟩ = some (.slice (some ⟨g3, 0, none⟩) ys.length c3) := ((unhide HK4).cell (b := w3.heap.size) (by simp) (by omega) (by omega) 0).trans (by simp [go_sem])
    have u4 : w4.frozen? ⟨w3.heap.size, 0, none⟩ = false := ((unhide HK4).frozen (b := w3.heap.size) (by simp) (by omega) (by omega) 0).trans (by simp [go_sem])
    have hw3 : w.heap.size < w3.heap.size := by omega
    have r4 := ((unhide HK4).cell (b := w.heap.size) (by simp; omega) (by omega) (by omega) 0).trans (((below1 _ _).cell (p := ⟨w.heap.size, 0, none⟩) hw3).trans r3)
    have f4 := ((unhide HK4).frozen (b := w.heap.size) (by simp; omega) (by omega) (by omega) 0).trans (((below1 _ _).frozen (p := ⟨w.heap.size, 0, none⟩) hw3).trans f3)
    have KW4 : Below w.heap.size w w4 := ((unhide KW3).alloc (unhide KW3).size _).trans ⟨(unhide HK4).os, (unhide HK4).tape, (unhide HK4).output, (unhide HK4).size, fun i hi => (unhide HK4).block i (by simp; omega) (by omega) (by omega)⟩
    obtain ⟨xs, HXE⟩ : ∃ xs, Hid (xs = badT ys bs q3) := ⟨_, hide rfl⟩
    obtain ⟨q, HQE⟩ : ∃ q, Hid (q = badP ys bs q3) := ⟨_, hide rfl⟩
    have hbz := bad_sized (unhide HY2) bs q3
    rw [← unhide HXE] at hF4 hbz
    rw [← unhide HQE] at H4
    rw [← unhide HXE]
    have HTD := hide (show TabD bs xs q from ⟨ys, q3, unhide HT3, Or.inl ⟨by rw [← unhide HK]; exact hk15, unhide HXE, unhide HQE⟩⟩)
    have hxl : xs.length ≤ 1048576 := by have := hbz.1; omega
    have HXS := hide hbz.2
    have hqle := (unhide H4).le
    obtain ⟨ws, HWS⟩ : ∃ ws, Hid (ws = w4.setCell ⟨w3.heap.size, 0, none⟩ (.slice (some ⟨g4, 0, none⟩) xs.length c4)) := ⟨_, hide rfl⟩
    have hTl : w3.heap.size < ws.heap.size := by rw [unhide HWS]; simp [World.setCell]; omega
    have tS : ws.cell? ⟨w3.heap.size, 0, none⟩ = some (.slice (some ⟨g4, 0, none⟩) xs.length c4) := by rw [unhide HWS]; exact World.cell?_setCell_same _ _ _ t4
    have HRS := hide (show RdS ws rp a cap' bs q by rw [unhide HWS]; exact (unhide H4).set _ _ _ (by omega))
    have HFS := hide (show Filled ws g4 xs xs.length by rw [unhide HWS]; exact hF4.setCell _ _ (by simp; omega))
    have rS : ws.cell? ⟨w.heap.size, 0, none⟩ = some (.slice none 0 0) := by rw [unhide HWS]; exact (World.cell?_setCell_other _ _ _ _ (fun x => by injection x with x1; omega)).trans r4
    have fS : ws.frozen? ⟨w.heap.size, 0, none⟩ = false := by rw [unhide HWS]; exact (World.frozen?_setCell _ _ _ _).trans f4
    have KWS := hide (show Below w.heap.size w ws by rw [unhide HWS]; exact KW4.setCell (by simp; omega) _)
    clear H3 HF3 r3 f3 HT3 HY2 H4 hF4 hbz hg4 HK4 r4 f4 KW4 KW3
    go_wp2_with fail
    go_loopw [7, 8] (fun sv iv wr => ∃ i : Nat, iv = .int .i64 (i : Int) ∧ sv = .string (lexS xs bs q i).1 ∧ Hid (∀ j, j < i → j < 3 ∨ (lexS xs bs q j).2 < bs.length) ∧ Hid (RdS wr rp a cap' bs (lexS xs bs q i).2) ∧ Hid (Kept1 ws wr rp)) (fun _ iv _ => 2000 - (intOf iv).toNat)
    case atStart =>
      rw [← unhide HWS]
      exact ⟨0, rfl, rfl, hide (fun j hj => absurd hj (Nat.not_lt_zero _)), HRS, hide (Kept1.refl _ _)⟩
    case round =>
      obtain ⟨i, rfl, rfl, hj, HR, HKC⟩ := hrel
      have hile := lexS_far xs bs q hqle i (unhide hj)
      have hple := (unhide HR).le
      obtain ⟨s, HSE⟩ : ∃ s, Hid (s = (lexS xs bs q i).1) := ⟨_, hide rfl⟩
      obtain ⟨p, HPE⟩ : ∃ p, Hid (p = (lexS xs bs q i).2) := ⟨_, hide rfl⟩
      have hss : s.size ≤ 1003 * i := by rw [unhide HSE]; exact lexS_size (unhide HXS) bs q i
      rw [← unhide HPE] at hile hple HR
      rw [← unhide HSE]
      have hi2 : i ≤ 1300 := by omega
      have hss2 : s.size ≤ 2000000 := by omega
      have tR := ((unhide HKC).cell (b := w3.heap.size) hTl (by omega) 0).trans tS
      by_cases h3 : i < 3
      · have h3I : (i : Int) < 3 := by omega
        have HCond := hide (show i < 3 ∨ p < bs.length from Or.inl h3)
        go_wp2_with fail
        replace HR := hide ((unhide HR).below (Below.refl _ _).drew)
        replace HKC := hide ((unhide HKC).trans (Kept1.of_below (Below.refl _ _).drew))
        have HTC := hide (show (wr).drew.cell? ⟨w3.heap.size, 0, none⟩ = some (.slice (some ⟨g4, 0, none⟩) xs.length c4) from tR)
        go_region_held (fun w' => w'.cell? ⟨w3.heap.size, 0, none⟩ = some (.slice (some ⟨g4, 0, none⟩) xs.length c4)) (first | exact unhide HTC | (go_keep; done)) (first | (go_at_call 26; have HX := l2Gap_any rp cap' p a bs _ (unhide HR) hbl; refine HX.mono ?_; clear HX; rintro e w6 ⟨⟨gp, rfl, hgp⟩, H6, K6⟩; replace HR := H6; replace HTC := hide (((unhide K6).cell (b := w3.heap.size) (block_lt_of_cell (unhide HTC)) (by omega) 0).trans (unhide HTC)); replace HKC := hide ((unhide HKC).trans (unhide K6)); have hgs : gp.size ≤ 2 := (by rw [unhide hgp]; exact gapN_size _); clear H6 K6) | (go_at_call 27; have HX := l2DrawWord_any rp cap' (adv bs p) g4 c4 a bs xs _ (unhide HR) hbl hxl ((unhide HKC).filled (unhide HFS) (by omega)).ops ((unhide HKC).filled (unhide HFS) (by omega)).1 (by omega); refine HX.mono ?_; clear HX; rintro e w7 ⟨⟨wd, rfl, hwd⟩, H7, K7⟩; replace HR := H7; replace HTC := hide (((unhide K7).cell (b := w3.heap.size) (block_lt_of_cell (unhide HTC)) (by omega) 0).trans (unhide HTC)); replace HKC := hide ((unhide HKC).trans (unhide K7)); have hws : wd.size ≤ 1001 := (by rw [unhide hwd]; exact wordN_size (unhide HXS) _ _); clear H7 K7))
        all_goals
          go_wp2_with fail
          refine ⟨⟨i + 1, by go_num, ?_, hide (fun j hj' => ?_), ?_, HKC⟩, by simp [intOf]; omega⟩
          · show Value.string _ = Value.string ((lexS xs bs q i).1 ++ gapN (nxt bs (lexS xs bs q i).2) ++ wordN xs bs (adv bs (lexS xs bs q i).2))
            rw [← unhide HSE, ← unhide HPE, ← unhide hgp, ← unhide hwd]
          · by_cases e : j = i
            · subst e; rw [← unhide HPE]; exact unhide HCond
            · exact (unhide hj) j (by omega)
          · show Hid (RdS _ rp a cap' bs (wordP xs bs (adv bs (lexS xs bs q i).2)))
            rw [← unhide HPE]; exact HR
      · have h3I : ¬ (i : Int) < 3 := by omega
        go_wp2_with fail
        refine (left_any rp cap' p a bs _ (unhide HR) hbl).mono ?_
        rintro e w5 ⟨rfl, H5, hb5⟩
        have HKC5 := hide ((unhide HKC).trans (Kept1.of_below hb5))
        have tR5 := (hb5.cell (p := ⟨w3.heap.size, 0, none⟩) (block_lt_of_cell tR)).trans tR
        clear hb5 HR HKC tR
        have HR := H5
        have HKC := HKC5
        have tR := tR5
        clear H5 HKC5 tR5
        by_cases hpl : p < bs.length
        · have hpI : (0 : Int) < ((bs.length - p : Nat) : Int) := by omega
          have HCond := hide (show i < 3 ∨ p < bs.length from Or.inr hpl)
          go_wp2_with fail
          replace HR := hide ((unhide HR).below (Below.refl _ _).drew)
          replace HKC := hide ((unhide HKC).trans (Kept1.of_below (Below.refl _ _).drew))
          have HTC := hide (show (w5).drew.cell? ⟨w3.heap.size, 0, none⟩ = some (.slice (some ⟨g4, 0, none⟩) xs.length c4) from tR)
          go_region_held (fun w' => w'.cell? ⟨w3.heap.size, 0, none⟩ = some (.slice (some ⟨g4, 0, none⟩) xs.length c4)) (first | exact unhide HTC | (go_keep; done)) (first | (go_at_call 26; have HX := l2Gap_any rp cap' p a bs _ (unhide HR) hbl; refine HX.mono ?_; clear HX; rintro e w6 ⟨⟨gp, rfl, hgp⟩, H6, K6⟩; replace HR := H6; replace HTC := hide (((unhide K6).cell (b := w3.heap.size) (block_lt_of_cell (unhide HTC)) (by omega) 0).trans (unhide HTC)); replace HKC := hide ((unhide HKC).trans (unhide K6)); have hgs : gp.size ≤ 2 := (by rw [unhide hgp]; exact gapN_size _); clear H6 K6) | (go_at_call 27; have HX := l2DrawWord_any rp cap' (adv bs p) g4 c4 a bs xs _ (unhide HR) hbl hxl ((unhide HKC).filled (unhide HFS) (by omega)).ops ((unhide HKC).filled (unhide HFS) (by omega)).1 (by omega); refine HX.mono ?_; clear HX; rintro e w7 ⟨⟨wd, rfl, hwd⟩, H7, K7⟩; replace HR := H7; replace HTC := hide (((unhide K7).cell (b := w3.heap.size) (block_lt_of_cell (unhide HTC)) (by omega) 0).trans (unhide HTC)); replace HKC := hide ((unhide HKC).trans (unhide K7)); have hws : wd.size ≤ 1001 := (by rw [unhide hwd]; exact wordN_size (unhide HXS) _ _); clear H7 K7))
          all_goals
            go_wp2_with fail
            refine ⟨⟨i + 1, by go_num, ?_, hide (fun j hj' => ?_), ?_, HKC⟩, by simp [intOf]; omega⟩
            · show Value.string _ = Value.string ((lexS xs bs q i).1 ++ gapN (nxt bs (lexS xs bs q i).2) ++ wordN xs bs (adv bs (lexS xs bs q i).2))
              rw [← unhide HSE, ← unhide HPE, ← unhide hgp, ← unhide hwd]
            · by_cases e : j = i
              · subst e; rw [← unhide HPE]; exact unhide HCond
              · exact (unhide hj) j (by omega)
            · show Hid (RdS _ rp a cap' bs (wordP xs bs (adv bs (lexS xs bs q i).2)))
              rw [← unhide HPE]; exact HR
        · have hpI : ¬ (0 : Int) < ((bs.length - p : Nat) : Int) := by omega
          have hd : decide (0 < bs.length - p) = false := by rw [decide_eq_false_iff_not]; omega
          have HLN := hide (show LexN xs bs q i from ⟨by omega, by rw [← unhide HPE]; omega, unhide hj⟩)
          have rR := ((unhide HKC).cell (b := w.heap.size) (by omega) (by omega) 0).trans rS
          have fR := ((unhide HKC).frozen (b := w.heap.size) (by omega) (by omega) 0).trans fS
          have belR : Below w.heap.size w w5 := (unhide KWS).trans ((unhide HKC).below (B := w.heap.size) (unhide KWS).size (by omega))
          have hFR := (unhide HKC).filled (unhide HFS) (by omega)
          by_cases h14 : k % 16 = 14
          · exfalso
            omega
          · have e14 : ((k : Int) % 16 == 14) = false := by simp; omega
            have HLD := hide (show LexD (rdOf l) xs s from ⟨q, i, by rw [← unhide HBS]; exact unhide HTD, by rw [← unhide HBS]; exact unhide HLN, by rw [← unhide HBS, ← unhide HK, if_neg h14]; exact unhide HSE⟩)
            have HFR := hide hFR
            clear hFR
            go_wp2_with fail
            refine bodyPost_ret (v := .tuple #[.agg #[.slice (some ⟨g4, 0, none⟩) xs.length c4], .string s]) ?res rfl ⟨⟨g4, c4, xs, s, rfl, by omega, by omega, hide ((unhide HFR).setCell _ _ (by simp; omega)), HLD⟩, belR.setCell (by simp) _⟩
            case res => simp [results, Try.results6, go_sem, rR]
  · have e15 : ((k : Int) % 16 == 15) = false := by simp; omega
    have HTD := hide (show TabD bs ys q3 from ⟨ys, q3, unhide HT3, Or.inr ⟨by rw [← unhide HK]; exact hk15, rfl, rfl⟩⟩)
    obtain ⟨ws, HWS⟩ : ∃ ws, Hid (ws = w3.alloc (.cells #[.slice (some ⟨g3, 0, none⟩) ys.length c3] 25)) := ⟨_, hide rfl⟩
    have hbW : Below w3.heap.size w3 ws := by rw [unhide HWS]; exact below1 _ _
    have hTl : w3.heap.size < ws.heap.size := by rw [unhide HWS]; simp
    have tS : ws.cell? ⟨w3.heap.size, 0, none⟩ = some (.slice (some ⟨g3, 0, none⟩) ys.length c3) := by rw [unhide HWS]; simp [go_sem]
    have HRS := hide ((unhide H3).below hbW)
    have HFS := hide ((unhide HF3).below hbW hg3l)
    have rS := (hbW.cell (p := ⟨w.heap.size, 0, none⟩) (block_lt_of_cell r3)).trans r3
    have fS := (hbW.frozen (p := ⟨w.heap.size, 0, none⟩) (block_lt_of_cell r3)).trans f3
    have KWS := hide ((unhide KW3).trans (hbW.mono (unhide KW3).size))
    have HXS := hide (show ∀ i, i < ys.length → (atO ys i).s.size ≤ 1001 from fun i hi => by have := (unhide HY2) i hi; omega)
    have hxl : ys.length ≤ 1048576 := by omega
    have hqle := (unhide H3).le
    clear H3 HF3 r3 f3 HT3 HY2 hbW
    go_wp2_with fail
    go_loopw [7, 8] (fun sv iv wr => ∃ i : Nat, iv = .int .i64 (i : Int) ∧ sv = .string (lexS ys bs q3 i).1 ∧ Hid (∀ j, j < i → j < 3 ∨ (lexS ys bs q3 j).2 < bs.length) ∧ Hid (RdS wr rp a cap' bs (lexS ys bs q3 i).2) ∧ Hid (Kept1 ws wr rp)) (fun _ iv _ => 2000 - (intOf iv).toNat)
    case atStart =>
      rw [← unhide HWS]
      exact ⟨0, rfl, rfl, hide (fun j hj => absurd hj (Nat.not_lt_zero _)), HRS, hide (Kept1.refl _ _)⟩
    case round =>
      obtain ⟨i, rfl, rfl, hj, HR, HKC⟩ := hrel
      have hile := lexS_far ys bs q3 hqle i (unhide hj)
      have hple := (unhide HR).le
      obtain ⟨s, HSE⟩ : ∃ s, Hid (s = (lexS ys bs q3 i).1) := ⟨_, hide rfl⟩
      obtain ⟨p, HPE⟩ : ∃ p, Hid (p = (lexS ys bs q3 i).2) := ⟨_, hide rfl⟩
      have hss : s.size ≤ 1003 * i := by rw [unhide HSE]; exact lexS_size (unhide HXS) bs q3 i
      rw [← unhide HPE] at hile hple HR
      rw [← unhide HSE]
      have hi2 : i ≤ 1300 := by omega
      have hss2 : s.size ≤ 2000000 := by omega
      have tR := ((unhide HKC).cell (b := w3.heap.size) hTl (by omega) 0).trans tS
      by_cases h3 : i < 3
      · have h3I : (i : Int) < 3 := by omega
        have HCond := hide (show i < 3 ∨ p < bs.length from Or.inl h3)
        go_wp2_with fail
        replace HR := hide ((unhide HR).below (Below.refl _ _).drew)
        replace HKC := hide ((unhide HKC).trans (Kept1.of_below (Below.refl _ _).drew))
        have HTC := hide (show (wr).drew.cell? ⟨w3.heap.size, 0, none⟩ = some (.slice (some ⟨g3, 0, none⟩) ys.length c3) from tR)
        go_region_held (fun w' => w'.cell? ⟨w3.heap.size, 0, none⟩ = some (.slice (some ⟨g3, 0, none⟩) ys.length c3)) (first | exact unhide HTC | (go_keep; done)) (first | (go_at_call 26; have HX := l2Gap_any rp cap' p a bs _ (unhide HR) hbl; refine HX.mono ?_; clear HX; rintro e w6 ⟨⟨gp, rfl, hgp⟩, H6, K6⟩; replace HR := H6; replace HTC := hide (((unhide K6).cell (b := w3.heap.size) (block_lt_of_cell (unhide HTC)) (by omega) 0).trans (unhide HTC)); replace HKC := hide ((unhide HKC).trans (unhide K6)); have hgs : gp.size ≤ 2 := (by rw [unhide hgp]; exact gapN_size _); clear H6 K6) | (go_at_call 27; have HX := l2DrawWord_any rp cap' (adv bs p) g3 c3 a bs ys _ (unhide HR) hbl hxl ((unhide HKC).filled (unhide HFS) (by omega)).ops ((unhide HKC).filled (unhide HFS) (by omega)).1 (by omega); refine HX.mono ?_; clear HX; rintro e w7 ⟨⟨wd, rfl, hwd⟩, H7, K7⟩; replace HR := H7; replace HTC := hide (((unhide K7).cell (b := w3.heap.size) (block_lt_of_cell (unhide HTC)) (by omega) 0).trans (unhide HTC)); replace HKC := hide ((unhide HKC).trans (unhide K7)); have hws : wd.size ≤ 1001 := (by rw [unhide hwd]; exact wordN_size (unhide HXS) _ _); clear H7 K7))
        all_goals
          go_wp2_with fail
          refine ⟨⟨i + 1, by go_num, ?_, hide (fun j hj' => ?_), ?_, HKC⟩, by simp [intOf]; omega⟩
          · show Value.string _ = Value.string ((lexS ys bs q3 i).1 ++ gapN (nxt bs (lexS ys bs q3 i).2) ++ wordN ys bs (adv bs (lexS ys bs q3 i).2))
            rw [← unhide HSE, ← unhide HPE, ← unhide hgp, ← unhide hwd]
          · by_cases e : j = i
            · subst e; rw [← unhide HPE]; exact unhide HCond
            · exact (unhide hj) j (by omega)
          · show Hid (RdS _ rp a cap' bs (wordP ys bs (adv bs (lexS ys bs q3 i).2)))
            rw [← unhide HPE]; exact HR
      · have h3I : ¬ (i : Int) < 3 := by omega
        go_wp2_with fail
        refine (left_any rp cap' p a bs _ (unhide HR) hbl).mono ?_
        rintro e w5 ⟨rfl, H5, hb5⟩
        have HKC5 := hide ((unhide HKC).trans (Kept1.of_below hb5))
        have tR5 := (hb5.cell (p := ⟨w3.heap.size, 0, none⟩) (block_lt_of_cell tR)).trans tR
        clear hb5 HR HKC tR
        have HR := H5
        have HKC := HKC5
        have tR := tR5
        clear H5 HKC5 tR5
        by_cases hpl : p < bs.length
        · have hpI : (0 : Int) < ((bs.length - p : Nat) : Int) := by omega
          have HCond := hide (show i < 3 ∨ p < bs.length from Or.inr hpl)
          go_wp2_with fail
          replace HR := hide ((unhide HR).below (Below.refl _ _).drew)
          replace HKC := hide ((unhide HKC).trans (Kept1.of_below (Below.refl _ _).drew))
          have HTC := hide (show (w5).drew.cell? ⟨w3.heap.size, 0, none⟩ = some (.slice (some ⟨g3, 0, none⟩) ys.length c3) from tR)
          go_region_held (fun w' => w'.cell? ⟨w3.heap.size, 0, none⟩ = some (.slice (some ⟨g3, 0, none⟩) ys.length c3)) (first | exact unhide HTC | (go_keep; done)) (first | (go_at_call 26; have HX := l2Gap_any rp cap' p a bs _ (unhide HR) hbl; refine HX.mono ?_; clear HX; rintro e w6 ⟨⟨gp, rfl, hgp⟩, H6, K6⟩; replace HR := H6; replace HTC := hide (((unhide K6).cell (b := w3.heap.size) (block_lt_of_cell (unhide HTC)) (by omega) 0).trans (unhide HTC)); replace HKC := hide ((unhide HKC).trans (unhide K6)); have hgs : gp.size ≤ 2 := (by rw [unhide hgp]; exact gapN_size _); clear H6 K6) | (go_at_call 27; have HX := l2DrawWord_any rp cap' (adv bs p) g3 c3 a bs ys _ (unhide HR) hbl hxl ((unhide HKC).filled (unhide HFS) (by omega)).ops ((unhide HKC).filled (unhide HFS) (by omega)).1 (by omega); refine HX.mono ?_; clear HX; rintro e w7 ⟨⟨wd, rfl, hwd⟩, H7, K7⟩; replace HR := H7; replace HTC := hide (((unhide K7).cell (b := w3.heap.size) (block_lt_of_cell (unhide HTC)) (by omega) 0).trans (unhide HTC)); replace HKC := hide ((unhide HKC).trans (unhide K7)); have hws : wd.size ≤ 1001 := (by rw [unhide hwd]; exact wordN_size (unhide HXS) _ _); clear H7 K7))
          all_goals
            go_wp2_with fail
            refine ⟨⟨i + 1, by go_num, ?_, hide (fun j hj' => ?_), ?_, HKC⟩, by simp [intOf]; omega⟩
            · show Value.string _ = Value.string ((lexS ys bs q3 i).1 ++ gapN (nxt bs (lexS ys bs q3 i).2) ++ wordN ys bs (adv bs (lexS ys bs q3 i).2))
              rw [← unhide HSE, ← unhide HPE, ← unhide hgp, ← unhide hwd]
            · by_cases e : j = i
              · subst e; rw [← unhide HPE]; exact unhide HCond
              · exact (unhide hj) j (by omega)
            · show Hid (RdS _ rp a cap' bs (wordP ys bs (adv bs (lexS ys bs q3 i).2)))
              rw [← unhide HPE]; exact HR
        · have hpI : ¬ (0 : Int) < ((bs.length - p : Nat) : Int) := by omega
          have hd : decide (0 < bs.length - p) = false := by rw [decide_eq_false_iff_not]; omega
          have HLN := hide (show LexN ys bs q3 i from ⟨by omega, by rw [← unhide HPE]; omega, unhide hj⟩)
          have rR := ((unhide HKC).cell (b := w.heap.size) (by omega) (by omega) 0).trans rS
          have fR := ((unhide HKC).frozen (b := w.heap.size) (by omega) (by omega) 0).trans fS
          have belR : Below w.heap.size w w5 := (unhide KWS).trans ((unhide HKC).below (B := w.heap.size) (unhide KWS).size (by omega))
          have hFR := (unhide HKC).filled (unhide HFS) (by omega)
          by_cases h14 : k % 16 = 14
          · have e14 : ((k : Int) % 16 == 14) = true := by simp; omega
            obtain ⟨N, HN⟩ : ∃ N, Hid (N = 20000 + k / 16 % 3 - 1) := ⟨_, hide rfl⟩
            have eN : (20000 : Int) + (k : Int) / 16 % 3 - 1 = (N : Int) := by have := unhide HN; omega
            have hN : N ≤ 20001 := by have := unhide HN; omega
            have HLD := hide (show LexD (rdOf l) ys (padTo s N) from ⟨q3, i, by rw [← unhide HBS]; exact unhide HTD, by rw [← unhide HBS]; exact unhide HLN, by rw [← unhide HBS, ← unhide HK, if_pos h14, ← unhide HSE, unhide HN]⟩)
            have HFR := hide hFR
            obtain ⟨v0, W0, hr0, hrow0, hb0⟩ := conv_row w5 s (by omega)
            obtain ⟨g0, cap0, rfl, hrow0'⟩ := (show ∃ g0 cap0, v0 = .slice (some ⟨g0, 0, none⟩) s.data.toList.length cap0 ∧ True from by obtain ⟨g, cap, h, _⟩ := hrow0; exact ⟨g, cap, h, trivial⟩)
            have hsl : s.data.toList.length = s.size := by simp
            have HROW := hide hrow0
            have HB0 := hide hb0
            clear hFR hrow0 hb0 hrow0'
            go_wp2_with fail
            go_loopw [9] (fun ov wr => ∃ n : Nat, n ≤ N - s.size ∧ Hid (RowY wr w5.heap.size ov (s.data.toList ++ List.replicate n (32 : UInt8))) ∧ Hid (Below w5.heap.size w5 wr)) (fun ov _ => 30000 - lenV ov)
            case atStart => exact ⟨0, Nat.zero_le _, hide (by rw [List.replicate_zero, List.append_nil]; exact unhide HROW), HB0⟩
            case round =>
              clear HROW HB0 hr0
              obtain ⟨n, hn, HRw, HBw⟩ := hrel
              obtain ⟨L, HL⟩ : ∃ L, Hid (L = s.data.toList ++ List.replicate n (32 : UInt8)) := ⟨_, hide rfl⟩
              rw [← unhide HL] at HRw
              obtain ⟨gL, cL, rfl, hgL⟩ := (show ∃ gL cL, u9 = .slice (some ⟨gL, 0, none⟩) L.length cL ∧ w5.heap.size ≤ gL from by obtain ⟨g, cap, h, h', _⟩ := unhide HRw; exact ⟨g, cap, h, h'⟩)
              have HLl := hide (show L.length = s.size + n by rw [unhide HL]; simp)
              have hLs : s.size ≤ L.length := by rw [unhide HLl]; omega
              have hLb : L.length ≤ 20001 ∨ L.length = s.size := by have := unhide HLl; omega
              have tW : wr.cell? ⟨w3.heap.size, 0, none⟩ = some (.slice (some ⟨g3, 0, none⟩) ys.length c3) := ((unhide HBw).cell (p := ⟨w3.heap.size, 0, none⟩) (block_lt_of_cell tR)).trans tR
              by_cases hlt : L.length < N
              · have hltI : (L.length : Int) < (N : Int) := by omega
                have hL1 : L.length ≤ 1000000 := by omega
                go_wp2_with (at_builtin; refine wpList_app1 rfl (.tmp 52) (.tmp 53) rfl w5.heap.size _ L 32 rfl ((unhide HRw).below (below1 _ _)) (by have := (unhide HBw).size; simp; omega) ⟨wr.heap.size, 0, none⟩ rfl (by simp [Addr.add, go_sem]) hL1 ?next)
                case next =>
                  intro v' w' hrow' hbel'
                  have HR' := hide hrow'
                  have HB' := hide ((unhide HBw).trans (((below1 wr _).mono (unhide HBw).size).trans hbel'))
                  obtain ⟨g', c', rfl, _⟩ := hrow'
                  clear hbel'
                  go_wp2_with fail
                  refine ⟨⟨n + 1, by have := unhide HLl; omega, hide ?_, HB'⟩, by simp [lenV]; omega⟩
                  rw [List.replicate_succ', ← List.append_assoc, ← unhide HL]
                  exact unhide HR'
              · have hltI : ¬ (L.length : Int) < (N : Int) := by omega
                have HLE := hide (show (⟨L.toArray⟩ : ByteArray) = padTo s N by
                  have : n = N - s.size := by have := unhide HLl; omega
                  rw [unhide HL, this]; rfl)
                obtain ⟨_, _, hv, _, hgs, _, _, _, hcl⟩ := unhide HRw
                injection hv with hv1 hv2 hv3
                injection hv1 with hv1
                injection hv1 with hv1
                subst hv1
                have hcs : (convert 22 9 (.slice (some ⟨gL, 0, none⟩) L.length cL)).run Try.prog wr.drew = .ok (.string ⟨L.toArray⟩) wr.drew := conv_string wr.drew gL L.length cL L rfl (fun j u hj => by rw [Addr.add_mid, Nat.zero_add]; exact hcl j u hj)
                have hRw5 : w.heap.size < w5.heap.size := block_lt_of_cell rR
                have hcs2 : (convert 22 9 (.slice (some ⟨gL, 0, none⟩) L.length cL)).run Try.prog (wr.setCell ⟨w.heap.size, 0, none⟩ (.slice (some ⟨g3, 0, none⟩) ys.length c3)).drew = .ok (.string ⟨L.toArray⟩) (wr.setCell ⟨w.heap.size, 0, none⟩ (.slice (some ⟨g3, 0, none⟩) ys.length c3)).drew := conv_string (wr.setCell ⟨w.heap.size, 0, none⟩ (.slice (some ⟨g3, 0, none⟩) ys.length c3)).drew gL L.length cL L rfl (fun j u hj => by rw [Addr.add_mid, Nat.zero_add]; exact (World.cell?_setCell_other wr ⟨w.heap.size, 0, none⟩ ⟨gL, j, none⟩ _ (fun x => by injection x with x1; omega)).trans (hcl j u hj))
                have rW : wr.cell? ⟨w.heap.size, 0, none⟩ = some (.slice none 0 0) := ((unhide HBw).cell (p := ⟨w.heap.size, 0, none⟩) (block_lt_of_cell rR)).trans rR
                have fW : wr.frozen? ⟨w.heap.size, 0, none⟩ = false := ((unhide HBw).frozen (p := ⟨w.heap.size, 0, none⟩) (block_lt_of_cell rR)).trans fR
                have belW : Below w.heap.size w wr := belR.trans ((unhide HBw).mono belR.size)
                have HFW := hide ((unhide HFR).below (unhide HBw) (unhide HFR).1)
                clear hcl hv2 hv3
                go_wp2_with fail
                go_region
                all_goals go_wp2
                all_goals
                  refine bodyPost_ret (v := .tuple #[.agg #[.slice (some ⟨g3, 0, none⟩) ys.length c3], .string ⟨L.toArray⟩]) ?res rfl ⟨⟨g3, c3, ys, _, rfl, by omega, by show L.toArray.size ≤ 3000000; rw [List.size_toArray]; omega, hide ((unhide HFW).setCell _ _ (by simp; omega)), by rw [unhide HLE]; exact HLD⟩, below_drewS belW⟩
                  case res => simp [results, Try.results6, go_sem, rW]
          · have e14 : ((k : Int) % 16 == 14) = false := by simp; omega
            have HLD := hide (show LexD (rdOf l) ys s from ⟨q3, i, by rw [← unhide HBS]; exact unhide HTD, by rw [← unhide HBS]; exact unhide HLN, by rw [← unhide HBS, ← unhide HK, if_neg h14]; exact unhide HSE⟩)
            have HFR := hide hFR
            clear hFR
            go_wp2_with fail
            refine bodyPost_ret (v := .tuple #[.agg #[.slice (some ⟨g3, 0, none⟩) ys.length c3], .string s]) ?res rfl ⟨⟨g3, c3, ys, s, rfl, by omega, by omega, hide ((unhide HFR).setCell _ _ (by simp; omega)), HLD⟩, belR.setCell (by simp) _⟩
            case res => simp [results, Try.results6, go_sem, rR]
end Go.Proofs.Ytokabkhnidlcnaa
