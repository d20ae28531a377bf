import Derived.Deep.RegionHeld
import Derived.Test.YtfboipappaonhaaGreatU21
import Derived.Test.YtfboipappaonhaaGreatU29
import Derived.Test.YtfboipappaonhaaGreatU35

/-
  Walk: the program's Render, by a strings.Builder.
-/
namespace Go.Proofs.YtfboipappaonhaaGreat
set_option maxRecDepth 100000
open Go.RowKit

theorem bld_start (w : World) : Bld w.heap.size w.heap.size [] (w.alloc (.cells #[.pointer none, .slice none 0 0] 137)) :=
  Lib.IsBuilderF.of (Or.inl ⟨Nat.le_refl _, .slice none 0 0, heap_alloc_new w _, World.ownsRow_nil _ _ _ _, by simp [Value.ownBlock]⟩)

theorem Bld.alloc {B b : Nat} {l : List UInt8} {w : World} (h : Bld B b l w) (o : Obj) : Bld B b l (w.alloc o) := Lib.IsBuilderF.alloc h o

theorem bld_lt {B b : Nat} {l : List UInt8} {w : World} (h : Bld B b l w) : b < w.heap.size := by
  rcases h with h | h
  · exact h.lt
  · exact h.lt

set_option maxHeartbeats 4000000 in
theorem implRender_any (b off cap : Nat) (xs : List TokR) (w : World) (hm : xs.length + totToT xs xs.length ≤ 1048576) (hw : OpsT w b off xs) (hB : b < w.heap.size) :
    Calls Tryz.prog 130 #[.slice (some ⟨b, off, none⟩) xs.length cap] w fun e w' => e = .returned (.string ⟨(rendTo xs xs.length).toArray⟩) ∧ Below w.heap.size w w' := by
  have HW := hide hw
  have HO := hide (bld_start w)
  clear hw
  go_enter Tryz.func130, Tryz.ntmps130
  go_wp2
  go_loopw [8] (fun i wr => ∃ k : Nat, k ≤ xs.length ∧ i = .int .i64 (k : Int) ∧ Hid (Bld w.heap.size w.heap.size (rendTo xs k) wr) ∧ Below w.heap.size w wr) (fun i _ => xs.length - (intOf i).toNat)
  case atStart => exact ⟨0, Nat.zero_le _, rfl, HO, below1 _ _⟩
  case round =>
    clear HO
    obtain ⟨k, hk, rfl, hbl, hbel⟩ := hrel
    by_cases hlt : k < xs.length
    · obtain ⟨a0, a1, a2⟩ := ((unhide HW) k hlt).below hbel hB
      have hnn := rend_len xs k
      have htk : totToT xs (k + 1) ≤ totToT xs xs.length := tot_mono xs _ _ (by omega)
      simp only [totToT, totT] at htk
      have hl1 : (rendTo xs k).length + (atT xs k).g.size ≤ 1048576 := by omega
      have hl2 : (rendTo xs k ++ (atT xs k).g.data.toList).length + (atT xs k).t.size ≤ 1048576 := by
        rw [List.length_append]
        have : (atT xs k).g.data.toList.length = (atT xs k).g.size := by simp
        omega
      have HBL := hide ((unhide hbl).alloc (.cells #[.int .i64 (atT xs k).k, .string (atT xs k).g, .string (atT xs k).t] 97))
      have L1 := hide hl1
      have L2 := hide hl2
      have hblt := hide (show w.heap.size < wr.heap.size from bld_lt (unhide hbl))
      clear hnn htk hl1 hl2 hbl
      go_wp2_with fail
      refine (bldWrite_any _ _ _ _ _ (unhide HBL) (by have := unhide L1; omega) (by have := hbel.size; simp; omega)).mono ?_
      rintro e w1 ⟨⟨v, rfl⟩, hb1, hbe1, hk1⟩
      have HB1 := hide hb1
      have hz1 : wr.heap.size < w1.heap.size := by have := hbe1.size; simp at this; omega
      have ht : w1.heap[wr.heap.size]? = some (.cells #[.int .i64 (atT xs k).k, .string (atT xs k).g, .string (atT xs k).t] 97 (0, 0)) := hk1 _ _ (heap_alloc_new wr _) (by have := hbel.size; simp; have := (unhide hblt); omega) (by simp)
      have q2 : w1.cell? ⟨wr.heap.size, 2, none⟩ = some (.string (atT xs k).t) := by rw [Lib.cell_of_heap ht]; rfl
      have hbel1 : Below w.heap.size w w1 := (hbel.alloc hbel.size _).trans hbe1
      clear hb1 hk1 ht hbe1
      go_wp2_with fail
      refine (bldWrite_any _ _ _ _ _ (unhide HB1) (by have := unhide L2; omega) hbel1.size).mono ?_
      rintro e w2 ⟨⟨v2, rfl⟩, hb2, hbe2, _⟩
      have HB2 := hide (show Bld w.heap.size w.heap.size (rendTo xs (k + 1)) w2 from hb2)
      have hbel2 := hbel1.trans hbe2
      clear hb2 hbe2
      go_wp2
      exact ⟨⟨k + 1, by omega, by go_num, HB2, hbel2⟩, by simp [intOf]; omega⟩
    · have HK := hide (show k = xs.length by omega)
      go_wp2_with fail
      refine (bldString_any _ _ _ _ (unhide hbl) hbel.size).mono ?_
      rintro e w1 ⟨rfl, _, hbe1, _⟩
      go_wp2
      go_ret
      exact ⟨ret_str (by rw [unhide HK]), hbel.trans hbe1⟩
end Go.Proofs.YtfboipappaonhaaGreat

/-
  Walk: the place of a token in the text.
-/
namespace Go.Proofs.YtfboipappaonhaaGreat
set_option maxRecDepth 100000
set_option linter.unusedSimpArgs false
set_option linter.unusedVariables false
open Go.RowKit

/-- Where token i begins. -/
def offT (ts : List TokR) (i : Nat) : Nat := totToT ts i + (atT ts i).g.size

theorem atT_take {ts : List TokR} {i j : Nat} (h : j < i) : atT (ts.take i) j = atT ts j := by
  simp [atT, List.getD, List.getElem?_take, h]

theorem tot_take (ts : List TokR) (i : Nat) : ∀ k, k ≤ i → totToT (ts.take i) k = totToT ts k
  | 0, _ => rfl
  | k + 1, h => by
    simp only [totToT]
    rw [tot_take ts i k (by omega), atT_take (by omega)]

set_option maxHeartbeats 1000000 in
theorem offsetOf_any (g o c i : Nat) (ts : List TokR) (w : World) (hm : ts.length + totToT ts ts.length ≤ 1048576) (hi : i < ts.length) (hc : ts.length ≤ c) (hc2 : c ≤ maxLen) (hw : OpsT w g o ts) (hB : g < w.heap.size) (hz : (atT ts i).g.size ≤ 1048576) :
    Calls Tryz.prog 80 #[.slice (some ⟨g, o, none⟩) ts.length c, .int .i64 (i : Int)] w fun e w' => e = .returned (.int .i64 (offT ts i : Int)) ∧ Below w.heap.size w w' := by
  have htl : (ts.take i).length = i := by simp; omega
  have htm := tot_mono ts i ts.length (by omega)
  have hdr : Below w.heap.size w w.drew := (Below.refl _ _).drew
  have HX := implRender_any g o c (ts.take i) w.drew (by rw [htl, tot_take ts i i (Nat.le_refl _)]; omega) (fun j hj => by
    rw [htl] at hj
    have h := (hw j (by omega)).below hdr hB
    unfold CellsT at h ⊢
    rw [atT_take hj]
    exact h) hB
  rw [htl] at HX
  have e0 : (rendTo (ts.take i) i).length = totToT ts i := by rw [rend_len, tot_take ts i i (Nat.le_refl _)]
  obtain ⟨S, hS⟩ : ∃ S : ByteArray, S = ⟨(rendTo (ts.take i) i).toArray⟩ := ⟨_, rfl⟩
  rw [← hS] at HX
  have hSz : S.size = totToT ts i := by rw [hS, ← e0]; simp [ByteArray.size]
  obtain ⟨k0, k1, k2⟩ := hw i hi
  have hiI : (i : Int) < (ts.length : Int) := by omega
  have HS := hide hSz
  have HOFF := hide (show (offT ts i : Int) = (S.size : Int) + ((atT ts i).g.size : Int) by unfold offT; rw [hSz]; omega)
  have hb1 : S.size ≤ 1048576 := by omega
  clear hS e0 hSz htm htl hw hdr
  go_enter Tryz.func80, Tryz.ntmps80
  go_wp2_with fail
  have HBC := hide (show Below w.heap.size w w.drew from (Below.refl _ _).drew)
  go_region_held (fun w' => w'.cell? ⟨g, o + i * 3 + 1, none⟩ = some (.string (atT ts i).g)) (first | (go_keep; done) | exact ((unhide HBC).cell (p := ⟨g, o + i * 3 + 1, none⟩) hB).trans k1)
    (first | (go_at_call 130; refine HX.mono ?_; rintro x w1 ⟨rfl, hb⟩; replace HBC := hide ((unhide HBC).trans hb); clear HX hb))
  have hwr : IntKind.i64.wrap ((S.size : Int) + ((atT ts i).g.size : Int)) = (S.size : Int) + ((atT ts i).g.size : Int) := by rw [IntKind.wrap_i64]; omega
  rw [hwr, ← unhide HOFF]
  go_wp2_with fail
  go_ret
  exact ⟨rfl, unhide HBC⟩
end Go.Proofs.YtfboipappaonhaaGreat

/-
  What Parse answers.
-/
namespace Go.Proofs.YtfboipappaonhaaGreat
set_option maxRecDepth 100000
set_option linter.unusedSimpArgs false
set_option linter.unusedVariables false

/-- What is answered of tokens that fit. -/
def ReadIs (ns : List OpR) (ts : List TokR) (us : List NodeR) (c p : Int) : Prop :=
  (RD ns 0 none (sgs ns ts 0 ts.length) = none ∧ us = [] ∧ c = 5 ∧ p = 0) ∨
  ∃ T r, RD ns 0 none (sgs ns ts 0 ts.length) = some (T, r) ∧ ((1000 < hT T ∧ us = [] ∧ c = 6 ∧ p = 0) ∨ (hT T ≤ 1000 ∧ us = nd T 0 ∧ c = 0 ∧ p = 0))

/-- What is answered of tokens. -/
def ToksIs (ns : List OpR) (ts : List TokR) (us : List NodeR) (c p : Int) : Prop :=
  (∃ i, i < ts.length ∧ (atT ts i).k = 6 ∧ (∀ j, j < i → (atT ts j).k ≠ 6) ∧ us = [] ∧ c = 3 ∧ p = (offT ts i : Int)) ∨
  ((∀ j, j < ts.length → (atT ts j).k ≠ 6) ∧
    ((∃ i, i < ts.length ∧ FitTo ns ts i ∧ roleTo ns ts i < 0 ∧ us = [] ∧ c = 4 ∧ p = (offT ts i : Int)) ∨ (FitTo ns ts ts.length ∧ ReadIs ns ts us c p)))

/-- What Parse answers. -/
def ParseIs (ns : List OpR) (s : ByteArray) (us : List NodeR) (c p : Int) : Prop :=
  (¬ IsCode ns 0 ∧ us = [] ∧ c = 1 ∧ p = 0) ∨
  (IsCode ns 0 ∧ ((20000 < s.size ∧ us = [] ∧ c = 2 ∧ p = 0) ∨ (s.size ≤ 20000 ∧ ∃ ts, Lexed ns s 0 ts ∧ ToksIs ns ts us c p)))

theorem ReadIs.one {ns : List OpR} {ts : List TokR} {us us' : List NodeR} {c c' p p' : Int} (h : ReadIs ns ts us c p) (h' : ReadIs ns ts us' c' p') : us = us' ∧ c = c' ∧ p = p' := by
  rcases h with ⟨h1, rfl, rfl, rfl⟩ | ⟨T, r, h1, h⟩
  · rcases h' with ⟨h2, rfl, rfl, rfl⟩ | ⟨T', r', h2, h'⟩
    · exact ⟨rfl, rfl, rfl⟩
    · rw [h1] at h2; cases h2
  · rcases h' with ⟨h2, rfl, rfl, rfl⟩ | ⟨T', r', h2, h'⟩
    · rw [h1] at h2; cases h2
    · rw [h1] at h2
      injection h2 with h2
      injection h2 with h2 _
      subst h2
      rcases h with ⟨a, rfl, rfl, rfl⟩ | ⟨a, rfl, rfl, rfl⟩ <;> rcases h' with ⟨b, rfl, rfl, rfl⟩ | ⟨b, rfl, rfl, rfl⟩
      · exact ⟨rfl, rfl, rfl⟩
      · omega
      · omega
      · exact ⟨rfl, rfl, rfl⟩

theorem ToksIs.one {ns : List OpR} {ts : List TokR} {us us' : List NodeR} {c c' p p' : Int} (h : ToksIs ns ts us c p) (h' : ToksIs ns ts us' c' p') : us = us' ∧ c = c' ∧ p = p' := by
  rcases h with ⟨i, hi, a1, a2, rfl, rfl, rfl⟩ | ⟨a, h⟩
  · rcases h' with ⟨j, hj, b1, b2, rfl, rfl, rfl⟩ | ⟨b, h'⟩
    · rcases (by omega : i = j ∨ i < j ∨ j < i) with e | e | e
      · subst e; exact ⟨rfl, rfl, rfl⟩
      · exact absurd a1 (b2 i e)
      · exact absurd b1 (a2 j e)
    · exact absurd a1 (b i hi)
  · rcases h' with ⟨j, hj, b1, b2, rfl, rfl, rfl⟩ | ⟨b, h'⟩
    · exact absurd b1 (a j hj)
    · rcases h with ⟨i, hi, f, n, rfl, rfl, rfl⟩ | ⟨f, h⟩
      · rcases h' with ⟨j, hj, f', n', rfl, rfl, rfl⟩ | ⟨f', h'⟩
        · rcases (by omega : i = j ∨ i < j ∨ j < i) with e | e | e
          · subst e; exact ⟨rfl, rfl, rfl⟩
          · have := f' i e; omega
          · have := f j e; omega
        · have := f' i hi; omega
      · rcases h' with ⟨j, hj, f', n', rfl, rfl, rfl⟩ | ⟨f', h'⟩
        · have := f j hj; omega
        · exact h.one h'

theorem ParseIs.one {ns : List OpR} {s : ByteArray} {us us' : List NodeR} {c c' p p' : Int} (h : ParseIs ns s us c p) (h' : ParseIs ns s us' c' p') : us = us' ∧ c = c' ∧ p = p' := by
  rcases h with ⟨n, rfl, rfl, rfl⟩ | ⟨n, h⟩
  · rcases h' with ⟨n', rfl, rfl, rfl⟩ | ⟨n', h'⟩
    · exact ⟨rfl, rfl, rfl⟩
    · exact absurd n' n
  · rcases h' with ⟨n', rfl, rfl, rfl⟩ | ⟨n', h'⟩
    · exact absurd n n'
    · rcases h with ⟨b, rfl, rfl, rfl⟩ | ⟨b, ts, hx, h⟩
      · rcases h' with ⟨b', rfl, rfl, rfl⟩ | ⟨b', ts', hx', h'⟩
        · exact ⟨rfl, rfl, rfl⟩
        · omega
      · rcases h' with ⟨b', rfl, rfl, rfl⟩ | ⟨b', ts', hx', h'⟩
        · omega
        · have e := Lexed.one _ _ _ hx hx'
          subst e
          exact h.one h'
end Go.Proofs.YtfboipappaonhaaGreat
