import Derived.Maps.RangeWalk
import Derived.Test.YtokabkhnidlcnaaL12
import Derived.Test.YtokabkhnidlcnaaL18
import Derived.Test.YtokabkhnidlcnaaL20

/-
  Walk: the longest text of an index: a range over a map, in whatever order.
-/
namespace Go.Proofs.Ytokabkhnidlcnaa
set_option maxRecDepth 100000
set_option linter.unusedVariables false
set_option linter.unusedSimpArgs false
open Go.RowKit Go.Maps

theorem litsS_inv {c : Value} {l : List Lit} {d : Nat} (h : Try.prog.keyLits (d + 1) 9 [c] = some l) : ∃ s, c = .string s ∧ s.size ≤ maxLen := by
  unfold Program.keyLits at h
  rw [Try.underlying9] at h
  cases c with
  | string s =>
    simp only at h
    split at h
    · rename_i hs; exact ⟨s, rfl, hs⟩
    · cases h
  | _ => simp at h

theorem litsI_inv {c : Value} {l : List Lit} {d : Nat} (h : Try.prog.keyLits (d + 1) 3 [c] = some l) : ∃ n, c = .int .i64 n ∧ (Lit.int .i64 n).wf = true := by
  unfold Program.keyLits at h
  rw [Try.underlying3] at h
  cases c with
  | int q n =>
    simp only at h
    split at h
    · rename_i hs; obtain ⟨rfl, hw⟩ := hs; exact ⟨n, rfl, hw⟩
    · cases h
  | _ => simp at h

theorem litsK_inv {c0 c1 : Value} {ls : List Lit} {d : Nat} (h : Try.prog.keyLits (d + 1 + 1) 108 [c0, c1] = some ls) : ∃ s kd, c0 = .string s ∧ c1 = .int .i64 kd ∧ s.size ≤ maxLen ∧ (Lit.int .i64 kd).wf = true := by
  have e : Try.prog.keyLits (d + 1 + 1) 108 [c0, c1] = (Try.prog.keyLits (d + 1) 9 [c0]).bind fun a => (Try.prog.keyLits (d + 1) 3 [c1]).map fun b => a ++ b := by
    conv => lhs; unfold Program.keyLits
    rw [Try.underlying108]
    cases h0 : Try.prog.keyLits (d + 1) 9 [c0] with
    | none => simp [cellsK, cells9, cells3, h0]
    | some l0 =>
      cases h1 : Try.prog.keyLits (d + 1) 3 [c1] with
      | none => simp [cellsK, cells9, cells3, h0, h1]
      | some l1 => simp [cellsK, cells9, cells3, h0, h1]
  rw [e] at h
  cases h0 : Try.prog.keyLits (d + 1) 9 [c0] with
  | none => rw [h0] at h; cases h
  | some l0 =>
    cases h1 : Try.prog.keyLits (d + 1) 3 [c1] with
    | none => rw [h0, h1] at h; cases h
    | some l1 =>
      obtain ⟨s, rfl, hs⟩ := litsS_inv h0
      obtain ⟨kd, rfl, hw⟩ := litsI_inv h1
      exact ⟨s, kd, rfl, rfl, hs, hw⟩

theorem keyK_inv {key : Value} {kl : Lit} (h : keyOf Try.prog 108 key = some kl) : ∃ s kd, key = .agg #[.string s, .int .i64 kd] ∧ s.size ≤ maxLen ∧ (Lit.int .i64 kd).wf = true := by
  unfold keyOf at h
  rw [Try.underlying108] at h
  simp only [keyTyK, Bool.true_and] at h
  split at h
  · rename_i hf
    cases key with
    | agg cs =>
      simp only [Value.formed, Try.underlying108, cellsK, beq_iff_eq] at hf
      obtain ⟨l⟩ := cs
      match l, hf with
      | [c0, c1], _ =>
        obtain ⟨ls, hl, _⟩ := Option.map_eq_some_iff.1 h
        have hl' : Try.prog.keyLits (Try.prog.types.size + 1) 108 [c0, c1] = some ls := hl
        rw [sizeTypes] at hl'
        obtain ⟨s, kd, rfl, rfl, hs, hw⟩ := litsK_inv hl'
        exact ⟨s, kd, rfl, hs, hw⟩
    | _ => simp [Value.formed, Try.underlying108] at hf
  · cases h

theorem opElem_shape {v : Value} {y : DataW Unit × List MemPlace} (h : opElem v = some y) : ∃ c : ByteArray × Int × Int × Int, v = .agg #[.string c.1, .int .i64 c.2.1, .int .i64 c.2.2.1, .int .i64 c.2.2.2] := by
  obtain ⟨s, k, l, sd, rfl⟩ := opElem_inv h
  exact ⟨(s, k, l, sd), rfl⟩

theorem keyK_shape {key : Value} {kl : Lit} (h : keyOf Try.prog 108 key = some kl) : ∃ x : ByteArray × Int, key = .agg #[.string x.1, .int .i64 x.2] := by
  obtain ⟨s, kd, rfl, _⟩ := keyK_inv h
  exact ⟨(s, kd), rfl⟩

set_option maxHeartbeats 2000000 in
theorem longestText_any (bo bs : Nat) (xs : List OpR) (w : World) (hi : Idx w bo bs xs xs.length) (hv : SignTexts xs) (hsz : Sized xs) (hok : okTo xs xs.length) :
    Calls Try.prog 55 #[.agg #[.map (some bo), .map (some bs)]] w fun e w' => (∃ L : Nat, e = .returned (.int .i64 (L : Int)) ∧ L ≤ 16 ∧ ∀ j, j < xs.length → (atO xs j).s.size ≤ L) ∧ Below w.heap.size w w' := by
  obtain ⟨⟨D, hown, hD⟩, _, _⟩ := hi
  have HD := hide hD
  have HV := hide hv
  have HZ := hide hsz
  have HOK := hide hok
  have hbl := hown.lt
  clear hD hv hsz hok
  have e1 : (w.alloc (.cells #[.map (some bo), .map (some bs)] 66)).heap.size = w.heap.size + 1 := by simp
  go_enter Try.func55, Try.ntmps55
  go_wp2_with (at_range; refine wpList_range_own _ rfl _ 63 rfl 108 48 lawK Try.underlying63 opElem bo xs.length D rfl (hown.alloc _) ?_; intro w0 hrg0 hg0 hs0)
  go_frame
  rw [e1] at hrg0 hs0 ⊢
  have hb0 : Below w.heap.size w w0 := (below1 _ _).grown hg0 (by simp) (fun j hj => by cases hj)
  go_loopw [3] (fun lv wr => ∃ (L : Nat) (left : Lit → Bool) (cnt : Nat), lv = .int .i64 (L : Int) ∧ L ≤ 16 ∧ Hid (wr.ranges Try.prog 108 opElem bo (w.heap.size + 1) xs.length D left cnt) ∧ Hid (∀ j, j < xs.length → left (klO (atO xs j).s (atO xs j).k) = false → (atO xs j).s.size ≤ L) ∧ Hid (∀ kl, left kl = true → Maps.has D kl = true) ∧ w.heap.size + 1 < wr.heap.size ∧ Hid (Below w.heap.size w wr)) (fun _ wr => wr.rangeLeft bo (w.heap.size + 1))
  case atStart =>
    refine ⟨0, _, _, rfl, by omega, hide hrg0, hide (fun j hj h => ?_), hide (fun kl h => h), by omega, hide hb0⟩
    have := (((unhide HD) (atO xs j).s (atO xs j).k ((unhide HZ) j hj) (ok_wfk ((unhide HOK) j hj))).1).2 ⟨j, hj, rfl, rfl⟩
    rw [this] at h
    cases h
  case round =>
    obtain ⟨L, left, cnt, rfl, hL, hrg, hle, hsub, hz, hbl2⟩ := hrel
    go_wp2_with (at_next; refine wpList_next_ranges _ rfl _ rfl 108 lawK opElem (fun x : ByteArray × Int => .agg #[.string x.1, .int .i64 x.2]) (fun c : ByteArray × Int × Int × Int => .agg #[.string c.1, .int .i64 c.2.1, .int .i64 c.2.2.1, .int .i64 c.2.2.2]) (fun key kl h => keyK_shape h) (fun v y h => opElem_shape h) bo (w.heap.size + 1) xs.length D left cnt rfl (unhide hrg) ?_ ?_)
    · intro hc0 hl0
      go_wp2
      go_ret
      exact ⟨⟨L, rfl, hL, fun j hj => (unhide hle) j hj (hl0 _)⟩, unhide hbl2⟩
    · intro s kd s2 k2 l2 sd2 kl yd yp w1 cnt1 hkey hlk hvv hat hrg1 hlt hg1 hs1 hen
      obtain ⟨s', kd', he, hss, hkw⟩ := keyK_inv hkey
      simp only [Value.agg.injEq, Array.mk.injEq, List.cons.injEq, Value.string.injEq, Value.int.injEq, true_and, and_true] at he
      obtain ⟨rfl, rfl⟩ := he
      have hkl : kl = klO s kd := by
        have := keyK hss hkw
        rw [this] at hkey
        injection hkey with hkey
        exact hkey.symm
      subst hkl
      have hs16 : s.size ≤ 16 := by
        obtain ⟨j, hj, e, _⟩ := (((unhide HD) s kd hss hkw).1).1 ((unhide hsub) _ hlk)
        rw [← e]
        exact ((unhide HV) j hj).2.1
      obtain ⟨L', hL'⟩ : ∃ L' : Nat, L' = max L s.size := ⟨_, rfl⟩
      have hmx : max (L : Int) (s.size : Int) = (L' : Int) := by omega
      have HLE := hide (show ∀ j, j < xs.length → ((fun z => left z && !z.sameKey (klO s kd)) (klO (atO xs j).s (atO xs j).k)) = false → (atO xs j).s.size ≤ L' from fun j hj h => by
        simp only [Bool.and_eq_false_iff, Bool.not_eq_false'] at h
        rcases h with h | h
        · have := (unhide hle) j hj h; omega
        · have e : klO (atO xs j).s (atO xs j).k = klO s kd := by simpa [Lit.sameKey, klO] using h
          have e' := (klO_inj ((unhide HZ) j hj) hss (ok_wfk ((unhide HOK) j hj)) hkw e).1
          rw [e']; omega)
      have HSUB := hide (show ∀ z, ((fun z => left z && !z.sameKey (klO s kd)) z) = true → Maps.has D z = true from fun z h => by
        simp only [Bool.and_eq_true] at h
        exact (unhide hsub) z h.1)
      have HB1 := hide ((unhide hbl2).grown hg1 (unhide hbl2).size (fun j hj => by injection hj with hj; omega))
      have HR1 := hide (hrg1.alloc (.cells #[.string s, .int .i64 kd] 108))
      have HRO := hide (show cnt1 < cnt from hlt)
      clear hkey hlk hvv hat hle hsub hbl2 hg1
      go_wp2
      refine ⟨⟨L', _, cnt1, ?_, by omega, HR1, HLE, HSUB, by simp; omega, hide ((unhide HB1).alloc (unhide HB1).size _)⟩, ?_⟩
      · first | rfl | (congr 1; omega)
      · rw [(unhide HR1).left_eq, (unhide hrg).left_eq]; exact unhide HRO
end Go.Proofs.Ytokabkhnidlcnaa

/-
  Walk: the program's Lex.
-/
namespace Go.Proofs.Ytokabkhnidlcnaa
set_option maxRecDepth 100000
open Go.RowKit Go.Maps

theorem sc_scan {W : World} {p bo bs L : Nat} {xs : List OpR} {s : ByteArray} (hsc : Sc W p bo bs L s 0 0 (.slice none 0 0)) (hi : Idx W bo bs xs xs.length) (h1 : bo < p) (h2 : bs < p) : Scan W W p bo bs L xs s 0 0 [] (.slice none 0 0) :=
  ⟨hsc, World.ownsRow_nil _ _ _ _, by simp [Value.ownBlock], hi, Below.refl _ _, Read.start xs s, fun q h1 h2 => by omega, Nat.le_refl _, Nat.zero_le _, h1, h2⟩

theorem scan_startA {w2 : World} {bo bs L : Nat} {xs : List OpR} {s : ByteArray} (hi : Idx w2 bo bs xs xs.length) (h1 : bo < w2.heap.size) (h2 : bs < w2.heap.size) :
    Scan (w2.alloc (.cells #[.map (some bo), .map (some bs), .int .i64 (L : Int), .string s, .int .i64 0, .int .i64 0, .slice none 0 0] 97)) (w2.alloc (.cells #[.map (some bo), .map (some bs), .int .i64 (L : Int), .string s, .int .i64 0, .int .i64 0, .slice none 0 0] 97)) w2.heap.size bo bs L xs s 0 0 [] (.slice none 0 0) := by
  refine sc_scan ⟨?_, ?_, ?_, ?_, ?_, ?_, ?_, fun o => ?_⟩ (hi.kept (below1 _ _)) h1 h2
  all_goals simp [go_sem]

theorem frozen_setCells (g : Nat) : ∀ (vs : List Value) (o : Nat) (w : World) (q : Addr), (w.setCells g o vs).frozen? q = w.frozen? q
  | [], _, _, _ => rfl
  | v :: r, o, w, q => (frozen_setCells g r (o + 1) (w.setCell ⟨g, o, none⟩ v) q).trans (World.frozen?_setCell _ _ _ _)

theorem heap_setCells (g i : Nat) (hne : i ≠ g) : ∀ (vs : List Value) (o : Nat) (w : World), (w.setCells g o vs).heap[i]? = w.heap[i]?
  | [], _, _ => rfl
  | v :: r, o, w => (heap_setCells g i hne r (o + 1) (w.setCell ⟨g, o, none⟩ v)).trans (Below.heap_setCell _ _ _ _ hne)

theorem scan_startB {w2 : World} {p bo bs L : Nat} {xs : List OpR} {s : ByteArray} (hi : Idx w2 bo bs xs xs.length) (h1 : bo < p) (h2 : bs < p) (hc : ∀ j, j < 7 → (w2.cell? ⟨p, j, none⟩).isSome = true) (hf : ∀ o, w2.frozen? ⟨p, o, none⟩ = false) :
    Scan (w2.setCells p 0 [.map (some bo), .map (some bs), .int .i64 (L : Int), .string s, .int .i64 0, .int .i64 0, .slice none 0 0]) (w2.setCells p 0 [.map (some bo), .map (some bs), .int .i64 (L : Int), .string s, .int .i64 0, .int .i64 0, .slice none 0 0]) p bo bs L xs s 0 0 [] (.slice none 0 0) := by
  have hin := World.cell?_setCells_in p [.map (some bo), .map (some bs), .int .i64 (L : Int), .string s, .int .i64 0, .int .i64 0, .slice none 0 0] 0 w2 (fun j hj => by simpa using hc j (by simpa using hj))
  refine sc_scan ⟨by simpa using hin 0 (by simp), by simpa using hin 1 (by simp), by simpa using hin 2 (by simp), by simpa using hin 3 (by simp), by simpa using hin 4 (by simp), by simpa using hin 5 (by simp), by simpa using hin 6 (by simp), fun o => (frozen_setCells p _ _ _ _).trans (hf o)⟩ (hi.of_blocks (heap_setCells p bo (by omega) _ _ _) (heap_setCells p bs (by omega) _ _ _)) h1 h2

set_option maxHeartbeats 4000000 in
theorem cut_any (bo bs : Nat) (xs : List OpR) (s : ByteArray) (w : World) (hi : Idx w bo bs xs xs.length) (hc : IsCode xs 0) (hsz : Sized xs) (h20 : s.size ≤ 20000) :
    Calls Try.prog 32 #[.agg #[.map (some bo), .map (some bs)], .string s] w fun e w' => (∃ (g cp : Nat) (us : List TokR), e = .returned (.slice (some ⟨g, 0, none⟩) us.length cp) ∧ w.heap.size ≤ g ∧ Hid (FilledT w' g us us.length) ∧ Hid (Lexed xs s 0 us)) ∧ Below w.heap.size w w' := by
  have HS := hide hsz
  have HOK := hide (code_ok hc)
  have HV := hide (signTexts_of (code_ok hc))
  have HK := hide (kinds_of (code_ok hc))
  have hbo : bo < w.heap.size := by obtain ⟨D, hD, _⟩ := hi.ops; exact hD.lt
  have hbs : bs < w.heap.size := by obtain ⟨D, hD, _⟩ := hi.srts; exact hD.lt
  have belI : Below w.heap.size w (w.alloc (.cells #[.map (some bo), .map (some bs)] 66)) := below1 _ _
  have k0 : (w.alloc (.cells #[.map (some bo), .map (some bs)] 66)).cell? ⟨w.heap.size, 0, none⟩ = some (.map (some bo)) := by simp [go_sem]
  have k1 : (w.alloc (.cells #[.map (some bo), .map (some bs)] 66)).cell? ⟨w.heap.size, 1, none⟩ = some (.map (some bs)) := by simp [go_sem]
  have HIJ := hide (hi.kept (below1 w (.cells #[.map (some bo), .map (some bs)] 66)))
  clear hi hsz hc
  go_enter Try.func32, Try.ntmps32
  go_wp2_with fail
  obtain ⟨W0, hW0⟩ : ∃ W0, W0 = w.alloc (.cells #[.map (some bo), .map (some bs)] 66) := ⟨_, rfl⟩
  have hz0 : w.heap.size + 1 = W0.heap.size := by rw [hW0]; simp
  rw [← hW0] at belI k0 k1 HIJ ⊢
  clear hW0
  have n1 : ¬ W0.heap.size = w.heap.size := by omega
  go_region_held (fun w' => w'.cell? ⟨w.heap.size, 0, none⟩ = some (.map (some bo)) ∧ w'.cell? ⟨w.heap.size, 1, none⟩ = some (.map (some bs))) (go_keep)
    (first | (go_at_call 55; refine (longestText_any bo bs xs _ (by first | exact (unhide HIJ).kept (Below.refl _ _).drew | exact ((unhide HIJ).kept (below1 _ _)).kept (Below.refl _ _).drew) (unhide HV) (unhide HS) (unhide HOK)).mono ?_; rintro e w2 ⟨⟨L, rfl, hL, hLx⟩, hb2⟩; have q0 := hb2.cell (p := ⟨w.heap.size, 0, none⟩) (by first | (simp; omega)); have q1 := hb2.cell (p := ⟨w.heap.size, 1, none⟩) (by first | (simp; omega)); have HLX := hide hLx; have HB2 := hide hb2; obtain ⟨hc2, hf2⟩ := bcell hb2; clear hLx hb2))
  · have hz2 : W0.heap.size ≤ w2.heap.size := (unhide HB2).size
    have HSC := hide (scan_startA (w2 := w2) (L := L) (s := s) ((unhide HIJ).kept ((Below.refl _ _).drew.trans (unhide HB2))) (by omega) (by omega))
    have HBEL : Below w.heap.size w (w2.alloc (.cells #[.map (some bo), .map (some bs), .int .i64 (L : Int), .string s, .int .i64 0, .int .i64 0, .slice none 0 0] 97)) := (belI.drew.trans ((unhide HB2).mono belI.size)).alloc (by omega) _
    have hPW : w.heap.size ≤ w2.heap.size := by omega
    have hsp := (unhide HSC).lt
    go_wp2_with fail
    refine (scan_any _ bo bs L xs s _ (unhide HSC) h20 hL (unhide HLX) (unhide HV) (unhide HK)).mono ?_
    rintro e w4 ⟨rfl, g, cp, us, hcell, hpg, hfil, hlex, hbel⟩
    have c6 := unhide hcell
    have bel4 := HBEL.trans (hbel.mono hPW)
    go_wp2_with fail
    go_ret
    exact ⟨⟨g, cp, us, rfl, by omega, hfil, hlex⟩, bel4⟩
  · have hz2 : W0.heap.size < w2.heap.size := by have := (unhide HB2).size; simp at this; omega
    have HSC := hide (scan_startB (w2 := w2) (p := W0.heap.size) (L := L) (s := s) ((((unhide HIJ).kept (below1 _ _)).kept (Below.refl _ _).drew).kept (unhide HB2)) (by omega) (by omega) (fun j hj => by
      rw [hc2 _ _ (by simp)]
      match j, hj with
      | 0, _ => simp [go_sem]
      | 1, _ => simp [go_sem]
      | 2, _ => simp [go_sem]
      | 3, _ => simp [go_sem]
      | 4, _ => simp [go_sem]
      | 5, _ => simp [go_sem]
      | 6, _ => simp [go_sem]) (fun o => by rw [hf2 _ _ (by simp)]; simp [go_sem]))
    have HBEL : Below w.heap.size w (w2.setCells W0.heap.size 0 [.map (some bo), .map (some bs), .int .i64 (L : Int), .string s, .int .i64 0, .int .i64 0, .slice none 0 0]) := below_setCells belI.size _ _ _ ((belI.alloc belI.size _).drew.trans ((unhide HB2).mono (by have := belI.size; simp; omega)))
    have hPW : w.heap.size ≤ W0.heap.size := belI.size
    have hsp := (unhide HSC).lt
    go_wp2_with fail
    refine (scan_any _ bo bs L xs s _ (unhide HSC) h20 hL (unhide HLX) (unhide HV) (unhide HK)).mono ?_
    rintro e w4 ⟨rfl, g, cp, us, hcell, hpg, hfil, hlex, hbel⟩
    have c6 := unhide hcell
    have bel4 := HBEL.trans (hbel.mono hPW)
    go_wp2_with fail
    go_ret
    exact ⟨⟨g, cp, us, rfl, by omega, hfil, hlex⟩, bel4⟩
end Go.Proofs.Ytokabkhnidlcnaa
