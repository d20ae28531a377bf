import Derived.Deep.AppendLies
import Derived.Deep.RegionHeldLaw
import Derived.Test.YtokabkhnidlcnabT07
import Derived.Test.YtokabkhnidlcnabT15
import Derived.Test.YtokabkhnidlcnabT19
import Derived.Test.YtokabkhnidlcnabT20

/-
  Walk: the specification's Lex.
-/
namespace Go.Proofs.Ytokabkhnidlcnab
set_option maxRecDepth 100000
open Go.RowKit

theorem code_ok {xs : List OpR} (h : IsCode xs 0) : okTo xs xs.length := by
  rcases h with ⟨h, _⟩ | ⟨_, ⟨h, _⟩ | ⟨h, _⟩⟩
  · exact absurd h (by decide)
  · exact absurd h (by decide)
  · exact h

set_option maxHeartbeats 4000000 in
theorem specLex_any (b off cap : Nat) (xs : List OpR) (s : ByteArray) (w : World) (hm : xs.length ≤ 1048576) (hw : Ops w b off xs) (hsz : Sized xs) (hB : b < w.heap.size) (hs : s.size ≤ maxLen) :
    Calls Try.prog 17 #[.agg #[.slice (some ⟨b, off, none⟩) xs.length cap], .string s] w fun e w' => (∃ (g c : Nat) (us : List TokR) (v : Bool), e = .returned (.tuple #[.slice (some ⟨g, 0, none⟩) us.length c, .bool v]) ∧ w.heap.size ≤ g ∧ FilledT w' g us us.length ∧ LexIs xs (IsCode xs 0) s us v) ∧ Below w.heap.size w w' := by
  unfold maxLen at hs
  have HW := hide hw
  have HS := hide hsz
  clear hw hsz
  go_enter Try.func17, Try.ntmps17
  go_wp2_with fail
  refine (specTableOk_any b off cap xs _ hm ((unhide HW).below ((below1 _ _).alloc (by simp) _) hB) (unhide HS) (by simp; omega)).mono ?_
  rintro e w1 ⟨⟨c, rfl, hc⟩, hb1⟩
  have HC := hide hc
  have z1 : w.heap.size + 2 ≤ w1.heap.size := by have := hb1.size; simp at this; omega
  have bel1 : Below w.heap.size w w1 := ((below1 _ _).alloc (by simp) _).trans (hb1.mono (by simp; omega))
  have c1 : w1.cell? ⟨w.heap.size, 0, none⟩ = some (.slice (some ⟨b, off, none⟩) xs.length cap) := by rw [hb1.cell (p := ⟨w.heap.size, 0, none⟩) (by simp; omega)]; simp [go_sem]
  have HO := hide (show w1.ownsRow (w.heap.size + 1) 79 3 (.slice (some ⟨w.heap.size + 1, 0, none⟩) 0 0) 0 (cellsTk []) by
    have h0 := World.ownsRow_lit (base := w.heap.size + 1) (e := 79) (size := 3) (w.alloc (.cells #[.slice (some ⟨b, off, none⟩) xs.length cap] 28)) #[] 0 (by simp) (Nat.zero_le _) rfl
    have h1 := h0.kept (grown_bel hb1 none) (Or.inr (by simp [Value.ownBlock]))
    simpa [cellsTk] using h1)
  have bel1' : Below (w.heap.size + 1) (w.alloc (.cells #[.slice (some ⟨b, off, none⟩) xs.length cap] 28)) w1 := ((below1 _ _).mono (by simp)).trans (hb1.mono (by simp))
  clear hb1 hc
  by_cases hc0 : c = 0
  case neg =>
    have hc0' : (c != 0) = true := by simpa using hc0
    have HN := hide (show ¬ (IsCode xs 0 ∧ s.size ≤ 20000) from fun h => hc0 (IsCode_one (unhide HC) h.1))
    clear hc0
    go_wp2_with fail
    go_ret2
    obtain ⟨hg, hf⟩ := owns_filledT (zs := []) (unhide HO)
    exact ⟨⟨w.heap.size + 1, 0, [], false, rfl, by omega, hf, Or.inr ⟨unhide HN, rfl, rfl⟩⟩, bel1⟩
  subst hc0
  by_cases h2 : 20000 < s.size
  · have HN := hide (show ¬ (IsCode xs 0 ∧ s.size ≤ 20000) from fun h => by omega)
    have h2' : (20000 : Int) < (s.size : Int) := by omega
    go_wp2_with fail
    go_ret2
    obtain ⟨hg, hf⟩ := owns_filledT (zs := []) (unhide HO)
    exact ⟨⟨w.heap.size + 1, 0, [], false, rfl, by omega, hf, Or.inr ⟨unhide HN, rfl, rfl⟩⟩, bel1⟩
  have HV := hide (signTexts_of (code_ok (unhide HC)))
  have HK := hide (kinds_of (code_ok (unhide HC)))
  have h20 : s.size ≤ 20000 := by omega
  clear hs h2
  go_wp2_with fail
  obtain ⟨i0, hi, hz0, hz1, hz2⟩ := info_parts infoT
  have HI := hide hi
  have HZ := hide (And.intro hz0 (And.intro hz1 hz2))
  clear hi hz0 hz1 hz2 c1
  go_loopw [6, 7] (fun out i wr => ∃ (p go co : Nat) (acc : List TokR), p ≤ s.size ∧ i = .int .i64 (p : Int) ∧ out = .slice (some ⟨go, 0, none⟩) acc.length co ∧ Hid (Read xs s p acc) ∧ Hid (wr.ownsRow (w.heap.size + 1) 79 3 (.slice (some ⟨go, 0, none⟩) acc.length co) acc.length (cellsTk acc)) ∧ Below (w.heap.size + 1) (w.alloc (.cells #[.slice (some ⟨b, off, none⟩) xs.length cap] 28)) wr) (fun _ i _ => s.size - (intOf i).toNat)
  case atStart => exact ⟨0, w.heap.size + 1, 0, [], Nat.zero_le _, rfl, rfl, hide (Read.start xs s), HO, bel1'⟩
  case round =>
    clear HO bel1'
    obtain ⟨p, go, co, acc, hp, rfl, rfl, hrd, hown, hbel⟩ := hrel
    have hbw : Below w.heap.size w wr := (below1 _ _).trans (hbel.mono (by omega))
    have zw : w.heap.size < wr.heap.size := by have := hbel.size; simp at this; omega
    have c0 : wr.cell? ⟨w.heap.size, 0, none⟩ = some (.slice (some ⟨b, off, none⟩) xs.length cap) := by
      rw [hbel.cell (p := ⟨w.heap.size, 0, none⟩) (show w.heap.size < _ by omega)]; simp [go_sem]
    go_wp2_with fail
    go_loop [7] (fun iv => ∃ j : Nat, p ≤ j ∧ j ≤ s.size ∧ iv = .int .i64 (j : Int) ∧ Hid (Blanks s p j)) (fun iv => s.size - (intOf iv).toNat)
    case atStart => exact ⟨p, Nat.le_refl _, hp, rfl, hide (fun q h1 h2 => by omega)⟩
    case round =>
      obtain ⟨j, hpj, hj, rfl, hbl⟩ := hrel
      by_cases hlt : j < s.size
      · cases hb : decide (cls s[j] = 1)
        · have hnb := hide (show cls (bt s j) ≠ 1 by rw [bt_get hlt] at hb; simpa using hb)
          have hj' : ((j : Int) == (s.size : Int)) = false := by simp; omega
          have hal : acc.length ≤ 20000 := by have := (unhide hrd).1; omega
          go_wp2_with (go_at_call 50; refine (l2Blank_any _ _).mono ?_; rintro e w2 ⟨rfl, hx⟩; obtain rfl := hx.symm)
          refine (l2Longest_any b off cap xs s j _ hm ((unhide HW).below hbw hB) (by omega) (unhide HK) (by omega) hlt).mono ?_
          rintro e w2 ⟨⟨n, rfl, hn⟩, hb2⟩
          have htok := longest_tok (unhide HV) hn (unhide hnb)
          have hjn : j + n ≤ s.size := htok.2.1
          have hn1 : 1 ≤ n := htok.1
          have HT := hide htok
          have hbel2 := hbel.trans (hb2.mono zw)
          have hbw2 : Below w.heap.size w w2 := (below1 _ _).trans (hbel2.mono (by omega))
          have z2 : w.heap.size < w2.heap.size := Nat.lt_of_lt_of_le zw hb2.size
          have hown2 := hide ((unhide hown).kept (grown_bel hb2 none) (Or.inr (by simp [Value.ownBlock])))
          have d0 : w2.cell? ⟨w.heap.size, 0, none⟩ = some (.slice (some ⟨b, off, none⟩) xs.length cap) := (hb2.cell (p := ⟨w.heap.size, 0, none⟩) zw).trans c0
          have hwr : IntKind.i64.wrap ((j : Int) + (n : Int)) = (j : Int) + (n : Int) := by rw [IntKind.wrap_i64]; omega
          have hs1 : (j : Int) ≤ (j : Int) + (n : Int) := by omega
          have hs2 : (j : Int) + (n : Int) ≤ (s.size : Int) := by omega
          have hs3 : (0 : Int) ≤ (j : Int) + (n : Int) := by omega
          have htn : ((j : Int) + (n : Int)).toNat = j + n := by omega
          have hs4 : (p : Int) ≤ (j : Int) := by omega
          have hs5 : (j : Int) ≤ (s.size : Int) := by omega
          have zb : b < w2.heap.size := by omega
          clear hn htok hb2 hown hbel hbw c0
          go_wp2_with fail
          go_region_held_law (fun w' => w'.cell? ⟨w.heap.size, 0, none⟩ = some (.slice (some ⟨b, off, none⟩) xs.length cap)) (go_keep)
            (first | (go_at_call 52; refine (l2Kind_any b off cap xs (sub s j n) _ hm ((unhide HW).below hbw2.drew hB) zb (unhide HK) (by rw [sub_size hjn]; unfold maxLen; omega)).mono ?_; rintro e w3 ⟨rfl, hb3⟩; have c3 := (hb3.cell (p := ⟨w.heap.size, 0, none⟩) z2).trans (show w2.drew.cell? ⟨w.heap.size, 0, none⟩ = _ from d0); have hbel3 := hbel2.drew.trans (hb3.mono z2); have hown3 := hide ((unhide hown2).drew.kept (grown_bel hb3 none) (Or.inr (by simp [Value.ownBlock]))); have z3 := Nat.lt_of_lt_of_le z2 hb3.size; have hgo := hide ((unhide hown3).lt go rfl)) | (refine step_append_lies _ (by rfl) (.tmp 49) (.tmp 69) 34 (by rfl) (w.heap.size + 1) 79 i0 _ 3 40 Try.underlying34 (unhide HI) (unhide HZ).1 (unhide HZ).2.1 (unhide HZ).2.2 rfl (by decide) _ acc.length (cellsTk acc) (by rfl) ((unhide hown3).alloc _) ⟨w3.heap.size, 0, none⟩ 1 1 (cellsTk [⟨(kindT xs (sub s j n) : Int), s.extract p j, s.extract j (j + n)⟩]) (by rfl) rfl (new_newsT w3 ⟨(kindT xs (sub s j n) : Int), s.extract p j, s.extract j (j + n)⟩) (cellsTk_one' _) (by decide) (by unfold maxLen; omega) (by omega) (by simp; omega) _ rfl ?_; intro g4 c4 w4 hown4 hgrow4 _ hlt4; have q4 := (hgrow4.cell_far ⟨w.heap.size, 0, none⟩ (by simp; omega) (by have := unhide hgo; simp [Value.ownBlock]; omega)).trans (((below1 w3 _).cell (p := ⟨w.heap.size, 0, none⟩) z3).trans c3); simp only [List.getElem_toArray, List.getElem_cons_succ, List.getElem_cons_zero]; simp only [Act.put, List.setIfInBounds_toArray, List.set_cons_zero, List.set_cons_succ]))
          have hbel4 : Below (w.heap.size + 1) _ w4 := (hbel3.alloc z3 _).grown hgrow4 (by simp; omega) (fun q hq => by have := unhide hgo; simp [Value.ownBlock] at hq; omega)
          rw [← cellsTk_append] at hown4
          have hl4 : acc.length + 1 = (acc ++ [(⟨(kindT xs (sub s j n) : Int), s.extract p j, s.extract j (j + n)⟩ : TokR)]).length := by simp
          rw [hl4] at hown4 ⊢
          have HW4 := hide hown4
          clear hown4 hgrow4 hown3 hown2 hbel3 hbel2 c3 q4
          go_wp2
          refine ⟨⟨j + n, g4, c4, _, hjn, by go_num, rfl, hide ((unhide hrd).step hpj hlt (unhide hbl) (unhide hnb) (unhide HT)), HW4, hbel4⟩, by simp [intOf]; omega⟩
        · have Hb := hide (show Blanks s p (j + 1) from fun q h1 h2 => by
            by_cases e : q = j
            · subst e
              rw [bt_get hlt] at hb
              simpa using hb
            · exact (unhide hbl) q h1 (by omega))
          go_wp2_with (go_at_call 50; refine (l2Blank_any _ _).mono ?_; rintro e w' ⟨rfl, rfl⟩)
          exact ⟨⟨j + 1, by omega, by omega, by go_num, Hb⟩, by simp [intOf]; omega⟩
      · have HJ := hide (show j = s.size by omega)
        have hj' : ((j : Int) == (s.size : Int)) = true := by simp; omega
        have hal : acc.length ≤ 20000 := by have := (unhide hrd).1; omega
        go_wp2_with (at_builtin; refine wpList_append_own _ rfl (.tmp 37) (.tmp 43) 34 rfl (w.heap.size + 1) 79 i0 _ 3 40 Try.underlying34 (unhide HI) (unhide HZ).1 (unhide HZ).2.1 (unhide HZ).2.2 rfl (by decide) _ acc.length (cellsTk acc) rfl ((unhide hown).alloc _) ⟨wr.heap.size, 0, none⟩ 1 1 (cellsTk [⟨7, s.extract p j, ⟨#[]⟩⟩]) rfl rfl (new_newsT wr ⟨7, s.extract p j, ⟨#[]⟩⟩) (cellsTk_one' _) ?b1 ?b2 ?b3 ?next)
        case b1 => unfold maxLen; omega
        case b2 => omega
        case b3 => have := hbel.size; simp; omega
        case next =>
          intro v4 w4 hown4 hgrow4 hnil4
          have hgo := (unhide hown).lt go rfl
          have hbel4 : Below w.heap.size w w4 := (hbw.alloc hbw.size _).grown hgrow4 (by have := hbw.size; simp; omega) (fun q hq => by simp [Value.ownBlock] at hq; omega)
          obtain ⟨g4, c4, rfl⟩ := owns_bval hown4 (by simp [hnil4])
          rw [← cellsTk_append] at hown4
          have hl4 : acc.length + 1 = (acc ++ [(⟨7, s.extract p j, ⟨#[]⟩⟩ : TokR)]).length := by simp
          rw [hl4] at hown4 ⊢
          have HW4 := hide hown4
          clear hown4 hgrow4 hnil4
          go_wp2
          go_ret2
          obtain ⟨hg, hf⟩ := owns_filledT (unhide HW4)
          have hdn := (unhide hrd).done hp (unhide HJ ▸ unhide hbl)
          rw [← unhide HJ] at hdn
          exact ⟨⟨g4, c4, _, true, rfl, by omega, hf, Or.inl ⟨⟨unhide HC, h20⟩, rfl, hdn⟩⟩, hbel4⟩
end Go.Proofs.Ytokabkhnidlcnab

/-
  Walk: the program's TreeOk.
-/
namespace Go.Proofs.Ytokabkhnidlcnab
set_option maxRecDepth 100000
set_option linter.unusedSimpArgs false
set_option linter.unusedVariables false
open Go.RowKit Go.Maps

set_option maxHeartbeats 2000000 in
theorem implTreeOk_any (b off cap bn offn cn : Nat) (xs : List OpR) (ns : List NodeR) (w : World) (hm : xs.length ≤ 1048576) (hmn : ns.length ≤ 1048576) (hw : Ops w b off xs) (hsz : Sized xs) (hB : b < w.heap.size) (hwn : OpsN w bn offn ns) (hsn : SizedN ns) (hBn : bn < w.heap.size) :
    Calls Try.prog 34 #[.agg #[.slice (some ⟨b, off, none⟩) xs.length cap], .agg #[.slice (some ⟨bn, offn, none⟩) ns.length cn]] w fun e w' => (∃ c, e = .returned (.int .i64 c) ∧ TreeOkIs xs ns c) ∧ Below w.heap.size w w' := by
  have HW := hide hw
  have HWN := hide hwn
  have HZ := hide hsz
  have HZN := hide hsn
  clear hw hwn hsz hsn
  go_enter Try.func34, Try.ntmps34
  go_wp2_with fail
  refine (indexTable_any b off cap xs _ hm ((unhide HW).below ((below1 _ _).alloc (by simp) _) hB) (unhide HZ) (by simp; omega)).mono ?_
  rintro e w1 ⟨⟨x, y, c, rfl, hc, hix⟩, hb1⟩
  have HC := hide hc
  have HIX := hide hix
  have bel1 : Below w.heap.size w w1 := ((below1 _ _).alloc (by simp) _).trans (hb1.mono (by simp; omega))
  have c1 : w1.cell? ⟨w.heap.size + 1, 0, none⟩ = some (.slice (some ⟨bn, offn, none⟩) ns.length cn) := (hb1.cell (p := ⟨w.heap.size + 1, 0, none⟩) (by simp)).trans (by simp [go_sem])
  have z1 : w.heap.size + 2 ≤ w1.heap.size := by have := hb1.size; simp at this; omega
  clear hc hix hb1
  by_cases hc0 : c = 0
  case neg =>
    have hc0' : (c != 0) = true := by simpa using hc0
    have HN := hide (show ¬ IsCode xs 0 from fun h => hc0 (IsCode_one (unhide HC) h))
    clear hc0
    go_wp2_with fail
    go_ret
    exact ⟨⟨1, rfl, Or.inl ⟨unhide HN, rfl⟩⟩, bel1.alloc bel1.size _⟩
  subst hc0
  obtain ⟨bo, bs, rfl, rfl, hidx⟩ := (unhide HIX) rfl
  have HID := hide (hidx.kept (below1 w1 (.cells #[.map (some bo), .map (some bs)] 85)))
  have HOK := hide (code_ok (unhide HC))
  have belA : Below w.heap.size w (w1.alloc (.cells #[.map (some bo), .map (some bs)] 85)) := bel1.alloc bel1.size _
  have HCS := hide (show Cs [(w.heap.size + 1, 0, .slice (some ⟨bn, offn, none⟩) ns.length cn), (w1.heap.size, 0, .map (some bo)), (w1.heap.size, 1, .map (some bs))] (w1.alloc (.cells #[.map (some bo), .map (some bs)] 85)) from fun p hp => by
    simp only [List.mem_cons, List.not_mem_nil, or_false] at hp
    rcases hp with rfl | rfl | rfl
    · exact ((below1 _ _).cell (p := ⟨w.heap.size + 1, 0, none⟩) (show w.heap.size + 1 < w1.heap.size by omega)).trans c1
    · simp [go_sem]
    · simp [go_sem])
  clear HIX hidx c1
  have k1 := (unhide HCS) (w.heap.size + 1, 0, .slice (some ⟨bn, offn, none⟩) ns.length cn) (by simp)
  have k2 := (unhide HCS) (w1.heap.size, 0, .map (some bo)) (by simp)
  have k3 := (unhide HCS) (w1.heap.size, 1, .map (some bs)) (by simp)
  simp only at k1 k2 k3
  go_wp2_with fail
  refine (isWellFormed_any bo bs bn offn cn xs ns _ hmn (unhide HID) (unhide HC) (unhide HOK) ((unhide HWN).below belA hBn) (unhide HZN) (Nat.lt_of_lt_of_le hBn belA.size)).mono ?_
  rintro e w3 ⟨⟨v, rfl, hv⟩, hb3⟩
  have HV := hide hv
  have bel3 := belA.trans (hb3.mono belA.size)
  have HC3 := hide ((unhide HCS).below hb3)
  have HI3 := hide ((unhide HID).kept hb3)
  clear hv hb3 HCS HID k1 k2 k3 belA
  cases v
  · go_wp2_with fail
    go_ret
    exact ⟨⟨2, rfl, Or.inr ⟨unhide HC, Or.inl ⟨fun h => Bool.false_ne_true ((unhide HV).2 h), rfl⟩⟩⟩, bel3⟩
  have HO := hide ((unhide HV).1 rfl).1
  have HK := hide ((unhide HV).1 rfl).2
  clear HV
  have k1 := (unhide HC3) (w.heap.size + 1, 0, .slice (some ⟨bn, offn, none⟩) ns.length cn) (by simp)
  have k2 := (unhide HC3) (w1.heap.size, 0, .map (some bo)) (by simp)
  have k3 := (unhide HC3) (w1.heap.size, 1, .map (some bs)) (by simp)
  simp only at k1 k2 k3
  go_wp2_with fail
  refine (admits_any bo bs bn offn cn xs ns _ hmn (unhide HI3) (unhide HC) (unhide HOK) (unhide HZ) ((unhide HWN).below bel3 hBn) (unhide HZN) (Nat.lt_of_lt_of_le hBn bel3.size) (unhide HO)).mono ?_
  rintro e w4 ⟨⟨v, rfl, hv⟩, hb4⟩
  have HV := hide hv
  have bel4 := bel3.trans (hb4.mono bel3.size)
  clear hv hb4 HC3 HI3 k1 k2 k3 bel3
  cases v
  · go_wp2_with fail
    go_ret
    exact ⟨⟨3, rfl, Or.inr ⟨unhide HC, Or.inr ⟨⟨unhide HO, unhide HK⟩, Or.inl ⟨fun h => Bool.false_ne_true ((unhide HV).2 h), rfl⟩⟩⟩⟩, bel4⟩
  · go_wp2_with fail
    go_ret
    exact ⟨⟨0, rfl, Or.inr ⟨unhide HC, Or.inr ⟨⟨unhide HO, unhide HK⟩, Or.inr ⟨(unhide HV).1 rfl, rfl⟩⟩⟩⟩, bel4⟩
end Go.Proofs.Ytokabkhnidlcnab
