import Derived.Test.YtfboipappaonhaaGreatU15
import Derived.Test.YtfboipappaonhaaGreatU25
import Derived.Test.YtfboipappaonhaaGreatU34
import Derived.Test.YtfboipappaonhaaGreatU41

/-
  Walk: the program's isWellFormed.
-/
namespace Go.Proofs.YtfboipappaonhaaGreat
set_option maxRecDepth 100000
set_option linter.unusedSimpArgs false
set_option linter.unusedVariables false
open Go.RowKit Go.Maps

set_option maxHeartbeats 2000000 in
theorem isWellFormed_any (bo bs bn offn cn : Nat) (xs : List OpR) (ns : List NodeR) (w : World) (hmn : ns.length ≤ 1048576) (hi : Idx w bo bs xs xs.length) (hc : IsCode xs 0) (hok : okTo xs xs.length) (hwn : OpsN w bn offn ns) (hsn : SizedN ns) (hBn : bn < w.heap.size) :
    Calls Tryz.prog 44 #[.agg #[.map (some bo), .map (some bs)], .agg #[.slice (some ⟨bn, offn, none⟩) ns.length cn]] w fun e w' => RetB e (InOrd ns ∧ Knows xs ns) ∧ Below w.heap.size w w' := by
  have HI := hide hi
  have HC := hide hc
  have HOK := hide hok
  have HWN := hide hwn
  have HZN := hide hsn
  have bel0 : Below w.heap.size w ((w.alloc (.cells #[.map (some bo), .map (some bs)] 69)).alloc (.cells #[.slice (some ⟨bn, offn, none⟩) ns.length cn] 28)) := (below1 _ _).alloc (by simp) _
  clear hi hc hok hwn hsn
  go_enter Tryz.func44, Tryz.ntmps44
  go_wp2_with fail
  refine (inOrder_any bn offn cn ns _ hmn ((unhide HWN).below bel0 hBn) (unhide HZN) (Nat.lt_of_lt_of_le hBn bel0.size)).mono ?_
  rintro e w2 ⟨⟨v, rfl, hv⟩, hb2⟩
  have HV := hide hv
  have bel2 := bel0.trans (hb2.mono bel0.size)
  have k1 : w2.cell? ⟨w.heap.size + 1, 0, none⟩ = some (.slice (some ⟨bn, offn, none⟩) ns.length cn) := (hb2.cell (p := ⟨w.heap.size + 1, 0, none⟩) (by simp)).trans (by simp [go_sem])
  have k2 : w2.cell? ⟨w.heap.size, 0, none⟩ = some (.map (some bo)) := (hb2.cell (p := ⟨w.heap.size, 0, none⟩) (by simp; omega)).trans (by simp [go_sem])
  have k3 : w2.cell? ⟨w.heap.size, 1, none⟩ = some (.map (some bs)) := (hb2.cell (p := ⟨w.heap.size, 1, none⟩) (by simp; omega)).trans (by simp [go_sem])
  clear hv hb2 bel0
  cases v
  · go_wp2_with fail
    go_ret
    exact ⟨⟨_, rfl, says_false (fun h => Bool.false_ne_true ((unhide HV).2 h.1))⟩, bel2⟩
  have HO := hide ((unhide HV).1 rfl)
  clear HV
  go_wp2_with fail
  refine (knowsAll_any bo bs bn offn cn xs ns _ hmn ((unhide HI).kept bel2) (unhide HC) (unhide HOK) ((unhide HWN).below bel2 hBn) (unhide HZN) (Nat.lt_of_lt_of_le hBn bel2.size)).mono ?_
  rintro e w3 ⟨⟨v, rfl, hv⟩, hb3⟩
  have HV := hide hv
  have bel3 := bel2.trans (hb3.mono bel2.size)
  clear hv hb3 bel2 k1 k2 k3
  cases v
  · go_wp2_with fail
    go_ret
    exact ⟨⟨_, rfl, says_false (fun h => Bool.false_ne_true ((unhide HV).2 h.2))⟩, bel3⟩
  · go_wp2_with fail
    go_ret
    exact ⟨⟨_, rfl, says_true ⟨unhide HO, (unhide HV).1 rfl⟩⟩, bel3⟩
end Go.Proofs.YtfboipappaonhaaGreat

/-
  Walk: the program's TreeOk.
-/
namespace Go.Proofs.YtfboipappaonhaaGreat
set_option maxRecDepth 100000
set_option linter.unusedSimpArgs false
set_option linter.unusedVariables false
open Go.RowKit Go.Maps

set_option maxHeartbeats 2000000 in
theorem implTreeOk_any (b off cap bn offn cn : Nat) (xs : List OpR) (ns : List NodeR) (w : World) (hm : xs.length ≤ 1048576) (hmn : ns.length ≤ 1048576) (hw : Ops w b off xs) (hsz : Sized xs) (hB : b < w.heap.size) (hwn : OpsN w bn offn ns) (hsn : SizedN ns) (hBn : bn < w.heap.size) :
    Calls Tryz.prog 14 #[.agg #[.slice (some ⟨b, off, none⟩) xs.length cap], .agg #[.slice (some ⟨bn, offn, none⟩) ns.length cn]] w fun e w' => (∃ c, e = .returned (.int .i64 c) ∧ TreeOkIs xs ns c) ∧ Below w.heap.size w w' := by
  have HW := hide hw
  have HWN := hide hwn
  have HZ := hide hsz
  have HZN := hide hsn
  clear hw hwn hsz hsn
  go_enter Tryz.func14, Tryz.ntmps14
  go_wp2_with fail
  refine (indexTable_any b off cap xs _ hm ((unhide HW).below ((below1 _ _).alloc (by simp) _) hB) (unhide HZ) (by simp; omega)).mono ?_
  rintro e w1 ⟨⟨x, y, c, rfl, hc, hix⟩, hb1⟩
  have HC := hide hc
  have HIX := hide hix
  have bel1 : Below w.heap.size w w1 := ((below1 _ _).alloc (by simp) _).trans (hb1.mono (by simp; omega))
  have c1 : w1.cell? ⟨w.heap.size + 1, 0, none⟩ = some (.slice (some ⟨bn, offn, none⟩) ns.length cn) := (hb1.cell (p := ⟨w.heap.size + 1, 0, none⟩) (by simp)).trans (by simp [go_sem])
  have z1 : w.heap.size + 2 ≤ w1.heap.size := by have := hb1.size; simp at this; omega
  clear hc hix hb1
  by_cases hc0 : c = 0
  case neg =>
    have hc0' : (c != 0) = true := by simpa using hc0
    have HN := hide (show ¬ IsCode xs 0 from fun h => hc0 (IsCode_one (unhide HC) h))
    clear hc0
    go_wp2_with fail
    go_ret
    exact ⟨⟨1, rfl, Or.inl ⟨unhide HN, rfl⟩⟩, bel1.alloc bel1.size _⟩
  subst hc0
  obtain ⟨bo, bs, rfl, rfl, hidx⟩ := (unhide HIX) rfl
  have HID := hide (hidx.kept (below1 w1 (.cells #[.map (some bo), .map (some bs)] 69)))
  have HOK := hide (code_ok (unhide HC))
  have belA : Below w.heap.size w (w1.alloc (.cells #[.map (some bo), .map (some bs)] 69)) := bel1.alloc bel1.size _
  have HCS := hide (show Cs [(w.heap.size + 1, 0, .slice (some ⟨bn, offn, none⟩) ns.length cn), (w1.heap.size, 0, .map (some bo)), (w1.heap.size, 1, .map (some bs))] (w1.alloc (.cells #[.map (some bo), .map (some bs)] 69)) from fun p hp => by
    simp only [List.mem_cons, List.not_mem_nil, or_false] at hp
    rcases hp with rfl | rfl | rfl
    · exact ((below1 _ _).cell (p := ⟨w.heap.size + 1, 0, none⟩) (show w.heap.size + 1 < w1.heap.size by omega)).trans c1
    · simp [go_sem]
    · simp [go_sem])
  clear HIX hidx c1
  have k1 := (unhide HCS) (w.heap.size + 1, 0, .slice (some ⟨bn, offn, none⟩) ns.length cn) (by simp)
  have k2 := (unhide HCS) (w1.heap.size, 0, .map (some bo)) (by simp)
  have k3 := (unhide HCS) (w1.heap.size, 1, .map (some bs)) (by simp)
  simp only at k1 k2 k3
  go_wp2_with fail
  refine (isWellFormed_any bo bs bn offn cn xs ns _ hmn (unhide HID) (unhide HC) (unhide HOK) ((unhide HWN).below belA hBn) (unhide HZN) (Nat.lt_of_lt_of_le hBn belA.size)).mono ?_
  rintro e w3 ⟨⟨v, rfl, hv⟩, hb3⟩
  have HV := hide hv
  have bel3 := belA.trans (hb3.mono belA.size)
  have HC3 := hide ((unhide HCS).below hb3)
  have HI3 := hide ((unhide HID).kept hb3)
  clear hv hb3 HCS HID k1 k2 k3 belA
  cases v
  · go_wp2_with fail
    go_ret
    exact ⟨⟨2, rfl, Or.inr ⟨unhide HC, Or.inl ⟨fun h => Bool.false_ne_true ((unhide HV).2 h), rfl⟩⟩⟩, bel3⟩
  have HO := hide ((unhide HV).1 rfl).1
  have HK := hide ((unhide HV).1 rfl).2
  clear HV
  have k1 := (unhide HC3) (w.heap.size + 1, 0, .slice (some ⟨bn, offn, none⟩) ns.length cn) (by simp)
  have k2 := (unhide HC3) (w1.heap.size, 0, .map (some bo)) (by simp)
  have k3 := (unhide HC3) (w1.heap.size, 1, .map (some bs)) (by simp)
  simp only at k1 k2 k3
  go_wp2_with fail
  refine (admits_any bo bs bn offn cn xs ns _ hmn (unhide HI3) (unhide HC) (unhide HOK) (unhide HZ) ((unhide HWN).below bel3 hBn) (unhide HZN) (Nat.lt_of_lt_of_le hBn bel3.size) (unhide HO)).mono ?_
  rintro e w4 ⟨⟨v, rfl, hv⟩, hb4⟩
  have HV := hide hv
  have bel4 := bel3.trans (hb4.mono bel3.size)
  clear hv hb4 HC3 HI3 k1 k2 k3 bel3
  cases v
  · go_wp2_with fail
    go_ret
    exact ⟨⟨3, rfl, Or.inr ⟨unhide HC, Or.inr ⟨⟨unhide HO, unhide HK⟩, Or.inl ⟨fun h => Bool.false_ne_true ((unhide HV).2 h), rfl⟩⟩⟩⟩, bel4⟩
  · go_wp2_with fail
    go_ret
    exact ⟨⟨0, rfl, Or.inr ⟨unhide HC, Or.inr ⟨⟨unhide HO, unhide HK⟩, Or.inr ⟨(unhide HV).1 rfl, rfl⟩⟩⟩⟩, bel4⟩
end Go.Proofs.YtfboipappaonhaaGreat

/-
  Walks: the makers of the parser's rules, and the answer to a refusal.
-/
namespace Go.Proofs.YtfboipappaonhaaGreat
set_option maxRecDepth 100000
set_option linter.unusedSimpArgs false
set_option linter.unusedVariables false
open Go.RowKit Go.Maps

/-- A rule with one hole. -/
def Rule1 (w0 w : World) (K : FuncId) (p : Nat) (q : OpR) (x : Value) : Prop :=
  ∃ ba bp bh, x = .func (.func K) #[] #[.pointer (some ⟨ba, 0, none⟩), .pointer (some ⟨bp, 0, none⟩), .pointer (some ⟨bh, 0, none⟩)] ∧ w0.heap.size ≤ ba ∧ w0.heap.size ≤ bp ∧ w0.heap.size ≤ bh ∧
    OpC w ba q ∧ w.cell? ⟨bp, 0, none⟩ = some (.pointer (some ⟨p, 0, none⟩)) ∧ w.cell? ⟨bh, 0, none⟩ = some (.int .i64 (holeI q.s q.k q.l q.sd false))

set_option maxHeartbeats 1000000 in
theorem prefixRule_any (p : Nat) (q : OpR) (w : World) (hs : q.s.size ≤ maxLen) :
    Calls Tryz.prog 83 #[.pointer (some ⟨p, 0, none⟩), .agg #[.string q.s, .int .i64 q.k, .int .i64 q.l, .int .i64 q.sd]] w fun x w' => (∃ v, x = .returned v ∧ Hid (Rule1 w w' 132 p q v)) ∧ Below w.heap.size w w' := by
  obtain ⟨W, hW⟩ : ∃ W, W = (w.alloc (.cells #[.pointer (some ⟨p, 0, none⟩)] 75)).alloc (.cells #[.string q.s, .int .i64 q.k, .int .i64 q.l, .int .i64 q.sd] 123) := ⟨_, rfl⟩
  have hWz : W.heap.size = w.heap.size + 2 := by rw [hW]; simp
  have bel0 : Below w.heap.size w W := by rw [hW]; exact (below1 _ _).alloc (by simp) _
  have g0 : W.cell? ⟨w.heap.size, 0, none⟩ = some (.pointer (some ⟨p, 0, none⟩)) := by rw [hW]; simp [go_sem]
  have g1 : OpC W (w.heap.size + 1) q := by rw [hW]; exact ⟨by simp [go_sem], by simp [go_sem], by simp [go_sem], by simp [go_sem]⟩
  have HX := implHole_any q.s q.k q.l q.sd false W hs
  have HG := hide (And.intro g0 g1)
  have HZ := hide hWz
  have HB := hide bel0
  rw [hW] at HX
  have HW := hide hW
  clear g0 g1 hWz bel0 hW
  go_enter Tryz.func83, Tryz.ntmps83
  go_wp2_with fail
  refine HX.mono ?_
  rw [← unhide HW]
  rintro x w1 ⟨rfl, hb1⟩
  have hz1 : w.heap.size + 2 ≤ w1.heap.size := by have := hb1.size; rw [unhide HZ] at this; exact this
  have bel1 : Below w.heap.size w (w1.alloc (.cells #[.int .i64 (holeI q.s q.k q.l q.sd false)] 3)) := ((unhide HB).trans (hb1.mono (unhide HB).size)).alloc (by omega) _
  have l0 : w.heap.size < W.heap.size := by rw [unhide HZ]; omega
  have l1 : w.heap.size + 1 < W.heap.size := by rw [unhide HZ]; omega
  have r0 : (w1.alloc (.cells #[.int .i64 (holeI q.s q.k q.l q.sd false)] 3)).cell? ⟨w.heap.size, 0, none⟩ = some (.pointer (some ⟨p, 0, none⟩)) := ((below1 _ _).cell (p := ⟨w.heap.size, 0, none⟩) (by simp only; omega)).trans ((hb1.cell (p := ⟨w.heap.size, 0, none⟩) l0).trans (unhide HG).1)
  have r1 : OpC (w1.alloc (.cells #[.int .i64 (holeI q.s q.k q.l q.sd false)] 3)) (w.heap.size + 1) q := ((unhide HG).2.kept (Kept1.of_below (g := W.heap.size) hb1) (by omega)).kept (Kept1.of_below (g := W.heap.size) (below1 _ _)) (by omega)
  have r2 : (w1.alloc (.cells #[.int .i64 (holeI q.s q.k q.l q.sd false)] 3)).cell? ⟨w1.heap.size, 0, none⟩ = some (.int .i64 (holeI q.s q.k q.l q.sd false)) := by simp [go_sem]
  have HEND := hide (show Rule1 w (w1.alloc (.cells #[.int .i64 (holeI q.s q.k q.l q.sd false)] 3)) 132 p q (.func (.func 132) #[] #[.pointer (some ⟨w.heap.size + 1, 0, none⟩), .pointer (some ⟨w.heap.size, 0, none⟩), .pointer (some ⟨w1.heap.size, 0, none⟩)]) from ⟨_, _, _, rfl, by omega, by omega, by omega, r1, r0, r2⟩)
  clear r0 r1 r2 l0 l1 HX HG HZ HB hb1 hz1
  go_wp2_with fail
  go_ret
  exact ⟨⟨_, rfl, HEND⟩, bel1⟩

set_option maxHeartbeats 1000000 in
theorem postfixRule_any (p : Nat) (q : OpR) (w : World) (hs : q.s.size ≤ maxLen) :
    Calls Tryz.prog 85 #[.pointer (some ⟨p, 0, none⟩), .agg #[.string q.s, .int .i64 q.k, .int .i64 q.l, .int .i64 q.sd]] w fun x w' => (∃ v, x = .returned v ∧ Hid (Rule1 w w' 135 p q v)) ∧ Below w.heap.size w w' := by
  obtain ⟨W, hW⟩ : ∃ W, W = (w.alloc (.cells #[.pointer (some ⟨p, 0, none⟩)] 75)).alloc (.cells #[.string q.s, .int .i64 q.k, .int .i64 q.l, .int .i64 q.sd] 123) := ⟨_, rfl⟩
  have hWz : W.heap.size = w.heap.size + 2 := by rw [hW]; simp
  have bel0 : Below w.heap.size w W := by rw [hW]; exact (below1 _ _).alloc (by simp) _
  have g0 : W.cell? ⟨w.heap.size, 0, none⟩ = some (.pointer (some ⟨p, 0, none⟩)) := by rw [hW]; simp [go_sem]
  have g1 : OpC W (w.heap.size + 1) q := by rw [hW]; exact ⟨by simp [go_sem], by simp [go_sem], by simp [go_sem], by simp [go_sem]⟩
  have HX := implHole_any q.s q.k q.l q.sd false W hs
  have HG := hide (And.intro g0 g1)
  have HZ := hide hWz
  have HB := hide bel0
  rw [hW] at HX
  have HW := hide hW
  clear g0 g1 hWz bel0 hW
  go_enter Tryz.func85, Tryz.ntmps85
  go_wp2_with fail
  refine HX.mono ?_
  rw [← unhide HW]
  rintro x w1 ⟨rfl, hb1⟩
  have hz1 : w.heap.size + 2 ≤ w1.heap.size := by have := hb1.size; rw [unhide HZ] at this; exact this
  have bel1 : Below w.heap.size w (w1.alloc (.cells #[.int .i64 (holeI q.s q.k q.l q.sd false)] 3)) := ((unhide HB).trans (hb1.mono (unhide HB).size)).alloc (by omega) _
  have l0 : w.heap.size < W.heap.size := by rw [unhide HZ]; omega
  have l1 : w.heap.size + 1 < W.heap.size := by rw [unhide HZ]; omega
  have r0 : (w1.alloc (.cells #[.int .i64 (holeI q.s q.k q.l q.sd false)] 3)).cell? ⟨w.heap.size, 0, none⟩ = some (.pointer (some ⟨p, 0, none⟩)) := ((below1 _ _).cell (p := ⟨w.heap.size, 0, none⟩) (by simp only; omega)).trans ((hb1.cell (p := ⟨w.heap.size, 0, none⟩) l0).trans (unhide HG).1)
  have r1 : OpC (w1.alloc (.cells #[.int .i64 (holeI q.s q.k q.l q.sd false)] 3)) (w.heap.size + 1) q := ((unhide HG).2.kept (Kept1.of_below (g := W.heap.size) hb1) (by omega)).kept (Kept1.of_below (g := W.heap.size) (below1 _ _)) (by omega)
  have r2 : (w1.alloc (.cells #[.int .i64 (holeI q.s q.k q.l q.sd false)] 3)).cell? ⟨w1.heap.size, 0, none⟩ = some (.int .i64 (holeI q.s q.k q.l q.sd false)) := by simp [go_sem]
  have HEND := hide (show Rule1 w (w1.alloc (.cells #[.int .i64 (holeI q.s q.k q.l q.sd false)] 3)) 135 p q (.func (.func 135) #[] #[.pointer (some ⟨w.heap.size + 1, 0, none⟩), .pointer (some ⟨w.heap.size, 0, none⟩), .pointer (some ⟨w1.heap.size, 0, none⟩)]) from ⟨_, _, _, rfl, by omega, by omega, by omega, r1, r0, r2⟩)
  clear r0 r1 r2 l0 l1 HX HG HZ HB hb1 hz1
  go_wp2_with fail
  go_ret
  exact ⟨⟨_, rfl, HEND⟩, bel1⟩

end Go.Proofs.YtfboipappaonhaaGreat
