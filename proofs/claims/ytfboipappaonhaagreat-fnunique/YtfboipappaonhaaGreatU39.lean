import Derived.Deep.RegionHeldLaw
import Derived.Test.YtfboipappaonhaaGreatU07
import Derived.Test.YtfboipappaonhaaGreatU15
import Derived.Test.YtfboipappaonhaaGreatU18
import Derived.Test.YtfboipappaonhaaGreatU24

/-
  Walks: the specification's TreeOk.
-/
namespace Go.Proofs.YtfboipappaonhaaGreat
set_option maxRecDepth 100000
set_option linter.unusedSimpArgs false
set_option linter.unusedVariables false
open Go.RowKit

set_option maxHeartbeats 2000000 in
theorem specTreeOk_any (b off cap bn offn cn : Nat) (xs : List OpR) (ns : List NodeR) (w : World) (hm : xs.length ≤ 1048576) (hmn : ns.length ≤ 1048576) (hw : Ops w b off xs) (hsz : Sized xs) (hB : b < w.heap.size) (hwn : OpsN w bn offn ns) (hsn : SizedN ns) (hBn : bn < w.heap.size) :
    Calls Tryz.prog 20 #[.agg #[.slice (some ⟨b, off, none⟩) xs.length cap], .agg #[.slice (some ⟨bn, offn, none⟩) ns.length cn]] w fun e w' => (∃ c, e = .returned (.int .i64 c) ∧ TreeOkIs xs ns c) ∧ Below w.heap.size w w' := by
  have HW := hide hw
  have HWN := hide hwn
  have HZ := hide hsz
  have HZN := hide hsn
  clear hw hwn hsz hsn
  go_enter Tryz.func20, Tryz.ntmps20
  go_wp2_with fail
  refine (specTableOk_any b off cap xs _ hm ((unhide HW).below ((below1 _ _).alloc (by simp) _) hB) (unhide HZ) (by simp; omega)).mono ?_
  rintro e w1 ⟨⟨c, rfl, hc⟩, hb1⟩
  have HC := hide hc
  have bel1 : Below w.heap.size w w1 := ((below1 _ _).alloc (by simp) _).trans (hb1.mono (by simp; omega))
  have HCS := hide (show Cs [(w.heap.size, 0, .slice (some ⟨b, off, none⟩) xs.length cap), (w.heap.size + 1, 0, .slice (some ⟨bn, offn, none⟩) ns.length cn)] w1 from fun p hp => by
    simp only [List.mem_cons, List.not_mem_nil, or_false] at hp
    rcases hp with rfl | rfl
    · exact (hb1.cell (p := ⟨w.heap.size, 0, none⟩) (by simp; omega)).trans (by simp [go_sem])
    · exact (hb1.cell (p := ⟨w.heap.size + 1, 0, none⟩) (by simp)).trans (by simp [go_sem]))
  clear hc hb1
  by_cases hc0 : c = 0
  case neg =>
    have hc0' : (c != 0) = true := by simpa using hc0
    have HN := hide (show ¬ IsCode xs 0 from fun h => hc0 (IsCode_one (unhide HC) h))
    clear hc0
    go_wp2_with fail
    go_ret
    exact ⟨⟨1, rfl, Or.inl ⟨unhide HN, rfl⟩⟩, bel1⟩
  subst hc0
  have c0 := (unhide HCS) (w.heap.size, 0, .slice (some ⟨b, off, none⟩) xs.length cap) (by simp)
  have c1 := (unhide HCS) (w.heap.size + 1, 0, .slice (some ⟨bn, offn, none⟩) ns.length cn) (by simp)
  simp only at c0 c1
  go_wp2_with fail
  refine (l3WellFormed_any b off cap bn offn cn xs ns _ hm hmn ((unhide HW).below bel1 hB) (unhide HZ) (Nat.lt_of_lt_of_le hB bel1.size) ((unhide HWN).below bel1 hBn) (unhide HZN) (Nat.lt_of_lt_of_le hBn bel1.size) (unhide HC)).mono ?_
  rintro e w2 ⟨⟨v, rfl, hv⟩, hb2⟩
  have HV := hide hv
  have bel2 := bel1.trans (hb2.mono bel1.size)
  have HC2 := hide ((unhide HCS).below hb2)
  clear hv hb2 HCS c0 c1 bel1
  cases v
  · go_wp2_with fail
    go_ret
    exact ⟨⟨2, rfl, Or.inr ⟨unhide HC, Or.inl ⟨fun h => Bool.false_ne_true ((unhide HV).2 h), rfl⟩⟩⟩, bel2⟩
  have HO := hide ((unhide HV).1 rfl)
  clear HV
  go_wp2_with fail
  go_loopw [5] (fun iv wr => ∃ k : Nat, k ≤ ns.length ∧ iv = .int .i64 (k : Int) ∧ Hid (∀ i, i < k → FitN xs ns i) ∧ Hid (Cs [(w.heap.size, 0, .slice (some ⟨b, off, none⟩) xs.length cap), (w.heap.size + 1, 0, .slice (some ⟨bn, offn, none⟩) ns.length cn)] wr) ∧ Below w.heap.size w wr) (fun iv _ => ns.length - (intOf iv).toNat)
  case atStart => exact ⟨0, Nat.zero_le _, rfl, hide (fun i hi => absurd hi (Nat.not_lt_zero i)), HC2, bel2⟩
  case round =>
    clear HC2 bel2
    obtain ⟨k, hk, rfl, hfit, hcs, hbel⟩ := hrel
    have c0 := (unhide hcs) (w.heap.size, 0, .slice (some ⟨b, off, none⟩) xs.length cap) (by simp)
    have c1 := (unhide hcs) (w.heap.size + 1, 0, .slice (some ⟨bn, offn, none⟩) ns.length cn) (by simp)
    simp only at c0 c1
    by_cases hlt : k < ns.length
    · have hltI : (k : Int) < (ns.length : Int) := by omega
      go_wp2_with fail
      refine (l3Fits_any b off cap bn offn cn k xs ns _ hm hmn ((unhide HW).below hbel hB) (unhide HZ) (Nat.lt_of_lt_of_le hB hbel.size) ((unhide HWN).below hbel hBn) (Nat.lt_of_lt_of_le hBn hbel.size) hlt (unhide HO).1 (unhide HO).2).mono ?_
      rintro e w3 ⟨⟨v, rfl, hv⟩, hb3⟩
      have HV := hide hv
      have HC3 := hide ((unhide hcs).below hb3)
      have bel3 := hbel.trans (hb3.mono hbel.size)
      clear hv hb3
      cases v
      · go_wp2_with fail
        go_ret
        exact ⟨⟨3, rfl, Or.inr ⟨unhide HC, Or.inr ⟨unhide HO, Or.inl ⟨fun h => Bool.false_ne_true ((unhide HV).2 (h k hlt)), rfl⟩⟩⟩⟩, bel3⟩
      · go_wp2_with fail
        refine ⟨⟨k + 1, by omega, by go_num, hide (fun i hi => ?_), HC3, bel3⟩, by simp [intOf]; omega⟩
        by_cases e : i = k
        · subst e; exact (unhide HV).1 rfl
        · exact (unhide hfit) i (by omega)
    · have hkx : k = ns.length := by omega
      go_wp2_with fail
      go_ret
      exact ⟨⟨0, rfl, Or.inr ⟨unhide HC, Or.inr ⟨unhide HO, Or.inr ⟨fun i hi => (unhide hfit) i (by omega), rfl⟩⟩⟩⟩, hbel⟩
end Go.Proofs.YtfboipappaonhaaGreat

/-
  Walks: the program's operators of nodes, levels.
-/
namespace Go.Proofs.YtfboipappaonhaaGreat
set_option maxRecDepth 100000
set_option linter.unusedSimpArgs false
set_option linter.unusedVariables false
open Go.RowKit Go.Maps

/-- The kind of a node's operator, 0 where it has none. -/
def opKd (k : Int) : Int := if 3 ≤ k ∧ k ≤ 5 then k - 2 else 0

theorem opKd_op {k : Int} (h : 3 ≤ k ∧ k ≤ 5) : opKd k = k - 2 := if_pos h

theorem opKind_any (k : Int) (w : World) :
    Calls Tryz.prog 137 #[.int .i64 k] w fun e w' => e = .returned (.int .i64 (opKd k)) ∧ w' = w := by
  by_cases h3 : k = 3
  · subst h3
    go_enter Tryz.func137, Tryz.ntmps137
    go_wp2
    go_ret
    exact ⟨ret_int (by simp [opKd]), rfl⟩
  by_cases h4 : k = 4
  · subst h4
    go_enter Tryz.func137, Tryz.ntmps137
    go_wp2
    go_ret
    exact ⟨ret_int (by simp [opKd]), rfl⟩
  by_cases h5 : k = 5
  · subst h5
    go_enter Tryz.func137, Tryz.ntmps137
    go_wp2
    go_ret
    exact ⟨ret_int (by simp [opKd]), rfl⟩
  have e3 : (k == 3) = false := by simpa using h3
  have e4 : (k == 4) = false := by simpa using h4
  have e5 : (k == 5) = false := by simpa using h5
  have HK := hide (show opKd k = 0 by unfold opKd; rw [if_neg]; omega)
  clear h3 h4 h5
  go_enter Tryz.func137, Tryz.ntmps137
  go_wp2
  go_ret
  exact ⟨ret_int (unhide HK).symm, rfl⟩

/-- What the index says of a node. -/
theorem idx_find {w : World} {bo bs : Nat} {xs : List OpR} (hi : Idx w bo bs xs xs.length) (hc : IsCode xs 0) (hok : okTo xs xs.length) (o : NodeR) (ht : o.t.size ≤ maxLen) :
    ∃ D : DataW Unit, w.ownsMap Tryz.prog 161 opElem bo xs.length D ∧
      ((∃ j, isOpN o ∧ fnd xs o.t (o.k - 2) = some j ∧ Maps.has D (klO o.t (opKd o.k)) = true ∧ D.atKey (klO o.t (opKd o.k)) (opDat ⟨#[]⟩ 0 0 0) = opDat (atO xs j).s (atO xs j).k (atO xs j).l (atO xs j).sd) ∨
       ((isOpN o → fnd xs o.t (o.k - 2) = none) ∧ Maps.has D (klO o.t (opKd o.k)) = false)) := by
  obtain ⟨⟨D, hown, hD⟩, _, _⟩ := hi
  have hw : (Lit.int .i64 (opKd o.k)).wf = true := by
    unfold opKd
    split
    · rename_i h
      rcases (by omega : o.k = 3 ∨ o.k = 4 ∨ o.k = 5) with e | e | e <;> rw [e] <;> decide
    · decide
  obtain ⟨h1, h2⟩ := hD o.t (opKd o.k) ht hw
  refine ⟨D, hown, ?_⟩
  cases hh : Maps.has D (klO o.t (opKd o.k)) with
  | true =>
    obtain ⟨j, hj, e1, e2, e3⟩ := h2 hh
    have hop : isOpN o := by
      unfold isOpN
      have hk := ok_kind (hok j hj)
      unfold opKd at e2
      split at e2
      · assumption
      · omega
    have e2' : (atO xs j).k = o.k - 2 := by
      rw [e2]; exact opKd_op hop
    exact Or.inl ⟨j, hop, fnd_one hc hj ⟨e1, e2'⟩, rfl, e3⟩
  | false =>
    refine Or.inr ⟨fun hop => fnd_not (fun j hj h => ?_), rfl⟩
    have : Maps.has D (klO o.t (opKd o.k)) = true := h1.2 ⟨j, hj, h.1, by rw [h.2]; exact (opKd_op hop).symm⟩
    rw [hh] at this
    cases this

/-- What the index's look at a node gives. -/
def FoundAt (xs : List OpR) (o : NodeR) (p : OpR) (found : Bool) : Prop :=
  (∃ j, isOpN o ∧ fnd xs o.t (o.k - 2) = some j ∧ found = true ∧ p = atO xs j) ∨ ((isOpN o → fnd xs o.t (o.k - 2) = none) ∧ found = false)

set_option maxHeartbeats 2000000 in
theorem opOf_any (bo bs : Nat) (xs : List OpR) (o : NodeR) (w : World) (hi : Idx w bo bs xs xs.length) (hc : IsCode xs 0) (hok : okTo xs xs.length) (ht : o.t.size ≤ maxLen) :
    Calls Tryz.prog 88 #[.agg #[.map (some bo), .map (some bs)], .agg #[.int .i64 o.k, .string o.t, .int .i64 o.a, .int .i64 o.b]] w fun e w' => (∃ (p : OpR) (v : Bool), e = .returned (.tuple #[.agg #[.string p.s, .int .i64 p.k, .int .i64 p.l, .int .i64 p.sd], .bool v]) ∧ FoundAt xs o p v) ∧ Below w.heap.size w w' := by
  obtain ⟨D, hown, hcase⟩ := idx_find hi hc hok o ht
  have hw : (Lit.int .i64 (opKd o.k)).wf = true := by
    unfold opKd
    split
    · rename_i h
      rcases (by omega : o.k = 3 ∨ o.k = 4 ∨ o.k = 5) with e | e | e <;> rw [e] <;> decide
    · decide
  have HKY := hide (keyK ht hw)
  have HOW := hide hown
  have HCS := hide hcase
  have HB3 := hide (show ∀ o1 o2 o3 : Obj, Below w.heap.size w ((w.alloc o1).alloc o2 |>.alloc o3) from fun o1 o2 o3 => ((below1 w o1).alloc (by simp) o2).alloc (by simp; omega) o3)
  clear hown hcase hi hc hok
  go_enter Tryz.func88, Tryz.ntmps88
  go_wp2_with fail
  have hlook : ∀ W : World, W.ownsMap Tryz.prog 161 opElem bo xs.length D → ∃ p v, (Instr.lookup 66 (.map (some bo)) (.agg #[.string o.t, .int .i64 (opKd o.k)]) true).run Tryz.prog W = .ok (.tuple #[.agg #[.string p.s, .int .i64 p.k, .int .i64 p.l, .int .i64 p.sd], .bool v]) W ∧ FoundAt xs o p v := fun W hW => by
    obtain ⟨v, ps, hr, hv⟩ := hW.look_ok lawK Tryz.underlying66 (zeroOp _) (opElem_mk _ _ _ _) (unhide HKY)
    rcases unhide HCS with ⟨j, h1, h2, h3, h4⟩ | ⟨h1, h2⟩
    · rw [h4] at hv
      have e := opElem_dat hv
      subst e
      rw [h3] at hr
      exact ⟨atO xs j, true, hr, Or.inl ⟨j, h1, h2, rfl, rfl⟩⟩
    · obtain ⟨s, k, l, sd, rfl⟩ := opElem_inv hv
      rw [h2] at hr
      exact ⟨⟨s, k, l, sd⟩, false, hr, Or.inr ⟨h1, rfl⟩⟩
  obtain ⟨p1, v1, hr1, hp1⟩ := hlook (((w.alloc (.cells #[.map (some bo), .map (some bs)] 69)).alloc (.cells #[.int .i64 o.k, .string o.t, .int .i64 o.a, .int .i64 o.b] 81)).alloc (.cells #[.string ⟨#[]⟩, .int .i64 0, .int .i64 0, .int .i64 0] 123)).drew ((((unhide HOW).alloc _).alloc _).alloc _).drew
  obtain ⟨p2, v2, hr2, hp2⟩ := hlook ((((w.alloc (.cells #[.map (some bo), .map (some bs)] 69)).alloc (.cells #[.int .i64 o.k, .string o.t, .int .i64 o.a, .int .i64 o.b] 81)).alloc (.cells #[.string ⟨#[]⟩, .int .i64 0, .int .i64 0, .int .i64 0] 123)).alloc (.cells #[.string ⟨#[]⟩, .int .i64 0, .int .i64 0, .int .i64 0] 123)).drew (((((unhide HOW).alloc _).alloc _).alloc _).alloc _).drew
  have HP1 := hide hp1
  have HP2 := hide hp2
  clear hp1 hp2 hlook
  go_region_held (fun w' => w'.cell? ⟨w.heap.size, 0, none⟩ = some (.map (some bo)) ∧ w'.cell? ⟨w.heap.size + 1, 0, none⟩ = some (.int .i64 o.k) ∧ w'.cell? ⟨w.heap.size + 1, 1, none⟩ = some (.string o.t)) (go_keep)
    (first | (go_at_call 137; refine (opKind_any _ _).mono ?_; rintro e w2 ⟨rfl, hx⟩; obtain rfl := hx.symm))
  all_goals go_wp2
  all_goals first | (refine bodyPost_ret (v := .tuple #[.agg #[.string p1.s, .int .i64 p1.k, .int .i64 p1.l, .int .i64 p1.sd], .bool v1]) ?_ rfl ⟨⟨p1, v1, rfl, unhide HP1⟩, ((((below1 _ _).alloc (by simp) _).alloc (by simp; omega) _).alloc (by simp; omega) _).drew⟩; (simp [results, Tryz.results88, go_sem]; done)) | (refine bodyPost_ret (v := .tuple #[.agg #[.string p2.s, .int .i64 p2.k, .int .i64 p2.l, .int .i64 p2.sd], .bool v2]) ?_ rfl ⟨⟨p2, v2, rfl, unhide HP2⟩, ((((below1 _ _).alloc (by simp) _).alloc (by simp; omega) _).alloc (by simp; omega) _).drew⟩; (simp [results, Tryz.results88, go_sem]; done))

/-- The level that the index gives a node. -/
theorem found_lev {xs : List OpR} {o : NodeR} {p : OpR} {v : Bool} (h : FoundAt xs o p v) : levN xs o = if v = true then p.l else 1001 := by
  rcases h with ⟨j, h1, h2, rfl, rfl⟩ | ⟨h1, rfl⟩
  · unfold levN
    have h1' : 3 ≤ o.k ∧ o.k ≤ 5 := h1
    rw [if_pos h1', h2]
    simp
  · unfold levN
    simp only [Bool.false_eq_true, if_false]
    split
    · rename_i h
      rw [h1 h]
    · rfl

end Go.Proofs.YtfboipappaonhaaGreat

/-
  Words: numbers and names (isWord).
-/
namespace Go.Proofs.YtfboipappaonhaaGreat
set_option maxRecDepth 100000
open Go.RowKit

/-- A text of one word. -/
def WordT (first : Nat) (s : ByteArray) : Prop := 1 ≤ s.size ∧ cls (bt s 0) = first ∧ ∀ j, j < s.size → stays first (bt s j) = true

set_option maxHeartbeats 1000000 in
theorem isWord_any (first : Nat) (s : ByteArray) (w : World) (hs : s.size ≤ maxLen) :
    Calls Tryz.prog 139 #[.int .i64 (first : Int), .string s] w fun e w' => RetB e (WordT first s) ∧ w' = w := by
  unfold maxLen at hs
  by_cases h0 : s.size = 0
  · have HN := hide (show ¬ WordT first s from fun h => by have := h.1; omega)
    obtain rfl := bytes_nil h0
    go_enter Tryz.func139, Tryz.ntmps139
    go_wp2_with fail
    go_ret
    exact ⟨⟨_, rfl, says_false (unhide HN)⟩, rfl⟩
  have hne := not_empty h0
  have h0I : (0 : Int) < (s.size : Int) := by omega
  have h0N : 0 < s.size := by omega
  by_cases hc : cls (bt s 0) = first
  case neg =>
    have HN := hide (show ¬ WordT first s from fun h => hc h.2.1)
    have hb := bt_get h0N
    have hc' : ((cls s[0] : Int) != (first : Int)) = true := by rw [hb]; simp; omega
    clear hb
    go_enter Tryz.func139, Tryz.ntmps139
    go_wp2_with (go_at_call 125; refine (kindOfByte_any _ _).mono ?_; rintro e w' ⟨rfl, hx⟩; obtain rfl := hx.symm)
    go_ret
    exact ⟨⟨_, rfl, says_false (unhide HN)⟩, rfl⟩
  have HC := hide hc
  have hb := bt_get h0N
  have HX := hide (show (cls s[0] : Int) = (first : Int) by rw [hb]; omega)
  clear hb hc
  go_enter Tryz.func139, Tryz.ntmps139
  go_wp2_with (go_at_call 125; refine (kindOfByte_any _ _).mono ?_; rw [unhide HX]; rintro e w' ⟨rfl, hx⟩; obtain rfl := hx.symm)
  go_loop [17] (fun i => ∃ k : Nat, k ≤ s.size ∧ i = .int .i64 (k : Int) ∧ Hid (∀ j, j < k → stays first (bt s j) = true)) (fun i => s.size - (intOf i).toNat)
  case atStart => exact ⟨0, Nat.zero_le _, rfl, hide (fun j h => by omega)⟩
  case round =>
    obtain ⟨k, hk, rfl, hn⟩ := hrel
    by_cases hlt : k < s.size
    · have hltI : (k : Int) < (s.size : Int) := by omega
      cases hb : stays first s[k]
      · have Hb := hide (show stays first (bt s k) = false by rw [← bt_get hlt]; exact hb)
        go_wp2_with (go_at_call 159; refine (staysWord_any _ _ _).mono ?_; rintro e w' ⟨rfl, hx⟩; obtain rfl := hx.symm)
        go_ret
        exact ⟨⟨_, rfl, says_false (fun h => by have := h.2.2 k hlt; rw [unhide Hb] at this; cases this)⟩, rfl⟩
      · have Hb := hide (show stays first (bt s k) = true by rw [← bt_get hlt]; exact hb)
        go_wp2_with (go_at_call 159; refine (staysWord_any _ _ _).mono ?_; rintro e w' ⟨rfl, hx⟩; obtain rfl := hx.symm)
        refine ⟨⟨k + 1, by omega, by go_num, hide (fun j hj => ?_)⟩, by simp [intOf]; omega⟩
        by_cases e : j = k
        · subst e; exact unhide Hb
        · exact (unhide hn) j (by omega)
    · go_wp2_with fail
      go_ret
      exact ⟨⟨_, rfl, says_true ⟨by omega, unhide HC, fun j hj => (unhide hn) j (by omega)⟩⟩, rfl⟩

theorem WordT_2 (s : ByteArray) : WordT 2 s ↔ NumT s := by
  unfold WordT NumT stays
  constructor
  · rintro ⟨h1, h2, h3⟩
    refine ⟨h1, fun j hj => ?_⟩
    have := h3 j hj
    simpa using this
  · rintro ⟨h1, h2⟩
    exact ⟨h1, h2 0 (by omega), fun j hj => by simp [h2 j hj]⟩

theorem WordT_3 (s : ByteArray) : WordT 3 s ↔ NameT s := by
  unfold WordT NameT stays
  constructor
  · rintro ⟨h1, h2, h3⟩
    refine ⟨h1, fun j hj => ?_⟩
    have := h3 j hj
    simp at this
    by_cases e : j = 0
    · subst e; exact Or.inl h2
    · omega
  · rintro ⟨h1, h2⟩
    refine ⟨h1, ?_, fun j hj => ?_⟩
    · have := h2 0 (by omega); omega
    · have := h2 j hj; simp; omega
end Go.Proofs.YtfboipappaonhaaGreat
