import Derived.Maps.AppendAt
import Derived.Test.YtokabkhnidlcnabG02
import Derived.Test.YtokabkhnidlcnabG06
import Derived.Test.YtokabkhnidlcnabG07

/-
  Walks: the program's kinds of bytes, forms of texts.
-/
namespace Go.Proofs.Ytokabkhnidlcnab
set_option maxRecDepth 100000
open Go.RowKit

set_option maxHeartbeats 1000000 in
theorem kindOfByte_any (c : UInt8) (w : World) :
    Calls Try.prog 124 #[.int .u8 (c.toNat : Int)] w fun e w' => e = .returned (.int .i64 (cls c : Int)) ∧ w' = w := by
  have hsg := cls_sg c
  go_enter Try.func124, Try.ntmps124
  go_wp2_with (go_at_call 139; refine (isSign_any _ _).mono ?_; rintro e w' ⟨rfl, hx⟩; obtain rfl := hx.symm)
  all_goals (go_ret; refine ⟨ret_int ?_, rfl⟩; go_light; (try simp only [beq_iff_eq, beq_eq_false_iff_ne, ne_eq] at *); unfold cls; (repeat' split) <;> (try simp_all) <;> (try omega))

/-- A byte goes on with a word. -/
def stays (first : Nat) (c : UInt8) : Bool := decide (cls c = 2 ∨ (cls c = 3 ∧ first = 3))

set_option maxHeartbeats 1000000 in
theorem staysWord_any (first : Nat) (c : UInt8) (w : World) :
    Calls Try.prog 140 #[.int .i64 (first : Int), .int .u8 (c.toNat : Int)] w fun e w' => e = .returned (.bool (stays first c)) ∧ w' = w := by
  by_cases h2 : cls c = 2
  · have HR := hide (show stays first c = true by simp [stays, h2])
    have HC := hide (show (cls c : Int) = 2 by omega)
    clear h2
    go_enter Try.func140, Try.ntmps140
    go_wp2_with (go_at_call 124; refine (kindOfByte_any _ _).mono ?_; rw [unhide HC]; rintro e w' ⟨rfl, hx⟩; obtain rfl := hx.symm)
    go_ret
    exact ⟨ret_bool (unhide HR).symm, rfl⟩
  by_cases h3 : cls c = 3
  · have HC := hide (show (cls c : Int) = 3 by omega)
    by_cases hf : first = 3
    · have HR := hide (show stays first c = true by simp [stays, h3, hf])
      subst hf
      clear h2 h3
      go_enter Try.func140, Try.ntmps140
      go_wp2_with (go_at_call 124; refine (kindOfByte_any _ _).mono ?_; rw [unhide HC]; rintro e w' ⟨rfl, hx⟩; obtain rfl := hx.symm)
      go_ret
      exact ⟨ret_bool (unhide HR).symm, rfl⟩
    · have HR := hide (show stays first c = false by simp [stays, h3, hf])
      have hf' : ((first : Int) == 3) = false := by simp; omega
      clear h2 h3 hf
      go_enter Try.func140, Try.ntmps140
      go_wp2_with (go_at_call 124; refine (kindOfByte_any _ _).mono ?_; rw [unhide HC]; rintro e w' ⟨rfl, hx⟩; obtain rfl := hx.symm)
      go_ret
      exact ⟨ret_bool (unhide HR).symm, rfl⟩
  · have HR := hide (show stays first c = false by simp [stays, h2, h3])
    have h2' : ((cls c : Int) == 2) = false := by simp; omega
    have h3' : ((cls c : Int) == 3) = false := by simp; omega
    clear h2 h3
    go_enter Try.func140, Try.ntmps140
    go_wp2_with (go_at_call 124; refine (kindOfByte_any _ _).mono ?_; rintro e w' ⟨rfl, hx⟩; obtain rfl := hx.symm)
    go_ret
    exact ⟨ret_bool (unhide HR).symm, rfl⟩

theorem loop_ne (t : ByteArray) : ∀ (n i : Nat) (r : List UInt8), n = t.size - i → r ≠ [] → ByteArray.toList.loop t i r ≠ []
  | 0, i, r, h, hr => by
    unfold ByteArray.toList.loop
    rw [if_neg (by omega)]
    simpa using hr
  | n + 1, i, r, h, hr => by
    unfold ByteArray.toList.loop
    rw [if_pos (by omega)]
    exact loop_ne t n (i + 1) _ (by omega) (by simp)

theorem not_empty {t : ByteArray} (h : t.size ≠ 0) : t.toList.isEmpty = false := by
  rw [List.isEmpty_eq_false_iff]
  unfold ByteArray.toList ByteArray.toList.loop
  rw [if_pos (by omega)]
  exact loop_ne t (t.size - 1) 1 _ rfl (by simp)

theorem bytes_nil {t : ByteArray} (h : t.size = 0) : t = ⟨#[]⟩ := by
  obtain ⟨d⟩ := t
  congr 1
  exact Array.eq_empty_of_size_eq_zero h

theorem says_false {p : Prop} (h : ¬ p) : Says false p := ⟨fun e => (by cases e), fun e => absurd e h⟩
theorem says_true {p : Prop} (h : p) : Says true p := ⟨fun _ => h, fun _ => rfl⟩
end Go.Proofs.Ytokabkhnidlcnab

/-
  Walks: the specification's trees in order, the whole of it.
-/
namespace Go.Proofs.Ytokabkhnidlcnab
set_option maxRecDepth 100000
open Go.RowKit

theorem TxtOk_big {o : NodeR} (h : 20000 < o.t.size) : ¬ TxtOk o := fun h' => by have := h'.1; omega
theorem TxtOk_1 {o : NodeR} (h : o.t.size ≤ 20000) (hk : o.k = 1) : TxtOk o ↔ NumT o.t := by
  unfold TxtOk; rw [hk]; simp [h]
theorem TxtOk_2 {o : NodeR} (h : o.t.size ≤ 20000) (hk : o.k = 2) : TxtOk o ↔ NameT o.t := by
  unfold TxtOk; rw [hk]; simp [h]
theorem TxtOk_6 {o : NodeR} (hk : o.k = 6) : TxtOk o ↔ o.t.size = 0 := by
  unfold TxtOk; rw [hk]
  refine ⟨fun h => ?_, fun h => ⟨by omega, Or.inr (Or.inr (Or.inl ⟨rfl, h⟩))⟩⟩
  rcases h.2 with h | h | h | h
  · omega
  · omega
  · exact h.2
  · omega
theorem TxtOk_3 {o : NodeR} (h : o.t.size ≤ 20000) (hk : o.k = 3 ∨ o.k = 4 ∨ o.k = 5) : TxtOk o ↔ txtB o.t = true := by
  unfold TxtOk; rcases hk with hk | hk | hk <;> rw [hk] <;> simp [h]
theorem TxtOk_0 {o : NodeR} (hk : ¬ (o.k = 1 ∨ o.k = 2 ∨ o.k = 3 ∨ o.k = 4 ∨ o.k = 5 ∨ o.k = 6)) : ¬ TxtOk o := by
  unfold TxtOk; rintro ⟨_, h | h | h | h⟩
  · omega
  · omega
  · omega
  · omega

set_option maxHeartbeats 1000000 in
theorem l3TextOk_any (o : NodeR) (w : World) (hs : o.t.size ≤ maxLen) :
    Calls Try.prog 110 #[.agg #[.int .i64 o.k, .string o.t, .int .i64 o.a, .int .i64 o.b]] w fun e w' => RetB e (TxtOk o) ∧ Below w.heap.size w w' := by
  have HS := hide hs
  unfold maxLen at hs
  by_cases hbig : 20000 < o.t.size
  · have hbigI : (20000 : Int) < (o.t.size : Int) := by omega
    have HN := hide (TxtOk_big hbig)
    clear hbig
    go_enter Try.func110, Try.ntmps110
    go_wp2_with fail
    go_ret
    exact ⟨⟨_, rfl, says_false (unhide HN)⟩, below1 _ _⟩
  have hbigI : ¬ (20000 : Int) < (o.t.size : Int) := by omega
  have hsm : o.t.size ≤ 20000 := by omega
  clear hbig
  by_cases k1 : o.k = 1
  · have HT := hide (TxtOk_1 hsm k1)
    rw [k1]
    clear k1
    go_enter Try.func110, Try.ntmps110
    go_wp2_with (go_at_call 84; refine (l2IsNumber_any _ _ (unhide HS)).mono ?_; rintro e w' ⟨⟨v, rfl, hv⟩, rfl⟩)
    go_ret
    exact ⟨⟨_, rfl, hv.trans (unhide HT).symm⟩, below1 _ _⟩
  by_cases k2 : o.k = 2
  · have HT := hide (TxtOk_2 hsm k2)
    rw [k2]
    clear k1 k2
    go_enter Try.func110, Try.ntmps110
    go_wp2_with (go_at_call 85; refine (l2IsName_any _ _ (unhide HS)).mono ?_; rintro e w' ⟨⟨v, rfl, hv⟩, rfl⟩)
    go_ret
    exact ⟨⟨_, rfl, hv.trans (unhide HT).symm⟩, below1 _ _⟩
  by_cases k6 : o.k = 6
  · have HT := hide (TxtOk_6 k6)
    rw [k6]
    clear k1 k2 k6
    by_cases h0 : o.t.size = 0
    · rw [bytes_nil h0]
      go_enter Try.func110, Try.ntmps110
      go_wp2_with fail
      go_ret
      exact ⟨⟨_, rfl, says_true ((unhide HT).2 h0)⟩, below1 _ _⟩
    · have hne : o.t.toList.isEmpty = false := not_empty h0
      go_enter Try.func110, Try.ntmps110
      go_wp2_with fail
      go_ret
      exact ⟨⟨_, rfl, says_false (fun h => h0 ((unhide HT).1 h))⟩, below1 _ _⟩
  have e1 : (o.k == 1) = false := by simpa using k1
  have e2 : (o.k == 2) = false := by simpa using k2
  have e6 : (o.k == 6) = false := by simpa using k6
  by_cases k3 : 3 ≤ o.k
  · by_cases k5 : o.k ≤ 5
    · have HT := hide (TxtOk_3 hsm (by omega))
      clear k1 k2 k6
      go_enter Try.func110, Try.ntmps110
      go_wp2_with (go_at_call 116; refine (l1Signs_any _ _ (unhide HS)).mono ?_; rintro e w' ⟨rfl, rfl⟩)
      go_ret
      exact ⟨⟨_, rfl, (unhide HT).symm⟩, below1 _ _⟩
    · have HT := hide (TxtOk_0 (o := o) (by omega))
      clear k1 k2 k6
      go_enter Try.func110, Try.ntmps110
      go_wp2_with fail
      go_ret
      exact ⟨⟨_, rfl, says_false (unhide HT)⟩, below1 _ _⟩
  · have HT := hide (TxtOk_0 (o := o) (by omega))
    clear k1 k2 k6
    go_enter Try.func110, Try.ntmps110
    go_wp2_with fail
    go_ret
    exact ⟨⟨_, rfl, says_false (unhide HT)⟩, below1 _ _⟩

set_option maxHeartbeats 4000000 in
theorem l3InOrder_any (b off cap : Nat) (xs : List NodeR) (w : World) (hm : xs.length ≤ 1048576) (hw : OpsN w b off xs) (hs : SizedN xs) (hB : b < w.heap.size) :
    Calls Try.prog 71 #[.agg #[.slice (some ⟨b, off, none⟩) xs.length cap]] w fun e w' => RetB e (InOrd xs) ∧ Below w.heap.size w w' := by
  have HW := hide hw
  have HS := hide hs
  clear hw hs
  by_cases h1 : xs.length < 1
  · have h1I : (xs.length : Int) < 1 := by omega
    have HN := hide (show ¬ InOrd xs from fun h => by have := h.1; omega)
    go_enter Try.func71, Try.ntmps71
    go_wp2_with fail
    go_ret
    exact ⟨⟨_, rfl, says_false (unhide HN)⟩, below1 _ _⟩
  have h1I : ¬ (xs.length : Int) < 1 := by omega
  by_cases h2 : 20000 < xs.length
  · have h2I : (20000 : Int) < (xs.length : Int) := by omega
    have HN := hide (show ¬ InOrd xs from fun h => by have := h.2.1; omega)
    go_enter Try.func71, Try.ntmps71
    go_wp2_with fail
    go_ret
    exact ⟨⟨_, rfl, says_false (unhide HN)⟩, below1 _ _⟩
  have h2I : ¬ (20000 : Int) < (xs.length : Int) := by omega
  have ei : (xs.length : Int) - 1 = ((xs.length - 1 : Nat) : Int) := by omega
  by_cases h3 : frS xs (xs.length - 1) = some 0
  case neg =>
    have h3I : (frI xs (xs.length - 1) != 0) = true := by
      unfold frI
      cases hf : frS xs (xs.length - 1) with
      | none => rfl
      | some f =>
        simp only [bne_iff_ne, ne_eq]
        intro e
        have : f = 0 := by omega
        subst this
        exact h3 hf
    have HN := hide (show ¬ InOrd xs from fun h => h3 h.2.2.1)
    clear h3
    go_enter Try.func71, Try.ntmps71
    go_wp2_with (go_at_call 109; refine (l3From_any b off cap xs hm xs.length (xs.length - 1) _ (by omega) (by omega) ((unhide HW).below (below1 _ _) hB) (by simp; omega)).mono ?_; rintro e w' ⟨rfl, hb1⟩)
    go_ret
    exact ⟨⟨_, rfl, says_false (unhide HN)⟩, (below1 _ _).trans (hb1.mono (by simp))⟩
  have HI := hide (frI_some h3)
  have H3 := hide h3
  clear h3
  go_enter Try.func71, Try.ntmps71
  go_wp2_with fail
  refine (l3From_any b off cap xs hm xs.length (xs.length - 1) _ (by omega) (by omega) ((unhide HW).below (below1 _ _) hB) (by simp; omega)).mono ?_
  rw [unhide HI]
  rintro e w1 ⟨rfl, hb1⟩
  have bel1 : Below w.heap.size w w1 := (below1 _ _).trans (hb1.mono (by simp))
  clear hb1
  go_wp2_with fail
  go_loopw [4] (fun i wr => ∃ k : Nat, k ≤ xs.length ∧ i = .int .i64 (k : Int) ∧ Hid (∀ j, j < k → TxtOk (atN xs j)) ∧ Below w.heap.size w wr) (fun i _ => xs.length - (intOf i).toNat)
  case atStart => exact ⟨0, Nat.zero_le _, rfl, hide (fun j hj => absurd hj (Nat.not_lt_zero j)), bel1⟩
  case round =>
    obtain ⟨k, hk, rfl, hok, hbel⟩ := hrel
    by_cases hlt : k < xs.length
    · obtain ⟨c0, c1, c2, c3⟩ := ((unhide HW) k hlt).below hbel hB
      have hltI : (k : Int) < (xs.length : Int) := by omega
      go_wp2_with fail
      refine (l3TextOk_any (atN xs k) _ ((unhide HS) k hlt)).mono ?_
      rintro e w2 ⟨⟨v, rfl, hv⟩, hb2⟩
      have bel2 := hbel.trans (hb2.mono hbel.size)
      have HV := hide hv
      clear hv hb2
      cases v
      · go_wp2_with fail
        go_ret
        exact ⟨⟨_, rfl, says_false (fun h => Bool.false_ne_true ((unhide HV).2 (h.2.2.2 k hlt)))⟩, bel2⟩
      · go_wp2_with fail
        refine ⟨⟨k + 1, by omega, by go_num, hide (fun j hj => ?_), bel2⟩, by simp [intOf]; omega⟩
        by_cases e : j = k
        · subst e; exact (unhide HV).1 rfl
        · exact (unhide hok) j (by omega)
    · have hkn : k = xs.length := by omega
      go_wp2_with fail
      go_ret
      exact ⟨⟨_, rfl, says_true ⟨by omega, by omega, unhide H3, fun i hi => (unhide hok) i (by omega)⟩⟩, hbel⟩
end Go.Proofs.Ytokabkhnidlcnab

/-
  Walks: the specification's trees without groups.
-/
namespace Go.Proofs.Ytokabkhnidlcnab
set_option maxRecDepth 100000
set_option linter.unusedVariables false
set_option linter.unusedSimpArgs false
open Go.RowKit

theorem Kept1.grownRow {w w1 w2 : World} {g : Nat} {row : Option Nat} (h : Kept1 w w1 g) (hg : w1.grownBy w2 row) (hr : ∀ k, row = some k → k = g ∨ w.heap.size ≤ k) : Kept1 w w2 g :=
  ⟨hg.os.trans h.os, hg.tape.trans h.tape, hg.output.trans h.output, Nat.le_trans h.size hg.size, fun i hi a => (hg.block i (Nat.lt_of_lt_of_le hi h.size) (fun e => by rcases hr i e.symm with h | h; exact a h; omega)).trans (h.block i hi a)⟩

theorem Kept1.setRow {w w1 : World} {g : Nat} (h : Kept1 w w1 g) (b o : Nat) (v : Value) (hb : b = g ∨ w.heap.size ≤ b) : Kept1 w (w1.setCell ⟨b, o, none⟩ v) g :=
  h.grownRow (row := some b) ⟨rfl, rfl, rfl, by simp [World.setCell], fun i _ hi => Below.heap_setCell _ _ _ _ (fun e => hi (by rw [e]))⟩ (fun k hk => by injection hk with hk; subst hk; exact hb)

theorem owns_set {w : World} {B e size n : Nat} {v : Value} {xs : List Value} (h : w.ownsRow B e size v n xs) (b o : Nat) (u : Value) (hb : v.ownBlock ≠ some b) : (w.setCell ⟨b, o, none⟩ u).ownsRow B e size v n xs :=
  h.kept (row := some b) ⟨rfl, rfl, rfl, by simp [World.setCell], fun i _ hi => Below.heap_setCell _ _ _ _ (fun e => hi (by rw [e]))⟩ (Or.inr hb)

/-- A row of nodes that belongs to the call. -/
def RowN (w : World) (B g c : Nat) (us : List NodeR) : Prop := w.ownsRow B 115 4 (.slice (some ⟨g, 0, none⟩) us.length c) us.length (cellsN us)

theorem RowN.kept {w w' : World} {B g c g' : Nat} {us : List NodeR} (h : RowN w B g c us) (hk : Kept1 w w' g') (hne : g' ≠ g) : RowN w' B g c us :=
  World.ownsRow.kept h (grown_kept1 hk) (Or.inr (by simp [Value.ownBlock]; omega))
theorem RowN.below {w w' : World} {B g c : Nat} {us : List NodeR} (h : RowN w B g c us) (hb : Below w.heap.size w w') : RowN w' B g c us :=
  World.ownsRow.kept h (grown_belN hb none) (Or.inr (by simp [Value.ownBlock]))
theorem RowN.set {w : World} {B g c : Nat} {us : List NodeR} (h : RowN w B g c us) (b o : Nat) (u : Value) (hb : b ≠ g) : RowN (w.setCell ⟨b, o, none⟩ u) B g c us :=
  owns_set h b o u (by simp [Value.ownBlock]; omega)
theorem RowN.lt {w : World} {B g c : Nat} {us : List NodeR} (h : RowN w B g c us) : B ≤ g ∧ g < w.heap.size := World.ownsRow.lt h g rfl

/-- A row with one node more. -/
theorem RowN.snoc {w : World} {B : Nat} {v : Value} {us vs : List NodeR} {o : NodeR} (h : w.ownsRow B 115 4 v (us.length + 1) (cellsN us ++ cellsN [o])) (hv : v ≠ .slice none 0 0) (e : vs = us ++ [o]) : ∃ g c, v = .slice (some ⟨g, 0, none⟩) vs.length c ∧ RowN w B g c vs := by
  subst e
  obtain ⟨g, c, rfl⟩ := owns_valueN h hv
  have hl : us.length + 1 = (us ++ [o]).length := by simp
  rw [← cellsN_append, hl] at h
  exact ⟨g, c, by rw [hl], h⟩

theorem new_newsAt (w : World) (n : Nat) (o : NodeR) (hn : w.heap.size = n) : ∀ j u, (cellsN [o])[j]? = some u → (w.alloc (.cells #[.int .i64 o.k, .string o.t, .int .i64 o.a, .int .i64 o.b] 115)).cell? ((⟨n, 0, none⟩ : Addr).add j) = some u := by
  subst hn
  exact new_newsN w o

theorem info_parts' {t : TypeId} {z : Value} {s b : Nat} (h : (Try.prog.info? t).map (fun i => (i.zero, i.size, i.bytes)) = some (some z, s, b)) : ∃ i, Try.prog.info? t = some i ∧ i.zero = some z ∧ i.size = s ∧ i.bytes = b := by
  obtain ⟨i, hi, hz⟩ := Option.map_eq_some_iff.1 h
  simp only [Prod.mk.injEq] at hz
  exact ⟨i, hi, hz.1, hz.2.1, hz.2.2⟩

set_option maxHeartbeats 8000000 in
theorem l3Erased_any (b off cap : Nat) (xs : List NodeR) (hm : xs.length ≤ 20000) : ∀ (n i f B g c : Nat) (us vs : List NodeR) (w : World), i < n → i < xs.length → Hid (frS xs i = some f) → Hid (us = er xs f) → Hid (vs = er xs (i + 1)) → OpsN w b off xs → b < B → B ≤ w.heap.size → RowN w B g c us →
    Calls Try.prog 72 #[.slice (some ⟨b, off, none⟩) xs.length cap, .int .i64 (i : Int), .slice (some ⟨g, 0, none⟩) us.length c] w fun e w' => (∃ g' c', e = .returned (.slice (some ⟨g', 0, none⟩) vs.length c') ∧ Hid (RowN w' B g' c' vs) ∧ (g' = g ∨ w.heap.size ≤ g')) ∧ Hid (Kept1 w w' g)
  | 0, _, _, _, _, _, _, _, _, h, _, _, _, _, _, _, _, _ => absurd h (Nat.not_lt_zero _)
  | n + 1, i, f, B, g, c, us, vs, w, hin, hi, hf, hus, hvs, hw, hb, hB, hrow => by
    obtain ⟨i0, hi0, hz0, hz1, hz2⟩ := info_parts' infoN
    have HI := hide hi0
    have HZ := hide (And.intro hz0 (And.intro hz1 hz2))
    clear hi0 hz0 hz1 hz2
    obtain ⟨h0, h1, h2, h3⟩ := hw i hi
    have IH := hide (l3Erased_any b off cap xs hm n)
    have HW := hide hw
    have HR := hide hrow
    have hg := hrow.lt
    have hiI : (i : Int) < (xs.length : Int) := by omega
    have hul : us.length ≤ 20000 := by
      have a1 := cnt_le xs f
      have a2 := frS_le (unhide hf)
      rw [unhide hus, er_len]; omega
    clear hw hrow
    rcases frS_some (unhide hf) with ⟨hk, ha, hbb, hfi⟩ | ⟨hk, h1i, ha, hbb, hf1⟩ | ⟨hk, h1i, hbb, f2, hf2, h2f, ha, hf1⟩
    · have HK := hide hk
      have h6 : ((atN xs i).k == 6) = false := by
        rw [beq_eq_false_iff_ne]; intro e; rw [e] at hk; simp [kids] at hk
      have HV := hide (show vs = us ++ [⟨(atN xs i).k, (atN xs i).t, 0, 0⟩] by
        rw [unhide hvs, unhide hus, hfi, er_other (by simpa using h6)]
        simp [erN, hk])
      clear hk ha hbb hfi
      go_enter Try.func72, Try.ntmps72
      go_wp2_with (first | (go_at_call 102; refine (l3Kids_is (unhide HK) 0 rfl _).mono ?_; rintro e w' ⟨rfl, rfl⟩) | (at_builtin; refine wpList_append_own_at _ rfl (.tmp 52) (.tmp 54) 56 rfl B 115 i0 _ 4 40 Try.underlying56 (unhide HI) (unhide HZ).1 (unhide HZ).2.1 (unhide HZ).2.2 rfl (by decide) _ us.length (cellsN us) rfl ((((unhide HR).below (below1 _ _)).below (below1 _ _)).below (below1 _ _)) ⟨w.heap.size + 1 + 1, 0, none⟩ 1 1 (cellsN [⟨(atN xs i).k, (atN xs i).t, 0, 0⟩]) rfl rfl (by simpa using new_newsN ((w.alloc _).alloc _) ⟨(atN xs i).k, (atN xs i).t, 0, 0⟩) (cellsN_one' _) ?b1 ?b2 ?b3 ?next))
      case b1 => unfold maxLen; omega
      case b2 => omega
      case b3 => simp; omega
      case next =>
        intro v4 w4 hown4 hgrow4 hnil4 hat4
        obtain ⟨g4, c4, rfl, hr4⟩ := RowN.snoc hown4 (by simp [hnil4]) (unhide HV)
        have HR4 := hide hr4
        have HKp := hide (((Kept1.of_below (g := g) (((below1 _ _).alloc (by simp) _).alloc (by simp; omega) _))).grownRow hgrow4 (fun k hk => by simp [Value.ownBlock] at hk; omega))
        have hgg : g4 = g ∨ w.heap.size ≤ g4 := by simp [Value.ownBlock] at hat4; omega
        clear hown4 hgrow4 hnil4 hr4 hat4
        go_wp2_with fail
        go_ret
        exact ⟨⟨g4, c4, rfl, HR4, hgg⟩, HKp⟩
    · have HK := hide hk
      have ei : (i : Int) - 1 = ((i - 1 : Nat) : Int) := by omega
      rw [ha, ei] at h2
      have hii : i - 1 + 1 = i := by omega
      by_cases h6 : (atN xs i).k = 6
      · have HVS := hide (show vs = er xs (i - 1 + 1) by rw [unhide hvs, er_group h6, hii])
        rw [h6] at h0
        clear hk ha hbb h6
        go_enter Try.func72, Try.ntmps72
        go_wp2_with fail
        refine ((unhide IH) (i - 1) f B g c us vs _ (by omega) (by omega) (hide hf1) hus HVS ((unhide HW).below (below1 _ _) (by omega)) hb (by simp; omega) ((unhide HR).below (below1 _ _))).mono ?_
        rintro e w1 ⟨⟨g1, c1, rfl, hr1, hg1⟩, hk1⟩
        have hk1' := hide ((Kept1.of_below (g := g) (below1 _ _)).trans (unhide hk1))
        have hg1' : g1 = g ∨ w.heap.size ≤ g1 := by simp at hg1; omega
        go_wp2_with fail
        go_ret
        exact ⟨⟨g1, c1, rfl, hr1, hg1'⟩, hk1'⟩
      · have h6' : ((atN xs i).k == 6) = false := by simpa using h6
        obtain ⟨us1, HU1⟩ : ∃ us1, Hid (us1 = er xs (i - 1 + 1)) := ⟨_, hide rfl⟩
        have hl1 : us1.length ≤ 20000 := by
          have := cnt_le xs (i - 1 + 1)
          rw [unhide HU1, er_len]; omega
        obtain ⟨nd, HND⟩ : ∃ nd : NodeR, Hid (nd = ⟨(atN xs i).k, (atN xs i).t, (us1.length : Int) - 1, 0⟩) := ⟨_, hide rfl⟩
        have HVS := hide (show vs = us1 ++ [nd] by
          rw [unhide hvs, er_other h6, unhide HND, unhide HU1, er_len, hii]
          congr 2
          unfold erN mvd
          rw [hk, ha]
          have : ((i : Int) - 1).toNat + 1 = i := by omega
          rw [this]
          simp)
        clear hk ha hbb h6
        go_enter Try.func72, Try.ntmps72
        go_wp2_with (go_at_call 102; refine (l3Kids_is (unhide HK) 1 rfl _).mono ?_; rintro e w' ⟨rfl, rfl⟩)
        refine ((unhide IH) (i - 1) f B g c us us1 _ (by omega) (by omega) (hide hf1) hus HU1 ((unhide HW).below ((below1 _ _).alloc (by simp) _) (by omega)) hb (by simp; omega) (((unhide HR).below (below1 _ _)).below (below1 _ _))).mono ?_
        rintro e w1 ⟨⟨g1, c1, rfl, hr1, hg1⟩, hk1⟩
        have hg1l := (unhide hr1).lt
        have hsz1 : w.heap.size + 2 ≤ w1.heap.size := by have := (unhide hk1).size; simp at this; omega
        have hg1' : g1 = g ∨ w.heap.size + 2 ≤ g1 := by simp at hg1; omega
        have p0 : w1.cell? ⟨w.heap.size, 0, none⟩ = some (.int .i64 (atN xs i).k) := ((unhide hk1).cell (b := w.heap.size) (by simp; omega) (by omega) 0).trans (by simp [go_sem])
        have q0 : w1.cell? ⟨w.heap.size + 1, 0, none⟩ = some (.int .i64 (atN xs i).k) := ((unhide hk1).cell (b := w.heap.size + 1) (by simp) (by omega) 0).trans (by simp [go_sem])
        have q1 : w1.cell? ⟨w.heap.size + 1, 1, none⟩ = some (.string (atN xs i).t) := ((unhide hk1).cell (b := w.heap.size + 1) (by simp) (by omega) 1).trans (by simp [go_sem])
        have q2 : w1.cell? ⟨w.heap.size + 1, 2, none⟩ = some (.int .i64 0) := ((unhide hk1).cell (b := w.heap.size + 1) (by simp) (by omega) 2).trans (by simp [go_sem])
        have q3 : w1.cell? ⟨w.heap.size + 1, 3, none⟩ = some (.int .i64 0) := ((unhide hk1).cell (b := w.heap.size + 1) (by simp) (by omega) 3).trans (by simp [go_sem])
        have r2 : w1.frozen? ⟨w.heap.size + 1, 2, none⟩ = false := ((unhide hk1).frozen (b := w.heap.size + 1) (by simp) (by omega) 2).trans (by simp [go_sem])
        have HKA := hide ((Kept1.of_below (g := g) ((below1 w _).alloc (by simp) _)).trans (unhide hk1))
        clear hk1
        have ST := hide (show RowN ((w1.setCell ⟨w.heap.size + 1, 2, none⟩ (.int .i64 ((us1.length : Int) - 1))).alloc (.cells #[.int .i64 nd.k, .string nd.t, .int .i64 nd.a, .int .i64 nd.b] 115)) B g1 c1 us1 from ((unhide hr1).set _ _ _ (by omega)).below (below1 _ _))
        have NW := hide (new_newsAt (w1.setCell ⟨w.heap.size + 1, 2, none⟩ (.int .i64 ((us1.length : Int) - 1))) w1.heap.size nd (by simp [World.setCell]))
        rw [unhide HND] at ST NW
        simp only at ST NW
        go_wp2_with (first | (go_at_call 102; refine (l3Kids_is (unhide HK) 1 rfl _).mono ?_; rintro e w' ⟨rfl, rfl⟩) | (at_builtin; refine wpList_append_own_at _ rfl (.tmp 52) (.tmp 54) 56 rfl B 115 i0 _ 4 40 Try.underlying56 (unhide HI) (unhide HZ).1 (unhide HZ).2.1 (unhide HZ).2.2 rfl (by decide) _ us1.length (cellsN us1) rfl (unhide ST) ⟨w1.heap.size, 0, none⟩ 1 1 (cellsN [nd]) rfl rfl (by rw [unhide HND]; exact unhide NW) (cellsN_one' _) ?b1 ?b2 ?b3 ?next))
        case b1 => unfold maxLen; omega
        case b2 => omega
        case b3 => simp; omega
        case next =>
          intro v4 w4 hown4 hgrow4 hnil4 hat4
          obtain ⟨g4, c4, rfl, hr4⟩ := RowN.snoc hown4 (by simp [hnil4]) (unhide HVS)
          have HR4 := hide hr4
          have HKp := hide ((((unhide HKA).setRow (w.heap.size + 1) 2 (.int .i64 ((us1.length : Int) - 1)) (by omega)).trans (Kept1.of_below (below1 _ _))).grownRow hgrow4 (fun k hk => by simp [Value.ownBlock] at hk; omega))
          have hgg : g4 = g ∨ w.heap.size ≤ g4 := by simp [Value.ownBlock] at hat4; omega
          clear hown4 hgrow4 hnil4 hr4 hat4
          go_wp2_with fail
          go_ret
          exact ⟨⟨g4, c4, rfl, HR4, hgg⟩, HKp⟩
    · have HK := hide hk
      have ei : (i : Int) - 1 = ((i - 1 : Nat) : Int) := by omega
      have ef : (f2 : Int) - 1 = ((f2 - 1 : Nat) : Int) := by omega
      rw [ha, ef] at h2
      rw [hbb, ei] at h3
      have hle := frS_le hf2
      have hii : i - 1 + 1 = i := by omega
      have hff : f2 - 1 + 1 = f2 := by omega
      have h6 : (atN xs i).k ≠ 6 := fun e => by rw [e] at hk; simp [kids] at hk
      have h6' : ((atN xs i).k == 6) = false := by simpa using h6
      obtain ⟨us1, HU1⟩ : ∃ us1, Hid (us1 = er xs (f2 - 1 + 1)) := ⟨_, hide rfl⟩
      obtain ⟨us2, HU2⟩ : ∃ us2, Hid (us2 = er xs (i - 1 + 1)) := ⟨_, hide rfl⟩
      have hl1 : us1.length ≤ 20000 := by
        have := cnt_le xs (f2 - 1 + 1)
        rw [unhide HU1, er_len]; omega
      have hl2 : us2.length ≤ 20000 := by
        have := cnt_le xs (i - 1 + 1)
        rw [unhide HU2, er_len]; omega
      obtain ⟨nd, HND⟩ : ∃ nd : NodeR, Hid (nd = ⟨(atN xs i).k, (atN xs i).t, (us1.length : Int) - 1, (us2.length : Int) - 1⟩) := ⟨_, hide rfl⟩
      have HVS := hide (show vs = us2 ++ [nd] by
        rw [unhide hvs, er_other h6, unhide HND, unhide HU1, unhide HU2, er_len, er_len, hii, hff]
        congr 2
        unfold erN mvd
        rw [hk, ha, hbb]
        have e1 : ((i : Int) - 1).toNat + 1 = i := by omega
        have e2 : ((f2 : Int) - 1).toNat + 1 = f2 := by omega
        rw [e1, e2]
        simp)
      have HU1' := hide (show us1 = er xs f2 by rw [unhide HU1, hff])
      clear hk ha hbb h6
      go_enter Try.func72, Try.ntmps72
      go_wp2_with (go_at_call 102; refine (l3Kids_is (unhide HK) 2 rfl _).mono ?_; rintro e w' ⟨rfl, rfl⟩)
      refine ((unhide IH) (f2 - 1) f B g c us us1 _ (by omega) (by omega) (hide hf1) hus HU1 ((unhide HW).below ((below1 _ _).alloc (by simp) _) (by omega)) hb (by simp; omega) (((unhide HR).below (below1 _ _)).below (below1 _ _))).mono ?_
      rintro e w1 ⟨⟨g1, c1, rfl, hr1, hg1⟩, hk1⟩
      have hg1l := (unhide hr1).lt
      have hsz1 : w.heap.size + 2 ≤ w1.heap.size := by have := (unhide hk1).size; simp at this; omega
      have hg1' : g1 = g ∨ w.heap.size + 2 ≤ g1 := by simp at hg1; omega
      have p0 : w1.cell? ⟨w.heap.size, 0, none⟩ = some (.int .i64 (atN xs i).k) := ((unhide hk1).cell (b := w.heap.size) (by simp; omega) (by omega) 0).trans (by simp [go_sem])
      have p3 : w1.cell? ⟨w.heap.size, 3, none⟩ = some (.int .i64 ((i - 1 : Nat) : Int)) := ((unhide hk1).cell (b := w.heap.size) (by simp; omega) (by omega) 3).trans (by simp [go_sem])
      have q0 : w1.cell? ⟨w.heap.size + 1, 0, none⟩ = some (.int .i64 (atN xs i).k) := ((unhide hk1).cell (b := w.heap.size + 1) (by simp) (by omega) 0).trans (by simp [go_sem])
      have q1 : w1.cell? ⟨w.heap.size + 1, 1, none⟩ = some (.string (atN xs i).t) := ((unhide hk1).cell (b := w.heap.size + 1) (by simp) (by omega) 1).trans (by simp [go_sem])
      have q2 : w1.cell? ⟨w.heap.size + 1, 2, none⟩ = some (.int .i64 0) := ((unhide hk1).cell (b := w.heap.size + 1) (by simp) (by omega) 2).trans (by simp [go_sem])
      have q3 : w1.cell? ⟨w.heap.size + 1, 3, none⟩ = some (.int .i64 0) := ((unhide hk1).cell (b := w.heap.size + 1) (by simp) (by omega) 3).trans (by simp [go_sem])
      have r2 : w1.frozen? ⟨w.heap.size + 1, 2, none⟩ = false := ((unhide hk1).frozen (b := w.heap.size + 1) (by simp) (by omega) 2).trans (by simp [go_sem])
      have r3 : w1.frozen? ⟨w.heap.size + 1, 3, none⟩ = false := ((unhide hk1).frozen (b := w.heap.size + 1) (by simp) (by omega) 3).trans (by simp [go_sem])
      have HKA := hide ((Kept1.of_below (g := g) ((below1 w _).alloc (by simp) _)).trans (unhide hk1))
      clear hk1
      go_wp2_with (go_at_call 102; refine (l3Kids_is (unhide HK) 2 rfl _).mono ?_; rintro e w' ⟨rfl, rfl⟩)
      have HKB := hide ((unhide HKA).setRow (w.heap.size + 1) 2 (.int .i64 ((us1.length : Int) - 1)) (Or.inr (by omega)))
      refine ((unhide IH) (i - 1) f2 B g1 c1 us1 us2 _ (by omega) (by omega) (hide hf2) HU1' HU2 (fun j hj => ?_) hb (by simp [World.setCell]; omega) ((unhide hr1).set _ _ _ (by omega))).mono ?_
      · have e := (unhide HKB).cell (b := b) (by omega) (by omega)
        obtain ⟨a0, a1, a2, a3⟩ := (unhide HW) j hj
        exact ⟨(e _).trans a0, (e _).trans a1, (e _).trans a2, (e _).trans a3⟩
      rintro e w2 ⟨⟨g2, c2, rfl, hr2, hg2⟩, hk2⟩
      have hg2l := (unhide hr2).lt
      have hsz2 : w1.heap.size ≤ w2.heap.size := by have := (unhide hk2).size; simpa [World.setCell] using this
      have hg2' : g2 = g1 ∨ w1.heap.size ≤ g2 := by simpa [World.setCell] using hg2
      have sc : ∀ o, (w1.setCell ⟨w.heap.size + 1, 2, none⟩ (.int .i64 ((us1.length : Int) - 1))).heap.size = w1.heap.size ∧ (o ≠ 2 → (w1.setCell ⟨w.heap.size + 1, 2, none⟩ (.int .i64 ((us1.length : Int) - 1))).cell? ⟨w.heap.size + 1, o, none⟩ = w1.cell? ⟨w.heap.size + 1, o, none⟩) := fun o => ⟨by simp [World.setCell], fun ho => World.cell?_setCell_other _ _ _ _ (fun e => ho (by injection e with _ e; exact e.symm))⟩
      have s0 : w2.cell? ⟨w.heap.size + 1, 0, none⟩ = some (.int .i64 (atN xs i).k) := ((unhide hk2).cell (b := w.heap.size + 1) (by rw [(sc 0).1]; omega) (by omega) 0).trans (((sc 0).2 (by omega)).trans q0)
      have s1 : w2.cell? ⟨w.heap.size + 1, 1, none⟩ = some (.string (atN xs i).t) := ((unhide hk2).cell (b := w.heap.size + 1) (by rw [(sc 0).1]; omega) (by omega) 1).trans (((sc 1).2 (by omega)).trans q1)
      have s2 : w2.cell? ⟨w.heap.size + 1, 2, none⟩ = some (.int .i64 ((us1.length : Int) - 1)) := ((unhide hk2).cell (b := w.heap.size + 1) (by rw [(sc 0).1]; omega) (by omega) 2).trans (World.cell?_setCell_same _ _ _ q2)
      have s3 : w2.cell? ⟨w.heap.size + 1, 3, none⟩ = some (.int .i64 0) := ((unhide hk2).cell (b := w.heap.size + 1) (by rw [(sc 0).1]; omega) (by omega) 3).trans (((sc 3).2 (by omega)).trans q3)
      have t3 : w2.frozen? ⟨w.heap.size + 1, 3, none⟩ = false := ((unhide hk2).frozen (b := w.heap.size + 1) (by rw [(sc 0).1]; omega) (by omega) 3).trans ((World.frozen?_setCell _ _ _ _).trans r3)
      have HKC := hide ((unhide HKB).grownRow (grown_kept1 (unhide hk2)) (fun k hk => by injection hk with hk; subst hk; omega))
      clear hk2 sc p0 p3 q0 q1 q2 q3 r2 r3 HKA HKB hr1
      have ST := hide (show RowN ((w2.setCell ⟨w.heap.size + 1, 3, none⟩ (.int .i64 ((us2.length : Int) - 1))).alloc (.cells #[.int .i64 nd.k, .string nd.t, .int .i64 nd.a, .int .i64 nd.b] 115)) B g2 c2 us2 from ((unhide hr2).set _ _ _ (by omega)).below (below1 _ _))
      have NW := hide (new_newsAt (w2.setCell ⟨w.heap.size + 1, 3, none⟩ (.int .i64 ((us2.length : Int) - 1))) w2.heap.size nd (by simp [World.setCell]))
      rw [unhide HND] at ST NW
      simp only at ST NW
      go_wp2_with (at_builtin; refine wpList_append_own_at _ rfl (.tmp 52) (.tmp 54) 56 rfl B 115 i0 _ 4 40 Try.underlying56 (unhide HI) (unhide HZ).1 (unhide HZ).2.1 (unhide HZ).2.2 rfl (by decide) _ us2.length (cellsN us2) rfl (unhide ST) ⟨w2.heap.size, 0, none⟩ 1 1 (cellsN [nd]) rfl rfl (by rw [unhide HND]; exact unhide NW) (cellsN_one' _) ?b1 ?b2 ?b3 ?next)
      case b1 => unfold maxLen; omega
      case b2 => omega
      case b3 => simp; omega
      case next =>
        intro v4 w4 hown4 hgrow4 hnil4 hat4
        obtain ⟨g4, c4, rfl, hr4⟩ := RowN.snoc hown4 (by simp [hnil4]) (unhide HVS)
        have HR4 := hide hr4
        have HKp := hide ((((unhide HKC).setRow (w.heap.size + 1) 3 (.int .i64 ((us2.length : Int) - 1)) (by omega)).trans (Kept1.of_below (below1 _ _))).grownRow hgrow4 (fun k hk => by simp [Value.ownBlock] at hk; omega))
        have hgg : g4 = g ∨ w.heap.size ≤ g4 := by simp [Value.ownBlock] at hat4; omega
        clear hown4 hgrow4 hnil4 hr4 hat4
        go_wp2_with fail
        go_ret
        exact ⟨⟨g4, c4, rfl, HR4, hgg⟩, HKp⟩

set_option maxHeartbeats 4000000 in
theorem specErase_any (b off cap : Nat) (xs : List NodeR) (w : World) (hm : xs.length ≤ 1048576) (hw : OpsN w b off xs) (hs : SizedN xs) (hB : b < w.heap.size) :
    Calls Try.prog 36 #[.agg #[.slice (some ⟨b, off, none⟩) xs.length cap]] w fun e w' => (∃ (a : Option Addr) (c : Nat) (us : List NodeR) (v : Bool), e = .returned (.tuple #[.agg #[.slice a us.length c], .bool v]) ∧ Hid (OwnedN w' w.heap.size a us) ∧ Hid (EraseIs xs us v)) ∧ Below w.heap.size w w' := by
  have HW := hide hw
  have HS := hide hs
  clear hw hs
  go_enter Try.func36, Try.ntmps36
  go_wp2_with fail
  refine (l3InOrder_any b off cap xs _ hm ((unhide HW).below ((below1 _ _).alloc (by simp) _) hB) (unhide HS) (by simp; omega)).mono ?_
  rintro e w1 ⟨⟨v, rfl, hv⟩, hb1⟩
  have HV := hide hv
  have bel1 : Below w.heap.size w w1 := ((below1 _ _).alloc (by simp) _).trans (hb1.mono (by simp; omega))
  have z1 : w.heap.size + 2 ≤ w1.heap.size := by have := hb1.size; simp at this; omega
  have c0 : w1.cell? ⟨w.heap.size, 0, none⟩ = some (.slice (some ⟨b, off, none⟩) xs.length cap) := (hb1.cell (p := ⟨w.heap.size, 0, none⟩) (by simp; omega)).trans (by simp [go_sem])
  have c1 : w1.cell? ⟨w.heap.size + 1, 0, none⟩ = some (.slice none 0 0) := (hb1.cell (p := ⟨w.heap.size + 1, 0, none⟩) (by simp)).trans (by simp [go_sem])
  have d1 : w1.frozen? ⟨w.heap.size + 1, 0, none⟩ = false := (hb1.frozen (p := ⟨w.heap.size + 1, 0, none⟩) (by simp)).trans (by simp [go_sem])
  clear hv hb1
  cases v
  · go_wp2_with fail
    refine bodyPost_ret (v := .tuple #[.agg #[.slice none 0 0], .bool false]) ?res rfl ⟨⟨none, 0, [], false, rfl, hide (Or.inl ⟨rfl, rfl⟩), hide (Or.inr ⟨fun h => Bool.false_ne_true ((unhide HV).2 h), rfl, rfl⟩)⟩, ?_⟩
    case res => simp [results, Try.results36, go_sem, c1]
    exact bel1.setCell (by simp) _
  · have HO := hide ((unhide HV).1 rfl)
    have h20 := (unhide HO).2.1
    have h1 := (unhide HO).1
    have ei : (xs.length : Int) - 1 = ((xs.length - 1 : Nat) : Int) := by omega
    have hii : xs.length - 1 + 1 = xs.length := by omega
    obtain ⟨vs, HVS⟩ : ∃ vs, Hid (vs = er xs (xs.length - 1 + 1)) := ⟨_, hide rfl⟩
    have HR0 := hide (show RowN (w1.alloc (.cells #[] 115)) w1.heap.size w1.heap.size 0 [] by
      have := World.ownsRow_lit (base := w1.heap.size) (e := 115) (size := 4) w1 #[] 0 (Nat.le_refl _) (Nat.zero_le _) rfl
      simpa [RowN, cellsN] using this)
    go_wp2_with fail
    refine (l3Erased_any b off cap xs h20 xs.length (xs.length - 1) 0 w1.heap.size w1.heap.size 0 [] vs _ (by omega) (by omega) (hide (unhide HO).2.2.1) (hide rfl) HVS ((unhide HW).below (bel1.trans ((below1 _ _).mono bel1.size)) hB) (by omega) (by simp) (unhide HR0)).mono ?_
    rintro e w2 ⟨⟨g2, c2, rfl, hr2, hg2⟩, hk2⟩
    have hg2l := (unhide hr2).lt
    have z2 : w1.heap.size < w2.heap.size := by have := (unhide hk2).size; simp at this; omega
    have e1 : w2.cell? ⟨w.heap.size + 1, 0, none⟩ = some (.slice none 0 0) := ((unhide hk2).cell (b := w.heap.size + 1) (by simp; omega) (by omega) 0).trans (((below1 _ _).cell (p := ⟨w.heap.size + 1, 0, none⟩) (show w.heap.size + 1 < w1.heap.size by omega)).trans c1)
    have f1 : w2.frozen? ⟨w.heap.size + 1, 0, none⟩ = false := ((unhide hk2).frozen (b := w.heap.size + 1) (by simp; omega) (by omega) 0).trans (((below1 _ _).frozen (p := ⟨w.heap.size + 1, 0, none⟩) (show w.heap.size + 1 < w1.heap.size by omega)).trans d1)
    have bel2 : Below w.heap.size w w2 := (bel1.trans ((below1 _ _).mono bel1.size)).trans ((unhide hk2).below (by simp; omega) (by omega))
    clear c0 c1 d1 hk2 HR0
    go_wp2_with fail
    refine bodyPost_ret (v := .tuple #[.agg #[.slice (some ⟨g2, 0, none⟩) vs.length c2], .bool true]) ?res rfl ⟨⟨some ⟨g2, 0, none⟩, c2, vs, true, rfl, hide (Or.inr ⟨g2, rfl, by omega, ?_⟩), hide (Or.inl ⟨unhide HO, rfl, by rw [unhide HVS, hii]⟩)⟩, ?_⟩
    case res => simp [results, Try.results36, go_sem, e1]
    · exact (owns_filledN (unhide hr2)).2.setCell _ _ _ (by omega)
    · exact bel2.setCell (by simp) _
end Go.Proofs.Ytokabkhnidlcnab
