import Derived.Test.YtokabkhnidlcnabGreatDoorL23

/-
  Walks: names are entered, uses are known, the unit of a name (enterName, knowsUses, unitOf).
-/
namespace Go.Proofs.YtokabkhnidlcnabGreatDoor
set_option maxRecDepth 100000
set_option linter.unusedSimpArgs false
set_option linter.unusedVariables false
open Go.RowKit Go.Maps

theorem AddPost.undrew {w w' : World} {b o B : Nat} {kv : Value} {pv : Option Nat} {ks : List ByteArray} (h : AddPost w.drew b o B kv pv ks w') : AddPost w b o B kv pv ks w' := by
  obtain ⟨kv', pv', h1, h2, h3, h4⟩ := h
  exact ⟨kv', pv', h1, ⟨h2.os, h2.tape, h2.output, h2.size, h2.blk, h2.cel⟩, h3, h4⟩

/-- 'm[t]'. -/
theorem SMap.get {w : World} {b n : Nat} {G : ByteArray → Option Value} {ty e : TypeId} (h : SMap w b n G) (ht : Tryz.prog.underlying ty = some (.map 9 e)) {z : Value} (hz : (zeroValue e).run Tryz.prog w = .ok z w) {t : ByteArray} (hs : t.size ≤ maxLen) :
    (Instr.lookup ty (.map (some b)) (.string t) false).run Tryz.prog w = .ok ((G t).getD z) w := by
  obtain ⟨D, hD, h⟩ := h
  obtain ⟨v, ps, hrun, hv⟩ := hD.lookup (string_keyed Tryz.underlying9) ht hz (zd := .held z) (zp := []) rfl (keyS hs)
  have e : v = (G t).getD z := by
    cases hg : G t with
    | none =>
      rw [(h t hs).2.2 hg] at hv
      simp only [anyElem, Option.some.injEq, Prod.mk.injEq, DataW.held.injEq] at hv
      exact hv.1
    | some u =>
      rw [(h t hs).2.1 u hg] at hv
      simp only [anyElem, Option.some.injEq, Prod.mk.injEq, DataW.held.injEq] at hv
      exact hv.1
  rw [← e]
  exact hrun

set_option maxHeartbeats 1000000 in
theorem enterName_any (P C : Nat) (am : Option Addr) (cm : Nat) (ms : List ModR) (kv : Value) (pv : Option Nat) (ks : List ByteArray) (k : Nat) (w : World) (hc0 : w.cell? ⟨P, 0, none⟩ = some (.slice am ms.length cm)) (hM : ArgM w am ms) (hk : k < ms.length) (hS : SSet w P 2 C kv pv ks) (hC : C ≤ w.heap.size) (hl : ks.length ≤ 1048576) (hs' : (atM ms k).n.size ≤ maxLen) :
    Calls Tryz.prog 38 #[.pointer (some ⟨P, 0, none⟩), .int .i64 (k : Int)] w fun e w' => RetB e ((atM ms k).n ∉ ks) ∧ AddPost w P 2 C kv pv (insB ks (atM ms k).n) w' := by
  have hkI : (k : Int) < (ms.length : Int) := by omega
  rcases hM with hM | ⟨bA, off, rfl, hops, hbl⟩
  · omega
  obtain ⟨m0, m1⟩ := hops k hk
  have HX := hide (addS_any P 2 C kv pv ks (atM ms k).n w.drew (hS.below (Below.refl _ _).drew) hs' hl hC)
  clear hS hops
  go_enter Tryz.func38, Tryz.ntmps38
  go_wp2_with fail
  go_region_with (first | (go_at_call 54; (with_reducible refine (unhide HX).mono ?_); rintro e w1 ⟨⟨v, rfl, hv⟩, hpo⟩; have HV := hide hv; have HP := hide hpo.undrew; clear hv hpo))
  go_wp2_with fail
  go_ret
  exact ⟨⟨v, rfl, unhide HV⟩, unhide HP⟩

set_option maxHeartbeats 1000000 in
theorem knowsUses_any (P B C : Nat) (am : Option Addr) (cm n : Nat) (v1 : Value) (vs : List UvR) (U : List UnR) (kv : Value) (pv : Option Nat) (ks : List ByteArray) (k : Nat) (w : World) (h : PgC w B C P am cm n v1 vs U) (hk : k < n) (hS : SSet w P 2 C kv pv ks) (hs : ∀ u ∈ (atU U k).us, u.size ≤ maxLen) (hn : n ≤ 1048576) (hul : (atU U k).us.length ≤ 1048576) :
    Calls Tryz.prog 39 #[.pointer (some ⟨P, 0, none⟩), .int .i64 (k : Int)] w fun e w' => RetB e (∀ u ∈ (atU U k).us, u ∈ ks) ∧ w' = w := by
  obtain ⟨g, c, rfl, q0, q1, q2⟩ := h.at hk
  have hkv : k < vs.length := by have := h.ln; omega
  have hkI : (k : Int) < (vs.length : Int) := by omega
  have d1 := h.c1
  obtain ⟨⟨hst, _, _⟩, _, _⟩ := h.uns.2 k hkv
  obtain ⟨us, hus⟩ : ∃ us, us = (atU U k).us := ⟨_, rfl⟩
  rw [← hus] at hst hs hul ⊢
  have HST := hide hst
  have HH := hide (fun t (ht : t.size ≤ maxLen) => hasS_any P 2 C kv pv ks t w hS ht)
  have HS := hide hs
  obtain ⟨a, cc, hv, _⟩ := hst
  rw [hv] at q0 HST
  clear h hS hs hus hv
  go_enter Tryz.func39, Tryz.ntmps39
  go_wp2_with fail
  go_loop [16] (fun i => ∃ j : Nat, j ≤ us.length ∧ i = .int .i64 (j : Int) ∧ Hid (∀ q u, q < j → us[q]? = some u → u ∈ ks)) (fun i => us.length - (intOf i).toNat)
  case atStart => exact ⟨0, Nat.zero_le _, rfl, hide (fun q u h => by omega)⟩
  case round =>
    obtain ⟨j, hj, rfl, HJ⟩ := hrel
    by_cases hlt : j < us.length
    · have hltI : (j : Int) < (us.length : Int) := by omega
      obtain ⟨p, hp⟩ : ∃ p, us[j]? = some p := ⟨_, List.getElem?_eq_getElem hlt⟩
      obtain ⟨g', c', hge, hgl, hgc⟩ := (unhide HST).lt (by omega)
      obtain ⟨rfl, rfl⟩ : a = some ⟨g', 0, none⟩ ∧ cc = c' := by injection hge with x _ y; exact ⟨x, y⟩
      have hc := hgc j p hp
      have HX := hide ((unhide HH) p ((unhide HS) p (List.mem_of_getElem? hp)))
      by_cases hin : p ∈ ks
      · have HN := hide (show ∀ q u, q < j + 1 → us[q]? = some u → u ∈ ks from fun q u hq hu => by
          by_cases e : q = j
          · subst e; rw [hp] at hu; injection hu with hu; rw [← hu]; exact hin
          · exact (unhide HJ) q u (by omega) hu)
        have HIN := hide hin
        clear hge hp hgc hin
        go_wp2_with (first | (go_at_call 55; (with_reducible refine (unhide HX).mono ?_); rintro e w1 ⟨⟨v, rfl, hv⟩, hx⟩; obtain rfl := hx.symm; obtain rfl : v = true := hv.2 (unhide HIN); clear hv hx))
        exact ⟨⟨j + 1, by omega, by go_num, HN⟩, by simp [intOf]; omega⟩
      · have HNO := hide (show ¬ ∀ u ∈ us, u ∈ ks from fun h => hin (h p (List.mem_of_getElem? hp)))
        have HIN := hide hin
        clear hge hp hgc hin
        go_wp2_with (first | (go_at_call 55; (with_reducible refine (unhide HX).mono ?_); rintro e w1 ⟨⟨v, rfl, hv⟩, hx⟩; obtain rfl := hx.symm; obtain rfl : v = false := (by cases v; rfl; exact absurd (hv.1 rfl) (unhide HIN)); clear hv hx))
        go_ret
        exact ⟨⟨false, rfl, says_false (unhide HNO)⟩, rfl⟩
    · have HALL := hide (show ∀ u ∈ us, u ∈ ks from fun u hu => by
        obtain ⟨q, hq, e⟩ := List.getElem_of_mem hu
        exact (unhide HJ) q u (by omega) (by rw [List.getElem?_eq_getElem hq, e]))
      go_wp2
      go_ret
      exact ⟨⟨true, rfl, says_true (unhide HALL)⟩, rfl⟩

set_option maxHeartbeats 1000000 in
theorem unitOf_any (P B C : Nat) (am : Option Addr) (cm n : Nat) (v1 : Value) (vs : List UvR) (U : List UnR) (kv : Value) (pv : Option Nat) (ks : List ByteArray) (t : ByteArray) (k : Nat) (w : World) (h : PgC w B C P am cm n v1 vs U) (hk : k < n) (hS : SSet w P 2 C kv pv ks) (ht : t.size ≤ maxLen) (hi : idxB ks t = some k) :
    Calls Tryz.prog 42 #[.pointer (some ⟨P, 0, none⟩), .string t] w fun e w' => e = .returned (.agg #[(atV vs k).vu, (atV vs k).vo, .string (atV vs k).b]) ∧ Below w.heap.size w w' := by
  obtain ⟨g, c, rfl, q0, q1, q2⟩ := h.at hk
  have hkv : k < vs.length := by have := h.ln; omega
  have hkI : (k : Int) < (vs.length : Int) := by omega
  have d1 := h.c1
  have s1 := hS.c1
  have hPl := h.lt
  obtain ⟨bm, rfl, hbm, hm⟩ : ∃ bm, pv = some bm ∧ C ≤ bm ∧ SMap w bm ks.length (gSS ks) := by
    rcases hS.mp with ⟨_, e⟩ | h
    · rw [e] at hi; cases hi
    · exact h
  obtain ⟨W, hW⟩ : ∃ W, W = w.alloc (.cells #[.slice none 0 0, .slice none 0 0, .string ⟨#[]⟩] 40) := ⟨_, rfl⟩
  have hb : Below w.heap.size w W := by rw [hW]; exact below1 _ _
  have hrun := ((hm.kept (grown_belN hb none) (by simp)).kept (grown_belN (show Below W.heap.size W W.drew from (Below.refl _ _).drew) none) (by simp)).get (ty := 78) Tryz.underlying78 (zeroI W.drew) ht
  rw [show gSS ks t = some (.int .i64 (k : Int)) by unfold gSS; rw [hi]; rfl] at hrun
  have hrun' : (Instr.lookup 78 (.map (some bm)) (.string t) false).run Tryz.prog W.drew = .ok (.int .i64 (k : Int)) W.drew := hrun
  have hgl : g < w.heap.size := World.block_lt_of_cell? _ _ q0
  have e1 := (hb.cell (p := ⟨P, 1, none⟩) hPl).trans d1
  have e3 := (hb.cell (p := ⟨P, 2 + 1, none⟩) hPl).trans s1
  have x0 := (hb.cell (p := ⟨g, k * 3, none⟩) hgl).trans q0
  have x1 := (hb.cell (p := ⟨g, k * 3 + 1, none⟩) hgl).trans q1
  have x2 := (hb.cell (p := ⟨g, k * 3 + 2, none⟩) hgl).trans q2
  obtain ⟨⟨⟨a, c', hvu, _⟩, ⟨a2, c2, hvo, _⟩, hbb⟩, _, _⟩ := h.uns.2 k hkv
  clear hbb
  rw [hvu] at x0 ⊢
  rw [hvo] at x1 ⊢
  have z0 : W.cell? ⟨w.heap.size, 0, none⟩ = some (.slice none 0 0) := by rw [hW]; simp [go_sem]
  have z1 : W.cell? ⟨w.heap.size, 1, none⟩ = some (.slice none 0 0) := by rw [hW]; simp [go_sem]
  have z2 : W.cell? ⟨w.heap.size, 2, none⟩ = some (.string ⟨#[]⟩) := by rw [hW]; simp [go_sem]
  have zf0 : W.frozen? ⟨w.heap.size, 0, none⟩ = false := by rw [hW]; simp [go_sem]
  have zf1 : W.frozen? ⟨w.heap.size, 1, none⟩ = false := by rw [hW]; simp [go_sem]
  have zf2 : W.frozen? ⟨w.heap.size, 2, none⟩ = false := by rw [hW]; simp [go_sem]
  have HB := hide hb
  have HW := hide hW
  clear hW hb hrun hm hS h q0 q1 q2 hvu hvo
  go_enter Tryz.func42, Tryz.ntmps42
  go_wp2_with fail
  rw [← unhide HW]
  go_region
  go_wp2_with fail
  refine bodyPost_ret (v := .agg #[.slice a (atU U k).us.length c', .slice a2 (atU U k).os.length c2, .string (atV vs k).b]) ?res rfl ?_
  case res => simp [results, Tryz.results42, go_sem, z0, z1, z2]
  exact ⟨rfl, ((((unhide HB).setCell (p := ⟨w.heap.size, 0, none⟩) (Nat.le_refl _) _).setCell (p := ⟨w.heap.size, 1, none⟩) (Nat.le_refl _) _).setCell (p := ⟨w.heap.size, 2, none⟩) (Nat.le_refl _) _).drew⟩
end Go.Proofs.YtokabkhnidlcnabGreatDoor

/-
  Walk: a module keeps off itself (keepsOffItself).
-/
namespace Go.Proofs.YtokabkhnidlcnabGreatDoor
set_option maxRecDepth 100000
set_option linter.unusedSimpArgs false
set_option linter.unusedVariables false
open Go.RowKit Go.Maps

/-- The names of the modules, each once. -/
structure NmsOk (ms : List ModR) (ks : List ByteArray) : Prop where
  ln : ks.length = ms.length
  at' : ∀ i, i < ms.length → ks[i]? = some (atM ms i).n
  nd : ks.Nodup
  sz : ∀ x ∈ ks, x.size ≤ maxLen

theorem idxB_nd {ks : List ByteArray} (h : ks.Nodup) : ∀ {i : Nat} {t : ByteArray}, ks[i]? = some t → idxB ks t = some i := by
  induction ks with
  | nil => intro i t h; simp at h
  | cons x r ih =>
    intro i t hi
    rw [List.nodup_cons] at h
    cases i with
    | zero =>
      simp at hi
      unfold idxB
      rw [if_pos hi]
    | succ i =>
      have hi' : r[i]? = some t := by simpa using hi
      have hx : x ≠ t := fun e => h.1 (by rw [e]; exact List.mem_of_getElem? hi')
      unfold idxB
      rw [if_neg hx, ih h.2 hi']
      rfl

theorem NmsOk.idx {ms : List ModR} {ks : List ByteArray} (h : NmsOk ms ks) {i : Nat} (hi : i < ms.length) : idxB ks (atM ms i).n = some i := idxB_nd h.nd (h.at' i hi)

theorem NmsOk.mem {ms : List ModR} {ks : List ByteArray} (h : NmsOk ms ks) {u : ByteArray} (hu : u ∈ ks) : ∃ i, i < ms.length ∧ (atM ms i).n = u := by
  obtain ⟨i, hi, e⟩ := List.getElem_of_mem hu
  have hl := h.ln
  have := h.at' i (by omega)
  rw [List.getElem?_eq_getElem hi, e] at this
  injection this with this
  exact ⟨i, by omega, this.symm⟩

theorem NmsOk.inj {ms : List ModR} {ks : List ByteArray} (h : NmsOk ms ks) {i j : Nat} (hi : i < ms.length) (hj : j < ms.length) (e : (atM ms i).n = (atM ms j).n) : i = j := by
  have h1 := h.idx hi
  rw [e, h.idx hj] at h1
  injection h1 with h1
  exact h1.symm

/-- What is known of the names that were reached. -/
structure Rch (ms : List ModR) (U : List UnR) (k : Nat) (rs : List ByteArray) (j : Nat) : Prop where
  nd : rs.Nodup
  reach : ∀ u ∈ rs, ∃ i, i < ms.length ∧ (atM ms i).n = u ∧ TC (Edg ms U) k i
  first : ∀ u ∈ (atU U k).us, u ∈ rs
  done : ∀ q u i, q < j → rs[q]? = some u → i < ms.length → (atM ms i).n = u → ∀ x ∈ (atU U i).us, x ∈ rs

theorem Rch.start {ms : List ModR} {U : List UnR} {k : Nat} {ks : List ByteArray} (hN : NmsOk ms ks) (hk : k < ms.length) (hu : ∀ i, i < ms.length → ∀ u ∈ (atU U i).us, u ∈ ks) : Rch ms U k ((atU U k).us.foldl insB []) 0 :=
  ⟨nd_insBs _ _ (by simp), fun u h => by
    rcases (mem_insBs _ _).1 h with h | h
    · cases h
    · obtain ⟨i, hi, e⟩ := hN.mem (hu k hk u h)
      exact ⟨i, hi, e, TC.one ⟨hk, hi, by rw [e]; exact h⟩⟩, fun u h => (mem_insBs _ _).2 (Or.inr h), fun q u i hq => by omega⟩

theorem Rch.step {ms : List ModR} {U : List UnR} {k : Nat} {ks rs : List ByteArray} {j i : Nat} (hN : NmsOk ms ks) (hu : ∀ i, i < ms.length → ∀ u ∈ (atU U i).us, u ∈ ks) (h : Rch ms U k rs j) (hi : i < ms.length) (hj : rs[j]? = some (atM ms i).n) : Rch ms U k ((atU U i).us.foldl insB rs) (j + 1) := by
  have hjl : j < rs.length := (List.getElem?_eq_some_iff.1 hj).1
  have hpre : ∀ q x, q < rs.length → ((atU U i).us.foldl insB rs)[q]? = some x → rs[q]? = some x := by
    have : ∀ (l acc : List ByteArray) q x, q < acc.length → (l.foldl insB acc)[q]? = some x → acc[q]? = some x := by
      intro l
      induction l with
      | nil => intro acc q x _ h; exact h
      | cons a r ih =>
        intro acc q x hq h
        have hle : acc.length ≤ (insB acc a).length := by
          by_cases e : a ∈ acc
          · rw [insB_yes e]; exact Nat.le_refl _
          · rw [insB_no e]; simp
        have h1 := ih (insB acc a) q x (by omega) h
        by_cases e : a ∈ acc
        · rw [insB_yes e] at h1; exact h1
        · rw [insB_no e, List.getElem?_append_left hq] at h1; exact h1
    exact this _ _
  obtain ⟨i0, hi0, e0, ht⟩ := h.reach _ (List.mem_of_getElem? hj)
  have e1 := hN.inj hi0 hi e0
  subst e1
  refine ⟨nd_insBs _ _ h.nd, fun u hm => ?_, fun u hm => (mem_insBs _ _).2 (Or.inl (h.first u hm)), fun q u i' hq hx hi' e x hxm => ?_⟩
  · rcases (mem_insBs _ _).1 hm with hm | hm
    · exact h.reach u hm
    · obtain ⟨m, hm1, e⟩ := hN.mem (hu _ hi u hm)
      exact ⟨m, hm1, e, ht.trans (TC.one ⟨hi, hm1, by rw [e]; exact hm⟩)⟩
  · have hx' := hpre q u (by omega) hx
    by_cases e2 : q = j
    · subst e2
      rw [hj] at hx'
      injection hx' with hx'
      have := hN.inj hi hi' (hx'.trans e.symm)
      subst this
      exact (mem_insBs _ _).2 (Or.inr hxm)
    · exact (mem_insBs _ _).2 (Or.inl (h.done q u i' (by omega) hx' hi' e x hxm))

theorem Rch.len {ms : List ModR} {U : List UnR} {k : Nat} {ks rs : List ByteArray} {j : Nat} (hN : NmsOk ms ks) (h : Rch ms U k rs j) : rs.length ≤ ms.length := by
  rw [← hN.ln]
  exact ndu_len rs ks h.nd (fun u hu => by
    obtain ⟨i, hi, e, _⟩ := h.reach u hu
    rw [← e]
    exact List.mem_of_getElem? (hN.at' i hi))

theorem Rch.fin {ms : List ModR} {U : List UnR} {k : Nat} {ks rs : List ByteArray} {j : Nat} (hN : NmsOk ms ks) (h : Rch ms U k rs j) (hj : rs.length ≤ j) (hk : k < ms.length) : (atM ms k).n ∈ rs ↔ TC (Edg ms U) k k := by
  constructor
  · intro hm
    obtain ⟨i, hi, e, ht⟩ := h.reach _ hm
    have := hN.inj hi hk e
    subst this
    exact ht
  · rintro ⟨q, hp⟩
    refine TC.closed (P := fun i => (atM ms i).n ∈ rs) (fun a b ha hab => ?_) hp (fun m hm => h.first _ hm.2.2)
    obtain ⟨q, hq, e⟩ := List.getElem_of_mem ha
    exact h.done q _ a (by omega) (by rw [List.getElem?_eq_getElem hq, e]) hab.1 rfl _ hab.2.2

theorem field_uses (x y z : Value) (w : World) : (Instr.field 40 (.agg #[x, y, z]) 0).run Tryz.prog w = .ok x w := by kernel_rfl

theorem insB_len (acc : List ByteArray) (u : ByteArray) : acc.length ≤ (insB acc u).length := by
  by_cases e : u ∈ acc
  · rw [insB_yes e]; exact Nat.le_refl _
  · rw [insB_no e]; simp
theorem insBs_ge : ∀ (us acc : List ByteArray), acc.length ≤ (us.foldl insB acc).length
  | [], acc => Nat.le_refl _
  | u :: r, acc => Nat.le_trans (insB_len acc u) (insBs_ge r (insB acc u))
theorem rch_len_le (rs us : List ByteArray) {j : Nat} (h : j + 1 ≤ rs.length) : j + 1 ≤ (us.foldl insB rs).length := Nat.le_trans h (insBs_ge us rs)

set_option maxHeartbeats 4000000 in
theorem keepsOff_any (P B C : Nat) (am : Option Addr) (cm : Nat) (ms : List ModR) (v1 : Value) (vs : List UvR) (U : List UnR) (kv : Value) (pv : Option Nat) (ks : List ByteArray) (k : Nat) (w : World) (h : PgC w B C P am cm ms.length v1 vs U) (hM : ArgM w am ms) (hk : k < ms.length) (hS : SSet w P 2 C kv pv ks) (hC : C ≤ w.heap.size) (hn : ms.length ≤ 100) (hN : NmsOk ms ks) (hu : ∀ i, i < ms.length → ∀ u ∈ (atU U i).us, u ∈ ks) (hul : ∀ i, i < ms.length → (atU U i).us.length ≤ 20001) :
    Calls Tryz.prog 40 #[.pointer (some ⟨P, 0, none⟩), .int .i64 (k : Int)] w fun e w' => RetB e (¬ TC (Edg ms U) k k) ∧ Below w.heap.size w w' := by
  obtain ⟨g, c, rfl, q0, q1, q2⟩ := h.at hk
  have hkv : k < vs.length := by have := h.ln; omega
  have hkI : (k : Int) < (vs.length : Int) := by omega
  have hPl := h.lt
  have d0 := h.c0
  have d1 := h.c1
  have hgl : g < w.heap.size := World.block_lt_of_cell? _ _ q0
  have hkm : (k : Int) < (ms.length : Int) := by omega
  obtain ⟨⟨hst, _, hbb⟩, hvl, _⟩ := h.uns.2 k hkv
  obtain ⟨au, cu, hvu, _⟩ := id hst
  have HX0 := hide (show Calls Tryz.prog 56 #[.pointer (some ⟨w.heap.size, 0, none⟩), (atV vs k).vu] (w.alloc (.cells #[.slice none 0 0, .map none] 80)) fun e w' => e = .returned (.tuple #[]) ∧ AddPost (w.alloc (.cells #[.slice none 0 0, .map none] 80)) w.heap.size 0 w.heap.size (.slice none 0 0) none ((atU U k).us.foldl insB []) w' from
    addAllS_any w.heap.size 0 w.heap.size _ none [] (atV vs k).vu (atU U k).us _ (SSet.new w _ _) (fun x hx => hN.sz x (hu k hk x hx)) (by have := hul k hk; simp; omega) (by simp) (hst.below (below1 _ _)) (fun g e => ⟨by have := hvl g e; omega, by simp [Value.ownBlock], by simp⟩))
  rw [hvu] at HX0 q0
  have HR0 := hide (Rch.start hN hk hu)
  have HN := hide hN
  have HU := hide hu
  have HUL := hide hul
  have HM := hide hM
  have HPG := hide h
  have HSS := hide hS
  clear h hM hS hN hu hul hst hvl hbb hvu q1 q2
  go_enter Tryz.func40, Tryz.ntmps40
  go_wp2_with (first | (go_at_call 56; (with_reducible refine (unhide HX0).mono ?_); rintro e w1 ⟨rfl, kv0, pv0, hs1, he1, hk1, hp1⟩; have HS1 := hide hs1; have hb1 : Below w.heap.size w w1 := ((below1 _ _).trans (he1.below (B := w.heap.size) (by simp) (Nat.le_refl _) (fun g e => by simp [Value.ownBlock] at e) (fun g e => by simp at e))); clear hs1 he1 hk1 hp1 HX0))
  go_loopw [6] (fun i wr => ∃ (j : Nat) (rs : List ByteArray) (kv' : Value) (pv' : Option Nat), i = .int .i64 (j : Int) ∧ j ≤ rs.length ∧ Hid (SSet wr w.heap.size 0 w.heap.size kv' pv' rs) ∧ Hid (Rch ms U k rs j) ∧ Below w.heap.size w wr) (fun i _ => ms.length - (intOf i).toNat)
  case atStart => exact ⟨0, _, _, _, rfl, Nat.zero_le _, HS1, HR0, hb1⟩
  case round =>
    clear HS1 HR0 hb1
    obtain ⟨j, rs, kv', pv', rfl, hj, HSR, HRR, hbel⟩ := hrel
    obtain ⟨ar, cr, rfl⟩ : ∃ a c, kv' = .slice a rs.length c := rowS_slice (unhide HSR).row
    have r0 := (unhide HSR).c0
    have hzr := hbel.size
    have hrl := (unhide HRR).len (unhide HN)
    by_cases hlt : j < rs.length
    · have hltI : (j : Int) < (rs.length : Int) := by omega
      obtain ⟨p, hp⟩ : ∃ p, rs[j]? = some p := ⟨_, List.getElem?_eq_getElem hlt⟩
      obtain ⟨i, hi, hpi, _⟩ := (unhide HRR).reach p (List.mem_of_getElem? hp)
      obtain ⟨gk, ck, hge, hgk, hgc⟩ := (unhide HSR).row.strs.lt (by omega)
      obtain ⟨rfl, rfl⟩ : ar = some ⟨gk, 0, none⟩ ∧ cr = ck := by injection hge with x _ y; exact ⟨x, y⟩
      have hc := hgc j p hp
      have hPw := (unhide HPG).below hC hbel
      have hSw := (unhide HSS).below hbel
      have hiv : i < vs.length := by have := hPw.ln; omega
      have HU1 := hide (unitOf_any P B C am cm ms.length _ vs U kv pv ks p i wr hPw hi hSw ((unhide HN).sz p (by rw [← hpi]; exact List.mem_of_getElem? ((unhide HN).at' i hi))) (by rw [← hpi]; exact (unhide HN).idx hi))
      obtain ⟨⟨hst, hot, hbb⟩, hvl, _⟩ := hPw.uns.2 i hiv
      clear hbb
      have HSTEP := hide ((unhide HRR).step (unhide HN) (unhide HU) hi (by rw [hp, hpi]))
      have HADD := hide (fun (w1 : World) (hb : Below wr.heap.size wr w1) => addAllS_any w.heap.size 0 w.heap.size _ pv' rs (atV vs i).vu (atU U i).us w1 ((unhide HSR).below hb) (fun x hx => (unhide HN).sz x ((unhide HU) i hi x hx)) (by have := (unhide HUL) i hi; omega) (by have := hb.size; omega) (hst.below hb) (fun g e => ⟨by have := hvl g e; omega, fun e2 => by have := hvl g e; have := ((unhide HSR).row.lt g e2).1; omega, fun e2 => by have := hvl g e; have := ((unhide HSR).plt g e2).1; omega⟩))
      obtain ⟨a5, c5, hvu, _⟩ := hst
      obtain ⟨a6, c6, hvo, _⟩ := hot
      rw [hvu] at HU1 HADD
      rw [hvo] at HU1
      have HLO := hide (And.intro (fun g e => ((unhide HSR).row.lt g e).1) (fun g e => ((unhide HSR).plt g e).1))
      clear hge hp hpi hgc hPw hSw hvl hvu hvo
      go_wp2_with (first | (go_at_call 42; (with_reducible refine (unhide HU1).mono ?_); rintro e w2 ⟨rfl, hb2⟩; have HB2 := hide hb2; have HA2 := hide ((unhide HADD) w2 hb2); clear hb2 HU1 HADD))
      rw [field_uses]
      go_wp2_with (first | (go_at_call 56; (with_reducible refine (unhide HA2).mono ?_); rintro e w3 ⟨rfl, kv3, pv3, hs3, he3, hk3, hp3⟩; have HS3 := hide hs3; have hb3 : Below w.heap.size w w3 := ((hbel.trans ((unhide HB2).mono (by omega))).trans (he3.below (B := w.heap.size) (by have := (unhide HB2).size; omega) (Nat.le_refl _) (unhide HLO).1 (unhide HLO).2)); clear hs3 he3 hk3 hp3 HA2))
      exact ⟨⟨j + 1, _, _, _, by go_num, by have := (unhide HSTEP).nd; exact rch_len_le rs _ (by omega), HS3, HSTEP, hb3⟩, by simp [intOf]; omega⟩
    · have HFIN := hide ((unhide HRR).fin (unhide HN) (by omega) hk)
      have hltI : ¬ (j : Int) < (rs.length : Int) := by omega
      have HHAS := hide (hasS_any w.heap.size 0 w.heap.size _ pv' rs (atM ms k).n wr (unhide HSR) ((unhide HN).sz _ (List.mem_of_getElem? ((unhide HN).at' k hk))))
      obtain ⟨bA, off, rfl, hops, hbl⟩ : ∃ b off, am = some ⟨b, off, none⟩ ∧ OpsM w b off ms ∧ b < w.heap.size := by
        rcases unhide HM with h | h
        · omega
        · exact h
      obtain ⟨m0, m1⟩ := hops k hk
      have e0 := (hbel.cell (p := ⟨bA, off + k * 2, none⟩) hbl).trans m0
      have f0 := (hbel.cell (p := ⟨P, 0, none⟩) hPl).trans d0
      clear m0 m1 hops
      go_wp2_with (first | (go_at_call 55; (with_reducible refine (unhide HHAS).mono ?_); rintro e w2 ⟨⟨v, rfl, hv⟩, hx⟩; obtain rfl := hx.symm; have HV := hide hv; clear hv hx))
      go_ret
      refine ⟨⟨!v, rfl, ?_⟩, hbel⟩
      have hv := unhide HV
      have hf := unhide HFIN
      unfold Says at hv ⊢
      cases v <;> simp_all
end Go.Proofs.YtokabkhnidlcnabGreatDoor

/-
  The scopes that the program keeps: mathematics and memory.
-/
namespace Go.Proofs.YtokabkhnidlcnabGreatDoor
set_option maxRecDepth 100000
set_option linter.unusedSimpArgs false
set_option linter.unusedVariables false
open Go.RowKit Go.Maps

theorem scBr_congr {nm : ByteArray → Nat} {T T' : Nat → List OpR} : ∀ (us : List ByteArray) (acc : List OpR), (∀ u ∈ us, T (nm u) = T' (nm u)) → scBr nm T acc us = scBr nm T' acc us
  | [], _, _ => rfl
  | u :: r, acc, h => by
    simp only [scBr]
    rw [h u (by simp), scBr_congr r _ (fun x hx => h x (by simp [hx]))]

theorem scBr_mem {nm : ByteArray → Nat} {T : Nat → List OpR} {x : OpR} : ∀ (us : List ByteArray) (acc : List OpR), x ∈ scBr nm T acc us → x ∈ acc ∨ ∃ u ∈ us, x ∈ T (nm u)
  | [], _, h => Or.inl h
  | u :: r, acc, h => by
    simp only [scBr] at h
    split at h
    · exact Or.inl h
    · rcases scBr_mem r _ h with h | ⟨u', h1, h2⟩
      · rcases (mem_insAll _ _).1 h with h | h
        · exact Or.inl h
        · exact Or.inr ⟨u, by simp, h⟩
      · exact Or.inr ⟨u', by simp [h1], h2⟩

/-- The scopes as the program fills them. -/
def BrE (n : Nat) (nm : ByteArray → Nat) (U : List UnR) (T : Nat → List OpR) : Prop := ∀ i, i < n → T i = scBr nm T (insAll [] (atU U i).os) (atU U i).us

/-- Uses have lesser ranks. -/
def RkE (n : Nat) (nm : ByteArray → Nat) (U : List UnR) (rk : Nat → Nat) : Prop := (∀ i, i < n → ∀ u ∈ (atU U i).us, nm u < n ∧ rk (nm u) < rk i) ∧ ∀ i, i < n → rk i < n

def brN (nm : ByteArray → Nat) (U : List UnR) : Nat → Nat → List OpR
  | 0, _ => []
  | r + 1, i => scBr nm (brN nm U r) (insAll [] (atU U i).os) (atU U i).us

theorem brN_step {n : Nat} {nm : ByteArray → Nat} {U : List UnR} {rk : Nat → Nat} (h : RkE n nm U rk) : ∀ r i, i < n → rk i < r → brN nm U r i = brN nm U (r + 1) i
  | 0, i, _, hr => by omega
  | r + 1, i, hi, hr => by
    show scBr nm (brN nm U r) _ _ = scBr nm (brN nm U (r + 1)) _ _
    refine scBr_congr _ _ (fun u hu => ?_)
    obtain ⟨h1, h2⟩ := h.1 i hi u hu
    exact brN_step h r (nm u) h1 (by omega)

theorem br_ex {n : Nat} {nm : ByteArray → Nat} {U : List UnR} {rk : Nat → Nat} (h : RkE n nm U rk) : ∃ T, BrE n nm U T :=
  ⟨brN nm U n, fun i hi => brN_step h n i hi (h.2 i hi)⟩

theorem BrE.nd {n : Nat} {nm : ByteArray → Nat} {U : List UnR} {T : Nat → List OpR} (h : BrE n nm U T) {i : Nat} (hi : i < n) : (T i).Nodup := by
  rw [h i hi]
  exact scBr_nd _ _ _ _ (nd_insAll _ _ (by simp))

theorem BrE.sub {n : Nat} {nm : ByteArray → Nat} {U : List UnR} {T : Nat → List OpR} {rk : Nat → Nat} (h : BrE n nm U T) (hr : RkE n nm U rk) (hU : n ≤ U.length) : ∀ r i, i < n → rk i < r → ∀ o ∈ T i, o ∈ allOps U
  | 0, i, _, hr' => by omega
  | r + 1, i, hi, hr' => fun o ho => by
    rw [h i hi] at ho
    rcases scBr_mem _ _ ho with ho | ⟨u, hu, ho⟩
    · rcases (mem_insAll _ _).1 ho with ho | ho
      · cases ho
      · exact List.mem_flatMap.2 ⟨_, atU_mem (by omega), ho⟩
    · obtain ⟨h1, h2⟩ := hr.1 i hi u hu
      exact BrE.sub h hr hU r (nm u) h1 (by omega) o ho

/-- The same, or both too much. -/
theorem BrE.near {n : Nat} {nm : ByteArray → Nat} {U U' : List UnR} {S T : Nat → List OpR} {rk : Nat → Nat} (h : BrE n nm U' T) (hr : RkE n nm U' rk) (hS : ∀ i, i < n → S i = scAcc nm S (insAll [] (atU U i).os) (atU U i).us) (hU : ∀ i, i < n → (atU U' i).os = (atU U i).os ∧ (atU U' i).us = dst (atU U i).us) : ∀ r i, i < n → rk i < r → Near (S i) (T i)
  | 0, i, _, hr' => by omega
  | r + 1, i, hi, hr' => by
    have e1 : S i = scAcc nm S (insAll [] (atU U' i).os) (atU U' i).us := by
      rw [(hU i hi).1, (hU i hi).2, scAcc_dst']
      exact hS i hi
    rw [e1, h i hi]
    refine near_step _ _ _ (fun u hu => ?_) ⟨fun _ => rfl, fun x => x⟩
    obtain ⟨h1, h2⟩ := hr.1 i hi u hu
    refine ⟨BrE.near h hr hS hU r (nm u) h1 (by omega), ?_, h.nd h1⟩
    rw [hS _ h1]
    exact scAcc_nd _ _ _ _ (nd_insAll _ _ (by simp))

/-- The scopes that are kept. -/
structure ScM (w : World) (C bs : Nat) (ms : List ModR) (T : Nat → List OpR) (G : ByteArray → Option Value) : Prop where
  mp : ∃ (m : Nat) (M : List Nat), SMap w bs m G ∧ m ≤ M.length ∧ M.Nodup ∧ ∀ j ∈ M, j < ms.length ∧ (G (atM ms j).n).isSome = true
  at' : ∀ j, j < ms.length → ∀ x, G (atM ms j).n = some x → ∃ v, x = .agg #[v] ∧ RowO w C v (T j) ∧ ∀ g, v.ownBlock = some g → C ≤ g ∧ g < w.heap.size
  apt : ∀ i j, i < ms.length → j < ms.length → i ≠ j → ∀ v v', G (atM ms i).n = some (.agg #[v]) → G (atM ms j).n = some (.agg #[v']) → ∀ g, v.ownBlock = some g → v'.ownBlock ≠ some g

theorem SMap.same {w w' : World} {b n : Nat} {G : ByteArray → Option Value} (h : SMap w b n G) (hs : w'.heap[b]? = w.heap[b]?) : SMap w' b n G := by
  obtain ⟨D, ⟨es, clock, hb, F, h1, h2⟩, h⟩ := h
  exact ⟨D, ⟨es, clock, hs.trans hb, F, h1, h2⟩, h⟩

/-- No kept row is of the set at b. -/
def Dj (ms : List ModR) (G : ByteArray → Option Value) (b : Nat) (kv : Value) (pv : Option Nat) : Prop := ∀ j, j < ms.length → ∀ v, G (atM ms j).n = some (.agg #[v]) → Apt v b kv pv

theorem ScM.eff {w w' : World} {C bs b o : Nat} {ms : List ModR} {T : Nat → List OpR} {G : ByteArray → Option Value} {kv : Value} {pv : Option Nat} (h : ScM w C bs ms T G) (hd : Dj ms G b kv pv) (he : Eff w w' b o kv pv) (hbs : bs < w.heap.size) (h1 : bs ≠ b) (h2 : kv.ownBlock ≠ some bs) (h3 : pv ≠ some bs) : ScM w' C bs ms T G := by
  refine ⟨?_, fun j hj x hx => ?_, h.apt⟩
  · obtain ⟨m, M, hm, hM⟩ := h.mp
    exact ⟨m, M, hm.same (he.blk bs hbs h1 h2 h3), hM⟩
  · obtain ⟨v, rfl, hv, hb⟩ := h.at' j hj x hx
    have ha := hd j hj v hx
    have hz := he.size
    exact ⟨v, rfl, row_same hv (fun g e => he.blk g (hb g e).2 (ha g e).1 (ha g e).2.1 (ha g e).2.2), fun g e => ⟨(hb g e).1, by have := (hb g e).2; omega⟩⟩

theorem ScM.below {w w' : World} {C bs : Nat} {ms : List ModR} {T : Nat → List OpR} {G : ByteArray → Option Value} (h : ScM w C bs ms T G) (hb : Below w.heap.size w w') : ScM w' C bs ms T G := by
  refine ⟨?_, fun j hj x hx => ?_, h.apt⟩
  · obtain ⟨m, M, hm, hM⟩ := h.mp
    exact ⟨m, M, hm.same (hb.block bs hm.lt), hM⟩
  · obtain ⟨v, rfl, hv, hg⟩ := h.at' j hj x hx
    exact ⟨v, rfl, hv.below hb, fun g e => ⟨(hg g e).1, by have := (hg g e).2; have := hb.size; omega⟩⟩

theorem ScM.lt {w : World} {C bs : Nat} {ms : List ModR} {T : Nat → List OpR} {G : ByteArray → Option Value} (h : ScM w C bs ms T G) : bs < w.heap.size := by
  obtain ⟨m, M, hm, _⟩ := h.mp
  exact hm.lt

theorem ScM.cnt {w : World} {C bs : Nat} {ms : List ModR} {T : Nat → List OpR} {G : ByteArray → Option Value} (h : ScM w C bs ms T G) : ∃ m, SMap w bs m G ∧ m ≤ ms.length := by
  obtain ⟨m, M, hm, h1, h2, h3⟩ := h.mp
  have := ndu_len M (List.range ms.length) h2 (fun j hj => List.mem_range.2 (h3 j hj).1)
  rw [List.length_range] at this
  exact ⟨m, hm, by omega⟩

/-- One scope more is kept. -/
theorem ScM.put {w w3 : World} {C bs i : Nat} {ms : List ModR} {ks : List ByteArray} {T : Nat → List OpR} {G : ByteArray → Option Value} {v : Value} (hN : NmsOk ms ks) (h : ScM w C bs ms T G) (hi : i < ms.length) (hg : G (atM ms i).n = none) (hC : bs < C) (hv : RowO w C v (T i)) (hd : ∀ j, j < ms.length → ∀ v', G (atM ms j).n = some (.agg #[v']) → ∀ g, v.ownBlock = some g → v'.ownBlock ≠ some g) (hvb : ∀ g, v.ownBlock = some g → C ≤ g ∧ g < w.heap.size) (hk : Kept1 w w3 bs)
    (hm : ∀ m, SMap w bs m G → m ≤ ms.length → SMap w3 bs (m + 1) (fun t' => if t'.data = (atM ms i).n.data then some (.agg #[v]) else G t')) :
    ScM w3 C bs ms T (fun t' => if t'.data = (atM ms i).n.data then some (.agg #[v]) else G t') := by
  have dat : ∀ {a b : ByteArray}, a.data = b.data → a = b := fun {a b} e => by cases a; cases b; simp at e; rw [e]
  have hz := hk.size
  have same : ∀ g, C ≤ g ∧ g < w.heap.size → w3.heap[g]? = w.heap[g]? := fun g hg => hk.block g hg.2 (by omega)
  refine ⟨?_, fun j hj x hx => ?_, fun a b ha hb hab x y hx hy g e => ?_⟩
  · obtain ⟨m, M, hm0, h1, h2, h3⟩ := h.mp
    have hle := ndu_len M (List.range ms.length) h2 (fun j hj => List.mem_range.2 (h3 j hj).1)
    rw [List.length_range] at hle
    refine ⟨m + 1, i :: M, hm m hm0 (by omega), by simp; omega, ?_, fun j hj => ?_⟩
    · rw [List.nodup_cons]
      exact ⟨fun hmem => (by have := (h3 i hmem).2; rw [hg] at this; simp at this), h2⟩
    · rcases List.mem_cons.1 hj with rfl | hj
      · exact ⟨hi, by simp⟩
      · refine ⟨(h3 j hj).1, ?_⟩
        show (if _ then _ else _ : Option Value).isSome = true
        split
        · rfl
        · exact (h3 j hj).2
  · have hx' : (if (atM ms j).n.data = (atM ms i).n.data then some (.agg #[v]) else G (atM ms j).n) = some x := hx
    by_cases e : (atM ms j).n.data = (atM ms i).n.data
    · rw [if_pos e] at hx'
      have hij := hN.inj hj hi (dat e)
      subst hij
      injection hx' with hx'
      exact ⟨v, hx'.symm, row_same hv (fun g e => same g (hvb g e)), fun g e => ⟨(hvb g e).1, by have := (hvb g e).2; omega⟩⟩
    · rw [if_neg e] at hx'
      obtain ⟨v', rfl, hv', hb'⟩ := h.at' j hj x hx'
      exact ⟨v', rfl, row_same hv' (fun g e => same g (hb' g e)), fun g e => ⟨(hb' g e).1, by have := (hb' g e).2; omega⟩⟩
  · have hx' : (if (atM ms a).n.data = (atM ms i).n.data then some (.agg #[v]) else G (atM ms a).n) = some (.agg #[x]) := hx
    have hy' : (if (atM ms b).n.data = (atM ms i).n.data then some (.agg #[v]) else G (atM ms b).n) = some (.agg #[y]) := hy
    by_cases e1 : (atM ms a).n.data = (atM ms i).n.data
    · have i1 := hN.inj ha hi (dat e1)
      by_cases e2 : (atM ms b).n.data = (atM ms i).n.data
      · exact absurd (i1.trans (hN.inj hb hi (dat e2)).symm) hab
      · rw [if_pos e1] at hx'
        rw [if_neg e2] at hy'
        have ex : v = x := by simpa using hx'
        subst ex
        exact hd b hb y hy' g e
    · rw [if_neg e1] at hx'
      by_cases e2 : (atM ms b).n.data = (atM ms i).n.data
      · rw [if_pos e2] at hy'
        have ey : v = y := by simpa using hy'
        subst ey
        exact fun e3 => hd a ha x hx' g e3 e
      · rw [if_neg e2] at hy'
        exact h.apt a b ha hb hab x y hx' hy' g e
end Go.Proofs.YtokabkhnidlcnabGreatDoor
