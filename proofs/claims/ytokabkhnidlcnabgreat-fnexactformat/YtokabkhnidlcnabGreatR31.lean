import Derived.Defers
import Derived.Recover
import Derived.Laws.Pointers
import Derived.Test.YtokabkhnidlcnabGreatR15
import Derived.Test.YtokabkhnidlcnabGreatR26
import Derived.Test.YtokabkhnidlcnabGreatR27
import Derived.Test.YtokabkhnidlcnabGreatR29
import Derived.Test.YtokabkhnidlcnabGreatR30

/-
  Walks: the deferred answer of Parse.
-/
namespace Go.Proofs.YtokabkhnidlcnabGreat
set_option maxRecDepth 100000
set_option linter.unusedSimpArgs false
set_option linter.unusedVariables false
open Go.RowKit

set_option maxHeartbeats 1000000 in
theorem catch_idle (p q : Addr) (w : World) :
    CallsD Tryz.prog 29 #[.pointer (some p), .pointer (some q)] .returning w fun e u' w' => e = .returned (.tuple #[]) ∧ u' = .returning ∧ w' = w := by
  refine callsD_of_wpS Tryz.func29 rfl fun c₀ cs hu => ?_
  apply wpS_seq
  apply wpS_region
  simp [wpOpsS, go_sem, recoverD, hu, Tryz.ntmps29, Exit.thenS]
  apply wpS_seq
  apply wpS_region
  simp [wpOpsS, go_sem, hu, Tryz.ntmps29, Exit.thenS]
  refine wpS_cond (t := false) (by simp [Act.eval, Array.replicate]) ?_
  simp only [Bool.false_eq_true, if_false]
  refine wpS_of_wp (wp_skip ?_)
  cases c₀
  simp_all [bodyPostS, results, Tryz.results29]

set_option maxHeartbeats 1000000 in
theorem catch_panicking (p q : Nat) (x y code place : Int) (w : World) (hp : w.cell? ⟨p, 0, none⟩ = some (.int .i64 x)) (hpz : w.frozen? ⟨p, 0, none⟩ = false) (hq : w.cell? ⟨q, 0, none⟩ = some (.int .i64 y)) (hqz : w.frozen? ⟨q, 0, none⟩ = false) (hne : p ≠ q) :
    CallsD Tryz.prog 29 #[.pointer (some ⟨p, 0, none⟩), .pointer (some ⟨q, 0, none⟩)] (.panicking [{ v := .iface 120 (.agg #[.int .i64 code, .int .i64 place]), recovered := false }]) w fun e u' w' =>
      e = .returned (.tuple #[]) ∧ u' = .panicking [{ v := .iface 120 (.agg #[.int .i64 code, .int .i64 place]), recovered := true }] ∧ ∃ w1, Below w.heap.size w w1 ∧ w' = (w1.setCell ⟨p, 0, none⟩ (.int .i64 code)).setCell ⟨q, 0, none⟩ (.int .i64 place) := by
  have hpl := block_lt_of_cell hp
  have hql := block_lt_of_cell hq
  refine callsD_of_wpS Tryz.func29 rfl fun c₀ cs hu => ?_
  apply wpS_seq
  apply wpS_region
  simp [wpOpsS, go_sem, recoverD, hu, Tryz.ntmps29, Exit.thenS]
  apply wpS_seq
  apply wpS_region
  simp [wpOpsS, go_sem, hu, Tryz.ntmps29, Exit.thenS]
  refine wpS_cond (t := true) (by simp [Act.eval, Array.replicate]) ?_
  simp only [if_true]
  refine wpS_of_wp ?_
  have HA := answerTo_any code place w
  go_wp2_with fail
  refine HA.mono ?_
  rintro x1 w1 ⟨rfl, hb1⟩
  have p1 := (hb1.cell (p := ⟨p, 0, none⟩) hpl).trans hp
  have p2 := (hb1.frozen (p := ⟨p, 0, none⟩) hpl).trans hpz
  have q1 := (hb1.cell (p := ⟨q, 0, none⟩) hql).trans hq
  have q2 := (hb1.frozen (p := ⟨q, 0, none⟩) hql).trans hqz
  have q3 : (w1.setCell ⟨p, 0, none⟩ (.int .i64 code)).cell? ⟨q, 0, none⟩ = some (.int .i64 y) := (World.cell?_setCell_other _ _ _ _ (fun e => hne (by injection e))).trans q1
  go_wp2_with fail
  refine ⟨rfl, _, rfl, .tuple #[], by simp [results, Tryz.results29, go_sem], rfl, rfl, w1, hb1, rfl⟩
end Go.Proofs.YtokabkhnidlcnabGreat

/-
  Walk: refuseMisfit.
-/
namespace Go.Proofs.YtokabkhnidlcnabGreat
set_option maxRecDepth 100000
set_option linter.unusedSimpArgs false
set_option linter.unusedVariables false
open Go.RowKit Go.Maps

/-- What refuseMisfit does. -/
def MisPost (ns : List OpR) (ts : List TokR) (x : Ending) : Prop :=
  (∃ i, i < ts.length ∧ FitTo ns ts i ∧ roleTo ns ts i < 0 ∧ x = failE 4 (offT ts i : Int)) ∨ (FitTo ns ts ts.length ∧ x = .returned (.tuple #[]))

set_option maxHeartbeats 1000000 in
theorem refuseMisfit_any (bo bs g o c : Nat) (ns : List OpR) (ts : List TokR) (w : World) (hm : ts.length + totToT ts ts.length ≤ 1048576) (hc : ts.length ≤ c) (hc2 : c ≤ maxLen) (hidx : Idx w bo bs ns ns.length) (hcd : IsCode ns 0) (hw : OpsT w g o ts) (hst : SizedT ts) (hB : g < w.heap.size) (hz : ∀ i, i < ts.length → (atT ts i).g.size ≤ 1048576)
    (hla : 0 < ts.length ∧ (atT ts (ts.length - 1)).k = 7) :
    Calls Tryz.prog 34 #[.agg #[.map (some bo), .map (some bs)], .slice (some ⟨g, o, none⟩) ts.length c] w fun x w' => MisPost ns ts x ∧ Below w.heap.size w w' := by
  have HW := hide hw
  have HZ := hide hz
  have HLA := hide hla
  have HC := hide hcd
  have hb0 := below1 w (.cells #[.map (some bo), .map (some bs)] 70)
  have HX := rolesM_any bo bs g o c ns ts _ (by omega) (hidx.kept hb0) hcd (fun j hj => (hw j hj).below hb0 hB) hst (by simp; omega)
  have HB0 := hide hb0
  clear hw hz hla hidx hst hcd hb0
  go_enter Tryz.func34, Tryz.ntmps34
  go_wp2_with fail
  refine HX.mono ?_
  rintro x w1 ⟨⟨a, c1, us, v, rfl, _, hr⟩, hb1⟩
  have bel1 : Below w.heap.size w w1 := (unhide HB0).trans (hb1.mono (by simp))
  clear HX HB0 hb1
  rcases hr with ⟨hn, _⟩ | ⟨_, ⟨i, hi, hf, hro, rfl, rfl⟩ | ⟨hf, ⟨_, rfl, rfl⟩ | ⟨hn, _⟩⟩⟩
  · exact absurd (unhide HC) hn
  · have hb : ((i : Int) != -1) = true := by first | (simp; done) | (simp; omega)
    have HF := hide (And.intro hf hro)
    have HX := offsetOf_any g o c i ts w1 hm hi hc hc2 (fun j hj => ((unhide HW) j hj).below bel1 hB) (by have := bel1.size; omega) ((unhide HZ) i hi)
    clear hf hro
    go_wp2_with fail
    refine HX.mono ?_
    rintro x w2 ⟨rfl, hb2⟩
    have bel2 := bel1.trans (hb2.mono bel1.size)
    clear HX hb2
    go_wp2_with fail
    exact ⟨rfl, Or.inl ⟨i, hi, (unhide HF).1, (unhide HF).2, rfl⟩, bel2⟩
  · have HF := hide hf
    clear hf
    go_wp2_with fail
    go_end0
    exact ⟨Or.inr ⟨unhide HF, rfl⟩, bel1⟩
  · exact absurd (unhide HLA) hn
end Go.Proofs.YtokabkhnidlcnabGreat

/-
  Walk: the program's Lex.
-/
namespace Go.Proofs.YtokabkhnidlcnabGreat
set_option maxRecDepth 100000
open Go.RowKit Go.Maps

theorem sc_scan {W : World} {p bo bs L : Nat} {xs : List OpR} {s : ByteArray} (hsc : Sc W p bo bs L s 0 0 (.slice none 0 0)) (hi : Idx W bo bs xs xs.length) (h1 : bo < p) (h2 : bs < p) : Scan W W p bo bs L xs s 0 0 [] (.slice none 0 0) :=
  ⟨hsc, World.ownsRow_nil _ _ _ _, by simp [Value.ownBlock], hi, Below.refl _ _, Read.start xs s, fun q h1 h2 => by omega, Nat.le_refl _, Nat.zero_le _, h1, h2⟩

theorem scan_startA {w2 : World} {bo bs L : Nat} {xs : List OpR} {s : ByteArray} (hi : Idx w2 bo bs xs xs.length) (h1 : bo < w2.heap.size) (h2 : bs < w2.heap.size) :
    Scan (w2.alloc (.cells #[.map (some bo), .map (some bs), .int .i64 (L : Int), .string s, .int .i64 0, .int .i64 0, .slice none 0 0] 126)) (w2.alloc (.cells #[.map (some bo), .map (some bs), .int .i64 (L : Int), .string s, .int .i64 0, .int .i64 0, .slice none 0 0] 126)) w2.heap.size bo bs L xs s 0 0 [] (.slice none 0 0) := by
  refine sc_scan ⟨?_, ?_, ?_, ?_, ?_, ?_, ?_, fun o => ?_⟩ (hi.kept (below1 _ _)) h1 h2
  all_goals simp [go_sem]

theorem frozen_setCells (g : Nat) : ∀ (vs : List Value) (o : Nat) (w : World) (q : Addr), (w.setCells g o vs).frozen? q = w.frozen? q
  | [], _, _, _ => rfl
  | v :: r, o, w, q => (frozen_setCells g r (o + 1) (w.setCell ⟨g, o, none⟩ v) q).trans (World.frozen?_setCell _ _ _ _)

theorem heap_setCells (g i : Nat) (hne : i ≠ g) : ∀ (vs : List Value) (o : Nat) (w : World), (w.setCells g o vs).heap[i]? = w.heap[i]?
  | [], _, _ => rfl
  | v :: r, o, w => (heap_setCells g i hne r (o + 1) (w.setCell ⟨g, o, none⟩ v)).trans (Below.heap_setCell _ _ _ _ hne)

theorem scan_startB {w2 : World} {p bo bs L : Nat} {xs : List OpR} {s : ByteArray} (hi : Idx w2 bo bs xs xs.length) (h1 : bo < p) (h2 : bs < p) (hc : ∀ j, j < 7 → (w2.cell? ⟨p, j, none⟩).isSome = true) (hf : ∀ o, w2.frozen? ⟨p, o, none⟩ = false) :
    Scan (w2.setCells p 0 [.map (some bo), .map (some bs), .int .i64 (L : Int), .string s, .int .i64 0, .int .i64 0, .slice none 0 0]) (w2.setCells p 0 [.map (some bo), .map (some bs), .int .i64 (L : Int), .string s, .int .i64 0, .int .i64 0, .slice none 0 0]) p bo bs L xs s 0 0 [] (.slice none 0 0) := by
  have hin := World.cell?_setCells_in p [.map (some bo), .map (some bs), .int .i64 (L : Int), .string s, .int .i64 0, .int .i64 0, .slice none 0 0] 0 w2 (fun j hj => by simpa using hc j (by simpa using hj))
  refine sc_scan ⟨by simpa using hin 0 (by simp), by simpa using hin 1 (by simp), by simpa using hin 2 (by simp), by simpa using hin 3 (by simp), by simpa using hin 4 (by simp), by simpa using hin 5 (by simp), by simpa using hin 6 (by simp), fun o => (frozen_setCells p _ _ _ _).trans (hf o)⟩ (hi.of_blocks (heap_setCells p bo (by omega) _ _ _) (heap_setCells p bs (by omega) _ _ _)) h1 h2

set_option maxHeartbeats 4000000 in
theorem cut_any (bo bs : Nat) (xs : List OpR) (s : ByteArray) (w : World) (hi : Idx w bo bs xs xs.length) (hc : IsCode xs 0) (hsz : Sized xs) (h20 : s.size ≤ 20000) :
    Calls Tryz.prog 32 #[.agg #[.map (some bo), .map (some bs)], .string s] w fun e w' => (∃ (g cp : Nat) (us : List TokR), e = .returned (.slice (some ⟨g, 0, none⟩) us.length cp) ∧ (w.heap.size ≤ g ∧ us.length ≤ cp ∧ cp ≤ maxLen) ∧ Hid (FilledT w' g us us.length) ∧ Hid (Lexed xs s 0 us)) ∧ Below w.heap.size w w' := by
  have HS := hide hsz
  have HOK := hide (code_ok hc)
  have HV := hide (signTexts_of (code_ok hc))
  have HK := hide (kinds_of (code_ok hc))
  have hbo : bo < w.heap.size := by obtain ⟨D, hD, _⟩ := hi.ops; exact hD.lt
  have hbs : bs < w.heap.size := by obtain ⟨D, hD, _⟩ := hi.srts; exact hD.lt
  have belI : Below w.heap.size w (w.alloc (.cells #[.map (some bo), .map (some bs)] 70)) := below1 _ _
  have k0 : (w.alloc (.cells #[.map (some bo), .map (some bs)] 70)).cell? ⟨w.heap.size, 0, none⟩ = some (.map (some bo)) := by simp [go_sem]
  have k1 : (w.alloc (.cells #[.map (some bo), .map (some bs)] 70)).cell? ⟨w.heap.size, 1, none⟩ = some (.map (some bs)) := by simp [go_sem]
  have HIJ := hide (hi.kept (below1 w (.cells #[.map (some bo), .map (some bs)] 70)))
  clear hi hsz hc
  go_enter Tryz.func32, Tryz.ntmps32
  go_wp2_with fail
  obtain ⟨W0, hW0⟩ : ∃ W0, W0 = w.alloc (.cells #[.map (some bo), .map (some bs)] 70) := ⟨_, rfl⟩
  have hz0 : w.heap.size + 1 = W0.heap.size := by rw [hW0]; simp
  rw [← hW0] at belI k0 k1 HIJ ⊢
  clear hW0
  have n1 : ¬ W0.heap.size = w.heap.size := by omega
  go_region_held (fun w' => w'.cell? ⟨w.heap.size, 0, none⟩ = some (.map (some bo)) ∧ w'.cell? ⟨w.heap.size, 1, none⟩ = some (.map (some bs))) (go_keep)
    (first | (go_at_call 66; refine (longestText_any bo bs xs _ (by first | exact (unhide HIJ).kept (Below.refl _ _).drew | exact ((unhide HIJ).kept (below1 _ _)).kept (Below.refl _ _).drew) (unhide HV) (unhide HS) (unhide HOK)).mono ?_; rintro e w2 ⟨⟨L, rfl, hL, hLx⟩, hb2⟩; have q0 := hb2.cell (p := ⟨w.heap.size, 0, none⟩) (by first | (simp; omega)); have q1 := hb2.cell (p := ⟨w.heap.size, 1, none⟩) (by first | (simp; omega)); have HLX := hide hLx; have HB2 := hide hb2; obtain ⟨hc2, hf2⟩ := bcell hb2; clear hLx hb2))
  · have hz2 : W0.heap.size ≤ w2.heap.size := (unhide HB2).size
    have HSC := hide (scan_startA (w2 := w2) (L := L) (s := s) ((unhide HIJ).kept ((Below.refl _ _).drew.trans (unhide HB2))) (by omega) (by omega))
    have HBEL : Below w.heap.size w (w2.alloc (.cells #[.map (some bo), .map (some bs), .int .i64 (L : Int), .string s, .int .i64 0, .int .i64 0, .slice none 0 0] 126)) := (belI.drew.trans ((unhide HB2).mono belI.size)).alloc (by omega) _
    have hPW : w.heap.size ≤ w2.heap.size := by omega
    have hsp := (unhide HSC).lt
    go_wp2_with fail
    refine (scan_any _ bo bs L xs s _ (unhide HSC) h20 hL (unhide HLX) (unhide HV) (unhide HK)).mono ?_
    rintro e w4 ⟨rfl, g, cp, us, hcell, ⟨hpg, hcp, hcpm⟩, hfil, hlex, hbel⟩
    have c6 := unhide hcell
    have bel4 := HBEL.trans (hbel.mono hPW)
    go_wp2_with fail
    go_ret
    exact ⟨⟨g, cp, us, rfl, ⟨by omega, hcp, hcpm⟩, hfil, hlex⟩, bel4⟩
  · have hz2 : W0.heap.size < w2.heap.size := by have := (unhide HB2).size; simp at this; omega
    have HSC := hide (scan_startB (w2 := w2) (p := W0.heap.size) (L := L) (s := s) ((((unhide HIJ).kept (below1 _ _)).kept (Below.refl _ _).drew).kept (unhide HB2)) (by omega) (by omega) (fun j hj => by
      rw [hc2 _ _ (by simp)]
      match j, hj with
      | 0, _ => simp [go_sem]
      | 1, _ => simp [go_sem]
      | 2, _ => simp [go_sem]
      | 3, _ => simp [go_sem]
      | 4, _ => simp [go_sem]
      | 5, _ => simp [go_sem]
      | 6, _ => simp [go_sem]) (fun o => by rw [hf2 _ _ (by simp)]; simp [go_sem]))
    have HBEL : Below w.heap.size w (w2.setCells W0.heap.size 0 [.map (some bo), .map (some bs), .int .i64 (L : Int), .string s, .int .i64 0, .int .i64 0, .slice none 0 0]) := below_setCells belI.size _ _ _ ((belI.alloc belI.size _).drew.trans ((unhide HB2).mono (by have := belI.size; simp; omega)))
    have hPW : w.heap.size ≤ W0.heap.size := belI.size
    have hsp := (unhide HSC).lt
    go_wp2_with fail
    refine (scan_any _ bo bs L xs s _ (unhide HSC) h20 hL (unhide HLX) (unhide HV) (unhide HK)).mono ?_
    rintro e w4 ⟨rfl, g, cp, us, hcell, ⟨hpg, hcp, hcpm⟩, hfil, hlex, hbel⟩
    have c6 := unhide hcell
    have bel4 := HBEL.trans (hbel.mono hPW)
    go_wp2_with fail
    go_ret
    exact ⟨⟨g, cp, us, rfl, ⟨by omega, hcp, hcpm⟩, hfil, hlex⟩, bel4⟩
end Go.Proofs.YtokabkhnidlcnabGreat
