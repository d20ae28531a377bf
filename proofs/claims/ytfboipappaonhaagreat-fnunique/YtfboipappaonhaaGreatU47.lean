import Derived.Test.YtfboipappaonhaaGreatU25
import Derived.Test.YtfboipappaonhaaGreatU26
import Derived.Test.YtfboipappaonhaaGreatU43
import Derived.Test.YtfboipappaonhaaGreatU45
import Derived.Test.YtfboipappaonhaaGreatU46

/-
  Walk: the parser's parse.
-/
namespace Go.Proofs.YtfboipappaonhaaGreat
set_option maxRecDepth 100000
set_option linter.unusedSimpArgs false
set_option linter.unusedVariables false
open Go.RowKit Go.Maps

/-- The tree is too high. -/
def tooHigh : Ending := .panicked [{ v := .iface 146 (.agg #[.int .i64 6, .int .i64 0]), recovered := false }]

theorem rowV_owned {w : World} {B : Nat} {u : Value} {us : List NodeR} (h : RowV w B u us) (h1 : 1 ≤ us.length) : ∃ g c, u = .slice (some ⟨g, 0, none⟩) us.length c ∧ B ≤ g ∧ FilledN w g us us.length := by
  have hh := h
  unfold RowV at hh
  obtain ⟨_, ⟨rfl, h0⟩ | ⟨g, cap, cur, rfl, _⟩⟩ := h
  · omega
  · have := owns_filledN hh
    exact ⟨g, cap, rfl, this.1, this.2⟩

theorem Kept1.setNf {w w' : World} {p b : Nat} (h : Kept1 w w' p) (hb : w.heap.size ≤ b) (o : Nat) (v : Value) : Kept1 w (w'.setCell ⟨b, o, none⟩ v) p :=
  ⟨h.os, h.tape, h.output, by simpa [World.setCell] using h.size, fun i hi hne => (Below.heap_setCell _ _ _ _ (show i ≠ b by omega)).trans (h.block i hi hne)⟩

/-- What parse hands back. -/
def ParsePost (ns : List OpR) (w : World) (p : Nat) (res : Option (ET × List SyR)) (x : Ending) (w' : World) : Prop :=
  Hid (Kept1 w w' p) ∧ ((res = none ∧ x = noTree) ∨ ∃ T r, res = some (T, r) ∧ Hid (GoodT ns T) ∧ ((1000 < hT T ∧ x = tooHigh) ∨
    (hT T ≤ 1000 ∧ ∃ g' c', x = .returned (.agg #[.slice (some ⟨g', 0, none⟩) (nd T 0).length c']) ∧ w.heap.size ≤ g' ∧ Hid (FilledN w' g' (nd T 0) (nd T 0).length))))

set_option maxHeartbeats 2000000 in
theorem parseM_any {ns : List OpR} {ts : List TokR} (hF : Fits ns ts) {p g o c bf bb : Nat} (w : World) (hf : FitE ns (false, 0) (sgs ns ts 0 ts.length)) (hpc : PC w p g o bf bb ns ts) (hp : PrsAt w p g o ts.length c 0 bf bb) (res : Option (ET × List SyR)) (hres : res = RD ns 0 none (sgs ns ts 0 ts.length)) :
    Calls Tryz.prog 43 #[.pointer (some ⟨p, 0, none⟩)] w (ParsePost ns w p res) := by
  have hpl := block_lt_of_cell hp.1
  simp only at hpl
  have hpn : p ≠ w.heap.size := by omega
  have hb0 := below1 w (.cells #[.slice none 0 0] 28)
  have hk0 := Kept1.of_below (g := p) hb0
  have HX := read_any hF (ts.length - 0 + 1) 0 0 0 _ (Nat.lt_succ_self _) (by omega) (by rw [Nat.sub_zero]; exact hf) (hpc.kept hk0) (hp.below hb0)
  rw [Nat.sub_zero, ← hres] at HX
  have HT := hide (show ∀ T r, res = some (T, r) → tsz T ≤ 100000 from fun T r h => by
    rw [hres] at h
    have h1 := rd_sound hF.code _ _ none _ 0 _ (by omega) hf (fun L e => by cases e) h
    have e := congrArg List.length h1.2.2.2.2
    simp only [yM, List.nil_append, List.length_append] at e
    rw [sgs_len] at e
    have := tsz_le T h1.2.1
    have := hF.len
    omega)
  have HK0 := hide hk0
  clear hF hpc hp hf hres hb0 hk0
  go_enter Tryz.func43, Tryz.ntmps43
  go_wp2_with fail
  refine HX.mono ?_
  clear HX
  rintro x w1 ⟨HK, ⟨h0, rfl⟩ | ⟨T, r, h1, rfl, HG, HP⟩⟩
  · exact ⟨rfl, hide ((unhide HK0).trans (unhide HK)), Or.inl ⟨h0, rfl⟩⟩
  · have hsz := (unhide HT) T r h1
    have hh := hT_le T
    have c1 : w1.cell? ⟨w.heap.size, 0, none⟩ = some (.slice none 0 0) := ((unhide HK).cell (b := w.heap.size) (by simp) (by omega) 0).trans (by simp [go_sem])
    have d1 : w1.frozen? ⟨w.heap.size, 0, none⟩ = false := ((unhide HK).frozen (b := w.heap.size) (by simp) (by omega) 0).trans (by simp [go_sem])
    have HK1 := hide ((unhide HK0).trans (unhide HK))
    have hz1 : w.heap.size < w1.heap.size := by have := (unhide HK).size; simp at this; omega
    have HR := hide h1
    obtain ⟨Ty, v, f, q, he, hme, hcf, hcall⟩ := hgt_tree ns T (unhide HG) (by omega)
    have HC := hide hcall
    have HE := hide he
    rw [he]
    obtain ⟨hh0, hhe⟩ : ∃ h0, h0 = hT T := ⟨_, rfl⟩
    have HHE := hide hhe
    have hhb : hh0 ≤ 100000 := by omega
    rw [← hhe] at HC
    clear HK h1 hcall he HT HK0 HP hhe hh
    go_wp2_with fail
    refine ((unhide HC) _).mono ?_
    rintro x w2 ⟨rfl, hb2⟩
    have c2 := (hb2.cell (p := ⟨w.heap.size, 0, none⟩) hz1).trans c1
    have d2 := (hb2.frozen (p := ⟨w.heap.size, 0, none⟩) hz1).trans d1
    have HK2 := hide ((unhide HK1).trans (Kept1.of_below hb2))
    have hz2 : w.heap.size < w2.heap.size := by have := hb2.size; omega
    clear hb2 c1 d1 HK1 hme hcf HC
    by_cases hgt : 1000 < hh0
    · have hgI : (1000 : Int) < (hh0 : Int) := by omega
      have HN := hide (show 1000 < hT T by rw [← unhide HHE]; exact hgt)
      go_wp2_with fail
      exact ⟨rfl, HK2, Or.inr ⟨T, r, unhide HR, HG, Or.inl ⟨unhide HN, rfl⟩⟩⟩
    · have hgI : (hh0 : Int) ≤ 1000 := by omega
      have HN := hide (show hT T ≤ 1000 by rw [← unhide HHE]; omega)
      obtain ⟨Ty', v', f', he', hme', hcf', hcall'⟩ := app_tree ns T (unhide HG)
      rw [unhide HE] at he'
      obtain ⟨rfl, rfl⟩ : Ty = Ty' ∧ v = v' := by injection he' with a b; exact ⟨a, b⟩
      obtain ⟨vs, hvs⟩ : ∃ vs, vs = nd T 0 := ⟨_, rfl⟩
      have hvl : vs.length = tsz T := by rw [hvs, nd_len]
      have hv1 : 1 ≤ vs.length := by rw [hvl]; exact Sh.pos (unhide HG).sh
      have HCALL := hide (hcall' w2.heap.size (.slice none 0 0) [] vs w2 (World.ownsRow_nil _ _ _ _) (Nat.le_refl _) (by rw [List.length_nil, ← hvs]; omega) (by rw [List.nil_append, List.length_nil]; exact hvs))
      have HVS := hide hvs
      have HV1 := hide hv1
      clear hvs hvl hcall' he' hgt hsz hv1
      go_wp2_with fail
      refine (unhide HCALL).mono ?_
      rintro x w3 ⟨u', rfl, HRW, HGR, HOW⟩
      obtain ⟨g3, c3, rfl, hg3, hfl⟩ := rowV_owned (unhide HRW) (unhide HV1)
      have e1 : w3.cell? ⟨w.heap.size, 0, none⟩ = some (.slice none 0 0) := (grown_cell (unhide HGR) (b := w.heap.size) hz2 (by simp [Value.ownBlock]) 0).trans c2
      have f1 : w3.frozen? ⟨w.heap.size, 0, none⟩ = false := (World.frozen?_of_block (w := w2) ((unhide HGR).block w.heap.size hz2 (by simp [Value.ownBlock]))).trans d2
      have hb3 : Below w2.heap.size w2 w3 := ⟨(unhide HGR).os, (unhide HGR).tape, (unhide HGR).output, (unhide HGR).size, fun i hi => (unhide HGR).block i hi (by simp [Value.ownBlock])⟩
      have HK3 := hide ((unhide HK2).trans (Kept1.of_below hb3))
      have HFIL := hide hfl
      have hgw : w.heap.size < g3 := by omega
      clear HRW HGR HOW c2 d2 hcf' hme' hfl HCALL hb3 HK2 hg3
      go_wp2_with fail
      refine bodyPost_ret (v := .agg #[.slice (some ⟨g3, 0, none⟩) vs.length c3]) ?res rfl ⟨?kk, Or.inr ⟨T, r, unhide HR, HG, Or.inr ⟨unhide HN, g3, c3, ?vv, by omega, ?ff⟩⟩⟩
      case res => simp [results, Tryz.results43, go_sem, e1]
      case kk => exact hide ((unhide HK3).setNf (Nat.le_refl _) _ _)
      case vv => rw [← unhide HVS]
      case ff => rw [← unhide HVS]; exact hide ((unhide HFIL).setCell _ _ _ (by omega))
end Go.Proofs.YtfboipappaonhaaGreat

/-
  Walk: refuseMisfit.
-/
namespace Go.Proofs.YtfboipappaonhaaGreat
set_option maxRecDepth 100000
set_option linter.unusedSimpArgs false
set_option linter.unusedVariables false
open Go.RowKit Go.Maps

/-- What refuseMisfit does. -/
def MisPost (ns : List OpR) (ts : List TokR) (x : Ending) : Prop :=
  (∃ i, i < ts.length ∧ FitTo ns ts i ∧ roleTo ns ts i < 0 ∧ x = failE 4 (offT ts i : Int)) ∨ (FitTo ns ts ts.length ∧ x = .returned (.tuple #[]))

set_option maxHeartbeats 1000000 in
theorem refuseMisfit_any (bo bs g o c : Nat) (ns : List OpR) (ts : List TokR) (w : World) (hm : ts.length + totToT ts ts.length ≤ 1048576) (hc : ts.length ≤ c) (hc2 : c ≤ maxLen) (hidx : Idx w bo bs ns ns.length) (hcd : IsCode ns 0) (hw : OpsT w g o ts) (hst : SizedT ts) (hB : g < w.heap.size) (hz : ∀ i, i < ts.length → (atT ts i).g.size ≤ 1048576)
    (hla : 0 < ts.length ∧ (atT ts (ts.length - 1)).k = 7) :
    Calls Tryz.prog 41 #[.agg #[.map (some bo), .map (some bs)], .slice (some ⟨g, o, none⟩) ts.length c] w fun x w' => MisPost ns ts x ∧ Below w.heap.size w w' := by
  have HW := hide hw
  have HZ := hide hz
  have HLA := hide hla
  have HC := hide hcd
  have hb0 := below1 w (.cells #[.map (some bo), .map (some bs)] 69)
  have HX := rolesM_any bo bs g o c ns ts _ (by omega) (hidx.kept hb0) hcd (fun j hj => (hw j hj).below hb0 hB) hst (by simp; omega)
  have HB0 := hide hb0
  clear hw hz hla hidx hst hcd hb0
  go_enter Tryz.func41, Tryz.ntmps41
  go_wp2_with fail
  refine HX.mono ?_
  rintro x w1 ⟨⟨a, c1, us, v, rfl, _, hr⟩, hb1⟩
  have bel1 : Below w.heap.size w w1 := (unhide HB0).trans (hb1.mono (by simp))
  clear HX HB0 hb1
  rcases hr with ⟨hn, _⟩ | ⟨_, ⟨i, hi, hf, hro, rfl, rfl⟩ | ⟨hf, ⟨_, rfl, rfl⟩ | ⟨hn, _⟩⟩⟩
  · exact absurd (unhide HC) hn
  · have hb : ((i : Int) != -1) = true := by first | (simp; done) | (simp; omega)
    have HF := hide (And.intro hf hro)
    have HX := offsetOf_any g o c i ts w1 hm hi hc hc2 (fun j hj => ((unhide HW) j hj).below bel1 hB) (by have := bel1.size; omega) ((unhide HZ) i hi)
    clear hf hro
    go_wp2_with fail
    refine HX.mono ?_
    rintro x w2 ⟨rfl, hb2⟩
    have bel2 := bel1.trans (hb2.mono bel1.size)
    clear HX hb2
    go_wp2_with fail
    exact ⟨rfl, Or.inl ⟨i, hi, (unhide HF).1, (unhide HF).2, rfl⟩, bel2⟩
  · have HF := hide hf
    clear hf
    go_wp2_with fail
    go_end0
    exact ⟨Or.inr ⟨unhide HF, rfl⟩, bel1⟩
  · exact absurd (unhide HLA) hn
end Go.Proofs.YtfboipappaonhaaGreat

/-
  Walk: the program's Lex.
-/
namespace Go.Proofs.YtfboipappaonhaaGreat
set_option maxRecDepth 100000
open Go.RowKit Go.Maps

theorem sc_scan {W : World} {p bo bs L : Nat} {xs : List OpR} {s : ByteArray} (hsc : Sc W p bo bs L s 0 0 (.slice none 0 0)) (hi : Idx W bo bs xs xs.length) (h1 : bo < p) (h2 : bs < p) : Scan W W p bo bs L xs s 0 0 [] (.slice none 0 0) :=
  ⟨hsc, World.ownsRow_nil _ _ _ _, by simp [Value.ownBlock], hi, Below.refl _ _, Read.start xs s, fun q h1 h2 => by omega, Nat.le_refl _, Nat.zero_le _, h1, h2⟩

theorem scan_startA {w2 : World} {bo bs L : Nat} {xs : List OpR} {s : ByteArray} (hi : Idx w2 bo bs xs xs.length) (h1 : bo < w2.heap.size) (h2 : bs < w2.heap.size) :
    Scan (w2.alloc (.cells #[.map (some bo), .map (some bs), .int .i64 (L : Int), .string s, .int .i64 0, .int .i64 0, .slice none 0 0] 152)) (w2.alloc (.cells #[.map (some bo), .map (some bs), .int .i64 (L : Int), .string s, .int .i64 0, .int .i64 0, .slice none 0 0] 152)) w2.heap.size bo bs L xs s 0 0 [] (.slice none 0 0) := by
  refine sc_scan ⟨?_, ?_, ?_, ?_, ?_, ?_, ?_, fun o => ?_⟩ (hi.kept (below1 _ _)) h1 h2
  all_goals simp [go_sem]

theorem frozen_setCells (g : Nat) : ∀ (vs : List Value) (o : Nat) (w : World) (q : Addr), (w.setCells g o vs).frozen? q = w.frozen? q
  | [], _, _, _ => rfl
  | v :: r, o, w, q => (frozen_setCells g r (o + 1) (w.setCell ⟨g, o, none⟩ v) q).trans (World.frozen?_setCell _ _ _ _)

theorem heap_setCells (g i : Nat) (hne : i ≠ g) : ∀ (vs : List Value) (o : Nat) (w : World), (w.setCells g o vs).heap[i]? = w.heap[i]?
  | [], _, _ => rfl
  | v :: r, o, w => (heap_setCells g i hne r (o + 1) (w.setCell ⟨g, o, none⟩ v)).trans (Below.heap_setCell _ _ _ _ hne)

theorem scan_startB {w2 : World} {p bo bs L : Nat} {xs : List OpR} {s : ByteArray} (hi : Idx w2 bo bs xs xs.length) (h1 : bo < p) (h2 : bs < p) (hc : ∀ j, j < 7 → (w2.cell? ⟨p, j, none⟩).isSome = true) (hf : ∀ o, w2.frozen? ⟨p, o, none⟩ = false) :
    Scan (w2.setCells p 0 [.map (some bo), .map (some bs), .int .i64 (L : Int), .string s, .int .i64 0, .int .i64 0, .slice none 0 0]) (w2.setCells p 0 [.map (some bo), .map (some bs), .int .i64 (L : Int), .string s, .int .i64 0, .int .i64 0, .slice none 0 0]) p bo bs L xs s 0 0 [] (.slice none 0 0) := by
  have hin := World.cell?_setCells_in p [.map (some bo), .map (some bs), .int .i64 (L : Int), .string s, .int .i64 0, .int .i64 0, .slice none 0 0] 0 w2 (fun j hj => by simpa using hc j (by simpa using hj))
  refine sc_scan ⟨by simpa using hin 0 (by simp), by simpa using hin 1 (by simp), by simpa using hin 2 (by simp), by simpa using hin 3 (by simp), by simpa using hin 4 (by simp), by simpa using hin 5 (by simp), by simpa using hin 6 (by simp), fun o => (frozen_setCells p _ _ _ _).trans (hf o)⟩ (hi.of_blocks (heap_setCells p bo (by omega) _ _ _) (heap_setCells p bs (by omega) _ _ _)) h1 h2

set_option maxHeartbeats 4000000 in
theorem cut_any (bo bs : Nat) (xs : List OpR) (s : ByteArray) (w : World) (hi : Idx w bo bs xs xs.length) (hc : IsCode xs 0) (hsz : Sized xs) (h20 : s.size ≤ 20000) :
    Calls Tryz.prog 39 #[.agg #[.map (some bo), .map (some bs)], .string s] w fun e w' => (∃ (g cp : Nat) (us : List TokR), e = .returned (.slice (some ⟨g, 0, none⟩) us.length cp) ∧ (w.heap.size ≤ g ∧ us.length ≤ cp ∧ cp ≤ maxLen) ∧ Hid (FilledT w' g us us.length) ∧ Hid (Lexed xs s 0 us)) ∧ Below w.heap.size w w' := by
  have HS := hide hsz
  have HOK := hide (code_ok hc)
  have HV := hide (signTexts_of (code_ok hc))
  have HK := hide (kinds_of (code_ok hc))
  have hbo : bo < w.heap.size := by obtain ⟨D, hD, _⟩ := hi.ops; exact hD.lt
  have hbs : bs < w.heap.size := by obtain ⟨D, hD, _⟩ := hi.srts; exact hD.lt
  have belI : Below w.heap.size w (w.alloc (.cells #[.map (some bo), .map (some bs)] 69)) := below1 _ _
  have k0 : (w.alloc (.cells #[.map (some bo), .map (some bs)] 69)).cell? ⟨w.heap.size, 0, none⟩ = some (.map (some bo)) := by simp [go_sem]
  have k1 : (w.alloc (.cells #[.map (some bo), .map (some bs)] 69)).cell? ⟨w.heap.size, 1, none⟩ = some (.map (some bs)) := by simp [go_sem]
  have HIJ := hide (hi.kept (below1 w (.cells #[.map (some bo), .map (some bs)] 69)))
  clear hi hsz hc
  go_enter Tryz.func39, Tryz.ntmps39
  go_wp2_with fail
  obtain ⟨W0, hW0⟩ : ∃ W0, W0 = w.alloc (.cells #[.map (some bo), .map (some bs)] 69) := ⟨_, rfl⟩
  have hz0 : w.heap.size + 1 = W0.heap.size := by rw [hW0]; simp
  rw [← hW0] at belI k0 k1 HIJ ⊢
  clear hW0
  have n1 : ¬ W0.heap.size = w.heap.size := by omega
  go_region_held (fun w' => w'.cell? ⟨w.heap.size, 0, none⟩ = some (.map (some bo)) ∧ w'.cell? ⟨w.heap.size, 1, none⟩ = some (.map (some bs))) (go_keep)
    (first | (go_at_call 78; refine (longestText_any bo bs xs _ (by first | exact (unhide HIJ).kept (Below.refl _ _).drew | exact ((unhide HIJ).kept (below1 _ _)).kept (Below.refl _ _).drew) (unhide HV) (unhide HS) (unhide HOK)).mono ?_; rintro e w2 ⟨⟨L, rfl, hL, hLx⟩, hb2⟩; have q0 := hb2.cell (p := ⟨w.heap.size, 0, none⟩) (by first | (simp; omega)); have q1 := hb2.cell (p := ⟨w.heap.size, 1, none⟩) (by first | (simp; omega)); have HLX := hide hLx; have HB2 := hide hb2; obtain ⟨hc2, hf2⟩ := bcell hb2; clear hLx hb2))
  · have hz2 : W0.heap.size ≤ w2.heap.size := (unhide HB2).size
    have HSC := hide (scan_startA (w2 := w2) (L := L) (s := s) ((unhide HIJ).kept ((Below.refl _ _).drew.trans (unhide HB2))) (by omega) (by omega))
    have HBEL : Below w.heap.size w (w2.alloc (.cells #[.map (some bo), .map (some bs), .int .i64 (L : Int), .string s, .int .i64 0, .int .i64 0, .slice none 0 0] 152)) := (belI.drew.trans ((unhide HB2).mono belI.size)).alloc (by omega) _
    have hPW : w.heap.size ≤ w2.heap.size := by omega
    have hsp := (unhide HSC).lt
    go_wp2_with fail
    refine (scan_any _ bo bs L xs s _ (unhide HSC) h20 hL (unhide HLX) (unhide HV) (unhide HK)).mono ?_
    rintro e w4 ⟨rfl, g, cp, us, hcell, ⟨hpg, hcp, hcpm⟩, hfil, hlex, hbel⟩
    have c6 := unhide hcell
    have bel4 := HBEL.trans (hbel.mono hPW)
    go_wp2_with fail
    go_ret
    exact ⟨⟨g, cp, us, rfl, ⟨by omega, hcp, hcpm⟩, hfil, hlex⟩, bel4⟩
  · have hz2 : W0.heap.size < w2.heap.size := by have := (unhide HB2).size; simp at this; omega
    have HSC := hide (scan_startB (w2 := w2) (p := W0.heap.size) (L := L) (s := s) ((((unhide HIJ).kept (below1 _ _)).kept (Below.refl _ _).drew).kept (unhide HB2)) (by omega) (by omega) (fun j hj => by
      rw [hc2 _ _ (by simp)]
      match j, hj with
      | 0, _ => simp [go_sem]
      | 1, _ => simp [go_sem]
      | 2, _ => simp [go_sem]
      | 3, _ => simp [go_sem]
      | 4, _ => simp [go_sem]
      | 5, _ => simp [go_sem]
      | 6, _ => simp [go_sem]) (fun o => by rw [hf2 _ _ (by simp)]; simp [go_sem]))
    have HBEL : Below w.heap.size w (w2.setCells W0.heap.size 0 [.map (some bo), .map (some bs), .int .i64 (L : Int), .string s, .int .i64 0, .int .i64 0, .slice none 0 0]) := below_setCells belI.size _ _ _ ((belI.alloc belI.size _).drew.trans ((unhide HB2).mono (by have := belI.size; simp; omega)))
    have hPW : w.heap.size ≤ W0.heap.size := belI.size
    have hsp := (unhide HSC).lt
    go_wp2_with fail
    refine (scan_any _ bo bs L xs s _ (unhide HSC) h20 hL (unhide HLX) (unhide HV) (unhide HK)).mono ?_
    rintro e w4 ⟨rfl, g, cp, us, hcell, ⟨hpg, hcp, hcpm⟩, hfil, hlex, hbel⟩
    have c6 := unhide hcell
    have bel4 := HBEL.trans (hbel.mono hPW)
    go_wp2_with fail
    go_ret
    exact ⟨⟨g, cp, us, rfl, ⟨by omega, hcp, hcpm⟩, hfil, hlex⟩, bel4⟩
end Go.Proofs.YtfboipappaonhaaGreat
