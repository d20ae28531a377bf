import Derived.Deep.AppendLies
import Derived.Deep.RegionHeldLaw
import Derived.Test.YtfboipappaonhaaGreatU07
import Derived.Test.YtfboipappaonhaaGreatU21
import Derived.Test.YtfboipappaonhaaGreatU22
import Derived.Test.YtfboipappaonhaaGreatU23

/-
  Walk: the program's TableOk.
-/
namespace Go.Proofs.YtfboipappaonhaaGreat
set_option maxRecDepth 100000
open Go.RowKit Go.Maps

/-- What lies in memory while the index is being made. -/
structure Lp (w : World) (b off cap : Nat) (xs : List OpR) (n1 : Nat) (wr : World) : Prop where
  box : wr.cell? ⟨w.heap.size, 0, none⟩ = some (.slice (some ⟨b, off, none⟩) xs.length cap)
  r0 : wr.cell? ⟨w.heap.size + 1, 0, none⟩ = some (.map none)
  r1 : wr.cell? ⟨w.heap.size + 1, 1, none⟩ = some (.map none)
  f0 : wr.frozen? ⟨w.heap.size + 1, 0, none⟩ = false
  f1 : wr.frozen? ⟨w.heap.size + 1, 1, none⟩ = false
  x0 : wr.cell? ⟨n1 + 1 + 1, 0, none⟩ = some (.map (some n1))
  x1 : wr.cell? ⟨n1 + 1 + 1, 1, none⟩ = some (.map (some (n1 + 1)))
  ops : Ops wr b off xs
  bel : Below w.heap.size w wr
  lt : n1 + 1 + 1 < wr.heap.size
  ord : w.heap.size + 1 < n1

theorem Kept2.frozen {w w' : World} {bo bs : Nat} (h : Kept2 w w' bo bs) {b : Nat} (hb : b < w.heap.size) (h1 : b ≠ bo) (h2 : b ≠ bs) (o : Nat) : w'.frozen? ⟨b, o, none⟩ = w.frozen? ⟨b, o, none⟩ :=
  World.frozen?_of_block (w := w) (h.block b hb h1 h2)

theorem Lp.step {w : World} {b off cap n1 : Nat} {xs : List OpR} {wr wr' : World} (h : Lp w b off cap xs n1 wr) (hk : Kept2 wr wr' n1 (n1 + 1)) (hB : b < w.heap.size) : Lp w b off cap xs n1 wr' := by
  have hlt := h.lt
  have hord := h.ord
  have a := hk.cell (b := w.heap.size) (by omega) (by omega) (by omega)
  have c := hk.cell (b := w.heap.size + 1) (by omega) (by omega) (by omega)
  have d := hk.cell (b := n1 + 1 + 1) (by omega) (by omega) (by omega)
  have e := hk.cell (b := b) (by omega) (by omega) (by omega)
  have f := hk.frozen (b := w.heap.size + 1) (by omega) (by omega) (by omega)
  refine ⟨(a _).trans h.box, (c _).trans h.r0, (c _).trans h.r1, (f _).trans h.f0, (f _).trans h.f1, (d _).trans h.x0, (d _).trans h.x1, fun i hi => ?_, h.bel.trans (hk.below (by omega) (by omega) (by omega)), Nat.lt_of_lt_of_le hlt hk.size, hord⟩
  obtain ⟨q0, q1, q2, q3⟩ := h.ops i hi
  exact ⟨(e _).trans q0, (e _).trans q1, (e _).trans q2, (e _).trans q3⟩

theorem Lp.below {w : World} {b off cap n1 : Nat} {xs : List OpR} {wr wr' : World} (h : Lp w b off cap xs n1 wr) (hb : Below wr.heap.size wr wr') (hB : b < w.heap.size) : Lp w b off cap xs n1 wr' :=
  h.step (Kept2.of_below hb) hB

theorem Idx.set {w : World} {bo bs k b o : Nat} {xs : List OpR} {v : Value} (h : Idx w bo bs xs k) (h1 : bo ≠ b) (h2 : bs ≠ b) : Idx (w.setCell ⟨b, o, none⟩ v) bo bs xs k := by
  obtain ⟨⟨D, a1, a2⟩, ⟨E, a3, a4⟩, a5⟩ := h
  have hg : w.grownBy (w.setCell ⟨b, o, none⟩ v) (some b) := ⟨rfl, rfl, rfl, by simp [World.setCell], fun i _ hi => Below.heap_setCell _ _ _ _ (fun e => hi (by rw [e]))⟩
  exact ⟨⟨D, a1.kept hg (fun e => h1 (Option.some.inj e)), a2⟩, ⟨E, a3.kept hg (fun e => h2 (Option.some.inj e)), a4⟩, a5⟩

theorem Idx.start (w : World) (xs : List OpR) (o : Obj) : Idx (((w.alloc (.map #[] 0)).alloc (.map #[] 0)).alloc o) w.heap.size (w.heap.size + 1) xs 0 := by
  have h1 := World.ownsMap_made (H := Unit) w Tryz.prog 161 opElem
  have h2 := World.ownsMap_made (H := Unit) (w.alloc (.map #[] 0)) Tryz.prog 3 (plainElem Tryz.prog 3)
  have e : (w.alloc (.map #[] 0)).heap.size = w.heap.size + 1 := by simp
  rw [e] at h2
  refine ⟨⟨_, (h1.alloc _).alloc _, fun s kd _ _ => ?_⟩, ⟨_, h2.alloc _, fun l _ => ?_⟩, by omega⟩
  · simp [Maps.has]
  · simp [Maps.has]

theorem cell_alloc3 {w1 : World} {b o : Nat} (h : b < w1.heap.size) (o1 o2 o3 : Obj) : (((w1.alloc o1).alloc o2).alloc o3).cell? ⟨b, o, none⟩ = w1.cell? ⟨b, o, none⟩ :=
  (((below1 _ o1).alloc (by simp) o2).alloc (by simp; omega) o3).cell (p := ⟨b, o, none⟩) h

theorem frozen_alloc3 {w1 : World} {b o : Nat} (h : b < w1.heap.size) (o1 o2 o3 : Obj) : (((w1.alloc o1).alloc o2).alloc o3).frozen? ⟨b, o, none⟩ = w1.frozen? ⟨b, o, none⟩ :=
  (((below1 _ o1).alloc (by simp) o2).alloc (by simp; omega) o3).frozen (p := ⟨b, o, none⟩) h

theorem Lp.start {w w1 : World} {b off cap : Nat} {xs : List OpR} (hw : Ops w b off xs) (hB : b < w.heap.size) (t t' t3 : TypeId)
    (hb1 : Below ((w.alloc (.cells #[.slice (some ⟨b, off, none⟩) xs.length cap] t)).alloc (.cells #[.map none, .map none] t')).heap.size ((w.alloc (.cells #[.slice (some ⟨b, off, none⟩) xs.length cap] t)).alloc (.cells #[.map none, .map none] t')) w1) :
    Lp w b off cap xs w1.heap.size (((w1.alloc (.map #[] 0)).alloc (.map #[] 0)).alloc (.cells #[.map (some w1.heap.size), .map (some (w1.heap.size + 1))] t3)) := by
  obtain ⟨hc1, hf1⟩ := bcell hb1
  have hz1 : w.heap.size + 1 < w1.heap.size := by have := hb1.size; simp at this; omega
  have hb01 : Below w.heap.size w w1 := ((below1 _ _).alloc (by simp) _).trans (hb1.mono (by simp; omega))
  refine ⟨?_, ?_, ?_, ?_, ?_, ?_, ?_, ?_, ?_, ?_, hz1⟩
  · rw [cell_alloc3 (by omega), hc1 _ _ (by simp; omega)]; simp [go_sem]
  · rw [cell_alloc3 (by omega), hc1 _ _ (by simp)]; simp [go_sem]
  · rw [cell_alloc3 (by omega), hc1 _ _ (by simp)]; simp [go_sem]
  · rw [frozen_alloc3 (by omega), hf1 _ _ (by simp)]; simp [go_sem]
  · rw [frozen_alloc3 (by omega), hf1 _ _ (by simp)]; simp [go_sem]
  · simp [go_sem]
  · simp [go_sem]
  · exact (hw.below hb01 hB).below (((below1 _ _).alloc (by simp) _).alloc (by simp; omega) _) (by omega)
  · exact ((hb01.alloc (by omega) _).alloc (by simp; omega) _).alloc (by simp; omega) _
  · simp

theorem opcells_after {wr w2 : World} {o : OpR} {t : TypeId} (hb : Below (wr.alloc (.cells #[.string o.s, .int .i64 o.k, .int .i64 o.l, .int .i64 o.sd] t)).heap.size (wr.alloc (.cells #[.string o.s, .int .i64 o.k, .int .i64 o.l, .int .i64 o.sd] t)) w2) :
    w2.cell? ⟨wr.heap.size, 0, none⟩ = some (.string o.s) ∧ w2.cell? ⟨wr.heap.size, 1, none⟩ = some (.int .i64 o.k) ∧ w2.cell? ⟨wr.heap.size, 2, none⟩ = some (.int .i64 o.l) ∧ w2.cell? ⟨wr.heap.size, 3, none⟩ = some (.int .i64 o.sd) := by
  obtain ⟨hc, _⟩ := bcell hb
  refine ⟨?_, ?_, ?_, ?_⟩ <;> (rw [hc _ _ (by simp)]; simp [go_sem])

theorem opcells_later {w2 w3 : World} {n : Nat} {o : OpR} (hb : Below w2.heap.size w2 w3) (hn : n < w2.heap.size) (h0 : w2.cell? ⟨n, 0, none⟩ = some (.string o.s)) (h1 : w2.cell? ⟨n, 1, none⟩ = some (.int .i64 o.k)) (h2 : w2.cell? ⟨n, 2, none⟩ = some (.int .i64 o.l)) (h3 : w2.cell? ⟨n, 3, none⟩ = some (.int .i64 o.sd)) :
    w3.cell? ⟨n, 0, none⟩ = some (.string o.s) ∧ w3.cell? ⟨n, 1, none⟩ = some (.int .i64 o.k) ∧ w3.cell? ⟨n, 2, none⟩ = some (.int .i64 o.l) ∧ w3.cell? ⟨n, 3, none⟩ = some (.int .i64 o.sd) := by
  have e := fun q => hb.cell (p := ⟨n, q, none⟩) hn
  exact ⟨(e _).trans h0, (e _).trans h1, (e _).trans h2, (e _).trans h3⟩

set_option maxHeartbeats 4000000 in
theorem indexTable_any (b off cap : Nat) (xs : List OpR) (w : World) (hm : xs.length ≤ 1048576) (hw : Ops w b off xs) (hs : Sized xs) (hB : b < w.heap.size) :
    Calls Tryz.prog 38 #[.agg #[.slice (some ⟨b, off, none⟩) xs.length cap]] w fun e w' => (∃ (x y : Option Nat) (c : Int), e = .returned (.tuple #[.agg #[.map x, .map y], .int .i64 c]) ∧ IsCode xs c ∧ (c = 0 → ∃ bo bs, x = some bo ∧ y = some bs ∧ Idx w' bo bs xs xs.length)) ∧ Below w.heap.size w w' := by
  have hmm := @run_makeMap Tryz.prog
  by_cases h500 : 500 < xs.length
  · go_enter Tryz.func38, Tryz.ntmps38
    go_wp2
    exact bodyPost_ret (v := .tuple #[.agg #[.map none, .map none], .int .i64 1]) (by simp [results, Tryz.results38, go_sem]) rfl ⟨⟨none, none, 1, rfl, Or.inl ⟨rfl, h500⟩, fun h => absurd h (by decide)⟩, (below1 _ _).alloc (by simp) _⟩
  have h500' : xs.length ≤ 500 := by omega
  go_enter Tryz.func38, Tryz.ntmps38
  go_wp2_with fail
  refine (allWF_any b off cap xs _ hm ((hw.below (below1 _ _) hB).below (below1 _ _) (by simp; omega)) hs (by simp; omega)).mono ?_
  rintro e w1 ⟨⟨v, rfl, hv⟩, hb1⟩
  have HV := hide hv
  clear hv
  obtain ⟨hc1, hf1⟩ := bcell hb1
  have hz1 : w.heap.size + 1 < w1.heap.size := by have := hb1.size; simp at this; omega
  have hb01 : Below w.heap.size w w1 := ((below1 _ _).alloc (by simp) _).trans (hb1.mono (by simp; omega))
  cases v
  · go_wp2_with fail
    refine bodyPost_ret (v := .tuple #[.agg #[.map none, .map none], .int .i64 2]) (by simp [results, Tryz.results38, go_sem, hc1]) rfl ⟨⟨none, none, 2, rfl, Or.inr ⟨h500', Or.inl ⟨rfl, fun h => ?_⟩⟩, fun h => absurd h (by decide)⟩, (hb01.setCell (by simp) _).setCell (by simp) _⟩
    exact Bool.false_ne_true ((unhide HV).2 h)
  · have hall : okTo xs xs.length := (unhide HV).1 rfl
    have hL := hide (Lp.start (t3 := 69) hw hB _ _ hb1)
    have hI := hide (Idx.start w1 xs (.cells #[.map (some w1.heap.size), .map (some (w1.heap.size + 1))] 69))
    have hbox : ∀ o1 o2 o3, (((w1.alloc o1).alloc o2).alloc o3).cell? ⟨w.heap.size, 0, none⟩ = some (.slice (some ⟨b, off, none⟩) xs.length cap) := fun o1 o2 o3 => by
      rw [cell_alloc3 (by omega), hc1 _ _ (by simp; omega)]; simp [go_sem]
    clear HV hc1 hf1 hb1
    go_wp2_with fail
    clear hbox
    go_loopw [24, 5] (fun i mx wr => ∃ (k : Nat) (m : Bool), k ≤ xs.length ∧ i = .int .i64 k ∧ mx = .bool m ∧ Hid (NoPr 3 xs k ∧ (m = true ↔ ¬ NoPr 4 xs k)) ∧ Hid (Idx wr w1.heap.size (w1.heap.size + 1) xs k) ∧ Hid (Lp w b off cap xs w1.heap.size wr)) (fun i _ _ => xs.length - (intOf i).toNat)
    case atStart => exact ⟨0, false, Nat.zero_le _, rfl, rfl, hide ⟨fun i j _ h => (by omega), ⟨fun h => (by cases h), fun h => absurd (fun i j _ h => (by omega)) h⟩⟩, hI, hL⟩
    case round =>
      clear hI hL
      obtain ⟨k, m, hk, rfl, rfl, hno, hI, hL⟩ := hrel
      by_cases hlt : k < xs.length
      · have HO := hide (show okTo xs (k + 1) from fun j hj => hall j (by omega))
        obtain ⟨a0, a1, a2, a3⟩ := (unhide hL).ops k hlt
        have x0 := (unhide hL).x0
        have x1 := (unhide hL).x1
        have xlt := (unhide hL).lt
        have hI' := hide ((unhide hI).kept (below1 wr (.cells #[.string (atO xs k).s, .int .i64 (atO xs k).k, .int .i64 (atO xs k).l, .int .i64 (atO xs k).sd] 123)))
        have hL' := hide ((unhide hL).below (below1 wr (.cells #[.string (atO xs k).s, .int .i64 (atO xs k).k, .int .i64 (atO xs k).l, .int .i64 (atO xs k).sd] 123)) hB)
        clear hI hL
        go_wp2_with fail
        refine (hasRival_any _ _ _ _ _ (unhide hI') (unhide HO) (hs k hlt)).mono ?_
        rintro e w2 ⟨⟨v, rfl, hv⟩, hb2⟩
        have HV := hide hv
        clear hv
        have hL2 := (unhide hL').below hb2 hB
        have hI2 := hide ((unhide hI').kept hb2)
        have y0 := hL2.x0
        have y1 := hL2.x1
        have r0 := hL2.r0
        have r1 := hL2.r1
        have f0 := hL2.f0
        have f1 := hL2.f1
        have bel2 := hL2.bel
        have ylt : wr.heap.size < w2.heap.size := by have := hb2.size; simp at this; omega
        obtain ⟨o0, o1, o2, o3⟩ := opcells_after hb2
        have HL2 := hide hL2
        clear hL2 hI' hL' hb2 a0 a1 a2 a3 x0 x1 xlt
        cases v
        · have hn3 := hide (NoPr_succ (unhide hno).1 (fun j hj hc => Bool.false_ne_true ((unhide HV).2 ⟨j, hj, hc⟩)))
          cases m
          · have hn4 : NoPr 4 xs k := Classical.byContradiction fun x => Bool.false_ne_true ((unhide hno).2.2 x)
            have HN4 := hide hn4
            clear hn4 HV hno
            go_wp2_with fail
            refine (hasOther_any _ _ _ _ _ (unhide hI2) (unhide HO) (unhide HN4)).mono ?_
            rintro e w3 ⟨⟨v', rfl, hv'⟩, hb3⟩
            have HV' := hide hv'
            clear hv'
            have hL3 := (unhide HL2).below hb3 hB
            have hI3 := hide ((unhide hI2).kept hb3)
            have z0 := hL3.x0
            have z1 := hL3.x1
            have zlt : wr.heap.size < w3.heap.size := Nat.lt_of_lt_of_le ylt hb3.size
            obtain ⟨p0, p1, p2, p3⟩ := opcells_later hb3 ylt o0 o1 o2 o3
            have HL3 := hide hL3
            clear hL3 hI2 HL2 hb3 y0 y1 r0 r1 f0 f1 o0 o1 o2 o3
            go_wp2_with fail
            refine (add_any _ _ _ _ _ (unhide hI3) (unhide HO) (hs k hlt) (by omega)).mono ?_
            rintro e w4 ⟨rfl, hI4, hk4⟩
            have HI4 := hide hI4
            have HL4 := hide ((unhide HL3).step hk4 hB)
            clear hI4 hk4
            go_wp2_with fail
            refine ⟨⟨k + 1, v', by omega, by go_num, rfl, hide ⟨unhide hn3, ?_⟩, HI4, HL4⟩, by simp [intOf]; omega⟩
            rw [unhide HV']
            constructor
            · rintro ⟨j, hj, hc⟩ hn
              exact hn k j hj (by omega) hc
            · intro hn
              exact Classical.byContradiction fun x => hn (NoPr_succ (unhide HN4) (fun j hj hc => x ⟨j, hj, hc⟩))
          · have hn4 := hide (show ¬ NoPr 4 xs (k + 1) from fun h => (unhide hno).2.1 rfl (fun i j hj hi => h i j hj (by omega)))
            clear HV hno
            go_wp2_with fail
            refine (add_any _ _ _ _ _ (unhide hI2) (unhide HO) (hs k hlt) (by omega)).mono ?_
            rintro e w4 ⟨rfl, hI4, hk4⟩
            have HI4 := hide hI4
            have HL4 := hide ((unhide HL2).step hk4 hB)
            clear hI4 hk4
            go_wp2_with fail
            exact ⟨⟨k + 1, true, by omega, by go_num, rfl, hide ⟨unhide hn3, ⟨fun _ => unhide hn4, fun _ => rfl⟩⟩, HI4, HL4⟩, by simp [intOf]; omega⟩
        · have hpr := hide (show Pr 3 xs by
            obtain ⟨j, hj, hc⟩ := (unhide HV).1 rfl
            exact ⟨k, j, hj, hlt, hc⟩)
          clear HV
          go_wp2_with fail
          exact bodyPost_ret (v := .tuple #[.agg #[.map none, .map none], .int .i64 3]) (by simp [results, Tryz.results38, go_sem, r0, r1]) rfl ⟨⟨none, none, 3, rfl, Or.inr ⟨h500', Or.inr ⟨hall, Or.inl ⟨rfl, unhide hpr⟩⟩⟩, fun h => absurd h (by decide)⟩, (bel2.setCell (by simp) _).setCell (by simp) _⟩
      · have hkn : k = xs.length := by omega
        have hn3 := hide (show ¬ Pr 3 xs from NoPr_not (hkn ▸ (unhide hno).1))
        have bel2 := (unhide hL).bel
        have r0 := (unhide hL).r0
        have r1 := (unhide hL).r1
        have f0 := (unhide hL).f0
        have f1 := (unhide hL).f1
        have x0 := (unhide hL).x0
        have x1 := (unhide hL).x1
        have ord := (unhide hL).ord
        cases m
        · have hn4 : NoPr 4 xs k := Classical.byContradiction fun x => Bool.false_ne_true ((unhide hno).2.2 x)
          have HN4 := hide (show ¬ Pr 4 xs from NoPr_not (hkn ▸ hn4))
          have HID := hide (show Idx wr w1.heap.size (w1.heap.size + 1) xs xs.length from hkn ▸ unhide hI)
          clear hn4 hno hkn
          go_wp2_with fail
          exact bodyPost_ret (v := .tuple #[.agg #[.map (some w1.heap.size), .map (some (w1.heap.size + 1))], .int .i64 0]) (by simp [results, Tryz.results38, go_sem, r0, r1]) rfl ⟨⟨_, _, 0, rfl, Or.inr ⟨h500', Or.inr ⟨hall, Or.inr ⟨unhide hn3, Or.inr ⟨rfl, unhide HN4⟩⟩⟩⟩, fun _ => ⟨_, _, rfl, rfl, ((unhide HID).set (by omega) (by omega)).set (by omega) (by omega)⟩⟩, (bel2.setCell (by simp) _).setCell (by simp) _⟩
        · have hp4 := hide (show Pr 4 xs by
            have h4 := (unhide hno).2.1 rfl
            refine Classical.byContradiction fun x => h4 (fun i j hj hi hc => x ⟨i, j, hj, by omega, hc⟩))
          clear hno hkn
          go_wp2_with fail
          exact bodyPost_ret (v := .tuple #[.agg #[.map none, .map none], .int .i64 4]) (by simp [results, Tryz.results38, go_sem, r0, r1]) rfl ⟨⟨none, none, 4, rfl, Or.inr ⟨h500', Or.inr ⟨hall, Or.inr ⟨unhide hn3, Or.inl ⟨rfl, unhide hp4⟩⟩⟩⟩, fun h => absurd h (by decide)⟩, (bel2.setCell (by simp) _).setCell (by simp) _⟩
end Go.Proofs.YtfboipappaonhaaGreat

/-
  Walks: the program's scanner, its parts.
-/
namespace Go.Proofs.YtfboipappaonhaaGreat
set_option maxRecDepth 100000
open Go.RowKit Go.Maps

theorem wordKind_any (c : Nat) (w : World) (h : c = 2 ∨ c = 3) :
    Calls Tryz.prog 128 #[.int .i64 (c : Int)] w fun e w' => e = .returned (.int .i64 ((c : Int) - 1)) ∧ w' = w := by
  rcases h with rfl | rfl
  · go_enter Tryz.func128, Tryz.ntmps128
    go_wp2
    go_ret
    exact ⟨rfl, rfl⟩
  · go_enter Tryz.func128, Tryz.ntmps128
    go_wp2
    go_ret
    exact ⟨rfl, rfl⟩

/-- A scanner in memory. -/
structure Sc (w : World) (p bo bs L : Nat) (s : ByteArray) (gap start : Nat) (v : Value) : Prop where
  c0 : w.cell? ⟨p, 0, none⟩ = some (.map (some bo))
  c1 : w.cell? ⟨p, 1, none⟩ = some (.map (some bs))
  c2 : w.cell? ⟨p, 2, none⟩ = some (.int .i64 (L : Int))
  c3 : w.cell? ⟨p, 3, none⟩ = some (.string s)
  c4 : w.cell? ⟨p, 4, none⟩ = some (.int .i64 (gap : Int))
  c5 : w.cell? ⟨p, 5, none⟩ = some (.int .i64 (start : Int))
  c6 : w.cell? ⟨p, 6, none⟩ = some v
  fz : ∀ o, w.frozen? ⟨p, o, none⟩ = false

set_option maxHeartbeats 1000000 in
theorem goesOn_any (p bo bs L : Nat) (s : ByteArray) (gap start : Nat) (v : Value) (first q : Nat) (w : World) (h : Sc w p bo bs L s gap start v) (hq : q ≤ s.size) (hf : first = 2 ∨ first = 3) :
    Calls Tryz.prog 126 #[.pointer (some ⟨p, 0, none⟩), .int .i64 (first : Int), .int .i64 (q : Int)] w fun e w' => RetB e (q < s.size ∧ (cls (bt s q) = 2 ∨ (cls (bt s q) = 3 ∧ first = 3))) ∧ w' = w := by
  have c3 := h.c3
  clear h
  by_cases hlt : q < s.size
  · have hltI : (q : Int) < (s.size : Int) := by omega
    have hb := hide (bt_get hlt)
    have HF := hide hf
    clear hf
    go_enter Tryz.func126, Tryz.ntmps126
    go_wp2_with (go_at_call 159; refine (staysWord_any first _ _).mono ?_; rintro e w' ⟨rfl, hx⟩; obtain rfl := hx.symm)
    go_ret
    refine ⟨⟨_, rfl, ?_⟩, rfl⟩
    unfold Says stays
    rw [unhide hb]
    simp [hlt]
  · have hltI : ¬ (q : Int) < (s.size : Int) := by omega
    go_enter Tryz.func126, Tryz.ntmps126
    go_wp2_with fail
    go_ret
    exact ⟨⟨false, rfl, says_false (by simp)⟩, rfl⟩

end Go.Proofs.YtfboipappaonhaaGreat

/-
  Walks: the program's scanner: a token is finished.
-/
namespace Go.Proofs.YtfboipappaonhaaGreat
set_option maxRecDepth 100000
open Go.RowKit Go.Maps

set_option linter.unusedSimpArgs false

/-- Nothing but a scanner's block and its row has turned. -/
structure KeptS (w w' : World) (p : Nat) (row : Option Nat) : Prop where
  os : w'.os = w.os
  tape : w'.tape = w.tape
  output : w'.output = w.output
  size : w.heap.size ≤ w'.heap.size
  block : ∀ i, i < w.heap.size → i ≠ p → some i ≠ row → w'.heap[i]? = w.heap[i]?

theorem cell_set3 {W : World} {p : Nat} {V A B : Value} (h4 : ∃ u, W.cell? ⟨p, 4, none⟩ = some u) (h5 : ∃ u, W.cell? ⟨p, 5, none⟩ = some u) (h6 : ∃ u, W.cell? ⟨p, 6, none⟩ = some u) :
    (((W.setCell ⟨p, 6, none⟩ V).setCell ⟨p, 4, none⟩ A).setCell ⟨p, 5, none⟩ B).cell? ⟨p, 4, none⟩ = some A ∧ (((W.setCell ⟨p, 6, none⟩ V).setCell ⟨p, 4, none⟩ A).setCell ⟨p, 5, none⟩ B).cell? ⟨p, 5, none⟩ = some B ∧
    (((W.setCell ⟨p, 6, none⟩ V).setCell ⟨p, 4, none⟩ A).setCell ⟨p, 5, none⟩ B).cell? ⟨p, 6, none⟩ = some V ∧ ∀ o, o < 4 → (((W.setCell ⟨p, 6, none⟩ V).setCell ⟨p, 4, none⟩ A).setCell ⟨p, 5, none⟩ B).cell? ⟨p, o, none⟩ = W.cell? ⟨p, o, none⟩ := by
  obtain ⟨u4, h4⟩ := h4
  obtain ⟨u5, h5⟩ := h5
  obtain ⟨u6, h6⟩ := h6
  have k4 : (W.setCell ⟨p, 6, none⟩ V).cell? ⟨p, 4, none⟩ = some u4 := by rw [World.cell?_setCell_other _ _ _ _ (by simp)]; exact h4
  have k5 : ((W.setCell ⟨p, 6, none⟩ V).setCell ⟨p, 4, none⟩ A).cell? ⟨p, 5, none⟩ = some u5 := by rw [World.cell?_setCell_other _ _ _ _ (by simp), World.cell?_setCell_other _ _ _ _ (by simp)]; exact h5
  refine ⟨?_, World.cell?_setCell_same _ _ _ k5, ?_, fun o ho => ?_⟩
  · rw [World.cell?_setCell_other _ _ _ _ (by simp)]
    exact World.cell?_setCell_same _ _ _ k4
  · rw [World.cell?_setCell_other _ _ _ _ (by simp), World.cell?_setCell_other _ _ _ _ (by simp)]
    exact World.cell?_setCell_same _ _ _ h6
  · rw [World.cell?_setCell_other _ _ _ _ (by simp), World.cell?_setCell_other _ _ _ _ (by simp), World.cell?_setCell_other _ _ _ _ (by simp)]

theorem set1_grown (W : World) (p o : Nat) (V : Value) : W.grownBy (W.setCell ⟨p, o, none⟩ V) (some p) :=
  ⟨rfl, rfl, rfl, by simp [World.setCell], fun i _ hi => Below.heap_setCell _ _ _ _ (fun e => hi (by rw [e]))⟩

theorem fin_close {w w4 : World} {p bo bs L gap start q base g c n : Nat} {s : ByteArray} {row : Option Nat} {v : Value} {cs : List Value} {o : Obj}
    (hc : w.cell? ⟨p, 0, none⟩ = some (.map (some bo)) ∧ w.cell? ⟨p, 1, none⟩ = some (.map (some bs)) ∧ w.cell? ⟨p, 2, none⟩ = some (.int .i64 (L : Int))) (hfar : ∀ o, w4.cell? ⟨p, o, none⟩ = w.cell? ⟨p, o, none⟩)
    (q3 : w4.cell? ⟨p, 3, none⟩ = some (.string s)) (q4 : w4.cell? ⟨p, 4, none⟩ = some (.int .i64 (gap : Int))) (q5 : w4.cell? ⟨p, 5, none⟩ = some (.int .i64 (start : Int))) (q6 : w4.cell? ⟨p, 6, none⟩ = some v)
    (fz : ∀ o, w4.frozen? ⟨p, o, none⟩ = false) (hown : w4.ownsRow base 97 3 (.slice (some ⟨g, 0, none⟩) n c) n cs) (hg : (w.alloc o).drew.grownBy w4 row) (hgp : ¬ g = p) :
    Hid (Sc (((w4.setCell ⟨p, 6, none⟩ (.slice (some ⟨g, 0, none⟩) n c)).setCell ⟨p, 4, none⟩ (.int .i64 (q : Int))).setCell ⟨p, 5, none⟩ (.int .i64 (q : Int))) p bo bs L s q q (.slice (some ⟨g, 0, none⟩) n c)) ∧
    Hid ((((w4.setCell ⟨p, 6, none⟩ (.slice (some ⟨g, 0, none⟩) n c)).setCell ⟨p, 4, none⟩ (.int .i64 (q : Int))).setCell ⟨p, 5, none⟩ (.int .i64 (q : Int))).ownsRow base 97 3 (.slice (some ⟨g, 0, none⟩) n c) n cs) ∧ g ≠ p ∧
    KeptS w (((w4.setCell ⟨p, 6, none⟩ (.slice (some ⟨g, 0, none⟩) n c)).setCell ⟨p, 4, none⟩ (.int .i64 (q : Int))).setCell ⟨p, 5, none⟩ (.int .i64 (q : Int))) p row := by
  obtain ⟨a4, a5, a6, alo⟩ := cell_set3 (V := .slice (some ⟨g, 0, none⟩) n c) (A := .int .i64 (q : Int)) (B := .int .i64 (q : Int)) ⟨_, q4⟩ ⟨_, q5⟩ ⟨_, q6⟩
  have hne : ∀ b : Nat, ¬ b = p → some b ≠ some p := fun b h e => h (Option.some.inj e)
  refine ⟨hide ⟨(alo 0 (by omega)).trans ((hfar 0).trans hc.1), (alo 1 (by omega)).trans ((hfar 1).trans hc.2.1), (alo 2 (by omega)).trans ((hfar 2).trans hc.2.2), (alo 3 (by omega)).trans q3, a4, a5, a6, fun o => ?_⟩, hide ?_, hgp, ?_⟩
  · rw [World.frozen?_setCell, World.frozen?_setCell, World.frozen?_setCell]
    exact fz o
  · exact ((hown.kept (set1_grown _ p 6 _) (Or.inr (by simp [Value.ownBlock]; exact hgp))).kept (set1_grown _ p 4 _) (Or.inr (by simp [Value.ownBlock]; exact hgp))).kept (set1_grown _ p 5 _) (Or.inr (by simp [Value.ownBlock]; exact hgp))
  · have e1 := hg.size
    simp at e1
    refine ⟨hg.os, hg.tape, hg.output, by simp [World.setCell]; omega, fun i hi h1 h2 => ?_⟩
    rw [Below.heap_setCell _ _ _ _ (by simpa using h1), Below.heap_setCell _ _ _ _ (by simpa using h1), Below.heap_setCell _ _ _ _ (by simpa using h1)]
    exact (hg.block i (by simp; omega) h2).trans ((below1 w o).block i hi)

set_option maxHeartbeats 8000000 in
theorem finish_any (p bo bs L : Nat) (s : ByteArray) (gap start : Nat) (v : Value) (kind q base : Nat) (acc : List TokR) (w : World) (h : Sc w p bo bs L s gap start v) (h1 : gap ≤ start) (h2 : start ≤ q) (hq : q ≤ s.size)
    (hown : w.ownsRow base 97 3 v acc.length (cellsTk acc)) (hne : v.ownBlock ≠ some p) (hacc : acc.length ≤ 20000) (hbase : base ≤ w.heap.size) :
    Calls Tryz.prog 127 #[.pointer (some ⟨p, 0, none⟩), .int .i64 (kind : Int), .int .i64 (q : Int)] w fun e w' => e = .returned (.tuple #[]) ∧ ∃ g cap : Nat, Hid (Sc w' p bo bs L s q q (.slice (some ⟨g, 0, none⟩) (acc.length + 1) cap)) ∧ Hid (w'.ownsRow base 97 3 (.slice (some ⟨g, 0, none⟩) (acc.length + 1) cap) (acc.length + 1) (cellsTk (acc ++ [⟨(kind : Int), s.extract gap start, s.extract start q⟩]))) ∧ g ≠ p ∧ KeptS w w' p v.ownBlock := by
  have hp : p < w.heap.size := block_lt_of_cell h.c0
  obtain ⟨c0, c1, c2, c3, c4, c5, c6, fz⟩ := h
  have hs1 : (gap : Int) ≤ (start : Int) := by omega
  have hs2 : (start : Int) ≤ (s.size : Int) := by omega
  have hs3 : (start : Int) ≤ (q : Int) := by omega
  have hs4 : (q : Int) ≤ (s.size : Int) := by omega
  have k6 : ∀ o, (w.alloc o).drew.cell? ⟨p, 6, none⟩ = some v := fun o => ((below1 w o).cell (p := ⟨p, 6, none⟩) hp).trans c6
  have HO := hide hown
  have HN := hide hne
  have HC := hide (And.intro c0 (And.intro c1 c2))
  clear hown hne c0 c1 c2
  obtain ⟨i0, hi, hz0, hz1, hz2⟩ := info_parts infoT
  have HI := hide hi
  have HZ := hide (And.intro hz0 (And.intro hz1 hz2))
  clear hi hz0 hz1 hz2
  have hnp : ¬ w.heap.size = p := by omega
  go_enter Tryz.func127, Tryz.ntmps127
  go_wp2_with fail
  have hS : (fun W : World => W.cell? ⟨p, 3, none⟩ = some (.string s) ∧ W.cell? ⟨p, 4, none⟩ = some (.int .i64 (gap : Int)) ∧ W.cell? ⟨p, 5, none⟩ = some (.int .i64 (start : Int))) w.drew := ⟨c3, c4, c5⟩
  have HS := hide hS
  have HS1 := hide (show (fun W : World => W.cell? ⟨p, 3, none⟩ = some (.string s) ∧ W.cell? ⟨p, 4, none⟩ = some (.int .i64 (gap : Int)) ∧ W.cell? ⟨p, 5, none⟩ = some (.int .i64 (start : Int))) (w.alloc (.cells #[.int .i64 (kind : Int), .string (s.extract gap start), .string (s.extract start q)] 97)).drew from ⟨((below1 w _).cell (p := ⟨p, 3, none⟩) hp).trans c3, ((below1 w _).cell (p := ⟨p, 4, none⟩) hp).trans c4, ((below1 w _).cell (p := ⟨p, 5, none⟩) hp).trans c5⟩)
  refine wp_region_held_drew (S := fun W : World => W.cell? ⟨p, 3, none⟩ = some (.string s) ∧ W.cell? ⟨p, 4, none⟩ = some (.int .i64 (gap : Int)) ∧ W.cell? ⟨p, 5, none⟩ = some (.int .i64 (start : Int))) (by kernel_rfl) hS (fun _ => ?_)
  refine wpAnyH_take (i := 0) (v := ?_) rfl (by kernel_rfl) (by kernel_rfl) (by kernel_rfl) (fun _ _ _ h => h) (Or.inl ⟨by rfl, ?_⟩) hS ?_
  rotate_left
  · intro W hW; obtain ⟨s3, s4, s5⟩ := hW; simp only [List.getElem_toArray, List.getElem_cons_succ, List.getElem_cons_zero]; go_simp; first | done | (with_reducible rfl)
  simp only [List.getElem_toArray, List.getElem_cons_succ, List.getElem_cons_zero]
  simp only [Act.put, List.setIfInBounds_toArray, List.set_cons_zero, List.set_cons_succ]
  refine wpAnyH_take (i := 1) (v := ?_) rfl (by kernel_rfl) (by kernel_rfl) (by kernel_rfl) (fun _ _ _ h => h) (Or.inl ⟨by rfl, ?_⟩) hS ?_
  rotate_left
  · intro W hW; obtain ⟨s3, s4, s5⟩ := hW; simp only [List.getElem_toArray, List.getElem_cons_succ, List.getElem_cons_zero]; go_simp; first | done | (with_reducible rfl)
  simp only [List.getElem_toArray, List.getElem_cons_succ, List.getElem_cons_zero]
  simp only [Act.put, List.setIfInBounds_toArray, List.set_cons_zero, List.set_cons_succ]
  refine wpAnyH_take (i := 2) (v := ?_) rfl (by kernel_rfl) (by kernel_rfl) (by kernel_rfl) (fun _ _ _ h => h) (Or.inl ⟨by rfl, ?_⟩) hS ?_
  rotate_left
  · intro W hW; obtain ⟨s3, s4, s5⟩ := hW; simp only [List.getElem_toArray, List.getElem_cons_succ, List.getElem_cons_zero]; go_simp; first | done | (with_reducible rfl)
  simp only [List.getElem_toArray, List.getElem_cons_succ, List.getElem_cons_zero]
  simp only [Act.put, List.setIfInBounds_toArray, List.set_cons_zero, List.set_cons_succ]
  refine wpAnyH_take (i := 3) (v := ?_) rfl (by kernel_rfl) (by kernel_rfl) (by kernel_rfl) (fun _ _ _ h => h) (Or.inl ⟨by rfl, ?_⟩) hS ?_
  rotate_left
  · intro W hW; obtain ⟨s3, s4, s5⟩ := hW; simp only [List.getElem_toArray, List.getElem_cons_succ, List.getElem_cons_zero]; go_simp; first | done | (with_reducible rfl)
  simp only [List.getElem_toArray, List.getElem_cons_succ, List.getElem_cons_zero]
  simp only [Act.put, List.setIfInBounds_toArray, List.set_cons_zero, List.set_cons_succ]
  refine wpAnyH_take (i := 5) (v := ?_) rfl (by kernel_rfl) (by kernel_rfl) (by kernel_rfl) (fun _ _ _ h => h) (Or.inl ⟨by rfl, ?_⟩) hS ?_
  rotate_left
  · intro W hW; obtain ⟨s3, s4, s5⟩ := hW; simp only [List.getElem_toArray, List.getElem_cons_succ, List.getElem_cons_zero]; go_simp; first | done | (with_reducible rfl)
  simp only [List.getElem_toArray, List.getElem_cons_succ, List.getElem_cons_zero]
  simp only [Act.put, List.setIfInBounds_toArray, List.set_cons_zero, List.set_cons_succ]
  refine wpAnyH_take (i := 6) (v := ?_) rfl (by kernel_rfl) (by kernel_rfl) (by kernel_rfl) (fun _ _ _ h => h) (Or.inl ⟨by rfl, ?_⟩) hS ?_
  rotate_left
  · intro W hW; obtain ⟨s3, s4, s5⟩ := hW; simp only [List.getElem_toArray, List.getElem_cons_succ, List.getElem_cons_zero]; go_simp; first | done | (with_reducible rfl)
  simp only [List.getElem_toArray, List.getElem_cons_succ, List.getElem_cons_zero]
  simp only [Act.put, List.setIfInBounds_toArray, List.set_cons_zero, List.set_cons_succ]
  refine wpAnyH_take (i := 7) (v := ?_) rfl (by kernel_rfl) (by kernel_rfl) (by kernel_rfl) (fun _ _ _ h => h) (Or.inl ⟨by rfl, ?_⟩) hS ?_
  rotate_left
  · intro W hW; obtain ⟨s3, s4, s5⟩ := hW; simp only [List.getElem_toArray, List.getElem_cons_succ, List.getElem_cons_zero]; go_simp; first | done | (with_reducible rfl)
  simp only [List.getElem_toArray, List.getElem_cons_succ, List.getElem_cons_zero]
  simp only [Act.put, List.setIfInBounds_toArray, List.set_cons_zero, List.set_cons_succ]
  refine wpAnyH_take (i := 8) (v := ?_) rfl (by kernel_rfl) (by kernel_rfl) (by kernel_rfl) (fun _ _ _ h => h) (Or.inl ⟨by rfl, ?_⟩) hS ?_
  rotate_left
  · intro W hW; obtain ⟨s3, s4, s5⟩ := hW; simp only [List.getElem_toArray, List.getElem_cons_succ, List.getElem_cons_zero]; go_simp; first | done | (with_reducible rfl)
  simp only [List.getElem_toArray, List.getElem_cons_succ, List.getElem_cons_zero]
  simp only [Act.put, List.setIfInBounds_toArray, List.set_cons_zero, List.set_cons_succ]
  refine wpAnyH_take (i := 9) (v := ?_) rfl (by kernel_rfl) (by kernel_rfl) (by kernel_rfl) (fun _ _ _ h => h) (Or.inl ⟨by rfl, ?_⟩) hS ?_
  rotate_left
  · intro W hW; obtain ⟨s3, s4, s5⟩ := hW; simp only [List.getElem_toArray, List.getElem_cons_succ, List.getElem_cons_zero]; go_simp; first | done | (with_reducible rfl)
  simp only [List.getElem_toArray, List.getElem_cons_succ, List.getElem_cons_zero]
  simp only [Act.put, List.setIfInBounds_toArray, List.set_cons_zero, List.set_cons_succ]
  refine wpAnyH_take (i := 10) (v := ?_) rfl (by kernel_rfl) (by kernel_rfl) (by kernel_rfl) (fun _ _ _ h => h) (Or.inl ⟨by rfl, ?_⟩) hS ?_
  rotate_left
  · intro W hW; obtain ⟨s3, s4, s5⟩ := hW; simp only [List.getElem_toArray, List.getElem_cons_succ, List.getElem_cons_zero]; go_simp; first | done | (with_reducible rfl)
  simp only [List.getElem_toArray, List.getElem_cons_succ, List.getElem_cons_zero]
  simp only [Act.put, List.setIfInBounds_toArray, List.set_cons_zero, List.set_cons_succ]
  refine wpAnyH_take (i := 11) (v := ?_) rfl (by kernel_rfl) (by kernel_rfl) (by kernel_rfl) (fun _ _ _ h => h) (Or.inl ⟨by rfl, ?_⟩) hS ?_
  rotate_left
  · intro W hW; obtain ⟨s3, s4, s5⟩ := hW; simp only [List.getElem_toArray, List.getElem_cons_succ, List.getElem_cons_zero]; go_simp; first | done | (with_reducible rfl)
  simp only [List.getElem_toArray, List.getElem_cons_succ, List.getElem_cons_zero]
  simp only [Act.put, List.setIfInBounds_toArray, List.set_cons_zero, List.set_cons_succ]
  refine wpAnyH_take (i := 12) (v := ?_) rfl (by kernel_rfl) (by kernel_rfl) (by kernel_rfl) (fun _ _ _ h => h) (Or.inl ⟨by rfl, ?_⟩) hS ?_
  rotate_left
  · intro W hW; obtain ⟨s3, s4, s5⟩ := hW; simp only [List.getElem_toArray, List.getElem_cons_succ, List.getElem_cons_zero]; go_simp; first | done | (with_reducible rfl)
  simp only [List.getElem_toArray, List.getElem_cons_succ, List.getElem_cons_zero]
  simp only [Act.put, List.setIfInBounds_toArray, List.set_cons_zero, List.set_cons_succ]
  refine wpAnyH_take (i := 13) (v := ?_) rfl (by kernel_rfl) (by kernel_rfl) (by kernel_rfl) (fun _ _ _ h => h) (Or.inl ⟨by rfl, ?_⟩) hS ?_
  rotate_left
  · intro W hW; obtain ⟨s3, s4, s5⟩ := hW; simp only [List.getElem_toArray, List.getElem_cons_succ, List.getElem_cons_zero]; go_simp; first | done | (with_reducible rfl)
  simp only [List.getElem_toArray, List.getElem_cons_succ, List.getElem_cons_zero]
  simp only [Act.put, List.setIfInBounds_toArray, List.set_cons_zero, List.set_cons_succ]
  refine wpAnyH_take (i := 14) (v := ?_) rfl (by kernel_rfl) (by kernel_rfl) (by kernel_rfl) (fun _ _ _ h => h) (Or.inl ⟨by rfl, ?_⟩) hS ?_
  rotate_left
  · intro W hW; obtain ⟨s3, s4, s5⟩ := hW; simp only [List.getElem_toArray, List.getElem_cons_succ, List.getElem_cons_zero]; go_simp; first | done | (with_reducible rfl)
  simp only [List.getElem_toArray, List.getElem_cons_succ, List.getElem_cons_zero]
  simp only [Act.put, List.setIfInBounds_toArray, List.set_cons_zero, List.set_cons_succ]
  refine wpAnyH_take (i := 15) (v := ?_) rfl (by kernel_rfl) (by kernel_rfl) (by kernel_rfl) (fun _ _ _ h => h) (Or.inl ⟨by rfl, ?_⟩) hS ?_
  rotate_left
  · intro W hW; obtain ⟨s3, s4, s5⟩ := hW; simp only [List.getElem_toArray, List.getElem_cons_succ, List.getElem_cons_zero]; go_simp; first | done | (with_reducible rfl)
  simp only [List.getElem_toArray, List.getElem_cons_succ, List.getElem_cons_zero]
  simp only [Act.put, List.setIfInBounds_toArray, List.set_cons_zero, List.set_cons_succ]
  refine wpAnyH_take (i := 16) (v := ?_) rfl (by kernel_rfl) (by kernel_rfl) (by kernel_rfl) (fun _ _ _ h => h) (Or.inl ⟨by rfl, ?_⟩) hS ?_
  rotate_left
  · intro W hW; obtain ⟨s3, s4, s5⟩ := hW; simp only [List.getElem_toArray, List.getElem_cons_succ, List.getElem_cons_zero]; go_simp; first | done | (with_reducible rfl)
  simp only [List.getElem_toArray, List.getElem_cons_succ, List.getElem_cons_zero]
  simp only [Act.put, List.setIfInBounds_toArray, List.set_cons_zero, List.set_cons_succ]
  refine wpAnyH_take (i := 17) (v := ?_) rfl (by kernel_rfl) (by kernel_rfl) (by kernel_rfl) (fun _ _ _ h => h) (Or.inl ⟨by rfl, ?_⟩) hS ?_
  rotate_left
  · intro W hW; obtain ⟨s3, s4, s5⟩ := hW; simp only [List.getElem_toArray, List.getElem_cons_succ, List.getElem_cons_zero]; go_simp; first | done | (with_reducible rfl)
  simp only [List.getElem_toArray, List.getElem_cons_succ, List.getElem_cons_zero]
  simp only [Act.put, List.setIfInBounds_toArray, List.set_cons_zero, List.set_cons_succ]
  refine wpAnyH_take (i := 18) (v := ?_) rfl (by kernel_rfl) (by kernel_rfl) (by kernel_rfl) (fun _ _ _ h => h) (Or.inl ⟨by rfl, ?_⟩) hS ?_
  rotate_left
  · intro W hW; obtain ⟨s3, s4, s5⟩ := hW; simp only [List.getElem_toArray, List.getElem_cons_succ, List.getElem_cons_zero]; go_simp; first | done | (with_reducible rfl)
  simp only [List.getElem_toArray, List.getElem_cons_succ, List.getElem_cons_zero]
  simp only [Act.put, List.setIfInBounds_toArray, List.set_cons_zero, List.set_cons_succ]
  refine wpAnyH_take (i := 19) (v := ?_) rfl (by kernel_rfl) (by kernel_rfl) (by kernel_rfl) (fun _ _ _ h => h) (Or.inl ⟨by rfl, ?_⟩) hS ?_
  rotate_left
  · intro W hW; obtain ⟨s3, s4, s5⟩ := hW; simp only [List.getElem_toArray, List.getElem_cons_succ, List.getElem_cons_zero]; go_simp; first | done | (with_reducible rfl)
  simp only [List.getElem_toArray, List.getElem_cons_succ, List.getElem_cons_zero]
  simp only [Act.put, List.setIfInBounds_toArray, List.set_cons_zero, List.set_cons_succ]
  refine wpAnyH_take (i := 20) (v := ?_) rfl (by kernel_rfl) (by kernel_rfl) (by kernel_rfl) (fun _ _ _ h => h) (Or.inl ⟨by rfl, ?_⟩) hS ?_
  rotate_left
  · intro W hW; obtain ⟨s3, s4, s5⟩ := hW; simp only [List.getElem_toArray, List.getElem_cons_succ, List.getElem_cons_zero]; go_simp; first | done | (with_reducible rfl)
  simp only [List.getElem_toArray, List.getElem_cons_succ, List.getElem_cons_zero]
  simp only [Act.put, List.setIfInBounds_toArray, List.set_cons_zero, List.set_cons_succ]
  refine wpAnyH_take (i := 21) (v := ?_) rfl (by kernel_rfl) (by kernel_rfl) (by kernel_rfl) (fun _ _ _ h => h) (Or.inl ⟨by rfl, ?_⟩) hS ?_
  rotate_left
  · intro W hW; obtain ⟨s3, s4, s5⟩ := hW; simp only [List.getElem_toArray, List.getElem_cons_succ, List.getElem_cons_zero]; go_simp; first | done | (with_reducible rfl)
  simp only [List.getElem_toArray, List.getElem_cons_succ, List.getElem_cons_zero]
  simp only [Act.put, List.setIfInBounds_toArray, List.set_cons_zero, List.set_cons_succ]
  refine wpAnyH_take (i := 22) (v := ?_) rfl (by kernel_rfl) (by kernel_rfl) (by kernel_rfl) (fun _ _ _ h => h) (Or.inl ⟨by rfl, ?_⟩) hS ?_
  rotate_left
  · intro W hW; obtain ⟨s3, s4, s5⟩ := hW; simp only [List.getElem_toArray, List.getElem_cons_succ, List.getElem_cons_zero]; go_simp; first | done | (with_reducible rfl)
  simp only [List.getElem_toArray, List.getElem_cons_succ, List.getElem_cons_zero]
  simp only [Act.put, List.setIfInBounds_toArray, List.set_cons_zero, List.set_cons_succ]
  refine wpAnyH_take (i := 23) (v := ?_) rfl (by kernel_rfl) (by kernel_rfl) (by kernel_rfl) (fun _ _ _ h => h) (Or.inl ⟨by rfl, ?_⟩) hS ?_
  rotate_left
  · intro W hW; obtain ⟨s3, s4, s5⟩ := hW; simp only [List.getElem_toArray, List.getElem_cons_succ, List.getElem_cons_zero]; go_simp; first | done | (with_reducible rfl)
  simp only [List.getElem_toArray, List.getElem_cons_succ, List.getElem_cons_zero]
  simp only [Act.put, List.setIfInBounds_toArray, List.set_cons_zero, List.set_cons_succ]
  refine wpAnyH_take (i := 24) (v := ?_) rfl (by kernel_rfl) (by kernel_rfl) (by kernel_rfl) (fun _ _ _ h => h) (Or.inl ⟨by rfl, ?_⟩) hS ?_
  rotate_left
  · intro W hW; obtain ⟨s3, s4, s5⟩ := hW; simp only [List.getElem_toArray, List.getElem_cons_succ, List.getElem_cons_zero]; go_simp; first | done | (with_reducible rfl)
  simp only [List.getElem_toArray, List.getElem_cons_succ, List.getElem_cons_zero]
  simp only [Act.put, List.setIfInBounds_toArray, List.set_cons_zero, List.set_cons_succ]
  refine wpAnyH_take (i := 25) (v := ?_) rfl (by kernel_rfl) (by kernel_rfl) (by kernel_rfl) (fun _ _ _ h => h) (Or.inl ⟨by rfl, ?_⟩) hS ?_
  rotate_left
  · intro W hW; obtain ⟨s3, s4, s5⟩ := hW; simp only [List.getElem_toArray, List.getElem_cons_succ, List.getElem_cons_zero]; go_simp; first | done | (with_reducible rfl)
  simp only [List.getElem_toArray, List.getElem_cons_succ, List.getElem_cons_zero]
  simp only [Act.put, List.setIfInBounds_toArray, List.set_cons_zero, List.set_cons_succ]
  refine wpAnyH_take (i := 26) (v := ?_) rfl (by kernel_rfl) (by kernel_rfl) (by kernel_rfl) (fun _ _ _ h => h) (Or.inl ⟨by rfl, ?_⟩) hS ?_
  rotate_left
  · intro W hW; obtain ⟨s3, s4, s5⟩ := hW; simp only [List.getElem_toArray, List.getElem_cons_succ, List.getElem_cons_zero]; go_simp; first | done | (with_reducible rfl)
  simp only [List.getElem_toArray, List.getElem_cons_succ, List.getElem_cons_zero]
  simp only [Act.put, List.setIfInBounds_toArray, List.set_cons_zero, List.set_cons_succ]
  refine wpAnyH_take (i := 27) (v := ?_) rfl (by kernel_rfl) (by kernel_rfl) (by kernel_rfl) (fun _ _ _ h => h) (Or.inl ⟨by rfl, ?_⟩) hS ?_
  rotate_left
  · intro W hW; obtain ⟨s3, s4, s5⟩ := hW; simp only [List.getElem_toArray, List.getElem_cons_succ, List.getElem_cons_zero]; go_simp; first | done | (with_reducible rfl)
  simp only [List.getElem_toArray, List.getElem_cons_succ, List.getElem_cons_zero]
  simp only [Act.put, List.setIfInBounds_toArray, List.set_cons_zero, List.set_cons_succ]
  refine wpAnyH_take (i := 28) (v := ?_) rfl (by kernel_rfl) (by kernel_rfl) (by kernel_rfl) (fun _ _ _ h => h) (Or.inl ⟨by rfl, ?_⟩) hS ?_
  rotate_left
  · intro W hW; obtain ⟨s3, s4, s5⟩ := hW; simp only [List.getElem_toArray, List.getElem_cons_succ, List.getElem_cons_zero]; go_simp; first | done | (with_reducible rfl)
  simp only [List.getElem_toArray, List.getElem_cons_succ, List.getElem_cons_zero]
  simp only [Act.put, List.setIfInBounds_toArray, List.set_cons_zero, List.set_cons_succ]
  refine wpAnyH_take (i := 29) (v := ?_) rfl (by kernel_rfl) (by kernel_rfl) (by kernel_rfl) (fun _ _ _ h => h) (Or.inl ⟨by rfl, ?_⟩) hS ?_
  rotate_left
  · intro W hW; obtain ⟨s3, s4, s5⟩ := hW; simp only [List.getElem_toArray, List.getElem_cons_succ, List.getElem_cons_zero]; go_simp; first | done | (with_reducible rfl)
  simp only [List.getElem_toArray, List.getElem_cons_succ, List.getElem_cons_zero]
  simp only [Act.put, List.setIfInBounds_toArray, List.set_cons_zero, List.set_cons_succ]
  refine wpAnyH_ready (rs := [4, 30]) (by kernel_rfl) (by simp) ?_
  refine AllReadyH.cons rfl (fun K hK => ?_) (AllReadyH.cons rfl (fun K hK => ?_) AllReadyH.nil)
  · simp only [List.getElem_toArray, List.getElem_cons_succ, List.getElem_cons_zero]
    go_simp
    refine hK.out _ _ hS (fun _ => ?_)
    clear hK
    refine wpAnyH_ready (rs := [30]) (by kernel_rfl) (by simp) ?_
    refine AllReadyH.cons rfl (fun K hK => ?_) AllReadyH.nil
    simp only [List.getElem_toArray, List.getElem_cons_succ, List.getElem_cons_zero]
    go_simp
    refine hK.out _ _ (unhide HS1) (fun _ => ?_)
    clear hK
    refine wpAnyH_ready (rs := [31]) (by kernel_rfl) (by simp) ?_
    refine AllReadyH.cons rfl (fun K hK => ?_) AllReadyH.nil
    refine step_append_lies _ (by rfl) (.tmp 10) (.tmp 36) 72 (by rfl) base 97 i0 _ 3 40 Tryz.underlying72 (unhide HI) (unhide HZ).1 (unhide HZ).2.1 (unhide HZ).2.2 rfl (by decide) _ acc.length (cellsTk acc) (by rfl) ((unhide HO).alloc _).drew ⟨w.heap.size, 0, none⟩ 1 1 (cellsTk [⟨(kind : Int), s.extract gap start, s.extract start q⟩]) (by rfl) rfl (fun j u hj => new_newsT w ⟨(kind : Int), s.extract gap start, s.extract start q⟩ j u hj) (cellsTk_one' _) (by decide) (by unfold maxLen; omega) (by omega) (by simp; omega) _ rfl ?_
    intro g4 c4' w4 hown4 hgrow4 hor4 hlt4
    have hfar := fun o => (hgrow4.cell_far ⟨p, o, none⟩ (by simp; omega) (fun e => (unhide HN) e.symm)).trans ((below1 w (.cells #[.int .i64 (kind : Int), .string (s.extract gap start), .string (s.extract start q)] 97)).cell (p := ⟨p, o, none⟩) hp)
    have f6 := fun o => (hgrow4.frozen_far ⟨p, o, none⟩ (by simp; omega) (fun e => (unhide HN) e.symm)).trans (((below1 w (.cells #[.int .i64 (kind : Int), .string (s.extract gap start), .string (s.extract start q)] 97)).frozen (p := ⟨p, o, none⟩) hp).trans (fz o))
    have q3 := (hfar 3).trans c3
    have q4 := (hfar 4).trans c4
    have q5 := (hfar 5).trans c5
    have q6 := (hfar 6).trans c6
    have HF := hide hfar
    have HG4 := hide hgrow4
    have HO4 := hide hown4
    have hg4p : ¬ g4 = p := fun e => by
      subst e
      rcases hor4 with h | h
      · exact (unhide HN) h
      · simp at h; omega
    clear hfar hgrow4 hown4 hor4
    refine hK.out _ _ ⟨q3, q4, q5⟩ (fun hS4 => ?_)
    clear hK
    simp only [List.getElem_toArray, List.getElem_cons_succ, List.getElem_cons_zero]
    simp only [Act.put, List.setIfInBounds_toArray, List.set_cons_zero, List.set_cons_succ]
    refine wpAnyH_take (i := 32) (v := ?_) rfl (by kernel_rfl) (by kernel_rfl) (by kernel_rfl) (fun _ _ _ h => h) (Or.inl ⟨by rfl, ?_⟩) hS4 ?_
    rotate_left
    · intro W hW; obtain ⟨s3, s4, s5⟩ := hW; simp only [List.getElem_toArray, List.getElem_cons_succ, List.getElem_cons_zero]; go_simp; first | done | (with_reducible rfl)
    simp only [List.getElem_toArray, List.getElem_cons_succ, List.getElem_cons_zero]
    simp only [Act.put, List.setIfInBounds_toArray, List.set_cons_zero, List.set_cons_succ]
    refine wpAnyH_take (i := 33) (v := ?_) rfl (by kernel_rfl) (by kernel_rfl) (by kernel_rfl) (fun _ _ _ h => h) (Or.inl ⟨by rfl, ?_⟩) hS4 ?_
    rotate_left
    · intro W hW; obtain ⟨s3, s4, s5⟩ := hW; simp only [List.getElem_toArray, List.getElem_cons_succ, List.getElem_cons_zero]; go_simp; first | done | (with_reducible rfl)
    simp only [List.getElem_toArray, List.getElem_cons_succ, List.getElem_cons_zero]
    simp only [Act.put, List.setIfInBounds_toArray, List.set_cons_zero, List.set_cons_succ]
    refine wpAnyH_ready (rs := [34]) (by kernel_rfl) (by simp) ?_
    refine AllReadyH.cons rfl (fun K hK => ?_) AllReadyH.nil
    simp only [List.getElem_toArray, List.getElem_cons_succ, List.getElem_cons_zero]
    go_simp
    refine hK.out _ _ ⟨by rw [World.cell?_setCell_other _ _ _ _ (by simp)]; exact q3, by rw [World.cell?_setCell_other _ _ _ _ (by simp)]; exact q4, by rw [World.cell?_setCell_other _ _ _ _ (by simp)]; exact q5⟩ (fun hS5 => ?_)
    clear hK
    refine wpAnyH_done (by kernel_rfl) ?_ _
    have r4 : (w4.setCell ⟨p, 6, none⟩ (.slice (some ⟨g4, 0, none⟩) (acc.length + 1) c4')).cell? ⟨p, 4, none⟩ = some (.int .i64 (gap : Int)) := hS5.2.1
    have r5 : (w4.setCell ⟨p, 6, none⟩ (.slice (some ⟨g4, 0, none⟩) (acc.length + 1) c4')).cell? ⟨p, 5, none⟩ = some (.int .i64 (start : Int)) := hS5.2.2
    clear hS4 hS5
    go_wp2
    go_end0
    refine ⟨rfl, g4, c4', ?_⟩
    rw [cellsTk_append]
    exact fin_close (unhide HC) (unhide HF) q3 q4 q5 q6 f6 (unhide HO4) (unhide HG4) hg4p
  · simp only [List.getElem_toArray, List.getElem_cons_succ, List.getElem_cons_zero]
    go_simp
    refine hK.out _ _ (unhide HS1) (fun _ => ?_)
    clear hK
    refine wpAnyH_ready (rs := [4]) (by kernel_rfl) (by simp) ?_
    refine AllReadyH.cons rfl (fun K hK => ?_) AllReadyH.nil
    simp only [List.getElem_toArray, List.getElem_cons_succ, List.getElem_cons_zero]
    go_simp
    refine hK.out _ _ (unhide HS1) (fun _ => ?_)
    clear hK
    refine wpAnyH_ready (rs := [31]) (by kernel_rfl) (by simp) ?_
    refine AllReadyH.cons rfl (fun K hK => ?_) AllReadyH.nil
    refine step_append_lies _ (by rfl) (.tmp 10) (.tmp 36) 72 (by rfl) base 97 i0 _ 3 40 Tryz.underlying72 (unhide HI) (unhide HZ).1 (unhide HZ).2.1 (unhide HZ).2.2 rfl (by decide) _ acc.length (cellsTk acc) (by rfl) ((unhide HO).alloc _).drew ⟨w.heap.size, 0, none⟩ 1 1 (cellsTk [⟨(kind : Int), s.extract gap start, s.extract start q⟩]) (by rfl) rfl (fun j u hj => new_newsT w ⟨(kind : Int), s.extract gap start, s.extract start q⟩ j u hj) (cellsTk_one' _) (by decide) (by unfold maxLen; omega) (by omega) (by simp; omega) _ rfl ?_
    intro g4 c4' w4 hown4 hgrow4 hor4 hlt4
    have hfar := fun o => (hgrow4.cell_far ⟨p, o, none⟩ (by simp; omega) (fun e => (unhide HN) e.symm)).trans ((below1 w (.cells #[.int .i64 (kind : Int), .string (s.extract gap start), .string (s.extract start q)] 97)).cell (p := ⟨p, o, none⟩) hp)
    have f6 := fun o => (hgrow4.frozen_far ⟨p, o, none⟩ (by simp; omega) (fun e => (unhide HN) e.symm)).trans (((below1 w (.cells #[.int .i64 (kind : Int), .string (s.extract gap start), .string (s.extract start q)] 97)).frozen (p := ⟨p, o, none⟩) hp).trans (fz o))
    have q3 := (hfar 3).trans c3
    have q4 := (hfar 4).trans c4
    have q5 := (hfar 5).trans c5
    have q6 := (hfar 6).trans c6
    have HF := hide hfar
    have HG4 := hide hgrow4
    have HO4 := hide hown4
    have hg4p : ¬ g4 = p := fun e => by
      subst e
      rcases hor4 with h | h
      · exact (unhide HN) h
      · simp at h; omega
    clear hfar hgrow4 hown4 hor4
    refine hK.out _ _ ⟨q3, q4, q5⟩ (fun hS4 => ?_)
    clear hK
    simp only [List.getElem_toArray, List.getElem_cons_succ, List.getElem_cons_zero]
    simp only [Act.put, List.setIfInBounds_toArray, List.set_cons_zero, List.set_cons_succ]
    refine wpAnyH_take (i := 32) (v := ?_) rfl (by kernel_rfl) (by kernel_rfl) (by kernel_rfl) (fun _ _ _ h => h) (Or.inl ⟨by rfl, ?_⟩) hS4 ?_
    rotate_left
    · intro W hW; obtain ⟨s3, s4, s5⟩ := hW; simp only [List.getElem_toArray, List.getElem_cons_succ, List.getElem_cons_zero]; go_simp; first | done | (with_reducible rfl)
    simp only [List.getElem_toArray, List.getElem_cons_succ, List.getElem_cons_zero]
    simp only [Act.put, List.setIfInBounds_toArray, List.set_cons_zero, List.set_cons_succ]
    refine wpAnyH_take (i := 33) (v := ?_) rfl (by kernel_rfl) (by kernel_rfl) (by kernel_rfl) (fun _ _ _ h => h) (Or.inl ⟨by rfl, ?_⟩) hS4 ?_
    rotate_left
    · intro W hW; obtain ⟨s3, s4, s5⟩ := hW; simp only [List.getElem_toArray, List.getElem_cons_succ, List.getElem_cons_zero]; go_simp; first | done | (with_reducible rfl)
    simp only [List.getElem_toArray, List.getElem_cons_succ, List.getElem_cons_zero]
    simp only [Act.put, List.setIfInBounds_toArray, List.set_cons_zero, List.set_cons_succ]
    refine wpAnyH_ready (rs := [34]) (by kernel_rfl) (by simp) ?_
    refine AllReadyH.cons rfl (fun K hK => ?_) AllReadyH.nil
    simp only [List.getElem_toArray, List.getElem_cons_succ, List.getElem_cons_zero]
    go_simp
    refine hK.out _ _ ⟨by rw [World.cell?_setCell_other _ _ _ _ (by simp)]; exact q3, by rw [World.cell?_setCell_other _ _ _ _ (by simp)]; exact q4, by rw [World.cell?_setCell_other _ _ _ _ (by simp)]; exact q5⟩ (fun hS5 => ?_)
    clear hK
    refine wpAnyH_done (by kernel_rfl) ?_ _
    have r4 : (w4.setCell ⟨p, 6, none⟩ (.slice (some ⟨g4, 0, none⟩) (acc.length + 1) c4')).cell? ⟨p, 4, none⟩ = some (.int .i64 (gap : Int)) := hS5.2.1
    have r5 : (w4.setCell ⟨p, 6, none⟩ (.slice (some ⟨g4, 0, none⟩) (acc.length + 1) c4')).cell? ⟨p, 5, none⟩ = some (.int .i64 (start : Int)) := hS5.2.2
    clear hS4 hS5
    go_wp2
    go_end0
    refine ⟨rfl, g4, c4', ?_⟩
    rw [cellsTk_append]
    exact fin_close (unhide HC) (unhide HF) q3 q4 q5 q6 f6 (unhide HO4) (unhide HG4) hg4p
end Go.Proofs.YtfboipappaonhaaGreat
