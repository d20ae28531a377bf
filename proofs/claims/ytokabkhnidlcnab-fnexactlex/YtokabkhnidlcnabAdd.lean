/-
  Walk: one operator more in the index.
-/
import Derived.Test.YtokabkhnidlcnabIndex2
namespace Go.Proofs.Ytokabkhnidlcnab
set_option maxRecDepth 100000
open Go.RowKit Go.Maps

/-- The boxes of the method's two arguments. -/
def Boxes (w wr : World) (bo bs : Nat) (o : OpR) : Prop :=
  (wr.cell? ⟨w.heap.size, 0, none⟩ = some (.map (some bo)) ∧ wr.cell? ⟨w.heap.size, 1, none⟩ = some (.map (some bs))) ∧
  wr.cell? ⟨w.heap.size + 1, 0, none⟩ = some (.string o.s) ∧ wr.cell? ⟨w.heap.size + 1, 1, none⟩ = some (.int .i64 o.k) ∧ wr.cell? ⟨w.heap.size + 1, 2, none⟩ = some (.int .i64 o.l) ∧ wr.cell? ⟨w.heap.size + 1, 3, none⟩ = some (.int .i64 o.sd)

theorem Boxes.step {w wr wr' : World} {bo bs : Nat} {o : OpR} (h : Boxes w wr bo bs o) (hk : Kept2 wr wr' bo bs) (hz : w.heap.size + 1 < wr.heap.size) (h1 : bo < w.heap.size) (h2 : bs < w.heap.size) : Boxes w wr' bo bs o := by
  obtain ⟨⟨a, b⟩, c, d, e, f⟩ := h
  have e0 := hk.cell (b := w.heap.size) (by omega) (by omega) (by omega)
  have e1 := hk.cell (b := w.heap.size + 1) (by omega) (by omega) (by omega)
  exact ⟨⟨(e0 _).trans a, (e0 _).trans b⟩, (e1 _).trans c, (e1 _).trans d, (e1 _).trans e, (e1 _).trans f⟩

theorem Boxes.start (w : World) (bo bs : Nat) (o : OpR) (t t' : TypeId) :
    Boxes w ((w.alloc (.cells #[.map (some bo), .map (some bs)] t)).alloc (.cells #[.string o.s, .int .i64 o.k, .int .i64 o.l, .int .i64 o.sd] t')) bo bs o := by
  refine ⟨⟨?_, ?_⟩, ?_, ?_, ?_, ?_⟩ <;> simp [go_sem]

set_option maxHeartbeats 1000000 in
theorem add_any (bo bs k : Nat) (xs : List OpR) (w : World) (hi : Idx w bo bs xs k) (hok : okTo xs (k + 1)) (hs : (atO xs k).s.size ≤ maxLen) (hk : k < 1048576) :
    Calls Try.prog 90 #[.agg #[.map (some bo), .map (some bs)], .agg #[.string (atO xs k).s, .int .i64 (atO xs k).k, .int .i64 (atO xs k).l, .int .i64 (atO xs k).sd]] w fun e w' => e = .returned (.tuple #[]) ∧ Idx w' bo bs xs (k + 1) ∧ Kept2 w w' bo bs := by
  obtain ⟨⟨D, hown, hD⟩, ⟨E, howns, hE⟩, hne⟩ := hi
  have hok1 := hok k (by omega)
  have hkm : k < maxLen := by unfold maxLen; omega
  have HK := hide (keyK hs (ok_wfk hok1))
  have HL := hide (keyI (ok_level hok1))
  have HS := hide (ok_srt hok1)
  have hso := hide (show okB (atO xs k).s (atO xs k).k (atO xs k).l (atO xs k).sd = true from hok1)
  have HD := hide (ops_step hown.isMap hs (ok_wfk hok1) hD)
  have HE := hide (srts_step howns.isMap (ok_level hok1) hE)
  have hlo := hown.lt
  have hls := howns.lt
  clear hD hE hok hok1
  go_enter Try.func90, Try.ntmps90
  go_wp2_with (first | (at_mapUpdate; refine wpList_mapUpdate_own _ rfl _ _ _ 82 rfl 164 70 lawK Try.underlying82 opElem bo k D rfl ((hown.alloc _).alloc _) hkm _ _ _ rfl rfl (unhide HK) (opDat (atO xs k).s (atO xs k).k (atO xs k).l (atO xs k).sd) [] (opElem_mk _ _ _ _) ?_; intro w1 hown1 hgrow1; go_frame))
  have hk01 := Kept2.of_grown1 (bs := bs) hgrow1
  have hbx1 := (Boxes.start w bo bs (atO xs k) 85 70).step hk01 (by simp) hlo hls
  have hz1 : w.heap.size + 1 < w1.heap.size := by have := hk01.size; simp at this; omega
  have howns1 := ((howns.alloc (.cells #[.map (some bo), .map (some bs)] 85)).alloc (.cells #[.string (atO xs k).s, .int .i64 (atO xs k).k, .int .i64 (atO xs k).l, .int .i64 (atO xs k).sd] 70)).kept hgrow1 (fun e => hne (Option.some.inj e).symm)
  have HK0 := hide ((Kept2.of_below (bo := bo) (bs := bs) ((below1 w (.cells #[.map (some bo), .map (some bs)] 85)).alloc (by simp) (.cells #[.string (atO xs k).s, .int .i64 (atO xs k).k, .int .i64 (atO xs k).l, .int .i64 (atO xs k).sd] 70))).trans hk01)
  obtain ⟨⟨m0, m1⟩, c0, c1, c2, c3⟩ := hbx1
  clear hgrow1 hk01 hown howns
  go_region_held (fun w' => (w'.cell? ⟨w.heap.size, 0, none⟩ = some (.map (some bo)) ∧ w'.cell? ⟨w.heap.size, 1, none⟩ = some (.map (some bs))) ∧
    w'.cell? ⟨w.heap.size + 1, 0, none⟩ = some (.string (atO xs k).s) ∧ w'.cell? ⟨w.heap.size + 1, 1, none⟩ = some (.int .i64 (atO xs k).k) ∧ w'.cell? ⟨w.heap.size + 1, 2, none⟩ = some (.int .i64 (atO xs k).l) ∧ w'.cell? ⟨w.heap.size + 1, 3, none⟩ = some (.int .i64 (atO xs k).sd)) (go_keep)
    (first | (go_at_call 123; refine (sortOf_any _ _ _ _ _ (unhide hso)).mono ?_; rintro e w2 ⟨rfl, hb2⟩; have hbx2 := Boxes.step (w := w) (wr := w1.drew) (bo := bo) (bs := bs) (o := atO xs k) ⟨⟨m0, m1⟩, c0, c1, c2, c3⟩ (Kept2.of_below hb2) hz1 hlo hls; have howns2 := howns1.drew.kept (w' := w2) (row := none) ⟨hb2.os, hb2.tape, hb2.output, hb2.size, fun i hi _ => hb2.block i hi⟩ (by simp); have hown2 := hown1.drew.kept (w' := w2) (row := none) ⟨hb2.os, hb2.tape, hb2.output, hb2.size, fun i hi _ => hb2.block i hi⟩ (by simp); obtain ⟨w3, hrun3, howns3, hgr3⟩ := howns2.update lawI Try.underlying83 hkm (unhide HL) (plainElem_int Try.underlying3 (unhide HS)); have hbx3 := hbx2.step (Kept2.of_grown2 hgr3) (Nat.lt_of_lt_of_le hz1 hb2.size) hlo hls; have hown3 := hown2.kept hgr3 (fun e => hne (Option.some.inj e)); have HK3 := hide (((unhide HK0).trans (Kept2.of_below ((Below.refl _ _).drew.trans hb2))).trans (Kept2.of_grown2 hgr3)); obtain ⟨⟨n0, n1⟩, d0, d1, d2, d3⟩ := hbx2; obtain ⟨⟨o0, o1⟩, f0, f1, f2, f3⟩ := hbx3))
  go_wp2
  go_end0
  exact ⟨rfl, ⟨⟨_, hown3, unhide HD⟩, ⟨_, howns3, unhide HE⟩, hne⟩, unhide HK3⟩
end Go.Proofs.Ytokabkhnidlcnab
