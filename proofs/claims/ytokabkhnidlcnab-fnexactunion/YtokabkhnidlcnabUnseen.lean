/-
  Walk: the program's appendUnseen.
-/
import Derived.Test.YtokabkhnidlcnabKeysQ
import Derived.Test.YtokabkhnidlcnabSpecUni
namespace Go.Proofs.Ytokabkhnidlcnab
set_option maxRecDepth 100000
open Go.RowKit Go.Maps

theorem op_cells_grown {wr w1 : World} {o : OpR} {t : TypeId} {ob : Obj} {bm : Nat} (hg : ((wr.alloc (.cells #[.string o.s, .int .i64 o.k, .int .i64 o.l, .int .i64 o.sd] t)).alloc ob).grownBy w1 (some bm)) (hne : bm < wr.heap.size) :
    w1.cell? ⟨wr.heap.size, 0, none⟩ = some (.string o.s) ∧ w1.cell? ⟨wr.heap.size, 1, none⟩ = some (.int .i64 o.k) ∧ w1.cell? ⟨wr.heap.size, 2, none⟩ = some (.int .i64 o.l) ∧ w1.cell? ⟨wr.heap.size, 3, none⟩ = some (.int .i64 o.sd) := by
  have e : ∀ q v, ((wr.alloc (.cells #[.string o.s, .int .i64 o.k, .int .i64 o.l, .int .i64 o.sd] t)).alloc ob).cell? ⟨wr.heap.size, q, none⟩ = some v → w1.cell? ⟨wr.heap.size, q, none⟩ = some v := fun q v h => hg.cell h (by simp; omega)
  refine ⟨e _ _ ?_, e _ _ ?_, e _ _ ?_, e _ _ ?_⟩ <;> simp [go_sem]

theorem own_ne {w : World} {base n size bm : Nat} {e : TypeId} {v : Value} {xs : List Value} (h : w.ownsRow base e size v n xs) (hb : bm < base) : v.ownBlock = none ∨ v.ownBlock ≠ some bm := by
  cases hv : v.ownBlock with
  | none => exact Or.inl rfl
  | some q => exact Or.inr (fun e => by have := (h.lt q hv).1; injection e with e; omega)

set_option maxRecDepth 100000 in
set_option maxHeartbeats 4000000 in
theorem unseen_any (g c bm base p : Nat) (ys zs : List OpR) (vt : Value) (w : World) (hm : p + ys.length ≤ 1048576) (hy : Ops w g 0 ys) (hat : ∀ i, i < ys.length → atO zs (p + i) = atO ys i) (hfine : ∀ i, i < p + ys.length → Fine (atO zs i))
    (hseen : Seen w bm zs p) (hown : w.ownsRow base 70 4 vt (uniTo zs p).length (cellsL (uniTo zs p))) (hgb : g < base) (hgm : g ≠ bm) (hmb : bm < base) (hbs : base ≤ w.heap.size) :
    Calls Try.prog 45 #[vt, .slice (some ⟨g, 0, none⟩) ys.length c, .map (some bm)] w fun e w' => (∃ v, e = .returned v ∧ w'.ownsRow base 70 4 v (uniTo zs (p + ys.length)).length (cellsL (uniTo zs (p + ys.length)))) ∧ Seen w' bm zs (p + ys.length) ∧ KeptU w w' bm base := by
  obtain ⟨i0, hi, hz0, hz1, hz2⟩ := info_parts infoOp'
  have HI := hide hi
  have HZ := hide (And.intro hz0 (And.intro hz1 hz2))
  have HY := hide hy
  have HAT := hide hat
  have HFN := hide hfine
  have HS0 := hide hseen
  have HO0 := hide hown
  clear hi hz0 hz1 hz2 hy hat hfine hseen hown
  go_enter Try.func45, Try.ntmps45
  go_wp2
  go_loopw [0, 13] (fun to i wr => ∃ k : Nat, k ≤ ys.length ∧ i = .int .i64 (k : Int) ∧ Hid (wr.ownsRow base 70 4 to (uniTo zs (p + k)).length (cellsL (uniTo zs (p + k)))) ∧ Hid (Seen wr bm zs (p + k)) ∧ Hid (KeptU w wr bm base)) (fun _ i _ => ys.length - (intOf i).toNat)
  case atStart => exact ⟨0, Nat.zero_le _, rfl, HO0, HS0, hide (KeptU.refl _ _ _)⟩
  case round =>
    clear HS0 HO0
    obtain ⟨k, hk, rfl, hown, hseen, hkp⟩ := hrel
    by_cases hlt : k < ys.length
    · have hsz := (unhide hkp).size
      have hcell := (unhide hkp).cellsAt ((unhide HY) k hlt) hgb hgm
      have hzk := (unhide HAT) k hlt
      have hfk := hide ((unhide HFN) (p + k) (by omega))
      unfold CellsAt at hcell
      rw [← hzk] at hcell
      simp only [Nat.zero_add] at hcell
      obtain ⟨a0, a1, a2, a3⟩ := hcell
      obtain ⟨⟨D, hD, hDh⟩⟩ := unhide hseen
      have HD := hide hD
      have HK := hide (keyQ (unhide hfk))
      have hul := uni_len zs (p + k)
      have hhas := (hDh _ (unhide hfk))
      cases hh : Maps.has D (klQ (atO zs (p + k)))
      · rw [hh] at hhas
        have hmi := hide (uni_miss (fun h => Bool.false_ne_true (hhas.2 h)))
        have HST := hide (seen_step hD.isMap (unhide hfk) hDh)
        clear hzk hhas hDh hD hseen
        have hbw : base ≤ wr.heap.size := Nat.le_trans hbs hsz
        go_wp2_with (first | (at_lookup; refine wpList_lookup_own_unit _ rfl _ _ 72 rfl 70 126 lawQ Try.underlying72 (zeroUnit _) bm (p + k) D rfl ((unhide HD).alloc _) _ _ rfl (unhide HK) ?_) | (at_mapUpdate; refine wpList_mapUpdate_own _ rfl _ _ _ 72 rfl 70 126 lawQ Try.underlying72 _ bm (p + k) D rfl (((unhide HD).alloc _).alloc _) (by unfold maxLen; omega) _ _ _ rfl rfl (unhide HK) (.agg []) [] unitElem_mk ?_; intro w1 hm1 hg1; obtain ⟨q0, q1, q2, q3⟩ := op_cells_grown hg1 (by omega); have hown1 := hide ((((unhide hown).alloc _).alloc _).kept hg1 (own_ne (unhide hown) hmb)); have hkp1 := hide (((((unhide hkp).alloc hbw _).alloc (by simp; omega) _).map hg1 (by simp; omega))); have hz1 : wr.heap.size < w1.heap.size := (by have := hg1.size; simp at this; omega); have HM1 := hide (show Seen w1 bm zs (p + k + 1) from ⟨_, hm1, unhide HST⟩); clear hm1 hg1) | (at_builtin; refine wpList_append_own _ rfl (.tmp 27) (.tmp 29) 26 rfl base 70 i0 _ 4 40 Try.underlying26 (unhide HI) (unhide HZ).1 (unhide HZ).2.1 (unhide HZ).2.2 rfl (by decide) _ (uniTo zs (p + k)).length (cellsL (uniTo zs (p + k))) rfl ((unhide hown1).alloc _) ⟨w1.heap.size, 0, none⟩ 1 1 (cellsL [atO zs (p + k)]) rfl rfl (new_news w1 (atO zs (p + k))) (cellsL_one' _) ?b1 ?b2 ?b3 ?next))
        case b1 => unfold maxLen; omega
        case b2 => omega
        case b3 => simp; omega
        case next =>
          intro v2 w2 hown2 hgrow2 hnil2
          have hkp2 : KeptU w w2 bm base := ((unhide hkp1).alloc (by omega) _).row hgrow2 (by simp; omega) (fun q hq => ((unhide hown1).lt q hq).1)
          have hs2 := ((unhide HM1).alloc (.cells #[.string (atO zs (p + k)).s, .int .i64 (atO zs (p + k)).k, .int .i64 (atO zs (p + k)).l, .int .i64 (atO zs (p + k)).sd] 70)).kept hgrow2 (fun e => by have := ((unhide hown1).lt bm e.symm).1; omega)
          have hlen2 : (uniTo zs (p + k + 1)).length = (uniTo zs (p + k)).length + 1 := by rw [unhide hmi]; simp
          rw [← cellsL_append, ← unhide hmi, ← hlen2] at hown2
          have HW2 := hide hown2
          have HS2 := hide hs2
          have HK2 := hide hkp2
          clear hown2 hgrow2 hnil2 hown1 hlen2 hmi hs2 hkp2 HM1 hkp1 q0 q1 q2 q3
          go_wp2
          exact ⟨⟨k + 1, by omega, by go_num, HW2, HS2, HK2⟩, by simp [intOf]; omega⟩
      · have hin := hhas.1 hh
        have hhi := hide (uni_hit hin)
        have HST := hide (show Seen wr bm zs (p + k + 1) from ⟨D, hD.mono (by omega), seen_hit hin hDh⟩)
        clear hzk hhas hDh hD hseen hin
        have hbw : base ≤ wr.heap.size := Nat.le_trans hbs hsz
        go_wp2_with (first | (at_lookup; refine wpList_lookup_own_unit _ rfl _ _ 72 rfl 70 126 lawQ Try.underlying72 (zeroUnit _) bm (p + k) D rfl ((unhide HD).alloc _) _ _ rfl (unhide HK) ?_))
        refine ⟨⟨k + 1, by omega, by go_num, hide ?_, hide (((unhide HST).alloc _).alloc _), hide (((unhide hkp).alloc hbw _).alloc (by simp; omega) _)⟩, by simp [intOf]; omega⟩
        rw [show p + (k + 1) = p + k + 1 from rfl, unhide hhi]
        exact ((unhide hown).alloc _).alloc _
    · have hkk : k = ys.length := by omega
      go_wp2
      go_ret
      refine ⟨⟨_, rfl, ?_⟩, ?_, unhide hkp⟩
      · have := unhide hown; rw [hkk] at this; exact this
      · have := unhide hseen; rw [hkk] at this; exact this
end Go.Proofs.Ytokabkhnidlcnab
