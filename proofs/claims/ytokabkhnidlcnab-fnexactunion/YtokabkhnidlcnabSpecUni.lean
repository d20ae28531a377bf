/-
  Walk: the specification's Union.
-/
import Derived.Test.YtokabkhnidlcnabUni
namespace Go.Proofs.Ytokabkhnidlcnab
set_option maxRecDepth 100000
open Go.RowKit

theorem empty_owned (w : World) (o1 o2 o3 : Obj) : ((((w.alloc o1).alloc o2).alloc o3).alloc (.cells #[] 70)).ownsRow (w.heap.size + 3) 70 4 (.slice (some ⟨w.heap.size + 1 + 1 + 1, 0, none⟩) 0 0) 0 [] := by
  have h := World.ownsRow_lit (base := w.heap.size + 3) (e := 70) (size := 4) (((w.alloc o1).alloc o2).alloc o3) #[] 0 (by simp) (Nat.zero_le _) rfl
  simpa using h

theorem below_grown {B : Nat} {w w' : World} {row : Option Nat} (hg : w.grownBy w' row) (hB : B ≤ w.heap.size) (hr : ∀ k, row = some k → B ≤ k) : Below B w w' :=
  (Below.refl B w).grown hg hB hr

theorem owns_cap {w : World} {base n size g cap : Nat} {e : TypeId} {xs : List Value} (h : w.ownsRow base e size (.slice (some ⟨g, 0, none⟩) n cap) n xs) : n ≤ cap ∧ cap ≤ maxLen := by
  obtain ⟨_, h | ⟨g', cap', cur, hv', _, _, h1, h2, _⟩⟩ := h
  · simp at h
  · simp only [Value.slice.injEq, Option.some.injEq] at hv'
    obtain ⟨_, _, rfl⟩ := hv'
    exact ⟨h1, h2⟩

theorem new_owned (w : World) (o : OpR) : (w.alloc (.cells #[.string o.s, .int .i64 o.k, .int .i64 o.l, .int .i64 o.sd] 70)).rangeAt w.heap.size 0 [.string o.s, .int .i64 o.k, .int .i64 o.l, .int .i64 o.sd] := by
  have := World.rangeAt_of_block (w := w.alloc (.cells #[.string o.s, .int .i64 o.k, .int .i64 o.l, .int .i64 o.sd] 70)) (b := w.heap.size) (heap_alloc_new w _) 0 4
  simpa using this

theorem new_news (w : World) (o : OpR) : ∀ j u, (cellsL [o])[j]? = some u → (w.alloc (.cells #[.string o.s, .int .i64 o.k, .int .i64 o.l, .int .i64 o.sd] 70)).cell? ((⟨w.heap.size, 0, none⟩ : Addr).add j) = some u := by
  intro j u hj
  rw [Addr.add_mid]
  exact new_owned w o j u hj

set_option maxRecDepth 100000 in
set_option maxHeartbeats 4000000 in
theorem specUnion_core (g g' c c' : Nat) (xs ys zs : List OpR) (HZS : Hid (zs = xs ++ ys)) (w : World) (hm : xs.length + ys.length ≤ 1048576) (hx : Ops w g 0 xs) (hy : Ops w g' 0 ys) (hB : g < w.heap.size) (hB' : g' < w.heap.size) :
    Calls Try.prog 11 #[.agg #[.slice (some ⟨g, 0, none⟩) xs.length c], .agg #[.slice (some ⟨g', 0, none⟩) ys.length c']] w fun e w' => (∃ h cap, e = .returned (.agg #[.slice (some ⟨h, 0, none⟩) (uniTo zs zs.length).length cap]) ∧ w.heap.size ≤ h ∧ Filled w' h (uniTo zs zs.length) (uniTo zs zs.length).length) ∧ Below w.heap.size w w' := by
  obtain ⟨i0, hi, hz0, hz1, hz2⟩ := info_parts infoOp'
  have ho0 := empty_owned w
  have hx4 : ∀ o1 o2 o3 o4, Ops ((((w.alloc o1).alloc o2).alloc o3).alloc o4) g 0 xs := fun o1 o2 o3 o4 => hx.below ((((below1 w o1).alloc (by simp) o2).alloc (by simp; omega) o3).alloc (by simp; omega) o4) hB
  have HO := hide ho0
  have HX := hide hx4
  have HY := hide hy
  have HI := hide hi
  have HZ := hide (And.intro hz0 (And.intro hz1 hz2))
  clear ho0 hx4 hx hy hi hz0 hz1 hz2
  go_enter Try.func11, Try.ntmps11
  go_wp2_with (at_builtin; refine wpList_append_own _ rfl (.tmp 9) (.tmp 11) 26 rfl (w.heap.size + 3) 70 i0 _ 4 40 Try.underlying26 (unhide HI) (unhide HZ).1 (unhide HZ).2.1 (unhide HZ).2.2 rfl (by decide) _ 0 [] rfl (unhide HO _ _ _) ⟨g, 0, none⟩ xs.length c (cellsL xs) rfl (cellsL_len xs) (ops_news (unhide HX _ _ _ _)) (cellsL_one' xs) ?b1 ?b2 ?b3 ?next)
  case b1 => unfold maxLen; omega
  case b2 => omega
  case b3 => simp
  case next =>
    intro v1 w1 hown1 hgrow1 hnil1
    have hb1 : Below (w.heap.size + 3) _ w1 := below_grown hgrow1 (by simp) (fun k hk => by simp [Value.ownBlock] at hk; omega)
    have hbw : Below w.heap.size w w1 := ((((below1 _ _).alloc (by simp) _).alloc (by simp; omega) _).alloc (by simp; omega) _).trans (hb1.mono (by omega))
    have d1 : w1.cell? ⟨w.heap.size + 1, 0, none⟩ = some (.slice (some ⟨g', 0, none⟩) ys.length c') := by rw [hb1.cell (p := ⟨w.heap.size + 1, 0, none⟩) (show w.heap.size + 1 < _ by omega)]; simp [go_sem]
    have d2 : w1.cell? ⟨w.heap.size + 1 + 1, 0, none⟩ = some (.slice none 0 0) := by rw [hb1.cell (p := ⟨w.heap.size + 1 + 1, 0, none⟩) (show w.heap.size + 1 + 1 < _ by omega)]; simp [go_sem]
    have d3 : w1.frozen? ⟨w.heap.size + 1 + 1, 0, none⟩ = false := by rw [hb1.frozen (p := ⟨w.heap.size + 1 + 1, 0, none⟩) (show w.heap.size + 1 + 1 < _ by omega)]; simp [go_sem]
    have z1 : w.heap.size + 3 ≤ w1.heap.size := by have := hb1.size; simp at this; omega
    obtain ⟨ga, ca, rfl⟩ := owns_value hown1 (by simpa using hnil1)
    have hga := (hown1.lt ga rfl).1
    have HOW := hide hown1
    have HY1 := hide ((unhide HY).below hbw hB')
    clear hown1 hgrow1 hnil1 hb1 HY HX HO
    go_wp2_with (at_builtin; refine wpList_append_own _ rfl (.tmp 13) (.tmp 15) 26 rfl (w.heap.size + 3) 70 i0 _ 4 40 Try.underlying26 (unhide HI) (unhide HZ).1 (unhide HZ).2.1 (unhide HZ).2.2 rfl (by decide) _ xs.length (cellsL xs) rfl (unhide HOW) ⟨g', 0, none⟩ ys.length c' (cellsL ys) rfl (cellsL_len ys) (ops_news (unhide HY1)) (cellsL_one' ys) ?b1 ?b2 ?b3 ?next)
    case b1 => unfold maxLen; omega
    case b2 => omega
    case b3 => exact z1
    case next =>
      intro v2 w2 hown2 hgrow2 hnil2
      have hb2 : Below (w.heap.size + 3) w1 w2 := below_grown hgrow2 z1 (fun k hk => by simp [Value.ownBlock] at hk; omega)
      have hbw2 : Below w.heap.size w w2 := hbw.trans (hb2.mono (by omega))
      have e2 : w2.cell? ⟨w.heap.size + 1 + 1, 0, none⟩ = some (.slice none 0 0) := (hb2.cell (p := ⟨w.heap.size + 1 + 1, 0, none⟩) (show w.heap.size + 1 + 1 < _ by omega)).trans d2
      have e3 : w2.frozen? ⟨w.heap.size + 1 + 1, 0, none⟩ = false := (hb2.frozen (p := ⟨w.heap.size + 1 + 1, 0, none⟩) (show w.heap.size + 1 + 1 < _ by omega)).trans d3
      have z2 : w.heap.size + 3 ≤ w2.heap.size := Nat.le_trans z1 hb2.size
      obtain ⟨gb, cb, rfl⟩ := owns_value hown2 (by simp [hnil2])
      have hlen : xs.length + ys.length = zs.length := by rw [unhide HZS]; simp
      have hcat : cellsL xs ++ cellsL ys = cellsL zs := by rw [unhide HZS, cellsL_append]
      rw [hcat, hlen] at hown2
      obtain ⟨hgb, hfil⟩ := owns_filled hown2
      obtain ⟨hcap, hcap2⟩ := owns_cap hown2
      have hzl : zs.length ≤ 1048576 := by omega
      rw [hlen]
      have HF := hide hfil
      have hgbl := hfil.1
      have ho2 : (w2.alloc (.cells #[] 70)).ownsRow w2.heap.size 70 4 (.slice (some ⟨w2.heap.size, 0, none⟩) 0 0) 0 (cellsL []) := by
        rw [cellsL_nil]
        simpa using World.ownsRow_lit (base := w2.heap.size) (e := 70) (size := 4) w2 #[] 0 (Nat.le_refl _) (Nat.zero_le _) rfl
      have HO2 := hide ho2
      clear hlen hcat hown2 hgrow2 hnil2 hb2 HOW HY1 d1 d2 d3 hga hm hfil ho2 hbw z1
      go_wp2_with fail
      go_loopw [6, 7] (fun out i wr => ∃ (k go co : Nat), k ≤ zs.length ∧ i = .int .i64 (k : Int) ∧ out = .slice (some ⟨go, 0, none⟩) (uniTo zs k).length co ∧ Hid (wr.ownsRow w2.heap.size 70 4 (.slice (some ⟨go, 0, none⟩) (uniTo zs k).length co) (uniTo zs k).length (cellsL (uniTo zs k))) ∧ Below w2.heap.size w2 wr) (fun _ i _ => zs.length - (intOf i).toNat)
      case atStart => exact ⟨0, w2.heap.size, 0, Nat.zero_le _, rfl, rfl, HO2, below1 _ _⟩
      case round =>
        clear HO2
        obtain ⟨k, go, co, hk, rfl, rfl, hown, hbel⟩ := hrel
        by_cases hlt : k < zs.length
        · have hops := (unhide HF).ops.below hbel (unhide HF).1
          obtain ⟨a0, a1, a2, a3⟩ := hops k hlt
          simp only [Nat.zero_add] at a0 a1 a2 a3
          have hltI : (k : Int) < (zs.length : Int) := by omega
          have hkcb : (k : Int) ≤ (cb : Int) := by omega
          have zgb : gb < wr.heap.size := Nat.lt_of_lt_of_le hgbl hbel.size
          have HOPS := hide hops
          clear hops
          go_wp2_with fail
          go_region_held (fun w' => w'.cell? ⟨gb, k * 4, none⟩ = some (.string (atO zs k).s) ∧ w'.cell? ⟨gb, k * 4 + 1, none⟩ = some (.int .i64 (atO zs k).k) ∧ w'.cell? ⟨gb, k * 4 + 2, none⟩ = some (.int .i64 (atO zs k).l) ∧ w'.cell? ⟨gb, k * 4 + 3, none⟩ = some (.int .i64 (atO zs k).sd)) (go_keep)
            (first | (go_at_call 43; refine (l1Has_any gb _ k zs (atO zs k) _ hzl (by omega) (show Ops wr.drew gb 0 zs from unhide HOPS) zgb).mono ?_; rintro e w3 ⟨⟨v, rfl, hv⟩, hb3⟩; have HV := hide hv; have HB3 := hide ((Below.refl wr.heap.size wr).drew.trans hb3); have q0 := (hb3.cell (p := ⟨gb, k * 4, none⟩) zgb).trans (show wr.drew.cell? ⟨gb, k * 4, none⟩ = _ from a0); have q1 := (hb3.cell (p := ⟨gb, k * 4 + 1, none⟩) zgb).trans (show wr.drew.cell? ⟨gb, k * 4 + 1, none⟩ = _ from a1); have q2 := (hb3.cell (p := ⟨gb, k * 4 + 2, none⟩) zgb).trans (show wr.drew.cell? ⟨gb, k * 4 + 2, none⟩ = _ from a2); have q3 := (hb3.cell (p := ⟨gb, k * 4 + 3, none⟩) zgb).trans (show wr.drew.cell? ⟨gb, k * 4 + 3, none⟩ = _ from a3); clear hv hb3))
          have hbel3 := hbel.trans ((unhide HB3).mono hbel.size)
          have hown3 := hide ((unhide hown).kept (w' := w3) (row := none) ⟨(unhide HB3).os, (unhide HB3).tape, (unhide HB3).output, (unhide HB3).size, fun i hi _ => (unhide HB3).block i hi⟩ (Or.inr (by simp [Value.ownBlock])))
          have hul := uni_len zs k
          clear hown HB3 hbel a0 a1 a2 a3
          cases v
          · have hmi := hide (uni_miss (fun h => Bool.false_ne_true ((unhide HV).2 h)))
            clear HV
            go_wp2_with (at_builtin; refine wpList_append_own _ rfl (.tmp 33) (.tmp 38) 26 rfl w2.heap.size 70 i0 _ 4 40 Try.underlying26 (unhide HI) (unhide HZ).1 (unhide HZ).2.1 (unhide HZ).2.2 rfl (by decide) _ (uniTo zs k).length (cellsL (uniTo zs k)) rfl ((unhide hown3).alloc _) ⟨w3.heap.size, 0, none⟩ 1 1 (cellsL [atO zs k]) rfl rfl (new_news w3 (atO zs k)) (cellsL_one' _) ?b1 ?b2 ?b3 ?next)
            case b1 => unfold maxLen; omega
            case b2 => omega
            case b3 => have := hbel3.size; simp; omega
            case next =>
              intro v4 w4 hown4 hgrow4 hnil4
              have hgo := (unhide hown3).lt go rfl
              have hbel4 : Below w2.heap.size w2 w4 := (hbel3.alloc hbel3.size _).grown hgrow4 (by have := hbel3.size; simp; omega) (fun q hq => by simp [Value.ownBlock] at hq; omega)
              obtain ⟨g4, c4, rfl⟩ := owns_value hown4 (by simp [hnil4])
              have hlen4 : (uniTo zs (k + 1)).length = (uniTo zs k).length + 1 := by rw [unhide hmi]; simp
              rw [← cellsL_append, ← unhide hmi, ← hlen4] at hown4
              have HW4 := hide hown4
              rw [← hlen4]
              clear hown4 hgrow4 hnil4 hown3 hlen4 hmi
              go_wp2
              exact ⟨⟨k + 1, g4, c4, by omega, by go_num, rfl, HW4, hbel4⟩, by simp [intOf]; omega⟩
          · have hhi := hide (uni_hit ((unhide HV).1 rfl))
            clear HV
            go_wp2
            refine ⟨⟨k + 1, go, co, by omega, by go_num, ?_, ?_, hbel3⟩, by simp [intOf]; omega⟩
            · rw [unhide hhi]
            · rw [unhide hhi]; exact hown3
        · have hkz : k = zs.length := by omega
          have c2 : wr.cell? ⟨w.heap.size + 1 + 1, 0, none⟩ = some (.slice none 0 0) := (hbel.cell (p := ⟨w.heap.size + 1 + 1, 0, none⟩) (show w.heap.size + 1 + 1 < _ by omega)).trans e2
          have c3 : wr.frozen? ⟨w.heap.size + 1 + 1, 0, none⟩ = false := (hbel.frozen (p := ⟨w.heap.size + 1 + 1, 0, none⟩) (show w.heap.size + 1 + 1 < _ by omega)).trans e3
          obtain ⟨hgo, hfo⟩ := owns_filled (unhide hown)
          have HFO := hide hfo
          have HKZ := hide hkz
          clear hfo hown hkz e2 e3
          go_wp2
          have hkz := unhide HKZ
          subst hkz
          refine bodyPost_ret (v := .agg #[.slice (some ⟨go, 0, none⟩) (uniTo zs zs.length).length co]) (by simp [results, Try.results11, go_sem, c2]) rfl ⟨⟨go, co, rfl, by omega, ?_⟩, ?_⟩
          · exact (unhide HFO).setCell _ _ (by simp; omega)
          · exact (hbw2.trans (hbel.mono (by omega))).setCell (by simp; omega) _

theorem specUnion_any (g g' c c' : Nat) (xs ys : List OpR) (w : World) (hm : xs.length + ys.length ≤ 1048576) (hx : Ops w g 0 xs) (hy : Ops w g' 0 ys) (hB : g < w.heap.size) (hB' : g' < w.heap.size) :
    Calls Try.prog 11 #[.agg #[.slice (some ⟨g, 0, none⟩) xs.length c], .agg #[.slice (some ⟨g', 0, none⟩) ys.length c']] w fun e w' => (∃ h cap, e = .returned (.agg #[.slice (some ⟨h, 0, none⟩) (uniTo (xs ++ ys) (xs ++ ys).length).length cap]) ∧ w.heap.size ≤ h ∧ Filled w' h (uniTo (xs ++ ys) (xs ++ ys).length) (uniTo (xs ++ ys) (xs ++ ys).length).length) ∧ Below w.heap.size w w' :=
  specUnion_core g g' c c' xs ys (xs ++ ys) (hide rfl) w hm hx hy hB hB'
end Go.Proofs.Ytokabkhnidlcnab
