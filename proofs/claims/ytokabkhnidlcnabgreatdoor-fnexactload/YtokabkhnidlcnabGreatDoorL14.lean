import Derived.Test.YtokabkhnidlcnabGreatDoorL03
import Derived.Test.YtokabkhnidlcnabGreatDoorL06
import Derived.Test.YtokabkhnidlcnabGreatDoorL08
import Derived.Test.YtokabkhnidlcnabGreatDoorL11
import Derived.Test.YtokabkhnidlcnabGreatDoorL13

/-
  Walk: the place of a name, in the specification (l5Named).
-/
namespace Go.Proofs.YtokabkhnidlcnabGreatDoor
set_option maxRecDepth 100000
set_option linter.unusedSimpArgs false
set_option linter.unusedVariables false
open Go.RowKit

/-- The place of a name, or -1. -/
def nmI (ms : List ModR) (u : ByteArray) : Int := if nmF ms u < ms.length then (nmF ms u : Int) else -1

theorem txt_ne {a b : ByteArray} (h : a ≠ b) : (a.toList == b.toList) = false := by
  cases e : (a.toList == b.toList)
  · rfl
  · exact absurd (bytes_inj (by simpa using e)) h

set_option maxHeartbeats 1000000 in
theorem l5Named_any (a : Option Addr) (c : Nat) (ms : List ModR) (u : ByteArray) (w : World) (hn : ms.length ≤ 1048576) (hM : ArgM w a ms) :
    Calls Tryz.prog 16 #[.slice a ms.length c, .string u] w fun e w' => e = .returned (.int .i64 (nmI ms u)) ∧ w' = w := by
  have HM := hide hM
  clear hM
  go_enter Tryz.func16, Tryz.ntmps16
  go_wp2
  go_loop [5] (fun i => ∃ k : Nat, k ≤ ms.length ∧ i = .int .i64 (k : Int) ∧ Hid (∀ j, j < k → (atM ms j).n ≠ u)) (fun i => ms.length - (intOf i).toNat)
  case atStart => exact ⟨0, Nat.zero_le _, rfl, hide (fun j h => by omega)⟩
  case round =>
    obtain ⟨k, hk, rfl, hb⟩ := hrel
    by_cases hlt : k < ms.length
    · have hltI : (k : Int) < (ms.length : Int) := by omega
      rcases unhide HM with h | ⟨b, off, rfl, hops, hB⟩
      · omega
      obtain ⟨m0, m1⟩ := hops k hlt
      by_cases e : (atM ms k).n = u
      · subst e
        have HR := hide (show nmI ms (atM ms k).n = (k : Int) by
          unfold nmI
          rw [nmF_one hlt rfl (unhide hb), if_pos hlt])
        go_wp2
        go_ret
        exact ⟨ret_int (unhide HR).symm, rfl⟩
      · have ne := txt_ne e
        have HX := hide (show ∀ j, j < k + 1 → (atM ms j).n ≠ u from fun j hj => by
          by_cases e2 : j = k
          · subst e2; exact e
          · exact (unhide hb) j (by omega))
        clear e
        go_wp2
        exact ⟨⟨k + 1, by omega, by go_num, HX⟩, by simp [intOf]; omega⟩
    · have HR := hide (show nmI ms u = -1 by
        unfold nmI
        rw [nmF_none (fun j hj => (unhide hb) j (by omega)), if_neg (Nat.lt_irrefl _)])
      go_wp2
      go_ret
      exact ⟨ret_int (unhide HR).symm, rfl⟩
end Go.Proofs.YtokabkhnidlcnabGreatDoor

/-
  Walk: who uses whom, in the specification (l5Reach).
-/
namespace Go.Proofs.YtokabkhnidlcnabGreatDoor
set_option maxRecDepth 100000
set_option linter.unusedSimpArgs false
set_option linter.unusedVariables false
open Go.RowKit

/-- One step. -/
def mat0 (ms : List ModR) (U : List UnR) (i j : Nat) : Bool := decide (i < ms.length) && (decide (j < ms.length) && (atU U i).us.any (fun u => nmF ms u == j))

theorem infoBoolL : (Tryz.prog.info? 4).map (fun i => (i.zero, i.size, i.bytes)) = some (some (.bool false), 1, 1) := by kernel_rfl

/-- What l5Reach answers. -/
def RchPost (w : World) (n : Nat) (W : Nat → Nat → Bool) (e : Ending) (w' : World) : Prop := ∃ (g c : Nat) (rs : List Nat), e = .returned (.slice (some ⟨g, 0, none⟩) n c) ∧ w.heap.size ≤ g ∧ g < w'.heap.size ∧ Hid (∀ i, i < n → w'.cell? ⟨g, i, none⟩ = some (.slice (some ⟨atR rs i, 0, none⟩) n n)) ∧ Hid (∀ i, i < n → BRow w' (atR rs i) n (W i)) ∧ Below w.heap.size w w'

theorem UnsAt.uses {w : World} {B : Nat} {vs : List UvR} {U : List UnR} (h : UnsAt w B vs U) {i : Nat} (hi : i < vs.length) : StrsAt w (atV vs i).vu (atU U i).us := (h.2 i hi).1.1

theorem mat0_row {ms : List ModR} {U : List UnR} {i j : Nat} (hi : i < ms.length) (hj : j < ms.length) : mat0 ms U i j = ((atU U i).us.take (atU U i).us.length).any (fun u => nmF ms u == j) := by
  rw [List.take_length]
  simp [mat0, hi, hj]

theorem any_take {us : List ByteArray} {k : Nat} {u : ByteArray} (h : us[k]? = some u) (ms : List ModR) (j : Nat) : (us.take (k + 1)).any (fun u => nmF ms u == j) = (if j = nmF ms u then true else (us.take k).any (fun u => nmF ms u == j)) := by
  rw [List.take_add_one, h, List.any_append]
  by_cases e : j = nmF ms u
  · subst e; simp
  · have : (nmF ms u == j) = false := by simp; omega
    simp [e, this]

set_option maxHeartbeats 16000000 in
theorem l5Reach_any (a : Option Addr) (c0 gU cU : Nat) (ms : List ModR) (vs : List UvR) (U : List UnR) (w : World) (hn : ms.length ≤ 100) (hM : ArgM w a ms) (hOV : OpsV w gU vs) (hgU : gU < w.heap.size) (hUA : UnsAt w w.heap.size vs U) (hUO : UnitsOf ms U) (hvl : vs.length = ms.length) (h4 : ∀ i, i < ms.length → ¬ B4 ms U i) :
    Calls Tryz.prog 18 #[.slice a ms.length c0, .slice (some ⟨gU, 0, none⟩) ms.length cU] w (RchPost w ms.length (wrN (mat0 ms U) ms.length)) := by
  obtain ⟨i0, hi0, hz0, hz1, hz2⟩ := info_parts' infoBs
  have HI := hide hi0
  have HZ := hide (And.intro hz0 (And.intro hz1 hz2))
  obtain ⟨n, hnn⟩ : ∃ n, n = ms.length := ⟨_, rfl⟩
  have hmk : ∀ W : World, (Instr.makeSlice 50 (.int .i64 (n : Int)) (.int .i64 (n : Int))).run Tryz.prog W = .ok (.slice (some ⟨W.heap.size, 0, none⟩) n n) (W.alloc (.cells (madeCells #[.bool false] n) 4)) := by
    obtain ⟨inf, hi, hz⟩ := Option.map_eq_some_iff.1 infoBoolL
    simp only [Prod.mk.injEq] at hz
    obtain ⟨hz, hsz, hby⟩ := hz
    intro W
    have := run_make (P := Tryz.prog) W 50 4 inf _ Tryz.underlying50 hi hz .i64 .i64 n n (by omega) (by omega) (by rw [hby]; omega) (by omega)
    simpa [hsz, Value.cells] using this
  have HMK := hide hmk
  have HM := hide hM
  have HOV := hide hOV
  have HUA := hide hUA
  have HVL := hide hvl
  have HNM := hide (fun u => l5Named_any a c0 ms u)
  have HIN := hide (show ∀ i, i < ms.length → ∀ u ∈ (atU U i).us, nmF ms u < ms.length from fun i hi u hu => by
    have hle := nmF_le ms u
    by_cases e : nmF ms u < ms.length
    · exact e
    · refine absurd ⟨u, hu, fun j hj => ?_⟩ (h4 i hi)
      exact (nmF_spec ms u).2 j (by omega))
  have HUL := hide (show ∀ i, i < ms.length → (atU U i).us.length ≤ 20001 from fun i hi => (unit_uses (hUO.2 i hi)).1)
  have HE := hide (show RowR (w.alloc (.cells #[] 50)) w.heap.size n (.slice (some ⟨w.heap.size, 0, none⟩) 0 0) [] by
    have := World.ownsRow_lit (base := w.heap.size) (e := 50) (size := 1) w #[] 0 (Nat.le_refl _) (Nat.zero_le _) rfl
    simpa [RowR, cellsBq] using this)
  rw [← hnn] at HNM HIN HUL HVL hn ⊢
  have HNN := hide hnn
  clear hi0 hz0 hz1 hz2 hM hOV hUA hUO hvl h4 hmk hnn
  go_enter Tryz.func18, Tryz.ntmps18
  go_wp2
  -- the single steps
  go_loopw [6, 7] (fun out i wr => ∃ (k g c : Nat) (rs : List Nat), k ≤ n ∧ i = .int .i64 (k : Int) ∧ out = .slice (some ⟨g, 0, none⟩) rs.length c ∧ rs.length ≤ k ∧ Hid (rs.length = k) ∧ Hid (RowR wr w.heap.size n (.slice (some ⟨g, 0, none⟩) rs.length c) rs) ∧ Hid (MatOk wr w.heap.size n (.slice (some ⟨g, 0, none⟩) rs.length c) rs (mat0 ms U)) ∧ Below w.heap.size w wr) (fun _ i _ => n - (intOf i).toNat)
  case atStart => exact ⟨0, w.heap.size, 0, [], Nat.zero_le _, rfl, rfl, Nat.le_refl _, hide rfl, HE, hide ⟨fun i hi => absurd hi (Nat.not_lt_zero i), fun i j hi => absurd hi (Nat.not_lt_zero i), fun i hi => absurd hi (Nat.not_lt_zero i)⟩, below1 _ _⟩
  case round =>
    clear HE
    obtain ⟨k, g, c, rs, hk, rfl, rfl, hrl, HRK, HR, HMT, hbel⟩ := hrel
    obtain ⟨wo, rfl⟩ : ∃ wo, wo = wr := ⟨_, rfl⟩
    have hzr := hbel.size
    by_cases hlt : k < n
    · have hltI : (k : Int) < (n : Int) := by omega
      have hmkr := (unhide HMK) wo
      obtain ⟨us, hus⟩ : ∃ us, us = (atU U k).us := ⟨_, rfl⟩
      have HUS := hide hus
      have hul : us.length ≤ 20001 := by rw [hus]; exact (unhide HUL) k hlt
      have HINk := hide (show ∀ u ∈ us, nmF ms u < n by rw [hus]; exact (unhide HIN) k hlt)
      clear hus
      go_wp2_with fail
      clear hmkr
      obtain ⟨W1, hW1⟩ : ∃ W1, W1 = wo.alloc (.cells (madeCells #[.bool false] n) 4) := ⟨_, rfl⟩
      have hbW1 : Below wo.heap.size wo W1 := by rw [hW1]; exact below1 _ _
      have HBR0 := hide (show BRow W1 wo.heap.size n (fun _ => false) by rw [hW1]; exact made_brow wo n)
      have HBW1 := hide (hbel.trans (hbW1.mono hzr))
      have HBWr := hide hbW1
      have zW1 : wo.heap.size + 1 ≤ W1.heap.size := by rw [hW1]; simp
      rw [← hW1]
      clear hW1 hbW1
      go_loopw [9] (fun i wr => ∃ q : Nat, q ≤ us.length ∧ i = .int .i64 (q : Int) ∧ Hid (BRow wr wo.heap.size n (fun j => (us.take q).any (fun u => nmF ms u == j))) ∧ Hid (Kept1 W1 wr wo.heap.size)) (fun i _ => us.length - (intOf i).toNat)
      case atStart => exact ⟨0, Nat.zero_le _, rfl, hide ((unhide HBR0).congr (fun j _ => by simp)), hide (Kept1.refl _ _)⟩
      case round =>
        clear HBR0
        obtain ⟨q, hq, rfl, HB, HK⟩ := hrel
        have hbk : Below w.heap.size w wr := (unhide HBW1).trans ((unhide HK).below (by omega) hzr)
        have hvk : k < vs.length := by rw [unhide HVL]; exact hlt
        obtain ⟨v0, _, _⟩ := ((unhide HOV).below hbk hgU) k hvk
        have hst : StrsAt wr (atV vs k).vu us := by
          have h := ((unhide HUA).belowB hbk (Nat.le_refl _)).uses hvk
          rw [← unhide HUS] at h
          exact h
        by_cases hqlt : q < us.length
        · have hqI : (q : Int) < (us.length : Int) := by omega
          obtain ⟨gw, cw, hv, hgw, hc⟩ := hst.lt (by omega)
          rw [hv] at v0
          obtain ⟨u, hu⟩ : ∃ u, us[q]? = some u := ⟨_, List.getElem?_eq_getElem hqlt⟩
          have k0 := hc q u hu
          have hum : u ∈ us := List.mem_of_getElem? hu
          obtain ⟨m, hm⟩ : ∃ m, m = nmF ms u := ⟨_, rfl⟩
          have hmn : m < n := by rw [hm]; exact (unhide HINk) u hum
          have hmI : (m : Int) < (n : Int) := by omega
          have HCALL := hide ((unhide HNM) u wr (by omega) ((unhide HM).below hbk))
          have hnm : nmI ms u = (m : Int) := by
            unfold nmI
            rw [← hm, ← unhide HNN, if_pos hmn]
          rw [hnm] at HCALL
          obtain ⟨b0, b1⟩ := (unhide HB).2 m hmn
          have HBN := hide (show BRow (wr.setCell ⟨wo.heap.size, m, none⟩ (.bool true)) wo.heap.size n (fun j => (us.take (q + 1)).any (fun u => nmF ms u == j)) from ((unhide HB).set hmn true).congr (fun j _ => by rw [any_take hu ms j, ← hm]))
          have HKN := hide (show Kept1 W1 (wr.setCell ⟨wo.heap.size, m, none⟩ (.bool true)) wo.heap.size from (unhide HK).trans (kept1_setCells [.bool true] m wr))
          clear hc hst hu hum hm hnm hv HB HK
          go_wp2_with fail
          (with_reducible refine (unhide HCALL).mono ?_)
          rintro e w2 ⟨rfl, hx⟩
          obtain rfl := hx.symm
          clear hx HCALL
          go_wp2_with fail
          exact ⟨⟨q + 1, by omega, by go_num, HBN, HKN⟩, by simp [intOf]; omega⟩
        · obtain ⟨aw, cw, hv, _⟩ := hst
          rw [hv] at v0
          have hqe : q = us.length := by omega
          have HBF := hide (show BRow wr wo.heap.size n (mat0 ms U k) by
            refine (unhide HB).congr (fun j hj => ?_)
            rw [mat0_row (by rw [← unhide HNN]; exact hlt) (by rw [← unhide HNN]; exact hj), hqe, unhide HUS])
          have HBk := hide (show Below wo.heap.size wo wr from (unhide HBWr).trans ((unhide HK).below (by omega) (Nat.le_refl _)))
          have hzk := (unhide HBk).size
          have hg := ((unhide HR).lt g rfl).2
          clear hv hqe HB
          go_wp2_with (at_builtin; refine wpList_append_own_at _ rfl (.tmp 45) (.tmp 47) 48 rfl w.heap.size 50 i0 _ 1 24 Tryz.underlying48 (unhide HI) (unhide HZ).1 (unhide HZ).2.1 (unhide HZ).2.2 rfl (by decide) _ rs.length (cellsBq n rs) rfl (((unhide HR).below (unhide HBk)).below (below1 _ _)) ⟨wr.heap.size, 0, none⟩ 1 1 (cellsBq n [wo.heap.size]) rfl rfl (fun j u hj => new_newsBq wr _ j u hj) (cellsB_one' _ _) ?b1 ?b2 ?b3 ?next)
          case b1 => unfold maxLen; omega
          case b2 => omega
          case b3 => simp; omega
          case next =>
            intro v4 w4 hown4 hgrow4 hnil4 hat4
            have HO := hide (show RowR w4 w.heap.size n v4 (rs ++ [wo.heap.size]) by
              unfold RowR
              rw [cellsBq_append, List.length_append]
              exact hown4)
            have HM4 := hide (show MatOk w4 w.heap.size n v4 (rs ++ [wo.heap.size]) (mat0 ms U) from
              (MatOk.push (unhide HMT) ((unhide HBk).alloc hzk _) hzr (fun q e => by have e' : g = q := (by simpa [Value.ownBlock] using e); omega) ((unhide HBF).below (below1 _ _)) (Nat.le_refl _) hgrow4 (hat4.imp id (fun h => ⟨_, h, by simp⟩))).congr (fun i j _ _ => by
                by_cases e : i = rs.length
                · rw [if_pos e, e, unhide HRK]
                · rw [if_neg e]))
            have hbel4 : Below w.heap.size w w4 := (hbel.trans (((unhide HBk).alloc hzk _).mono hzr)).grown hgrow4 (by simp; omega) (fun q hq => ((unhide HR).lt q hq).1)
            obtain ⟨g4, c4, rfl⟩ : ∃ g4 c4, v4 = .slice (some ⟨g4, 0, none⟩) (rs ++ [wo.heap.size]).length c4 := by
              obtain ⟨_, ⟨_, h2⟩ | ⟨g', cap, cur, h1, _⟩⟩ := unhide HO
              · simp at h2
              · exact ⟨g', cap, h1⟩
            obtain ⟨rs4, HLS⟩ : ∃ rs4, Hid (rs4 = rs ++ [wo.heap.size]) := ⟨_, hide rfl⟩
            have e4 := unhide HLS
            rw [← e4] at HO HM4
            rw [← e4]
            clear e4 hown4 hgrow4 hnil4 hat4 v0
            go_wp2_with fail
            refine ⟨⟨k + 1, g4, c4, rs4, by omega, by go_num, rfl, ?_, hide ?_, HO, HM4, hbel4⟩, by simp [intOf]; omega⟩
            · rw [unhide HLS]; simp; omega
            · have := unhide HRK; rw [unhide HLS]; simp; omega
    · have hkn : k = n := by omega
      have HRN := hide (show rs.length = n by have := unhide HRK; omega)
      have hrn1 : rs.length ≤ n := by omega
      have hrn2 : n ≤ rs.length := by have := unhide HRN; omega
      clear hkn HRK
      go_wp2_with fail
      -- ways are joined
      go_loopw [10] (fun im wr => ∃ m : Nat, m ≤ n ∧ im = .int .i64 (m : Int) ∧ Hid (RowR wr w.heap.size n (.slice (some ⟨g, 0, none⟩) rs.length c) rs) ∧ Hid (MatOk wr w.heap.size n (.slice (some ⟨g, 0, none⟩) rs.length c) rs (wrN (mat0 ms U) m)) ∧ Below w.heap.size w wr) (fun im _ => n - (intOf im).toNat)
      case atStart => exact ⟨0, Nat.zero_le _, rfl, HR, HMT, hbel⟩
      case round =>
        clear HR HMT hbel
        obtain ⟨m, hm, rfl, HR, HMT, hbel⟩ := hrel
        obtain ⟨wm, rfl⟩ : ∃ wm, wm = wr := ⟨_, rfl⟩
        by_cases hmlt : m < n
        · have hmI : (m : Int) < (n : Int) := by omega
          have hmR : (m : Int) < (rs.length : Int) := by omega
          obtain ⟨M, hM⟩ : ∃ M, M = wrN (mat0 ms U) m := ⟨_, rfl⟩
          rw [← hM] at HMT
          have HMM := hide hM
          clear hM
          go_wp2_with fail
          go_loopw [11] (fun ii wr => ∃ i : Nat, i ≤ n ∧ ii = .int .i64 (i : Int) ∧ Hid (RowR wr w.heap.size n (.slice (some ⟨g, 0, none⟩) rs.length c) rs) ∧ Hid (MatOk wr w.heap.size n (.slice (some ⟨g, 0, none⟩) rs.length c) rs (prt M m i 0)) ∧ Below w.heap.size w wr) (fun ii _ => n - (intOf ii).toNat)
          case atStart => exact ⟨0, Nat.zero_le _, rfl, HR, hide ((unhide HMT).congr (fun i j _ _ => (prt_start M m i j).symm)), hbel⟩
          case round =>
            clear HR HMT hbel
            obtain ⟨i, hi, rfl, HR, HMT, hbel⟩ := hrel
            obtain ⟨wi, rfl⟩ : ∃ wi, wi = wr := ⟨_, rfl⟩
            by_cases hilt : i < n
            · have hiI : (i : Int) < (n : Int) := by omega
              have hiR : (i : Int) < (rs.length : Int) := by omega
              go_wp2_with fail
              go_loopw [12] (fun jj wr => ∃ j : Nat, j ≤ n ∧ jj = .int .i64 (j : Int) ∧ Hid (RowR wr w.heap.size n (.slice (some ⟨g, 0, none⟩) rs.length c) rs) ∧ Hid (MatOk wr w.heap.size n (.slice (some ⟨g, 0, none⟩) rs.length c) rs (prt M m i j)) ∧ Below w.heap.size w wr) (fun jj _ => n - (intOf jj).toNat)
              case atStart => exact ⟨0, Nat.zero_le _, rfl, HR, HMT, hbel⟩
              case round =>
                clear HR HMT hbel
                obtain ⟨j, hj, rfl, HR, HMT, hbel⟩ := hrel
                by_cases hjlt : j < n
                · have hjI : (j : Int) < (n : Int) := by omega
                  have c1 := (unhide HR).cell (i := i) (by omega)
                  have c2 := (unhide HR).cell (i := m) (by omega)
                  obtain ⟨b1, _⟩ := ((unhide HMT).1 i (by omega)).2 m hmlt
                  obtain ⟨b2, _⟩ := ((unhide HMT).1 m (by omega)).2 j hjlt
                  obtain ⟨b3, f3⟩ := ((unhide HMT).1 i (by omega)).2 j hjlt
                  rw [prt_im] at b1
                  rw [prt_mj] at b2
                  cases h1 : M i m
                  · rw [h1] at b1
                    have HN := hide ((unhide HMT).congr (fun i' j' _ _ => prt_no M m i j (Or.inl h1) i' j'))
                    clear HMT h1
                    go_wp2_with fail
                    exact ⟨⟨j + 1, by omega, by go_num, HR, HN, hbel⟩, by simp [intOf]; omega⟩
                  · rw [h1] at b1
                    cases h2 : M m j
                    · rw [h2] at b2
                      have HN := hide ((unhide HMT).congr (fun i' j' _ _ => prt_no M m i j (Or.inr h2) i' j'))
                      clear HMT h1 h2
                      go_wp2_with fail
                      exact ⟨⟨j + 1, by omega, by go_num, HR, HN, hbel⟩, by simp [intOf]; omega⟩
                    · rw [h2] at b2
                      have hri := (unhide HMT).2.2 i (by omega)
                      have HN := hide (((unhide HMT).set (i := i) (j := j) (by omega) hjlt).congr (fun i' j' _ _ => prt_yes M m i j h1 h2 i' j'))
                      have HRN2 := hide ((unhide HR).grown (set_grown wr (atR rs i) j (.bool true)) (fun k e x => hri.1 (e.trans x.symm)))
                      have hbn : Below w.heap.size w (wr.setCell ⟨atR rs i, j, none⟩ (.bool true)) := hbel.setCell (p := ⟨atR rs i, j, none⟩) hri.2 _
                      clear HMT HR h1 h2 hri
                      go_wp2_with fail
                      exact ⟨⟨j + 1, by omega, by go_num, HRN2, HN, hbn⟩, by simp [intOf]; omega⟩
                · have hjn : j = n := by omega
                  have HN := hide (show MatOk wr w.heap.size n (.slice (some ⟨g, 0, none⟩) rs.length c) rs (prt M m (i + 1) 0) from (unhide HMT).congr (fun i' j' _ hj' => by rw [hjn]; exact prt_row M m i n i' j' hj'))
                  clear HMT hjn
                  go_wp2_with fail
                  exact ⟨⟨i + 1, by omega, by go_num, HR, HN, hbel⟩, by simp [intOf]; omega⟩
            · have hin : i = n := by omega
              have HN := hide (show MatOk wi w.heap.size n (.slice (some ⟨g, 0, none⟩) rs.length c) rs (wrN (mat0 ms U) (m + 1)) from (unhide HMT).congr (fun i' j' hi' _ => by
                show _ = wr1 (wrN (mat0 ms U) m) m i' j'
                rw [hin, ← unhide HMM]
                exact prt_end M m n i' j' (by omega)))
              clear HMT hin
              go_wp2_with fail
              exact ⟨⟨m + 1, by omega, by go_num, HR, HN, hbel⟩, by simp [intOf]; omega⟩
        · have hmn : m = n := by omega
          have HF := hide (show ∀ i, i < n → BRow wm (atR rs i) n (wrN (mat0 ms U) n i) from fun i hi => by
            have := (unhide HMT).1 i (by omega)
            rw [hmn] at this
            exact this)
          have HC := hide (show ∀ i, i < n → wm.cell? ⟨g, i, none⟩ = some (.slice (some ⟨atR rs i, 0, none⟩) n n) from fun i hi => (unhide HR).cell (by omega))
          have hg := (unhide HR).lt g rfl
          have HRE := hide (show Value.slice (some ⟨g, 0, none⟩) rs.length c = Value.slice (some ⟨g, 0, none⟩) n c by rw [unhide HRN])
          clear HMT hmn HR
          go_wp2_with fail
          go_ret
          exact ⟨g, c, rs, congrArg Ending.returned (unhide HRE), hg.1, hg.2, HC, HF, hbel⟩
end Go.Proofs.YtokabkhnidlcnabGreatDoor

/-
  Walk: the specification's Union.
-/
namespace Go.Proofs.YtokabkhnidlcnabGreatDoor
set_option maxRecDepth 100000
open Go.RowKit

theorem empty_owned (w : World) (o1 o2 o3 : Obj) : ((((w.alloc o1).alloc o2).alloc o3).alloc (.cells #[] 70)).ownsRow (w.heap.size + 3) 70 4 (.slice (some ⟨w.heap.size + 1 + 1 + 1, 0, none⟩) 0 0) 0 [] := by
  have h := World.ownsRow_lit (base := w.heap.size + 3) (e := 70) (size := 4) (((w.alloc o1).alloc o2).alloc o3) #[] 0 (by simp) (Nat.zero_le _) rfl
  simpa using h

set_option maxRecDepth 100000 in
set_option maxHeartbeats 4000000 in
theorem specUnion_core (g g' c c' : Nat) (xs ys zs : List OpR) (HZS : Hid (zs = xs ++ ys)) (w : World) (hm : xs.length + ys.length ≤ 1048576) (hx : Ops w g 0 xs) (hy : Ops w g' 0 ys) (hB : g < w.heap.size) (hB' : g' < w.heap.size) :
    Calls Tryz.prog 34 #[.agg #[.slice (some ⟨g, 0, none⟩) xs.length c], .agg #[.slice (some ⟨g', 0, none⟩) ys.length c']] w fun e w' => (∃ h cap, e = .returned (.agg #[.slice (some ⟨h, 0, none⟩) (uniTo zs zs.length).length cap]) ∧ w.heap.size ≤ h ∧ Filled w' h (uniTo zs zs.length) (uniTo zs zs.length).length) ∧ Below w.heap.size w w' := by
  obtain ⟨i0, hi, hz0, hz1, hz2⟩ := info_parts infoOp'
  have ho0 := empty_owned w
  have hx4 : ∀ o1 o2 o3 o4, Ops ((((w.alloc o1).alloc o2).alloc o3).alloc o4) g 0 xs := fun o1 o2 o3 o4 => hx.below ((((below1 w o1).alloc (by simp) o2).alloc (by simp; omega) o3).alloc (by simp; omega) o4) hB
  have HO := hide ho0
  have HX := hide hx4
  have HY := hide hy
  have HI := hide hi
  have HZ := hide (And.intro hz0 (And.intro hz1 hz2))
  clear ho0 hx4 hx hy hi hz0 hz1 hz2
  go_enter Tryz.func34, Tryz.ntmps34
  go_wp2_with (at_builtin; refine wpList_append_own _ rfl (.tmp 9) (.tmp 11) 38 rfl (w.heap.size + 3) 70 i0 _ 4 40 Tryz.underlying38 (unhide HI) (unhide HZ).1 (unhide HZ).2.1 (unhide HZ).2.2 rfl (by decide) _ 0 [] rfl (unhide HO _ _ _) ⟨g, 0, none⟩ xs.length c (cellsL xs) rfl (cellsL_len xs) (ops_news (unhide HX _ _ _ _)) (cellsL_one' xs) ?b1 ?b2 ?b3 ?next)
  case b1 => unfold maxLen; omega
  case b2 => omega
  case b3 => simp
  case next =>
    intro v1 w1 hown1 hgrow1 hnil1
    have hb1 : Below (w.heap.size + 3) _ w1 := below_grown hgrow1 (by simp) (fun k hk => by simp [Value.ownBlock] at hk; omega)
    have hbw : Below w.heap.size w w1 := ((((below1 _ _).alloc (by simp) _).alloc (by simp; omega) _).alloc (by simp; omega) _).trans (hb1.mono (by omega))
    have d1 : w1.cell? ⟨w.heap.size + 1, 0, none⟩ = some (.slice (some ⟨g', 0, none⟩) ys.length c') := by rw [hb1.cell (p := ⟨w.heap.size + 1, 0, none⟩) (show w.heap.size + 1 < _ by omega)]; simp [go_sem]
    have d2 : w1.cell? ⟨w.heap.size + 1 + 1, 0, none⟩ = some (.slice none 0 0) := by rw [hb1.cell (p := ⟨w.heap.size + 1 + 1, 0, none⟩) (show w.heap.size + 1 + 1 < _ by omega)]; simp [go_sem]
    have d3 : w1.frozen? ⟨w.heap.size + 1 + 1, 0, none⟩ = false := by rw [hb1.frozen (p := ⟨w.heap.size + 1 + 1, 0, none⟩) (show w.heap.size + 1 + 1 < _ by omega)]; simp [go_sem]
    have z1 : w.heap.size + 3 ≤ w1.heap.size := by have := hb1.size; simp at this; omega
    obtain ⟨ga, ca, rfl⟩ := owns_value hown1 (by simpa using hnil1)
    have hga := (hown1.lt ga rfl).1
    have HOW := hide hown1
    have HY1 := hide ((unhide HY).below hbw hB')
    clear hown1 hgrow1 hnil1 hb1 HY HX HO
    go_wp2_with (at_builtin; refine wpList_append_own _ rfl (.tmp 13) (.tmp 15) 38 rfl (w.heap.size + 3) 70 i0 _ 4 40 Tryz.underlying38 (unhide HI) (unhide HZ).1 (unhide HZ).2.1 (unhide HZ).2.2 rfl (by decide) _ xs.length (cellsL xs) rfl (unhide HOW) ⟨g', 0, none⟩ ys.length c' (cellsL ys) rfl (cellsL_len ys) (ops_news (unhide HY1)) (cellsL_one' ys) ?b1 ?b2 ?b3 ?next)
    case b1 => unfold maxLen; omega
    case b2 => omega
    case b3 => exact z1
    case next =>
      intro v2 w2 hown2 hgrow2 hnil2
      have hb2 : Below (w.heap.size + 3) w1 w2 := below_grown hgrow2 z1 (fun k hk => by simp [Value.ownBlock] at hk; omega)
      have hbw2 : Below w.heap.size w w2 := hbw.trans (hb2.mono (by omega))
      have e2 : w2.cell? ⟨w.heap.size + 1 + 1, 0, none⟩ = some (.slice none 0 0) := (hb2.cell (p := ⟨w.heap.size + 1 + 1, 0, none⟩) (show w.heap.size + 1 + 1 < _ by omega)).trans d2
      have e3 : w2.frozen? ⟨w.heap.size + 1 + 1, 0, none⟩ = false := (hb2.frozen (p := ⟨w.heap.size + 1 + 1, 0, none⟩) (show w.heap.size + 1 + 1 < _ by omega)).trans d3
      have z2 : w.heap.size + 3 ≤ w2.heap.size := Nat.le_trans z1 hb2.size
      obtain ⟨gb, cb, rfl⟩ := owns_value hown2 (by simp [hnil2])
      have hlen : xs.length + ys.length = zs.length := by rw [unhide HZS]; simp
      have hcat : cellsL xs ++ cellsL ys = cellsL zs := by rw [unhide HZS, cellsL_append]
      rw [hcat, hlen] at hown2
      obtain ⟨hgb, hfil⟩ := owns_filled hown2
      obtain ⟨hcap, hcap2⟩ := owns_cap hown2
      have hzl : zs.length ≤ 1048576 := by omega
      rw [hlen]
      have HF := hide hfil
      have hgbl := hfil.1
      have ho2 : (w2.alloc (.cells #[] 70)).ownsRow w2.heap.size 70 4 (.slice (some ⟨w2.heap.size, 0, none⟩) 0 0) 0 (cellsL []) := by
        rw [cellsL_nil]
        simpa using World.ownsRow_lit (base := w2.heap.size) (e := 70) (size := 4) w2 #[] 0 (Nat.le_refl _) (Nat.zero_le _) rfl
      have HO2 := hide ho2
      clear hlen hcat hown2 hgrow2 hnil2 hb2 HOW HY1 d1 d2 d3 hga hm hfil ho2 hbw z1
      go_wp2_with fail
      go_loopw [6, 7] (fun out i wr => ∃ (k go co : Nat), k ≤ zs.length ∧ i = .int .i64 (k : Int) ∧ out = .slice (some ⟨go, 0, none⟩) (uniTo zs k).length co ∧ Hid (wr.ownsRow w2.heap.size 70 4 (.slice (some ⟨go, 0, none⟩) (uniTo zs k).length co) (uniTo zs k).length (cellsL (uniTo zs k))) ∧ Below w2.heap.size w2 wr) (fun _ i _ => zs.length - (intOf i).toNat)
      case atStart => exact ⟨0, w2.heap.size, 0, Nat.zero_le _, rfl, rfl, HO2, below1 _ _⟩
      case round =>
        clear HO2
        obtain ⟨k, go, co, hk, rfl, rfl, hown, hbel⟩ := hrel
        by_cases hlt : k < zs.length
        · have hops := (unhide HF).ops.below hbel (unhide HF).1
          obtain ⟨a0, a1, a2, a3⟩ := hops k hlt
          simp only [Nat.zero_add] at a0 a1 a2 a3
          have hltI : (k : Int) < (zs.length : Int) := by omega
          have hkcb : (k : Int) ≤ (cb : Int) := by omega
          have zgb : gb < wr.heap.size := Nat.lt_of_lt_of_le hgbl hbel.size
          have HOPS := hide hops
          clear hops
          go_wp2_with fail
          go_region_held (fun w' => w'.cell? ⟨gb, k * 4, none⟩ = some (.string (atO zs k).s) ∧ w'.cell? ⟨gb, k * 4 + 1, none⟩ = some (.int .i64 (atO zs k).k) ∧ w'.cell? ⟨gb, k * 4 + 2, none⟩ = some (.int .i64 (atO zs k).l) ∧ w'.cell? ⟨gb, k * 4 + 3, none⟩ = some (.int .i64 (atO zs k).sd)) (go_keep)
            (first | (go_at_call 48; refine (l1Has_any gb _ k zs (atO zs k) _ hzl (by omega) (show Ops wr.drew gb 0 zs from unhide HOPS) zgb).mono ?_; rintro e w3 ⟨⟨v, rfl, hv⟩, hb3⟩; have HV := hide hv; have HB3 := hide ((Below.refl wr.heap.size wr).drew.trans hb3); have q0 := (hb3.cell (p := ⟨gb, k * 4, none⟩) zgb).trans (show wr.drew.cell? ⟨gb, k * 4, none⟩ = _ from a0); have q1 := (hb3.cell (p := ⟨gb, k * 4 + 1, none⟩) zgb).trans (show wr.drew.cell? ⟨gb, k * 4 + 1, none⟩ = _ from a1); have q2 := (hb3.cell (p := ⟨gb, k * 4 + 2, none⟩) zgb).trans (show wr.drew.cell? ⟨gb, k * 4 + 2, none⟩ = _ from a2); have q3 := (hb3.cell (p := ⟨gb, k * 4 + 3, none⟩) zgb).trans (show wr.drew.cell? ⟨gb, k * 4 + 3, none⟩ = _ from a3); clear hv hb3))
          have hbel3 := hbel.trans ((unhide HB3).mono hbel.size)
          have hown3 := hide ((unhide hown).kept (w' := w3) (row := none) ⟨(unhide HB3).os, (unhide HB3).tape, (unhide HB3).output, (unhide HB3).size, fun i hi _ => (unhide HB3).block i hi⟩ (Or.inr (by simp [Value.ownBlock])))
          have hul := uni_len zs k
          clear hown HB3 hbel a0 a1 a2 a3
          cases v
          · have hmi := hide (uni_miss (fun h => Bool.false_ne_true ((unhide HV).2 h)))
            clear HV
            go_wp2_with (at_builtin; refine wpList_append_own _ rfl (.tmp 33) (.tmp 38) 38 rfl w2.heap.size 70 i0 _ 4 40 Tryz.underlying38 (unhide HI) (unhide HZ).1 (unhide HZ).2.1 (unhide HZ).2.2 rfl (by decide) _ (uniTo zs k).length (cellsL (uniTo zs k)) rfl ((unhide hown3).alloc _) ⟨w3.heap.size, 0, none⟩ 1 1 (cellsL [atO zs k]) rfl rfl (new_news w3 (atO zs k)) (cellsL_one' _) ?b1 ?b2 ?b3 ?next)
            case b1 => unfold maxLen; omega
            case b2 => omega
            case b3 => have := hbel3.size; simp; omega
            case next =>
              intro v4 w4 hown4 hgrow4 hnil4
              have hgo := (unhide hown3).lt go rfl
              have hbel4 : Below w2.heap.size w2 w4 := (hbel3.alloc hbel3.size _).grown hgrow4 (by have := hbel3.size; simp; omega) (fun q hq => by simp [Value.ownBlock] at hq; omega)
              obtain ⟨g4, c4, rfl⟩ := owns_value hown4 (by simp [hnil4])
              have hlen4 : (uniTo zs (k + 1)).length = (uniTo zs k).length + 1 := by rw [unhide hmi]; simp
              rw [← cellsL_append, ← unhide hmi, ← hlen4] at hown4
              have HW4 := hide hown4
              rw [← hlen4]
              clear hown4 hgrow4 hnil4 hown3 hlen4 hmi
              go_wp2
              exact ⟨⟨k + 1, g4, c4, by omega, by go_num, rfl, HW4, hbel4⟩, by simp [intOf]; omega⟩
          · have hhi := hide (uni_hit ((unhide HV).1 rfl))
            clear HV
            go_wp2
            refine ⟨⟨k + 1, go, co, by omega, by go_num, ?_, ?_, hbel3⟩, by simp [intOf]; omega⟩
            · rw [unhide hhi]
            · rw [unhide hhi]; exact hown3
        · have hkz : k = zs.length := by omega
          have c2 : wr.cell? ⟨w.heap.size + 1 + 1, 0, none⟩ = some (.slice none 0 0) := (hbel.cell (p := ⟨w.heap.size + 1 + 1, 0, none⟩) (show w.heap.size + 1 + 1 < _ by omega)).trans e2
          have c3 : wr.frozen? ⟨w.heap.size + 1 + 1, 0, none⟩ = false := (hbel.frozen (p := ⟨w.heap.size + 1 + 1, 0, none⟩) (show w.heap.size + 1 + 1 < _ by omega)).trans e3
          obtain ⟨hgo, hfo⟩ := owns_filled (unhide hown)
          have HFO := hide hfo
          have HKZ := hide hkz
          clear hfo hown hkz e2 e3
          go_wp2
          have hkz := unhide HKZ
          subst hkz
          refine bodyPost_ret (v := .agg #[.slice (some ⟨go, 0, none⟩) (uniTo zs zs.length).length co]) (by simp [results, Tryz.results34, go_sem, c2]) rfl ⟨⟨go, co, rfl, by omega, ?_⟩, ?_⟩
          · exact (unhide HFO).setCell _ _ (by simp; omega)
          · exact (hbw2.trans (hbel.mono (by omega))).setCell (by simp; omega) _

theorem specUnion_any (g g' c c' : Nat) (xs ys : List OpR) (w : World) (hm : xs.length + ys.length ≤ 1048576) (hx : Ops w g 0 xs) (hy : Ops w g' 0 ys) (hB : g < w.heap.size) (hB' : g' < w.heap.size) :
    Calls Tryz.prog 34 #[.agg #[.slice (some ⟨g, 0, none⟩) xs.length c], .agg #[.slice (some ⟨g', 0, none⟩) ys.length c']] w fun e w' => (∃ h cap, e = .returned (.agg #[.slice (some ⟨h, 0, none⟩) (uniTo (xs ++ ys) (xs ++ ys).length).length cap]) ∧ w.heap.size ≤ h ∧ Filled w' h (uniTo (xs ++ ys) (xs ++ ys).length) (uniTo (xs ++ ys) (xs ++ ys).length).length) ∧ Below w.heap.size w w' :=
  specUnion_core g g' c c' xs ys (xs ++ ys) (hide rfl) w hm hx hy hB hB'
end Go.Proofs.YtokabkhnidlcnabGreatDoor
