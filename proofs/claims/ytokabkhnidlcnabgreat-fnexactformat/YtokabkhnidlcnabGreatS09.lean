import Derived.Shelf.Strings.OnBuilder
import Derived.Test.YtokabkhnidlcnabGreatR00
import Derived.Test.YtokabkhnidlcnabGreatR10
import Derived.Test.YtokabkhnidlcnabGreatR15
import Derived.Test.YtokabkhnidlcnabGreatS00
import Derived.Test.YtokabkhnidlcnabGreatS05
import Derived.Test.YtokabkhnidlcnabGreatS07
import Derived.Test.YtokabkhnidlcnabGreatS08

/-
  Walks: the program's Group.
-/
namespace Go.Proofs.YtokabkhnidlcnabGreat
set_option maxRecDepth 100000
set_option linter.unusedSimpArgs false
set_option linter.unusedVariables false
open Go.RowKit Go.Maps

theorem code_oneG {xs : List OpR} {c : Int} (h : IsCode xs c) (h0 : IsCode xs 0) : c = 0 := IsCode_one h h0

/-- What grouped hands back. -/
def GrpPost (ns : List OpR) (xs : List NodeR) (x : Ending) : Prop :=
  (∃ v : Value, x = .returned (.tuple #[v, .bool false]) ∧ Hid (¬ ((IsCode ns 0 ∧ InOrd xs ∧ Knows ns xs) ∧ (gS ns xs (xs.length - 1) 0 0).length ≤ 20000)) ∧ (v = .nilIface ∨ ∃ T u, v = .iface T u)) ∨
  (x = .returned (.tuple #[fS ns xs (xs.length - 1) 0, .bool true]) ∧ Hid ((IsCode ns 0 ∧ InOrd xs ∧ Knows ns xs) ∧ (gS ns xs (xs.length - 1) 0 0).length ≤ 20000))

set_option maxHeartbeats 2000000 in
theorem grouped_any (b off cap bn offn cn : Nat) (ns : List OpR) (xs : List NodeR) (w : World) (hm : ns.length ≤ 1048576) (hmn : xs.length ≤ 1048576) (hw : Ops w b off ns) (hsz : Sized ns) (hB : b < w.heap.size) (hwn : OpsN w bn offn xs) (hsn : SizedN xs) (hBn : bn < w.heap.size) :
    Calls Tryz.prog 46 #[.agg #[.slice (some ⟨b, off, none⟩) ns.length cap], .agg #[.slice (some ⟨bn, offn, none⟩) xs.length cn]] w fun x w' => GrpPost ns xs x ∧ Below w.heap.size w w' := by
  have HW := hide hw
  have HWN := hide hwn
  have HZ := hide hsz
  have HZN := hide hsn
  clear hw hwn hsz hsn
  go_enter Tryz.func46, Tryz.ntmps46
  go_wp2_with fail
  refine (indexTable_any b off cap ns _ hm ((unhide HW).below ((below1 _ _).alloc (by simp) _) hB) (unhide HZ) (by simp; omega)).mono ?_
  rintro e w1 ⟨⟨x, y, c, rfl, hc, hix⟩, hb1⟩
  have HC := hide hc
  have HIX := hide hix
  have bel1 : Below w.heap.size w w1 := ((below1 _ _).alloc (by simp) _).trans (hb1.mono (by simp; omega))
  have c1 : w1.cell? ⟨w.heap.size + 1, 0, none⟩ = some (.slice (some ⟨bn, offn, none⟩) xs.length cn) := (hb1.cell (p := ⟨w.heap.size + 1, 0, none⟩) (by simp)).trans (by simp [go_sem])
  have z1 : w.heap.size + 2 ≤ w1.heap.size := by have := hb1.size; simp at this; omega
  clear hc hix hb1
  by_cases hc0 : c = 0
  case neg =>
    have hc0' : (c != 0) = true := by simpa using hc0
    have HN := hide (show ¬ IsCode ns 0 from fun h => hc0 (IsCode_one (unhide HC) h))
    clear hc0
    go_wp2_with fail
    refine bodyPost_ret (v := .tuple #[.nilIface, .bool false]) ?res rfl ⟨Or.inl ⟨.nilIface, rfl, hide (fun h => (unhide HN) h.1.1), Or.inl rfl⟩, bel1.alloc bel1.size _⟩
    case res => simp [results, Tryz.results46, go_sem]
  subst hc0
  obtain ⟨bo, bs, rfl, rfl, hidx⟩ := (unhide HIX) rfl
  have HID := hide (hidx.kept (below1 w1 (.cells #[.map (some bo), .map (some bs)] 70)))
  have HOK := hide (code_ok (unhide HC))
  have belA : Below w.heap.size w (w1.alloc (.cells #[.map (some bo), .map (some bs)] 70)) := bel1.alloc bel1.size _
  have HCS := hide (show Cs [(w.heap.size + 1, 0, .slice (some ⟨bn, offn, none⟩) xs.length cn), (w1.heap.size, 0, .map (some bo)), (w1.heap.size, 1, .map (some bs))] (w1.alloc (.cells #[.map (some bo), .map (some bs)] 70)) from fun p hp => by
    simp only [List.mem_cons, List.not_mem_nil, or_false] at hp
    rcases hp with rfl | rfl | rfl
    · exact ((below1 _ _).cell (p := ⟨w.heap.size + 1, 0, none⟩) (show w.heap.size + 1 < w1.heap.size by omega)).trans c1
    · simp [go_sem]
    · simp [go_sem])
  clear HIX hidx c1
  have k1 := (unhide HCS) (w.heap.size + 1, 0, .slice (some ⟨bn, offn, none⟩) xs.length cn) (by simp)
  have k2 := (unhide HCS) (w1.heap.size, 0, .map (some bo)) (by simp)
  have k3 := (unhide HCS) (w1.heap.size, 1, .map (some bs)) (by simp)
  simp only at k1 k2 k3
  go_wp2_with fail
  refine (isWellFormed_any bo bs bn offn cn ns xs _ hmn (unhide HID) (unhide HC) (unhide HOK) ((unhide HWN).below belA hBn) (unhide HZN) (Nat.lt_of_lt_of_le hBn belA.size)).mono ?_
  rintro e w3 ⟨⟨v, rfl, hv⟩, hb3⟩
  have HV := hide hv
  have bel3 := belA.trans (hb3.mono belA.size)
  have z3 : w1.heap.size + 1 ≤ w3.heap.size := by have := hb3.size; simp at this; omega
  have HC3 := hide ((unhide HCS).below hb3)
  have HI3 := hide ((unhide HID).kept hb3)
  clear hv hb3 HCS HID k1 k2 k3 belA
  cases v
  · go_wp2_with fail
    refine bodyPost_ret (v := .tuple #[.nilIface, .bool false]) ?res rfl ⟨Or.inl ⟨.nilIface, rfl, hide (fun h => Bool.false_ne_true ((unhide HV).2 ⟨h.1.2.1, h.1.2.2⟩)), Or.inl rfl⟩, bel3⟩
    case res => simp [results, Tryz.results46, go_sem]
  have HO := hide ((unhide HV).1 rfl).1
  have HK := hide ((unhide HV).1 rfl).2
  clear HV
  have hlx := (unhide HO).2.1
  have hlx1 := (unhide HO).1
  have HG0 := hide (show GrAt (w3.alloc (.cells #[.int .i64 0] 153)) w3.heap.size 0 from ⟨by simp [go_sem], by simp [go_sem]⟩)
  have HC4 := hide ((unhide HC3).below (below1 w3 (.cells #[.int .i64 0] 153)))
  have HI4 := hide ((unhide HI3).kept (below1 w3 (.cells #[.int .i64 0] 153)))
  have bel4 : Below w.heap.size w (w3.alloc (.cells #[.int .i64 0] 153)) := bel3.alloc bel3.size _
  have k1 := (unhide HC4) (w.heap.size + 1, 0, .slice (some ⟨bn, offn, none⟩) xs.length cn) (by simp)
  have k2 := (unhide HC4) (w1.heap.size, 0, .map (some bo)) (by simp)
  have k3 := (unhide HC4) (w1.heap.size, 1, .map (some bs)) (by simp)
  simp only at k1 k2 k3
  clear HC3 HI3 HC4
  go_wp2_with fail
  refine (exprOf_any bo bs bn offn cn ns xs _ (unhide HI4) (unhide HC) (unhide HOK) ((unhide HWN).below bel4 hBn) (unhide HZN) (Nat.lt_of_lt_of_le hBn bel4.size) (unhide HO) (unhide HK)).mono ?_
  rintro e w5 ⟨rfl, hb5⟩
  have HG5 := hide ((unhide HG0).below hb5)
  have bel5 := bel4.trans (hb5.mono bel4.size)
  have HFIT := hide (fit_any ns xs (unhide HO).2.2.2 (unhide HK) (unhide HZ) xs.length (xs.length - 1) 0 (by omega) (by omega) (unhide HO).2.2.1 w3.heap.size 0 0 w5 (unhide HG5) (by omega))
  obtain ⟨T, u, hTu⟩ := exS_iface ns xs (xs.length - 1)
  obtain ⟨T2, u2, hTu2⟩ := fS_iface ns xs xs.length (xs.length - 1) 0 (by omega) (unhide HO).2.2.1 0
  rw [hTu, hTu2] at HFIT
  have HT2 := hide hTu2
  have hln := (gS_len ns xs xs.length (xs.length - 1) 0 (by omega) (unhide HO).2.2.1 0 0).2
  rw [hTu]
  clear hb5 HG0 HI4 k1 k2 k3 hTu hTu2 bel4
  go_wp2_with fail
  refine (unhide HFIT).mono ?_
  rintro e w6 ⟨rfl, hg6, hk6⟩
  have bel6 : Below w.heap.size w w6 := bel5.trans ((unhide hk6).below (by exact bel5.size) (by omega))
  have cg := (unhide hg6).1
  obtain ⟨q, hq⟩ : ∃ q, q = (gS ns xs (xs.length - 1) 0 0).length := ⟨_, rfl⟩
  rw [← hq] at cg hln
  rw [Nat.zero_add] at cg
  have HQ := hide hq
  clear hg6 hk6 HFIT HG5 hq
  by_cases hq2 : q ≤ 20000
  · have hqI : (q : Int) ≤ 20000 := by omega
    go_wp2_with fail
    go_quiet (fail)
    go_wp2
    refine bodyPost_ret (v := .tuple #[.iface T2 u2, .bool true]) ?res rfl ⟨Or.inr ⟨by rw [unhide HT2], hide ⟨⟨unhide HC, unhide HO, unhide HK⟩, by rw [← unhide HQ]; exact hq2⟩⟩, below_samS bel6 rfl rfl rfl rfl⟩
    case res => simp [results, Tryz.results46, go_sem, hqI]
  · have hqI : ¬ (q : Int) ≤ 20000 := by omega
    go_wp2_with fail
    go_quiet (fail)
    go_wp2
    refine bodyPost_ret (v := .tuple #[.iface T2 u2, .bool false]) ?res rfl ⟨Or.inl ⟨_, rfl, hide (fun h => hq2 (by rw [unhide HQ]; exact h.2)), Or.inr ⟨_, _, rfl⟩⟩, below_samS bel6 rfl rfl rfl rfl⟩
    case res => simp [results, Tryz.results46, go_sem, hqI]
end Go.Proofs.YtokabkhnidlcnabGreat

/-
  strings.Join at this program.
-/
namespace Go.Proofs.YtokabkhnidlcnabGreat
set_option maxRecDepth 100000
open Go.RowKit Go.Shelf

def lays156_ren : Go.Shelf.Ren := ⟨fun | 156 => 48 | 165 => 88 | 166 => 89 | 169 => 90 | 240 => 126 | 241 => 127 | 276 => 145 | 277 => 146 | n => n, fun | 31 => 95 | 9 => 9 | 3 => 3 | 4 => 4 | 0 => 0 | 20 => 20 | 72 => 178 | 76 => 182 | 70 => 176 | 37 => 87 | 75 => 181 | 127 => 208 | 164 => 216 | 5 => 5 | 80 => 184 | n => n, fun | n => n⟩
theorem lays156 : Go.Proofs.Lays.n156 Tryz.prog lays156_ren := {
  mixed := by kernel_rfl
  f156 := Tryz.func48.trans (congrArg some (by kernel_rfl))
  f165 := Tryz.func88.trans (congrArg some (by kernel_rfl))
  f166 := Tryz.func89.trans (congrArg some (by kernel_rfl))
  f169 := Tryz.func90.trans (congrArg some (by kernel_rfl))
  f240 := Tryz.func126.trans (congrArg some (by kernel_rfl))
  f241 := Tryz.func127.trans (congrArg some (by kernel_rfl))
  f276 := Tryz.func145.trans (congrArg some (by kernel_rfl))
  f277 := Tryz.func146.trans (congrArg some (by kernel_rfl))
  t0 := Tryz.underlying0
  a0 := Tryz.isAgg0
  z0 := Tryz.sizeOf0
  v0 := Tryz.zeroValue0
  t3 := Tryz.underlying3
  a3 := Tryz.isAgg3
  z3 := Tryz.sizeOf3
  v3 := Tryz.zeroValue3
  t4 := Tryz.underlying4
  a4 := Tryz.isAgg4
  z4 := Tryz.sizeOf4
  v4 := Tryz.zeroValue4
  t9 := Tryz.underlying9
  a9 := Tryz.isAgg9
  z9 := Tryz.sizeOf9
  v9 := Tryz.zeroValue9
  t20 := Tryz.underlying20
  a20 := Tryz.isAgg20
  z20 := Tryz.sizeOf20
  v20 := Tryz.zeroValue20
  t31 := Tryz.underlying95
  a31 := Tryz.isAgg95
  z31 := Tryz.sizeOf95
  v31 := Tryz.zeroValue95
  t37 := Tryz.underlying87
  a37 := Tryz.isAgg87
  z37 := Tryz.sizeOf87
  v37 := Tryz.zeroValue87
  t70 := Tryz.underlying176
  a70 := Tryz.isAgg176
  z70 := Tryz.sizeOf176
  v70 := Tryz.zeroValue176
  t72 := Tryz.underlying178
  a72 := Tryz.isAgg178
  z72 := Tryz.sizeOf178
  v72 := Tryz.zeroValue178
  t75 := Tryz.underlying181
  a75 := Tryz.isAgg181
  z75 := Tryz.sizeOf181
  v75 := Tryz.zeroValue181
  t76 := Tryz.underlying182
  a76 := Tryz.isAgg182
  z76 := Tryz.sizeOf182
  v76 := Tryz.zeroValue182
  t127 := Tryz.underlying208
  a127 := Tryz.isAgg208
  z127 := Tryz.sizeOf208
  v127 := Tryz.zeroValue208
  t164 := Tryz.underlying216
  a164 := Tryz.isAgg216
  z164 := Tryz.sizeOf216
  v164 := Tryz.zeroValue216 }
theorem Builder_Extra_156 : Builder.Extra Tryz.prog lays156_ren := {
  sizeBuilder := by kernel_rfl
  liesBuilder := by kernel_rfl
  t5 := Tryz.underlying5
  a5 := Tryz.isAgg5
  z5 := Tryz.sizeOf5
  v5 := Tryz.zeroValue5
  infoByte := by kernel_rfl
  cellsByte := by kernel_rfl
  sizeByte := by kernel_rfl
  neB5 := by decide }

theorem join_none (a : Option Addr) (c : Nat) (sep : ByteArray) (w : World) :
    Calls Tryz.prog 48 #[.slice a 0 c, .string sep] w fun e w' => e = .returned (.string ⟨#[]⟩) ∧ w' = w := Any.strings_Join_none lays156 Builder_Extra_156 a c sep w

theorem join_any (bk o c : Nat) (xs : List ByteArray) (sep : ByteArray) (w : World) (hcells : ∀ (j : Nat) x, xs[j]? = some x → w.cell? ⟨bk, o + j, none⟩ = some (.string x)) (hbk : bk < w.heap.size) (hN : xs.length ≤ 140737488355328) (hcap : xs.length ≤ c) (hlen : (Lib.join (xs.map (·.data.toList)) sep.data.toList).length ≤ 140737488355328) :
    Calls Tryz.prog 48 #[.slice (some ⟨bk, o, none⟩) xs.length c, .string sep] w fun e w' => e = .returned (.string ⟨(Lib.join (xs.map (·.data.toList)) sep.data.toList).toArray⟩) ∧ Below w.heap.size w w' := Any.strings_Join lays156 Builder_Extra_156 bk o c xs sep w hcells hbk hN hcap hlen
end Go.Proofs.YtokabkhnidlcnabGreat

/-
  Walk: the program's Print.
-/
namespace Go.Proofs.YtokabkhnidlcnabGreat
set_option maxRecDepth 100000
set_option linter.unusedSimpArgs false
set_option linter.unusedVariables false
open Go.RowKit Go.Maps

theorem join_flat (ps : List ByteArray) : Lib.join (ps.map (·.data.toList)) (⟨#[]⟩ : ByteArray).data.toList = flat ps := by
  unfold Lib.join flat
  induction ps with
  | nil => rfl
  | cons a r ih =>
    cases r with
    | nil => simp [List.intercalate]
    | cons b r => simp [List.intercalate, List.intersperse] at ih ⊢; rw [ih]

theorem owns_capS {w : World} {base n size g cap : Nat} {e : TypeId} {xs : List Value} (h : w.ownsRow base e size (.slice (some ⟨g, 0, none⟩) n cap) n xs) : n ≤ cap ∧ cap ≤ maxLen := by
  obtain ⟨_, h | ⟨g', cap', cur, hv', _, _, h1, h2, _⟩⟩ := h
  · simp at h
  · simp only [Value.slice.injEq, Option.some.injEq] at hv'
    obtain ⟨_, _, rfl⟩ := hv'
    exact ⟨h1, h2⟩

set_option maxHeartbeats 2000000 in
theorem implPrint_any (b off cap bn offn cn : Nat) (ns : List OpR) (xs : List NodeR) (w : World) (hm : ns.length ≤ 1048576) (hmn : xs.length ≤ 1048576) (hw : Ops w b off ns) (hsz : Sized ns) (hB : b < w.heap.size) (hwn : OpsN w bn offn xs) (hsn : SizedN xs) (hBn : bn < w.heap.size) :
    Calls Tryz.prog 18 #[.agg #[.slice (some ⟨b, off, none⟩) ns.length cap], .agg #[.slice (some ⟨bn, offn, none⟩) xs.length cn]] w fun e w' => (∃ (s : ByteArray) (v : Bool), e = .returned (.tuple #[.string s, .bool v]) ∧ Hid (PrintIs ns xs s v)) ∧ Below w.heap.size w w' := by
  have HW := hide hw
  have HWN := hide hwn
  have HZ := hide hsz
  have HZN := hide hsn
  have HB0 := hide (show ∀ o1 o2 : Obj, Below w.heap.size w ((w.alloc o1).alloc o2) from fun o1 o2 => (below1 w o1).alloc (by simp) o2)
  clear hw hwn hsz hsn
  go_enter Tryz.func18, Tryz.ntmps18
  go_wp2_with fail
  refine (grouped_any b off cap bn offn cn ns xs _ hm hmn ((unhide HW).below ((unhide HB0) _ _) hB) (unhide HZ) (by simp; omega) ((unhide HWN).below ((unhide HB0) _ _) hBn) (unhide HZN) (by simp; omega)).mono ?_
  rintro e w1 ⟨hp, hb1⟩
  have bel1 : Below w.heap.size w w1 := ((unhide HB0) _ _).trans (hb1.mono (by simp; omega))
  clear hb1 HB0
  rcases hp with ⟨v, rfl, hn, hv⟩ | ⟨rfl, hy⟩
  · have HN := hide (unhide hn)
    clear hn
    rcases hv with rfl | ⟨T, u, rfl⟩
    · go_wp2_with fail
      go_ret2
      exact ⟨⟨_, _, rfl, hide (Or.inr ⟨unhide HN, rfl, rfl⟩)⟩, bel1⟩
    · go_wp2_with fail
      go_ret2
      exact ⟨⟨_, _, rfl, hide (Or.inr ⟨unhide HN, rfl, rfl⟩)⟩, bel1⟩
  · obtain ⟨G, hG, hgood, htx, hz20, hgs, hfs⟩ := print_tree (unhide hy)
    rw [hfs]
    obtain ⟨⟨T, u, hTu⟩, hcall⟩ := wr_tree ns G hgood.well
    have hwl : (yT G).length ≤ 40000 := by
      have := ySy_le G
      simp [yT]
      omega
    have h0 := yT_first hgood.sh
    have hpt := pieces_text (yT G) h0 (yT G).length (Nat.le_refl _)
    rw [List.take_length] at hpt
    obtain ⟨st, HST⟩ : ∃ st, Hid (st = (yT G).foldl put1 ([], 0)) := ⟨_, hide rfl⟩
    have hfl := fold_len (yT G) ([], 0)
    rw [← unhide HST] at hpt hfl
    have HTX := hide (show flat st.1 = txT G from hpt.1)
    have hlen := txT_len htx 20000 hz20
    have HFL := hide (show (Lib.join (st.1.map (·.data.toList)) (⟨#[]⟩ : ByteArray).data.toList).length ≤ 140737488355328 by rw [join_flat, unhide HTX]; omega)
    have hp0 : PrAt (w1.alloc (.cells #[.slice none 0 0, .int .i64 0] 97)) w1.heap.size (.slice none 0 0) [] 0 :=
      ⟨by simp [go_sem], by simp [go_sem], fun o => by simp [go_sem], World.ownsRow_nil _ _ _ _⟩
    have HCALL := hide (hcall w1.heap.size (.slice none 0 0) [] 0 _ st hp0 (by simp; omega) (unhide HST))
    simp only [List.length_nil, Nat.zero_add] at hfl
    have hfl2 : st.1.length ≤ 80000 := by omega
    have HG := hide hG
    have hne : st.1 ≠ [] := fun e => by
      have := yT_pos hgood.sh
      have h1 : (yT G).length ≠ 0 := by omega
      have e2 : 1 ≤ st.1.length := by
        rw [unhide HST]
        cases hh : yT G with
        | nil => rw [hh] at h1; exact absurd rfl h1
        | cons x r =>
          have mono : ∀ (W : List WordR) (q : List ByteArray × Int), q.1.length ≤ (W.foldl put1 q).1.length := fun W => by
            induction W with
            | nil => intro q; exact Nat.le_refl _
            | cons y W ih =>
              intro q
              have := ih (put1 q y)
              simp only [List.foldl_cons]
              refine Nat.le_trans ?_ this
              simp [put1]
          have := mono r (put1 ([], 0) x)
          simp only [List.foldl_cons]
          refine Nat.le_trans ?_ this
          simp [put1]
      rw [e] at e2
      simp at e2
    have HNE := hide hne
    rw [hTu] at HCALL ⊢
    clear hG hgood htx hgs hfs hTu hcall hwl h0 hpt hfl hlen hp0 hz20 hne
    go_wp2_with fail
    refine (unhide HCALL).mono ?_
    rintro x w2 ⟨rfl, v2, p1, p2, p3⟩
    have bel2 : Below w.heap.size w w2 := ⟨(unhide p2).os.trans bel1.os, (unhide p2).tape.trans bel1.tape, (unhide p2).output.trans bel1.output, by have := (unhide p2).size; have := bel1.size; simp at *; omega, fun i hi => ((unhide p2).block i (by have := bel1.size; simp; omega) (by have := bel1.size; omega) (by simp [Value.ownBlock])).trans (((below1 w1 _).block i (by have := bel1.size; omega)).trans (bel1.block i hi))⟩
    have c0 := (unhide p1).c0
    have hrow := (unhide p1).row
    obtain ⟨g2, k2, rfl⟩ : ∃ g k, v2 = .slice (some ⟨g, 0, none⟩) st.1.length k := by
      obtain ⟨_, ⟨rfl, h0⟩ | ⟨g, cap, cur, h, _⟩⟩ := hrow
      · exact absurd (List.eq_nil_of_length_eq_zero h0) (unhide HNE)
      · exact ⟨_, _, h⟩
    have HCE := hide hrow.cells
    have hgl := (hrow.lt g2 rfl).2
    have hcp := (owns_capS hrow).1
    clear p2 p3 hrow HCALL
    go_wp2_with fail
    refine (join_any g2 0 k2 st.1 ⟨#[]⟩ _ (unhide HCE) hgl (by omega) hcp (unhide HFL)).mono ?_
    rintro x w3 ⟨rfl, hb3⟩
    rw [join_flat, unhide HTX]
    have bel3 := bel2.trans (hb3.mono bel2.size)
    clear c0 hb3
    go_wp2_with fail
    go_ret2
    exact ⟨⟨_, _, rfl, hide (Or.inl ⟨unhide hy, rfl, by rw [← unhide HG]⟩)⟩, bel3⟩
end Go.Proofs.YtokabkhnidlcnabGreat
