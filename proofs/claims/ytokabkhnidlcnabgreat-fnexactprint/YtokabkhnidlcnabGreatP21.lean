import Derived.Shelf.Strings.OnBuilder
import Derived.Test.YtokabkhnidlcnabGreatP00
import Derived.Test.YtokabkhnidlcnabGreatP13
import Derived.Test.YtokabkhnidlcnabGreatP20

/-
  The plain mathematics of Print: the tree of a row of nodes, its text.
-/
namespace Go.Proofs.YtokabkhnidlcnabGreat
set_option maxRecDepth 100000
set_option linter.unusedSimpArgs false
set_option linter.unusedVariables false
open Go.RowKit
open Go.Deep (BT)

/-- The tree of the stretch of node i. -/
def trF (xs : List NodeR) : Nat → Nat → ET
  | 0, _ => .nil
  | n + 1, i => if kids (atN xs i).k = 0 then .node (atN xs i).k.toNat 0 (atN xs i).t .nil .nil
    else if kids (atN xs i).k = 1 then .node (atN xs i).k.toNat 0 (atN xs i).t (trF xs n (i - 1)) .nil
    else .node (atN xs i).k.toNat 0 (atN xs i).t (trF xs n (atN xs i).a.toNat) (trF xs n (i - 1))

theorem trF_lies {xs : List NodeR} : ∀ (T : ET) (s : Nat), Sh T → Lies xs T s → ∀ n, tsz T ≤ n → trF xs n (s + tsz T - 1) = T := by
  intro T
  induction T with
  | nil => intro s h; exact h.elim
  | node b o t l r ihl ihr =>
    rintro s ⟨rfl, hsh⟩ ⟨h1, h2, h3⟩ n hn
    simp only [tsz] at hn
    obtain ⟨n, rfl⟩ : ∃ m, n = m + 1 := ⟨n - 1, by omega⟩
    have e : s + tsz (.node b 0 t l r) - 1 = s + tsz l + tsz r := by simp only [tsz]; omega
    rw [e]
    have hK : (atN xs (s + tsz l + tsz r)).k = (b : Int) := by rw [h3]; rfl
    have hT : (atN xs (s + tsz l + tsz r)).t = t := by rw [h3]; rfl
    have hb : ((b : Int)).toNat = b := by omega
    rcases hsh with ⟨hk, rfl, rfl⟩ | ⟨hk, hl, rfl⟩ | ⟨hk, hl, hr⟩
    · simp only [trF, hK, hT, hk, if_true, hb]
    · have hp := hl.pos
      have e2 : s + tsz l + tsz (BT.nil : ET) - 1 = s + tsz l - 1 := by simp [tsz]
      simp only [trF, hK, hT, hk, hb, e2, ihl s hl h1 n (by omega)]
      simp
    · have hp := hl.pos
      have hq := hr.pos
      have ha : (atN xs (s + tsz l + tsz r)).a.toNat = s + tsz l - 1 := by
        rw [h3]
        simp [tN, hk]
        omega
      simp only [trF, hK, hT, hk, hb, ha, ihl s hl h1 n (by omega), ihr (s + tsz l) hr h2 n (by omega)]
      simp

def treeOf (xs : List NodeR) : ET := trF xs xs.length (xs.length - 1)

theorem treeOf_nd {T : ET} (h : Sh T) : treeOf (nd T 0) = T := by
  have := trF_lies T 0 h (lies_self T) (tsz T) (Nat.le_refl _)
  unfold treeOf
  rw [nd_len]
  simpa using this

/-- Every text of a tree has at most 20000 bytes. -/
def TxB : ET → Prop
  | .nil => True
  | .node _ _ t l r => t.size ≤ 20000 ∧ TxB l ∧ TxB r

theorem txB_lies {xs : List NodeR} (htx : ∀ i, i < xs.length → TxtOk (atN xs i)) : ∀ (T : ET) (s : Nat), Lies xs T s → s + tsz T ≤ xs.length → TxB T := by
  intro T
  induction T with
  | nil => intro s _ _; trivial
  | node b o t l r ihl ihr =>
    rintro s ⟨h1, h2, h3⟩ hz
    simp only [tsz] at hz
    have ht := htx (s + tsz l + tsz r) (by omega)
    rw [h3] at ht
    exact ⟨ht.1, ihl s h1 (by omega), ihr _ h2 (by omega)⟩

theorem txB_grT (ns : List OpR) : ∀ (T : ET) (l : Int), TxB T → TxB (grT ns T l) := by
  intro T
  induction T with
  | nil => intro l _; trivial
  | node b o t l r ihl ihr =>
    rintro least ⟨h1, h2, h3⟩
    simp only [grT]
    split
    · exact ihl _ h2
    · unfold clT
      split
      · exact ⟨by decide, ⟨h1, ihl _ h2, ihr _ h3⟩, trivial⟩
      · exact ⟨h1, ihl _ h2, ihr _ h3⟩

theorem txB_words : ∀ (T : ET), TxB T → ∀ s ∈ ySy T, s.2.size ≤ 20000 := by
  intro T
  induction T with
  | nil => intro _ s hs; simp [ySy] at hs
  | node b o t l r ihl ihr =>
    rintro ⟨h1, h2, h3⟩ s hs
    have e1 : opn.size ≤ 20000 := by decide
    have e2 : cls1.size ≤ 20000 := by decide
    simp only [ySy] at hs
    split at hs
    · simp only [List.mem_cons, List.mem_append, List.not_mem_nil, or_false] at hs
      rcases hs with rfl | hs | rfl
      · exact e1
      · exact ihl h2 s hs
      · exact e2
    · split at hs
      · simp only [List.mem_cons] at hs
        rcases hs with rfl | hs
        · exact h1
        · exact ihl h2 s hs
      · split at hs
        · simp only [List.mem_cons, List.mem_append, List.not_mem_nil, or_false] at hs
          rcases hs with hs | rfl
          · exact ihl h2 s hs
          · exact h1
        · split at hs
          · simp only [List.mem_cons, List.mem_append] at hs
            rcases hs with hs | rfl | hs
            · exact ihl h2 s hs
            · exact h1
            · exact ihr h3 s hs
          · simp only [List.mem_cons, List.not_mem_nil, or_false] at hs
            subst hs
            exact h1

theorem ySy_le : ∀ (T : ET), (ySy T).length ≤ 2 * tsz T
  | .nil => by simp [ySy]
  | .node b o t l r => by
    have h1 := ySy_le l
    have h2 := ySy_le r
    simp only [ySy, tsz]
    split
    · simp; omega
    · split
      · simp; omega
      · split
        · simp; omega
        · split
          · simp; omega
          · simp; omega

/-- The bytes of words within a bound. -/
theorem txTo_len (ws : List WordR) (h : ∀ x ∈ ws, x.t.size ≤ 20000) : ∀ k, k ≤ ws.length → (txTo ws k).length ≤ 20001 * k
  | 0, _ => by simp [txTo]
  | k + 1, hk => by
    have ih := txTo_len ws h k (by omega)
    have hx : (atW ws k).t.size ≤ 20000 := h _ (by simp [atW, List.getD, (by omega : k < ws.length)])
    have hx' : (atW ws k).t.data.toList.length ≤ 20000 := by simpa using hx
    simp only [txTo, List.length_append]
    split
    · simp only [List.length_cons, List.length_nil]; omega
    · simp only [List.length_nil]; omega

/-- The text of the words of a tree. -/
def txT (T : ET) : List UInt8 := txTo (yT T) (yT T).length

theorem txT_len {T : ET} (h : TxB T) (n : Nat) (hn : tsz T ≤ n) : (txT T).length ≤ 20001 * (2 * n) := by
  have h1 := ySy_le T
  have h2 := txTo_len (yT T) (fun x hx => by
    simp only [yT, List.mem_map] at hx
    obtain ⟨s, hs, rfl⟩ := hx
    exact txB_words T h s hs) (yT T).length (Nat.le_refl _)
  have h3 : (yT T).length = (ySy T).length := by simp [yT]
  unfold txT
  omega

/-- What Print answers. -/
def PrintIs (ns : List OpR) (xs : List NodeR) (s : ByteArray) (v : Bool) : Prop :=
  (((IsCode ns 0 ∧ InOrd xs ∧ Knows ns xs) ∧ (gS ns xs (xs.length - 1) 0 0).length ≤ 20000) ∧ v = true ∧ s = ⟨(txT (grT ns (treeOf xs) 0)).toArray⟩) ∨
  (¬ ((IsCode ns 0 ∧ InOrd xs ∧ Knows ns xs) ∧ (gS ns xs (xs.length - 1) 0 0).length ≤ 20000) ∧ v = false ∧ s = ⟨#[]⟩)

theorem PrintIs.one {ns : List OpR} {xs : List NodeR} {s s' : ByteArray} {v v' : Bool} (h : PrintIs ns xs s v) (h' : PrintIs ns xs s' v') : s = s' ∧ v = v' := by
  rcases h with ⟨a, rfl, rfl⟩ | ⟨a, rfl, rfl⟩
  · rcases h' with ⟨_, rfl, rfl⟩ | ⟨a', _⟩
    · exact ⟨rfl, rfl⟩
    · exact absurd a a'
  · rcases h' with ⟨a', _⟩ | ⟨_, rfl, rfl⟩
    · exact absurd a' a
    · exact ⟨rfl, rfl⟩

/-- What is known of the tree that is printed. -/
theorem print_tree {ns : List OpR} {xs : List NodeR} (h : (IsCode ns 0 ∧ InOrd xs ∧ Knows ns xs) ∧ (gS ns xs (xs.length - 1) 0 0).length ≤ 20000) :
    ∃ G, G = grT ns (treeOf xs) 0 ∧ GoodT ns G ∧ TxB G ∧ tsz G ≤ 20000 ∧ gS ns xs (xs.length - 1) 0 0 = nd G 0 ∧ fS ns xs (xs.length - 1) 0 = exT ns G := by
  obtain ⟨⟨hv, hord, hkn⟩, hlen⟩ := h
  obtain ⟨T, hT, hz, hx⟩ := well_of_ord hord hkn
  have hto : treeOf xs = T := by rw [hx]; exact treeOf_nd hT.sh
  have hli : Lies xs T 0 := by rw [hx]; exact lies_self T
  have hg := gS_tree ns xs T 0 hT.sh hli 0 0
  have hf := fS_tree ns xs T 0 hT.sh hli 0
  rw [Nat.zero_add, hz] at hg hf
  refine ⟨grT ns (treeOf xs) 0, rfl, ?_, ?_, ?_, ?_, ?_⟩
  · rw [hto]; exact (good_grT hv T 0 hT (by omega)).1
  · rw [hto]; exact txB_grT ns T 0 (txB_lies hord.2.2.2 T 0 hli (by omega))
  · rw [hto, ← nd_len _ 0, ← hg]; exact hlen
  · rw [hto]; exact hg
  · rw [hto]; exact hf
end Go.Proofs.YtokabkhnidlcnabGreat

/-
  strings.Join at this program.
-/
namespace Go.Proofs.YtokabkhnidlcnabGreat
set_option maxRecDepth 100000
open Go.RowKit Go.Shelf

def lays156_ren : Go.Shelf.Ren := ⟨fun | 156 => 48 | 165 => 88 | 166 => 89 | 169 => 90 | 240 => 126 | 241 => 127 | 276 => 145 | 277 => 146 | n => n, fun | 31 => 95 | 9 => 9 | 3 => 3 | 4 => 4 | 0 => 0 | 20 => 20 | 72 => 178 | 76 => 182 | 70 => 176 | 37 => 87 | 75 => 181 | 127 => 208 | 164 => 216 | 5 => 5 | 80 => 184 | n => n, fun | n => n⟩
theorem lays156 : Go.Proofs.Lays.n156 Tryz.prog lays156_ren := {
  mixed := by kernel_rfl
  f156 := Tryz.func48.trans (congrArg some (by kernel_rfl))
  f165 := Tryz.func88.trans (congrArg some (by kernel_rfl))
  f166 := Tryz.func89.trans (congrArg some (by kernel_rfl))
  f169 := Tryz.func90.trans (congrArg some (by kernel_rfl))
  f240 := Tryz.func126.trans (congrArg some (by kernel_rfl))
  f241 := Tryz.func127.trans (congrArg some (by kernel_rfl))
  f276 := Tryz.func145.trans (congrArg some (by kernel_rfl))
  f277 := Tryz.func146.trans (congrArg some (by kernel_rfl))
  t0 := Tryz.underlying0
  a0 := Tryz.isAgg0
  z0 := Tryz.sizeOf0
  v0 := Tryz.zeroValue0
  t3 := Tryz.underlying3
  a3 := Tryz.isAgg3
  z3 := Tryz.sizeOf3
  v3 := Tryz.zeroValue3
  t4 := Tryz.underlying4
  a4 := Tryz.isAgg4
  z4 := Tryz.sizeOf4
  v4 := Tryz.zeroValue4
  t9 := Tryz.underlying9
  a9 := Tryz.isAgg9
  z9 := Tryz.sizeOf9
  v9 := Tryz.zeroValue9
  t20 := Tryz.underlying20
  a20 := Tryz.isAgg20
  z20 := Tryz.sizeOf20
  v20 := Tryz.zeroValue20
  t31 := Tryz.underlying95
  a31 := Tryz.isAgg95
  z31 := Tryz.sizeOf95
  v31 := Tryz.zeroValue95
  t37 := Tryz.underlying87
  a37 := Tryz.isAgg87
  z37 := Tryz.sizeOf87
  v37 := Tryz.zeroValue87
  t70 := Tryz.underlying176
  a70 := Tryz.isAgg176
  z70 := Tryz.sizeOf176
  v70 := Tryz.zeroValue176
  t72 := Tryz.underlying178
  a72 := Tryz.isAgg178
  z72 := Tryz.sizeOf178
  v72 := Tryz.zeroValue178
  t75 := Tryz.underlying181
  a75 := Tryz.isAgg181
  z75 := Tryz.sizeOf181
  v75 := Tryz.zeroValue181
  t76 := Tryz.underlying182
  a76 := Tryz.isAgg182
  z76 := Tryz.sizeOf182
  v76 := Tryz.zeroValue182
  t127 := Tryz.underlying208
  a127 := Tryz.isAgg208
  z127 := Tryz.sizeOf208
  v127 := Tryz.zeroValue208
  t164 := Tryz.underlying216
  a164 := Tryz.isAgg216
  z164 := Tryz.sizeOf216
  v164 := Tryz.zeroValue216 }
theorem Builder_Extra_156 : Builder.Extra Tryz.prog lays156_ren := {
  sizeBuilder := by kernel_rfl
  liesBuilder := by kernel_rfl
  t5 := Tryz.underlying5
  a5 := Tryz.isAgg5
  z5 := Tryz.sizeOf5
  v5 := Tryz.zeroValue5
  infoByte := by kernel_rfl
  cellsByte := by kernel_rfl
  sizeByte := by kernel_rfl
  neB5 := by decide }

theorem join_none (a : Option Addr) (c : Nat) (sep : ByteArray) (w : World) :
    Calls Tryz.prog 48 #[.slice a 0 c, .string sep] w fun e w' => e = .returned (.string ⟨#[]⟩) ∧ w' = w := Any.strings_Join_none lays156 Builder_Extra_156 a c sep w

theorem join_any (bk o c : Nat) (xs : List ByteArray) (sep : ByteArray) (w : World) (hcells : ∀ (j : Nat) x, xs[j]? = some x → w.cell? ⟨bk, o + j, none⟩ = some (.string x)) (hbk : bk < w.heap.size) (hN : xs.length ≤ 140737488355328) (hcap : xs.length ≤ c) (hlen : (Lib.join (xs.map (·.data.toList)) sep.data.toList).length ≤ 140737488355328) :
    Calls Tryz.prog 48 #[.slice (some ⟨bk, o, none⟩) xs.length c, .string sep] w fun e w' => e = .returned (.string ⟨(Lib.join (xs.map (·.data.toList)) sep.data.toList).toArray⟩) ∧ Below w.heap.size w w' := Any.strings_Join lays156 Builder_Extra_156 bk o c xs sep w hcells hbk hN hcap hlen
end Go.Proofs.YtokabkhnidlcnabGreat

/-
  Walk: the program's Print.
-/
namespace Go.Proofs.YtokabkhnidlcnabGreat
set_option maxRecDepth 100000
set_option linter.unusedSimpArgs false
set_option linter.unusedVariables false
open Go.RowKit Go.Maps

theorem join_flat (ps : List ByteArray) : Lib.join (ps.map (·.data.toList)) (⟨#[]⟩ : ByteArray).data.toList = flat ps := by
  unfold Lib.join flat
  induction ps with
  | nil => rfl
  | cons a r ih =>
    cases r with
    | nil => simp [List.intercalate]
    | cons b r => simp [List.intercalate, List.intersperse] at ih ⊢; rw [ih]

theorem owns_capS {w : World} {base n size g cap : Nat} {e : TypeId} {xs : List Value} (h : w.ownsRow base e size (.slice (some ⟨g, 0, none⟩) n cap) n xs) : n ≤ cap ∧ cap ≤ maxLen := by
  obtain ⟨_, h | ⟨g', cap', cur, hv', _, _, h1, h2, _⟩⟩ := h
  · simp at h
  · simp only [Value.slice.injEq, Option.some.injEq] at hv'
    obtain ⟨_, _, rfl⟩ := hv'
    exact ⟨h1, h2⟩

set_option maxHeartbeats 2000000 in
theorem implPrint_any (b off cap bn offn cn : Nat) (ns : List OpR) (xs : List NodeR) (w : World) (hm : ns.length ≤ 1048576) (hmn : xs.length ≤ 1048576) (hw : Ops w b off ns) (hsz : Sized ns) (hB : b < w.heap.size) (hwn : OpsN w bn offn xs) (hsn : SizedN xs) (hBn : bn < w.heap.size) :
    Calls Tryz.prog 18 #[.agg #[.slice (some ⟨b, off, none⟩) ns.length cap], .agg #[.slice (some ⟨bn, offn, none⟩) xs.length cn]] w fun e w' => (∃ (s : ByteArray) (v : Bool), e = .returned (.tuple #[.string s, .bool v]) ∧ Hid (PrintIs ns xs s v)) ∧ Below w.heap.size w w' := by
  have HW := hide hw
  have HWN := hide hwn
  have HZ := hide hsz
  have HZN := hide hsn
  have HB0 := hide (show ∀ o1 o2 : Obj, Below w.heap.size w ((w.alloc o1).alloc o2) from fun o1 o2 => (below1 w o1).alloc (by simp) o2)
  clear hw hwn hsz hsn
  go_enter Tryz.func18, Tryz.ntmps18
  go_wp2_with fail
  refine (grouped_any b off cap bn offn cn ns xs _ hm hmn ((unhide HW).below ((unhide HB0) _ _) hB) (unhide HZ) (by simp; omega) ((unhide HWN).below ((unhide HB0) _ _) hBn) (unhide HZN) (by simp; omega)).mono ?_
  rintro e w1 ⟨hp, hb1⟩
  have bel1 : Below w.heap.size w w1 := ((unhide HB0) _ _).trans (hb1.mono (by simp; omega))
  clear hb1 HB0
  rcases hp with ⟨v, rfl, hn, hv⟩ | ⟨rfl, hy⟩
  · have HN := hide (unhide hn)
    clear hn
    rcases hv with rfl | ⟨T, u, rfl⟩
    · go_wp2_with fail
      go_ret2
      exact ⟨⟨_, _, rfl, hide (Or.inr ⟨unhide HN, rfl, rfl⟩)⟩, bel1⟩
    · go_wp2_with fail
      go_ret2
      exact ⟨⟨_, _, rfl, hide (Or.inr ⟨unhide HN, rfl, rfl⟩)⟩, bel1⟩
  · obtain ⟨G, hG, hgood, htx, hz20, hgs, hfs⟩ := print_tree (unhide hy)
    rw [hfs]
    obtain ⟨⟨T, u, hTu⟩, hcall⟩ := wr_tree ns G hgood.well
    have hwl : (yT G).length ≤ 40000 := by
      have := ySy_le G
      simp [yT]
      omega
    have h0 := yT_first hgood.sh
    have hpt := pieces_text (yT G) h0 (yT G).length (Nat.le_refl _)
    rw [List.take_length] at hpt
    obtain ⟨st, HST⟩ : ∃ st, Hid (st = (yT G).foldl put1 ([], 0)) := ⟨_, hide rfl⟩
    have hfl := fold_len (yT G) ([], 0)
    rw [← unhide HST] at hpt hfl
    have HTX := hide (show flat st.1 = txT G from hpt.1)
    have hlen := txT_len htx 20000 hz20
    have HFL := hide (show (Lib.join (st.1.map (·.data.toList)) (⟨#[]⟩ : ByteArray).data.toList).length ≤ 140737488355328 by rw [join_flat, unhide HTX]; omega)
    have hp0 : PrAt (w1.alloc (.cells #[.slice none 0 0, .int .i64 0] 97)) w1.heap.size (.slice none 0 0) [] 0 :=
      ⟨by simp [go_sem], by simp [go_sem], fun o => by simp [go_sem], World.ownsRow_nil _ _ _ _⟩
    have HCALL := hide (hcall w1.heap.size (.slice none 0 0) [] 0 _ st hp0 (by simp; omega) (unhide HST))
    simp only [List.length_nil, Nat.zero_add] at hfl
    have hfl2 : st.1.length ≤ 80000 := by omega
    have HG := hide hG
    have hne : st.1 ≠ [] := fun e => by
      have := yT_pos hgood.sh
      have h1 : (yT G).length ≠ 0 := by omega
      have e2 : 1 ≤ st.1.length := by
        rw [unhide HST]
        cases hh : yT G with
        | nil => rw [hh] at h1; exact absurd rfl h1
        | cons x r =>
          have mono : ∀ (W : List WordR) (q : List ByteArray × Int), q.1.length ≤ (W.foldl put1 q).1.length := fun W => by
            induction W with
            | nil => intro q; exact Nat.le_refl _
            | cons y W ih =>
              intro q
              have := ih (put1 q y)
              simp only [List.foldl_cons]
              refine Nat.le_trans ?_ this
              simp [put1]
          have := mono r (put1 ([], 0) x)
          simp only [List.foldl_cons]
          refine Nat.le_trans ?_ this
          simp [put1]
      rw [e] at e2
      simp at e2
    have HNE := hide hne
    rw [hTu] at HCALL ⊢
    clear hG hgood htx hgs hfs hTu hcall hwl h0 hpt hfl hlen hp0 hz20 hne
    go_wp2_with fail
    refine (unhide HCALL).mono ?_
    rintro x w2 ⟨rfl, v2, p1, p2, p3⟩
    have bel2 : Below w.heap.size w w2 := ⟨(unhide p2).os.trans bel1.os, (unhide p2).tape.trans bel1.tape, (unhide p2).output.trans bel1.output, by have := (unhide p2).size; have := bel1.size; simp at *; omega, fun i hi => ((unhide p2).block i (by have := bel1.size; simp; omega) (by have := bel1.size; omega) (by simp [Value.ownBlock])).trans (((below1 w1 _).block i (by have := bel1.size; omega)).trans (bel1.block i hi))⟩
    have c0 := (unhide p1).c0
    have hrow := (unhide p1).row
    obtain ⟨g2, k2, rfl⟩ : ∃ g k, v2 = .slice (some ⟨g, 0, none⟩) st.1.length k := by
      obtain ⟨_, ⟨rfl, h0⟩ | ⟨g, cap, cur, h, _⟩⟩ := hrow
      · exact absurd (List.eq_nil_of_length_eq_zero h0) (unhide HNE)
      · exact ⟨_, _, h⟩
    have HCE := hide hrow.cells
    have hgl := (hrow.lt g2 rfl).2
    have hcp := (owns_capS hrow).1
    clear p2 p3 hrow HCALL
    go_wp2_with fail
    refine (join_any g2 0 k2 st.1 ⟨#[]⟩ _ (unhide HCE) hgl (by omega) hcp (unhide HFL)).mono ?_
    rintro x w3 ⟨rfl, hb3⟩
    rw [join_flat, unhide HTX]
    have bel3 := bel2.trans (hb3.mono bel2.size)
    clear c0 hb3
    go_wp2_with fail
    go_ret2
    exact ⟨⟨_, _, rfl, hide (Or.inl ⟨unhide hy, rfl, by rw [← unhide HG]⟩)⟩, bel3⟩
end Go.Proofs.YtokabkhnidlcnabGreat
