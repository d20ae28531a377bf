import Derived.Deep.QuietTactic
import Derived.BigQuiet
import Derived.Test.YtfboipappaonhaaGreatU01
import Derived.Test.YtfboipappaonhaaGreatU03
import Derived.Test.YtfboipappaonhaaGreatU04
import Derived.Test.YtfboipappaonhaaGreatU21
import Derived.Test.YtfboipappaonhaaGreatU31
import Derived.Test.YtfboipappaonhaaGreatU36

/-
  Walk: are two trees the same (lwSameTree)?
-/
namespace Go.Proofs.YtfboipappaonhaaGreat
set_option maxRecDepth 100000
set_option linter.unusedSimpArgs false
set_option linter.unusedVariables false
open Go.RowKit

def sameN (a b : NodeR) : Bool := (a.k == b.k) && (a.t.toList == b.t.toList) && (a.a == b.a) && (a.b == b.b)

theorem sameN_iff (a b : NodeR) : sameN a b = true ↔ a = b := by
  unfold sameN
  obtain ⟨k, t, x, y⟩ := a
  obtain ⟨k', t', x', y'⟩ := b
  simp only [Bool.and_eq_true, beq_iff_eq]
  constructor
  · rintro ⟨⟨⟨rfl, h2⟩, rfl⟩, rfl⟩
    rw [toList_inj h2]
  · intro h
    injection h with h1 h2 h3 h4
    exact ⟨⟨⟨h1, by rw [h2]⟩, h3⟩, h4⟩

theorem nodStruct : Tryz.prog.underlying 81 = some (.struct (Tryz.prog.fieldsOf 81)) := by kernel_rfl
theorem nodHeld : Tryz.prog.stoodInHeld 81 = false := by kernel_rfl
theorem nodGuard : Tryz.prog.eqGuardType Tryz.prog.depth 81 = false := by kernel_rfl

theorem run_ne_node (a b : NodeR) (w : World) :
    (binOp .neq 81 (.agg #[.int .i64 a.k, .string a.t, .int .i64 a.a, .int .i64 a.b]) (.agg #[.int .i64 b.k, .string b.t, .int .i64 b.a, .int .i64 b.b])).run Tryz.prog w = .ok (.bool (!sameN a b)) w := by
  rw [run_neq_struct, run_equalIn_agg _ _ _ _ _ nodStruct nodHeld]
  unfold Program.fieldsOf sameN
  rw [Tryz.underlying81]
  cases h1 : (a.k == b.k) <;> cases h2 : (a.t.toList == b.t.toList) <;> cases h3 : (a.a == b.a) <;> cases h4 : (a.b == b.b) <;> simp [go_sem, h1, h2, h3, h4]

theorem nodes_ext {xs ys : List NodeR} (hl : xs.length = ys.length) (h : ∀ j, j < xs.length → atN xs j = atN ys j) : xs = ys :=
  List.ext_getElem hl fun i h1 h2 => by
    have := h i h1
    simpa [atN, List.getD_eq_getElem?_getD, h1, h2] using this

set_option maxHeartbeats 2000000 in
theorem lwSameTree_any (a a' : Option Addr) (cap cap' : Nat) (xs ys : List NodeR) (w : World) (hm : xs.length ≤ 1048576) (hm' : ys.length ≤ 1048576) (h : ArgN w a xs) (h' : ArgN w a' ys) :
    Calls Tryz.prog 16 #[.agg #[.slice a xs.length cap], .agg #[.slice a' ys.length cap']] w fun e w' => (∃ v, e = .returned (.bool v) ∧ (v = true ↔ xs = ys)) ∧ Below w.heap.size w w' := by
  obtain ⟨W, hW⟩ : ∃ W, W = (w.alloc (.cells #[.slice a xs.length cap] 28)).alloc (.cells #[.slice a' ys.length cap'] 28) := ⟨_, rfl⟩
  have hb : Below w.heap.size w W := by rw [hW]; exact (below1 _ _).alloc (by simp) _
  have HA := hide (h.below hb)
  have HA' := hide (h'.below hb)
  have HB := hide hb
  have HW := hide hW
  have hzW : W.heap.size = w.heap.size + 2 := by rw [hW]; simp
  have t0 : W.cell? ⟨w.heap.size, 0, none⟩ = some (.slice a xs.length cap) := by rw [hW]; exact ((below1 (w.alloc _) _).cell (p := ⟨w.heap.size, 0, none⟩) (by simp)).trans (by simp [go_sem])
  have t1 : W.cell? ⟨w.heap.size + 1, 0, none⟩ = some (.slice a' ys.length cap') := by rw [hW]; simp [go_sem]
  clear h h' hb hW
  by_cases hl : xs.length = ys.length
  · have hlI : ((xs.length : Int) != (ys.length : Int)) = false := by simp [hl]
    have HL := hide hl
    clear hl
    go_enter Tryz.func16, Tryz.ntmps16
    go_wp2_with fail
    rw [← unhide HW]
    go_loopw [5] (fun i wr => ∃ n : Nat, n ≤ xs.length ∧ i = .int .i64 (n : Int) ∧ Hid (∀ j, j < n → atN xs j = atN ys j) ∧ Below W.heap.size W wr) (fun i _ => xs.length - (intOf i).toNat)
    case atStart => exact ⟨0, Nat.zero_le _, rfl, hide (fun j h => by omega), Below.refl _ _⟩
    case round =>
      obtain ⟨n, hn, rfl, hno, hbel⟩ := hrel
      have d0 := (hbel.cell (p := ⟨w.heap.size, 0, none⟩) (show w.heap.size < _ by omega)).trans t0
      have d1 := (hbel.cell (p := ⟨w.heap.size + 1, 0, none⟩) (show w.heap.size + 1 < _ by omega)).trans t1
      by_cases hlt : n < xs.length
      · have hltI : (n : Int) < (xs.length : Int) := by omega
        have hlt2 : n < ys.length := by rw [← unhide HL]; exact hlt
        have hltJ : (n : Int) < (ys.length : Int) := by omega
        rcases unhide HA with h | ⟨b, off, rfl, ho, hB⟩
        · omega
        rcases unhide HA' with h | ⟨b', off', rfl, ho', hB'⟩
        · omega
        obtain ⟨a0, a1, a2, a3⟩ := (ho n hlt).below hbel hB
        obtain ⟨b0, b1, b2, b3⟩ := (ho' n hlt2).below hbel hB'
        have hq := fun V => run_ne_node (atN xs n) (atN ys n) V
        have hg := nodGuard
        have HBE := hide hbel
        clear ho ho' hbel hlI
        go_wp2_with fail
        go_quiet (fail)
        clear hq hg a0 a1 a2 a3 b0 b1 b2 b3
        cases hsm : sameN (atN xs n) (atN ys n)
        · have HN := hide (show xs ≠ ys from fun e => by
            have := (sameN_iff (atN xs n) (atN ys n)).2 (by rw [e])
            rw [hsm] at this
            cases this)
          clear hsm
          go_wp2_with fail
          go_ret
          exact ⟨⟨false, rfl, fun e => (by cases e), fun e => absurd e (unhide HN)⟩, (unhide HB).trans ((below_drewN (unhide HBE) _).mono (unhide HB).size)⟩
        · have HN := hide (show ∀ j, j < n + 1 → atN xs j = atN ys j from fun j hj => by
            by_cases e : j = n
            · rw [e]; exact (sameN_iff _ _).1 hsm
            · exact (unhide hno) j (by omega))
          clear hsm
          go_wp2_with fail
          exact ⟨⟨n + 1, by omega, by go_num, HN, below_drewN (unhide HBE) _⟩, by simp [intOf]; omega⟩
      · have HE := hide (show xs = ys from nodes_ext (unhide HL) (fun j hj => (unhide hno) j (by omega)))
        have HBE := hide ((unhide HB).trans (hbel.mono (unhide HB).size))
        clear hbel hlI
        go_wp2_with fail
        go_ret
        exact ⟨⟨true, rfl, fun _ => unhide HE, fun _ => rfl⟩, unhide HBE⟩
  · have hlI : ((xs.length : Int) != (ys.length : Int)) = true := by simp; omega
    have HL := hide hl
    clear hl
    go_enter Tryz.func16, Tryz.ntmps16
    go_wp2_with fail
    go_ret
    exact ⟨⟨false, rfl, fun e => (by cases e), fun e => absurd (by rw [e]) (unhide HL)⟩, by rw [← unhide HW]; exact unhide HB⟩
end Go.Proofs.YtfboipappaonhaaGreat

/-
  The text of a text's tokens is the text.
-/
namespace Go.Proofs.YtfboipappaonhaaGreat
set_option maxRecDepth 100000
set_option linter.unusedSimpArgs false
set_option linter.unusedVariables false
open Go.RowKit

def rendL (us : List TokR) : List UInt8 := us.flatMap fun t => t.g.data.toList ++ t.t.data.toList

theorem rendTo_take (us : List TokR) : ∀ k, k ≤ us.length → rendTo us k = rendL (us.take k)
  | 0, _ => rfl
  | k + 1, h => by
    have ih := rendTo_take us k (by omega)
    have e : us.take (k + 1) = us.take k ++ [atT us k] := by
      rw [List.take_add_one, List.getElem?_eq_getElem (by omega)]
      simp [atT, List.getD, List.getElem?_eq_getElem (show k < us.length by omega)]
    rw [e]
    show rendTo us k ++ (atT us k).g.data.toList ++ (atT us k).t.data.toList = _
    rw [ih]
    simp [rendL]

theorem rendTo_all (us : List TokR) : rendTo us us.length = rendL us := by
  rw [rendTo_take us us.length (Nat.le_refl _), List.take_length]

theorem ext_list (s : ByteArray) (i j : Nat) : (s.extract i j).data.toList = (s.data.toList.drop i).take (j - i) := by
  simp [ByteArray.data_extract, List.extract_eq_take_drop]

theorem rend_lexed {xs : List OpR} {s : ByteArray} : ∀ (us : List TokR) (i : Nat), Lexed xs s i us → rendL us = s.data.toList.drop i ∧ us.length + i ≤ s.size + 1
  | [], _, h => h.elim
  | t :: out, i, h => by
    have hsl : s.data.toList.length = s.size := by simp
    rcases h with ⟨rfl, hi, _, rfl⟩ | ⟨j, n, k, hij, hj, _, _, htok, rfl, hout⟩
    · refine ⟨?_, by simp; omega⟩
      show (s.extract i s.size).data.toList ++ [] ++ [] = _
      rw [ext_list, List.append_nil, List.append_nil, List.take_of_length_le (by rw [List.length_drop, hsl]; exact Nat.le_refl _)]
    · obtain ⟨ih1, ih2⟩ := rend_lexed out (j + n) hout
      have h1 := htok.1
      refine ⟨?_, by simp; omega⟩
      show (s.extract i j).data.toList ++ (s.extract j (j + n)).data.toList ++ rendL out = _
      rw [ih1, ext_list, ext_list]
      have e1 : s.data.toList.drop (j + n) = (s.data.toList.drop j).drop n := by rw [List.drop_drop]
      have e2 : s.data.toList.drop j = (s.data.toList.drop i).drop (j - i) := by rw [List.drop_drop]; congr 1; omega
      rw [List.append_assoc, e1, Nat.add_sub_cancel_left, List.take_append_drop, e2, List.take_append_drop]

/-- What the tokens of a text say of themselves. -/
theorem lexed_all {xs : List OpR} {s : ByteArray} {us : List TokR} (h : Lexed xs s 0 us) : (⟨(rendTo us us.length).toArray⟩ : ByteArray) = s ∧ us.length ≤ s.size + 1 ∧ totToT us us.length = s.size := by
  obtain ⟨h1, h2⟩ := rend_lexed us 0 h
  rw [List.drop_zero] at h1
  have h3 := rend_len us us.length
  rw [rendTo_all, h1] at h3
  refine ⟨?_, by omega, by rw [← h3]; simp⟩
  rw [rendTo_all, h1]
end Go.Proofs.YtfboipappaonhaaGreat

/-
  What Format answers; what is known of a tree that was read.
-/
namespace Go.Proofs.YtfboipappaonhaaGreat
set_option maxRecDepth 100000
set_option linter.unusedSimpArgs false
set_option linter.unusedVariables false

/-- What Format answers. -/
def FormIs (ns : List OpR) (s t : ByteArray) (c p : Int) : Prop :=
  ∃ us c0 p0, ParseIs ns s us c0 p0 ∧ ((c0 ≠ 0 ∧ t = ⟨#[]⟩ ∧ c = c0 ∧ p = p0) ∨ (c0 = 0 ∧ (∃ v, PrintIs ns us t v) ∧ c = 0 ∧ p = 0))

theorem FormIs.one {ns : List OpR} {s t t' : ByteArray} {c c' p p' : Int} (h : FormIs ns s t c p) (h' : FormIs ns s t' c' p') : t = t' ∧ c = c' ∧ p = p' := by
  obtain ⟨us, c0, p0, h0, h⟩ := h
  obtain ⟨us', c0', p0', h0', h'⟩ := h'
  obtain ⟨rfl, rfl, rfl⟩ := h0.one h0'
  rcases h with ⟨a, rfl, rfl, rfl⟩ | ⟨a, ⟨v, hv⟩, rfl, rfl⟩
  · rcases h' with ⟨_, rfl, rfl, rfl⟩ | ⟨b, _⟩
    · exact ⟨rfl, rfl, rfl⟩
    · exact absurd b a
  · rcases h' with ⟨b, _⟩ | ⟨_, ⟨v', hv'⟩, rfl, rfl⟩
    · exact absurd a b
    · exact ⟨(hv.one hv').1, rfl, rfl⟩

/-- The texts of a tree's nodes are those of its signs. -/
theorem nd_texts {ns : List OpR} {m : Nat} : ∀ (T : ET), GoodT ns T → (∀ x ∈ ySy T, x.2.size ≤ m) → ∀ (s : Nat), ∀ o ∈ nd T s, o.t.size ≤ m := by
  intro T
  induction T with
  | nil => intro h; exact h.elim
  | node b o t l r ihl ihr =>
    rintro ⟨rfl, h⟩ hy s q hq
    rcases h with ⟨h12, rfl, rfl⟩ | ⟨rfl, rfl, hl, rfl⟩ | ⟨h35, hk, hl, rfl, hh⟩ | ⟨rfl, hk, hl, hr, h1, h2⟩
    · rw [ySy_leaf h12] at hy
      simp only [nd, List.nil_append, List.mem_singleton] at hq
      subst hq
      exact hy (b, t) (by simp)
    · rw [ySy_grp] at hy
      simp only [nd, List.append_nil, List.mem_append, List.mem_singleton] at hq
      rcases hq with hq | rfl
      · exact ihl hl (fun x hx => hy x (by simp [hx])) s q hq
      · exact Nat.zero_le _
    · have hyl : ∀ x ∈ ySy l, x.2.size ≤ m := by
        rcases h35 with rfl | rfl
        · rw [ySy_pre] at hy; exact fun x hx => hy x (by simp [hx])
        · rw [ySy_post] at hy; exact fun x hx => hy x (by simp [hx])
      have hyt : t.size ≤ m := by
        rcases h35 with rfl | rfl
        · rw [ySy_pre] at hy; exact hy (3, t) (by simp)
        · rw [ySy_post] at hy; exact hy (5, t) (by simp)
      simp only [nd, List.append_nil, List.mem_append, List.mem_singleton] at hq
      rcases hq with hq | rfl
      · exact ihl hl hyl s q hq
      · exact hyt
    · rw [ySy_mid] at hy
      simp only [nd, List.mem_append, List.mem_singleton] at hq
      rcases hq with (hq | hq) | rfl
      · exact ihl hl (fun x hx => hy x (by simp [hx])) s q hq
      · exact ihr hr (fun x hx => hy x (by simp [hx])) _ q hq
      · exact hy (4, t) (by simp)

theorem sgT_size {ns : List OpR} {ts : List TokR} {i m : Nat} (h : (atT ts i).t.size ≤ m) (h1 : 1 ≤ m) : (sgT ns ts i).2.size ≤ m := by
  unfold sgT
  split
  · exact h
  · split
    · exact h1
    · split
      · exact h1
      · split
        · exact Nat.zero_le _
        · exact h

/-- A tree that was read. -/
theorem parse_tree {ns : List OpR} {s : ByteArray} {us : List NodeR} {p : Int} (h : ParseIs ns s us 0 p) : 1 ≤ us.length ∧ us.length ≤ 20001 ∧ SizedN us := by
  rcases h with ⟨_, _, h, _⟩ | ⟨hv, ⟨_, _, h, _⟩ | ⟨h20, ts, hx, ⟨i, _, _, _, _, h, _⟩ | ⟨hno, ⟨i, _, _, _, _, h, _⟩ | ⟨hf, h⟩⟩⟩⟩
  · omega
  · omega
  · omega
  · omega
  · rcases h with ⟨_, _, h, _⟩ | ⟨T, r, hr, ⟨_, _, h, _⟩ | ⟨_, rfl, _, _⟩⟩
    · omega
    · omega
    · have hl := lexed_last ts 0 hx
      have hfe := fit_all hf hl 0 hl.1
      rw [Nat.sub_zero] at hfe
      have h1 := rd_sound hv _ _ none _ 0 _ (by omega) hfe (fun L e => by cases e) hr
      have e0 := h1.2.2.2.2
      simp only [yM, List.nil_append] at e0
      have e := congrArg List.length e0
      simp only [List.length_append] at e
      rw [sgs_len] at e
      have := tsz_le T h1.2.1
      have hlt := (lexed_all hx).2.1
      rw [nd_len]
      refine ⟨Sh.pos h1.2.1.sh, by omega, fun i hi => ?_⟩
      have hm : ∀ o ∈ nd T 0, o.t.size ≤ 20000 := by
        refine nd_texts T h1.2.1 (fun x hx2 => ?_) 0
        have hmem : x ∈ sgs ns ts 0 ts.length := by rw [e0]; exact List.mem_append_left _ hx2
        unfold sgs at hmem
        obtain ⟨i, hi, rfl⟩ := List.mem_map.1 hmem
        rw [List.mem_range'_1] at hi
        refine sgT_size ?_ (by omega)
        have := (lexed_size ts 0 hx i (by omega)).2
        omega
      have := hm (atN (nd T 0) i) (by
        unfold atN
        rw [List.getD_eq_getElem?_getD, List.getElem?_eq_getElem (by omega)]
        exact List.getElem_mem _)
      unfold maxLen
      omega
end Go.Proofs.YtfboipappaonhaaGreat
