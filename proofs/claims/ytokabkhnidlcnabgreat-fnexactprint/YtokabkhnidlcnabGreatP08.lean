import Derived.OwnWalk
import Derived.Laws.OwnMore
import Derived.Test.YtokabkhnidlcnabGreatP01
import Derived.Test.YtokabkhnidlcnabGreatP02
import Derived.Test.YtokabkhnidlcnabGreatP07

/-
  Rows of tokens that a call makes by append.
-/
namespace Go.Proofs.YtokabkhnidlcnabGreat
set_option maxRecDepth 100000
open Go.RowKit

/-- The cells of a list of tokens. -/
def cellsTk (zs : List TokR) : List Value := zs.flatMap fun o => [.int .i64 o.k, .string o.g, .string o.t]

theorem cellsTk_append (xs ys : List TokR) : cellsTk (xs ++ ys) = cellsTk xs ++ cellsTk ys := by simp [cellsTk]
theorem cellsTk_len : ∀ zs : List TokR, (cellsTk zs).length = zs.length * 3
  | [] => rfl
  | o :: r => by
    have := cellsTk_len r
    simp only [cellsTk, List.flatMap_cons, List.length_append, List.length_cons, List.length_nil] at *
    omega

theorem cellsTk_at : ∀ (zs : List TokR) (i : Nat), i < zs.length → (cellsTk zs)[i * 3]? = some (.int .i64 (atT zs i).k) ∧ (cellsTk zs)[i * 3 + 1]? = some (.string (atT zs i).g) ∧ (cellsTk zs)[i * 3 + 2]? = some (.string (atT zs i).t)
  | [], i, h => absurd h (Nat.not_lt_zero i)
  | o :: r, 0, _ => ⟨rfl, rfl, rfl⟩
  | o :: r, i + 1, h => by
    have ih := cellsTk_at r i (by simpa using h)
    have e : ∀ j, (cellsTk (o :: r))[(i + 1) * 3 + j]? = (cellsTk r)[i * 3 + j]? := fun j => by
      have : (i + 1) * 3 + j = (i * 3 + j) + 3 := by omega
      rw [this]
      rfl
    exact ⟨(e 0).trans ih.1, (e 1).trans ih.2.1, (e 2).trans ih.2.2⟩

theorem cellsTk_one' (zs : List TokR) : ∀ u ∈ cellsTk zs, u.oneCell' = true := by
  intro u hu
  simp only [cellsTk, List.mem_flatMap] at hu
  obtain ⟨o, _, ho⟩ := hu
  simp at ho
  rcases ho with rfl | rfl | rfl <;> rfl

/-- A row that the call owns, as a filled one. -/
theorem owns_filledT {w : World} {base g cap : Nat} {e : TypeId} {zs : List TokR} (h : w.ownsRow base e 3 (.slice (some ⟨g, 0, none⟩) zs.length cap) zs.length (cellsTk zs)) : base ≤ g ∧ FilledT w g zs zs.length := by
  have hlt := h.lt g rfl
  refine ⟨hlt.1, hlt.2, fun j hj => ⟨?_, h.frozenAt _⟩, fun i hi => ?_⟩
  · rw [h.cellAt (0 + j) (by omega)]
    have : 0 + j < (cellsTk zs).length := by rw [cellsTk_len]; omega
    rw [List.getElem?_eq_getElem this]
    rfl
  · obtain ⟨c0, c1, c2⟩ := cellsTk_at zs i hi
    have e := fun j (hj : j < 3) => h.cellAt (i * 3 + j) (by omega)
    exact ⟨by simpa using (e 0 (by omega)).trans c0, by simpa using (e 1 (by omega)).trans c1, by simpa using (e 2 (by omega)).trans c2⟩

/-- A new token in a block of its own. -/
theorem new_newsT (w : World) (o : TokR) : ∀ j u, (cellsTk [o])[j]? = some u → (w.alloc (.cells #[.int .i64 o.k, .string o.g, .string o.t] 56)).cell? ((⟨w.heap.size, 0, none⟩ : Addr).add j) = some u := by
  intro j u hj
  rw [Addr.add_mid]
  have := World.rangeAt_of_block (w := w.alloc (.cells #[.int .i64 o.k, .string o.g, .string o.t] 56)) (b := w.heap.size) (heap_alloc_new w _) 0 3
  exact this j u (by simpa [cellsTk] using hj)

/-- What Lex answers. -/
def LexIs (xs : List OpR) (ok : Prop) (s : ByteArray) (us : List TokR) (v : Bool) : Prop :=
  ((ok ∧ s.size ≤ 20000) ∧ v = true ∧ Lexed xs s 0 us) ∨ (¬ (ok ∧ s.size ≤ 20000) ∧ v = false ∧ us = [])

theorem LexIs.one {xs : List OpR} {ok : Prop} {s : ByteArray} {us us' : List TokR} {v v' : Bool} (h : LexIs xs ok s us v) (h' : LexIs xs ok s us' v') : us = us' ∧ v = v' := by
  rcases h with ⟨a, rfl, b⟩ | ⟨a, rfl, rfl⟩
  · rcases h' with ⟨_, rfl, b'⟩ | ⟨a', _⟩
    · exact ⟨Lexed.one _ _ _ b b', rfl⟩
    · exact absurd a a'
  · rcases h' with ⟨a', _⟩ | ⟨_, rfl, rfl⟩
    · exact absurd a' a
    · exact ⟨rfl, rfl⟩

theorem LexIs.len {xs : List OpR} {ok : Prop} {s : ByteArray} {us : List TokR} {v : Bool} (h : LexIs xs ok s us v) : us.length ≤ 20001 := by
  rcases h with ⟨a, rfl, b⟩ | ⟨a, rfl, rfl⟩
  · have := Lexed.len _ _ b
    omega
  · simp

/-- What has been read: whatever tokens come behind place i, they come behind acc. -/
def Read (xs : List OpR) (s : ByteArray) (i : Nat) (acc : List TokR) : Prop := acc.length ≤ i ∧ ∀ out, Lexed xs s i out → Lexed xs s 0 (acc ++ out)

theorem Read.start (xs : List OpR) (s : ByteArray) : Read xs s 0 [] := ⟨Nat.le_refl _, fun _ h => h⟩

theorem Read.step {xs : List OpR} {s : ByteArray} {i j n k : Nat} {acc : List TokR} (h : Read xs s i acc) (h1 : i ≤ j) (h2 : j < s.size) (h3 : Blanks s i j) (h4 : cls (bt s j) ≠ 1) (h5 : IsTok xs s j n k) :
    Read xs s (j + n) (acc ++ [⟨(k : Int), s.extract i j, s.extract j (j + n)⟩]) := by
  refine ⟨?_, fun out ho => ?_⟩
  · have := h.1
    have := h5.1
    simp
    omega
  · rw [List.append_assoc]
    exact h.2 _ (Lexed.tok h1 h2 h3 h4 h5 ho)

theorem Read.done {xs : List OpR} {s : ByteArray} {i : Nat} {acc : List TokR} (h : Read xs s i acc) (h1 : i ≤ s.size) (h3 : Blanks s i s.size) : Lexed xs s 0 (acc ++ [⟨7, s.extract i s.size, ⟨#[]⟩⟩]) :=
  h.2 _ (Lexed.fin h1 h3)

theorem FilledT.arg {w : World} {g : Nat} {us : List TokR} (h : FilledT w g us us.length) : ArgT w (some ⟨g, 0, none⟩) us := Or.inr ⟨g, 0, rfl, h.ops, h.1⟩

/-- A list of tokens that a call has made: nil and empty, or a row of its own. -/
def OwnedT (w : World) (n : Nat) (a : Option Addr) (us : List TokR) : Prop := (us.length = 0 ∧ a = none) ∨ ∃ g, a = some ⟨g, 0, none⟩ ∧ n ≤ g ∧ FilledT w g us us.length

theorem OwnedT.arg {w : World} {n : Nat} {a : Option Addr} {us : List TokR} (h : OwnedT w n a us) : ArgT w a us := by
  rcases h with ⟨h, _⟩ | ⟨g, rfl, _, hf⟩
  · exact Or.inl h
  · exact hf.arg

theorem OwnedT.grown {w w' : World} {n : Nat} {a : Option Addr} {us : List TokR} {row : Option Nat} (h : OwnedT w n a us) (hg : w.grownBy w' row) (hr : ∀ k, row = some k → k < n) : OwnedT w' n a us := by
  rcases h with h | ⟨g, rfl, hn, hf⟩
  · exact Or.inl h
  · exact Or.inr ⟨g, rfl, hn, hf.grown hg (fun e => by have := hr g e.symm; omega)⟩

theorem OwnedT.step {w w' : World} {n : Nat} {a : Option Addr} {us : List TokR} (h : OwnedT w n a us) (hb : Below w.heap.size w w') : OwnedT w' n a us :=
  h.grown (grown_bel hb none) (fun k hk => by cases hk)

theorem OwnedT.lt {w : World} {n : Nat} {a : Option Addr} {us : List TokR} (h : OwnedT w n a us) : ∀ k, a.map (·.block) = some k → n ≤ k ∧ k < w.heap.size := by
  rcases h with ⟨_, rfl⟩ | ⟨g, rfl, hn, hf⟩
  · intro k hk; cases hk
  · intro k hk; injection hk with hk; subst hk; exact ⟨hn, hf.1⟩
end Go.Proofs.YtokabkhnidlcnabGreat

/-
  Walks: the specification's kinds of bytes, forms of texts.
-/
namespace Go.Proofs.YtokabkhnidlcnabGreat
set_option maxRecDepth 100000
open Go.RowKit

theorem l2Digit_any (c : UInt8) (w : World) :
    Calls Tryz.prog 130 #[.int .u8 (c.toNat : Int)] w fun e w' => e = .returned (.bool (decide (cls c = 2))) ∧ w' = w := by
  go_enter Tryz.func130, Tryz.ntmps130
  go_wp2
  all_goals (go_ret; refine ⟨ret_bool ?_, rfl⟩; go_light; rw [Bool.eq_iff_iff]; simp [cls_dig] <;> omega)

theorem l2Letter_any (c : UInt8) (w : World) :
    Calls Tryz.prog 129 #[.int .u8 (c.toNat : Int)] w fun e w' => e = .returned (.bool (decide (cls c = 3))) ∧ w' = w := by
  go_enter Tryz.func129, Tryz.ntmps129
  go_wp2
  all_goals (go_ret; refine ⟨ret_bool ?_, rfl⟩; go_light; rw [Bool.eq_iff_iff]; simp [cls_let] <;> omega)

theorem l2Blank_any (c : UInt8) (w : World) :
    Calls Tryz.prog 52 #[.int .u8 (c.toNat : Int)] w fun e w' => e = .returned (.bool (decide (cls c = 1))) ∧ w' = w := by
  go_enter Tryz.func52, Tryz.ntmps52
  go_wp2
  all_goals (go_ret; refine ⟨ret_bool ?_, rfl⟩; go_light; (try simp only [beq_iff_eq, beq_eq_false_iff_ne, ne_eq] at *); rw [Bool.eq_iff_iff]; simp [cls_blank] <;> omega)

/-- A Bool that says whether p holds. -/
def Says (v : Bool) (p : Prop) : Prop := v = true ↔ p
/-- The call gives a Bool that says whether p holds. -/
def RetB (e : Ending) (p : Prop) : Prop := ∃ v : Bool, e = .returned (.bool v) ∧ Says v p

set_option maxHeartbeats 400000 in
theorem l2IsNumber_any (s : ByteArray) (w : World) (hs : s.size ≤ maxLen) :
    Calls Tryz.prog 94 #[.string s] w fun e w' => RetB e (NumT s) ∧ w' = w := by
  unfold maxLen at hs
  go_enter Tryz.func94, Tryz.ntmps94
  go_wp2
  go_loop [3] (fun i => ∃ k : Nat, k ≤ s.size ∧ i = .int .i64 k ∧ Hid (∀ j, j < k → cls (bt s j) = 2)) (fun i => s.size - (intOf i).toNat)
  case atStart => exact ⟨0, Nat.zero_le _, rfl, hide (fun j h => by omega)⟩
  case round =>
    obtain ⟨k, hk, rfl, hn⟩ := hrel
    by_cases hlt : k < s.size
    · cases hb : decide (cls s[k] = 2)
      · have Hb := hide hb
        go_wp2_with (go_at_call 130; refine (l2Digit_any _ _).mono ?_; rintro e w' ⟨rfl, rfl⟩)
        go_ret
        refine ⟨⟨_, rfl, ⟨fun h => (by cases h), fun h => ?_⟩⟩, rfl⟩
        have h2 := h.2 k hlt
        have := unhide Hb
        rw [bt_get hlt] at this
        simp at this
        exact absurd h2 this
      · have Hb := hide hb
        go_wp2_with (go_at_call 130; refine (l2Digit_any _ _).mono ?_; rintro e w' ⟨rfl, rfl⟩)
        refine ⟨⟨k + 1, by omega, by go_num, hide (fun j hj => ?_)⟩, by simp [intOf]; omega⟩
        by_cases e : j = k
        · subst e
          have := unhide Hb
          rw [bt_get hlt] at this
          simpa using this
        · exact (unhide hn) j (by omega)
    · by_cases h1 : 1 ≤ s.size
      · have h1' : (1 : Int) ≤ (s.size : Int) := by omega
        go_wp2
        go_ret
        exact ⟨⟨_, rfl, ⟨fun _ => ⟨h1, fun j hj => (unhide hn) j (by omega)⟩, fun _ => by simp; omega⟩⟩, rfl⟩
      · go_wp2
        go_ret
        exact ⟨⟨decide (0 < s.size), rfl, ⟨fun h => absurd (of_decide_eq_true h) (by omega), fun h => absurd h.1 h1⟩⟩, rfl⟩

set_option maxHeartbeats 400000 in
theorem l2IsName_any (s : ByteArray) (w : World) (hs : s.size ≤ maxLen) :
    Calls Tryz.prog 95 #[.string s] w fun e w' => RetB e (NameT s) ∧ w' = w := by
  unfold maxLen at hs
  go_enter Tryz.func95, Tryz.ntmps95
  go_wp2
  go_loop [3] (fun i => ∃ k : Nat, k ≤ s.size ∧ i = .int .i64 k ∧ Hid (∀ j, j < k → (cls (bt s j) = 3 ∨ (j ≠ 0 ∧ cls (bt s j) = 2)))) (fun i => s.size - (intOf i).toNat)
  case atStart => exact ⟨0, Nat.zero_le _, rfl, hide (fun j h => by omega)⟩
  case round =>
    obtain ⟨k, hk, rfl, hn⟩ := hrel
    by_cases hlt : k < s.size
    · have hbk := hide (bt_get hlt)
      have no : (¬ cls (bt s k) = 3) → (k = 0 ∨ ¬ cls (bt s k) = 2) → ∀ v, v = false → Says v (NameT s) := fun h1 h2 v hv => by
        subst hv
        refine ⟨fun h => (by cases h), fun h => ?_⟩
        have := h.2 k hlt
        omega
      have NO := hide no
      clear no
      cases hb : decide (cls s[k] = 3)
      · have hb3 := hide (show ¬ cls (bt s k) = 3 by rw [bt_get hlt] at hb; simpa using hb)
        by_cases hk0 : k = 0
        · subst hk0
          go_wp2_with (go_at_call 129; refine (l2Letter_any _ _).mono ?_; rintro e w' ⟨rfl, rfl⟩)
          go_ret
          exact ⟨⟨_, rfl, (unhide NO) (unhide hb3) (Or.inl trivial) _ rfl⟩, rfl⟩
        · have hk0' : ((k : Int) == 0) = false := by simp; omega
          cases hd : decide (cls s[k] = 2)
          · have hd2 := hide (show ¬ cls (bt s k) = 2 by rw [bt_get hlt] at hd; simpa using hd)
            go_wp2_with (first | (go_at_call 129; refine (l2Letter_any _ _).mono ?_; rintro e w' ⟨rfl, rfl⟩) | (go_at_call 130; refine (l2Digit_any _ _).mono ?_; rintro e w' ⟨rfl, rfl⟩))
            go_ret
            exact ⟨⟨_, rfl, (unhide NO) (unhide hb3) (Or.inr (unhide hd2)) _ rfl⟩, rfl⟩
          · have hd2 := hide (show cls (bt s k) = 2 by rw [bt_get hlt] at hd; simpa using hd)
            go_wp2_with (first | (go_at_call 129; refine (l2Letter_any _ _).mono ?_; rintro e w' ⟨rfl, rfl⟩) | (go_at_call 130; refine (l2Digit_any _ _).mono ?_; rintro e w' ⟨rfl, rfl⟩))
            refine ⟨⟨k + 1, by omega, by go_num, hide (fun j hj => ?_)⟩, by simp [intOf]; omega⟩
            by_cases e : j = k
            · subst e
              exact Or.inr ⟨hk0, unhide hd2⟩
            · exact (unhide hn) j (by omega)
      · have hb3 := hide (show cls (bt s k) = 3 by rw [bt_get hlt] at hb; simpa using hb)
        go_wp2_with (go_at_call 129; refine (l2Letter_any _ _).mono ?_; rintro e w' ⟨rfl, rfl⟩)
        refine ⟨⟨k + 1, by omega, by go_num, hide (fun j hj => ?_)⟩, by simp [intOf]; omega⟩
        by_cases e : j = k
        · subst e
          exact Or.inl (unhide hb3)
        · exact (unhide hn) j (by omega)
    · by_cases h1 : 1 ≤ s.size
      · have h1' : (1 : Int) ≤ (s.size : Int) := by omega
        go_wp2
        go_ret
        exact ⟨⟨_, rfl, ⟨fun _ => ⟨h1, fun j hj => (unhide hn) j (by omega)⟩, fun _ => by simp; omega⟩⟩, rfl⟩
      · go_wp2
        go_ret
        exact ⟨⟨decide (0 < s.size), rfl, ⟨fun h => absurd (of_decide_eq_true h) (by omega), fun h => absurd h.1 h1⟩⟩, rfl⟩

theorem bytes_inj {a b : ByteArray} (h : a.toList = b.toList) : a = b := by
  rw [ByteArray.toList_eq, ByteArray.toList_eq] at h
  obtain ⟨⟨l⟩⟩ := a
  obtain ⟨⟨l'⟩⟩ := b
  simpa using h

set_option maxHeartbeats 400000 in
theorem l2Find_any (b off cap : Nat) (xs : List OpR) (t : ByteArray) (kd : Int) (w : World) (hm : xs.length ≤ 1048576) (hw : Ops w b off xs) (hB : b < w.heap.size) :
    Calls Tryz.prog 97 #[.agg #[.slice (some ⟨b, off, none⟩) xs.length cap], .string t, .int .i64 kd] w fun e w' => (∃ r : Int, e = .returned (.int .i64 r) ∧ (0 ≤ r ↔ ∃ j, j < xs.length ∧ (atO xs j).s = t ∧ (atO xs j).k = kd)) ∧ Below w.heap.size w w' := by
  go_enter Tryz.func97, Tryz.ntmps97
  go_wp2
  have hops : Ops (w.alloc (.cells #[.slice (some ⟨b, off, none⟩) xs.length cap] 33)) b off xs := hw.below (below1 _ _) hB
  have HO := hide hops
  clear hops hw
  go_loop [7] (fun i => ∃ k : Nat, k ≤ xs.length ∧ i = .int .i64 k ∧ Hid (∀ j, j < k → ¬ ((atO xs j).s = t ∧ (atO xs j).k = kd))) (fun i => xs.length - (intOf i).toNat)
  case atStart => exact ⟨0, Nat.zero_le _, rfl, hide (fun j h => by omega)⟩
  case round =>
    obtain ⟨k, hk, rfl, hn⟩ := hrel
    by_cases hlt : k < xs.length
    · obtain ⟨a0, a1, a2, a3⟩ := (unhide HO) k hlt
      have hnx := hide (show ∀ (_ : ¬ ((atO xs k).s = t ∧ (atO xs k).k = kd)), ∀ j, j < k + 1 → ¬ ((atO xs j).s = t ∧ (atO xs j).k = kd) from fun hne j hj => by
        by_cases e : j = k
        · subst e; exact hne
        · exact (unhide hn) j (by omega))
      go_wp2
      · rename_i hs1 hk1 _
        go_ret
        exact ⟨⟨(k : Int), rfl, ⟨fun _ => ⟨k, hlt, bytes_inj hs1, by simpa using hk1⟩, fun _ => by omega⟩⟩, below1 _ _⟩
      · refine ⟨⟨k + 1, by omega, by go_num, hide ((unhide hnx) ?_)⟩, by simp [intOf]; omega⟩
        rintro ⟨_, h⟩
        simp_all
      · refine ⟨⟨k + 1, by omega, by go_num, hide ((unhide hnx) ?_)⟩, by simp [intOf]; omega⟩
        rintro ⟨h, _⟩
        simp_all
    · go_wp2
      go_ret
      refine ⟨⟨-1, rfl, ⟨fun h => absurd h (by decide), fun ⟨j, hj, h⟩ => absurd h ((unhide hn) j (by omega))⟩⟩, below1 _ _⟩
end Go.Proofs.YtokabkhnidlcnabGreat

/-
  Walks: the program's kinds of bytes, forms of texts.
-/
namespace Go.Proofs.YtokabkhnidlcnabGreat
set_option maxRecDepth 100000
open Go.RowKit

set_option maxHeartbeats 1000000 in
theorem kindOfByte_any (c : UInt8) (w : World) :
    Calls Tryz.prog 106 #[.int .u8 (c.toNat : Int)] w fun e w' => e = .returned (.int .i64 (cls c : Int)) ∧ w' = w := by
  have hsg := cls_sg c
  go_enter Tryz.func106, Tryz.ntmps106
  go_wp2_with (go_at_call 133; refine (isSign_any _ _).mono ?_; rintro e w' ⟨rfl, hx⟩; obtain rfl := hx.symm)
  all_goals (go_ret; refine ⟨ret_int ?_, rfl⟩; go_light; (try simp only [beq_iff_eq, beq_eq_false_iff_ne, ne_eq] at *); unfold cls; (repeat' split) <;> (try simp_all) <;> (try omega))

/-- A byte goes on with a word. -/
def stays (first : Nat) (c : UInt8) : Bool := decide (cls c = 2 ∨ (cls c = 3 ∧ first = 3))

set_option maxHeartbeats 1000000 in
theorem staysWord_any (first : Nat) (c : UInt8) (w : World) :
    Calls Tryz.prog 134 #[.int .i64 (first : Int), .int .u8 (c.toNat : Int)] w fun e w' => e = .returned (.bool (stays first c)) ∧ w' = w := by
  by_cases h2 : cls c = 2
  · have HR := hide (show stays first c = true by simp [stays, h2])
    have HC := hide (show (cls c : Int) = 2 by omega)
    clear h2
    go_enter Tryz.func134, Tryz.ntmps134
    go_wp2_with (go_at_call 106; refine (kindOfByte_any _ _).mono ?_; rw [unhide HC]; rintro e w' ⟨rfl, hx⟩; obtain rfl := hx.symm)
    go_ret
    exact ⟨ret_bool (unhide HR).symm, rfl⟩
  by_cases h3 : cls c = 3
  · have HC := hide (show (cls c : Int) = 3 by omega)
    by_cases hf : first = 3
    · have HR := hide (show stays first c = true by simp [stays, h3, hf])
      subst hf
      clear h2 h3
      go_enter Tryz.func134, Tryz.ntmps134
      go_wp2_with (go_at_call 106; refine (kindOfByte_any _ _).mono ?_; rw [unhide HC]; rintro e w' ⟨rfl, hx⟩; obtain rfl := hx.symm)
      go_ret
      exact ⟨ret_bool (unhide HR).symm, rfl⟩
    · have HR := hide (show stays first c = false by simp [stays, h3, hf])
      have hf' : ((first : Int) == 3) = false := by simp; omega
      clear h2 h3 hf
      go_enter Tryz.func134, Tryz.ntmps134
      go_wp2_with (go_at_call 106; refine (kindOfByte_any _ _).mono ?_; rw [unhide HC]; rintro e w' ⟨rfl, hx⟩; obtain rfl := hx.symm)
      go_ret
      exact ⟨ret_bool (unhide HR).symm, rfl⟩
  · have HR := hide (show stays first c = false by simp [stays, h2, h3])
    have h2' : ((cls c : Int) == 2) = false := by simp; omega
    have h3' : ((cls c : Int) == 3) = false := by simp; omega
    clear h2 h3
    go_enter Tryz.func134, Tryz.ntmps134
    go_wp2_with (go_at_call 106; refine (kindOfByte_any _ _).mono ?_; rintro e w' ⟨rfl, hx⟩; obtain rfl := hx.symm)
    go_ret
    exact ⟨ret_bool (unhide HR).symm, rfl⟩

theorem loop_ne (t : ByteArray) : ∀ (n i : Nat) (r : List UInt8), n = t.size - i → r ≠ [] → ByteArray.toList.loop t i r ≠ []
  | 0, i, r, h, hr => by
    unfold ByteArray.toList.loop
    rw [if_neg (by omega)]
    simpa using hr
  | n + 1, i, r, h, hr => by
    unfold ByteArray.toList.loop
    rw [if_pos (by omega)]
    exact loop_ne t n (i + 1) _ (by omega) (by simp)

theorem not_empty {t : ByteArray} (h : t.size ≠ 0) : t.toList.isEmpty = false := by
  rw [List.isEmpty_eq_false_iff]
  unfold ByteArray.toList ByteArray.toList.loop
  rw [if_pos (by omega)]
  exact loop_ne t (t.size - 1) 1 _ rfl (by simp)

theorem bytes_nil {t : ByteArray} (h : t.size = 0) : t = ⟨#[]⟩ := by
  obtain ⟨d⟩ := t
  congr 1
  exact Array.eq_empty_of_size_eq_zero h

theorem says_false {p : Prop} (h : ¬ p) : Says false p := ⟨fun e => (by cases e), fun e => absurd e h⟩
theorem says_true {p : Prop} (h : p) : Says true p := ⟨fun _ => h, fun _ => rfl⟩
end Go.Proofs.YtokabkhnidlcnabGreat
