import Derived.OwnWalk
import Derived.Laws.OwnMore
import Derived.Test.YtokabkhnidlcnabGreatR01
import Derived.Test.YtokabkhnidlcnabGreatR04
import Derived.Test.YtokabkhnidlcnabGreatR07
import Derived.Test.YtokabkhnidlcnabGreatR08

/-
  Rows of tokens that a call makes by append.
-/
namespace Go.Proofs.YtokabkhnidlcnabGreat
set_option maxRecDepth 100000
open Go.RowKit

/-- The cells of a list of tokens. -/
def cellsTk (zs : List TokR) : List Value := zs.flatMap fun o => [.int .i64 o.k, .string o.g, .string o.t]

theorem cellsTk_append (xs ys : List TokR) : cellsTk (xs ++ ys) = cellsTk xs ++ cellsTk ys := by simp [cellsTk]
theorem cellsTk_len : ∀ zs : List TokR, (cellsTk zs).length = zs.length * 3
  | [] => rfl
  | o :: r => by
    have := cellsTk_len r
    simp only [cellsTk, List.flatMap_cons, List.length_append, List.length_cons, List.length_nil] at *
    omega

theorem cellsTk_at : ∀ (zs : List TokR) (i : Nat), i < zs.length → (cellsTk zs)[i * 3]? = some (.int .i64 (atT zs i).k) ∧ (cellsTk zs)[i * 3 + 1]? = some (.string (atT zs i).g) ∧ (cellsTk zs)[i * 3 + 2]? = some (.string (atT zs i).t)
  | [], i, h => absurd h (Nat.not_lt_zero i)
  | o :: r, 0, _ => ⟨rfl, rfl, rfl⟩
  | o :: r, i + 1, h => by
    have ih := cellsTk_at r i (by simpa using h)
    have e : ∀ j, (cellsTk (o :: r))[(i + 1) * 3 + j]? = (cellsTk r)[i * 3 + j]? := fun j => by
      have : (i + 1) * 3 + j = (i * 3 + j) + 3 := by omega
      rw [this]
      rfl
    exact ⟨(e 0).trans ih.1, (e 1).trans ih.2.1, (e 2).trans ih.2.2⟩

theorem cellsTk_one' (zs : List TokR) : ∀ u ∈ cellsTk zs, u.oneCell' = true := by
  intro u hu
  simp only [cellsTk, List.mem_flatMap] at hu
  obtain ⟨o, _, ho⟩ := hu
  simp at ho
  rcases ho with rfl | rfl | rfl <;> rfl

/-- A row that the call owns, as a filled one. -/
theorem owns_filledT {w : World} {base g cap : Nat} {e : TypeId} {zs : List TokR} (h : w.ownsRow base e 3 (.slice (some ⟨g, 0, none⟩) zs.length cap) zs.length (cellsTk zs)) : base ≤ g ∧ FilledT w g zs zs.length := by
  have hlt := h.lt g rfl
  refine ⟨hlt.1, hlt.2, fun j hj => ⟨?_, h.frozenAt _⟩, fun i hi => ?_⟩
  · rw [h.cellAt (0 + j) (by omega)]
    have : 0 + j < (cellsTk zs).length := by rw [cellsTk_len]; omega
    rw [List.getElem?_eq_getElem this]
    rfl
  · obtain ⟨c0, c1, c2⟩ := cellsTk_at zs i hi
    have e := fun j (hj : j < 3) => h.cellAt (i * 3 + j) (by omega)
    exact ⟨by simpa using (e 0 (by omega)).trans c0, by simpa using (e 1 (by omega)).trans c1, by simpa using (e 2 (by omega)).trans c2⟩

/-- A new token in a block of its own. -/
theorem new_newsT (w : World) (o : TokR) : ∀ j u, (cellsTk [o])[j]? = some u → (w.alloc (.cells #[.int .i64 o.k, .string o.g, .string o.t] 56)).cell? ((⟨w.heap.size, 0, none⟩ : Addr).add j) = some u := by
  intro j u hj
  rw [Addr.add_mid]
  have := World.rangeAt_of_block (w := w.alloc (.cells #[.int .i64 o.k, .string o.g, .string o.t] 56)) (b := w.heap.size) (heap_alloc_new w _) 0 3
  exact this j u (by simpa [cellsTk] using hj)

/-- What Lex answers. -/
def LexIs (xs : List OpR) (ok : Prop) (s : ByteArray) (us : List TokR) (v : Bool) : Prop :=
  ((ok ∧ s.size ≤ 20000) ∧ v = true ∧ Lexed xs s 0 us) ∨ (¬ (ok ∧ s.size ≤ 20000) ∧ v = false ∧ us = [])

theorem LexIs.one {xs : List OpR} {ok : Prop} {s : ByteArray} {us us' : List TokR} {v v' : Bool} (h : LexIs xs ok s us v) (h' : LexIs xs ok s us' v') : us = us' ∧ v = v' := by
  rcases h with ⟨a, rfl, b⟩ | ⟨a, rfl, rfl⟩
  · rcases h' with ⟨_, rfl, b'⟩ | ⟨a', _⟩
    · exact ⟨Lexed.one _ _ _ b b', rfl⟩
    · exact absurd a a'
  · rcases h' with ⟨a', _⟩ | ⟨_, rfl, rfl⟩
    · exact absurd a' a
    · exact ⟨rfl, rfl⟩

theorem LexIs.len {xs : List OpR} {ok : Prop} {s : ByteArray} {us : List TokR} {v : Bool} (h : LexIs xs ok s us v) : us.length ≤ 20001 := by
  rcases h with ⟨a, rfl, b⟩ | ⟨a, rfl, rfl⟩
  · have := Lexed.len _ _ b
    omega
  · simp

/-- What has been read: whatever tokens come behind place i, they come behind acc. -/
def Read (xs : List OpR) (s : ByteArray) (i : Nat) (acc : List TokR) : Prop := acc.length ≤ i ∧ ∀ out, Lexed xs s i out → Lexed xs s 0 (acc ++ out)

theorem Read.start (xs : List OpR) (s : ByteArray) : Read xs s 0 [] := ⟨Nat.le_refl _, fun _ h => h⟩

theorem Read.step {xs : List OpR} {s : ByteArray} {i j n k : Nat} {acc : List TokR} (h : Read xs s i acc) (h1 : i ≤ j) (h2 : j < s.size) (h3 : Blanks s i j) (h4 : cls (bt s j) ≠ 1) (h5 : IsTok xs s j n k) :
    Read xs s (j + n) (acc ++ [⟨(k : Int), s.extract i j, s.extract j (j + n)⟩]) := by
  refine ⟨?_, fun out ho => ?_⟩
  · have := h.1
    have := h5.1
    simp
    omega
  · rw [List.append_assoc]
    exact h.2 _ (Lexed.tok h1 h2 h3 h4 h5 ho)

theorem Read.done {xs : List OpR} {s : ByteArray} {i : Nat} {acc : List TokR} (h : Read xs s i acc) (h1 : i ≤ s.size) (h3 : Blanks s i s.size) : Lexed xs s 0 (acc ++ [⟨7, s.extract i s.size, ⟨#[]⟩⟩]) :=
  h.2 _ (Lexed.fin h1 h3)

theorem FilledT.arg {w : World} {g : Nat} {us : List TokR} (h : FilledT w g us us.length) : ArgT w (some ⟨g, 0, none⟩) us := Or.inr ⟨g, 0, rfl, h.ops, h.1⟩

/-- A list of tokens that a call has made: nil and empty, or a row of its own. -/
def OwnedT (w : World) (n : Nat) (a : Option Addr) (us : List TokR) : Prop := (us.length = 0 ∧ a = none) ∨ ∃ g, a = some ⟨g, 0, none⟩ ∧ n ≤ g ∧ FilledT w g us us.length

theorem OwnedT.arg {w : World} {n : Nat} {a : Option Addr} {us : List TokR} (h : OwnedT w n a us) : ArgT w a us := by
  rcases h with ⟨h, _⟩ | ⟨g, rfl, _, hf⟩
  · exact Or.inl h
  · exact hf.arg

theorem OwnedT.grown {w w' : World} {n : Nat} {a : Option Addr} {us : List TokR} {row : Option Nat} (h : OwnedT w n a us) (hg : w.grownBy w' row) (hr : ∀ k, row = some k → k < n) : OwnedT w' n a us := by
  rcases h with h | ⟨g, rfl, hn, hf⟩
  · exact Or.inl h
  · exact Or.inr ⟨g, rfl, hn, hf.grown hg (fun e => by have := hr g e.symm; omega)⟩

theorem OwnedT.step {w w' : World} {n : Nat} {a : Option Addr} {us : List TokR} (h : OwnedT w n a us) (hb : Below w.heap.size w w') : OwnedT w' n a us :=
  h.grown (grown_bel hb none) (fun k hk => by cases hk)

theorem OwnedT.lt {w : World} {n : Nat} {a : Option Addr} {us : List TokR} (h : OwnedT w n a us) : ∀ k, a.map (·.block) = some k → n ≤ k ∧ k < w.heap.size := by
  rcases h with ⟨_, rfl⟩ | ⟨g, rfl, hn, hf⟩
  · intro k hk; cases hk
  · intro k hk; injection hk with hk; subst hk; exact ⟨hn, hf.1⟩
end Go.Proofs.YtokabkhnidlcnabGreat

/-
  The signs of a row of tokens, by their roles.
-/
namespace Go.Proofs.YtokabkhnidlcnabGreat
set_option maxRecDepth 100000
set_option linter.unusedSimpArgs false
open Go.RowKit

/-- The sign of token i. -/
def sgT (ns : List OpR) (ts : List TokR) (i : Nat) : SyR :=
  if (atT ts i).k = 3 then ((roleTo ns ts i).toNat + 2, (atT ts i).t)
  else if (atT ts i).k = 4 then (6, opn) else if (atT ts i).k = 5 then (7, cls1) else if (atT ts i).k = 7 then eoS else ((atT ts i).k.toNat, (atT ts i).t)
/-- The signs of n tokens from token a on. -/
def sgs (ns : List OpR) (ts : List TokR) (a n : Nat) : List SyR := (List.range' a n).map (sgT ns ts)

theorem sgs_len (ns : List OpR) (ts : List TokR) (a n : Nat) : (sgs ns ts a n).length = n := by simp [sgs]
theorem sgs_succ (ns : List OpR) (ts : List TokR) (a n : Nat) : sgs ns ts a (n + 1) = sgT ns ts a :: sgs ns ts (a + 1) n := by
  simp [sgs, List.range'_succ]
theorem sgs_add (ns : List OpR) (ts : List TokR) (a m n : Nat) : sgs ns ts a (m + n) = sgs ns ts a m ++ sgs ns ts (a + m) n := by
  induction m generalizing a with
  | zero => simp [sgs]
  | succ m ih =>
    have e : m + 1 + n = (m + n) + 1 := by omega
    rw [e, sgs_succ, sgs_succ, ih]
    have e2 : a + 1 + m = a + (m + 1) := by omega
    rw [e2]; rfl
theorem sgs_last (ns : List OpR) (ts : List TokR) (a n : Nat) : sgs ns ts a (n + 1) = sgs ns ts a n ++ [sgT ns ts (a + n)] := by
  rw [sgs_add]; rfl

/-- What a token of a text is. -/
def TokOk (ns : List OpR) (t : TokR) : Prop :=
  ((t.k = 1 ∨ t.k = 2) ∧ ¬ opT ns t.t ∧ t.t ≠ opn) ∨ (t.k = 3 ∧ opT ns t.t ∧ t.t ≠ opn) ∨ (t.k = 4 ∧ t.t = opn ∧ ¬ opT ns t.t) ∨ (t.k = 5 ∧ t.t = cls1 ∧ ¬ opT ns t.t) ∨ t.k = 6 ∨ (t.k = 7 ∧ t.t = ⟨#[]⟩ ∧ ¬ opT ns t.t)

theorem cls_first {t : ByteArray} {ns : List OpR} (hv : SignTexts ns) (ho : opT ns t) : cls (bt t 0) = 6 ∧ 1 ≤ t.size := by
  obtain ⟨j, hj, rfl⟩ := ho
  have := hv j hj
  exact ⟨this.2.2 0 (by omega), this.1⟩

theorem tokOk_of {ns : List OpR} (hv : SignTexts ns) {s : ByteArray} {i n k : Nat} (g : ByteArray) (h : IsTok ns s i n k) : TokOk ns ⟨(k : Int), g, s.extract i (i + n)⟩ := by
  obtain ⟨h1, h2, h⟩ := h
  have hb : bt (sub s i n) 0 = bt s i := by simpa using sub_bt (s := s) (i := i) (n := n) (j := 0) h2 (by omega)
  have hsz : (sub s i n).size = n := sub_size h2
  have hno : cls (bt s i) ≠ 6 → ¬ opT ns (sub s i n) := fun hc ho => hc (by rw [← hb]; exact (cls_first hv ho).1)
  have hnp : cls (bt s i) ≠ 4 → sub s i n ≠ opn := fun hc e => hc (by rw [← hb, e]; decide)
  change TokOk ns ⟨(k : Int), g, sub s i n⟩
  rcases h with ⟨c, rfl, _⟩ | ⟨c, rfl, _⟩ | ⟨c, rfl, rfl⟩ | ⟨c, rfl, rfl⟩ | ⟨c, ⟨rfl, a, _⟩ | ⟨rfl, _⟩⟩ | ⟨c, rfl, _⟩
  · exact Or.inl ⟨Or.inl rfl, hno (by omega), hnp (by omega)⟩
  · exact Or.inl ⟨Or.inr rfl, hno (by omega), hnp (by omega)⟩
  · refine Or.inr (Or.inr (Or.inl ⟨rfl, ?_, hno (by omega)⟩))
    exact (one_byte hsz).2 (by rw [hb]; exact (cls_open _).1 c)
  · refine Or.inr (Or.inr (Or.inr (Or.inl ⟨rfl, ?_, hno (by omega)⟩)))
    exact (one_byte hsz).2 (by rw [hb]; exact (cls_close _).1 c)
  · exact Or.inr (Or.inl ⟨rfl, a, hnp (by omega)⟩)
  · exact Or.inr (Or.inr (Or.inr (Or.inr (Or.inl rfl))))
  · exact Or.inr (Or.inr (Or.inr (Or.inr (Or.inl rfl))))

theorem toks_ok {ns : List OpR} (hv : SignTexts ns) {s : ByteArray} : ∀ (ts : List TokR) (i : Nat), Lexed ns s i ts → ∀ j, j < ts.length → TokOk ns (atT ts j)
  | [], i, h, j, hj => by simp at hj
  | t :: out, i, h, j, hj => by
    rcases h with ⟨rfl, _, _, rfl⟩ | ⟨p, n, k, _, _, _, _, ht, rfl, hr⟩
    · have : j = 0 := by simp at hj; omega
      subst this
      refine Or.inr (Or.inr (Or.inr (Or.inr (Or.inr ⟨rfl, rfl, fun ho => ?_⟩))))
      have h1 := (cls_first hv ho).2
      simp [atT] at h1
      have h0 : (⟨#[]⟩ : ByteArray).size = 0 := rfl
      omega
    · cases j with
      | zero => exact tokOk_of hv _ ht
      | succ j => exact toks_ok hv out _ hr j (by simpa using hj)

theorem has_kn {ns : List OpR} {t : ByteArray} {q : Nat} {k : Int} (h : hasB ns t k = true) (hq : (q : Int) - 2 = k) : knB ns (q, t) = true := by
  unfold knB
  simp only [hq]
  cases hf : fnd ns t k with
  | some j => rfl
  | none =>
    obtain ⟨j, hj, e1, e2⟩ := (hasB_iff _ _ _).1 h
    exact absurd ⟨e1, e2⟩ (fnd_none hf hj)

theorem roleOf_f (xs : List OpR) (last : Bool) (t : TokR) (op : Nat) : roleOf xs last t false op = if t.k = 1 ∨ t.k = 2 ∨ t.k = 4 then 0 else if t.k = 3 ∧ hasB xs t.t 1 = true then 1 else -1 := by
  unfold roleOf; rw [if_pos rfl]
theorem roleOf_t (xs : List OpR) (last : Bool) (t : TokR) (op : Nat) : roleOf xs last t true op = if t.k = 3 ∧ hasB xs t.t 2 = true then 2 else if t.k = 3 ∧ hasB xs t.t 3 = true then 3
    else if t.k = 5 ∧ 0 < op then 0 else if t.k = 7 ∧ op = 0 ∧ last = true then 0 else -1 := by
  unfold roleOf; rw [if_neg (by decide)]

/-- One token more. -/
theorem au_tok {ns : List OpR} {ts : List TokR} {i : Nat} (hl : i + 1 < ts.length) (hr : 0 ≤ roleTo ns ts i) :
    auS ns (bhTo ns ts i, opTo ts i) (sgT ns ts i) = some (bhTo ns ts (i + 1), opTo ts (i + 1)) := by
  have hlast : decide (i + 1 = ts.length) = false := by simp; omega
  simp only [bhTo, opTo]
  unfold sgT
  unfold roleTo at hr ⊢
  rw [hlast] at hr ⊢
  generalize atT ts i = t at hr ⊢
  generalize opTo ts i = op at hr ⊢
  generalize bhTo ns ts i = bh at hr ⊢
  cases bh
  · rw [roleOf_f] at hr ⊢
    by_cases k1 : t.k = 1 ∨ t.k = 2
    · rw [if_neg (by omega), if_neg (by omega), if_neg (by omega), if_neg (by omega), au_leaf (by rcases k1 with e | e <;> simp [e])]
      simp only [bhOf, opOf, if_true, if_pos k1]
      rw [if_neg (by omega), if_neg (by omega)]
    · by_cases k4 : t.k = 4
      · rw [if_neg (by omega), if_pos k4, au_open]
        simp [bhOf, opOf, k4]
      · rw [if_neg (by omega)] at hr
        by_cases c : t.k = 3 ∧ hasB ns t.t 1 = true
        · rw [if_pos c.1, if_neg (by omega), if_pos c, au_pre (s := ((1 : Int).toNat + 2, t.t)) rfl (has_kn c.2 (by decide))]
          simp [bhOf, opOf, c.1]
        · rw [if_neg c] at hr; omega
  · rw [roleOf_t] at hr ⊢
    by_cases c2 : t.k = 3 ∧ hasB ns t.t 2 = true
    · rw [if_pos c2.1, if_pos c2, au_mid (s := ((2 : Int).toNat + 2, t.t)) rfl (has_kn c2.2 (by decide))]
      simp [bhOf, opOf, c2.1, c2.2]
    · rw [if_neg c2] at hr
      by_cases c3 : t.k = 3 ∧ hasB ns t.t 3 = true
      · rw [if_pos c3.1, if_neg c2, if_pos c3, au_post (s := ((3 : Int).toNat + 2, t.t)) rfl (has_kn c3.2 (by decide))]
        simp only [bhOf, opOf, Bool.true_eq_false, if_false, if_neg c2]
        rw [if_neg (by omega), if_neg (by omega)]
      · rw [if_neg c3] at hr
        by_cases c5 : t.k = 5 ∧ 0 < op
        · rw [if_neg (by omega), if_neg (by omega), if_pos c5.1]
          obtain ⟨m, rfl⟩ : ∃ m, op = m + 1 := ⟨op - 1, by omega⟩
          rw [au_close]
          simp [bhOf, opOf, c5.1]
        · rw [if_neg c5] at hr
          simp at hr

theorem run_sgs {ns : List OpR} {ts : List TokR} : ∀ n, n < ts.length → FitTo ns ts n → runS ns (false, 0) (sgs ns ts 0 n) = some (bhTo ns ts n, opTo ts n)
  | 0, _, _ => rfl
  | n + 1, hn, hf => by
    rw [sgs_last, runS_append, run_sgs n (by omega) (fun i hi => hf i (by omega))]
    simp only [Nat.zero_add, runS]
    rw [au_tok (by omega) (hf n (by omega))]

theorem fit_end {ns : List OpR} {ts : List TokR} (hf : FitTo ns ts ts.length) (h0 : 0 < ts.length) (h7 : (atT ts (ts.length - 1)).k = 7) :
    Seg ns (sgs ns ts 0 (ts.length - 1)) ∧ sgs ns ts 0 ts.length = sgs ns ts 0 (ts.length - 1) ++ [eoS] := by
  have hr := hf (ts.length - 1) (by omega)
  have hb : bhTo ns ts (ts.length - 1) = true ∧ opTo ts (ts.length - 1) = 0 := by
    unfold roleTo roleOf at hr
    have hl : decide (ts.length - 1 + 1 = ts.length) = true := by simp; omega
    rw [hl] at hr
    cases hb : bhTo ns ts (ts.length - 1)
    · rw [hb] at hr
      simp only [if_true] at hr
      rw [if_neg (by omega), if_neg (by omega)] at hr
      omega
    · rw [hb] at hr
      simp only [Bool.true_eq_false, if_false] at hr
      rw [if_neg (by omega), if_neg (by omega), if_neg (by omega)] at hr
      by_cases c : (atT ts (ts.length - 1)).k = 7 ∧ opTo ts (ts.length - 1) = 0 ∧ True
      · exact ⟨rfl, c.2.1⟩
      · rw [if_neg c] at hr; omega
  refine ⟨?_, ?_⟩
  · unfold Seg
    rw [run_sgs _ (by omega) (fun i hi => hf i (by omega)), hb.1, hb.2]
  · have e : ts.length = ts.length - 1 + 1 := by omega
    have := sgs_last ns ts 0 (ts.length - 1)
    rw [← e] at this
    rw [this]
    have e2 : sgT ns ts (0 + (ts.length - 1)) = eoS := by
      rw [Nat.zero_add]
      unfold sgT
      rw [if_neg (by omega), if_neg (by omega), if_neg (by omega), if_pos h7]
    rw [e2]

/-- What one meets in front of an operand, and behind one. -/
theorem tok_front {ns : List OpR} {ts : List TokR} {i : Nat} (hr : 0 ≤ roleTo ns ts i) (hb : bhTo ns ts i = false) (ht : TokOk ns (atT ts i)) :
    (((atT ts i).k = 1 ∨ (atT ts i).k = 2) ∧ ¬ opT ns (atT ts i).t ∧ (atT ts i).t ≠ opn ∧ sgT ns ts i = ((atT ts i).k.toNat, (atT ts i).t)) ∨
    ((atT ts i).k = 3 ∧ hasB ns (atT ts i).t 1 = true ∧ (atT ts i).t ≠ opn ∧ sgT ns ts i = (3, (atT ts i).t)) ∨
    ((atT ts i).k = 4 ∧ (atT ts i).t = opn ∧ sgT ns ts i = (6, opn)) := by
  unfold sgT
  unfold roleTo at hr ⊢
  rw [hb, roleOf_f] at hr ⊢
  by_cases k : (atT ts i).k = 1 ∨ (atT ts i).k = 2 ∨ (atT ts i).k = 4
  · rcases ht with ⟨a, b, c⟩ | ⟨a, b, c⟩ | ⟨a, b, c⟩ | ⟨a, b, c⟩ | a | ⟨a, b, c⟩
    · refine Or.inl ⟨a, b, c, ?_⟩
      rw [if_neg (by omega), if_neg (by omega), if_neg (by omega), if_neg (by omega)]
    · omega
    · refine Or.inr (Or.inr ⟨a, b, ?_⟩)
      rw [if_neg (by omega), if_pos a]
    · omega
    · omega
    · omega
  · rw [if_neg k] at hr ⊢
    by_cases c : (atT ts i).k = 3 ∧ hasB ns (atT ts i).t 1 = true
    · rw [if_pos c.1, if_pos c]
      refine Or.inr (Or.inl ⟨c.1, c.2, ?_, rfl⟩)
      rcases ht with ⟨a, b, c'⟩ | ⟨a, b, c'⟩ | ⟨a, b, c'⟩ | ⟨a, b, c'⟩ | a | ⟨a, b, c'⟩
      · exact c'
      · exact c'
      all_goals omega
    · rw [if_neg c] at hr; omega

theorem tok_behind {ns : List OpR} {ts : List TokR} {i : Nat} (hr : 0 ≤ roleTo ns ts i) (hb : bhTo ns ts i = true) (ht : TokOk ns (atT ts i)) :
    ((atT ts i).k = 3 ∧ hasB ns (atT ts i).t 2 = true ∧ sgT ns ts i = (4, (atT ts i).t)) ∨
    ((atT ts i).k = 3 ∧ hasB ns (atT ts i).t 3 = true ∧ sgT ns ts i = (5, (atT ts i).t)) ∨
    (¬ opT ns (atT ts i).t ∧ (sgT ns ts i).1 ≠ 4 ∧ (sgT ns ts i).1 ≠ 5) := by
  unfold sgT
  unfold roleTo at hr ⊢
  rw [hb, roleOf_t] at hr ⊢
  by_cases c2 : (atT ts i).k = 3 ∧ hasB ns (atT ts i).t 2 = true
  · rw [if_pos c2.1, if_pos c2]
    exact Or.inl ⟨c2.1, c2.2, rfl⟩
  · rw [if_neg c2] at hr ⊢
    by_cases c3 : (atT ts i).k = 3 ∧ hasB ns (atT ts i).t 3 = true
    · rw [if_pos c3.1, if_pos c3]
      exact Or.inr (Or.inl ⟨c3.1, c3.2, rfl⟩)
    · rw [if_neg c3] at hr
      have k57 : (atT ts i).k = 5 ∨ (atT ts i).k = 7 := by
        by_cases c5 : (atT ts i).k = 5 ∧ 0 < opTo ts i
        · exact Or.inl c5.1
        · rw [if_neg c5] at hr
          by_cases c7 : (atT ts i).k = 7 ∧ opTo ts i = 0 ∧ decide (i + 1 = ts.length) = true
          · exact Or.inr c7.1
          · rw [if_neg c7] at hr; omega
      have hno : ¬ opT ns (atT ts i).t := by
        rcases ht with ⟨a, b, c'⟩ | ⟨a, b, c'⟩ | ⟨a, b, c'⟩ | ⟨a, b, c'⟩ | a | ⟨a, b, c'⟩
        · exact b
        · omega
        · exact c'
        · exact c'
        · omega
        · exact c'
      refine Or.inr (Or.inr ⟨hno, ?_⟩)
      rw [if_neg (by omega), if_neg (by omega)]
      by_cases k5 : (atT ts i).k = 5
      · rw [if_pos k5]; exact ⟨by decide, by decide⟩
      · rw [if_neg k5, if_pos (by omega)]; exact ⟨by decide, by decide⟩
end Go.Proofs.YtokabkhnidlcnabGreat

/-
  Worlds in which one block alone has turned.
-/
namespace Go.Proofs.YtokabkhnidlcnabGreat
set_option maxRecDepth 100000
open Go.RowKit

/-- Nothing but one block has turned. -/
structure Kept1 (w w' : World) (g : Nat) : Prop where
  os : w'.os = w.os
  tape : w'.tape = w.tape
  output : w'.output = w.output
  size : w.heap.size ≤ w'.heap.size
  block : ∀ i, i < w.heap.size → i ≠ g → w'.heap[i]? = w.heap[i]?

theorem Kept1.refl (w : World) (g : Nat) : Kept1 w w g := ⟨rfl, rfl, rfl, Nat.le_refl _, fun _ _ _ => rfl⟩
theorem Kept1.trans {w w1 w2 : World} {g : Nat} (h : Kept1 w w1 g) (h' : Kept1 w1 w2 g) : Kept1 w w2 g :=
  ⟨h'.os.trans h.os, h'.tape.trans h.tape, h'.output.trans h.output, Nat.le_trans h.size h'.size, fun i hi a => (h'.block i (Nat.lt_of_lt_of_le hi h.size) a).trans (h.block i hi a)⟩
theorem Kept1.of_below {w w' : World} {g : Nat} (h : Below w.heap.size w w') : Kept1 w w' g := ⟨h.os, h.tape, h.output, h.size, fun i hi _ => h.block i hi⟩
theorem Kept1.cell {w w' : World} {g : Nat} (h : Kept1 w w' g) {b : Nat} (hb : b < w.heap.size) (h1 : b ≠ g) (o : Nat) : w'.cell? ⟨b, o, none⟩ = w.cell? ⟨b, o, none⟩ :=
  World.cell?_of_block (w := w) (h.block b hb h1)
theorem Kept1.frozen {w w' : World} {g : Nat} (h : Kept1 w w' g) {b : Nat} (hb : b < w.heap.size) (h1 : b ≠ g) (o : Nat) : w'.frozen? ⟨b, o, none⟩ = w.frozen? ⟨b, o, none⟩ :=
  World.frozen?_of_block (w := w) (h.block b hb h1)
theorem Kept1.below {w w' : World} {g B : Nat} (h : Kept1 w w' g) (hB : B ≤ w.heap.size) (h1 : B ≤ g) : Below B w w' :=
  ⟨h.os, h.tape, h.output, h.size, fun i hi => h.block i (by omega) (by omega)⟩
theorem kept1_setCells {g : Nat} : ∀ (vs : List Value) (o : Nat) (w : World), Kept1 w (w.setCells g o vs) g
  | [], _, w => Kept1.refl w g
  | v :: r, o, w => (show Kept1 w (w.setCell ⟨g, o, none⟩ v) g from ⟨rfl, rfl, rfl, by simp [World.setCell], fun _ _ hi => Below.heap_setCell _ _ _ _ hi⟩).trans (kept1_setCells r (o + 1) _)
theorem Kept1.ops {w w' : World} {g b off : Nat} {xs : List OpR} (h : Kept1 w w' g) (ho : Ops w b off xs) (hb : b < w.heap.size) (hne : b ≠ g) : Ops w' b off xs := fun i hi => by
  obtain ⟨a0, a1, a2, a3⟩ := ho i hi
  have e := h.cell hb hne
  exact ⟨(e _).trans a0, (e _).trans a1, (e _).trans a2, (e _).trans a3⟩
theorem Kept1.filled {w w' : World} {g b k : Nat} {xs : List OpR} (h : Kept1 w w' g) (ho : Filled w b xs k) (hne : b ≠ g) : Filled w' b xs k := by
  obtain ⟨h1, h2, h3⟩ := ho
  have e := h.cell h1 hne
  have f := h.frozen h1 hne
  refine ⟨Nat.lt_of_lt_of_le h1 h.size, fun j hj => ⟨by rw [e]; exact (h2 j hj).1, by rw [f]; exact (h2 j hj).2⟩, fun i hi => ?_⟩
  obtain ⟨a0, a1, a2, a3⟩ := h3 i hi
  exact ⟨(e _).trans a0, (e _).trans a1, (e _).trans a2, (e _).trans a3⟩

theorem grown_kept1 {w w' : World} {g : Nat} (h : Kept1 w w' g) : w.grownBy w' (some g) := ⟨h.os, h.tape, h.output, h.size, fun i hi e => h.block i hi (fun x => e (by rw [x]))⟩

end Go.Proofs.YtokabkhnidlcnabGreat
