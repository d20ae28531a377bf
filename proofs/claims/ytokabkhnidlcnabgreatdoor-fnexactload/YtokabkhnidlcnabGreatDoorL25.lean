import Derived.Test.YtokabkhnidlcnabGreatDoorL18
import Derived.Test.YtokabkhnidlcnabGreatDoorL24

/-
  The scopes that the program keeps: what a round of scopeOf keeps.
-/
namespace Go.Proofs.YtokabkhnidlcnabGreatDoor
set_option maxRecDepth 100000
set_option linter.unusedSimpArgs false
set_option linter.unusedVariables false
open Go.RowKit Go.Maps

theorem zeroT (w : World) : (zeroValue 54).run Tryz.prog w = .ok (.agg #[.slice none 0 0]) w := by kernel_rfl
theorem field_ops (x : Value) (w : World) : (Instr.field 54 (.agg #[x]) 0).run Tryz.prog w = .ok x w := by kernel_rfl

theorem SSet.same {w w' : World} {b o B : Nat} {kv : Value} {pv : Option Nat} {ks : List ByteArray} (h : SSet w b o B kv pv ks) (hs : ∀ i, i = b ∨ kv.ownBlock = some i ∨ pv = some i → w'.heap[i]? = w.heap[i]?) : SSet w' b o B kv pv ks := by
  have hc := fun q => World.cell?_of_block (w := w) (w' := w') (a := ⟨b, q, none⟩) (hs b (Or.inl rfl))
  have hf := fun q => World.frozen?_of_block (w := w) (w' := w') (a := ⟨b, q, none⟩) (hs b (Or.inl rfl))
  exact ⟨(hc o).trans h.c0, (hc _).trans h.c1, (hf o).trans h.f0, (hf _).trans h.f1, row_same h.row (fun g e => hs g (Or.inr (Or.inl e))), h.mp.imp id (fun ⟨bm, h1, h2, h3⟩ => ⟨bm, h1, h2, h3.same (hs bm (Or.inr (Or.inr h1)))⟩), h.nk, h.np, h.nn⟩

theorem OMap.same {w w' : World} {b n : Nat} {G : OpR → Option Value} (h : OMap w b n G) (hs : w'.heap[b]? = w.heap[b]?) : OMap w' b n G := by
  obtain ⟨D, ⟨es, clock, hb, F, h1, h2⟩, h⟩ := h
  exact ⟨D, ⟨es, clock, hs.trans hb, F, h1, h2⟩, h⟩

theorem QSet.same {w w' : World} {b o B : Nat} {kv : Value} {pv : Option Nat} {ks : List OpR} (h : QSet w b o B kv pv ks) (hs : ∀ i, i = b ∨ kv.ownBlock = some i ∨ pv = some i → w'.heap[i]? = w.heap[i]?) : QSet w' b o B kv pv ks := by
  have hc := fun q => World.cell?_of_block (w := w) (w' := w') (a := ⟨b, q, none⟩) (hs b (Or.inl rfl))
  have hf := fun q => World.frozen?_of_block (w := w) (w' := w') (a := ⟨b, q, none⟩) (hs b (Or.inl rfl))
  exact ⟨(hc o).trans h.c0, (hc _).trans h.c1, (hf o).trans h.f0, (hf _).trans h.f1, row_same h.row (fun g e => hs g (Or.inr (Or.inl e))), h.mp.imp id (fun ⟨bm, h1, h2, h3⟩ => ⟨bm, h1, h2, h3.same (hs bm (Or.inr (Or.inr h1)))⟩), h.nk, h.np, h.nn⟩

/-- What the scope of the module at i leaves. -/
def ScPost (w : World) (C bs : Nat) (ms : List ModR) (T : Nat → List OpR) (rk : Nat → Nat) (G : ByteArray → Option Value) (i : Nat) (e : Ending) (w' : World) : Prop :=
  ∃ v G', e = .returned (.agg #[v]) ∧ G' (atM ms i).n = some (.agg #[v]) ∧ ScM w' C bs ms T G' ∧ w.grownBy w' (some bs) ∧ (∀ j, j < ms.length → ∀ x, G (atM ms j).n = some x → G' (atM ms j).n = some x) ∧ (∀ j, j < ms.length → rk i < rk j → G' (atM ms j).n = G (atM ms j).n) ∧ ∀ j, j < ms.length → ∀ x, G' (atM ms j).n = some (.agg #[x]) → G (atM ms j).n = some (.agg #[x]) ∨ ∀ g, x.ownBlock = some g → w.heap.size ≤ g

/-- What all scopes lean on. -/
structure ScH (w : World) (B C P bs : Nat) (am : Option Addr) (cm : Nat) (ms : List ModR) (v1 : Value) (vs : List UvR) (U : List UnR) (kv : Value) (pv : Option Nat) (ks : List ByteArray) : Prop where
  pg : PgC w B C P am cm ms.length v1 vs U
  nm : SSet w P 2 C kv pv ks
  c4 : w.cell? ⟨P, 4, none⟩ = some (.map (some bs))
  hC : C ≤ w.heap.size
  hP : P < B
  hbs : bs < B
  hBC : B ≤ C
  hne : bs ≠ P

theorem ScH.keep {w w' : World} {B C P bs : Nat} {am : Option Addr} {cm : Nat} {ms : List ModR} {v1 : Value} {vs : List UvR} {U : List UnR} {kv : Value} {pv : Option Nat} {ks : List ByteArray} (h : ScH w B C P bs am cm ms v1 vs U kv pv ks) (hg : w.grownBy w' (some bs)) : ScH w' B C P bs am cm ms v1 vs U kv pv ks := by
  have hC := h.hC
  have hbs := h.hbs
  have hBC := h.hBC
  have hPl := h.pg.lt
  have hz := hg.size
  have sm : ∀ i, i < w.heap.size → i ≠ bs → w'.heap[i]? = w.heap[i]? := fun i h1 h2 => hg.block i h1 (fun e => h2 (by injection e))
  have kc := fun q => World.cell?_of_block (w := w) (w' := w') (a := ⟨P, q, none⟩) (sm P hPl (Ne.symm h.hne))
  exact ⟨h.pg.keep hz (fun i h1 h2 => sm i (by omega) (by omega)) (kc 0) (kc 1), h.nm.same (fun i hi => by
    rcases hi with rfl | hi | hi
    · exact sm _ hPl (Ne.symm h.hne)
    · have := h.nm.row.lt i hi; exact sm i this.2 (by omega)
    · have := h.nm.plt i hi; exact sm i this.2 (by omega)), (kc 4).trans h.c4, by omega, h.hP, h.hbs, h.hBC, h.hne⟩

/-- What a round keeps. -/
structure ScI (w wr : World) (R C bs : Nat) (ms : List ModR) (T : Nat → List OpR) (rk : Nat → Nat) (G : ByteArray → Option Value) (i : Nat) (U : List UnR) (acc : List OpR) (kv : Value) (pv : Option Nat) (G' : ByteArray → Option Value) : Prop where
  qs : QSet wr R 0 R kv pv acc
  sc : ScM wr C bs ms T G'
  gr : w.grownBy wr (some bs)
  dj : Dj ms G' R kv pv
  hi : ∀ j, j < ms.length → rk i ≤ rk j → G' (atM ms j).n = G (atM ms j).n
  ol : ∀ j, j < ms.length → ∀ x, G' (atM ms j).n = some (.agg #[x]) → G (atM ms j).n = some (.agg #[x]) ∨ ∀ g, x.ownBlock = some g → w.heap.size < g
  ps : ∀ j, j < ms.length → ∀ x, G (atM ms j).n = some x → G' (atM ms j).n = some x
  rb : wr.cell? ⟨w.heap.size, 0, none⟩ = some (.slice none 0 0) ∧ wr.frozen? ⟨w.heap.size, 0, none⟩ = false
  su : ∀ o ∈ acc, o ∈ allOps U
  nd : acc.Nodup
  hR : w.heap.size < R
  hb : bs < w.heap.size

theorem ScI.dj' {w wr w6 : World} {R C bs : Nat} {ms : List ModR} {T : Nat → List OpR} {rk : Nat → Nat} {G : ByteArray → Option Value} {i j : Nat} {U : List UnR} {acc : List OpR} {kv : Value} {pv : Option Nat} {G' G'' : ByteArray → Option Value} (h : ScI w wr R C bs ms T rk G i U acc kv pv G')
    (h6 : ∀ j, j < ms.length → ∀ x, G'' (atM ms j).n = some (.agg #[x]) → G' (atM ms j).n = some (.agg #[x]) ∨ ∀ g, x.ownBlock = some g → wr.heap.size ≤ g) : Dj ms G'' R kv pv := fun j hj v hv g e => by
  rcases h6 j hj v hv with h1 | h1
  · exact h.dj j hj v h1 g e
  · have hg := h1 g e
    refine ⟨?_, fun e2 => ?_, fun e2 => ?_⟩
    · have := h.qs.lt; omega
    · have := (h.qs.row.lt g e2).2; omega
    · have := (h.qs.plt g e2).2; omega

theorem ScI.q6 {w wr w6 : World} {R C bs : Nat} {ms : List ModR} {T : Nat → List OpR} {rk : Nat → Nat} {G : ByteArray → Option Value} {i : Nat} {U : List UnR} {acc : List OpR} {kv : Value} {pv : Option Nat} {G' : ByteArray → Option Value} (h : ScI w wr R C bs ms T rk G i U acc kv pv G') (hg : wr.grownBy w6 (some bs)) : QSet w6 R 0 R kv pv acc := by
  have hR := h.hR
  have hb := h.hb
  refine h.qs.same (fun q hq => ?_)
  rcases hq with rfl | hq | hq
  · exact hg.block _ h.qs.lt (fun e => by injection e with e; omega)
  · have := h.qs.row.lt q hq; exact hg.block q this.2 (fun e => by injection e with e; omega)
  · have := h.qs.plt q hq; exact hg.block q this.2 (fun e => by injection e with e; omega)

theorem ScI.step {w wr w6 w7 : World} {R C bs : Nat} {ms : List ModR} {T : Nat → List OpR} {rk : Nat → Nat} {G : ByteArray → Option Value} {i j : Nat} {U : List UnR} {acc : List OpR} {kv : Value} {pv : Option Nat} {G' G'' : ByteArray → Option Value} (h : ScI w wr R C bs ms T rk G i U acc kv pv G') (hj : rk j < rk i)
    (h3 : ScM w6 C bs ms T G'') (hg : wr.grownBy w6 (some bs)) (h5 : ∀ q, q < ms.length → rk j < rk q → G'' (atM ms q).n = G' (atM ms q).n) (h6 : ∀ q, q < ms.length → ∀ x, G'' (atM ms q).n = some (.agg #[x]) → G' (atM ms q).n = some (.agg #[x]) ∨ ∀ g, x.ownBlock = some g → wr.heap.size ≤ g)
    (hps : ∀ q, q < ms.length → ∀ x, G' (atM ms q).n = some x → G'' (atM ms q).n = some x) (hT : ∀ o ∈ T j, o ∈ allOps U) (hp : AddPostQ w6 R 0 R kv pv (insAll acc (T j)) w7) : ∃ kv7 pv7, ScI w w7 R C bs ms T rk G i U (insAll acc (T j)) kv7 pv7 G'' := by
  obtain ⟨kv7, pv7, q7, e7, k7, p7⟩ := hp
  have hR := h.hR
  have hb := h.hb
  have hRl := h.qs.lt
  have hz6 := hg.size
  have hzw := h.gr.size
  have hd := h.dj' (w6 := w6) (j := j) h6
  have nkb : ∀ q, q < R → kv.ownBlock ≠ some q := fun q hq e => by have := (h.qs.row.lt q e).1; omega
  have npb : ∀ q, q < R → pv ≠ some q := fun q hq e => by have := (h.qs.plt q e).1; omega
  refine ⟨kv7, pv7, q7, h3.eff hd e7 (by omega) (by omega) (nkb bs (by omega)) (npb bs (by omega)), ?_, ?_, ?_, ?_, fun q hq x hx => hps q hq x (h.ps q hq x hx), ?_, ?_, nd_insAll _ _ h.nd, hR, hb⟩
  · exact ⟨e7.os.trans (hg.os.trans h.gr.os), e7.tape.trans (hg.tape.trans h.gr.tape), e7.output.trans (hg.output.trans h.gr.output), by have := e7.size; omega, fun q hq hne => (e7.blk q (by omega) (by omega) (nkb q (by omega)) (npb q (by omega))).trans ((hg.block q (by omega) hne).trans (h.gr.block q hq hne))⟩
  · intro q hq v hv
    obtain ⟨v', e1, _, hb'⟩ := h3.at' q hq _ hv
    have e2 : v = v' := by simpa using e1
    subst e2
    exact Apt.step (hd q hq v hv) (fun g e => (hb' g e).2) k7 p7
  · exact fun q hq hr => (h5 q hq (by omega)).trans (h.hi q hq hr)
  · intro q hq x hx
    rcases h6 q hq x hx with h1 | h1
    · exact h.ol q hq x h1
    · exact Or.inr (fun g e => by have := h1 g e; omega)
  · have hs6 : w7.heap[w.heap.size]? = wr.heap[w.heap.size]? := (e7.blk w.heap.size (by omega) (by omega) (nkb _ hR) (npb _ hR)).trans (hg.block _ (by omega) (fun e => by injection e with e; omega))
    exact ⟨(World.cell?_of_block (w := wr) (w' := w7) (a := ⟨w.heap.size, 0, none⟩) hs6).trans h.rb.1, (World.frozen?_of_block (w := wr) (w' := w7) (a := ⟨w.heap.size, 0, none⟩) hs6).trans h.rb.2⟩
  · intro o ho
    rcases (mem_insAll _ _).1 ho with ho | ho
    · exact h.su o ho
    · exact hT o ho

theorem ScI.len {w wr : World} {R C bs : Nat} {ms : List ModR} {T : Nat → List OpR} {rk : Nat → Nat} {G : ByteArray → Option Value} {i : Nat} {U : List UnR} {acc : List OpR} {kv : Value} {pv : Option Nat} {G' : ByteArray → Option Value} (h : ScI w wr R C bs ms T rk G i U acc kv pv G') (hA : (allOps U).length ≤ 400000) : acc.length ≤ 400000 :=
  Nat.le_trans (ndu_len acc _ h.nd h.su) hA

theorem ScM.set {w : World} {C bs X : Nat} {ms : List ModR} {T : Nat → List OpR} {G : ByteArray → Option Value} (h : ScM w C bs ms T G) (hX : bs ≠ X) (hd : ∀ j, j < ms.length → ∀ v, G (atM ms j).n = some (.agg #[v]) → v.ownBlock ≠ some X) (V : Value) : ScM (w.setCell ⟨X, 0, none⟩ V) C bs ms T G := by
  have hz : (w.setCell ⟨X, 0, none⟩ V).heap.size = w.heap.size := by simp [World.setCell]
  have sm : ∀ g, g ≠ X → (w.setCell ⟨X, 0, none⟩ V).heap[g]? = w.heap[g]? := fun g hg => Below.heap_setCell _ _ _ _ (by simpa using hg)
  refine ⟨?_, fun j hj x hx => ?_, h.apt⟩
  · obtain ⟨m, M, hm, hM⟩ := h.mp
    exact ⟨m, M, hm.same (sm bs hX), hM⟩
  · obtain ⟨v, rfl, hv, hb⟩ := h.at' j hj x hx
    exact ⟨v, rfl, row_same hv (fun g e => sm g (fun e2 => hd j hj v hx (by rw [e, e2]))), fun g e => ⟨(hb g e).1, by rw [hz]; exact (hb g e).2⟩⟩

/-- The scope is filled: it is kept and handed back. -/
theorem ScI.fin {w wr : World} {R C bs : Nat} {ms : List ModR} {ks : List ByteArray} {T : Nat → List OpR} {rk : Nat → Nat} {G : ByteArray → Option Value} {i : Nat} {U : List UnR} {kv : Value} {pv : Option Nat} {G' : ByteArray → Option Value} (hN : NmsOk ms ks) (h : ScI w wr R C bs ms T rk G i U (T i) kv pv G') (hi : i < ms.length) (hn : ms.length ≤ 100) (hg : G (atM ms i).n = none) (hG : ScM w C bs ms T G) (hbC : bs < C) (hC : C ≤ w.heap.size) :
    ∃ w9, (Instr.mapUpdate 77 (.map (some bs)) (.string (atM ms i).n) (.agg #[kv])).run Tryz.prog (wr.alloc (.cells #[kv] 54)).drew = .ok () w9 ∧ w9.cell? ⟨w.heap.size, 0, none⟩ = some (.slice none 0 0) ∧ w9.frozen? ⟨w.heap.size, 0, none⟩ = false ∧ w9.cell? ⟨wr.heap.size, 0, none⟩ = some kv ∧ w.heap.size < wr.heap.size ∧
      ScPost w C bs ms T rk G i (.returned (.agg #[kv])) (w9.setCell ⟨w.heap.size, 0, none⟩ kv) := by
  have hR := h.hR
  have hb := h.hb
  have hRl := h.qs.lt
  have hzw := h.gr.size
  have hnb : w.heap.size < wr.heap.size := by omega
  have hsz : (atM ms i).n.size ≤ maxLen := hN.sz _ (List.mem_of_getElem? (hN.at' i hi))
  obtain ⟨W8, hW8⟩ : ∃ W8, W8 = (wr.alloc (.cells #[kv] 54)).drew := ⟨_, rfl⟩
  have hb8 : Below wr.heap.size wr W8 := by rw [hW8]; exact (below1 _ _).drew
  have hz8 : W8.heap.size = wr.heap.size + 1 := by rw [hW8]; simp
  have k8 : W8.cell? ⟨wr.heap.size, 0, none⟩ = some kv := by rw [hW8]; show (wr.alloc (.cells #[kv] 54)).cell? ⟨wr.heap.size, 0, none⟩ = some kv; simp [go_sem]
  rw [← hW8]
  have hs8 := h.sc.below hb8
  obtain ⟨m, hm, hml⟩ := hs8.cnt
  obtain ⟨w9, hrun, _, hk9⟩ := hm.update (ty := 77) Tryz.underlying77 (by unfold maxLen; omega) (t := (atM ms i).n) hsz (.agg #[kv])
  have hz9 := hk9.size
  have hGi : G' (atM ms i).n = none := (h.hi i hi (Nat.le_refl _)).trans hg
  have hkb : ∀ g, kv.ownBlock = some g → R ≤ g ∧ g < wr.heap.size := h.qs.row.lt
  have hput := ScM.put (v := kv) hN hs8 hi hGi hbC ((h.qs.row.base (by omega)).below hb8) (fun j hj v' hv' g e e2 => (h.dj j hj v' hv' g e2).2.1 e) (fun g e => by have := hkb g e; omega) hk9 (fun m' hm' hle => by
    obtain ⟨w9', hrun', h1, _⟩ := hm'.update (ty := 77) Tryz.underlying77 (by unfold maxLen; omega) (t := (atM ms i).n) hsz (.agg #[kv])
    rw [hrun] at hrun'
    injection hrun' with _ e
    rw [e]; exact h1)
  have c9 := fun (b : Nat) (hb : b < W8.heap.size) (hne : b ≠ bs) (q : Nat) => hk9.cell hb hne q
  have c8 := fun q => hb8.cell (p := ⟨w.heap.size, q, none⟩) hnb
  have dat : ∀ {a b : ByteArray}, a.data = b.data → a = b := fun {a b} e => by cases a; cases b; simp at e; rw [e]
  refine ⟨w9, hrun, (c9 _ (by omega) (by omega) 0).trans ((c8 0).trans h.rb.1), (hk9.frozen (by omega) (by omega) 0).trans ((hb8.frozen (p := ⟨w.heap.size, 0, none⟩) hnb).trans h.rb.2), (c9 _ (by omega) (by omega) 0).trans k8, hnb, ?_⟩
  refine ⟨kv, _, rfl, ?_, hput.set (by omega) ?_ kv, ?_, ?_, ?_, ?_⟩
  · exact if_pos rfl
  · intro j hj v hv e
    have hv' : (if (atM ms j).n.data = (atM ms i).n.data then some (.agg #[kv]) else G' (atM ms j).n) = some (.agg #[v]) := hv
    by_cases e1 : (atM ms j).n.data = (atM ms i).n.data
    · rw [if_pos e1] at hv'
      have e2 : kv = v := by simpa using hv'
      rw [← e2] at e
      have := (hkb _ e).1
      omega
    · rw [if_neg e1] at hv'
      rcases h.ol j hj v hv' with h1 | h1
      · obtain ⟨v', e3, _, hb'⟩ := hG.at' j hj _ h1
        have e4 : v = v' := by simpa using e3
        subst e4
        have := (hb' _ e).2
        omega
      · have := h1 _ e; omega
  · refine ⟨hk9.os.trans (hb8.os.trans h.gr.os), hk9.tape.trans (hb8.tape.trans h.gr.tape), hk9.output.trans (hb8.output.trans h.gr.output), by simp [World.setCell]; omega, fun q hq hne => ?_⟩
    rw [Below.heap_setCell _ _ _ _ (by simp; omega)]
    exact (hk9.block q (by omega) (fun e => hne (by rw [e]))).trans ((hb8.block q (by omega)).trans (h.gr.block q hq hne))
  · intro j hj x hx
    show (if (atM ms j).n.data = (atM ms i).n.data then some (.agg #[kv]) else G' (atM ms j).n) = _
    rw [if_neg (fun e => by have := hN.inj hj hi (dat e); subst this; rw [hg] at hx; cases hx)]
    exact h.ps j hj x hx
  · intro j hj hr
    show (if (atM ms j).n.data = (atM ms i).n.data then some (.agg #[kv]) else G' (atM ms j).n) = _
    rw [if_neg (fun e => by have := hN.inj hj hi (dat e); subst this; omega)]
    exact h.hi j hj (by omega)
  · intro j hj x hx
    have hx' : (if (atM ms j).n.data = (atM ms i).n.data then some (.agg #[kv]) else G' (atM ms j).n) = some (.agg #[x]) := hx
    by_cases e1 : (atM ms j).n.data = (atM ms i).n.data
    · rw [if_pos e1] at hx'
      have e2 : kv = x := by simpa using hx'
      subst e2
      exact Or.inr (fun g e => by have := (hkb g e).1; omega)
    · rw [if_neg e1] at hx'
      rcases h.ol j hj x hx' with h1 | h1
      · exact Or.inl h1
      · exact Or.inr (fun g e => by have := h1 g e; omega)

/-- The set is made, and the module's own operators lie in it. -/
theorem ScI.start {w W3 w5 : World} {C bs : Nat} {ms : List ModR} {T : Nat → List OpR} {rk : Nat → Nat} {G : ByteArray → Option Value} {i : Nat} {U : List UnR} {os : List OpR} {t : TypeId} (hG : ScM w C bs ms T G) (hb : Below w.heap.size w W3) (hz : w.heap.size < W3.heap.size) (hrb : W3.cell? ⟨w.heap.size, 0, none⟩ = some (.slice none 0 0) ∧ W3.frozen? ⟨w.heap.size, 0, none⟩ = false) (hu : ∀ o ∈ os, o ∈ allOps U)
    (hp : AddPostQ (W3.alloc (.cells #[.slice none 0 0, .map none] t)) W3.heap.size 0 W3.heap.size (.slice none 0 0) none (insAll [] os) w5) : ∃ kv pv, ScI w w5 W3.heap.size C bs ms T rk G i U (insAll [] os) kv pv G ∧ Below w.heap.size w w5 := by
  obtain ⟨kv7, pv7, q7, e7, k7, p7⟩ := hp
  have hbs := hG.lt
  have hb5 : Below W3.heap.size W3 w5 := (below1 _ _).trans (e7.below (B := W3.heap.size) (by simp) (Nat.le_refl _) (fun g e => by simp [Value.ownBlock] at e) (fun g e => by simp at e))
  have hbw : Below w.heap.size w w5 := hb.trans (hb5.mono (by omega))
  refine ⟨kv7, pv7, ⟨q7, hG.below hbw, grown_belN hbw _, ?_, fun _ _ _ => rfl, fun _ _ x hx => Or.inl hx, fun _ _ x hx => hx, ⟨(hb5.cell (p := ⟨w.heap.size, 0, none⟩) hz).trans hrb.1, (hb5.frozen (p := ⟨w.heap.size, 0, none⟩) hz).trans hrb.2⟩, ?_, nd_insAll _ _ (by simp), hz, hbs⟩, hbw⟩
  · intro j hj v hv g e
    obtain ⟨v', e1, _, hb'⟩ := hG.at' j hj _ hv
    have e2 : v = v' := by simpa using e1
    subst e2
    have := (hb' g e).2
    exact ⟨by omega, fun e2 => by have := (q7.row.lt g e2).1; omega, fun e2 => by have := (q7.plt g e2).1; omega⟩
  · intro o ho
    rcases (mem_insAll _ _).1 ho with ho | ho
    · cases ho
    · exact hu o ho
end Go.Proofs.YtokabkhnidlcnabGreatDoor

/-
  Walk: the scope of a name (scopeOf).
-/
namespace Go.Proofs.YtokabkhnidlcnabGreatDoor
set_option maxRecDepth 100000
set_option linter.unusedSimpArgs false
set_option linter.unusedVariables false
open Go.RowKit Go.Maps

theorem scBr_stop {nm : ByteArray → Nat} {T : Nat → List OpR} {acc : List OpR} (us : List ByteArray) (h : 500 < acc.length) : scBr nm T acc us = acc := by
  cases us with
  | nil => rfl
  | cons u r => simp only [scBr]; rw [if_pos h]

theorem scBr_go {nm : ByteArray → Nat} {T : Nat → List OpR} {acc : List OpR} {us : List ByteArray} {q : Nat} {u : ByteArray} (hu : us[q]? = some u) (h : ¬ 500 < acc.length) : scBr nm T acc (us.drop q) = scBr nm T (insAll acc (T (nm u))) (us.drop (q + 1)) := by
  have hq : q < us.length := (List.getElem?_eq_some_iff.1 hu).1
  have e : us.drop q = u :: us.drop (q + 1) := by
    rw [List.drop_eq_getElem_cons hq]
    congr 1
    rw [List.getElem?_eq_getElem hq] at hu
    injection hu
  rw [e]
  simp only [scBr]
  rw [if_neg h]

set_option maxHeartbeats 8000000 in
theorem scopeOf_any (B C P bs : Nat) (am : Option Addr) (cm : Nat) (ms : List ModR) (v1 : Value) (vs : List UvR) (U : List UnR) (kv : Value) (pv : Option Nat) (ks : List ByteArray) (T : Nat → List OpR) (rk : Nat → Nat) (hn : ms.length ≤ 100) (hN : NmsOk ms ks) (hR : RkE ms.length (nmF ms) U rk) (hT : BrE ms.length (nmF ms) U T) (hA : (allOps U).length ≤ 400000) (hF : ∀ o ∈ allOps U, Fine o) (hul : ∀ i, i < ms.length → (atU U i).us.length ≤ 20001) :
    ∀ (r i : Nat), i < ms.length → rk i < r → ∀ (w : World) (G : ByteArray → Option Value), ScH w B C P bs am cm ms v1 vs U kv pv ks → ScM w C bs ms T G →
    Calls Tryz.prog 23 #[.pointer (some ⟨P, 0, none⟩), .string (atM ms i).n] w (ScPost w C bs ms T rk G i) := by
  intro r
  induction r with
  | zero => intro i _ h; omega
  | succ r ih =>
    intro i hi hri w G hH hG
    have hPl := hH.pg.lt
    have c4 := hH.c4
    have hsz : (atM ms i).n.size ≤ maxLen := hN.sz _ (List.mem_of_getElem? (hN.at' i hi))
    obtain ⟨m, hm, hml⟩ := hG.cnt
    obtain ⟨W1, hW1⟩ : ∃ W1, W1 = w.alloc (.cells #[.slice none 0 0] 54) := ⟨_, rfl⟩
    have hb1 : Below w.heap.size w W1 := by rw [hW1]; exact below1 _ _
    have hz1 : W1.heap.size = w.heap.size + 1 := by rw [hW1]; simp
    have d4 := (hb1.cell (p := ⟨P, 4, none⟩) hPl).trans c4
    have hrun := (hm.same (hb1.block bs hm.lt)).look (ty := 77) Tryz.underlying77 (zeroT W1) hsz
    have r1 : W1.cell? ⟨w.heap.size, 0, none⟩ = some (.slice none 0 0) := by rw [hW1]; simp [go_sem]
    have r2 : W1.frozen? ⟨w.heap.size, 0, none⟩ = false := by rw [hW1]; simp [go_sem]
    have HW1 := hide hW1
    have HB1 := hide hb1
    obtain ⟨t, ht⟩ : ∃ t, t = (atM ms i).n := ⟨_, rfl⟩
    have HTT := hide ht
    rw [← ht] at hrun hsz
    cases hgt : G t with
    | some x =>
      obtain ⟨v, rfl, hv, hvb⟩ := hG.at' i hi x (by rw [← ht]; exact hgt)
      obtain ⟨a, c, rfl, _⟩ := id hv.ops
      rw [hgt] at hrun
      have hrun' : (Instr.lookup 77 (.map (some bs)) (.string t) true).run Tryz.prog W1 = .ok (.tuple #[.agg #[.slice a (T i).length c], .bool true]) W1 := hrun
      rw [hW1] at hrun'
      have HEND := hide (fun w' (hb : Below w.heap.size w w') => show ScPost w C bs ms T rk G i (.returned (.agg #[.slice a (T i).length c])) w' from ⟨_, G, rfl, by rw [← ht]; exact hgt, hG.below hb, grown_belN hb _, fun _ _ _ h => h, fun _ _ _ => rfl, fun _ _ _ h => Or.inl h⟩)
      rw [← ht]
      clear hrun hm hG hH ih hgt hv hvb ht hW1 hb1 hN hR hT hF hA hul d4 r1 r2 hz1
      go_enter Tryz.func23, Tryz.ntmps23
      go_wp2_with fail
      refine bodyPost_ret (v := .agg #[.slice a (T i).length c]) ?res rfl ((unhide HEND) _ ((below1 _ _).alloc (by simp) _))
      case res => simp [results, Tryz.results23, go_sem]
    | none =>
      rw [hgt] at hrun
      have hrun' : (Instr.lookup 77 (.map (some bs)) (.string t) true).run Tryz.prog W1 = .ok (.tuple #[.agg #[.slice none 0 0], .bool false]) W1 := hrun
      rw [hW1] at hrun'
      have hgi : G (atM ms i).n = none := by rw [← ht]; exact hgt
      obtain ⟨W2, hW2⟩ : ∃ W2, W2 = (w.alloc (.cells #[.slice none 0 0] 54)).alloc (.cells #[.slice none 0 0] 54) := ⟨_, rfl⟩
      have hb2 : Below w.heap.size w W2 := by rw [hW2]; exact (below1 _ _).alloc (by simp) _
      have hz2 : W2.heap.size = w.heap.size + 2 := by rw [hW2]; simp
      have s1 : W2.cell? ⟨w.heap.size, 0, none⟩ = some (.slice none 0 0) := by rw [hW2]; simp [go_sem]
      have s2 : W2.frozen? ⟨w.heap.size, 0, none⟩ = false := by rw [hW2]; simp [go_sem]
      have hH2 := hH.keep (grown_belN hb2 (some bs))
      have hiv : i < vs.length := by have := hH.pg.ln; omega
      have HU := hide (unitOf_any P B C am cm ms.length v1 vs U kv pv ks t i W2 hH2.pg hi hH2.nm hsz (by rw [ht]; exact hN.idx hi))
      obtain ⟨⟨hst, hot, hbb⟩, hvl, hol⟩ := hH2.pg.uns.2 i hiv
      obtain ⟨us, hus⟩ : ∃ us, us = (atU U i).us := ⟨_, rfl⟩
      obtain ⟨os, hos⟩ : ∃ os, os = (atU U i).os := ⟨_, rfl⟩
      obtain ⟨au, cu, hvu, hau⟩ := hst
      obtain ⟨ao, co, hvo, hao⟩ := id hot
      rw [hvu, hvo] at HU
      rw [hvo] at hot hol
      rw [← hus] at HU hvu
      rw [← hos] at HU hot hol hvo
      have hC := hH.hC
      have hBC := hH.hBC
      have hbsB := hH.hbs
      have HOS := hide (show ∀ o ∈ os, o ∈ allOps U from fun o ho => List.mem_flatMap.2 ⟨_, atU_mem (i := i) (by have := hH.pg.uns.1; omega), by rw [← hos]; exact ho⟩)
      have hosl : os.length ≤ 400000 := by
        have h1 : ∀ (l : List UnR) (u : UnR), u ∈ l → u.os.length ≤ (allOps l).length := by
          intro l
          induction l with
          | nil => intro u h; cases h
          | cons x r ih =>
            intro u h
            show _ ≤ (x.os ++ allOps r).length
            rw [List.length_append]
            rcases List.mem_cons.1 h with rfl | h
            · omega
            · have := ih u h; omega
        have := h1 U _ (atU_mem (i := i) (by have := hH.pg.uns.1; omega))
        rw [← hos] at this
        omega
      obtain ⟨bd, hbd⟩ : ∃ bd, bd = (atV vs i).b := ⟨_, rfl⟩
      rw [← hbd] at HU
      have HADD := hide (fun (w3 : World) (hb3 : Below W2.heap.size W2 w3) => show Calls Tryz.prog 43 #[.pointer (some ⟨w3.heap.size + 1, 0, none⟩), .slice ao os.length co] ((w3.alloc (.cells #[.slice au us.length cu, .slice ao os.length co, .string bd] 40)).alloc (.cells #[.slice none 0 0, .map none] 92)) (fun e w' => e = .returned (.tuple #[]) ∧ ∃ kv0 pv0, ScI w w' (w3.heap.size + 1) C bs ms T rk G i U (insAll [] os) kv0 pv0 G ∧ w'.cell? ⟨w3.heap.size, 0, none⟩ = some (.slice au us.length cu)) from (by
        have hz3 := hb3.size
        obtain ⟨W3, hW3⟩ : ∃ W3, W3 = w3.alloc (.cells #[.slice au us.length cu, .slice ao os.length co, .string bd] 40) := ⟨_, rfl⟩
        have hzz : W3.heap.size = w3.heap.size + 1 := by rw [hW3]; simp
        have hbW : Below w3.heap.size w3 W3 := by rw [hW3]; exact below1 _ _
        have ku : W3.cell? ⟨w3.heap.size, 0, none⟩ = some (.slice au us.length cu) := by rw [hW3]; simp [go_sem]
        rw [← hW3, ← hzz]
        have hbw : Below w.heap.size w W3 := (hb2.trans (hb3.mono (by omega))).trans (hbW.mono (by omega))
        refine (addAllQ_any W3.heap.size 0 W3.heap.size _ none [] (.slice ao os.length co) os (W3.alloc (.cells #[.slice none 0 0, .map none] 92)) (QSet.new W3 _ _) (fun x hx => hF x ((unhide HOS) x hx)) (by simp; omega) (by simp) (((hot.below hb3).below hbW).below (below1 _ _)) (fun g e => ⟨by have := hol g e; omega, by simp [Value.ownBlock], by simp⟩)).mono ?_
        rintro e w5 ⟨rfl, hp⟩
        have hcs := ((hb3.cell (p := ⟨w.heap.size, 0, none⟩) (by show w.heap.size < W2.heap.size; omega)).trans s1)
        have hfs := ((hb3.frozen (p := ⟨w.heap.size, 0, none⟩) (by show w.heap.size < W2.heap.size; omega)).trans s2)
        have hp' := hp
        obtain ⟨kv0, pv0, hI, _⟩ := ScI.start (U := U) (rk := rk) (i := i) hG hbw (by omega) ⟨(hbW.cell (p := ⟨w.heap.size, 0, none⟩) (by show w.heap.size < w3.heap.size; omega)).trans hcs, (hbW.frozen (p := ⟨w.heap.size, 0, none⟩) (by show w.heap.size < w3.heap.size; omega)).trans hfs⟩ (unhide HOS) hp
        obtain ⟨_, _, _, e7, _, _⟩ := hp'
        refine ⟨rfl, kv0, pv0, hI, ?_⟩
        have hb5 : Below W3.heap.size W3 w5 := (below1 _ _).trans (e7.below (B := W3.heap.size) (by simp) (Nat.le_refl _) (fun g e => by simp [Value.ownBlock] at e) (fun g e => by simp at e))
        exact (hb5.cell (p := ⟨w3.heap.size, 0, none⟩) (by show w3.heap.size < W3.heap.size; omega)).trans ku))
      have HROW := hide (fun (wr : World) (hHr : ScH wr B C P bs am cm ms v1 vs U kv pv ks) => show StrsAt wr (.slice au us.length cu) us from (by
        have := (hHr.pg.uns.2 i hiv).1.1
        rw [hvu, ← hus] at this
        exact this))
      have HW2 := hide hW2
      have HH := hide hH
      have HG := hide hG
      have HGI := hide hgi
      have HIH := hide ih
      have HN := hide hN
      have HRK := hide (show ∀ u ∈ us, nmF ms u < ms.length ∧ rk (nmF ms u) < rk i from fun u hu => hR.1 i hi u (by rw [← hus]; exact hu))
      have HTS := hide (fun j (hj : j < ms.length) => hT.sub hR (by have := hH.pg.uns.1; have := hH.pg.ln; omega) (rk j + 1) j hj (by omega))
      have HND := hide (fun j (hj : j < ms.length) => hT.nd hj)
      have HTI0 := hide (show scBr (nmF ms) T (insAll [] os) (us.drop 0) = T i by rw [hT i hi, hos, hus]; rfl)
      have HF := hide hF
      have hP' := hH.hne
      have husl : us.length ≤ 20001 := by rw [hus]; exact hul i hi
      rw [← ht]
      clear hrun hm hG hH ih hgt ht hW1 hb1 hN hR hT hF hul d4 r1 r2 hz1 hgi hW2 hH2 hvu hvo hau hao hus hos hbd hbb hvl hot hol
      go_enter Tryz.func23, Tryz.ntmps23
      go_wp2_with (first | (go_at_call 42; rw [← unhide HW2]; (with_reducible refine (unhide HU).mono ?_); rintro e w3 ⟨rfl, hb3⟩; have HA3 := hide ((unhide HADD) w3 hb3); have hz3 : w.heap.size + 2 ≤ w3.heap.size := (by have := hb3.size; omega); clear hb3 HU HADD) | (go_at_call 43; (with_reducible refine (unhide HA3).mono ?_); rintro e w5 ⟨rfl, kv0, pv0, hI5, ku5⟩; have HI5 := hide hI5; clear hI5 HA3))
      go_loopw [32] (fun x wr => ∃ (q : Nat) (acc : List OpR) (kv' : Value) (pv' : Option Nat) (G' : ByteArray → Option Value), q ≤ us.length ∧ x = .int .i64 (q : Int) ∧ Hid (ScI w wr (w3.heap.size + 1) C bs ms T rk G i U acc kv' pv' G') ∧ Hid (scBr (nmF ms) T acc (us.drop q) = T i)) (fun x _ => us.length - (intOf x).toNat)
      case atStart => exact ⟨0, _, kv0, pv0, G, Nat.zero_le _, rfl, HI5, HTI0⟩
      case round =>
        clear HI5 HTI0 ku5
        obtain ⟨q, acc, kv', pv', G', hq, rfl, HI, HTI⟩ := hrel
        obtain ⟨ak, ck, rfl⟩ : ∃ a c, kv' = .slice a acc.length c := rowS_slice (unhide HI).qs.row
        have hal := (unhide HI).len hA
        by_cases hlt : q < us.length
        · have hltI : (q : Int) < (us.length : Int) := by omega
          have q0 := (unhide HI).qs.c0
          obtain ⟨u, hu⟩ : ∃ u, us[q]? = some u := ⟨_, List.getElem?_eq_getElem hlt⟩
          have hHr := (unhide HH).keep (unhide HI).gr
          obtain ⟨gu, cu', hge, hgl, hgc⟩ := ((unhide HROW) wr hHr).lt (by omega)
          obtain ⟨rfl, rfl⟩ : au = some ⟨gu, 0, none⟩ ∧ cu = cu' := by injection hge with x _ y; exact ⟨x, y⟩
          have hc := hgc q u hu
          by_cases hbig : 500 < acc.length
          · have hbigI : (500 : Int) < (acc.length : Int) := by omega
            obtain rfl : acc = T i := by have := unhide HTI; rwa [scBr_stop _ hbig] at this
            clear hge hgc hHr hu
            obtain ⟨w9, hrun9, x0, x1, x2, x3, hpost⟩ := (unhide HI).fin (unhide HN) hi hn (unhide HGI) (unhide HG) (by omega) hC
            rw [← unhide HTT] at hrun9
            have HPOST := hide hpost
            have e4 := ((unhide HH).keep (unhide HI).gr).c4
            have hPr : P < wr.heap.size := by omega
            obtain ⟨W8, hW8⟩ : ∃ W8, W8 = wr.alloc (.cells #[.slice ak (T i).length ck] 54) := ⟨_, rfl⟩
            have y4 : W8.cell? ⟨P, 4, none⟩ = some (.map (some bs)) := by rw [hW8]; exact ((below1 wr _).cell (p := ⟨P, 4, none⟩) hPr).trans e4
            have y0 : W8.cell? ⟨wr.heap.size, 0, none⟩ = some (.slice ak (T i).length ck) := by rw [hW8]; simp [go_sem]
            rw [← hW8] at hrun9
            have HW8 := hide hW8
            clear hW8 hpost
            go_wp2_with fail
            rw [← unhide HW8]
            go_region
            go_wp2_with fail
            refine bodyPost_ret (v := .agg #[.slice ak (T i).length ck]) ?res rfl (unhide HPOST)
            case res => simp [results, Tryz.results23, go_sem, x0]
          · have hbigI : ¬ (500 : Int) < (acc.length : Int) := by omega
            obtain ⟨hj, hrj⟩ := (unhide HRK) u (List.mem_of_getElem? hu)
            obtain ⟨j, hje⟩ : ∃ j, j = nmF ms u := ⟨_, rfl⟩
            rw [← hje] at hj hrj
            have hnu : (atM ms j).n = u := by rw [hje]; exact (nmF_spec ms u).1 (by rw [← hje]; exact hj)
            have HX := hide ((unhide HIH) j hj (by omega) wr G' hHr (unhide HI).sc)
            rw [hnu] at HX
            have HNX := hide (show scBr (nmF ms) T (insAll acc (T j)) (us.drop (q + 1)) = T i by rw [hje, ← scBr_go hu hbig]; exact unhide HTI)
            have HNU := hide hnu
            have hzr : w3.heap.size + 1 < wr.heap.size := (unhide HI).qs.lt
            have hTl : (T j).length ≤ 1048576 - acc.length := by
              have h1 := (unhide HTS) j hj
              have h2 := ndu_len (T j) (allOps U) ((unhide HND) j hj) h1
              omega
            clear hge hgc hHr hu hnu hje HTI
            go_wp2_with (first | (go_at_call 23; (with_reducible refine (unhide HX).mono ?_); rintro e w6 ⟨v, G'', rfl, g1, g2, g3, gp, g4, g5⟩; obtain ⟨v', hv', hov0, _⟩ := g2.at' j hj _ g1; have hov := hov0.ops; clear hov0; obtain rfl : v = v' := (by simpa using hv'); have hap : Apt v (w3.heap.size + 1) (.slice ak acc.length ck) pv' := ((unhide HI).dj' (w6 := w6) (j := j) g5) j hj v g1; have HADD2 := hide (addAllQ_any (w3.heap.size + 1) 0 (w3.heap.size + 1) _ pv' acc v (T j) w6 ((unhide HI).q6 g3) (fun x hx => (unhide HF) x ((unhide HTS) j hj x hx)) (by omega) (by have := g3.size; omega) hov hap); have HST := hide (fun w7 hp => (unhide HI).step (w7 := w7) hrj g2 g3 g4 g5 gp ((unhide HTS) j hj) hp); obtain ⟨a6, c6, rfl, _⟩ := hov; clear g1 g2 g3 g4 g5 gp hv' hap HX))
            rw [field_ops]
            go_wp2_with (first | (go_at_call 43; (with_reducible refine (unhide HADD2).mono ?_); rintro e w7 ⟨rfl, hp7⟩; obtain ⟨kv7, pv7, hI7⟩ := (unhide HST) w7 hp7; have HI7 := hide hI7; clear hI7 hp7 HADD2 HST))
            exact ⟨⟨q + 1, _, kv7, pv7, G'', by omega, by go_num, HI7, HNX⟩, by simp [intOf]; omega⟩
        · have hltI : ¬ (q : Int) < (us.length : Int) := by omega
          obtain rfl : acc = T i := by have := unhide HTI; rwa [List.drop_eq_nil_of_le (by omega)] at this
          have q0 := (unhide HI).qs.c0
          obtain ⟨w9, hrun9, x0, x1, x2, x3, hpost⟩ := (unhide HI).fin (unhide HN) hi hn (unhide HGI) (unhide HG) (by omega) hC
          rw [← unhide HTT] at hrun9
          have HPOST := hide hpost
          have e4 := ((unhide HH).keep (unhide HI).gr).c4
          have hPr : P < wr.heap.size := by omega
          obtain ⟨W8, hW8⟩ : ∃ W8, W8 = wr.alloc (.cells #[.slice ak (T i).length ck] 54) := ⟨_, rfl⟩
          have y4 : W8.cell? ⟨P, 4, none⟩ = some (.map (some bs)) := by rw [hW8]; exact ((below1 wr _).cell (p := ⟨P, 4, none⟩) hPr).trans e4
          have y0 : W8.cell? ⟨wr.heap.size, 0, none⟩ = some (.slice ak (T i).length ck) := by rw [hW8]; simp [go_sem]
          rw [← hW8] at hrun9
          have HW8 := hide hW8
          clear hW8 hpost
          go_wp2_with fail
          rw [← unhide HW8]
          go_region
          go_wp2_with fail
          refine bodyPost_ret (v := .agg #[.slice ak (T i).length ck]) ?res rfl (unhide HPOST)
          case res => simp [results, Tryz.results23, go_sem, x0]
end Go.Proofs.YtokabkhnidlcnabGreatDoor

/-
  Walks: the index of a table.
-/
namespace Go.Proofs.YtokabkhnidlcnabGreatDoor
set_option maxRecDepth 100000
open Go.RowKit Go.Maps

set_option maxHeartbeats 400000 in
theorem has_any (bo bs n : Nat) (D : DataW Unit) (t : ByteArray) (kd : Int) (w : World) (hown : w.ownsMap Tryz.prog 131 opElem bo n D) (ht : t.size ≤ maxLen) (hk : (Lit.int .i64 kd).wf = true) :
    Calls Tryz.prog 85 #[.agg #[.map (some bo), .map (some bs)], .string t, .int .i64 kd] w fun e w' => e = .returned (.bool (Maps.has D (klO t kd))) ∧ Below w.heap.size w w' := by
  go_enter Tryz.func85, Tryz.ntmps85
  go_wp2_with (first | (at_lookup; refine wpList_lookup_own_ok _ rfl _ _ 112 rfl 131 70 lawK Tryz.underlying112 opElem (zeroOp _) (opDat ⟨#[]⟩ 0 0 0) [] (opElem_mk _ _ _ _) bo n D rfl (hown.alloc _) _ _ rfl (keyK ht hk) ?_; intro v ps hv; obtain ⟨s', k', l', sd', rfl⟩ := opElem_inv hv))
  go_ret
  exact ⟨rfl, (below1 _ _).alloc (by simp) _⟩

/-- The index of the first k operators. -/
structure Idx (w : World) (bo bs : Nat) (xs : List OpR) (k : Nat) : Prop where
  ops : ∃ D : DataW Unit, w.ownsMap Tryz.prog 131 opElem bo k D ∧ ∀ (s : ByteArray) (kd : Int), s.size ≤ maxLen → (Lit.int .i64 kd).wf = true → (Maps.has D (klO s kd) = true ↔ ∃ j, j < k ∧ (atO xs j).s = s ∧ (atO xs j).k = kd) ∧ (Maps.has D (klO s kd) = true → ∃ j, j < k ∧ (atO xs j).s = s ∧ (atO xs j).k = kd ∧ D.atKey (klO s kd) (opDat ⟨#[]⟩ 0 0 0) = opDat (atO xs j).s (atO xs j).k (atO xs j).l (atO xs j).sd)
  srts : ∃ D : DataW Unit, w.ownsMap Tryz.prog 3 (plainElem Tryz.prog 3) bs k D ∧ ∀ l : Int, (Lit.int .i64 l).wf = true → (Maps.has D (.int .i64 l) = true ↔ ∃ j, j < k ∧ (atO xs j).l = l) ∧
    ∀ c : Int, D.atKey (.int .i64 l) (.lit (.int .i64 0)) = .lit (.int .i64 c) → Maps.has D (.int .i64 l) = true → ∃ j, j < k ∧ (atO xs j).l = l ∧ srt (atO xs j).k (atO xs j).sd = c
  ne : bo ≠ bs

theorem Idx.kept {w w' : World} {bo bs k : Nat} {xs : List OpR} (h : Idx w bo bs xs k) (hb : Below w.heap.size w w') : Idx w' bo bs xs k := by
  obtain ⟨⟨D, h1, h2⟩, ⟨E, h3, h4⟩, h5⟩ := h
  have hg : w.grownBy w' none := ⟨hb.os, hb.tape, hb.output, hb.size, fun i hi _ => hb.block i hi⟩
  exact ⟨⟨D, h1.kept hg (by simp), h2⟩, ⟨E, h3.kept hg (by simp), h4⟩, h5⟩

theorem wfK1 : (Lit.int .i64 1).wf = true := by decide
theorem wfK2 : (Lit.int .i64 2).wf = true := by decide
theorem wfK3 : (Lit.int .i64 3).wf = true := by decide

theorem ok_kind {o : OpR} (h : o.ok = true) : o.k = 1 ∨ o.k = 2 ∨ o.k = 3 := by
  obtain ⟨_, h⟩ := ok_shape _ _ _ _ h
  omega

set_option maxHeartbeats 1000000 in
theorem hasRival_any (bo bs k : Nat) (xs : List OpR) (w : World) (hi : Idx w bo bs xs k) (hok : okTo xs (k + 1)) (hs : (atO xs k).s.size ≤ maxLen) :
    Calls Tryz.prog 74 #[.agg #[.map (some bo), .map (some bs)], .agg #[.string (atO xs k).s, .int .i64 (atO xs k).k, .int .i64 (atO xs k).l, .int .i64 (atO xs k).sd]] w fun e w' => (∃ v, e = .returned (.bool v) ∧ (v = true ↔ ∃ j, j < k ∧ cl 3 (atO xs k) (atO xs j))) ∧ Below w.heap.size w w' := by
  obtain ⟨⟨D, hown, hD⟩, _, _⟩ := hi
  have h1 := (hD _ _ hs wfK1).1
  have h2 := (hD _ _ hs wfK2).1
  have h3 := (hD _ _ hs wfK3).1
  have hkk := ok_kind (hok k (by omega))
  have key1 : (atO xs k).k = 1 → (Maps.has D (klO (atO xs k).s 1) = true ↔ ∃ j, j < k ∧ cl 3 (atO xs k) (atO xs j)) := by
    intro hk
    rw [h1]
    simp only [cl, if_true, hk, true_iff]
    exact ⟨fun ⟨j, a, b, c⟩ => ⟨j, a, b.symm, c⟩, fun ⟨j, a, b, c⟩ => ⟨j, a, b.symm, c⟩⟩
  have key2 : (atO xs k).k ≠ 1 → ((Maps.has D (klO (atO xs k).s 2) = true ∨ Maps.has D (klO (atO xs k).s 3) = true) ↔ ∃ j, j < k ∧ cl 3 (atO xs k) (atO xs j)) := by
    intro hk
    rw [h2, h3]
    simp only [cl, if_true, hk, false_iff]
    constructor
    · rintro (⟨j, a, b, c⟩ | ⟨j, a, b, c⟩)
      · exact ⟨j, a, b.symm, by omega⟩
      · exact ⟨j, a, b.symm, by omega⟩
    · rintro ⟨j, a, b, c⟩
      have := ok_kind (hok j (by omega))
      rcases this with e | e | e
      · exact absurd e c
      · exact Or.inl ⟨j, a, b.symm, e⟩
      · exact Or.inr ⟨j, a, b.symm, e⟩
  have K1 := hide key1
  have K2 := hide key2
  clear key1 key2 h1 h2 h3 hD hok
  by_cases hk : (atO xs k).k = 1
  · have hk' : ((atO xs k).k == 1) = true := by simpa using hk
    have HK := hide hk
    clear hk hkk
    go_enter Tryz.func74, Tryz.ntmps74
    go_wp2_with (first | (go_at_call 85; refine (has_any bo bs k D _ _ _ ((hown.alloc _).alloc _) hs (by decide)).mono ?_; rintro e w1 ⟨rfl, hb1⟩))
    go_ret
    exact ⟨⟨_, rfl, (unhide K1) (unhide HK)⟩, ((below1 _ _).alloc (by simp) _).trans (hb1.mono (by simp; omega))⟩
  · have hk' : ((atO xs k).k == 1) = false := by simpa using hk
    have HK := hide hk
    clear hk hkk
    cases hh : Maps.has D (klO (atO xs k).s 2)
    · have HH := hide hh
      go_enter Tryz.func74, Tryz.ntmps74
      go_wp2_with fail
      refine (has_any bo bs k D _ _ _ ((hown.alloc _).alloc _) hs (by decide)).mono ?_
      rintro e w1 ⟨rfl, hb1⟩
      obtain ⟨hc1, hf1⟩ := bcell hb1
      have hown1 := ((hown.alloc (.cells #[.map (some bo), .map (some bs)] 115)).alloc (.cells #[.string (atO xs k).s, .int .i64 (atO xs k).k, .int .i64 (atO xs k).l, .int .i64 (atO xs k).sd] 70)).kept (w' := w1) (row := none) ⟨hb1.os, hb1.tape, hb1.output, hb1.size, fun i hi _ => hb1.block i hi⟩ (by simp)
      have HO := hide hown1
      clear hown1
      go_wp2_with fail
      refine (has_any bo bs k D _ _ _ (unhide HO) hs (by decide)).mono ?_
      rintro e w2 ⟨rfl, hb2⟩
      go_wp2_with fail
      go_ret
      refine ⟨⟨_, rfl, ?_⟩, (((below1 _ _).alloc (by simp) _).trans (hb1.mono (by simp; omega))).trans (hb2.mono (by have := hb1.size; simp at this; omega))⟩
      have := (unhide K2) (unhide HK)
      rw [unhide HH] at this
      simpa using this
    · have HH := hide hh
      go_enter Tryz.func74, Tryz.ntmps74
      go_wp2_with fail
      refine (has_any bo bs k D _ _ _ ((hown.alloc _).alloc _) hs (by decide)).mono ?_
      rintro e w1 ⟨rfl, hb1⟩
      go_wp2_with fail
      go_ret
      refine ⟨⟨_, rfl, ?_⟩, ((below1 _ _).alloc (by simp) _).trans (hb1.mono (by simp; omega))⟩
      have := (unhide K2) (unhide HK)
      rw [unhide HH] at this
      simpa using this
end Go.Proofs.YtokabkhnidlcnabGreatDoor
