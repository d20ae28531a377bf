import Derived.Test.YtokabkhnidlcnacGreatDoorM10
import Derived.Test.YtokabkhnidlcnacGreatDoorM28
import Derived.Test.YtokabkhnidlcnacGreatDoorM43
namespace Go.Proofs.YtokabkhnidlcnacGreatDoor
set_option linter.unusedSimpArgs false
set_option linter.unusedVariables false
set_option maxHeartbeats 16000000
set_option maxRecDepth 100000
open Go.RowKit Go.Maps
theorem zQk (w:World):(zeroValue 61).run Tryz.prog w = .ok (.agg #[.slice none 0 0]) w:=by kernel_rfl
theorem zML (x:Value) (w:World):(Instr.field 61 (.agg #[x]) 0).run Tryz.prog w = .ok x w:=by kernel_rfl
theorem zBN.same {w w':World} {b o B:Nat} {kv:Value} {pv:Option Nat} {ks:List ByteArray} (h:zBN w b o B kv pv ks) (hs:∀ i,i = b \/ kv.ownBlock = some i \/ pv = some i -> w'.heap[i]? = w.heap[i]?):zBN w' b o B kv pv ks:=by
 have hc:=fun q=>World.cell?_of_block (w:=w) (w':=w') (a:=⟨b,q,none⟩) (hs b (Or.inl rfl))
 have hf:=fun q=>World.frozen?_of_block (w:=w) (w':=w') (a:=⟨b,q,none⟩) (hs b (Or.inl rfl))
 exact ⟨(hc o).trans h.c0,(hc _).trans h.c1,(hf o).trans h.f0,(hf _).trans h.f1,zBJ h.row (fun g e=>hs g (Or.inr (Or.inl e))),h.mp.imp id (fun ⟨bm,h1,h2,h3⟩=>⟨bm,h1,h2,h3.same (hs bm (Or.inr (Or.inr h1)))⟩),h.nk,h.np,h.nn⟩
theorem zA4.same {w w':World} {b n:Nat} {G:OpR -> Option Value} (h:zA4 w b n G) (hs:w'.heap[b]? = w.heap[b]?):zA4 w' b n G:=by
 obtain ⟨D,⟨es,clock,hb,F,h1,h2⟩,h⟩:=h
 exact ⟨D,⟨es,clock,hs.trans hb,F,h1,h2⟩,h⟩
theorem zCM.same {w w':World} {b o B:Nat} {kv:Value} {pv:Option Nat} {ks:List OpR} (h:zCM w b o B kv pv ks) (hs:∀ i,i = b \/ kv.ownBlock = some i \/ pv = some i -> w'.heap[i]? = w.heap[i]?):zCM w' b o B kv pv ks:=by
 have hc:=fun q=>World.cell?_of_block (w:=w) (w':=w') (a:=⟨b,q,none⟩) (hs b (Or.inl rfl))
 have hf:=fun q=>World.frozen?_of_block (w:=w) (w':=w') (a:=⟨b,q,none⟩) (hs b (Or.inl rfl))
 exact ⟨(hc o).trans h.c0,(hc _).trans h.c1,(hf o).trans h.f0,(hf _).trans h.f1,zBJ h.row (fun g e=>hs g (Or.inr (Or.inl e))),h.mp.imp id (fun ⟨bm,h1,h2,h3⟩=>⟨bm,h1,h2,h3.same (hs bm (Or.inr (Or.inr h1)))⟩),h.nk,h.np,h.nn⟩
def zKp (w:World) (C bs:Nat) (ms:List zJ) (T:Nat -> List OpR) (rk:Nat -> Nat) (G:ByteArray -> Option Value) (i:Nat) (e:Ending) (w':World):Prop:=
 ∃ v G',e = .returned (.agg #[v]) /\ G' (atM ms i).n = some (.agg #[v]) /\ ScM w' C bs ms T G' /\ w.grownBy w' (some bs) /\ (∀ j,j < ms.length -> ∀ x,G (atM ms j).n = some x -> G' (atM ms j).n = some x) /\ (∀ j,j < ms.length -> rk i < rk j -> G' (atM ms j).n = G (atM ms j).n) /\ ∀ j,j < ms.length -> ∀ x,G' (atM ms j).n = some (.agg #[x]) -> G (atM ms j).n = some (.agg #[x]) \/ ∀ g,x.ownBlock = some g -> w.heap.size <= g
structure ScH (w:World) (B C P bs:Nat) (am:Option Addr) (cm:Nat) (ms:List zJ) (v1:Value) (vs:List UvR) (U:List UnR) (kv:Value) (pv:Option Nat) (ks:List ByteArray):Prop where
 pg:PgC w B C P am cm ms.length v1 vs U
 nm:zBN w P 2 C kv pv ks
 c4:w.cell? ⟨P,4,none⟩ = some (.map (some bs))
 hC:C <= w.heap.size
 hP:P < B
 hbs:bs < B
 hBC:B <= C
 hne:bs ≠ P
theorem ScH.keep {w w':World} {B C P bs:Nat} {am:Option Addr} {cm:Nat} {ms:List zJ} {v1:Value} {vs:List UvR} {U:List UnR} {kv:Value} {pv:Option Nat} {ks:List ByteArray} (h:ScH w B C P bs am cm ms v1 vs U kv pv ks) (hg:w.grownBy w' (some bs)):ScH w' B C P bs am cm ms v1 vs U kv pv ks:=by
 have hC:=h.hC
 have hbs:=h.hbs
 have hBC:=h.hBC
 have hPl:=h.pg.lt
 have hz:=hg.size
 have sm:∀ i,i < w.heap.size -> i ≠ bs -> w'.heap[i]? = w.heap[i]?:=fun i h1 h2=>hg.block i h1 (fun e=>h2 (by injection e))
 have kc:=fun q=>World.cell?_of_block (w:=w) (w':=w') (a:=⟨P,q,none⟩) (sm P hPl (Ne.symm h.hne))
 exact ⟨h.pg.keep hz (fun i h1 h2=>sm i (by omega) (by omega)) (kc 0) (kc 1),h.nm.same (fun i hi=>by
  rcases hi with rfl | hi | hi
  ·exact sm _ hPl (Ne.symm h.hne)
  ·have:=h.nm.row.lt i hi; exact sm i this.2 (by omega)
  ·have:=h.nm.plt i hi; exact sm i this.2 (by omega)),(kc 4).trans h.c4,by omega,h.hP,h.hbs,h.hBC,h.hne⟩
structure ScI (w wr:World) (R C bs:Nat) (ms:List zJ) (T:Nat -> List OpR) (rk:Nat -> Nat) (G:ByteArray -> Option Value) (i:Nat) (U:List UnR) (acc:List OpR) (kv:Value) (pv:Option Nat) (G':ByteArray -> Option Value):Prop where
 qs:zCM wr R 0 R kv pv acc
 sc:ScM wr C bs ms T G'
 gr:w.grownBy wr (some bs)
 dj:Dj ms G' R kv pv
 hi:∀ j,j < ms.length -> rk i <= rk j -> G' (atM ms j).n = G (atM ms j).n
 ol:∀ j,j < ms.length -> ∀ x,G' (atM ms j).n = some (.agg #[x]) -> G (atM ms j).n = some (.agg #[x]) \/ ∀ g,x.ownBlock = some g -> w.heap.size < g
 ps:∀ j,j < ms.length -> ∀ x,G (atM ms j).n = some x -> G' (atM ms j).n = some x
 rb:wr.cell? ⟨w.heap.size,0,none⟩ = some (.slice none 0 0) /\ wr.frozen? ⟨w.heap.size,0,none⟩ = false
 su:∀ o ∈ acc,o ∈ ZE U
 nd:acc.Nodup
 hR:w.heap.size < R
 hb:bs < w.heap.size
theorem ScI.dj' {w wr w6:World} {R C bs:Nat} {ms:List zJ} {T:Nat -> List OpR} {rk:Nat -> Nat} {G:ByteArray -> Option Value} {i j:Nat} {U:List UnR} {acc:List OpR} {kv:Value} {pv:Option Nat} {G' G'':ByteArray -> Option Value} (h:ScI w wr R C bs ms T rk G i U acc kv pv G')
  (h6:∀ j,j < ms.length -> ∀ x,G'' (atM ms j).n = some (.agg #[x]) -> G' (atM ms j).n = some (.agg #[x]) \/ ∀ g,x.ownBlock = some g -> wr.heap.size <= g):Dj ms G'' R kv pv:=fun j hj v hv g e=>by
 rcases h6 j hj v hv with h1 | h1
 ·exact h.dj j hj v h1 g e
 ·have hg:=h1 g e
  refine ⟨?_,fun e2=>?_,fun e2=>?_⟩
  ·have:=h.qs.lt; omega
  ·have:=(h.qs.row.lt g e2).2; omega
  ·have:=(h.qs.plt g e2).2; omega
theorem ScI.q6 {w wr w6:World} {R C bs:Nat} {ms:List zJ} {T:Nat -> List OpR} {rk:Nat -> Nat} {G:ByteArray -> Option Value} {i:Nat} {U:List UnR} {acc:List OpR} {kv:Value} {pv:Option Nat} {G':ByteArray -> Option Value} (h:ScI w wr R C bs ms T rk G i U acc kv pv G') (hg:wr.grownBy w6 (some bs)):zCM w6 R 0 R kv pv acc:=by
 have hR:=h.hR
 have hb:=h.hb
 refine h.qs.same (fun q hq=>?_)
 rcases hq with rfl | hq | hq
 ·exact hg.block _ h.qs.lt (fun e=>by injection e with e; omega)
 ·have:=h.qs.row.lt q hq; exact hg.block q this.2 (fun e=>by injection e with e; omega)
 ·have:=h.qs.plt q hq; exact hg.block q this.2 (fun e=>by injection e with e; omega)
theorem ScI.step {w wr w6 w7:World} {R C bs:Nat} {ms:List zJ} {T:Nat -> List OpR} {rk:Nat -> Nat} {G:ByteArray -> Option Value} {i j:Nat} {U:List UnR} {acc:List OpR} {kv:Value} {pv:Option Nat} {G' G'':ByteArray -> Option Value} (h:ScI w wr R C bs ms T rk G i U acc kv pv G') (hj:rk j < rk i)
  (h3:ScM w6 C bs ms T G'') (hg:wr.grownBy w6 (some bs)) (h5:∀ q,q < ms.length -> rk j < rk q -> G'' (atM ms q).n = G' (atM ms q).n) (h6:∀ q,q < ms.length -> ∀ x,G'' (atM ms q).n = some (.agg #[x]) -> G' (atM ms q).n = some (.agg #[x]) \/ ∀ g,x.ownBlock = some g -> wr.heap.size <= g)
  (hps:∀ q,q < ms.length -> ∀ x,G' (atM ms q).n = some x -> G'' (atM ms q).n = some x) (hT:∀ o ∈ T j,o ∈ ZE U) (hp:zt w6 R 0 R kv pv (zO acc (T j)) w7):∃ kv7 pv7,ScI w w7 R C bs ms T rk G i U (zO acc (T j)) kv7 pv7 G'':=by
 obtain ⟨kv7,pv7,q7,e7,k7,p7⟩:=hp
 have hR:=h.hR
 have hb:=h.hb
 have hRl:=h.qs.lt
 have hz6:=hg.size
 have hzw:=h.gr.size
 have hd:=h.dj' (w6:=w6) (j:=j) h6
 have nkb:∀ q,q < R -> kv.ownBlock ≠ some q:=fun q hq e=>by have:=(h.qs.row.lt q e).1; omega
 have npb:∀ q,q < R -> pv ≠ some q:=fun q hq e=>by have:=(h.qs.plt q e).1; omega
 refine ⟨kv7,pv7,q7,h3.eff hd e7 (by omega) (by omega) (nkb bs (by omega)) (npb bs (by omega)),?_,?_,?_,?_,fun q hq x hx=>hps q hq x (h.ps q hq x hx),?_,?_,Z1 _ _ h.nd,hR,hb⟩
 ·exact ⟨e7.os.trans (hg.os.trans h.gr.os),e7.tape.trans (hg.tape.trans h.gr.tape),e7.output.trans (hg.output.trans h.gr.output),by have:=e7.size; omega,fun q hq hne=>(e7.blk q (by omega) (by omega) (nkb q (by omega)) (npb q (by omega))).trans ((hg.block q (by omega) hne).trans (h.gr.block q hq hne))⟩
 ·intro q hq v hv
  obtain ⟨v',e1,_,hb'⟩:=h3.at' q hq _ hv
  have e2:v = v':=by simpa using e1
  subst e2
  exact Apt.step (hd q hq v hv) (fun g e=>(hb' g e).2) k7 p7
 ·exact fun q hq hr=>(h5 q hq (by omega)).trans (h.hi q hq hr)
 ·intro q hq x hx
  rcases h6 q hq x hx with h1 | h1
  ·exact h.ol q hq x h1
  ·exact Or.inr (fun g e=>by have:=h1 g e; omega)
 ·have hs6:w7.heap[w.heap.size]? = wr.heap[w.heap.size]?:=(e7.blk w.heap.size (by omega) (by omega) (nkb _ hR) (npb _ hR)).trans (hg.block _ (by omega) (fun e=>by injection e with e; omega))
  exact ⟨(World.cell?_of_block (w:=wr) (w':=w7) (a:=⟨w.heap.size,0,none⟩) hs6).trans h.rb.1,(World.frozen?_of_block (w:=wr) (w':=w7) (a:=⟨w.heap.size,0,none⟩) hs6).trans h.rb.2⟩
 ·intro o ho
  rcases (ZM _ _).1 ho with ho | ho
  ·exact h.su o ho
  ·exact hT o ho
theorem ScI.len {w wr:World} {R C bs:Nat} {ms:List zJ} {T:Nat -> List OpR} {rk:Nat -> Nat} {G:ByteArray -> Option Value} {i:Nat} {U:List UnR} {acc:List OpR} {kv:Value} {pv:Option Nat} {G':ByteArray -> Option Value} (h:ScI w wr R C bs ms T rk G i U acc kv pv G') (hA:(ZE U).length <= 400000):acc.length <= 400000:=
 Nat.le_trans (zAR acc _ h.nd h.su) hA
theorem ScM.set {w:World} {C bs X:Nat} {ms:List zJ} {T:Nat -> List OpR} {G:ByteArray -> Option Value} (h:ScM w C bs ms T G) (hX:bs ≠ X) (hd:∀ j,j < ms.length -> ∀ v,G (atM ms j).n = some (.agg #[v]) -> v.ownBlock ≠ some X) (V:Value):ScM (w.setCell ⟨X,0,none⟩ V) C bs ms T G:=by
 have hz:(w.setCell ⟨X,0,none⟩ V).heap.size = w.heap.size:=by simp [World.setCell]
 have sm:∀ g,g ≠ X -> (w.setCell ⟨X,0,none⟩ V).heap[g]? = w.heap[g]?:=fun g hg=>Below.heap_setCell _ _ _ _ (by simpa using hg)
 refine ⟨?_,fun j hj x hx=>?_,h.apt⟩
 ·obtain ⟨m,M,hm,hM⟩:=h.mp
  exact ⟨m,M,hm.same (sm bs hX),hM⟩
 ·obtain ⟨v,rfl,hv,hb⟩:=h.at' j hj x hx
  exact ⟨v,rfl,zBJ hv (fun g e=>sm g (fun e2=>hd j hj v hx (by rw [e,e2]))),fun g e=>⟨(hb g e).1,by rw [hz]; exact (hb g e).2⟩⟩
theorem ScI.fin {w wr:World} {R C bs:Nat} {ms:List zJ} {ks:List ByteArray} {T:Nat -> List OpR} {rk:Nat -> Nat} {G:ByteArray -> Option Value} {i:Nat} {U:List UnR} {kv:Value} {pv:Option Nat} {G':ByteArray -> Option Value} (hN:zAz ms ks) (h:ScI w wr R C bs ms T rk G i U (T i) kv pv G') (hi:i < ms.length) (hn:ms.length <= 100) (hg:G (atM ms i).n = none) (hG:ScM w C bs ms T G) (hbC:bs < C) (hC:C <= w.heap.size) :
  ∃ w9,(Instr.mapUpdate 73 (.map (some bs)) (.string (atM ms i).n) (.agg #[kv])).run Tryz.prog (wr.alloc (.cells #[kv] 61)).drew = .ok () w9 /\ w9.cell? ⟨w.heap.size,0,none⟩ = some (.slice none 0 0) /\ w9.frozen? ⟨w.heap.size,0,none⟩ = false /\ w9.cell? ⟨wr.heap.size,0,none⟩ = some kv /\ w.heap.size < wr.heap.size /\
   zKp w C bs ms T rk G i (.returned (.agg #[kv])) (w9.setCell ⟨w.heap.size,0,none⟩ kv):=by
 have hR:=h.hR
 have hb:=h.hb
 have hRl:=h.qs.lt
 have hzw:=h.gr.size
 have hnb:w.heap.size < wr.heap.size:=by omega
 have hsz:(atM ms i).n.size <= maxLen:=hN.sz _ (List.mem_of_getElem? (hN.at' i hi))
 obtain ⟨W8,hW8⟩:∃ W8,W8 = (wr.alloc (.cells #[kv] 61)).drew:=⟨_,rfl⟩
 have hb8:Below wr.heap.size wr W8:=by rw [hW8]; exact (zC _ _).drew
 have hz8:W8.heap.size = wr.heap.size + 1:=by rw [hW8]; simp
 have k8:W8.cell? ⟨wr.heap.size,0,none⟩ = some kv:=by rw [hW8]; show (wr.alloc (.cells #[kv] 61)).cell? ⟨wr.heap.size,0,none⟩ = some kv; simp [go_sem]
 rw [<- hW8]
 have hs8:=h.sc.below hb8
 obtain ⟨m,hm,hml⟩:=hs8.cnt
 obtain ⟨w9,hrun,_,hk9⟩:=hm.update (ty:=73) Tryz.underlying73 (by unfold maxLen; omega) (t:=(atM ms i).n) hsz (.agg #[kv])
 have hz9:=hk9.size
 have hGi:G' (atM ms i).n = none:=(h.hi i hi (Nat.le_refl _)).trans hg
 have hkb:∀ g,kv.ownBlock = some g -> R <= g /\ g < wr.heap.size:=h.qs.row.lt
 have hput:=ScM.put (v:=kv) hN hs8 hi hGi hbC ((h.qs.row.base (by omega)).below hb8) (fun j hj v' hv' g e e2=>(h.dj j hj v' hv' g e2).2.1 e) (fun g e=>by have:=hkb g e; omega) hk9 (fun m' hm' hle=>by
  obtain ⟨w9',hrun',h1,_⟩:=hm'.update (ty:=73) Tryz.underlying73 (by unfold maxLen; omega) (t:=(atM ms i).n) hsz (.agg #[kv])
  rw [hrun] at hrun'
  injection hrun' with _ e
  rw [e]; exact h1)
 have c9:=fun (b:Nat) (hb:b < W8.heap.size) (hne:b ≠ bs) (q:Nat)=>hk9.cell hb hne q
 have c8:=fun q=>hb8.cell (p:=⟨w.heap.size,q,none⟩) hnb
 have dat:∀ {a b:ByteArray},a.data = b.data -> a = b:=fun {a b} e=>by cases a; cases b; simp at e; rw [e]
 refine ⟨w9,hrun,(c9 _ (by omega) (by omega) 0).trans ((c8 0).trans h.rb.1),(hk9.frozen (by omega) (by omega) 0).trans ((hb8.frozen (p:=⟨w.heap.size,0,none⟩) hnb).trans h.rb.2),(c9 _ (by omega) (by omega) 0).trans k8,hnb,?_⟩
 refine ⟨kv,_,rfl,?_,hput.set (by omega) ?_ kv,?_,?_,?_,?_⟩
 ·exact if_pos rfl
 ·intro j hj v hv e
  have hv':(if (atM ms j).n.data = (atM ms i).n.data then some (.agg #[kv]) else G' (atM ms j).n) = some (.agg #[v]):=hv
  by_cases e1:(atM ms j).n.data = (atM ms i).n.data
  ·rw [if_pos e1] at hv'
   have e2:kv = v:=by simpa using hv'
   rw [<- e2] at e
   have:=(hkb _ e).1
   omega
  ·rw [if_neg e1] at hv'
   rcases h.ol j hj v hv' with h1 | h1
   ·obtain ⟨v',e3,_,hb'⟩:=hG.at' j hj _ h1
    have e4:v = v':=by simpa using e3
    subst e4
    have:=(hb' _ e).2
    omega
   ·have:=h1 _ e; omega
 ·refine ⟨hk9.os.trans (hb8.os.trans h.gr.os),hk9.tape.trans (hb8.tape.trans h.gr.tape),hk9.output.trans (hb8.output.trans h.gr.output),by simp [World.setCell]; omega,fun q hq hne=>?_⟩
  rw [Below.heap_setCell _ _ _ _ (by simp; omega)]
  exact (hk9.block q (by omega) (fun e=>hne (by rw [e]))).trans ((hb8.block q (by omega)).trans (h.gr.block q hq hne))
 ·intro j hj x hx
  show (if (atM ms j).n.data = (atM ms i).n.data then some (.agg #[kv]) else G' (atM ms j).n) = _
  rw [if_neg (fun e=>by have:=hN.inj hj hi (dat e); subst this; rw [hg] at hx; cases hx)]
  exact h.ps j hj x hx
 ·intro j hj hr
  show (if (atM ms j).n.data = (atM ms i).n.data then some (.agg #[kv]) else G' (atM ms j).n) = _
  rw [if_neg (fun e=>by have:=hN.inj hj hi (dat e); subst this; omega)]
  exact h.hi j hj (by omega)
 ·intro j hj x hx
  have hx':(if (atM ms j).n.data = (atM ms i).n.data then some (.agg #[kv]) else G' (atM ms j).n) = some (.agg #[x]):=hx
  by_cases e1:(atM ms j).n.data = (atM ms i).n.data
  ·rw [if_pos e1] at hx'
   have e2:kv = x:=by simpa using hx'
   subst e2
   exact Or.inr (fun g e=>by have:=(hkb g e).1; omega)
  ·rw [if_neg e1] at hx'
   rcases h.ol j hj x hx' with h1 | h1
   ·exact Or.inl h1
   ·exact Or.inr (fun g e=>by have:=h1 g e; omega)
theorem ScI.start {w W3 w5:World} {C bs:Nat} {ms:List zJ} {T:Nat -> List OpR} {rk:Nat -> Nat} {G:ByteArray -> Option Value} {i:Nat} {U:List UnR} {os:List OpR} {t:TypeId} (hG:ScM w C bs ms T G) (hb:Below w.heap.size w W3) (hz:w.heap.size < W3.heap.size) (hrb:W3.cell? ⟨w.heap.size,0,none⟩ = some (.slice none 0 0) /\ W3.frozen? ⟨w.heap.size,0,none⟩ = false) (hu:∀ o ∈ os,o ∈ ZE U)
  (hp:zt (W3.alloc (.cells #[.slice none 0 0,.map none] t)) W3.heap.size 0 W3.heap.size (.slice none 0 0) none (zO [] os) w5):∃ kv pv,ScI w w5 W3.heap.size C bs ms T rk G i U (zO [] os) kv pv G /\ Below w.heap.size w w5:=by
 obtain ⟨kv7,pv7,q7,e7,k7,p7⟩:=hp
 have hbs:=hG.lt
 have hb5:Below W3.heap.size W3 w5:=(zC _ _).trans (e7.below (B:=W3.heap.size) (by simp) (Nat.le_refl _) (fun g e=>by simp [Value.ownBlock] at e) (fun g e=>by simp at e))
 have hbw:Below w.heap.size w w5:=hb.trans (hb5.mono (by omega))
 refine ⟨kv7,pv7,⟨q7,hG.below hbw,zF hbw _,?_,fun _ _ _=>rfl,fun _ _ x hx=>Or.inl hx,fun _ _ x hx=>hx,⟨(hb5.cell (p:=⟨w.heap.size,0,none⟩) hz).trans hrb.1,(hb5.frozen (p:=⟨w.heap.size,0,none⟩) hz).trans hrb.2⟩,?_,Z1 _ _ (by simp),hz,hbs⟩,hbw⟩
 ·intro j hj v hv g e
  obtain ⟨v',e1,_,hb'⟩:=hG.at' j hj _ hv
  have e2:v = v':=by simpa using e1
  subst e2
  have:=(hb' g e).2
  exact ⟨by omega,fun e2=>by have:=(q7.row.lt g e2).1; omega,fun e2=>by have:=(q7.plt g e2).1; omega⟩
 ·intro o ho
  rcases (ZM _ _).1 ho with ho | ho
  ·cases ho
  ·exact hu o ho
theorem zMM {nm:ByteArray -> Nat} {T:Nat -> List OpR} {acc:List OpR} (us:List ByteArray) (h:500 < acc.length):zBy nm T acc us = acc:=by
 cases us with
 | nil=>rfl
 | cons u r=>simp only [zBy]; rw [if_pos h]
theorem zPR {nm:ByteArray -> Nat} {T:Nat -> List OpR} {acc:List OpR} {us:List ByteArray} {q:Nat} {u:ByteArray} (hu:us[q]? = some u) (h:¬ 500 < acc.length):zBy nm T acc (us.drop q) = zBy nm T (zO acc (T (nm u))) (us.drop (q + 1)):=by
 have hq:q < us.length:=(List.getElem?_eq_some_iff.1 hu).1
 have e:us.drop q = u :: us.drop (q + 1):=by
  rw [List.drop_eq_getElem_cons hq]
  congr 1
  rw [List.getElem?_eq_getElem hq] at hu
  injection hu
 rw [e]
 simp only [zBy]
 rw [if_neg h]
theorem zFP (B C P bs:Nat) (am:Option Addr) (cm:Nat) (ms:List zJ) (v1:Value) (vs:List UvR) (U:List UnR) (kv:Value) (pv:Option Nat) (ks:List ByteArray) (T:Nat -> List OpR) (rk:Nat -> Nat) (hn:ms.length <= 100) (hN:zAz ms ks) (hR:RkE ms.length (nmF ms) U rk) (hT:BrE ms.length (nmF ms) U T) (hA:(ZE U).length <= 400000) (hF:∀ o ∈ ZE U,zCy o) (hul:∀ i,i < ms.length -> (atU U i).us.length <= 20001) :
  ∀ (r i:Nat),i < ms.length -> rk i < r -> ∀ (w:World) (G:ByteArray -> Option Value),ScH w B C P bs am cm ms v1 vs U kv pv ks -> ScM w C bs ms T G ->
  Calls Tryz.prog 57 #[.pointer (some ⟨P,0,none⟩),.string (atM ms i).n] w (zKp w C bs ms T rk G i):=by
 intro r
 induction r with
 | zero=>intro i _ h; omega
 | succ r ih=>
  intro i hi hri w G hH hG
  have hPl:=hH.pg.lt
  have c4:=hH.c4
  have hsz:(atM ms i).n.size <= maxLen:=hN.sz _ (List.mem_of_getElem? (hN.at' i hi))
  obtain ⟨m,hm,hml⟩:=hG.cnt
  obtain ⟨W1,hW1⟩:∃ W1,W1 = w.alloc (.cells #[.slice none 0 0] 61):=⟨_,rfl⟩
  have hb1:Below w.heap.size w W1:=by rw [hW1]; exact zC _ _
  have hz1:W1.heap.size = w.heap.size + 1:=by rw [hW1]; simp
  have d4:=(hb1.cell (p:=⟨P,4,none⟩) hPl).trans c4
  have hrun:=(hm.same (hb1.block bs hm.lt)).look (ty:=73) Tryz.underlying73 (zQk W1) hsz
  have r1:W1.cell? ⟨w.heap.size,0,none⟩ = some (.slice none 0 0):=by rw [hW1]; simp [go_sem]
  have r2:W1.frozen? ⟨w.heap.size,0,none⟩ = false:=by rw [hW1]; simp [go_sem]
  have HW1:=zB hW1
  have HB1:=zB hb1
  obtain ⟨t,ht⟩:∃ t,t = (atM ms i).n:=⟨_,rfl⟩
  have HTT:=zB ht
  rw [<- ht] at hrun hsz
  cases hgt:G t with
  | some x=>
   obtain ⟨v,rfl,hv,hvb⟩:=hG.at' i hi x (by rw [<- ht]; exact hgt)
   obtain ⟨a,c,rfl,_⟩:=id hv.ops
   rw [hgt] at hrun
   have hrun':(Instr.lookup 73 (.map (some bs)) (.string t) true).run Tryz.prog W1 = .ok (.tuple #[.agg #[.slice a (T i).length c],.bool true]) W1:=hrun
   rw [hW1] at hrun'
   have HEND:=zB (fun w' (hb:Below w.heap.size w w')=>show zKp w C bs ms T rk G i (.returned (.agg #[.slice a (T i).length c])) w' from ⟨_,G,rfl,by rw [<- ht]; exact hgt,hG.below hb,zF hb _,fun _ _ _ h=>h,fun _ _ _=>rfl,fun _ _ _ h=>Or.inl h⟩)
   rw [<- ht]
   clear hrun hm hG hH ih hgt hv hvb ht hW1 hb1 hN hR hT hF hA hul d4 r1 r2 hz1
   go_enter Tryz.func57,Tryz.ntmps57
   go_wp2_with fail
   refine bodyPost_ret (v:=.agg #[.slice a (T i).length c]) ?res rfl ((zA HEND) _ ((zC _ _).alloc (by simp) _))
   case res=>simp [results,Tryz.results57,go_sem]
  | none=>
   rw [hgt] at hrun
   have hrun':(Instr.lookup 73 (.map (some bs)) (.string t) true).run Tryz.prog W1 = .ok (.tuple #[.agg #[.slice none 0 0],.bool false]) W1:=hrun
   rw [hW1] at hrun'
   have hgi:G (atM ms i).n = none:=by rw [<- ht]; exact hgt
   obtain ⟨W2,hW2⟩:∃ W2,W2 = (w.alloc (.cells #[.slice none 0 0] 61)).alloc (.cells #[.slice none 0 0] 61):=⟨_,rfl⟩
   have hb2:Below w.heap.size w W2:=by rw [hW2]; exact (zC _ _).alloc (by simp) _
   have hz2:W2.heap.size = w.heap.size + 2:=by rw [hW2]; simp
   have s1:W2.cell? ⟨w.heap.size,0,none⟩ = some (.slice none 0 0):=by rw [hW2]; simp [go_sem]
   have s2:W2.frozen? ⟨w.heap.size,0,none⟩ = false:=by rw [hW2]; simp [go_sem]
   have hH2:=hH.keep (zF hb2 (some bs))
   have hiv:i < vs.length:=by have:=hH.pg.ln; omega
   have HU:=zB (zGu P B C am cm ms.length v1 vs U kv pv ks t i W2 hH2.pg hi hH2.nm hsz (by rw [ht]; exact hN.idx hi))
   obtain ⟨⟨hst,hot,hbb⟩,hvl,hol⟩:=hH2.pg.uns.2 i hiv
   obtain ⟨us,hus⟩:∃ us,us = (atU U i).us:=⟨_,rfl⟩
   obtain ⟨os,hos⟩:∃ os,os = (atU U i).os:=⟨_,rfl⟩
   obtain ⟨au,cu,hvu,hau⟩:=hst
   obtain ⟨ao,co,hvo,hao⟩:=id hot
   rw [hvu,hvo] at HU
   rw [hvo] at hot hol
   rw [<- hus] at HU hvu
   rw [<- hos] at HU hot hol hvo
   have hC:=hH.hC
   have hBC:=hH.hBC
   have hbsB:=hH.hbs
   have HOS:=zB (show ∀ o ∈ os,o ∈ ZE U from fun o ho=>List.mem_flatMap.2 ⟨_,zD4 (i:=i) (by have:=hH.pg.uns.1; omega),by rw [<- hos]; exact ho⟩)
   have hosl:os.length <= 400000:=by
    have h1:∀ (l:List UnR) (u:UnR),u ∈ l -> u.os.length <= (ZE l).length:=by
     intro l
     induction l with
     | nil=>intro u h; cases h
     | cons x r ih=>
      intro u h
      show _ <= (x.os ++ ZE r).length
      rw [List.length_append]
      rcases List.mem_cons.1 h with rfl | h
      ·omega
      ·have:=ih u h; omega
    have:=h1 U _ (zD4 (i:=i) (by have:=hH.pg.uns.1; omega))
    rw [<- hos] at this
    omega
   obtain ⟨bd,hbd⟩:∃ bd,bd = (atV vs i).b:=⟨_,rfl⟩
   rw [<- hbd] at HU
   have HADD:=zB (fun (w3:World) (hb3:Below W2.heap.size W2 w3)=>show Calls Tryz.prog 104 #[.pointer (some ⟨w3.heap.size + 1,0,none⟩),.slice ao os.length co] ((w3.alloc (.cells #[.slice au us.length cu,.slice ao os.length co,.string bd] 64)).alloc (.cells #[.slice none 0 0,.map none] 179)) (fun e w'=>e = .returned (.tuple #[]) /\ ∃ kv0 pv0,ScI w w' (w3.heap.size + 1) C bs ms T rk G i U (zO [] os) kv0 pv0 G /\ w'.cell? ⟨w3.heap.size,0,none⟩ = some (.slice au us.length cu)) from (by
    have hz3:=hb3.size
    obtain ⟨W3,hW3⟩:∃ W3,W3 = w3.alloc (.cells #[.slice au us.length cu,.slice ao os.length co,.string bd] 64):=⟨_,rfl⟩
    have hzz:W3.heap.size = w3.heap.size + 1:=by rw [hW3]; simp
    have hbW:Below w3.heap.size w3 W3:=by rw [hW3]; exact zC _ _
    have ku:W3.cell? ⟨w3.heap.size,0,none⟩ = some (.slice au us.length cu):=by rw [hW3]; simp [go_sem]
    rw [<- hW3,<- hzz]
    have hbw:Below w.heap.size w W3:=(hb2.trans (hb3.mono (by omega))).trans (hbW.mono (by omega))
    refine (zFO W3.heap.size 0 W3.heap.size _ none [] (.slice ao os.length co) os (W3.alloc (.cells #[.slice none 0 0,.map none] 179)) (zCM.new W3 _ _) (fun x hx=>hF x ((zA HOS) x hx)) (by simp; omega) (by simp) (((hot.below hb3).below hbW).below (zC _ _)) (fun g e=>⟨by have:=hol g e; omega,by simp [Value.ownBlock],by simp⟩)).mono ?_
    rintro e w5 ⟨rfl,hp⟩
    have hcs:=((hb3.cell (p:=⟨w.heap.size,0,none⟩) (by show w.heap.size < W2.heap.size; omega)).trans s1)
    have hfs:=((hb3.frozen (p:=⟨w.heap.size,0,none⟩) (by show w.heap.size < W2.heap.size; omega)).trans s2)
    have hp':=hp
    obtain ⟨kv0,pv0,hI,_⟩:=ScI.start (U:=U) (rk:=rk) (i:=i) hG hbw (by omega) ⟨(hbW.cell (p:=⟨w.heap.size,0,none⟩) (by show w.heap.size < w3.heap.size; omega)).trans hcs,(hbW.frozen (p:=⟨w.heap.size,0,none⟩) (by show w.heap.size < w3.heap.size; omega)).trans hfs⟩ (zA HOS) hp
    obtain ⟨_,_,_,e7,_,_⟩:=hp'
    refine ⟨rfl,kv0,pv0,hI,?_⟩
    have hb5:Below W3.heap.size W3 w5:=(zC _ _).trans (e7.below (B:=W3.heap.size) (by simp) (Nat.le_refl _) (fun g e=>by simp [Value.ownBlock] at e) (fun g e=>by simp at e))
    exact (hb5.cell (p:=⟨w3.heap.size,0,none⟩) (by show w3.heap.size < W3.heap.size; omega)).trans ku))
   have HROW:=zB (fun (wr:World) (hHr:ScH wr B C P bs am cm ms v1 vs U kv pv ks)=>show zj wr (.slice au us.length cu) us from (by
    have:=(hHr.pg.uns.2 i hiv).1.1
    rw [hvu,<- hus] at this
    exact this))
   have HW2:=zB hW2
   have HH:=zB hH
   have HG:=zB hG
   have HGI:=zB hgi
   have HIH:=zB ih
   have HN:=zB hN
   have HRK:=zB (show ∀ u ∈ us,nmF ms u < ms.length /\ rk (nmF ms u) < rk i from fun u hu=>hR.1 i hi u (by rw [<- hus]; exact hu))
   have HTS:=zB (fun j (hj:j < ms.length)=>hT.sub hR (by have:=hH.pg.uns.1; have:=hH.pg.ln; omega) (rk j + 1) j hj (by omega))
   have HND:=zB (fun j (hj:j < ms.length)=>hT.nd hj)
   have HTI0:=zB (show zBy (nmF ms) T (zO [] os) (us.drop 0) = T i by rw [hT i hi,hos,hus]; rfl)
   have HF:=zB hF
   have hP':=hH.hne
   have husl:us.length <= 20001:=by rw [hus]; exact hul i hi
   rw [<- ht]
   clear hrun hm hG hH ih hgt ht hW1 hb1 hN hR hT hF hul d4 r1 r2 hz1 hgi hW2 hH2 hvu hvo hau hao hus hos hbd hbb hvl hot hol
   go_enter Tryz.func57,Tryz.ntmps57
   go_wp2_with (first | (go_at_call 103; rw [<- zA HW2]; (with_reducible refine (zA HU).mono ?_); rintro e w3 ⟨rfl,hb3⟩; have HA3:=zB ((zA HADD) w3 hb3); have hz3:w.heap.size + 2 <= w3.heap.size:=(by have:=hb3.size; omega); clear hb3 HU HADD) | (go_at_call 104; (with_reducible refine (zA HA3).mono ?_); rintro e w5 ⟨rfl,kv0,pv0,hI5,ku5⟩; have HI5:=zB hI5; clear hI5 HA3))
   go_loopw [32] (fun x wr=>∃ (q:Nat) (acc:List OpR) (kv':Value) (pv':Option Nat) (G':ByteArray -> Option Value),q <= us.length /\ x = .int .i64 (q:Int) /\ Hid (ScI w wr (w3.heap.size + 1) C bs ms T rk G i U acc kv' pv' G') /\ Hid (zBy (nmF ms) T acc (us.drop q) = T i)) (fun x _=>us.length - (intOf x).toNat)
   case atStart=>exact ⟨0,_,kv0,pv0,G,Nat.zero_le _,rfl,HI5,HTI0⟩
   case round=>
    clear HI5 HTI0 ku5
    obtain ⟨q,acc,kv',pv',G',hq,rfl,HI,HTI⟩:=hrel
    obtain ⟨ak,ck,rfl⟩:∃ a c,kv' = .slice a acc.length c:=zM (zA HI).qs.row
    have hal:=(zA HI).len hA
    by_cases hlt:q < us.length
    ·have hltI:(q:Int) < (us.length:Int):=by omega
     have q0:=(zA HI).qs.c0
     obtain ⟨u,hu⟩:∃ u,us[q]? = some u:=⟨_,List.getElem?_eq_getElem hlt⟩
     have hHr:=(zA HH).keep (zA HI).gr
     obtain ⟨gu,cu',hge,hgl,hgc⟩:=((zA HROW) wr hHr).lt (by omega)
     obtain ⟨rfl,rfl⟩:au = some ⟨gu,0,none⟩ /\ cu = cu':=by injection hge with x _ y; exact ⟨x,y⟩
     have hc:=hgc q u hu
     by_cases hbig:500 < acc.length
     ·have hbigI:(500:Int) < (acc.length:Int):=by omega
      obtain rfl:acc = T i:=by have:=zA HTI; rwa [zMM _ hbig] at this
      clear hge hgc hHr hu
      obtain ⟨w9,hrun9,x0,x1,x2,x3,hpost⟩:=(zA HI).fin (zA HN) hi hn (zA HGI) (zA HG) (by omega) hC
      rw [<- zA HTT] at hrun9
      have HPOST:=zB hpost
      have e4:=((zA HH).keep (zA HI).gr).c4
      have hPr:P < wr.heap.size:=by omega
      obtain ⟨W8,hW8⟩:∃ W8,W8 = wr.alloc (.cells #[.slice ak (T i).length ck] 61):=⟨_,rfl⟩
      have y4:W8.cell? ⟨P,4,none⟩ = some (.map (some bs)):=by rw [hW8]; exact ((zC wr _).cell (p:=⟨P,4,none⟩) hPr).trans e4
      have y0:W8.cell? ⟨wr.heap.size,0,none⟩ = some (.slice ak (T i).length ck):=by rw [hW8]; simp [go_sem]
      rw [<- hW8] at hrun9
      have HW8:=zB hW8
      clear hW8 hpost
      go_wp2_with fail
      rw [<- zA HW8]
      go_region
      go_wp2_with fail
      refine bodyPost_ret (v:=.agg #[.slice ak (T i).length ck]) ?res rfl (zA HPOST)
      case res=>simp [results,Tryz.results57,go_sem,x0]
     ·have hbigI:¬ (500:Int) < (acc.length:Int):=by omega
      obtain ⟨hj,hrj⟩:=(zA HRK) u (List.mem_of_getElem? hu)
      obtain ⟨j,hje⟩:∃ j,j = nmF ms u:=⟨_,rfl⟩
      rw [<- hje] at hj hrj
      have hnu:(atM ms j).n = u:=by rw [hje]; exact (Zz ms u).1 (by rw [<- hje]; exact hj)
      have HX:=zB ((zA HIH) j hj (by omega) wr G' hHr (zA HI).sc)
      rw [hnu] at HX
      have HNX:=zB (show zBy (nmF ms) T (zO acc (T j)) (us.drop (q + 1)) = T i by rw [hje,<- zPR hu hbig]; exact zA HTI)
      have HNU:=zB hnu
      have hzr:w3.heap.size + 1 < wr.heap.size:=(zA HI).qs.lt
      have hTl:(T j).length <= 1048576 - acc.length:=by
       have h1:=(zA HTS) j hj
       have h2:=zAR (T j) (ZE U) ((zA HND) j hj) h1
       omega
      clear hge hgc hHr hu hnu hje HTI
      go_wp2_with (first | (go_at_call 57; (with_reducible refine (zA HX).mono ?_); rintro e w6 ⟨v,G'',rfl,g1,g2,g3,gp,g4,g5⟩; obtain ⟨v',hv',hov0,_⟩:=g2.at' j hj _ g1; have hov:=hov0.ops; clear hov0; obtain rfl:v = v':=(by simpa using hv'); have hap:Apt v (w3.heap.size + 1) (.slice ak acc.length ck) pv':=((zA HI).dj' (w6:=w6) (j:=j) g5) j hj v g1; have HADD2:=zB (zFO (w3.heap.size + 1) 0 (w3.heap.size + 1) _ pv' acc v (T j) w6 ((zA HI).q6 g3) (fun x hx=>(zA HF) x ((zA HTS) j hj x hx)) (by omega) (by have:=g3.size; omega) hov hap); have HST:=zB (fun w7 hp=>(zA HI).step (w7:=w7) hrj g2 g3 g4 g5 gp ((zA HTS) j hj) hp); obtain ⟨a6,c6,rfl,_⟩:=hov; clear g1 g2 g3 g4 g5 gp hv' hap HX))
      rw [zML]
      go_wp2_with (first | (go_at_call 104; (with_reducible refine (zA HADD2).mono ?_); rintro e w7 ⟨rfl,hp7⟩; obtain ⟨kv7,pv7,hI7⟩:=(zA HST) w7 hp7; have HI7:=zB hI7; clear hI7 hp7 HADD2 HST))
      exact ⟨⟨q + 1,_,kv7,pv7,G'',by omega,by go_num,HI7,HNX⟩,by simp [intOf]; omega⟩
    ·have hltI:¬ (q:Int) < (us.length:Int):=by omega
     obtain rfl:acc = T i:=by have:=zA HTI; rwa [List.drop_eq_nil_of_le (by omega)] at this
     have q0:=(zA HI).qs.c0
     obtain ⟨w9,hrun9,x0,x1,x2,x3,hpost⟩:=(zA HI).fin (zA HN) hi hn (zA HGI) (zA HG) (by omega) hC
     rw [<- zA HTT] at hrun9
     have HPOST:=zB hpost
     have e4:=((zA HH).keep (zA HI).gr).c4
     have hPr:P < wr.heap.size:=by omega
     obtain ⟨W8,hW8⟩:∃ W8,W8 = wr.alloc (.cells #[.slice ak (T i).length ck] 61):=⟨_,rfl⟩
     have y4:W8.cell? ⟨P,4,none⟩ = some (.map (some bs)):=by rw [hW8]; exact ((zC wr _).cell (p:=⟨P,4,none⟩) hPr).trans e4
     have y0:W8.cell? ⟨wr.heap.size,0,none⟩ = some (.slice ak (T i).length ck):=by rw [hW8]; simp [go_sem]
     rw [<- hW8] at hrun9
     have HW8:=zB hW8
     clear hW8 hpost
     go_wp2_with fail
     rw [<- zA HW8]
     go_region
     go_wp2_with fail
     refine bodyPost_ret (v:=.agg #[.slice ak (T i).length ck]) ?res rfl (zA HPOST)
     case res=>simp [results,Tryz.results57,go_sem,x0]
theorem zMN (a:Option Addr) (c:Nat) (w:World) :
  Calls Tryz.prog 144 #[.slice a 0 c] w fun e w'=>e = .returned (.bool true) /\ w' = w:=by
 go_enter Tryz.func144,Tryz.ntmps144
 go_wp2
 go_loop [7] (fun i=>i = .int .i64 0) (fun _=>0)
 case atStart=>rfl
 case round=>
  subst hrel
  go_wp2
  go_ret
  exact ⟨rfl,rfl⟩
theorem zDL (a:Option Addr) (c:Nat) (w:World) :
  Calls Tryz.prog 97 #[.agg #[.slice a 0 c]] w fun e w'=>(∃ x y,e = .returned (.tuple #[.agg #[.map (some x),.map (some y)],.int .i64 0]) /\ Idx w' x y [] 0) /\ Below w.heap.size w w':=by
 have hmm:=@run_makeMap Tryz.prog
 go_enter Tryz.func97,Tryz.ntmps97
 go_wp2_with (first | (go_at_call 144; (with_reducible refine (zMN _ _ _).mono ?_); rintro e w1 ⟨rfl,hx⟩; obtain rfl:=hx.symm; clear hx))
 go_loop [24,5] (fun i mx=>i = .int .i64 0 /\ mx = .bool false) (fun _ _=>0)
 case atStart=>exact ⟨rfl,rfl⟩
 case round=>
  obtain ⟨rfl,rfl⟩:=hrel
  go_wp2
  refine bodyPost_ret (v:=.tuple #[.agg #[.map (some (w.heap.size + 1 + 1)),.map (some (w.heap.size + 1 + 1 + 1))],.int .i64 0]) ?res rfl ⟨⟨_,_,rfl,?ix⟩,((((zC _ _).alloc (by first | (simp; done) | (simp; omega)) _).alloc (by first | (simp; done) | (simp; omega)) _).alloc (by first | (simp; done) | (simp; omega)) _).alloc (by first | (simp; done) | (simp; omega)) _⟩
  case res=>simp [results,Tryz.results97,go_sem]
  case ix=>
   have h:=Idx.start ((w.alloc (.cells #[.slice a 0 c] 61)).alloc (.cells #[.map (some (w.heap.size + 1 + 1)),.map (some (w.heap.size + 1 + 1 + 1))] 167)) [] (.cells #[.map (some (w.heap.size + 1 + 1)),.map (some (w.heap.size + 1 + 1 + 1))] 167)
   simpa using h
theorem zIi (b off cap:Nat) (xs:List OpR) (w:World) (hm:xs.length <= 1048576) (hw:Ops w b off xs) (hs:Zm xs) (hB:b < w.heap.size) :
  Calls Tryz.prog 119 #[.agg #[.slice (some ⟨b,off,none⟩) xs.length cap]] w fun e w'=>(∃ c,e = .returned (.int .i64 c) /\ zL xs c) /\ Below w.heap.size w w':=by
 go_enter Tryz.func119,Tryz.ntmps119
 go_wp2_with fail
 refine (zDI b off cap xs _ hm (hw.below (zC _ _) hB) hs (by simp; omega)).mono ?_
 rintro e w1 ⟨⟨x,y,c,rfl,hc,_⟩,hb1⟩
 have HC:=zB hc
 clear hc
 go_wp2_with fail
 go_ret
 exact ⟨⟨c,rfl,zA HC⟩,((zC _ _).trans (hb1.mono (by simp))).alloc (by have:=hb1.size; simp at this; omega) _⟩
theorem zJ3 (a:Option Addr) (cap:Nat) (w:World) :
  Calls Tryz.prog 119 #[.agg #[.slice a 0 cap]] w fun e w'=>e = .returned (.int .i64 0) /\ Below w.heap.size w w':=by
 go_enter Tryz.func119,Tryz.ntmps119
 go_wp2_with fail
 refine (zDL a cap _).mono ?_
 rintro e w1 ⟨⟨x,y,rfl,_⟩,hb1⟩
 go_wp2_with fail
 go_ret
 exact ⟨rfl,((zC _ _).trans (hb1.mono (by simp))).alloc (by have:=hb1.size; simp at this; omega) _⟩
theorem zKq (v:Value) (xs:List OpR) (w:World) (hm:xs.length <= 1048576) (hw:ZC w v xs) (hs:Zm xs) :
  Calls Tryz.prog 119 #[.agg #[v]] w fun e w'=>(∃ c,e = .returned (.int .i64 c) /\ zL xs c) /\ Below w.heap.size w w':=by
 obtain ⟨a,c,rfl,⟨h0,_,_⟩ | ⟨g,rfl,hg,ho⟩⟩:=hw
 ·obtain rfl:=List.length_eq_zero_iff.1 h0
  refine (zJ3 a c w).mono ?_
  rintro e w1 ⟨rfl,hb⟩
  exact ⟨⟨0,rfl,zGA⟩,hb⟩
 ·exact zIi g 0 c xs w hm ho hs hg
theorem zHE (a:Option Addr) (cap:Nat) (xs:List OpR) (w:World) (hm:xs.length <= 1048576) (h:ZC w (.slice a xs.length cap) xs) (hs:Zm xs) :
  Calls Tryz.prog 97 #[.agg #[.slice a xs.length cap]] w fun e w'=>(∃ (x y:Option Nat) (c:Int),e = .returned (.tuple #[.agg #[.map x,.map y],.int .i64 c]) /\ zL xs c /\ (c = 0 -> ∃ bo bs,x = some bo /\ y = some bs /\ Idx w' bo bs xs xs.length)) /\ Below w.heap.size w w':=by
 obtain ⟨a',c',e,⟨h0,_⟩ | ⟨g,rfl,hg,hops⟩⟩:=h
 ·obtain rfl:xs = []:=List.length_eq_zero_iff.1 h0
  refine (zDL a cap w).mono ?_
  rintro e w' ⟨⟨x,y,rfl,hi⟩,hb⟩
  exact ⟨⟨_,_,0,rfl,zGA,fun _=>⟨x,y,rfl,rfl,hi⟩⟩,hb⟩
 ·injection e with e1 e2 e3
  subst e1
  exact zDI g 0 cap xs w hm hops hs hg
end Go.Proofs.YtokabkhnidlcnacGreatDoor
