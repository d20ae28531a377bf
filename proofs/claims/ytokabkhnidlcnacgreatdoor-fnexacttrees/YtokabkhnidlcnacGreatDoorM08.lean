import Derived.Test.YtokabkhnidlcnacGreatDoorM07
namespace Go.Proofs.YtokabkhnidlcnacGreatDoor
set_option linter.unusedSimpArgs false
set_option linter.unusedVariables false
set_option maxHeartbeats 16000000
set_option maxRecDepth 100000
open Go.RowKit
def upB (d:Nat -> Bool) (i:Nat):Nat -> Bool:=fun j=>if j = i then true else d j
def upT (T:Nat -> List OpR) (i:Nat) (x:List OpR):Nat -> List OpR:=fun j=>if j = i then x else T j
def zCH (w:World) (v:Value) (os:List OpR):Prop:=∃ g c,v = .slice (some ⟨g,0,none⟩) os.length c /\ g < w.heap.size /\ Ops w g 0 os
theorem zCH.at' {w:World} {v:Value} {os:List OpR} (h:zCH w v os):ZC w v os:=by
 obtain ⟨g,c,rfl,h1,h2⟩:=h
 exact ⟨_,c,rfl,Or.inr ⟨g,rfl,h1,h2⟩⟩
theorem zCH.of {w:World} {v:Value} {os:List OpR} (h:ZC w v os) (hq:∃ q,v.ownBlock = some q):zCH w v os:=by
 obtain ⟨a,c,rfl,⟨_,rfl,_⟩ | ⟨g,rfl,h1,h2⟩⟩:=h
 ·obtain ⟨q,hq⟩:=hq
  cases hq
 ·exact ⟨g,c,rfl,h1,h2⟩
theorem zCH.blk {w:World} {v:Value} {os:List OpR} (h:zCH w v os):∃ q,v.ownBlock = some q:=by
 obtain ⟨g,c,rfl,_⟩:=h
 exact ⟨g,rfl⟩
theorem zCH.below {w w':World} {v:Value} {os:List OpR} (h:zCH w v os) (hb:Below w.heap.size w w'):zCH w' v os:=zCH.of (h.at'.below hb) h.blk
structure zH4 (w:World) (n O D:Nat) (d:Nat -> Bool) (T:Nat -> List OpR) (wr:World):Prop where
 dn:zB1 wr D n d
 cs:∀ i,i < n -> ∃ v,wr.cell? ⟨O,i,none⟩ = some v /\ wr.frozen? ⟨O,i,none⟩ = false /\ (d i = true -> zCH wr v (T i) /\ ∀ g,v.ownBlock = some g -> g ≠ O /\ g ≠ D /\ w.heap.size <= g)
 bel:Below w.heap.size w wr
 hO:w.heap.size <= O
 hD:w.heap.size <= D
 hOl:O < wr.heap.size
 hOD:O ≠ D
theorem zH4.below {w wr wr':World} {n O D:Nat} {d:Nat -> Bool} {T:Nat -> List OpR} (h:zH4 w n O D d T wr) (hb:Below wr.heap.size wr wr'):zH4 w n O D d T wr':=
 ⟨h.dn.below hb,fun i hi=>by
  obtain ⟨v,h1,h2,h3⟩:=h.cs i hi
  exact ⟨v,(hb.cell (p:=⟨O,i,none⟩) h.hOl).trans h1,(hb.frozen (p:=⟨O,i,none⟩) h.hOl).trans h2,fun e=>⟨(h3 e).1.below hb,(h3 e).2⟩⟩,h.bel.trans (hb.mono h.bel.size),h.hO,h.hD,Nat.lt_of_lt_of_le h.hOl hb.size,h.hOD⟩
theorem zCH.set {w:World} {v:Value} {os:List OpR} (h:zCH w v os) (p o:Nat) (x:Value) (hne:∀ g,v.ownBlock = some g -> g ≠ p):zCH (w.setCell ⟨p,o,none⟩ x) v os:=
 zCH.of (h.at'.grown (ze w p o x) (fun g e x=>by injection x with x; exact hne g e x.symm)) h.blk
theorem ZC.set {w:World} {v:Value} {os:List OpR} (h:ZC w v os) (p o:Nat) (x:Value) (hne:∀ g,v.ownBlock = some g -> g ≠ p):ZC (w.setCell ⟨p,o,none⟩ x) v os:=
 h.grown (ze w p o x) (fun g e x=>by injection x with x; exact hne g e x.symm)
theorem zH4.done {w wr:World} {n O D i:Nat} {d:Nat -> Bool} {T:Nat -> List OpR} {v:Value} {X:List OpR} (h:zH4 w n O D d T wr) (hi:i < n) (hv:zCH wr v X) (hne:∀ g,v.ownBlock = some g -> g ≠ O /\ g ≠ D /\ w.heap.size <= g) :
  zH4 w n O D (upB d i) (upT T i X) ((wr.setCell ⟨O,i,none⟩ v).setCell ⟨D,i,none⟩ (.bool true)):=by
 have hOD:=h.hOD
 refine ⟨?_,fun j hj=>?_,(h.bel.setCell (p:=⟨O,i,none⟩) h.hO _).setCell (p:=⟨D,i,none⟩) h.hD _,h.hO,h.hD,by simpa [World.setCell] using h.hOl,hOD⟩
 ·exact ((h.dn.grown (ze wr O i v) (fun x=>hOD (by injection x))).set hi true).congr (fun j _=>rfl)
 ·obtain ⟨u,h1,h2,h3⟩:=h.cs j hj
  have hc:∀ (W:World),(W.setCell ⟨D,i,none⟩ (.bool true)).cell? ⟨O,j,none⟩ = W.cell? ⟨O,j,none⟩:=fun W=>World.cell?_setCell_other _ _ _ _ (by first | (simp; done) | (simp; intro e; exact absurd e.symm hOD) | (intro x; injection x with x; exact hOD x.symm))
  have hf:((wr.setCell ⟨O,i,none⟩ v).setCell ⟨D,i,none⟩ (.bool true)).frozen? ⟨O,j,none⟩ = false:=by
   rw [World.frozen?_setCell,World.frozen?_setCell]; exact h2
  by_cases e:j = i
  ·subst e
   refine ⟨v,by rw [hc]; exact World.cell?_setCell_same _ _ _ h1,hf,fun _=>⟨?_,hne⟩⟩
   simp only [upT,if_true]
   exact (hv.set O j v (fun g e=>(hne g e).1)).set D j _ (fun g e=>(hne g e).2.1)
  ·refine ⟨u,by rw [hc,World.cell?_setCell_other _ _ _ _ (by first | (simp; done) | (simp; omega) | (intro x; injection x with _ x; omega))]; exact h1,hf,fun hd=>?_⟩
   simp only [upB,e,if_false] at hd
   simp only [upT,e,if_false]
   obtain ⟨h4,h5⟩:=h3 hd
   exact ⟨(h4.set O i v (fun g e=>(h5 g e).1)).set D i _ (fun g e=>(h5 g e).2.1),h5⟩
def zF9 (ms:List zJ) (U:List UnR) (d:Nat -> Bool) (T:Nat -> List OpR):Prop:=∀ i,i < ms.length -> d i = true -> (∀ u ∈ (atU U i).us,d (nmF ms u) = true) /\ T i = Zb (nmF ms) T (zO [] (atU U i).os) (atU U i).us /\ (T i).Nodup /\ ∀ o ∈ T i,o ∈ ZE U
theorem zF9.step {ms:List zJ} {U:List UnR} {d:Nat -> Bool} {T:Nat -> List OpR} {i:Nat} {X:List OpR} (h:zF9 ms U d T) (hU:U.length = ms.length) (hi:i < ms.length) (hn:d i = false) (hin:∀ u ∈ (atU U i).us,nmF ms u < ms.length) (hu:∀ u ∈ (atU U i).us,d (nmF ms u) = true) (hX:X = Zb (nmF ms) T (zO [] (atU U i).os) (atU U i).us):zF9 ms U (upB d i) (upT T i X):=by
 have hne:∀ k,d k = true -> k ≠ i:=fun k hk e=>by rw [e,hn] at hk; cases hk
 have hT:∀ (us:List ByteArray) (acc:List OpR),(∀ u ∈ us,d (nmF ms u) = true) -> Zb (nmF ms) T acc us = Zb (nmF ms) (upT T i X) acc us:=fun us acc hd=>zE9 us acc (fun u hu=>by
  simp only [upT,hne _ (hd u hu),if_false])
 intro j hj hd
 by_cases e:j = i
 ·subst e
  refine ⟨fun u hu'=>by simp only [upB]; rw [hu u hu']; split <;> rfl,?_,?_,?_⟩
  ·simp only [upT,if_true]
   rw [hX]
   exact (hT _ _ hu).trans (by rw [<- hX])
  ·simp only [upT,if_true]
   rw [hX]
   exact zC4 _ _ _ _ (Z1 _ _ (by simp))
  ·simp only [upT,if_true]
   intro o ho
   rw [hX,zDQ,ZM] at ho
   rcases ho with (ho | ho) | ⟨u,hu',ho⟩
   ·cases ho
   ·exact List.mem_flatMap.2 ⟨atU U j,zD4 (by omega),ho⟩
   ·exact (h _ (hin u hu') (hu u hu')).2.2.2 o ho
 ·simp only [upB,e,if_false] at hd
  obtain ⟨h1,h2,h3,h4⟩:=h j hj hd
  have eT:upT T i X j = T j:=by simp only [upT,e,if_false]
  rw [eT]
  refine ⟨fun u hu'=>by simp only [upB]; rw [h1 u hu']; split <;> rfl,?_,h3,h4⟩
  rw [<- hT _ _ h1]
  exact h2
def rdy (ms:List zJ) (d:Nat -> Bool) (i:Nat) (us:List ByteArray) (k:Nat):Bool:=!d i && (us.take k).all (fun u=>d (nmF ms u))
theorem zMy {ms:List zJ} {d:Nat -> Bool} {i k:Nat} {us:List ByteArray} {u:ByteArray} (h:us[k]? = some u):rdy ms d i us (k + 1) = (rdy ms d i us k && d (nmF ms u)):=by
 unfold rdy
 rw [List.take_add_one,h,List.all_append]
 simp [Bool.and_assoc]
theorem zKN {nm:ByteArray -> Nat} {T:Nat -> List OpR} {acc:List OpR} {us:List ByteArray} {k:Nat} {u:ByteArray} (h:us[k]? = some u):Zb nm T acc (us.take (k + 1)) = zO (Zb nm T acc (us.take k)) (T (nm u)):=by
 rw [List.take_add_one,h]
 exact zFr nm T acc (us.take k) u
def zAm (n:Nat) (rk:Nat -> Nat) (d:Nat -> Bool) (r i:Nat):Prop:=∀ j,j < n -> (rk j < r \/ (rk j = r /\ j < i)) -> d j = true
theorem zAm.up {n:Nat} {rk:Nat -> Nat} {d:Nat -> Bool} {r i k:Nat} (h:zAm n rk d r i):zAm n rk (upB d k) r i:=fun j hj hr=>by
 simp only [upB]; rw [h j hj hr]; split <;> rfl
theorem zAm.next {n:Nat} {rk:Nat -> Nat} {d:Nat -> Bool} {r i:Nat} (h:zAm n rk d r i) (hi:rk i = r -> d i = true):zAm n rk d r (i + 1):=fun j hj hr=>by
 by_cases e:j = i
 ·subst e
  rcases hr with hr | ⟨hr,_⟩
  ·exact h j hj (Or.inl hr)
  ·exact hi hr
 ·exact h j hj (by omega)
theorem zAm.round {n:Nat} {rk:Nat -> Nat} {d:Nat -> Bool} {r:Nat} (h:zAm n rk d r n):zAm n rk d (r + 1) 0:=fun j hj hr=>h j hj (by omega)
end Go.Proofs.YtokabkhnidlcnacGreatDoor
