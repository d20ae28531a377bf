import Derived.Deep.MidRow
import Derived.Deep.RegionHeld
import Derived.Laws.MakeOwn
import Derived.OwnWalk
import Derived.Laws.OwnMore
import Derived.Test.YtokabkhnidlcnacGreatDoorM00
namespace Go.Proofs.YtokabkhnidlcnacGreatDoor
set_option linter.unusedSimpArgs false
set_option linter.unusedVariables false
set_option maxHeartbeats 16000000
set_option maxRecDepth 100000
def zCE (acc:List OpR) (o:OpR):List OpR:=if acc.any (fun x=>zAB x o) = true then acc else acc ++ [o]
def zO (acc xs:List OpR):List OpR:=xs.foldl zCE acc
theorem zIs {acc:List OpR} {o:OpR}:acc.any (fun x=>zAB x o) = true ↔ o ∈ acc:=by
 rw [List.any_eq_true]
 constructor
 ·rintro ⟨x,h1,h2⟩; rw [<- ZB.1 h2]; exact h1
 ·intro h; exact ⟨o,h,ZB.2 rfl⟩
theorem zBc {acc:List OpR} {o:OpR} (h:o ∈ acc):zCE acc o = acc:=by unfold zCE; rw [if_pos (zIs.2 h)]
theorem zCg {acc:List OpR} {o:OpR} (h:o ∉ acc):zCE acc o = acc ++ [o]:=by unfold zCE; rw [if_neg (fun x=>h (zIs.1 x))]
theorem zMe {acc:List OpR} {o x:OpR}:x ∈ zCE acc o ↔ x ∈ acc \/ x = o:=by
 by_cases h:o ∈ acc
 ·rw [zBc h]
  exact ⟨Or.inl,fun e=>e.elim id (fun e=>e ▸ h)⟩
 ·rw [zCg h]; simp
theorem ZM {x:OpR}:∀ (xs acc:List OpR),x ∈ zO acc xs ↔ x ∈ acc \/ x ∈ xs
 | [],acc=>by simp [zO]
 | o :: r,acc=>by
  show x ∈ zO (zCE acc o) r ↔ _
  rw [ZM r,zMe]
  simp only [List.mem_cons]
  constructor
  ·rintro ((h | h) | h)
   ·exact Or.inl h
   ·exact Or.inr (Or.inl h)
   ·exact Or.inr (Or.inr h)
  ·rintro (h | h | h)
   ·exact Or.inl (Or.inl h)
   ·exact Or.inl (Or.inr h)
   ·exact Or.inr h
theorem zFp:∀ (xs acc:List OpR),(∀ o ∈ xs,o ∈ acc) -> zO acc xs = acc
 | [],_,_=>rfl
 | o :: r,acc,h=>by
  show zO (zCE acc o) r = acc
  rw [zBc (h o (by simp))]
  exact zFp r acc (fun x hx=>h x (by simp [hx]))
theorem zCF (acc xs ys:List OpR):zO acc (xs ++ ys) = zO (zO acc xs) ys:=List.foldl_append
theorem zOH {acc:List OpR} {o:OpR} (h:acc.Nodup):(zCE acc o).Nodup:=by
 by_cases ho:o ∈ acc
 ·rw [zBc ho]; exact h
 ·rw [zCg ho]
  rw [List.nodup_append]
  exact ⟨h,by simp,fun a ha b hb e=>by simp at hb; subst hb; subst e; exact ho ha⟩
theorem Z1:∀ (xs acc:List OpR),acc.Nodup -> (zO acc xs).Nodup
 | [],_,h=>h
 | o :: r,acc,h=>Z1 r _ (zOH h)
theorem zHH:∀ (xs acc:List OpR),(acc ++ xs).Nodup -> zO acc xs = acc ++ xs
 | [],acc,_=>by simp [zO]
 | o :: r,acc,h=>by
  have ho:o ∉ acc:=fun ho=>by
   rw [List.nodup_append] at h
   exact h.2.2 o ho o (by simp) rfl
  show zO (zCE acc o) r = _
  rw [zCg ho,zHH r (acc ++ [o]) (by simpa using h)]
  simp
theorem zMf (acc:List OpR) (o:OpR):acc.length <= (zCE acc o).length:=by
 by_cases h:o ∈ acc
 ·rw [zBc h]; exact Nat.le_refl _
 ·rw [zCg h]; simp
theorem zDk:∀ (xs acc:List OpR),acc.length <= (zO acc xs).length
 | [],_=>Nat.le_refl _
 | o :: r,acc=>Nat.le_trans (zMf acc o) (zDk r _)
theorem zAR {α:Type}:∀ (xs ys:List α),xs.Nodup -> (∀ x ∈ xs,x ∈ ys) -> xs.length <= ys.length
 | [],_,_,_=>Nat.zero_le _
 | x :: r,ys,h,hs=>by
  rw [List.nodup_cons] at h
  obtain ⟨a,b,rfl⟩:=List.append_of_mem (hs x (by simp))
  have:=zAR r (a ++ b) h.2 (fun z hz=>by
   have h1:=hs z (by simp [hz])
   simp only [List.mem_append,List.mem_cons] at h1 ⊢
   rcases h1 with h1 | h1 | h1
   ·exact Or.inl h1
   ·subst h1; exact absurd hz h.1
   ·exact Or.inr h1)
  simp only [List.length_append,List.length_cons] at *
  omega
theorem zHx {zs:List OpR} {k:Nat} (h:k < zs.length):atO zs k ∈ zs:=by
 unfold atO
 rw [List.getD_eq_getElem?_getD,List.getElem?_eq_getElem h]
 exact List.getElem_mem h
theorem zOI {zs:List OpR} {k:Nat} (h:k < zs.length):zs.take (k + 1) = zs.take k ++ [atO zs k]:=by
 rw [List.take_add_one,List.getElem?_eq_getElem h]
 unfold atO
 rw [List.getD_eq_getElem?_getD,List.getElem?_eq_getElem h]
 rfl
theorem zE8 {zs:List OpR} {k:Nat} (hk:k <= zs.length) {o:OpR}:o ∈ zs.take k ↔ ∃ j,j < k /\ atO zs j = o:=by
 constructor
 ·intro h
  obtain ⟨j,hj,e⟩:=List.getElem_of_mem h
  have hj2:j < k:=by rw [List.length_take] at hj; omega
  refine ⟨j,hj2,?_⟩
  rw [<- e,List.getElem_take]
  unfold atO
  rw [List.getD_eq_getElem?_getD,List.getElem?_eq_getElem (by omega)]
  rfl
 ·rintro ⟨j,hj,rfl⟩
  have hl:j < (zs.take k).length:=by rw [List.length_take]; omega
  have:(zs.take k)[j] = atO zs j:=by
   rw [List.getElem_take]
   unfold atO
   rw [List.getD_eq_getElem?_getD,List.getElem?_eq_getElem (by omega)]
   rfl
  rw [<- this]
  exact List.getElem_mem hl
theorem zHy (zs:List OpR):∀ k,k <= zs.length -> zAC zs k = zO [] (zs.take k)
 | 0,_=>by simp [zAC,zO]
 | k + 1,hk=>by
  have ih:=zHy zs k (by omega)
  rw [zOI (by omega),zCF]
  show _ = zCE (zO [] (zs.take k)) (atO zs k)
  rw [<- ih]
  by_cases h:∃ j,j < k /\ atO zs j = atO zs k
  ·rw [zK5 h,zBc]
   rw [ih,ZM]
   exact Or.inr ((zE8 (by omega)).2 h)
  ·rw [zIr h,zCg]
   rw [ih,ZM]
   rintro (h1 | h1)
   ·cases h1
   ·exact h ((zE8 (by omega)).1 h1)
theorem zOJ {t s:List OpR} (ht:t.Nodup):zAC (t ++ s) (t ++ s).length = zO t s:=by
 rw [zHy _ _ (Nat.le_refl _),List.take_length,zCF,zHH t [] (by simpa using ht)]
 rfl
def Pth (E:Nat -> Nat -> Prop):Nat -> Nat -> Nat -> Prop
 | 0,i,j=>E i j
 | k + 1,i,j=>∃ m,E i m /\ Pth E k m j
def TC (E:Nat -> Nat -> Prop) (i j:Nat):Prop:=∃ k,Pth E k i j
theorem Pth.trans {E:Nat -> Nat -> Prop}:∀ {k l i j m:Nat},Pth E k i m -> Pth E l m j -> TC E i j
 | 0,l,i,j,m,h1,h2=>⟨l + 1,m,h1,h2⟩
 | k + 1,l,i,j,m,h1,h2=>by
  obtain ⟨q,h3,h4⟩:=h1
  obtain ⟨n,h5⟩:=Pth.trans h4 h2
  exact ⟨n + 1,q,h3,h5⟩
theorem TC.trans {E:Nat -> Nat -> Prop} {i j m:Nat} (h1:TC E i m) (h2:TC E m j):TC E i j:=by
 obtain ⟨k,h1⟩:=h1
 obtain ⟨l,h2⟩:=h2
 exact h1.trans h2
theorem TC.one {E:Nat -> Nat -> Prop} {i j:Nat} (h:E i j):TC E i j:=⟨0,h⟩
theorem TC.closed {E:Nat -> Nat -> Prop} {P:Nat -> Prop} (hc:∀ i j,P i -> E i j -> P j):∀ {k i j:Nat},Pth E k i j -> (∀ m,E i m -> P m) -> P j
 | 0,i,j,h,h0=>h0 j h
 | k + 1,i,j,h,h0=>by
  obtain ⟨m,h1,h2⟩:=h
  exact TC.closed hc h2 (fun q hq=>hc m q (h0 m h1) hq)
def wr1 (M:Nat -> Nat -> Bool) (m:Nat):Nat -> Nat -> Bool:=fun i j=>M i j || (M i m && M m j)
def wrN (M:Nat -> Nat -> Bool):Nat -> Nat -> Nat -> Bool
 | 0=>M
 | m + 1=>wr1 (wrN M m) m
theorem zDP {E:Nat -> Nat -> Prop} {M:Nat -> Nat -> Bool} (h:∀ i j,M i j = true -> TC E i j):∀ m i j,wrN M m i j = true -> TC E i j
 | 0,i,j,hm=>h i j hm
 | m + 1,i,j,hm=>by
  simp only [wrN,wr1,Bool.or_eq_true,Bool.and_eq_true] at hm
  rcases hm with hm | ⟨h1,h2⟩
  ·exact zDP h m i j hm
  ·exact (zDP h m _ _ h1).trans (zDP h m _ _ h2)
theorem zFq {M:Nat -> Nat -> Bool}:∀ m i j,M i j = true -> wrN M m i j = true
 | 0,_,_,h=>h
 | m + 1,i,j,h=>by
  simp only [wrN,wr1,Bool.or_eq_true]
  exact Or.inl (zFq m i j h)
theorem zHI {M:Nat -> Nat -> Bool}:∀ m k,k < m -> ∀ i j,wrN M m i k = true -> wrN M m k j = true -> wrN M m i j = true
 | 0,k,hk,_,_,_,_=>by omega
 | m + 1,k,hk,i,j,h1,h2=>by
  simp only [wrN,wr1,Bool.or_eq_true,Bool.and_eq_true] at h1 h2 ⊢
  by_cases e:k = m
  ·subst e
   have a:wrN M k i k = true:=by rcases h1 with h | ⟨h,_⟩ <;> exact h
   have b:wrN M k k j = true:=by rcases h2 with h | ⟨_,h⟩ <;> exact h
   exact Or.inr ⟨a,b⟩
  ·have ih:=zHI (M:=M) m k (by omega)
   rcases h1 with h1 | ⟨h1,h1'⟩ <;> rcases h2 with h2 | ⟨h2,h2'⟩
   ·exact Or.inl (ih i j h1 h2)
   ·exact Or.inr ⟨ih i m h1 h2,h2'⟩
   ·exact Or.inr ⟨h1,ih m j h1' h2⟩
   ·exact Or.inr ⟨h1,h2'⟩
theorem zPt {n:Nat} {E:Nat -> Nat -> Prop} {M:Nat -> Nat -> Bool} (hM:∀ i j,M i j = true ↔ E i j) (hE:∀ i j,E i j -> i < n /\ j < n) (i j:Nat):wrN M n i j = true ↔ TC E i j:=by
 refine ⟨zDP (fun i j h=>TC.one ((hM i j).1 h)) n i j,?_⟩
 rintro ⟨k,hk⟩
 induction k generalizing i with
 | zero=>exact zFq n i j ((hM i j).2 hk)
 | succ k ih=>
  obtain ⟨m,h1,h2⟩:=hk
  exact zHI n m (hE _ _ h1).2 i j (zFq n i m ((hM i m).2 h1)) (ih m h2)
def rkW (W:Nat -> Nat -> Bool) (n i:Nat):Nat:=((List.range n).filter (fun j=>W i j)).length
theorem zEd {p q:Nat -> Bool}:∀ (l:List Nat),(∀ x ∈ l,q x = true -> p x = true) -> (∃ x ∈ l,p x = true /\ q x = false) -> (l.filter q).length < (l.filter p).length
 | [],_,h=>by obtain ⟨x,h,_⟩:=h; cases h
 | a :: r,hs,h=>by
  have hle:(r.filter q).length <= (r.filter p).length:=by
   have:∀ (l:List Nat),(∀ x ∈ l,q x = true -> p x = true) -> (l.filter q).length <= (l.filter p).length:=by
    intro l
    induction l with
    | nil=>intro _; exact Nat.le_refl _
    | cons b t ih=>
     intro hb
     have:=ih (fun x hx=>hb x (by simp [hx]))
     have hb1:=hb b (by simp)
     by_cases h1:q b = true
     ·rw [List.filter_cons_of_pos h1,List.filter_cons_of_pos (hb1 h1)]; simp; omega
     ·by_cases h2:p b = true
      ·rw [List.filter_cons_of_neg h1,List.filter_cons_of_pos h2]; simp; omega
      ·rw [List.filter_cons_of_neg h1,List.filter_cons_of_neg h2]; exact this
   exact this r (fun x hx=>hs x (by simp [hx]))
  have ha:=hs a (by simp)
  obtain ⟨x,hx,h1,h2⟩:=h
  rcases List.mem_cons.1 hx with rfl | hx
  ·rw [List.filter_cons_of_pos h1,List.filter_cons_of_neg (by simp [h2])]
   simp; omega
  ·have ih:=zEd r (fun y hy=>hs y (by simp [hy])) ⟨x,hx,h1,h2⟩
   by_cases h3:q a = true
   ·rw [List.filter_cons_of_pos h3,List.filter_cons_of_pos (ha h3)]; simp; omega
   ·by_cases h4:p a = true
    ·rw [List.filter_cons_of_neg h3,List.filter_cons_of_pos h4]; simp; omega
    ·rw [List.filter_cons_of_neg h3,List.filter_cons_of_neg h4]; exact ih
theorem zOK {n:Nat} {E:Nat -> Nat -> Prop} {W:Nat -> Nat -> Bool} (hW:∀ i j,W i j = true ↔ TC E i j) {i j:Nat} (he:E i j) (hj:j < n) (hn:¬ TC E j j):rkW W n j < rkW W n i:=by
 unfold rkW
 refine zEd _ (fun x _ h=>(hW i x).2 ((TC.one he).trans ((hW j x).1 h))) ⟨j,List.mem_range.2 hj,(hW i j).2 (TC.one he),?_⟩
 cases h:W j j
 ·rfl
 ·exact absurd ((hW j j).1 h) hn
theorem zQT {n:Nat} {E:Nat -> Nat -> Prop} {W:Nat -> Nat -> Bool} (hW:∀ i j,W i j = true ↔ TC E i j) {i:Nat} (hi:i < n) (hn:¬ TC E i i):rkW W n i < n:=by
 have h:=zEd (p:=fun _=>true) (q:=fun j=>W i j) (List.range n) (fun _ _ _=>rfl) ⟨i,List.mem_range.2 hi,rfl,by
  cases h:W i i
  ·rfl
  ·exact absurd ((hW i i).1 h) hn⟩
 have e:((List.range n).filter (fun _=>true)).length = n:=by rw [List.filter_eq_self.2 (fun _ _=>rfl),List.length_range]
 rw [e] at h
 exact h
def Zb (nm:ByteArray -> Nat) (S:Nat -> List OpR) (acc:List OpR) (us:List ByteArray):List OpR:=us.foldl (fun a u=>zO a (S (nm u))) acc
theorem zBd (nm:ByteArray -> Nat) (S:Nat -> List OpR) (acc:List OpR) (u:ByteArray) (r:List ByteArray):Zb nm S acc (u :: r) = Zb nm S (zO acc (S (nm u))) r:=rfl
theorem zFr (nm:ByteArray -> Nat) (S:Nat -> List OpR) (acc:List OpR) (us:List ByteArray) (u:ByteArray):Zb nm S acc (us ++ [u]) = zO (Zb nm S acc us) (S (nm u)):=by
 unfold Zb; rw [List.foldl_append]; rfl
theorem zHJ (nm:ByteArray -> Nat) (S:Nat -> List OpR):∀ (us:List ByteArray) (acc:List OpR),acc.length <= (Zb nm S acc us).length
 | [],_=>Nat.le_refl _
 | u :: r,acc=>Nat.le_trans (zDk _ acc) (zHJ nm S r _)
theorem zC4 (nm:ByteArray -> Nat) (S:Nat -> List OpR):∀ (us:List ByteArray) (acc:List OpR),acc.Nodup -> (Zb nm S acc us).Nodup
 | [],_,h=>h
 | u :: r,acc,h=>zC4 nm S r _ (Z1 _ _ h)
theorem zDQ (nm:ByteArray -> Nat) (S:Nat -> List OpR) {x:OpR}:∀ (us:List ByteArray) (acc:List OpR),x ∈ Zb nm S acc us ↔ x ∈ acc \/ ∃ u ∈ us,x ∈ S (nm u)
 | [],acc=>by simp [Zb]
 | u :: r,acc=>by
  rw [zBd,zDQ nm S r,ZM]
  simp only [List.mem_cons,exists_eq_or_imp]
  constructor
  ·rintro ((h | h) | h)
   ·exact Or.inl h
   ·exact Or.inr (Or.inl h)
   ·exact Or.inr (Or.inr h)
  ·rintro (h | h | h)
   ·exact Or.inl (Or.inl h)
   ·exact Or.inl (Or.inr h)
   ·exact Or.inr h
theorem zE9 {nm:ByteArray -> Nat} {S T:Nat -> List OpR}:∀ (us:List ByteArray) (acc:List OpR),(∀ u ∈ us,S (nm u) = T (nm u)) -> Zb nm S acc us = Zb nm T acc us
 | [],_,_=>rfl
 | u :: r,acc,h=>by
  rw [zBd,zBd,h u (by simp)]
  exact zE9 r _ (fun x hx=>h x (by simp [hx]))
def Z9 (acc:List ByteArray) (u:ByteArray):List ByteArray:=if acc.any (fun x=>decide (x = u)) = true then acc else acc ++ [u]
def dst (us:List ByteArray):List ByteArray:=us.foldl Z9 []
theorem zK7 {acc:List ByteArray} {u:ByteArray}:acc.any (fun x=>decide (x = u)) = true ↔ u ∈ acc:=by
 rw [List.any_eq_true]
 constructor
 ·rintro ⟨x,h1,h2⟩; rw [<- of_decide_eq_true h2]; exact h1
 ·intro h; exact ⟨u,h,decide_eq_true rfl⟩
theorem zA9 {acc:List ByteArray} {u:ByteArray} (h:u ∈ acc):Z9 acc u = acc:=by unfold Z9; rw [if_pos (zK7.2 h)]
theorem zA5 {acc:List ByteArray} {u:ByteArray} (h:u ∉ acc):Z9 acc u = acc ++ [u]:=by unfold Z9; rw [if_neg (fun x=>h (zK7.1 x))]
theorem zMg {acc:List ByteArray} {u x:ByteArray}:x ∈ Z9 acc u ↔ x ∈ acc \/ x = u:=by
 by_cases h:u ∈ acc
 ·rw [zA9 h]; exact ⟨Or.inl,fun e=>e.elim id (fun e=>e ▸ h)⟩
 ·rw [zA5 h]; simp
theorem zAK {x:ByteArray}:∀ (us acc:List ByteArray),x ∈ us.foldl Z9 acc ↔ x ∈ acc \/ x ∈ us
 | [],acc=>by simp
 | u :: r,acc=>by
  rw [List.foldl_cons,zAK r,zMg]
  simp only [List.mem_cons]
  constructor
  ·rintro ((h | h) | h)
   ·exact Or.inl h
   ·exact Or.inr (Or.inl h)
   ·exact Or.inr (Or.inr h)
  ·rintro (h | h | h)
   ·exact Or.inl (Or.inl h)
   ·exact Or.inl (Or.inr h)
   ·exact Or.inr h
theorem zOL {acc:List ByteArray} {u:ByteArray} (h:acc.Nodup):(Z9 acc u).Nodup:=by
 by_cases ho:u ∈ acc
 ·rw [zA9 ho]; exact h
 ·rw [zA5 ho,List.nodup_append]
  exact ⟨h,by simp,fun a ha b hb e=>by simp at hb; subst hb; subst e; exact ho ha⟩
theorem zFs:∀ (us acc:List ByteArray),acc.Nodup -> (us.foldl Z9 acc).Nodup
 | [],_,h=>h
 | u :: r,acc,h=>zFs r _ (zOL h)
theorem zEe (us:List ByteArray):∀ (acc:List ByteArray),(us.foldl Z9 acc).length <= acc.length + us.length:=by
 induction us with
 | nil=>intro acc; exact Nat.le_refl _
 | cons u r ih=>
  intro acc
  rw [List.foldl_cons]
  have:=ih (Z9 acc u)
  have h2:(Z9 acc u).length <= acc.length + 1:=by
   by_cases h:u ∈ acc
   ·rw [zA9 h]; omega
   ·rw [zA5 h]; simp
  simp only [List.length_cons]
  omega
theorem zHK (nm:ByteArray -> Nat) (S:Nat -> List OpR):∀ (us D:List ByteArray) (a:List OpR),Zb nm S a (us.foldl Z9 D) = Zb nm S (Zb nm S a D) us
 | [],D,a=>rfl
 | u :: r,D,a=>by
  rw [List.foldl_cons,zHK nm S r,zBd]
  congr 1
  by_cases h:u ∈ D
  ·rw [zA9 h,zFp]
   intro o ho
   rw [zDQ]
   exact Or.inr ⟨u,h,ho⟩
  ·rw [zA5 h,zFr]
theorem zKA (nm:ByteArray -> Nat) (S:Nat -> List OpR) (us:List ByteArray) (a:List OpR):Zb nm S a (dst us) = Zb nm S a us:=zHK nm S us [] a
def zBy (nm:ByteArray -> Nat) (T:Nat -> List OpR):List OpR -> List ByteArray -> List OpR
 | acc,[]=>acc
 | acc,u :: r=>if 500 < acc.length then acc else zBy nm T (zO acc (T (nm u))) r
def zMh (s t:List OpR):Prop:=(s.length <= 500 -> t = s) /\ (500 < s.length -> 500 < t.length)
theorem zHL {nm:ByteArray -> Nat} {S T:Nat -> List OpR}:∀ (us:List ByteArray) (a b:List OpR),(∀ u ∈ us,zMh (S (nm u)) (T (nm u)) /\ (S (nm u)).Nodup /\ (T (nm u)).Nodup) -> zMh a b -> zMh (Zb nm S a us) (zBy nm T b us)
 | [],a,b,_,h=>h
 | u :: r,a,b,hu,h=>by
  rw [zBd]
  simp only [zBy]
  obtain ⟨h1,h2,h3⟩:=hu u (by simp)
  by_cases hb:500 < b.length
  ·rw [if_pos hb]
   have ha:500 < a.length:=by
    by_cases ha:a.length <= 500
    ·rw [h.1 ha] at hb; omega
    ·omega
   have hl:a.length <= (Zb nm S (zO a (S (nm u))) r).length:=Nat.le_trans (zDk _ a) (zHJ nm S r _)
   exact ⟨fun e=>by omega,fun _=>hb⟩
  ·rw [if_neg hb]
   have ha:a.length <= 500:=by
    by_cases ha:500 < a.length
    ·exact absurd (h.2 ha) hb
    ·omega
   obtain rfl:=h.1 ha
   refine zHL r _ _ (fun x hx=>hu x (by simp [hx])) ?_
   by_cases hs:(S (nm u)).length <= 500
   ·rw [h1.1 hs]
    exact ⟨fun _=>rfl,fun x=>x⟩
   ·have q1:=zAR (S (nm u)) (zO b (S (nm u))) h2 (fun x hx=>(ZM _ _).2 (Or.inr hx))
    have q2:=zAR (T (nm u)) (zO b (T (nm u))) h3 (fun x hx=>(ZM _ _).2 (Or.inr hx))
    have q3:=h1.2 (by omega)
    exact ⟨fun e=>by omega,fun _=>by omega⟩
theorem zK8 (nm:ByteArray -> Nat) (T:Nat -> List OpR):∀ (us:List ByteArray) (b:List OpR),b.Nodup -> (zBy nm T b us).Nodup
 | [],_,h=>h
 | u :: r,b,h=>by
  simp only [zBy]
  split
  ·exact h
  ·exact zK8 nm T r _ (Z1 _ _ h)
end Go.Proofs.YtokabkhnidlcnacGreatDoor
namespace Go.Proofs.YtokabkhnidlcnacGreatDoor
set_option maxHeartbeats 16000000
set_option maxRecDepth 100000
open Go.RowKit
structure zJ where
 n:ByteArray
 t:ByteArray
def zJ.zero:zJ:=⟨⟨#[]⟩,⟨#[]⟩⟩
def atM (xs:List zJ) (i:Nat):zJ:=xs.getD i zJ.zero
def zEf (w:World) (b off:Nat) (xs:List zJ) (i:Nat):Prop:=
 w.cell? ⟨b,off + i * 2,none⟩ = some (.string (atM xs i).n) /\ w.cell? ⟨b,off + i * 2 + 1,none⟩ = some (.string (atM xs i).t)
def zIt (w:World) (b off:Nat) (xs:List zJ):Prop:=∀ i,i < xs.length -> zEf w b off xs i
def zEg (xs:List zJ):Prop:=∀ i,i < xs.length -> (atM xs i).n.size <= maxLen /\ (atM xs i).t.size <= maxLen
theorem zEf.below {w w':World} {b off i:Nat} {xs:List zJ} {B:Nat} (h:zEf w b off xs i) (hb:Below B w w') (hB:b < B):zEf w' b off xs i:=by
 obtain ⟨h0,h1⟩:=h
 exact ⟨(hb.cell (p:=⟨b,_,none⟩) hB).trans h0,(hb.cell (p:=⟨b,_,none⟩) hB).trans h1⟩
theorem zIt.below {w w':World} {b off:Nat} {xs:List zJ} {B:Nat} (h:zIt w b off xs) (hb:Below B w w') (hB:b < B):zIt w' b off xs:=
 fun i hi=>(h i hi).below hb hB
def zBz (w:World) (a:Option Addr) (xs:List zJ):Prop:=xs.length = 0 \/ ∃ b off,a = some ⟨b,off,none⟩ /\ zIt w b off xs /\ b < w.heap.size
theorem zBz.below {w w':World} {a:Option Addr} {xs:List zJ} (h:zBz w a xs) (hb:Below w.heap.size w w'):zBz w' a xs:=by
 rcases h with h | ⟨b,off,rfl,h1,h2⟩
 ·exact Or.inl h
 ·exact Or.inr ⟨b,off,rfl,h1.below hb h2,Nat.lt_of_lt_of_le h2 hb.size⟩
def ZG (w:World) (g:Nat) (xs:List zJ) (k:Nat):Prop:=
 g < w.heap.size /\ w.there g 0 (xs.length * 2) /\ ∀ i,i < k -> zEf w g 0 xs i
theorem ZG.below {w w':World} {g k:Nat} {xs:List zJ} {B:Nat} (h:ZG w g xs k) (hb:Below B w w') (hB:g < B):ZG w' g xs k:=by
 obtain ⟨h1,h2,h3⟩:=h
 refine ⟨Nat.lt_of_lt_of_le h1 hb.size,fun j hj=>?_,fun i hi=>(h3 i hi).below hb hB⟩
 have:=h2 j hj
 exact ⟨by rw [hb.cell (p:=⟨g,_,none⟩) hB]; exact this.1,by rw [hb.frozen (p:=⟨g,_,none⟩) hB]; exact this.2⟩
theorem ZG.anew {w:World} {g:Nat} {xs ys:List zJ} {k:Nat} (h:ZG w g xs k) (hl:xs.length = ys.length):ZG w g ys 0:=
 ⟨h.1,hl ▸ h.2.1,fun i hi=>absurd hi (Nat.not_lt_zero i)⟩
theorem ZG.step {w:World} {g k:Nat} {xs:List zJ} (h:ZG w g xs k) (hk:k < xs.length) :
  ZG (w.setCells g (k * 2) [.string (atM xs k).n,.string (atM xs k).t]) g xs (k + 1):=by
 obtain ⟨h1,h2,h3⟩:=h
 have hin:=World.cell?_setCells_in g [.string (atM xs k).n,.string (atM xs k).t] (k * 2) w (fun j hj=>by
  have:=(h2 (k * 2 + j) (by simp at hj; omega)).1
  simpa using this)
 refine ⟨?_,World.there_setCells h2 _ _ _,fun i hi=>?_⟩
 ·simpa [World.setCells,World.setCell] using h1
 ·by_cases e:i = k
  ·subst e
   exact ⟨by simpa using hin 0 (by simp),by simpa using hin 1 (by simp)⟩
  ·have hi':i < k:=by omega
   obtain ⟨c0,c1⟩:=h3 i hi'
   refine ⟨?_,?_⟩
   all_goals
    rw [World.cell?_setCells_out g _ _ _ _ (fun _ _=>Or.inl (by simp; omega))]
    assumption
theorem zIu {w:World} {g k:Nat} {xs:List zJ} (h:ZG w g xs k) (hk:k < xs.length) :
  ((∃ v,w.cell? ⟨g,k * 2,none⟩ = some v) /\ w.frozen? ⟨g,k * 2,none⟩ = false) /\ ((∃ v,w.cell? ⟨g,k * 2 + 1,none⟩ = some v) /\ w.frozen? ⟨g,k * 2 + 1,none⟩ = false):=by
 have h0:=h.2.1 (k * 2) (by omega)
 have h1:=h.2.1 (k * 2 + 1) (by omega)
 simp only [Nat.zero_add] at h0 h1
 exact ⟨⟨Option.isSome_iff_exists.1 h0.1,h0.2⟩,⟨Option.isSome_iff_exists.1 h1.1,h1.2⟩⟩
theorem zQU:(Tryz.prog.info? 65).map (fun i=>(i.zero,i.size,i.bytes)) = some (some (.agg #[.string ⟨#[]⟩,.string ⟨#[]⟩]),2,32):=by kernel_rfl
theorem zIv (w:World) (z:Array Value) (n:Nat) (t:TypeId):(w.alloc (.cells (madeCells z n) t)).there w.heap.size 0 n:=by
 intro j hj
 have hb:(w.alloc (.cells (madeCells z n) t)).heap[w.heap.size]? = some (.cells (madeCells z n) t (0,0)):=heap_alloc_new w _
 have hc:=cell_of_row (w.alloc (.cells (madeCells z n) t)) w.heap.size (0 + j) (madeCells z n) t (0,0) hb
 refine ⟨?_,frozen_of_row _ _ _ _ _ hb⟩
 rw [hc]
 have:j < (madeCells z n).size:=by rw [size_madeCells]; exact hj
 simp [this]
theorem zDl (c:UInt8) (w:World) :
  Calls Tryz.prog 160 #[.int .u8 (c.toNat:Int)] w fun e w'=>e = .returned (.bool (sgB c)) /\ w' = w:=by
 go_enter Tryz.func160,Tryz.ntmps160
 go_wp2
 rw [run_callFunc_extern Tryz.func235 (by kernel_rfl) (by kernel_rfl) (by kernel_rfl) (e:=Extern.BytealgIndexByte.indexByte) (by kernel_rfl),Lib.run_indexByteString]
 simp only [Result.andThen]
 rw [Oper.upon_value]
 go_wp2
 go_ret
 refine ⟨?_,rfl⟩
 exact congrArg (fun b=>Ending.returned (.bool b)) (zPr c)
theorem zAi (c:UInt8) (w:World) :
  Calls Tryz.prog 106 #[.int .u8 (c.toNat:Int)] w fun e w'=>e = .returned (.bool (sgB c)) /\ w' = w:=by
 go_enter Tryz.func106,Tryz.ntmps106
 go_wp2
 go_loop [4] (fun i=>∃ k:Nat,k <= 18 /\ i = .int .i64 k /\ ∀ j,j < k -> sgL.getD j 0 ≠ c) (fun i=>18 - (intOf i).toNat)
 case atStart=>exact ⟨0,by omega,rfl,fun j h=>by omega⟩
 case round=>
  obtain ⟨k,hk,rfl,hn⟩:=hrel
  by_cases hlt:k < 18
  ·go_wp2
   ·go_ret
    exact ⟨zS (zMU c k hlt (by rw [<- zK4 k hlt (by exact hlt)]; exact zQR _ _ ‹_›)).symm,rfl⟩
   ·refine ⟨⟨k + 1,by omega,by go_num,?_⟩,by simp [intOf]; omega⟩
    intro j hj
    by_cases e:j = k
    ·subst e
     rw [<- zK4 j hlt (by exact hlt)]
     exact zQS _ _ ‹_›
    ·exact hn j (by omega)
  ·go_wp2
   go_ret
   exact ⟨zS (zMT c (fun j hj=>hn j (by omega))).symm,rfl⟩
theorem zD2 (s:ByteArray) (k:Nat) (h:k < s.size) (hb:sgB s[k] = false):zFR s = false:=by
 simp [zFR,zLj s k h hb]
theorem zMi (s:ByteArray) (k:Nat) (hk:¬ k < s.size) (h:zFm (s.data.toList.take k) = true):zFR s = (decide (1 <= s.size) && decide (s.size <= 16)):=by
 rw [zMW s k hk] at h
 simp [zFR,h]
theorem zIw (s:ByteArray) (k:Nat) (h:k < s.size) (hs:zFm (s.data.toList.take k) = true) (hb:sgB s[k] = true):zFm (s.data.toList.take (k + 1)) = true:=by
 rw [zLi s k h,zMV,hs,hb]; rfl
theorem zFA (s:ByteArray) (w:World) (hs:s.size <= maxLen) :
  Calls Tryz.prog 59 #[.string s] w fun e w'=>e = .returned (.bool (zFR s)) /\ w' = w:=by
 unfold maxLen at hs
 go_enter Tryz.func59,Tryz.ntmps59
 go_wp2
 go_loop [3] (fun i=>∃ k:Nat,k <= s.size /\ i = .int .i64 k /\ Hid (zFm (s.data.toList.take k) = true)) (fun i=>s.size - (intOf i).toNat)
 case atStart=>exact ⟨0,Nat.zero_le _,rfl,zB rfl⟩
 case round=>
  obtain ⟨k,hk,rfl,hn⟩:=hrel
  by_cases hlt:k < s.size
  ·cases hb:sgB s[k]
   ·have Hb:=zB hb
    go_wp2_with (go_at_call 106; refine (zAi _ _).mono ?_; rintro e w' ⟨rfl,rfl⟩)
    go_ret
    exact ⟨zS (zD2 s k hlt (zA Hb)).symm,rfl⟩
   ·have Hb:=zB hb
    go_wp2_with (go_at_call 106; refine (zAi _ _).mono ?_; rintro e w' ⟨rfl,rfl⟩)
    exact ⟨⟨k + 1,by omega,by go_num,zB (zIw s k hlt (zA hn) (zA Hb))⟩,by simp [intOf]; omega⟩
  ·have ht:=zB (zMi s k hlt (zA hn))
   by_cases h1:1 <= s.size
   ·have h1':(1:Int) <= (s.size:Int):=by omega
    go_wp2
    go_ret
    exact ⟨zS (by rw [zA ht]; simp [h1]; omega),rfl⟩
   ·go_wp2
    go_ret
    exact ⟨zS (by rw [zA ht]; simp [h1]),rfl⟩
theorem zBQ (s:ByteArray) (w:World) (hs:s.size <= maxLen) :
  Calls Tryz.prog 116 #[.string s] w fun e w'=>e = .returned (.bool (zFR s)) /\ w' = w:=by
 unfold maxLen at hs
 by_cases h1:s.size < 1
 ·go_enter Tryz.func116,Tryz.ntmps116
  go_wp2
  go_ret
  exact ⟨zS (by simp [zFR]; omega),rfl⟩
 by_cases h2:16 < s.size
 ·go_enter Tryz.func116,Tryz.ntmps116
  go_wp2
  go_ret
  exact ⟨zS (by simp [zFR]; omega),rfl⟩
 go_enter Tryz.func116,Tryz.ntmps116
 go_wp2
 go_loop [14] (fun i=>∃ k:Nat,k <= s.size /\ i = .int .i64 k /\ Hid (zFm (s.data.toList.take k) = true)) (fun i=>s.size - (intOf i).toNat)
 case atStart=>exact ⟨0,Nat.zero_le _,rfl,zB rfl⟩
 case round=>
  obtain ⟨k,hk,rfl,hn⟩:=hrel
  by_cases hlt:k < s.size
  ·cases hb:sgB s[k]
   ·have Hb:=zB hb
    go_wp2_with (go_at_call 160; refine (zDl _ _).mono ?_; rintro e w' ⟨rfl,rfl⟩)
    go_ret
    exact ⟨zS (zD2 s k hlt (zA Hb)).symm,rfl⟩
   ·have Hb:=zB hb
    go_wp2_with (go_at_call 160; refine (zDl _ _).mono ?_; rintro e w' ⟨rfl,rfl⟩)
    exact ⟨⟨k + 1,by omega,by go_num,zB (zIw s k hlt (zA hn) (zA Hb))⟩,by simp [intOf]; omega⟩
  ·have ht:=zB (zMi s k hlt (zA hn))
   go_wp2
   go_ret
   exact ⟨zS (by rw [zA ht]; simp; omega),rfl⟩
theorem zCh (s:ByteArray) (k l sd:Int) (w:World) (hs:s.size <= maxLen) :
  Calls Tryz.prog 34 #[.agg #[.string s,.int .i64 k,.int .i64 l,.int .i64 sd]] w fun e w'=>e = .returned (.bool (okB s k l sd)) /\ Below w.heap.size w w':=by
 cases ht:zFR s
 ·have hf:=zB (show okB s k l sd = false by simp [okB,ht])
  go_enter Tryz.func34,Tryz.ntmps34
  go_wp2_with (go_at_call 59; refine (zFA _ _ hs).mono ?_; rintro e w' ⟨rfl,rfl⟩)
  go_ret
  exact ⟨zS (zA hf).symm,zC _ _⟩
 ·have hf:=zB (show okB s k l sd = (decide (1 <= l) && decide (l <= 1000) && zE6 k sd) by simp [okB,ht])
  go_enter Tryz.func34,Tryz.ntmps34
  go_wp2_with (go_at_call 59; refine (zFA _ _ hs).mono ?_; rintro e w' ⟨rfl,rfl⟩)
  all_goals (go_ret; refine ⟨zS ?_,zC _ _⟩; rw [zA hf]; go_light; clear hf; (try simp only [beq_iff_eq,beq_eq_false_iff_ne,ne_eq] at *); rw [Bool.eq_iff_iff]; simp [zE6] <;> omega)
theorem zCi (s:ByteArray) (k l sd:Int) (w:World) :
  Calls Tryz.prog 117 #[.agg #[.string s,.int .i64 k,.int .i64 l,.int .i64 sd]] w fun e w'=>e = .returned (.bool (zE6 k sd)) /\ Below w.heap.size w w':=by
 go_enter Tryz.func117,Tryz.ntmps117
 go_wp2
 all_goals (go_ret; refine ⟨zS ?_,zC _ _⟩; go_light; (try simp only [beq_iff_eq,beq_eq_false_iff_ne,ne_eq] at *); rw [Bool.eq_iff_iff]; simp [zE6] <;> omega)
theorem zAD (s:ByteArray) (k l sd:Int) (w:World) (hs:s.size <= maxLen) :
  Calls Tryz.prog 71 #[.agg #[.string s,.int .i64 k,.int .i64 l,.int .i64 sd]] w fun e w'=>e = .returned (.bool (okB s k l sd)) /\ Below w.heap.size w w':=by
 cases ht:zFR s
 ·have hf:=zB (show okB s k l sd = false by simp [okB,ht])
  go_enter Tryz.func71,Tryz.ntmps71
  go_wp2_with (go_at_call 116; refine (zBQ _ _ hs).mono ?_; rintro e w' ⟨rfl,rfl⟩)
  go_ret
  exact ⟨zS (zA hf).symm,zC _ _⟩
 ·have hf:=zB (show okB s k l sd = (decide (1 <= l) && decide (l <= 1000) && zE6 k sd) by simp [okB,ht])
  by_cases h1:1 <= l
  ·by_cases h2:l <= 1000
   ·go_enter Tryz.func71,Tryz.ntmps71
    go_wp2_with (first | (go_at_call 116; refine (zBQ _ _ hs).mono ?_; rintro e w' ⟨rfl,rfl⟩) | (go_at_call 117; refine (zCi _ _ _ _ _).mono ?_; rintro e w' ⟨rfl,hb⟩))
    go_ret
    exact ⟨zS (by rw [zA hf]; simp [h1,h2]),(zC _ _).trans (hb.mono (by simp))⟩
   ·go_enter Tryz.func71,Tryz.ntmps71
    go_wp2_with (first | (go_at_call 116; refine (zBQ _ _ hs).mono ?_; rintro e w' ⟨rfl,rfl⟩) | (go_at_call 117; refine (zCi _ _ _ _ _).mono ?_; rintro e w' ⟨rfl,hb⟩))
    go_ret
    exact ⟨zS (by rw [zA hf]; simp; intros; omega),zC _ _⟩
  ·go_enter Tryz.func71,Tryz.ntmps71
   go_wp2_with (first | (go_at_call 116; refine (zBQ _ _ hs).mono ?_; rintro e w' ⟨rfl,rfl⟩) | (go_at_call 117; refine (zCi _ _ _ _ _).mono ?_; rintro e w' ⟨rfl,hb⟩))
   go_ret
   exact ⟨zS (by rw [zA hf]; simp; intros; omega),zC _ _⟩
theorem zLo (b off cap:Nat) (xs:List OpR) (w:World) (hn2:xs.length <= 1048576) (hw:Ops w b off xs) (hs:Zm xs) (hB:b < w.heap.size) :
  Calls Tryz.prog 144 #[.slice (some ⟨b,off,none⟩) xs.length cap] w fun e w'=>(∃ v,e = .returned (.bool v) /\ (v = true ↔ zBx xs xs.length)) /\ Below w.heap.size w w':=by
 go_enter Tryz.func144,Tryz.ntmps144
 go_wp2
 go_loopw [7] (fun i wr=>∃ k:Nat,k <= xs.length /\ i = .int .i64 k /\ zBx xs k /\ Below w.heap.size w wr) (fun i _=>xs.length - (intOf i).toNat)
 case atStart=>exact ⟨0,Nat.zero_le _,rfl,fun j h=>by omega,Below.refl _ _⟩
 case round=>
  obtain ⟨k,hk,rfl,hok,hbel⟩:=hrel
  by_cases hlt:k < xs.length
  ·obtain ⟨h0,h1,h2,h3⟩:=(hw k hlt).below hbel hB
   cases ht:(atO xs k).ok
   ·have Ht:=zB ht
    unfold OpR.ok at ht
    go_wp2_with (go_at_call 71; refine (zAD _ _ _ _ _ (hs k hlt)).mono ?_; rintro e w' ⟨rfl,hb⟩)
    go_ret
    refine ⟨⟨false,rfl,⟨fun h=>(by cases h),fun h=>?_⟩⟩,?_⟩
    ·have:=h k hlt; rw [zA Ht] at this; cases this
    ·exact hbel.trans (((zC _ _).trans (hb.mono (by simp))).mono hbel.size)
   ·have Ht:=zB ht
    unfold OpR.ok at ht
    go_wp2_with (go_at_call 71; refine (zAD _ _ _ _ _ (hs k hlt)).mono ?_; rintro e w' ⟨rfl,hb⟩)
    exact ⟨⟨k + 1,by omega,by go_num,zHG hok (zA Ht),hbel.trans (((zC _ _).trans (hb.mono (by simp))).mono hbel.size)⟩,by simp [intOf]; omega⟩
  ·have:k = xs.length:=by omega
   go_wp2
   go_ret
   exact ⟨⟨true,rfl,⟨fun _=>this ▸ hok,fun _=>rfl⟩⟩,hbel⟩
end Go.Proofs.YtokabkhnidlcnacGreatDoor
