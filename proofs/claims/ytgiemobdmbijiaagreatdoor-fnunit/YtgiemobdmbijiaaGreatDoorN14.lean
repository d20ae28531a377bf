import Derived.Deep.MidRow
import Derived.Deep.RegionHeld
import Derived.Laws.MakeOwn
import Derived.OwnWalk
import Derived.Laws.OwnMore
import Derived.Test.YtgiemobdmbijiaaGreatDoorN00
import Derived.Test.YtgiemobdmbijiaaGreatDoorN03
import Derived.Test.YtgiemobdmbijiaaGreatDoorN06
import Derived.Test.YtgiemobdmbijiaaGreatDoorN13
namespace Go.Proofs.YtgiemobdmbijiaaGreatDoor
set_option linter.unusedSimpArgs false
set_option linter.unusedVariables false
set_option maxHeartbeats 16000000
set_option maxRecDepth 100000
def zF0 (acc:List OpR) (o:OpR):List OpR:=if acc.any (fun x=>zBS x o) = true then acc else acc ++ [o]
def ZQ (acc xs:List OpR):List OpR:=xs.foldl zF0 acc
theorem zIt {acc:List OpR} {o:OpR}:acc.any (fun x=>zBS x o) = true ↔ o ∈ acc:=by
 rw [List.any_eq_true]
 constructor
 ·rintro ⟨x,h1,h2⟩; rw [<- zAT.1 h2]; exact h1
 ·intro h; exact ⟨o,h,zAT.2 rfl⟩
theorem zD4 {acc:List OpR} {o:OpR} (h:o ∈ acc):zF0 acc o = acc:=by unfold zF0; rw [if_pos (zIt.2 h)]
theorem zD5 {acc:List OpR} {o:OpR} (h:o ∉ acc):zF0 acc o = acc ++ [o]:=by unfold zF0; rw [if_neg (fun x=>h (zIt.1 x))]
theorem zMH {acc:List OpR} {o x:OpR}:x ∈ zF0 acc o ↔ x ∈ acc \/ x = o:=by
 by_cases h:o ∈ acc
 ·rw [zD4 h]
  exact ⟨Or.inl,fun e=>e.elim id (fun e=>e ▸ h)⟩
 ·rw [zD5 h]; simp
theorem zA8 {x:OpR}:∀ (xs acc:List OpR),x ∈ ZQ acc xs ↔ x ∈ acc \/ x ∈ xs
 | [],acc=>by simp [ZQ]
 | o :: r,acc=>by
  show x ∈ ZQ (zF0 acc o) r ↔ _
  rw [zA8 r,zMH]
  simp only [List.mem_cons]
  constructor
  ·rintro ((h | h) | h)
   ·exact Or.inl h
   ·exact Or.inr (Or.inl h)
   ·exact Or.inr (Or.inr h)
  ·rintro (h | h | h)
   ·exact Or.inl (Or.inl h)
   ·exact Or.inl (Or.inr h)
   ·exact Or.inr h
theorem zDP (acc xs ys:List OpR):ZQ acc (xs ++ ys) = ZQ (ZQ acc xs) ys:=List.foldl_append
theorem zNl {acc:List OpR} {o:OpR} (h:acc.Nodup):(zF0 acc o).Nodup:=by
 by_cases ho:o ∈ acc
 ·rw [zD4 ho]; exact h
 ·rw [zD5 ho]
  rw [List.nodup_append]
  exact ⟨h,by simp,fun a ha b hb e=>by simp at hb; subst hb; subst e; exact ho ha⟩
theorem zB4:∀ (xs acc:List OpR),acc.Nodup -> (ZQ acc xs).Nodup
 | [],_,h=>h
 | o :: r,acc,h=>zB4 r _ (zNl h)
theorem zG8:∀ (xs acc:List OpR),(acc ++ xs).Nodup -> ZQ acc xs = acc ++ xs
 | [],acc,_=>by simp [ZQ]
 | o :: r,acc,h=>by
  have ho:o ∉ acc:=fun ho=>by
   rw [List.nodup_append] at h
   exact h.2.2 o ho o (by simp) rfl
  show ZQ (zF0 acc o) r = _
  rw [zD5 ho,zG8 r (acc ++ [o]) (by simpa using h)]
  simp
theorem zMI (acc:List OpR) (o:OpR):acc.length <= (zF0 acc o).length:=by
 by_cases h:o ∈ acc
 ·rw [zD4 h]; exact Nat.le_refl _
 ·rw [zD5 h]; simp
theorem zF1:∀ (xs acc:List OpR),acc.length <= (ZQ acc xs).length
 | [],_=>Nat.le_refl _
 | o :: r,acc=>Nat.le_trans (zMI acc o) (zF1 r _)
theorem zFQ {α:Type}:∀ (xs ys:List α),xs.Nodup -> (∀ x ∈ xs,x ∈ ys) -> xs.length <= ys.length
 | [],_,_,_=>Nat.zero_le _
 | x :: r,ys,h,hs=>by
  rw [List.nodup_cons] at h
  obtain ⟨a,b,rfl⟩:=List.append_of_mem (hs x (by simp))
  have:=zFQ r (a ++ b) h.2 (fun z hz=>by
   have h1:=hs z (by simp [hz])
   simp only [List.mem_append,List.mem_cons] at h1 ⊢
   rcases h1 with h1 | h1 | h1
   ·exact Or.inl h1
   ·subst h1; exact absurd hz h.1
   ·exact Or.inr h1)
  simp only [List.length_append,List.length_cons] at *
  omega
theorem zNm {zs:List OpR} {k:Nat} (h:k < zs.length):atO zs k ∈ zs:=by
 unfold atO
 rw [List.getD_eq_getElem?_getD,List.getElem?_eq_getElem h]
 exact List.getElem_mem h
theorem zNn {zs:List OpR} {k:Nat} (h:k < zs.length):zs.take (k + 1) = zs.take k ++ [atO zs k]:=by
 rw [List.take_add_one,List.getElem?_eq_getElem h]
 unfold atO
 rw [List.getD_eq_getElem?_getD,List.getElem?_eq_getElem h]
 rfl
theorem zEy {zs:List OpR} {k:Nat} (hk:k <= zs.length) {o:OpR}:o ∈ zs.take k ↔ ∃ j,j < k /\ atO zs j = o:=by
 constructor
 ·intro h
  obtain ⟨j,hj,e⟩:=List.getElem_of_mem h
  have hj2:j < k:=by rw [List.length_take] at hj; omega
  refine ⟨j,hj2,?_⟩
  rw [<- e,List.getElem_take]
  unfold atO
  rw [List.getD_eq_getElem?_getD,List.getElem?_eq_getElem (by omega)]
  rfl
 ·rintro ⟨j,hj,rfl⟩
  have hl:j < (zs.take k).length:=by rw [List.length_take]; omega
  have:(zs.take k)[j] = atO zs j:=by
   rw [List.getElem_take]
   unfold atO
   rw [List.getD_eq_getElem?_getD,List.getElem?_eq_getElem (by omega)]
   rfl
  rw [<- this]
  exact List.getElem_mem hl
theorem zHs (zs:List OpR):∀ k,k <= zs.length -> Z5 zs k = ZQ [] (zs.take k)
 | 0,_=>by simp [Z5,ZQ]
 | k + 1,hk=>by
  have ih:=zHs zs k (by omega)
  rw [zNn (by omega),zDP]
  show _ = zF0 (ZQ [] (zs.take k)) (atO zs k)
  rw [<- ih]
  by_cases h:∃ j,j < k /\ atO zs j = atO zs k
  ·rw [zKl h,zD4]
   rw [ih,zA8]
   exact Or.inr ((zEy (by omega)).2 h)
  ·rw [zIs h,zD5]
   rw [ih,zA8]
   rintro (h1 | h1)
   ·cases h1
   ·exact h ((zEy (by omega)).1 h1)
theorem zNo {t s:List OpR} (ht:t.Nodup):Z5 (t ++ s) (t ++ s).length = ZQ t s:=by
 rw [zHs _ _ (Nat.le_refl _),List.take_length,zDP,zG8 t [] (by simpa using ht)]
 rfl
def Pth (E:Nat -> Nat -> Prop):Nat -> Nat -> Nat -> Prop
 | 0,i,j=>E i j
 | k + 1,i,j=>∃ m,E i m /\ Pth E k m j
def TC (E:Nat -> Nat -> Prop) (i j:Nat):Prop:=∃ k,Pth E k i j
theorem Pth.trans {E:Nat -> Nat -> Prop}:∀ {k l i j m:Nat},Pth E k i m -> Pth E l m j -> TC E i j
 | 0,l,i,j,m,h1,h2=>⟨l + 1,m,h1,h2⟩
 | k + 1,l,i,j,m,h1,h2=>by
  obtain ⟨q,h3,h4⟩:=h1
  obtain ⟨n,h5⟩:=Pth.trans h4 h2
  exact ⟨n + 1,q,h3,h5⟩
theorem TC.trans {E:Nat -> Nat -> Prop} {i j m:Nat} (h1:TC E i m) (h2:TC E m j):TC E i j:=by
 obtain ⟨k,h1⟩:=h1
 obtain ⟨l,h2⟩:=h2
 exact h1.trans h2
theorem TC.one {E:Nat -> Nat -> Prop} {i j:Nat} (h:E i j):TC E i j:=⟨0,h⟩
def wr1 (M:Nat -> Nat -> Bool) (m:Nat):Nat -> Nat -> Bool:=fun i j=>M i j || (M i m && M m j)
def wrN (M:Nat -> Nat -> Bool):Nat -> Nat -> Nat -> Bool
 | 0=>M
 | m + 1=>wr1 (wrN M m) m
theorem zDC {E:Nat -> Nat -> Prop} {M:Nat -> Nat -> Bool} (h:∀ i j,M i j = true -> TC E i j):∀ m i j,wrN M m i j = true -> TC E i j
 | 0,i,j,hm=>h i j hm
 | m + 1,i,j,hm=>by
  simp only [wrN,wr1,Bool.or_eq_true,Bool.and_eq_true] at hm
  rcases hm with hm | ⟨h1,h2⟩
  ·exact zDC h m i j hm
  ·exact (zDC h m _ _ h1).trans (zDC h m _ _ h2)
theorem zF2 {M:Nat -> Nat -> Bool}:∀ m i j,M i j = true -> wrN M m i j = true
 | 0,_,_,h=>h
 | m + 1,i,j,h=>by
  simp only [wrN,wr1,Bool.or_eq_true]
  exact Or.inl (zF2 m i j h)
theorem zG9 {M:Nat -> Nat -> Bool}:∀ m k,k < m -> ∀ i j,wrN M m i k = true -> wrN M m k j = true -> wrN M m i j = true
 | 0,k,hk,_,_,_,_=>by omega
 | m + 1,k,hk,i,j,h1,h2=>by
  simp only [wrN,wr1,Bool.or_eq_true,Bool.and_eq_true] at h1 h2 ⊢
  by_cases e:k = m
  ·subst e
   have a:wrN M k i k = true:=by rcases h1 with h | ⟨h,_⟩ <;> exact h
   have b:wrN M k k j = true:=by rcases h2 with h | ⟨_,h⟩ <;> exact h
   exact Or.inr ⟨a,b⟩
  ·have ih:=zG9 (M:=M) m k (by omega)
   rcases h1 with h1 | ⟨h1,h1'⟩ <;> rcases h2 with h2 | ⟨h2,h2'⟩
   ·exact Or.inl (ih i j h1 h2)
   ·exact Or.inr ⟨ih i m h1 h2,h2'⟩
   ·exact Or.inr ⟨h1,ih m j h1' h2⟩
   ·exact Or.inr ⟨h1,h2'⟩
theorem zOw {n:Nat} {E:Nat -> Nat -> Prop} {M:Nat -> Nat -> Bool} (hM:∀ i j,M i j = true ↔ E i j) (hE:∀ i j,E i j -> i < n /\ j < n) (i j:Nat):wrN M n i j = true ↔ TC E i j:=by
 refine ⟨zDC (fun i j h=>TC.one ((hM i j).1 h)) n i j,?_⟩
 rintro ⟨k,hk⟩
 induction k generalizing i with
 | zero=>exact zF2 n i j ((hM i j).2 hk)
 | succ k ih=>
  obtain ⟨m,h1,h2⟩:=hk
  exact zG9 n m (hE _ _ h1).2 i j (zF2 n i m ((hM i m).2 h1)) (ih m h2)
def rkW (W:Nat -> Nat -> Bool) (n i:Nat):Nat:=((List.range n).filter (fun j=>W i j)).length
theorem zEa {p q:Nat -> Bool}:∀ (l:List Nat),(∀ x ∈ l,q x = true -> p x = true) -> (∃ x ∈ l,p x = true /\ q x = false) -> (l.filter q).length < (l.filter p).length
 | [],_,h=>by obtain ⟨x,h,_⟩:=h; cases h
 | a :: r,hs,h=>by
  have hle:(r.filter q).length <= (r.filter p).length:=by
   have:∀ (l:List Nat),(∀ x ∈ l,q x = true -> p x = true) -> (l.filter q).length <= (l.filter p).length:=by
    intro l
    induction l with
    | nil=>intro _; exact Nat.le_refl _
    | cons b t ih=>
     intro hb
     have:=ih (fun x hx=>hb x (by simp [hx]))
     have hb1:=hb b (by simp)
     by_cases h1:q b = true
     ·rw [List.filter_cons_of_pos h1,List.filter_cons_of_pos (hb1 h1)]; simp; omega
     ·by_cases h2:p b = true
      ·rw [List.filter_cons_of_neg h1,List.filter_cons_of_pos h2]; simp; omega
      ·rw [List.filter_cons_of_neg h1,List.filter_cons_of_neg h2]; exact this
   exact this r (fun x hx=>hs x (by simp [hx]))
  have ha:=hs a (by simp)
  obtain ⟨x,hx,h1,h2⟩:=h
  rcases List.mem_cons.1 hx with rfl | hx
  ·rw [List.filter_cons_of_pos h1,List.filter_cons_of_neg (by simp [h2])]
   simp; omega
  ·have ih:=zEa r (fun y hy=>hs y (by simp [hy])) ⟨x,hx,h1,h2⟩
   by_cases h3:q a = true
   ·rw [List.filter_cons_of_pos h3,List.filter_cons_of_pos (ha h3)]; simp; omega
   ·by_cases h4:p a = true
    ·rw [List.filter_cons_of_neg h3,List.filter_cons_of_pos h4]; simp; omega
    ·rw [List.filter_cons_of_neg h3,List.filter_cons_of_neg h4]; exact ih
theorem zNp {n:Nat} {E:Nat -> Nat -> Prop} {W:Nat -> Nat -> Bool} (hW:∀ i j,W i j = true ↔ TC E i j) {i j:Nat} (he:E i j) (hj:j < n) (hn:¬ TC E j j):rkW W n j < rkW W n i:=by
 unfold rkW
 refine zEa _ (fun x _ h=>(hW i x).2 ((TC.one he).trans ((hW j x).1 h))) ⟨j,List.mem_range.2 hj,(hW i j).2 (TC.one he),?_⟩
 cases h:W j j
 ·rfl
 ·exact absurd ((hW j j).1 h) hn
theorem zPZ {n:Nat} {E:Nat -> Nat -> Prop} {W:Nat -> Nat -> Bool} (hW:∀ i j,W i j = true ↔ TC E i j) {i:Nat} (hi:i < n) (hn:¬ TC E i i):rkW W n i < n:=by
 have h:=zEa (p:=fun _=>true) (q:=fun j=>W i j) (List.range n) (fun _ _ _=>rfl) ⟨i,List.mem_range.2 hi,rfl,by
  cases h:W i i
  ·rfl
  ·exact absurd ((hW i i).1 h) hn⟩
 have e:((List.range n).filter (fun _=>true)).length = n:=by rw [List.filter_eq_self.2 (fun _ _=>rfl),List.length_range]
 rw [e] at h
 exact h
def zAV (nm:ByteArray -> Nat) (S:Nat -> List OpR) (acc:List OpR) (us:List ByteArray):List OpR:=us.foldl (fun a u=>ZQ a (S (nm u))) acc
theorem zDa (nm:ByteArray -> Nat) (S:Nat -> List OpR) (acc:List OpR) (u:ByteArray) (r:List ByteArray):zAV nm S acc (u :: r) = zAV nm S (ZQ acc (S (nm u))) r:=rfl
theorem zJq (nm:ByteArray -> Nat) (S:Nat -> List OpR) (acc:List OpR) (us:List ByteArray) (u:ByteArray):zAV nm S acc (us ++ [u]) = ZQ (zAV nm S acc us) (S (nm u)):=by
 unfold zAV; rw [List.foldl_append]; rfl
theorem zLK (nm:ByteArray -> Nat) (S:Nat -> List OpR):∀ (us:List ByteArray) (acc:List OpR),acc.length <= (zAV nm S acc us).length
 | [],_=>Nat.le_refl _
 | u :: r,acc=>Nat.le_trans (zF1 _ acc) (zLK nm S r _)
theorem zD6 (nm:ByteArray -> Nat) (S:Nat -> List OpR):∀ (us:List ByteArray) (acc:List OpR),acc.Nodup -> (zAV nm S acc us).Nodup
 | [],_,h=>h
 | u :: r,acc,h=>zD6 nm S r _ (zB4 _ _ h)
theorem zEb (nm:ByteArray -> Nat) (S:Nat -> List OpR) {x:OpR}:∀ (us:List ByteArray) (acc:List OpR),x ∈ zAV nm S acc us ↔ x ∈ acc \/ ∃ u ∈ us,x ∈ S (nm u)
 | [],acc=>by simp [zAV]
 | u :: r,acc=>by
  rw [zDa,zEb nm S r,zA8]
  simp only [List.mem_cons,exists_eq_or_imp]
  constructor
  ·rintro ((h | h) | h)
   ·exact Or.inl h
   ·exact Or.inr (Or.inl h)
   ·exact Or.inr (Or.inr h)
  ·rintro (h | h | h)
   ·exact Or.inl (Or.inl h)
   ·exact Or.inl (Or.inr h)
   ·exact Or.inr h
theorem zEz {nm:ByteArray -> Nat} {S T:Nat -> List OpR}:∀ (us:List ByteArray) (acc:List OpR),(∀ u ∈ us,S (nm u) = T (nm u)) -> zAV nm S acc us = zAV nm T acc us
 | [],_,_=>rfl
 | u :: r,acc,h=>by
  rw [zDa,zDa,h u (by simp)]
  exact zEz r _ (fun x hx=>h x (by simp [hx]))
def zPn (acc:List ByteArray) (u:ByteArray):List ByteArray:=if acc.any (fun x=>decide (x = u)) = true then acc else acc ++ [u]
def dst (us:List ByteArray):List ByteArray:=us.foldl zPn []
end Go.Proofs.YtgiemobdmbijiaaGreatDoor
namespace Go.Proofs.YtgiemobdmbijiaaGreatDoor
set_option maxHeartbeats 16000000
set_option maxRecDepth 100000
open Go.RowKit
structure zI where
 n:ByteArray
 t:ByteArray
def zI.zero:zI:=⟨⟨#[]⟩,⟨#[]⟩⟩
def atM (xs:List zI) (i:Nat):zI:=xs.getD i zI.zero
def zHt (w:World) (b off:Nat) (xs:List zI) (i:Nat):Prop:=
 w.cell? ⟨b,off + i * 2,none⟩ = some (.string (atM xs i).n) /\ w.cell? ⟨b,off + i * 2 + 1,none⟩ = some (.string (atM xs i).t)
def zLL (w:World) (b off:Nat) (xs:List zI):Prop:=∀ i,i < xs.length -> zHt w b off xs i
def zHu (xs:List zI):Prop:=∀ i,i < xs.length -> (atM xs i).n.size <= maxLen /\ (atM xs i).t.size <= maxLen
theorem zHt.below {w w':World} {b off i:Nat} {xs:List zI} {B:Nat} (h:zHt w b off xs i) (hb:Below B w w') (hB:b < B):zHt w' b off xs i:=by
 obtain ⟨h0,h1⟩:=h
 exact ⟨(hb.cell (p:=⟨b,_,none⟩) hB).trans h0,(hb.cell (p:=⟨b,_,none⟩) hB).trans h1⟩
theorem zLL.below {w w':World} {b off:Nat} {xs:List zI} {B:Nat} (h:zLL w b off xs) (hb:Below B w w') (hB:b < B):zLL w' b off xs:=
 fun i hi=>(h i hi).below hb hB
def zGe (w:World) (a:Option Addr) (xs:List zI):Prop:=xs.length = 0 \/ ∃ b off,a = some ⟨b,off,none⟩ /\ zLL w b off xs /\ b < w.heap.size
theorem zGe.below {w w':World} {a:Option Addr} {xs:List zI} (h:zGe w a xs) (hb:Below w.heap.size w w'):zGe w' a xs:=by
 rcases h with h | ⟨b,off,rfl,h1,h2⟩
 ·exact Or.inl h
 ·exact Or.inr ⟨b,off,rfl,h1.below hb h2,Nat.lt_of_lt_of_le h2 hb.size⟩
end Go.Proofs.YtgiemobdmbijiaaGreatDoor
namespace Go.Proofs.YtgiemobdmbijiaaGreatDoor
set_option linter.unusedSimpArgs false
set_option linter.unusedVariables false
set_option maxHeartbeats 16000000
set_option maxRecDepth 100000
structure UnR where
 us:List ByteArray
 os:List OpR
 b:ByteArray
def atU (U:List UnR) (i:Nat):UnR:=U.getD i ⟨[],[],ByteArray.empty⟩
def nmF:List zI -> ByteArray -> Nat
 | [],_=>0
 | m :: r,u=>if m.n = u then 0 else nmF r u + 1
theorem zEc:∀ (ms:List zI) (u:ByteArray),nmF ms u <= ms.length
 | [],_=>Nat.le_refl _
 | m :: r,u=>by
  unfold nmF
  split
  ·exact Nat.zero_le _
  ·have:=zEc r u; simp; omega
theorem zIu (m:zI) (r:List zI) (i:Nat):atM (m :: r) (i + 1) = atM r i:=by simp [atM]
theorem zAL:∀ (ms:List zI) (u:ByteArray),(nmF ms u < ms.length -> (atM ms (nmF ms u)).n = u) /\ ∀ j,j < nmF ms u -> (atM ms j).n ≠ u
 | [],_=>⟨fun h=>absurd h (Nat.not_lt_zero _),fun j h=>absurd h (Nat.not_lt_zero _)⟩
 | m :: r,u=>by
  obtain ⟨h1,h2⟩:=zAL r u
  unfold nmF
  by_cases e:m.n = u
  ·rw [if_pos e]
   exact ⟨fun _=>e,fun j h=>absurd h (Nat.not_lt_zero _)⟩
  ·rw [if_neg e]
   refine ⟨fun h=>?_,fun j h=>?_⟩
   ·rw [zIu]
    exact h1 (by simpa using h)
   ·cases j with
    | zero=>exact e
    | succ j=>rw [zIu]; exact h2 j (by omega)
theorem zKn {ms:List zI} {u:ByteArray} {k:Nat} (hk:k < ms.length) (h1:(atM ms k).n = u) (h2:∀ j,j < k -> (atM ms j).n ≠ u):nmF ms u = k:=by
 obtain ⟨g1,g2⟩:=zAL ms u
 have hle:=zEc ms u
 rcases Nat.lt_trichotomy (nmF ms u) k with h | h | h
 ·exact absurd (g1 (by omega)) (h2 _ h)
 ·exact h
 ·exact absurd h1 (g2 k h)
theorem zMJ {ms:List zI} {u:ByteArray} (h:∀ j,j < ms.length -> (atM ms j).n ≠ u):nmF ms u = ms.length:=by
 have hle:=zEc ms u
 by_cases e:nmF ms u < ms.length
 ·exact absurd ((zAL ms u).1 e) (h _ e)
 ·omega
def zBD (ms:List zI) (U:List UnR):Prop:=U.length = ms.length /\ ∀ i,i < ms.length -> zn (atM ms i).t (atU U i).us (atU U i).os (atU U i).b 0 0
def B2 (ms:List zI) (i:Nat):Prop:=(∃ us os b c l,zn (atM ms i).t us os b c l /\ c ≠ 0) \/ ¬ zBY (atM ms i).n \/ 64 < (atM ms i).n.size
def B3 (ms:List zI) (i:Nat):Prop:=∃ j,j < i /\ (atM ms j).n = (atM ms i).n
def B4 (ms:List zI) (U:List UnR) (i:Nat):Prop:=∃ u ∈ (atU U i).us,∀ j,j < ms.length -> (atM ms j).n ≠ u
def Edg (ms:List zI) (U:List UnR) (i j:Nat):Prop:=i < ms.length /\ j < ms.length /\ (atM ms j).n ∈ (atU U i).us
def ScE (ms:List zI) (U:List UnR) (S:Nat -> List OpR):Prop:=∀ i,i < ms.length -> S i = zAV (nmF ms) S (ZQ [] (atU U i).os) (atU U i).us
def B6 (S:Nat -> List OpR) (i:Nat):Prop:=∃ c,zZ (S i) c /\ c ≠ 0
def zDb (n:Nat) (B:Nat -> Prop) (P:Nat -> Prop) (R:Prop):Prop:=(∃ i,i < n /\ B i /\ (∀ j,j < i -> ¬ B j) /\ P i) \/ ((∀ i,i < n -> ¬ B i) /\ R)
def zPa (ms:List zI) (U:List UnR) (out:List (List OpR)) (c who:Int):Prop:=
 ∃ S:Nat -> List OpR,ScE ms U S /\ zDb ms.length (B6 S) (fun i=>out = [] /\ c = 6 /\ who = (i:Int)) (out = (List.range ms.length).map S /\ c = 0 /\ who = 0)
def zMK (ms:List zI) (U:List UnR) (out:List (List OpR)) (c who:Int):Prop:=
 zDb ms.length (fun i=>TC (Edg ms U) i i) (fun i=>out = [] /\ c = 5 /\ who = (i:Int)) (zPa ms U out c who)
def zOd (ms:List zI) (out:List (List OpR)) (c who:Int):Prop:=
 ∃ U,zBD ms U /\ zDb ms.length (B4 ms U) (fun i=>out = [] /\ c = 4 /\ who = (i:Int)) (zMK ms U out c who)
def zML (ms:List zI) (out:List (List OpR)) (c who:Int):Prop:=
 zDb ms.length (B3 ms) (fun i=>out = [] /\ c = 3 /\ who = (i:Int)) (zOd ms out c who)
def zAW (ms:List zI) (out:List (List OpR)) (c who:Int):Prop:=
 (100 < ms.length /\ out = [] /\ c = 1 /\ who = 100) \/ (ms.length <= 100 /\ zDb ms.length (B2 ms) (fun i=>out = [] /\ c = 2 /\ who = (i:Int)) (zML ms out c who))
theorem ScE.nd {ms:List zI} {U:List UnR} {S:Nat -> List OpR} (h:ScE ms U S) {i:Nat} (hi:i < ms.length):(S i).Nodup:=by
 rw [h i hi]
 exact zD6 _ _ _ _ (zB4 _ _ (by simp))
theorem zE0 (l:ByteArray):∀ (n i:Nat),l.size - i < n -> i <= l.size -> 2 * (zAg l i).length <= l.size - i + 1
 | 0,i,hn,hi=>by omega
 | n + 1,i,hn,hi=>by
  obtain ⟨g1,g2,_,_⟩:=Z3 32 l i hi
  rw [zAv l i hi,List.length_append]
  have hr:2 * (if nx 32 l i < l.size then zAg l (nx 32 l i + 1) else []).length <= l.size - nx 32 l i:=by
   by_cases h:nx 32 l i < l.size
   ·rw [if_pos h]
    have:=zE0 l n (nx 32 l i + 1) (by omega) (by omega)
    omega
   ·rw [if_neg h]; simp
  by_cases h:i < nx 32 l i
  ·rw [if_pos h]; simp only [List.length_cons,List.length_nil]; omega
  ·rw [if_neg h]; simp only [List.length_nil]; omega
theorem zNq (l:ByteArray):2 * (wds l).length <= l.size + 1:=by
 have:=zE0 l (l.size + 1) 0 (by omega) (Nat.zero_le _)
 rw [zLi]
 omega
def zHA (ls:List (Nat × Nat)):Nat:=(ls.map fun p=>p.2 - p.1).sum
theorem zKo (c:UInt8) (s:ByteArray):∀ (n a:Nat),s.size - a < n -> a <= s.size -> zHA (pcs c s a) <= s.size - a
 | 0,a,hn,ha=>by omega
 | n + 1,a,hn,ha=>by
  obtain ⟨g1,g2,_,_⟩:=Z3 c s a ha
  rw [zAY c s a ha]
  simp only [zHA,List.map_cons,List.sum_cons]
  by_cases h:nx c s a < s.size
  ·rw [if_pos h]
   have:=zKo c s n (nx c s a + 1) (by omega) (by omega)
   simp only [zHA] at this
   omega
  ·rw [if_neg h]; simp; omega
theorem zOx (s:ByteArray) (a b:Nat):(s.extract a b).size <= b - a:=by
 simp only [ByteArray.size_extract]; omega
theorem UnF.ops {s:ByteArray}:∀ (ls:List (Nat × Nat)) (n:Nat) (us:List ByteArray) (os:List OpR) {u:List ByteArray} {o:List OpR} {b:ByteArray} {c l:Int},UnF s ls n us os u o b c l -> 5 * o.length <= 5 * os.length + zHA ls /\ (c = 0 -> l = 0)
 | [],n,us,os,_,_,_,_,_,h=>by
  obtain ⟨rfl,rfl,rfl,rfl,rfl⟩:=h
  exact ⟨by simp,fun _=>rfl⟩
 | p :: r,n,us,os,u,o,b,c,l,h=>by
  simp only [zHA,List.map_cons,List.sum_cons]
  rcases h with ⟨_,rfl,rfl,rfl,rfl,rfl⟩ | ⟨_,⟨us',os',hl,h⟩ | ⟨_,rfl,rfl,rfl,rfl,rfl⟩⟩
  ·exact ⟨by omega,fun _=>rfl⟩
  ·have ih:=UnF.ops r (n + 1) us' os' h
   refine ⟨?_,ih.2⟩
   have h1:=ih.1
   simp only [zHA] at h1
   rcases hl with ⟨_,rfl,rfl⟩ | ⟨x,_,rfl,rfl⟩ | ⟨o',ho,rfl,rfl⟩
   ·omega
   ·omega
   ·have h3:=ho.len
    have h4:=zNq (s.extract p.1 p.2)
    have h5:=zOx s p.1 p.2
    simp only [List.length_append,List.length_cons,List.length_nil] at h1
    omega
  ·exact ⟨by simp,fun e=>by cases e⟩
theorem zD7 {s:ByteArray} {u:List ByteArray} {o:List OpR} {b:ByteArray} {c l:Int} (h:zn s u o b c l):o.length <= 4000 /\ (c = 0 -> l = 0):=by
 rcases h with ⟨_,rfl,rfl,rfl,rfl,rfl⟩ | ⟨h0,h⟩
 ·exact ⟨by simp,fun e=>by cases e⟩
 ·have h1:=UnF.ops _ _ _ _ h
  have h2:=zKo 10 s (s.size + 1) 0 (by omega) (Nat.zero_le _)
  exact ⟨by simp only [List.length_nil] at h1; omega,h1.2⟩
theorem zKp (c:UInt8) (s:ByteArray):∀ (n a:Nat),s.size - a < n -> a <= s.size -> (pcs c s a).length <= s.size - a + 1
 | 0,a,hn,ha=>by omega
 | n + 1,a,hn,ha=>by
  obtain ⟨g1,g2,_,_⟩:=Z3 c s a ha
  rw [zAY c s a ha,List.length_cons]
  by_cases h:nx c s a < s.size
  ·rw [if_pos h]
   have:=zKp c s n (nx c s a + 1) (by omega) (by omega)
   omega
  ·rw [if_neg h]; simp
theorem UnF.uses {s:ByteArray}:∀ (ls:List (Nat × Nat)) (n:Nat) (us:List ByteArray) (os:List OpR) {u:List ByteArray} {o:List OpR} {b:ByteArray} {c l:Int},UnF s ls n us os u o b c l -> u.length <= us.length + ls.length /\ ((∀ x ∈ us,x.size <= s.size) -> ∀ x ∈ u,x.size <= s.size)
 | [],n,us,os,_,_,_,_,_,h=>by
  obtain ⟨rfl,rfl,rfl,rfl,rfl⟩:=h
  exact ⟨by simp,fun _ x hx=>by cases hx⟩
 | p :: r,n,us,os,u,o,b,c,l,h=>by
  rcases h with ⟨_,rfl,rfl,rfl,rfl,rfl⟩ | ⟨_,⟨us',os',hl,h⟩ | ⟨_,rfl,rfl,rfl,rfl,rfl⟩⟩
  ·exact ⟨by simp,fun h=>h⟩
  ·have ih:=UnF.uses r (n + 1) us' os' h
   rcases hl with ⟨_,rfl,rfl⟩ | ⟨x,hx,rfl,rfl⟩ | ⟨o',ho,rfl,rfl⟩
   ·exact ⟨by have:=ih.1; simp; omega,ih.2⟩
   ·refine ⟨by have:=ih.1; simp at this ⊢; omega,fun h0=>ih.2 (fun z hz=>?_)⟩
    rcases List.mem_append.1 hz with hz | hz
    ·exact h0 z hz
    ·have hm:z ∈ wds (s.extract p.1 p.2):=by rw [hx]; simp at hz; subst hz; simp
     unfold wds at hm
     obtain ⟨q,_,rfl⟩:=List.mem_map.1 hm
     simp only [ByteArray.size_extract]
     omega
   ·exact ⟨by have:=ih.1; simp; omega,ih.2⟩
  ·exact ⟨by simp,fun _ x hx=>by cases hx⟩
theorem zDD {s:ByteArray} {u:List ByteArray} {o:List OpR} {b:ByteArray} {c l:Int} (h:zn s u o b c l):u.length <= 20001 /\ ∀ x ∈ u,x.size <= 20000:=by
 rcases h with ⟨_,rfl,rfl,rfl,rfl,rfl⟩ | ⟨h0,h⟩
 ·exact ⟨by simp,fun x hx=>by cases hx⟩
 ·have h1:=UnF.uses _ _ _ _ h
  have h2:=zKp 10 s (s.size + 1) 0 (by omega) (Nat.zero_le _)
  exact ⟨by simp only [List.length_nil] at h1; omega,fun x hx=>Nat.le_trans (h1.2 (fun y hy=>by cases hy) x hx) h0⟩
def zBg (U:List UnR):List OpR:=U.flatMap fun u=>u.os
theorem zF3:∀ (U:List UnR),(∀ u ∈ U,u.os.length <= 4000) -> (zBg U).length <= U.length * 4000
 | [],_=>by simp [zBg]
 | u :: r,h=>by
  have:=zF3 r (fun x hx=>h x (by simp [hx]))
  have h1:=h u (by simp)
  simp only [zBg,List.flatMap_cons,List.length_append,List.length_cons] at *
  omega
theorem zKq {U:List UnR} {i:Nat} (h:i < U.length):atU U i ∈ U:=by
 unfold atU
 rw [List.getD_eq_getElem?_getD,List.getElem?_eq_getElem h]
 exact List.getElem_mem h
theorem zKr {U:List UnR} {u:UnR} (h:u ∈ U):∃ i,i < U.length /\ atU U i = u:=by
 obtain ⟨i,hi,e⟩:=List.getElem_of_mem h
 refine ⟨i,hi,?_⟩
 unfold atU
 rw [List.getD_eq_getElem?_getD,List.getElem?_eq_getElem hi]
 exact e
theorem zBD.all {ms:List zI} {U:List UnR} (h:zBD ms U) (hn:ms.length <= 100):(zBg U).length <= 400000:=by
 have:=zF3 U (fun u hu=>by
  obtain ⟨i,hi,rfl⟩:=zKr hu
  exact (zD7 (h.2 i (by rw [<- h.1]; exact hi))).1)
 have h1:=h.1
 omega
theorem zOy {ms:List zI} {i:Nat} (h:¬ B2 ms i) {us:List ByteArray} {os:List OpR} {b:ByteArray} {c l:Int} (hu:zn (atM ms i).t us os b c l):c = 0 /\ l = 0 /\ zBY (atM ms i).n /\ (atM ms i).n.size <= 64:=by
 unfold B2 at h
 have hc:c = 0:=by
  by_cases e:c = 0
  ·exact e
  ·exact absurd (Or.inl ⟨us,os,b,c,l,hu,e⟩) h
 refine ⟨hc,(zD7 hu).2 hc,?_,?_⟩
 ·by_cases e:zBY (atM ms i).n
  ·exact e
  ·exact absurd (Or.inr (Or.inl e)) h
 ·by_cases e:64 < (atM ms i).n.size
  ·exact absurd (Or.inr (Or.inr e)) h
  ·omega
end Go.Proofs.YtgiemobdmbijiaaGreatDoor
namespace Go.Proofs.YtgiemobdmbijiaaGreatDoor
set_option maxHeartbeats 16000000
set_option maxRecDepth 100000
open Go.RowKit
def zHB (first:Nat) (s:ByteArray):Prop:=1 <= s.size /\ cls (bt s 0) = first /\ ∀ j,j < s.size -> zBb first (bt s j) = true
theorem zJr (first:Nat) (s:ByteArray) (w:World) (hs:s.size <= maxLen) :
  Calls Tryz.prog 70 #[.int .i64 (first:Int),.string s] w fun e w'=>zHb e (zHB first s) /\ w' = w:=by
 unfold maxLen at hs
 by_cases h0:s.size = 0
 ·have HN:=zB (show ¬ zHB first s from fun h=>by have:=h.1; omega)
  obtain rfl:=zES h0
  go_enter Tryz.func70,Tryz.ntmps70
  go_wp2_with fail
  go_ret
  exact ⟨⟨_,rfl,zu (zA HN)⟩,rfl⟩
 have hne:=zER h0
 have h0I:(0:Int) < (s.size:Int):=by omega
 have h0N:0 < s.size:=by omega
 by_cases hc:cls (bt s 0) = first
 case neg=>
  have HN:=zB (show ¬ zHB first s from fun h=>hc h.2.1)
  have hb:=ZH h0N
  have hc':((cls s[0]:Int) != (first:Int)) = true:=by rw [hb]; simp; omega
  clear hb
  go_enter Tryz.func70,Tryz.ntmps70
  go_wp2_with (go_at_call 94; refine (Zq _ _).mono ?_; rintro e w' ⟨rfl,hx⟩; obtain rfl:=hx.symm)
  go_ret
  exact ⟨⟨_,rfl,zu (zA HN)⟩,rfl⟩
 have HC:=zB hc
 have hb:=ZH h0N
 have HX:=zB (show (cls s[0]:Int) = (first:Int) by rw [hb]; omega)
 clear hb hc
 go_enter Tryz.func70,Tryz.ntmps70
 go_wp2_with (go_at_call 94; refine (Zq _ _).mono ?_; rw [zA HX]; rintro e w' ⟨rfl,hx⟩; obtain rfl:=hx.symm)
 go_loop [17] (fun i=>∃ k:Nat,k <= s.size /\ i = .int .i64 (k:Int) /\ Hid (∀ j,j < k -> zBb first (bt s j) = true)) (fun i=>s.size - (intOf i).toNat)
 case atStart=>exact ⟨0,Nat.zero_le _,rfl,zB (fun j h=>by omega)⟩
 case round=>
  obtain ⟨k,hk,rfl,hn⟩:=hrel
  by_cases hlt:k < s.size
  ·have hltI:(k:Int) < (s.size:Int):=by omega
   cases hb:zBb first s[k]
   ·have Hb:=zB (show zBb first (bt s k) = false by rw [<- ZH hlt]; exact hb)
    go_wp2_with (go_at_call 95; refine (zDK _ _ _).mono ?_; rintro e w' ⟨rfl,hx⟩; obtain rfl:=hx.symm)
    go_ret
    exact ⟨⟨_,rfl,zu (fun h=>by have:=h.2.2 k hlt; rw [zA Hb] at this; cases this)⟩,rfl⟩
   ·have Hb:=zB (show zBb first (bt s k) = true by rw [<- ZH hlt]; exact hb)
    go_wp2_with (go_at_call 95; refine (zDK _ _ _).mono ?_; rintro e w' ⟨rfl,hx⟩; obtain rfl:=hx.symm)
    refine ⟨⟨k + 1,by omega,by go_num,zB (fun j hj=>?_)⟩,by simp [intOf]; omega⟩
    by_cases e:j = k
    ·subst e; exact zA Hb
    ·exact (zA hn) j (by omega)
  ·go_wp2_with fail
   go_ret
   exact ⟨⟨_,rfl,zB3 ⟨by omega,zA HC,fun j hj=>(zA hn) j (by omega)⟩⟩,rfl⟩
theorem zNr (s:ByteArray):zHB 2 s ↔ zDS s:=by
 unfold zHB zDS zBb
 constructor
 ·rintro ⟨h1,h2,h3⟩
  refine ⟨h1,fun j hj=>?_⟩
  have:=h3 j hj
  simpa using this
 ·rintro ⟨h1,h2⟩
  exact ⟨h1,h2 0 (by omega),fun j hj=>by simp [h2 j hj]⟩
end Go.Proofs.YtgiemobdmbijiaaGreatDoor
