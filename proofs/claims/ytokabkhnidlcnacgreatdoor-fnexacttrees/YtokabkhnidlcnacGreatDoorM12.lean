import Derived.Deep.MidRow
import Derived.Deep.RegionHeld
import Derived.Laws.MakeOwn
import Derived.OwnWalk
import Derived.Laws.OwnMore
import Derived.Deep.Trees
import Derived.Test.YtokabkhnidlcnacGreatDoorM00
import Derived.Test.YtokabkhnidlcnacGreatDoorM01
import Derived.Test.YtokabkhnidlcnacGreatDoorM10
import Derived.Test.YtokabkhnidlcnacGreatDoorM11
namespace Go.Proofs.YtokabkhnidlcnacGreatDoor
set_option maxHeartbeats 16000000
set_option maxRecDepth 100000
open Go.RowKit
def sub (s:ByteArray) (i n:Nat):ByteArray:=s.extract i (i + n)
theorem zAO {s:ByteArray} {i n:Nat} (h:i + n <= s.size):(sub s i n).size = n:=by
 unfold sub
 rw [ByteArray.size_extract]
 omega
theorem zCl {s:ByteArray} {i n j:Nat} (h:i + n <= s.size) (hj:j < n):bt (sub s i n) j = bt s (i + j):=by
 have h':i + n <= s.data.size:=h
 unfold bt sub
 rw [ByteArray.data_extract,Array.getElem?_extract,if_pos (by omega)]
theorem zBE {t:ByteArray} {c:UInt8} (h:t.size = 1):t = ⟨#[c]⟩ ↔ bt t 0 = c:=by
 obtain ⟨⟨l⟩⟩:=t
 match l,h with
 | [x],_=>simp [bt]
def opT (xs:List OpR) (t:ByteArray):Prop:=∃ j,j < xs.length /\ (atO xs j).s = t
def zBF (xs:List OpR) (s:ByteArray) (i n k:Nat):Prop:=
 1 <= n /\ i + n <= s.size /\
 (
  (cls (bt s i) = 2 /\ k = 1 /\ (∀ j,j < n -> cls (bt s (i + j)) = 2) /\ (i + n < s.size -> cls (bt s (i + n)) ≠ 2)) \/
  (cls (bt s i) = 3 /\ k = 2 /\ (∀ j,j < n -> (cls (bt s (i + j)) = 2 \/ cls (bt s (i + j)) = 3)) /\ (i + n < s.size -> ¬ (cls (bt s (i + n)) = 2 \/ cls (bt s (i + n)) = 3))) \/
  (cls (bt s i) = 4 /\ k = 4 /\ n = 1) \/ (cls (bt s i) = 5 /\ k = 5 /\ n = 1) \/
  (cls (bt s i) = 6 /\ ((k = 3 /\ opT xs (sub s i n) /\ ∀ m,n < m -> i + m <= s.size -> ¬ opT xs (sub s i m)) \/ (k = 6 /\ n = 1 /\ ∀ m,1 <= m -> i + m <= s.size -> ¬ opT xs (sub s i m)))) \/
  (cls (bt s i) = 0 /\ k = 6 /\ n = 1))
theorem zBF.one {xs:List OpR} {s:ByteArray} {i n k n' k':Nat} (h:zBF xs s i n k) (h':zBF xs s i n' k'):n = n' /\ k = k':=by
 obtain ⟨h1,h2,h⟩:=h
 obtain ⟨h1',h2',h'⟩:=h'
 rcases h with ⟨c,rfl,a,b⟩ | ⟨c,rfl,a,b⟩ | ⟨c,rfl,rfl⟩ | ⟨c,rfl,rfl⟩ | ⟨c,h⟩ | ⟨c,rfl,rfl⟩
 ·rcases h' with ⟨c',rfl,a',b'⟩ | ⟨c',_⟩ | ⟨c',_⟩ | ⟨c',_⟩ | ⟨c',_⟩ | ⟨c',_⟩ <;> try omega
  refine ⟨?_,rfl⟩
  rcases Nat.lt_trichotomy n n' with e | e | e
  ·exact absurd (a' n e) (b (by omega))
  ·exact e
  ·exact absurd (a n' e) (b' (by omega))
 ·rcases h' with ⟨c',_⟩ | ⟨c',rfl,a',b'⟩ | ⟨c',_⟩ | ⟨c',_⟩ | ⟨c',_⟩ | ⟨c',_⟩ <;> try omega
  refine ⟨?_,rfl⟩
  rcases Nat.lt_trichotomy n n' with e | e | e
  ·exact absurd (a' n e) (b (by omega))
  ·exact e
  ·exact absurd (a n' e) (b' (by omega))
 ·rcases h' with ⟨c',_⟩ | ⟨c',_⟩ | ⟨c',rfl,rfl⟩ | ⟨c',_⟩ | ⟨c',_⟩ | ⟨c',_⟩ <;> omega
 ·rcases h' with ⟨c',_⟩ | ⟨c',_⟩ | ⟨c',_⟩ | ⟨c',rfl,rfl⟩ | ⟨c',_⟩ | ⟨c',_⟩ <;> omega
 ·rcases h' with ⟨c',_⟩ | ⟨c',_⟩ | ⟨c',_⟩ | ⟨c',_⟩ | ⟨c',h'⟩ | ⟨c',_⟩ <;> try omega
  rcases h with ⟨rfl,a,b⟩ | ⟨rfl,rfl,b⟩
  ·rcases h' with ⟨rfl,a',b'⟩ | ⟨rfl,rfl,b'⟩
   ·refine ⟨?_,rfl⟩
    rcases Nat.lt_trichotomy n n' with e | e | e
    ·exact absurd a' (b n' e h2')
    ·exact e
    ·exact absurd a (b' n e h2)
   ·exact absurd a (b' n h1 h2)
  ·rcases h' with ⟨rfl,a',b'⟩ | ⟨rfl,rfl,b'⟩
   ·exact absurd a' (b n' h1' h2')
   ·exact ⟨rfl,rfl⟩
 ·rcases h' with ⟨c',_⟩ | ⟨c',_⟩ | ⟨c',_⟩ | ⟨c',_⟩ | ⟨c',_⟩ | ⟨c',rfl,rfl⟩ <;> omega
def zCm (s:ByteArray) (i j:Nat):Prop:=∀ q,i <= q -> q < j -> cls (bt s q) = 1
def Zd (xs:List OpR) (s:ByteArray):Nat -> List zK -> Prop
 | _,[]=>False
 | i,t :: out=>(out = [] /\ i <= s.size /\ zCm s i s.size /\ t = ⟨7,s.extract i s.size,⟨#[]⟩⟩) \/
   ∃ j n k:Nat,i <= j /\ j < s.size /\ zCm s i j /\ cls (bt s j) ≠ 1 /\ zBF xs s j n k /\ t = ⟨(k:Int),s.extract i j,s.extract j (j + n)⟩ /\ Zd xs s (j + n) out
theorem Zd.fin {xs:List OpR} {s:ByteArray} {i:Nat} (h1:i <= s.size) (h2:zCm s i s.size):Zd xs s i [⟨7,s.extract i s.size,⟨#[]⟩⟩]:=Or.inl ⟨rfl,h1,h2,rfl⟩
theorem Zd.tok {xs:List OpR} {s:ByteArray} {i j n k:Nat} {out:List zK} (a:i <= j) (b:j < s.size) (c:zCm s i j) (d:cls (bt s j) ≠ 1) (e:zBF xs s j n k) (f:Zd xs s (j + n) out) :
  Zd xs s i (⟨(k:Int),s.extract i j,s.extract j (j + n)⟩ :: out):=Or.inr ⟨j,n,k,a,b,c,d,e,rfl,f⟩
theorem Zd.one {xs:List OpR} {s:ByteArray}:∀ (o o':List zK) (i:Nat),Zd xs s i o -> Zd xs s i o' -> o = o'
 | [],_,_,h,_=>h.elim
 | _ :: _,[],_,_,h=>h.elim
 | t :: o,t' :: o',i,h,h'=>by
  rcases h with ⟨rfl,hi,hb,rfl⟩ | ⟨j,n,k,a,b,c,d,e,rfl,f⟩
  ·rcases h' with ⟨rfl,_,_,rfl⟩ | ⟨j',n',k',a',b',c',d',e',rfl,f'⟩
   ·rfl
   ·exact absurd (hb _ a' b') d'
  ·rcases h' with ⟨rfl,hi,hb,rfl⟩ | ⟨j',n',k',a',b',c',d',e',rfl,f'⟩
   ·exact absurd (hb _ a b) d
   ·have hj:j = j':=by
     rcases Nat.lt_trichotomy j j' with x | x | x
     ·exact absurd (c' j a x) d
     ·exact x
     ·exact absurd (c j' a' x) d'
    subst hj
    obtain ⟨rfl,rfl⟩:=e.one e'
    rw [Zd.one o o' (j + n) f f']
theorem Zd.len {xs:List OpR} {s:ByteArray}:∀ (o:List zK) (i:Nat),Zd xs s i o -> o.length + i <= s.size + 1
 | [],_,h=>h.elim
 | t :: o,i,h=>by
  rcases h with ⟨rfl,hi,hb,rfl⟩ | ⟨j,n,k,a,b,c,d,e,rfl,f⟩
  ·simp; omega
  ·have:=e.1
   have:=Zd.len o (j + n) f
   simp only [List.length_cons]
   omega
def opB (xs:List OpR) (t:ByteArray):Bool:=(List.range xs.length).any fun j=>(atO xs j).s.data == t.data
theorem zDS (xs:List OpR) (t:ByteArray):opB xs t = true ↔ opT xs t:=by
 have e:∀ a b:ByteArray,(a.data = b.data) ↔ a = b:=fun a b=>⟨fun h=>by cases a; cases b; simp_all,fun h=>by rw [h]⟩
 simp [opB,opT,List.any_eq_true,e]
def ZK (xs:List OpR) (t:ByteArray):Nat:=
 if zOF t = true then 1 else if zMY t = true then 2 else if t.data = #[40] then 4 else if t.data = #[41] then 5 else if opB xs t = true then 3 else 6
def Z4 (xs:List OpR):Prop:=∀ j,j < xs.length -> 1 <= (atO xs j).s.size /\ (atO xs j).s.size <= 16 /\ ∀ q,q < (atO xs j).s.size -> cls (bt (atO xs j).s q) = 6
theorem zAo {xs:List OpR} (h:zBx xs xs.length):Z4 xs:=by
 intro j hj
 have hk:=h j hj
 unfold OpR.ok okB zFR at hk
 simp only [Bool.and_eq_true,decide_eq_true_eq] at hk
 obtain ⟨⟨⟨⟨⟨h1,h2⟩,h3⟩,_⟩,_⟩,_⟩:=hk
 refine ⟨h2,h3,fun q hq=>?_⟩
 have hm:bt (atO xs j).s q ∈ (atO xs j).s.data.toList:=by
  have hq':q < (atO xs j).s.data.size:=hq
  unfold bt
  rw [Array.getElem?_eq_getElem hq']
  simp
 have:=List.all_eq_true.1 h1 _ hm
 rw [zHw] at this
 simpa using this
theorem zH7 {xs:List OpR} {s:ByteArray} {i n:Nat} (hv:Z4 xs) (_h1:1 <= n) (h:i + n <= s.size) (ho:opT xs (sub s i n)):n <= 16 /\ cls (bt s i) = 6:=by
 obtain ⟨j,hj,e⟩:=ho
 obtain ⟨a,b,c⟩:=hv j hj
 have hs:=zAO h
 rw [<- e] at hs
 have:=c 0 (by omega)
 rw [e,zCl h (by omega)] at this
 exact ⟨by omega,this⟩
theorem zM6 {xs:List OpR} {s:ByteArray} {i n:Nat} (hv:Z4 xs) (h1:1 <= n) (h:i + n <= s.size) (hc:cls (bt s i) = 2) :
  (ZK xs (sub s i n) = 1 /\ ∀ j,j < n -> cls (bt s (i + j)) = 2) \/ (ZK xs (sub s i n) = 6 /\ ¬ ∀ j,j < n -> cls (bt s (i + j)) = 2):=by
 have hs:=zAO h
 have h0:bt (sub s i n) 0 = bt s i:=by rw [zCl h (by omega)]; rfl
 by_cases hn:zEb (sub s i n)
 ·refine Or.inl ⟨by simp [ZK,Za,hn],fun j hj=>?_⟩
  have:=hn.2 j (by omega)
  rwa [zCl h hj] at this
 ·refine Or.inr ⟨?_,fun ha=>hn ⟨by omega,fun j hj=>by rw [zCl h (by omega)]; exact ha j (by omega)⟩⟩
  have n2:¬ zAx (sub s i n):=fun hh=>by
   have:=hh.2 0 (by omega)
   rw [h0] at this
   omega
  have n3:¬ sub s i n = ⟨#[40]⟩:=fun e=>by
   have e1:n = 1:=by rw [e] at hs; exact hs.symm
   have:=(zBE (by omega)).1 e
   rw [h0] at this
   have:=(zDy _).2 this
   omega
  have n4:¬ sub s i n = ⟨#[41]⟩:=fun e=>by
   have e1:n = 1:=by rw [e] at hs; exact hs.symm
   have:=(zBE (by omega)).1 e
   rw [h0] at this
   have:=(zDO _).2 this
   omega
  have n5:¬ opT xs (sub s i n):=fun e=>by
   have:=(zH7 hv h1 h e).2
   omega
  simp [ZK,Za,Zh,zDS,zB3,hn,n2,n3,n4,n5]
theorem zJI {xs:List OpR} {s:ByteArray} {i n:Nat} (h1:1 <= n) (h:i + n <= s.size) (hc:cls (bt s i) = 3) (ha:∀ j,j < n -> (cls (bt s (i + j)) = 2 \/ cls (bt s (i + j)) = 3)) :
  ZK xs (sub s i n) = 2:=by
 have hs:=zAO h
 have h0:bt (sub s i n) 0 = bt s i:=by rw [zCl h (by omega)]; rfl
 have n1:¬ zEb (sub s i n):=fun hh=>by
  have:=hh.2 0 (by omega)
  rw [h0] at this
  omega
 have n2:zAx (sub s i n):=by
  refine ⟨by omega,fun j hj=>?_⟩
  rw [hs] at hj
  rw [zCl h hj]
  by_cases e:j = 0
  ·subst e; exact Or.inl hc
  ·have:=ha j hj
   omega
 simp [ZK,Za,Zh,n1,n2]
theorem zHV {xs:List OpR} {s:ByteArray} {i n:Nat} (h1:1 <= n) (h:i + n <= s.size) (hc:cls (bt s i) = 6) :
  (ZK xs (sub s i n) = 3 /\ opT xs (sub s i n)) \/ (ZK xs (sub s i n) = 6 /\ ¬ opT xs (sub s i n)):=by
 have hs:=zAO h
 have h0:bt (sub s i n) 0 = bt s i:=by rw [zCl h (by omega)]; rfl
 have n1:¬ zEb (sub s i n):=fun hh=>by
  have:=hh.2 0 (by omega)
  rw [h0] at this
  omega
 have n2:¬ zAx (sub s i n):=fun hh=>by
  have:=hh.2 0 (by omega)
  rw [h0] at this
  omega
 have n3:¬ sub s i n = ⟨#[40]⟩:=fun e=>by
  have e1:n = 1:=by rw [e] at hs; exact hs.symm
  have:=(zBE (by omega)).1 e
  rw [h0] at this
  have:=(zDy _).2 this
  omega
 have n4:¬ sub s i n = ⟨#[41]⟩:=fun e=>by
  have e1:n = 1:=by rw [e] at hs; exact hs.symm
  have:=(zBE (by omega)).1 e
  rw [h0] at this
  have:=(zDO _).2 this
  omega
 by_cases n5:opT xs (sub s i n)
 ·exact Or.inl ⟨by simp [ZK,Za,Zh,zDS,zB3,n1,n2,n3,n4,n5],n5⟩
 ·exact Or.inr ⟨by simp [ZK,Za,Zh,zDS,zB3,n1,n2,n3,n4,n5],n5⟩
theorem zM7 {xs:List OpR} {s:ByteArray} {i:Nat} (hv:Z4 xs) (h:i + 1 <= s.size) (hc:cls (bt s i) = 4 \/ cls (bt s i) = 5 \/ cls (bt s i) = 0) :
  (cls (bt s i) = 4 /\ ZK xs (sub s i 1) = 4) \/ (cls (bt s i) = 5 /\ ZK xs (sub s i 1) = 5) \/ (cls (bt s i) = 0 /\ ZK xs (sub s i 1) = 6):=by
 have hs:=zAO h
 have h0:bt (sub s i 1) 0 = bt s i:=by rw [zCl h (by omega)]; rfl
 have n1:¬ zEb (sub s i 1):=fun hh=>by
  have:=hh.2 0 (by omega)
  rw [h0] at this
  omega
 have n2:¬ zAx (sub s i 1):=fun hh=>by
  have:=hh.2 0 (by omega)
  rw [h0] at this
  omega
 have n5:¬ opT xs (sub s i 1):=fun e=>by
  have:=(zH7 hv (by omega) h e).2
  omega
 have e4:sub s i 1 = ⟨#[40]⟩ ↔ cls (bt s i) = 4:=by rw [zBE hs,h0,zDy]
 have e5:sub s i 1 = ⟨#[41]⟩ ↔ cls (bt s i) = 5:=by rw [zBE hs,h0,zDO]
 rcases hc with c | c | c
 ·exact Or.inl ⟨c,by simp [ZK,Za,Zh,zB3,n1,n2,e4,c]⟩
 ·exact Or.inr (Or.inl ⟨c,by simp [ZK,Za,Zh,zB3,n1,n2,e4,e5,c]⟩)
 ·exact Or.inr (Or.inr ⟨c,by simp [ZK,Za,Zh,zDS,zB3,n1,n2,e4,e5,n5,c]⟩)
def zLI (s:ByteArray) (i r:Nat):Prop:=
 1 <= r /\ i + r <= s.size /\
 (
  (cls (bt s i) = 6 /\ r <= 16 /\ (r = 16 \/ i + r = s.size)) \/
  ((cls (bt s i) = 2 \/ cls (bt s i) = 3) /\ (∀ j,j < r -> (cls (bt s (i + j)) = 2 \/ cls (bt s (i + j)) = 3)) /\ (i + r < s.size -> ¬ (cls (bt s (i + r)) = 2 \/ cls (bt s (i + r)) = 3))) \/
  ((cls (bt s i) ≠ 6 /\ cls (bt s i) ≠ 2 /\ cls (bt s i) ≠ 3) /\ r = 1))
def zLJ (xs:List OpR) (s:ByteArray) (i r:Nat):Prop:=
 1 <= r /\ (r = 1 \/ ZK xs (sub s i r) ≠ 6) /\ ∃ m,zLI s i m /\ r <= m /\ ∀ q,r < q -> q <= m -> ZK xs (sub s i q) = 6
theorem zJJ {xs:List OpR} {s:ByteArray} {i r:Nat} (hv:Z4 xs) (h:zLJ xs s i r) (hb:cls (bt s i) ≠ 1):zBF xs s i r (ZK xs (sub s i r)):=by
 obtain ⟨h1,h2,m,⟨hm1,hms,hm⟩,hrm,hq⟩:=h
 refine ⟨h1,by omega,?_⟩
 have hc7:=zMX (bt s i)
 rcases hm with ⟨c,hm,hm'⟩ | ⟨c,ha,hm⟩ | ⟨⟨c1,c2,c3⟩,rfl⟩
 ·refine Or.inr (Or.inr (Or.inr (Or.inr (Or.inl ⟨c,?_⟩))))
  have hno:∀ q,r < q -> i + q <= s.size -> ¬ opT xs (sub s i q):=fun q hr hq2 ho=>by
   have:=(zH7 hv (by omega) hq2 ho).1
   have hqm:q <= m:=by omega
   have:=hq q hr hqm
   rcases zHV (xs:=xs) (by omega) hq2 c with ⟨x,_⟩ | ⟨_,x⟩
   ·omega
   ·exact x ho
  rcases zHV (xs:=xs) h1 (by omega) c with ⟨x,y⟩ | ⟨x,y⟩
  ·exact Or.inl ⟨x,y,hno⟩
  ·have hr1:r = 1:=by omega
   refine Or.inr ⟨x,hr1,fun q h1q hq2=>?_⟩
   by_cases e:q = r
   ·subst e; exact y
   ·exact hno q (by omega) hq2
 ·rcases c with c | c
  ·refine Or.inl ?_
   have key:=fun q (a:1 <= q) (b:i + q <= s.size)=>zM6 (xs:=xs) hv a b c
   have hall:ZK xs (sub s i r) = 1 /\ ∀ j,j < r -> cls (bt s (i + j)) = 2:=by
    rcases key r h1 (by omega) with x | ⟨x,y⟩
    ·exact x
    ·exfalso
     have hr1:r = 1:=by omega
     subst hr1
     exact y (fun j hj=>by
      have:j = 0:=by omega
      subst this; exact c)
   refine ⟨c,hall.1,hall.2,fun hlt hd=>?_⟩
   have hrm':r + 1 <= m:=by
    rcases Nat.lt_or_ge r m with x | x
    ·exact x
    ·have:r = m:=by omega
     subst this
     exact absurd (Or.inl hd) (hm hlt)
   have h6:=hq (r + 1) (by omega) hrm'
   rcases key (r + 1) (by omega) (by omega) with ⟨x,_⟩ | ⟨_,y⟩
   ·omega
   ·refine y (fun j hj=>?_)
    by_cases e:j = r
    ·subst e; exact hd
    ·exact hall.2 j (by omega)
  ·refine Or.inr (Or.inl ?_)
   have hrm':r = m:=by
    rcases Nat.lt_or_ge r m with x | x
    ·have:=hq m x (Nat.le_refl _)
     rw [zJI (xs:=xs) hm1 hms c ha] at this
     omega
    ·omega
   subst hrm'
   exact ⟨c,zJI hm1 hms c ha,ha,hm⟩
 ·have hr1:r = 1:=by omega
  subst hr1
  rcases zM7 (xs:=xs) hv hms (by omega) with ⟨c,x⟩ | ⟨c,x⟩ | ⟨c,x⟩
  ·exact Or.inr (Or.inr (Or.inl ⟨c,x,rfl⟩))
  ·exact Or.inr (Or.inr (Or.inr (Or.inl ⟨c,x,rfl⟩)))
  ·exact Or.inr (Or.inr (Or.inr (Or.inr (Or.inr ⟨c,x,rfl⟩))))
structure zD where
 k:Int
 t:ByteArray
 a:Int
 b:Int
def zD.zero:zD:=⟨0,⟨#[]⟩,0,0⟩
def atN (xs:List zD) (i:Nat):zD:=xs.getD i zD.zero
def zEk (w:World) (b off:Nat) (xs:List zD) (i:Nat):Prop:=
 w.cell? ⟨b,off + i * 4,none⟩ = some (.int .i64 (atN xs i).k) /\ w.cell? ⟨b,off + i * 4 + 1,none⟩ = some (.string (atN xs i).t) /\ w.cell? ⟨b,off + i * 4 + 2,none⟩ = some (.int .i64 (atN xs i).a) /\ w.cell? ⟨b,off + i * 4 + 3,none⟩ = some (.int .i64 (atN xs i).b)
def zH8 (w:World) (b off:Nat) (xs:List zD):Prop:=∀ i,i < xs.length -> zEk w b off xs i
theorem zEk.below {w w':World} {b off i:Nat} {xs:List zD} {B:Nat} (h:zEk w b off xs i) (hb:Below B w w') (hB:b < B):zEk w' b off xs i:=by
 obtain ⟨h0,h1,h2,h3⟩:=h
 exact ⟨(hb.cell (p:=⟨b,_,none⟩) hB).trans h0,(hb.cell (p:=⟨b,_,none⟩) hB).trans h1,(hb.cell (p:=⟨b,_,none⟩) hB).trans h2,(hb.cell (p:=⟨b,_,none⟩) hB).trans h3⟩
theorem zH8.below {w w':World} {b off:Nat} {xs:List zD} {B:Nat} (h:zH8 w b off xs) (hb:Below B w w') (hB:b < B):zH8 w' b off xs:=
 fun i hi=>(h i hi).below hb hB
def zEl (w:World) (a:Option Addr) (xs:List zD):Prop:=xs.length = 0 \/ ∃ b off,a = some ⟨b,off,none⟩ /\ zH8 w b off xs /\ b < w.heap.size
theorem zEl.below {w w':World} {a:Option Addr} {xs:List zD} (h:zEl w a xs) (hb:Below w.heap.size w w'):zEl w' a xs:=by
 rcases h with h | ⟨b,off,rfl,h1,h2⟩
 ·exact Or.inl h
 ·exact Or.inr ⟨b,off,rfl,h1.below hb h2,Nat.lt_of_lt_of_le h2 hb.size⟩
theorem zEl.alloc {w:World} {a:Option Addr} {xs:List zD} (h:zEl w a xs) (o:Obj):zEl (w.alloc o) a xs:=h.below (zC _ _)
def zh (w:World) (g:Nat) (xs:List zD) (k:Nat):Prop:=
 g < w.heap.size /\ w.there g 0 (xs.length * 4) /\ ∀ i,i < k -> zEk w g 0 xs i
theorem zh.grown {w w':World} {g k:Nat} {xs:List zD} {row:Option Nat} (h:zh w g xs k) (hg:w.grownBy w' row) (hne:some g ≠ row):zh w' g xs k:=by
 obtain ⟨h1,h2,h3⟩:=h
 have hb:=hg.block g h1 hne
 have e:∀ o,w'.cell? ⟨g,o,none⟩ = w.cell? ⟨g,o,none⟩:=fun o=>World.cell?_of_block (w:=w) hb
 have f:∀ o,w'.frozen? ⟨g,o,none⟩ = w.frozen? ⟨g,o,none⟩:=fun o=>World.frozen?_of_block (w:=w) hb
 refine ⟨Nat.lt_of_lt_of_le h1 hg.size,fun j hj=>⟨by rw [e]; exact (h2 j hj).1,by rw [f]; exact (h2 j hj).2⟩,fun i hi=>?_⟩
 obtain ⟨a0,a1,a2,a3⟩:=h3 i hi
 exact ⟨(e _).trans a0,(e _).trans a1,(e _).trans a2,(e _).trans a3⟩
theorem zh.below {w w':World} {g k:Nat} {xs:List zD} {B:Nat} (h:zh w g xs k) (hb:Below B w w') (hB:g < B):zh w' g xs k:=by
 obtain ⟨h1,h2,h3⟩:=h
 refine ⟨Nat.lt_of_lt_of_le h1 hb.size,fun j hj=>?_,fun i hi=>(h3 i hi).below hb hB⟩
 have:=h2 j hj
 exact ⟨by rw [hb.cell (p:=⟨g,_,none⟩) hB]; exact this.1,by rw [hb.frozen (p:=⟨g,_,none⟩) hB]; exact this.2⟩
theorem zh.setCell {w:World} {g k:Nat} {xs:List zD} (h:zh w g xs k) (b o:Nat) (v:Value) (hp:b ≠ g):zh (w.setCell ⟨b,o,none⟩ v) g xs k:=
 h.grown (row:=some b) ⟨rfl,rfl,rfl,by simp [World.setCell],fun i _ hi=>Below.heap_setCell _ _ _ _ (fun e=>hi (by rw [e]))⟩ (fun e=>hp (Option.some.inj e).symm)
theorem zh.ops {w:World} {g:Nat} {xs:List zD} (h:zh w g xs xs.length):zH8 w g 0 xs:=fun i hi=>h.2.2 i hi
theorem zh.anew {w:World} {g:Nat} {xs ys:List zD} {k:Nat} (h:zh w g xs k) (hl:xs.length = ys.length):zh w g ys 0:=
 ⟨h.1,hl ▸ h.2.1,fun i hi=>absurd hi (Nat.not_lt_zero i)⟩
theorem zEC:(Tryz.prog.info? 123).map (fun i=>(i.zero,i.size,i.bytes)) = some (some (.agg #[.int .i64 0,.string ⟨#[]⟩,.int .i64 0,.int .i64 0]),4,40):=by kernel_rfl
def zAP (k:Int):Nat:=if k = 4 then 2 else if k = 3 \/ k = 5 \/ k = 6 then 1 else 0
theorem zCn (s:ByteArray) (k l sd:Int) (b:Bool) (w:World) (hs:s.size <= maxLen) :
  Calls Tryz.prog 137 #[.agg #[.string s,.int .i64 k,.int .i64 l,.int .i64 sd],.bool b] w fun e w'=>e = .returned (.int .i64 (ZJ s k l sd b)) /\ Below w.heap.size w w':=by
 cases ht:okB s k l sd
 ·have hf:=zB (zIo s k l sd b ht)
  go_enter Tryz.func137,Tryz.ntmps137
  go_wp2_with (go_at_call 34; refine (zCh _ _ _ _ _ hs).mono ?_; rintro e w' ⟨rfl,hb⟩)
  go_ret
  exact ⟨zG (zA hf).symm,(zC _ _).trans (hb.mono (by simp))⟩
 ·obtain ⟨⟨hl1,hl2⟩,h⟩:=zA7 s k l sd ht
  rcases h with ⟨rfl,rfl⟩ | ⟨rfl,rfl⟩ | ⟨rfl,rfl⟩ | ⟨rfl,rfl⟩ | ⟨rfl,rfl⟩ <;> cases b
  all_goals
   have hf:=zB (ht)
   go_enter Tryz.func137,Tryz.ntmps137
   go_wp2_with (go_at_call 34; refine (zCh _ _ _ _ _ hs).mono ?_; rintro e w' ⟨rfl,hb⟩; obtain ⟨hc,hz⟩:=zE5 hb)
   go_ret
   exact ⟨zG (by simp [ZJ,zIn,zA hf]),(zC _ _).trans (hb.mono (by simp))⟩
theorem zG0 (s:ByteArray) (k l sd:Int) (b:Bool) (w:World) (hl1:1 <= l) (hl2:l <= 1000) :
  Calls Tryz.prog 215 #[.agg #[.string s,.int .i64 k,.int .i64 l,.int .i64 sd],.bool b] w fun e w'=>e = .returned (.int .i64 (zIn l sd b)) /\ Below w.heap.size w w':=by
 cases b
 ·by_cases h:sd = 1
  ·have h':(sd == 1) = true:=by simpa using h
   have H:=zB h
   clear h
   go_enter Tryz.func215,Tryz.ntmps215
   go_wp2
   go_ret
   exact ⟨zG (by simp [zIn,zA H]),zC _ _⟩
  ·have h':(sd == 1) = false:=by simpa using h
   go_enter Tryz.func215,Tryz.ntmps215
   go_wp2
   go_ret
   exact ⟨zG (by simp [zIn,h]),zC _ _⟩
 ·by_cases h:sd = 2
  ·have h':(sd == 2) = true:=by simpa using h
   have H:=zB h
   clear h
   go_enter Tryz.func215,Tryz.ntmps215
   go_wp2
   go_ret
   exact ⟨zG (by simp [zIn,zA H]),zC _ _⟩
  ·have h':(sd == 2) = false:=by simpa using h
   go_enter Tryz.func215,Tryz.ntmps215
   go_wp2
   go_ret
   exact ⟨zG (by simp [zIn,h]),zC _ _⟩
theorem zCo (s:ByteArray) (k l sd:Int) (b:Bool) (w:World) (hs:s.size <= maxLen) :
  Calls Tryz.prog 190 #[.agg #[.string s,.int .i64 k,.int .i64 l,.int .i64 sd],.bool b] w fun e w'=>e = .returned (.int .i64 (ZJ s k l sd b)) /\ Below w.heap.size w w':=by
 cases ht:okB s k l sd
 ·have hf:=zB (zIo s k l sd b ht)
  go_enter Tryz.func190,Tryz.ntmps190
  go_wp2_with (go_at_call 71; refine (zAD _ _ _ _ _ hs).mono ?_; rintro e w' ⟨rfl,hb⟩)
  go_ret
  exact ⟨zG (zA hf).symm,(zC _ _).trans (hb.mono (by simp))⟩
 ·obtain ⟨⟨hl1,hl2⟩,h⟩:=zA7 s k l sd ht
  have hf:=zB ht
  by_cases h2:k = 2
  ·subst h2
   clear h
   go_enter Tryz.func190,Tryz.ntmps190
   go_wp2_with (first | (go_at_call 71; refine (zAD _ _ _ _ _ hs).mono ?_; rintro e w' ⟨rfl,hb⟩; obtain ⟨hc,hz⟩:=zE5 hb) | (go_at_call 215; refine (zG0 _ _ _ _ _ _ hl1 hl2).mono ?_; rintro e w1 ⟨rfl,hb1⟩))
   go_ret
   exact ⟨zG (by simp [ZJ,zA hf]),(zC _ _).trans ((hb.mono (by simp)).trans (hb1.mono (by have:=hb.size; simp at this; omega)))⟩
  ·have h2':(k == 2) = false:=by simpa using h2
   clear h
   cases b
   all_goals
    go_enter Tryz.func190,Tryz.ntmps190
    go_wp2_with (first | (go_at_call 71; refine (zAD _ _ _ _ _ hs).mono ?_; rintro e w' ⟨rfl,hb⟩; obtain ⟨hc,hz⟩:=zE5 hb))
    go_ret
    exact ⟨zG (by simp [ZJ,zA hf,h2]),(zC _ _).trans (hb.mono (by simp))⟩
def zBR (xs:List OpR) (t:ByteArray) (kd:Int):Nat -> Nat -> Option Nat
 | 0,_=>none
 | m + 1,i=>if (atO xs i).s = t /\ (atO xs i).k = kd then some i else zBR xs t kd m (i + 1)
def fnd (xs:List OpR) (t:ByteArray) (kd:Int):Option Nat:=zBR xs t kd xs.length 0
theorem zED {xs:List OpR} {t:ByteArray} {kd:Int}:∀ {m i j:Nat},zBR xs t kd m i = some j -> i <= j /\ j < i + m /\ (atO xs j).s = t /\ (atO xs j).k = kd
 | 0,_,_,h=>by cases h
 | m + 1,i,j,h=>by
  unfold zBR at h
  split at h
  ·rename_i hc
   injection h with h
   subst h
   exact ⟨Nat.le_refl _,by omega,hc.1,hc.2⟩
  ·have:=zED h
   exact ⟨by omega,by omega,this.2.2⟩
theorem zEE {xs:List OpR} {t:ByteArray} {kd:Int}:∀ {m i:Nat},zBR xs t kd m i = none -> ∀ j,i <= j -> j < i + m -> ¬ ((atO xs j).s = t /\ (atO xs j).k = kd)
 | 0,_,_,_,h1,h2=>by omega
 | m + 1,i,h,j,h1,h2=>by
  unfold zBR at h
  split at h
  ·cases h
  ·rename_i hc
   by_cases e:j = i
   ·subst e; exact hc
   ·exact zEE h j (by omega) (by omega)
theorem zAp {xs:List OpR} {t:ByteArray} {kd:Int} {j:Nat} (h:fnd xs t kd = some j):j < xs.length /\ (atO xs j).s = t /\ (atO xs j).k = kd:=by
 have:=zED h
 exact ⟨by omega,this.2.2⟩
theorem zJK {xs:List OpR} {t:ByteArray} {kd:Int} (h:fnd xs t kd = none) {j:Nat} (hj:j < xs.length):¬ ((atO xs j).s = t /\ (atO xs j).k = kd):=
 zEE h j (Nat.zero_le _) (by omega)
theorem zEF {xs:List OpR} {t:ByteArray} {kd:Int}:∀ (k m i:Nat),(∀ j,i <= j -> j < i + k -> ¬ ((atO xs j).s = t /\ (atO xs j).k = kd)) -> zBR xs t kd (k + m) i = zBR xs t kd m (i + k)
 | 0,m,i,_=>by rw [Nat.zero_add,Nat.add_zero]
 | k + 1,m,i,h=>by
  have e:k + 1 + m = (k + m) + 1:=by omega
  rw [e]
  show (if (atO xs i).s = t /\ (atO xs i).k = kd then some i else zBR xs t kd (k + m) (i + 1)) = _
  rw [if_neg (h i (Nat.le_refl _) (by omega)),zEF k m (i + 1) (fun j h1 h2=>h j (by omega) (by omega))]
  congr 1
  omega
theorem zLv {xs:List OpR} {t:ByteArray} {kd:Int} {k:Nat} (hk:k < xs.length) (h:∀ j,j < k -> ¬ ((atO xs j).s = t /\ (atO xs j).k = kd)) (hk2:(atO xs k).s = t /\ (atO xs k).k = kd):fnd xs t kd = some k:=by
 have e:xs.length = k + ((xs.length - k - 1) + 1):=by omega
 unfold fnd
 rw [e,zEF k _ 0 (fun j _ h2=>h j (by omega))]
 show (if (atO xs (0 + k)).s = t /\ (atO xs (0 + k)).k = kd then some (0 + k) else _) = _
 rw [Nat.zero_add,if_pos hk2]
theorem zOX {xs:List OpR} {t:ByteArray} {kd:Int} (h:∀ j,j < xs.length -> ¬ ((atO xs j).s = t /\ (atO xs j).k = kd)):fnd xs t kd = none:=by
 cases e:fnd xs t kd with
 | none=>rfl
 | some j=>exact absurd (zAp e).2 (h j (zAp e).1)
theorem zOY {xs:List OpR} (hv:zL xs 0) {t:ByteArray} {kd:Int} {j:Nat} (hj:j < xs.length) (h:(atO xs j).s = t /\ (atO xs j).k = kd):fnd xs t kd = some j:=by
 cases e:fnd xs t kd with
 | none=>exact absurd h (zJK e hj)
 | some i=>
  obtain ⟨hi,h1,h2⟩:=zAp e
  by_cases hij:i = j
  ·rw [hij]
  ·exfalso
   have hpr:¬ Pr 3 xs:=by
    rcases hv with ⟨h,_⟩ | ⟨_,⟨h,_⟩ | ⟨_,⟨h,_⟩ | ⟨h,_⟩⟩⟩
    ·exact absurd h (by decide)
    ·exact absurd h (by decide)
    ·exact absurd h (by decide)
    ·exact h
   apply hpr
   rcases Nat.lt_trichotomy i j with e | e | e
   ·exact ⟨j,i,e,hj,by simp [cl]; exact ⟨by rw [h1,h.1],by omega⟩⟩
   ·exact absurd e hij
   ·exact ⟨i,j,e,hi,by simp [cl]; exact ⟨by rw [h1,h.1],by omega⟩⟩
def zDd (o:zD):Prop:=3 <= o.k /\ o.k <= 5
def zCI (xs:List OpR) (o:zD):Int:=if 3 <= o.k /\ o.k <= 5 then (match fnd xs o.t (o.k - 2) with
 | some j=>(atO xs j).l
 | none=>1001) else 1001
def zDe (xs:List OpR) (j:Nat) (b:Bool):Int:=ZJ (atO xs j).s (atO xs j).k (atO xs j).l (atO xs j).sd b
def zGE (xs:List OpR) (ns:List zD) (i:Nat):Prop:=∀ j,zDd (atN ns i) -> fnd xs (atN ns i).t ((atN ns i).k - 2) = some j ->
 zDe xs j false <= zCI xs (atN ns (atN ns i).a.toNat) /\ (zAP (atN ns i).k = 1 \/ zDe xs j true <= zCI xs (atN ns (atN ns i).b.toNat))
def zLK (ns:List OpR) (o:zD) (b:Bool):Int:=match fnd ns o.t (o.k - 2) with
 | some j=>zDe ns j b
 | none=>0
end Go.Proofs.YtokabkhnidlcnacGreatDoor
namespace Go.Proofs.YtokabkhnidlcnacGreatDoor
set_option linter.unusedSimpArgs false
set_option linter.unusedVariables false
set_option maxHeartbeats 16000000
set_option maxRecDepth 100000
open Go.RowKit
def zOZ (t:ByteArray):Value:=.iface 289 (.agg #[.string t])
def zLL (t:ByteArray):Value:=.iface 291 (.agg #[.string t])
def zLw (p:OpR) (e:Value):Value:=.iface 270 (.agg #[.string p.s,.int .i64 p.k,.int .i64 p.l,.int .i64 p.sd,e])
def zGF (p:OpR) (e:Value):Value:=.iface 274 (.agg #[.string p.s,.int .i64 p.k,.int .i64 p.l,.int .i64 p.sd,e])
def zJL (p:OpR) (e e':Value):Value:=.iface 273 (.agg #[.string p.s,.int .i64 p.k,.int .i64 p.l,.int .i64 p.sd,e,e'])
def zM8 (e:Value):Value:=.iface 266 (.agg #[e])
def opA (ns:List OpR) (o:zD):OpR:=match fnd ns o.t (o.k - 2) with
 | some j=>atO ns j
 | none=>⟨ByteArray.empty,0,0,0⟩
def exN (p:OpR) (o:zD) (e e':Value):Value:=
 if o.k = 1 then zOZ o.t else if o.k = 2 then zLL o.t else if o.k = 3 then zLw p e else if o.k = 4 then zJL p e e' else if o.k = 5 then zGF p e else zM8 e
end Go.Proofs.YtokabkhnidlcnacGreatDoor
namespace Go.Proofs.YtokabkhnidlcnacGreatDoor
set_option linter.unusedSimpArgs false
set_option linter.unusedVariables false
set_option maxHeartbeats 16000000
set_option maxRecDepth 100000
open Go.RowKit
open Go.Deep (BT)
abbrev ET:=BT ByteArray
def tsz:ET -> Nat
 | .nil=>0
 | .node _ _ _ l r=>tsz l + tsz r + 1
def tN (b:Nat) (t:ByteArray) (l r:ET) (s:Nat):zD:=
 ⟨(b:Int),t,if zAP (b:Int) = 0 then 0 else ((s + tsz l:Nat):Int) - 1,if zAP (b:Int) = 2 then ((s + tsz l + tsz r:Nat):Int) - 1 else 0⟩
def nd:ET -> Nat -> List zD
 | .nil,_=>[]
 | .node b _ t l r,s=>nd l s ++ nd r (s + tsz l) ++ [tN b t l r s]
theorem zAq:∀ (T:ET) (s:Nat),(nd T s).length = tsz T
 | .nil,_=>rfl
 | .node b o t l r,s=>by simp [nd,tsz,zAq l,zAq r]; omega
def Sh:ET -> Prop
 | .nil=>False
 | .node b o _ l r=>o = 0 /\ ((zAP (b:Int) = 0 /\ l = .nil /\ r = .nil) \/ (zAP (b:Int) = 1 /\ Sh l /\ r = .nil) \/ (zAP (b:Int) = 2 /\ Sh l /\ Sh r))
theorem Sh.pos:∀ {T:ET},Sh T -> 1 <= tsz T
 | .nil,h=>h.elim
 | .node _ _ _ _ _,_=>by simp [tsz]
def rt (b:Nat) (t:ByteArray):zD:=⟨(b:Int),t,0,0⟩
def exT (ns:List OpR):ET -> Value
 | .nil=>.nilIface
 | .node b _ t l r=>exN (opA ns (rt b t)) (rt b t) (exT ns l) (exT ns r)
def opn:ByteArray:=⟨#[40]⟩
def zBh:ByteArray:=⟨#[41]⟩
abbrev SyR:=Nat × ByteArray
def ySy:ET -> List SyR
 | .nil=>[]
 | .node b _ t l r=>
  if b = 6 then (6,opn) :: (ySy l ++ [(7,zBh)])
  else if b = 3 then (3,t) :: ySy l
  else if b = 5 then ySy l ++ [(5,t)]
  else if b = 4 then ySy l ++ ((4,t) :: ySy r)
  else [(b,t)]
end Go.Proofs.YtokabkhnidlcnacGreatDoor
