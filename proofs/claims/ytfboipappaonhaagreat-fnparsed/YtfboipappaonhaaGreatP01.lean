import Derived.Deep.MidRow
import Derived.Deep.RegionHeld
import Derived.Laws.MakeOwn
import Derived.OwnWalk
import Derived.Laws.OwnMore
import Derived.Test.YtfboipappaonhaaGreatP00
namespace Go.Proofs.YtfboipappaonhaaGreat
set_option maxHeartbeats 16000000
set_option maxRecDepth 100000
open Go.RowKit
def sub (s:ByteArray) (i n:Nat):ByteArray:=s.extract i (i + n)
theorem zAF {s:ByteArray} {i n:Nat} (h:i + n <= s.size):(sub s i n).size = n:=by
 unfold sub
 rw [ByteArray.size_extract]
 omega
theorem zBs {s:ByteArray} {i n j:Nat} (h:i + n <= s.size) (hj:j < n):bt (sub s i n) j = bt s (i + j):=by
 have h':i + n <= s.data.size:=h
 unfold bt sub
 rw [ByteArray.data_extract,Array.getElem?_extract,if_pos (by omega)]
theorem zBR {t:ByteArray} {c:UInt8} (h:t.size = 1):t = ⟨#[c]⟩ ↔ bt t 0 = c:=by
 obtain ⟨⟨l⟩⟩:=t
 match l,h with
 | [x],_=>simp [bt]
def opT (xs:List OpR) (t:ByteArray):Prop:=∃ j,j < xs.length /\ (atO xs j).s = t
def zBI (xs:List OpR) (s:ByteArray) (i n k:Nat):Prop:=
 1 <= n /\ i + n <= s.size /\
 (
  (cls (bt s i) = 2 /\ k = 1 /\ (∀ j,j < n -> cls (bt s (i + j)) = 2) /\ (i + n < s.size -> cls (bt s (i + n)) ≠ 2)) \/
  (cls (bt s i) = 3 /\ k = 2 /\ (∀ j,j < n -> (cls (bt s (i + j)) = 2 \/ cls (bt s (i + j)) = 3)) /\ (i + n < s.size -> ¬ (cls (bt s (i + n)) = 2 \/ cls (bt s (i + n)) = 3))) \/
  (cls (bt s i) = 4 /\ k = 4 /\ n = 1) \/ (cls (bt s i) = 5 /\ k = 5 /\ n = 1) \/
  (cls (bt s i) = 6 /\ ((k = 3 /\ opT xs (sub s i n) /\ ∀ m,n < m -> i + m <= s.size -> ¬ opT xs (sub s i m)) \/ (k = 6 /\ n = 1 /\ ∀ m,1 <= m -> i + m <= s.size -> ¬ opT xs (sub s i m)))) \/
  (cls (bt s i) = 0 /\ k = 6 /\ n = 1))
theorem zBI.one {xs:List OpR} {s:ByteArray} {i n k n' k':Nat} (h:zBI xs s i n k) (h':zBI xs s i n' k'):n = n' /\ k = k':=by
 obtain ⟨h1,h2,h⟩:=h
 obtain ⟨h1',h2',h'⟩:=h'
 rcases h with ⟨c,rfl,a,b⟩ | ⟨c,rfl,a,b⟩ | ⟨c,rfl,rfl⟩ | ⟨c,rfl,rfl⟩ | ⟨c,h⟩ | ⟨c,rfl,rfl⟩
 ·rcases h' with ⟨c',rfl,a',b'⟩ | ⟨c',_⟩ | ⟨c',_⟩ | ⟨c',_⟩ | ⟨c',_⟩ | ⟨c',_⟩ <;> try omega
  refine ⟨?_,rfl⟩
  rcases Nat.lt_trichotomy n n' with e | e | e
  ·exact absurd (a' n e) (b (by omega))
  ·exact e
  ·exact absurd (a n' e) (b' (by omega))
 ·rcases h' with ⟨c',_⟩ | ⟨c',rfl,a',b'⟩ | ⟨c',_⟩ | ⟨c',_⟩ | ⟨c',_⟩ | ⟨c',_⟩ <;> try omega
  refine ⟨?_,rfl⟩
  rcases Nat.lt_trichotomy n n' with e | e | e
  ·exact absurd (a' n e) (b (by omega))
  ·exact e
  ·exact absurd (a n' e) (b' (by omega))
 ·rcases h' with ⟨c',_⟩ | ⟨c',_⟩ | ⟨c',rfl,rfl⟩ | ⟨c',_⟩ | ⟨c',_⟩ | ⟨c',_⟩ <;> omega
 ·rcases h' with ⟨c',_⟩ | ⟨c',_⟩ | ⟨c',_⟩ | ⟨c',rfl,rfl⟩ | ⟨c',_⟩ | ⟨c',_⟩ <;> omega
 ·rcases h' with ⟨c',_⟩ | ⟨c',_⟩ | ⟨c',_⟩ | ⟨c',_⟩ | ⟨c',h'⟩ | ⟨c',_⟩ <;> try omega
  rcases h with ⟨rfl,a,b⟩ | ⟨rfl,rfl,b⟩
  ·rcases h' with ⟨rfl,a',b'⟩ | ⟨rfl,rfl,b'⟩
   ·refine ⟨?_,rfl⟩
    rcases Nat.lt_trichotomy n n' with e | e | e
    ·exact absurd a' (b n' e h2')
    ·exact e
    ·exact absurd a (b' n e h2)
   ·exact absurd a (b' n h1 h2)
  ·rcases h' with ⟨rfl,a',b'⟩ | ⟨rfl,rfl,b'⟩
   ·exact absurd a' (b n' h1' h2')
   ·exact ⟨rfl,rfl⟩
 ·rcases h' with ⟨c',_⟩ | ⟨c',_⟩ | ⟨c',_⟩ | ⟨c',_⟩ | ⟨c',_⟩ | ⟨c',rfl,rfl⟩ <;> omega
def zCl (s:ByteArray) (i j:Nat):Prop:=∀ q,i <= q -> q < j -> cls (bt s q) = 1
def ZK (xs:List OpR) (s:ByteArray):Nat -> List zI -> Prop
 | _,[]=>False
 | i,t :: out=>(out = [] /\ i <= s.size /\ zCl s i s.size /\ t = ⟨7,s.extract i s.size,⟨#[]⟩⟩) \/
   ∃ j n k:Nat,i <= j /\ j < s.size /\ zCl s i j /\ cls (bt s j) ≠ 1 /\ zBI xs s j n k /\ t = ⟨(k:Int),s.extract i j,s.extract j (j + n)⟩ /\ ZK xs s (j + n) out
theorem ZK.fin {xs:List OpR} {s:ByteArray} {i:Nat} (h1:i <= s.size) (h2:zCl s i s.size):ZK xs s i [⟨7,s.extract i s.size,⟨#[]⟩⟩]:=Or.inl ⟨rfl,h1,h2,rfl⟩
theorem ZK.tok {xs:List OpR} {s:ByteArray} {i j n k:Nat} {out:List zI} (a:i <= j) (b:j < s.size) (c:zCl s i j) (d:cls (bt s j) ≠ 1) (e:zBI xs s j n k) (f:ZK xs s (j + n) out) :
  ZK xs s i (⟨(k:Int),s.extract i j,s.extract j (j + n)⟩ :: out):=Or.inr ⟨j,n,k,a,b,c,d,e,rfl,f⟩
theorem ZK.one {xs:List OpR} {s:ByteArray}:∀ (o o':List zI) (i:Nat),ZK xs s i o -> ZK xs s i o' -> o = o'
 | [],_,_,h,_=>h.elim
 | _ :: _,[],_,_,h=>h.elim
 | t :: o,t' :: o',i,h,h'=>by
  rcases h with ⟨rfl,hi,hb,rfl⟩ | ⟨j,n,k,a,b,c,d,e,rfl,f⟩
  ·rcases h' with ⟨rfl,_,_,rfl⟩ | ⟨j',n',k',a',b',c',d',e',rfl,f'⟩
   ·rfl
   ·exact absurd (hb _ a' b') d'
  ·rcases h' with ⟨rfl,hi,hb,rfl⟩ | ⟨j',n',k',a',b',c',d',e',rfl,f'⟩
   ·exact absurd (hb _ a b) d
   ·have hj:j = j':=by
     rcases Nat.lt_trichotomy j j' with x | x | x
     ·exact absurd (c' j a x) d
     ·exact x
     ·exact absurd (c j' a' x) d'
    subst hj
    obtain ⟨rfl,rfl⟩:=e.one e'
    rw [ZK.one o o' (j + n) f f']
theorem ZK.len {xs:List OpR} {s:ByteArray}:∀ (o:List zI) (i:Nat),ZK xs s i o -> o.length + i <= s.size + 1
 | [],_,h=>h.elim
 | t :: o,i,h=>by
  rcases h with ⟨rfl,hi,hb,rfl⟩ | ⟨j,n,k,a,b,c,d,e,rfl,f⟩
  ·simp; omega
  ·have:=e.1
   have:=ZK.len o (j + n) f
   simp only [List.length_cons]
   omega
def opB (xs:List OpR) (t:ByteArray):Bool:=(List.range xs.length).any fun j=>(atO xs j).s.data == t.data
theorem zDS (xs:List OpR) (t:ByteArray):opB xs t = true ↔ opT xs t:=by
 have e:∀ a b:ByteArray,(a.data = b.data) ↔ a = b:=fun a b=>⟨fun h=>by cases a; cases b; simp_all,fun h=>by rw [h]⟩
 simp [opB,opT,List.any_eq_true,e]
def ZR (xs:List OpR) (t:ByteArray):Nat:=
 if zOJ t = true then 1 else if zLg t = true then 2 else if t.data = #[40] then 4 else if t.data = #[41] then 5 else if opB xs t = true then 3 else 6
def zi (xs:List OpR):Prop:=∀ j,j < xs.length -> 1 <= (atO xs j).s.size /\ (atO xs j).s.size <= 16 /\ ∀ q,q < (atO xs j).s.size -> cls (bt (atO xs j).s q) = 6
theorem Z6 {xs:List OpR} (h:zBF xs xs.length):zi xs:=by
 intro j hj
 have hk:=h j hj
 unfold OpR.ok okB zDn at hk
 simp only [Bool.and_eq_true,decide_eq_true_eq] at hk
 obtain ⟨⟨⟨⟨⟨h1,h2⟩,h3⟩,_⟩,_⟩,_⟩:=hk
 refine ⟨h2,h3,fun q hq=>?_⟩
 have hm:bt (atO xs j).s q ∈ (atO xs j).s.data.toList:=by
  have hq':q < (atO xs j).s.data.size:=hq
  unfold bt
  rw [Array.getElem?_eq_getElem hq']
  simp
 have:=List.all_eq_true.1 h1 _ hm
 rw [zEg] at this
 simpa using this
theorem zHa {xs:List OpR} {s:ByteArray} {i n:Nat} (hv:zi xs) (_h1:1 <= n) (h:i + n <= s.size) (ho:opT xs (sub s i n)):n <= 16 /\ cls (bt s i) = 6:=by
 obtain ⟨j,hj,e⟩:=ho
 obtain ⟨a,b,c⟩:=hv j hj
 have hs:=zAF h
 rw [<- e] at hs
 have:=c 0 (by omega)
 rw [e,zBs h (by omega)] at this
 exact ⟨by omega,this⟩
theorem zLj {xs:List OpR} {s:ByteArray} {i n:Nat} (hv:zi xs) (h1:1 <= n) (h:i + n <= s.size) (hc:cls (bt s i) = 2) :
  (ZR xs (sub s i n) = 1 /\ ∀ j,j < n -> cls (bt s (i + j)) = 2) \/ (ZR xs (sub s i n) = 6 /\ ¬ ∀ j,j < n -> cls (bt s (i + j)) = 2):=by
 have hs:=zAF h
 have h0:bt (sub s i n) 0 = bt s i:=by rw [zBs h (by omega)]; rfl
 by_cases hn:zDA (sub s i n)
 ·refine Or.inl ⟨by simp [ZR,Zq,hn],fun j hj=>?_⟩
  have:=hn.2 j (by omega)
  rwa [zBs h hj] at this
 ·refine Or.inr ⟨?_,fun ha=>hn ⟨by omega,fun j hj=>by rw [zBs h (by omega)]; exact ha j (by omega)⟩⟩
  have n2:¬ zBH (sub s i n):=fun hh=>by
   have:=hh.2 0 (by omega)
   rw [h0] at this
   omega
  have n3:¬ sub s i n = ⟨#[40]⟩:=fun e=>by
   have e1:n = 1:=by rw [e] at hs; exact hs.symm
   have:=(zBR (by omega)).1 e
   rw [h0] at this
   have:=(zD3 _).2 this
   omega
  have n4:¬ sub s i n = ⟨#[41]⟩:=fun e=>by
   have e1:n = 1:=by rw [e] at hs; exact hs.symm
   have:=(zBR (by omega)).1 e
   rw [h0] at this
   have:=(zDR _).2 this
   omega
  have n5:¬ opT xs (sub s i n):=fun e=>by
   have:=(zHa hv h1 h e).2
   omega
  simp [ZR,Zq,Zn,zDS,zCG,hn,n2,n3,n4,n5]
theorem zIb {xs:List OpR} {s:ByteArray} {i n:Nat} (h1:1 <= n) (h:i + n <= s.size) (hc:cls (bt s i) = 3) (ha:∀ j,j < n -> (cls (bt s (i + j)) = 2 \/ cls (bt s (i + j)) = 3)) :
  ZR xs (sub s i n) = 2:=by
 have hs:=zAF h
 have h0:bt (sub s i n) 0 = bt s i:=by rw [zBs h (by omega)]; rfl
 have n1:¬ zDA (sub s i n):=fun hh=>by
  have:=hh.2 0 (by omega)
  rw [h0] at this
  omega
 have n2:zBH (sub s i n):=by
  refine ⟨by omega,fun j hj=>?_⟩
  rw [hs] at hj
  rw [zBs h hj]
  by_cases e:j = 0
  ·subst e; exact Or.inl hc
  ·have:=ha j hj
   omega
 simp [ZR,Zq,Zn,n1,n2]
theorem zGx {xs:List OpR} {s:ByteArray} {i n:Nat} (h1:1 <= n) (h:i + n <= s.size) (hc:cls (bt s i) = 6) :
  (ZR xs (sub s i n) = 3 /\ opT xs (sub s i n)) \/ (ZR xs (sub s i n) = 6 /\ ¬ opT xs (sub s i n)):=by
 have hs:=zAF h
 have h0:bt (sub s i n) 0 = bt s i:=by rw [zBs h (by omega)]; rfl
 have n1:¬ zDA (sub s i n):=fun hh=>by
  have:=hh.2 0 (by omega)
  rw [h0] at this
  omega
 have n2:¬ zBH (sub s i n):=fun hh=>by
  have:=hh.2 0 (by omega)
  rw [h0] at this
  omega
 have n3:¬ sub s i n = ⟨#[40]⟩:=fun e=>by
  have e1:n = 1:=by rw [e] at hs; exact hs.symm
  have:=(zBR (by omega)).1 e
  rw [h0] at this
  have:=(zD3 _).2 this
  omega
 have n4:¬ sub s i n = ⟨#[41]⟩:=fun e=>by
  have e1:n = 1:=by rw [e] at hs; exact hs.symm
  have:=(zBR (by omega)).1 e
  rw [h0] at this
  have:=(zDR _).2 this
  omega
 by_cases n5:opT xs (sub s i n)
 ·exact Or.inl ⟨by simp [ZR,Zq,Zn,zDS,zCG,n1,n2,n3,n4,n5],n5⟩
 ·exact Or.inr ⟨by simp [ZR,Zq,Zn,zDS,zCG,n1,n2,n3,n4,n5],n5⟩
theorem zLk {xs:List OpR} {s:ByteArray} {i:Nat} (hv:zi xs) (h:i + 1 <= s.size) (hc:cls (bt s i) = 4 \/ cls (bt s i) = 5 \/ cls (bt s i) = 0) :
  (cls (bt s i) = 4 /\ ZR xs (sub s i 1) = 4) \/ (cls (bt s i) = 5 /\ ZR xs (sub s i 1) = 5) \/ (cls (bt s i) = 0 /\ ZR xs (sub s i 1) = 6):=by
 have hs:=zAF h
 have h0:bt (sub s i 1) 0 = bt s i:=by rw [zBs h (by omega)]; rfl
 have n1:¬ zDA (sub s i 1):=fun hh=>by
  have:=hh.2 0 (by omega)
  rw [h0] at this
  omega
 have n2:¬ zBH (sub s i 1):=fun hh=>by
  have:=hh.2 0 (by omega)
  rw [h0] at this
  omega
 have n5:¬ opT xs (sub s i 1):=fun e=>by
  have:=(zHa hv (by omega) h e).2
  omega
 have e4:sub s i 1 = ⟨#[40]⟩ ↔ cls (bt s i) = 4:=by rw [zBR hs,h0,zD3]
 have e5:sub s i 1 = ⟨#[41]⟩ ↔ cls (bt s i) = 5:=by rw [zBR hs,h0,zDR]
 rcases hc with c | c | c
 ·exact Or.inl ⟨c,by simp [ZR,Zq,Zn,zCG,n1,n2,e4,c]⟩
 ·exact Or.inr (Or.inl ⟨c,by simp [ZR,Zq,Zn,zCG,n1,n2,e4,e5,c]⟩)
 ·exact Or.inr (Or.inr ⟨c,by simp [ZR,Zq,Zn,zDS,zCG,n1,n2,e4,e5,n5,c]⟩)
def zKK (s:ByteArray) (i r:Nat):Prop:=
 1 <= r /\ i + r <= s.size /\
 (
  (cls (bt s i) = 6 /\ r <= 16 /\ (r = 16 \/ i + r = s.size)) \/
  ((cls (bt s i) = 2 \/ cls (bt s i) = 3) /\ (∀ j,j < r -> (cls (bt s (i + j)) = 2 \/ cls (bt s (i + j)) = 3)) /\ (i + r < s.size -> ¬ (cls (bt s (i + r)) = 2 \/ cls (bt s (i + r)) = 3))) \/
  ((cls (bt s i) ≠ 6 /\ cls (bt s i) ≠ 2 /\ cls (bt s i) ≠ 3) /\ r = 1))
def zKL (xs:List OpR) (s:ByteArray) (i r:Nat):Prop:=
 1 <= r /\ (r = 1 \/ ZR xs (sub s i r) ≠ 6) /\ ∃ m,zKK s i m /\ r <= m /\ ∀ q,r < q -> q <= m -> ZR xs (sub s i q) = 6
theorem zIc {xs:List OpR} {s:ByteArray} {i r:Nat} (hv:zi xs) (h:zKL xs s i r) (hb:cls (bt s i) ≠ 1):zBI xs s i r (ZR xs (sub s i r)):=by
 obtain ⟨h1,h2,m,⟨hm1,hms,hm⟩,hrm,hq⟩:=h
 refine ⟨h1,by omega,?_⟩
 have hc7:=zLf (bt s i)
 rcases hm with ⟨c,hm,hm'⟩ | ⟨c,ha,hm⟩ | ⟨⟨c1,c2,c3⟩,rfl⟩
 ·refine Or.inr (Or.inr (Or.inr (Or.inr (Or.inl ⟨c,?_⟩))))
  have hno:∀ q,r < q -> i + q <= s.size -> ¬ opT xs (sub s i q):=fun q hr hq2 ho=>by
   have:=(zHa hv (by omega) hq2 ho).1
   have hqm:q <= m:=by omega
   have:=hq q hr hqm
   rcases zGx (xs:=xs) (by omega) hq2 c with ⟨x,_⟩ | ⟨_,x⟩
   ·omega
   ·exact x ho
  rcases zGx (xs:=xs) h1 (by omega) c with ⟨x,y⟩ | ⟨x,y⟩
  ·exact Or.inl ⟨x,y,hno⟩
  ·have hr1:r = 1:=by omega
   refine Or.inr ⟨x,hr1,fun q h1q hq2=>?_⟩
   by_cases e:q = r
   ·subst e; exact y
   ·exact hno q (by omega) hq2
 ·rcases c with c | c
  ·refine Or.inl ?_
   have key:=fun q (a:1 <= q) (b:i + q <= s.size)=>zLj (xs:=xs) hv a b c
   have hall:ZR xs (sub s i r) = 1 /\ ∀ j,j < r -> cls (bt s (i + j)) = 2:=by
    rcases key r h1 (by omega) with x | ⟨x,y⟩
    ·exact x
    ·exfalso
     have hr1:r = 1:=by omega
     subst hr1
     exact y (fun j hj=>by
      have:j = 0:=by omega
      subst this; exact c)
   refine ⟨c,hall.1,hall.2,fun hlt hd=>?_⟩
   have hrm':r + 1 <= m:=by
    rcases Nat.lt_or_ge r m with x | x
    ·exact x
    ·have:r = m:=by omega
     subst this
     exact absurd (Or.inl hd) (hm hlt)
   have h6:=hq (r + 1) (by omega) hrm'
   rcases key (r + 1) (by omega) (by omega) with ⟨x,_⟩ | ⟨_,y⟩
   ·omega
   ·refine y (fun j hj=>?_)
    by_cases e:j = r
    ·subst e; exact hd
    ·exact hall.2 j (by omega)
  ·refine Or.inr (Or.inl ?_)
   have hrm':r = m:=by
    rcases Nat.lt_or_ge r m with x | x
    ·have:=hq m x (Nat.le_refl _)
     rw [zIb (xs:=xs) hm1 hms c ha] at this
     omega
    ·omega
   subst hrm'
   exact ⟨c,zIb hm1 hms c ha,ha,hm⟩
 ·have hr1:r = 1:=by omega
  subst hr1
  rcases zLk (xs:=xs) hv hms (by omega) with ⟨c,x⟩ | ⟨c,x⟩ | ⟨c,x⟩
  ·exact Or.inr (Or.inr (Or.inl ⟨c,x,rfl⟩))
  ·exact Or.inr (Or.inr (Or.inr (Or.inl ⟨c,x,rfl⟩)))
  ·exact Or.inr (Or.inr (Or.inr (Or.inr (Or.inr ⟨c,x,rfl⟩))))
structure zD where
 k:Int
 t:ByteArray
 a:Int
 b:Int
def zD.zero:zD:=⟨0,⟨#[]⟩,0,0⟩
def atN (xs:List zD) (i:Nat):zD:=xs.getD i zD.zero
def zFk (w:World) (b off:Nat) (xs:List zD) (i:Nat):Prop:=
 w.cell? ⟨b,off + i * 4,none⟩ = some (.int .i64 (atN xs i).k) /\ w.cell? ⟨b,off + i * 4 + 1,none⟩ = some (.string (atN xs i).t) /\ w.cell? ⟨b,off + i * 4 + 2,none⟩ = some (.int .i64 (atN xs i).a) /\ w.cell? ⟨b,off + i * 4 + 3,none⟩ = some (.int .i64 (atN xs i).b)
def Zw (w:World) (b off:Nat) (xs:List zD):Prop:=∀ i,i < xs.length -> zFk w b off xs i
def zBc (xs:List zD):Prop:=∀ i,i < xs.length -> (atN xs i).t.size <= maxLen
theorem zFk.below {w w':World} {b off i:Nat} {xs:List zD} {B:Nat} (h:zFk w b off xs i) (hb:Below B w w') (hB:b < B):zFk w' b off xs i:=by
 obtain ⟨h0,h1,h2,h3⟩:=h
 exact ⟨(hb.cell (p:=⟨b,_,none⟩) hB).trans h0,(hb.cell (p:=⟨b,_,none⟩) hB).trans h1,(hb.cell (p:=⟨b,_,none⟩) hB).trans h2,(hb.cell (p:=⟨b,_,none⟩) hB).trans h3⟩
theorem Zw.below {w w':World} {b off:Nat} {xs:List zD} {B:Nat} (h:Zw w b off xs) (hb:Below B w w') (hB:b < B):Zw w' b off xs:=
 fun i hi=>(h i hi).below hb hB
def zJZ (w:World) (a:Option Addr) (xs:List zD):Prop:=xs.length = 0 \/ ∃ b off,a = some ⟨b,off,none⟩ /\ Zw w b off xs /\ b < w.heap.size
theorem zJZ.below {w w':World} {a:Option Addr} {xs:List zD} (h:zJZ w a xs) (hb:Below w.heap.size w w'):zJZ w' a xs:=by
 rcases h with h | ⟨b,off,rfl,h1,h2⟩
 ·exact Or.inl h
 ·exact Or.inr ⟨b,off,rfl,h1.below hb h2,Nat.lt_of_lt_of_le h2 hb.size⟩
def zv (w:World) (g:Nat) (xs:List zD) (k:Nat):Prop:=
 g < w.heap.size /\ w.there g 0 (xs.length * 4) /\ ∀ i,i < k -> zFk w g 0 xs i
theorem zv.grown {w w':World} {g k:Nat} {xs:List zD} {row:Option Nat} (h:zv w g xs k) (hg:w.grownBy w' row) (hne:some g ≠ row):zv w' g xs k:=by
 obtain ⟨h1,h2,h3⟩:=h
 have hb:=hg.block g h1 hne
 have e:∀ o,w'.cell? ⟨g,o,none⟩ = w.cell? ⟨g,o,none⟩:=fun o=>World.cell?_of_block (w:=w) hb
 have f:∀ o,w'.frozen? ⟨g,o,none⟩ = w.frozen? ⟨g,o,none⟩:=fun o=>World.frozen?_of_block (w:=w) hb
 refine ⟨Nat.lt_of_lt_of_le h1 hg.size,fun j hj=>⟨by rw [e]; exact (h2 j hj).1,by rw [f]; exact (h2 j hj).2⟩,fun i hi=>?_⟩
 obtain ⟨a0,a1,a2,a3⟩:=h3 i hi
 exact ⟨(e _).trans a0,(e _).trans a1,(e _).trans a2,(e _).trans a3⟩
theorem zv.below {w w':World} {g k:Nat} {xs:List zD} {B:Nat} (h:zv w g xs k) (hb:Below B w w') (hB:g < B):zv w' g xs k:=by
 obtain ⟨h1,h2,h3⟩:=h
 refine ⟨Nat.lt_of_lt_of_le h1 hb.size,fun j hj=>?_,fun i hi=>(h3 i hi).below hb hB⟩
 have:=h2 j hj
 exact ⟨by rw [hb.cell (p:=⟨g,_,none⟩) hB]; exact this.1,by rw [hb.frozen (p:=⟨g,_,none⟩) hB]; exact this.2⟩
theorem zv.setCell {w:World} {g k:Nat} {xs:List zD} (h:zv w g xs k) (b o:Nat) (v:Value) (hp:b ≠ g):zv (w.setCell ⟨b,o,none⟩ v) g xs k:=
 h.grown (row:=some b) ⟨rfl,rfl,rfl,by simp [World.setCell],fun i _ hi=>Below.heap_setCell _ _ _ _ (fun e=>hi (by rw [e]))⟩ (fun e=>hp (Option.some.inj e).symm)
theorem zv.ops {w:World} {g:Nat} {xs:List zD} (h:zv w g xs xs.length):Zw w g 0 xs:=fun i hi=>h.2.2 i hi
theorem zBh:(Tryz.prog.info? 81).map (fun i=>(i.zero,i.size,i.bytes)) = some (some (.agg #[.int .i64 0,.string ⟨#[]⟩,.int .i64 0,.int .i64 0]),4,40):=by kernel_rfl
def zR (k:Int):Nat:=if k = 4 then 2 else if k = 3 \/ k = 5 \/ k = 6 then 1 else 0
theorem zBJ (k:Int):zR k = 0 \/ zR k = 1 \/ zR k = 2:=by
 unfold zR
 split
 ·exact Or.inr (Or.inr rfl)
 ·split
  ·exact Or.inr (Or.inl rfl)
  ·exact Or.inl rfl
def zAL (o:zD):Prop:=o.t.size <= 20000 /\ ((o.k = 1 /\ zDA o.t) \/ (o.k = 2 /\ zBH o.t) \/ (o.k = 6 /\ o.t.size = 0) \/ ((o.k = 3 \/ o.k = 4 \/ o.k = 5) /\ zDn o.t = true))
def frm (xs:List zD):Nat -> Nat -> Option Nat
 | 0,_=>none
 | n + 1,i=>
  if zR (atN xs i).k = 0 then (if (atN xs i).a = 0 /\ (atN xs i).b = 0 then some i else none)
  else if zR (atN xs i).k = 1 then (if 1 <= i /\ (atN xs i).a = (i:Int) - 1 /\ (atN xs i).b = 0 then frm xs n (i - 1) else none)
  else if 1 <= i /\ (atN xs i).b = (i:Int) - 1 then
   (match frm xs n (i - 1) with
   | none=>none
   | some f=>if 1 <= f /\ (atN xs i).a = (f:Int) - 1 then frm xs n (f - 1) else none)
  else none
theorem zFl (xs:List zD):∀ n i f,frm xs n i = some f -> f <= i
 | 0,i,f,h=>by simp [frm] at h
 | n + 1,i,f,h=>by
  unfold frm at h
  split at h
  ·split at h
   ·injection h with h; omega
   ·cases h
  ·split at h
   ·split at h
    ·have:=zFl xs n _ _ h; omega
    ·cases h
   ·split at h
    ·split at h
     ·cases h
     ·rename_i f' hf'
      have h1:=zFl xs n _ _ hf'
      split at h
      ·have:=zFl xs n _ _ h; omega
      ·cases h
    ·cases h
theorem zCY (xs:List zD):∀ n m i,i < n -> i < m -> frm xs n i = frm xs m i
 | 0,_,_,h,_=>absurd h (Nat.not_lt_zero _)
 | _ + 1,0,_,_,h=>absurd h (Nat.not_lt_zero _)
 | n + 1,m + 1,i,h,h'=>by
  unfold frm
  by_cases h1:1 <= i
  ·have e:=zCY xs n m (i - 1) (by omega) (by omega)
   rw [e]
   cases hf:frm xs m (i - 1) with
   | none=>rfl
   | some f=>
    have hle:=zFl xs _ _ _ hf
    have e':=zCY xs n m (f - 1) (by omega) (by omega)
    simp only [e']
  ·simp [h1]
def frS (xs:List zD) (i:Nat):Option Nat:=frm xs (i + 1) i
theorem zAM {xs:List zD} {i f:Nat} (h:frS xs i = some f):f <= i:=zFl xs _ _ _ h
theorem zD4 {xs:List zD} {i:Nat} (h:zR (atN xs i).k = 0):frS xs i = if (atN xs i).a = 0 /\ (atN xs i).b = 0 then some i else none:=by
 unfold frS frm
 rw [if_pos h]
theorem zFR {xs:List zD} {i:Nat} (h:zR (atN xs i).k = 1):frS xs i = if 1 <= i /\ (atN xs i).a = (i:Int) - 1 /\ (atN xs i).b = 0 then frS xs (i - 1) else none:=by
 have e:frS xs i = frm xs (i + 1) i:=rfl
 rw [e]
 unfold frm
 rw [if_neg (by omega),if_pos h]
 by_cases h1:1 <= i
 ·unfold frS
  rw [zCY xs i (i - 1 + 1) (i - 1) (by omega) (by omega)]
 ·simp [h1]
theorem zFS {xs:List zD} {i:Nat} (h:zR (atN xs i).k = 2) (h1:1 <= i) (hb:(atN xs i).b = (i:Int) - 1) {f:Nat} (hf:frS xs (i - 1) = some f) (hf1:1 <= f) (ha:(atN xs i).a = (f:Int) - 1):frS xs i = frS xs (f - 1):=by
 have hle:=zAM hf
 have e:frS xs i = frm xs (i + 1) i:=rfl
 rw [e]
 unfold frm
 rw [if_neg (by omega),if_neg (by omega),if_pos ⟨h1,hb⟩]
 have e1:frm xs i (i - 1) = some f:=by rw [<- hf]; exact zCY xs i (i - 1 + 1) (i - 1) (by omega) (by omega)
 rw [e1]
 simp only
 rw [if_pos ⟨hf1,ha⟩]
 exact zCY xs i (f - 1 + 1) (f - 1) (by omega) (by omega)
theorem zD5 {xs:List zD} {i:Nat} (h:zR (atN xs i).k = 2) (hn:¬ (1 <= i /\ (atN xs i).b = (i:Int) - 1 /\ ∃ f,frS xs (i - 1) = some f /\ 1 <= f /\ (atN xs i).a = (f:Int) - 1)):frS xs i = none:=by
 have e:frS xs i = frm xs (i + 1) i:=rfl
 rw [e]
 unfold frm
 rw [if_neg (by omega),if_neg (by omega)]
 by_cases hc:1 <= i /\ (atN xs i).b = (i:Int) - 1
 ·rw [if_pos hc]
  cases hf:frm xs i (i - 1) with
  | none=>rfl
  | some f=>
   have:frS xs (i - 1) = some f:=by rw [<- hf]; exact zCY xs (i - 1 + 1) i (i - 1) (by omega) (by omega)
   simp only
   rw [if_neg]
   intro hc2
   exact hn ⟨hc.1,hc.2,f,this,hc2.1,hc2.2⟩
 ·rw [if_neg hc]
theorem zBt {xs:List zD} {i f:Nat} (h:frS xs i = some f) :
  (zR (atN xs i).k = 0 /\ (atN xs i).a = 0 /\ (atN xs i).b = 0 /\ f = i) \/
  (zR (atN xs i).k = 1 /\ 1 <= i /\ (atN xs i).a = (i:Int) - 1 /\ (atN xs i).b = 0 /\ frS xs (i - 1) = some f) \/
  (zR (atN xs i).k = 2 /\ 1 <= i /\ (atN xs i).b = (i:Int) - 1 /\ ∃ f2,frS xs (i - 1) = some f2 /\ 1 <= f2 /\ (atN xs i).a = (f2:Int) - 1 /\ frS xs (f2 - 1) = some f):=by
 rcases zBJ (atN xs i).k with hk | hk | hk
 ·rw [zD4 hk] at h
  split at h
  ·rename_i hc
   injection h with h
   exact Or.inl ⟨hk,hc.1,hc.2,h.symm⟩
  ·cases h
 ·rw [zFR hk] at h
  split at h
  ·rename_i hc
   exact Or.inr (Or.inl ⟨hk,hc.1,hc.2.1,hc.2.2,h⟩)
  ·cases h
 ·by_cases hn:1 <= i /\ (atN xs i).b = (i:Int) - 1 /\ ∃ f,frS xs (i - 1) = some f /\ 1 <= f /\ (atN xs i).a = (f:Int) - 1
  ·obtain ⟨h1,hb,f2,hf2,h2,ha⟩:=hn
   rw [zFS hk h1 hb hf2 h2 ha] at h
   exact Or.inr (Or.inr ⟨hk,h1,hb,f2,hf2,h2,ha,h⟩)
  ·rw [zD5 hk hn] at h
   cases h
def zBi (o:zD) (k:Nat) (st:List Nat):Option (List Nat):=
 if zR o.k = 0 then (if o.a = 0 /\ o.b = 0 then some (k :: st) else none)
 else if zR o.k = 1 then (match st with
  | t :: r=>if o.a = (t:Int) /\ o.b = 0 then some (k :: r) else none
  | []=>none)
 else (match st with
  | t2 :: t1 :: r=>if o.a = (t1:Int) /\ o.b = (t2:Int) then some (k :: r) else none
  | _=>none)
def stk (xs:List zD):Nat -> Option (List Nat)
 | 0=>some []
 | k + 1=>(match stk xs k with
  | none=>none
  | some st=>zBi (atN xs k) k st)
theorem zBu {xs:List zD} {k:Nat} {st:List Nat} (h:stk xs k = some st):stk xs (k + 1) = zBi (atN xs k) k st:=by
 simp only [stk,h]
theorem zId {xs:List zD} {k:Nat} (h:stk xs k = none):∀ m,k <= m -> stk xs m = none
 | 0,hm=>by
  obtain rfl:k = 0:=by omega
  exact h
 | m + 1,hm=>by
  by_cases e:k = m + 1
  ·subst e; exact h
  ·simp only [stk,zId h m (by omega)]
theorem zCm (xs:List zD):∀ n i f st,i < n -> frS xs i = some f -> stk xs f = some st -> stk xs (i + 1) = some (i :: st)
 | 0,_,_,_,hi,_,_=>absurd hi (Nat.not_lt_zero _)
 | n + 1,i,f,st,hi,h,hs=>by
  rcases zBt h with ⟨hk,ha,hb,rfl⟩ | ⟨hk,h1,ha,hb,hf⟩ | ⟨hk,h1,hb,f2,hf2,h2,ha,hf⟩
  ·rw [zBu hs]
   simp [zBi,hk,ha,hb]
  ·have:=zCm xs n (i - 1) f st (by omega) hf hs
   rw [Nat.sub_add_cancel h1] at this
   rw [zBu this]
   unfold zBi
   rw [if_neg (by omega),if_pos hk]
   simp only
   rw [if_pos ⟨by rw [ha]; omega,hb⟩]
  ·have hle:=zAM hf2
   have s1:=zCm xs n (f2 - 1) f st (by omega) hf hs
   rw [Nat.sub_add_cancel h2] at s1
   have s2:=zCm xs n (i - 1) f2 ((f2 - 1) :: st) (by omega) hf2 s1
   rw [Nat.sub_add_cancel h1] at s2
   rw [zBu s2]
   unfold zBi
   rw [if_neg (by omega),if_neg (by omega)]
   simp only
   rw [if_pos ⟨by rw [ha]; omega,by rw [hb]; omega⟩]
def zOC (xs:List zD):Nat -> List Nat -> Prop
 | k,[]=>k = 0
 | k,s :: r=>s + 1 = k /\ ∃ f,frS xs s = some f /\ zOC xs f r
theorem zCn (xs:List zD):∀ k st,stk xs k = some st -> zOC xs k st
 | 0,st,h=>by
  simp only [stk,Option.some.injEq] at h
  subst h
  rfl
 | k + 1,st',h=>by
  cases hs:stk xs k with
  | none=>simp only [stk,hs] at h; cases h
  | some st=>
   have ih:=zCn xs k st hs
   rw [zBu hs] at h
   unfold zBi at h
   split at h
   ·rename_i hk
    split at h
    ·rename_i hc
     injection h with h
     subst h
     exact ⟨rfl,k,by rw [zD4 hk,if_pos hc],ih⟩
    ·cases h
   ·split at h
    ·rename_i hk
     split at h
     ·rename_i t r
      obtain ⟨e,f,hf,hr⟩:=ih
      split at h
      ·rename_i hc
       injection h with h
       subst h
       refine ⟨rfl,f,?_,hr⟩
       rw [zFR hk,if_pos ⟨by omega,by rw [hc.1]; omega,hc.2⟩]
       have:k - 1 = t:=by omega
       rw [this]; exact hf
      ·cases h
     ·cases h
    ·rename_i hk0 hk1
     have hk:zR (atN xs k).k = 2:=by rcases zBJ (atN xs k).k with h | h | h <;> omega
     split at h
     ·rename_i t2 t1 r
      obtain ⟨e,f2,hf2,e1,f1,hf1,hr⟩:=ih
      split at h
      ·rename_i hc
       injection h with h
       subst h
       refine ⟨rfl,f1,?_,hr⟩
       have e2:k - 1 = t2:=by omega
       rw [zFS hk (by omega) (by rw [hc.2]; omega) (f:=f2) (by rw [e2]; exact hf2) (by omega) (by rw [hc.1]; omega)]
       have:f2 - 1 = t1:=by omega
       rw [this]; exact hf1
      ·cases h
     ·cases h
theorem zEh {xs:List zD} (h:1 <= xs.length):frS xs (xs.length - 1) = some 0 ↔ ∃ st,stk xs xs.length = some st /\ st.length = 1:=by
 constructor
 ·intro hf
  have:=zCm xs xs.length (xs.length - 1) 0 [] (by omega) hf rfl
  rw [Nat.sub_add_cancel h] at this
  exact ⟨_,this,rfl⟩
 ·rintro ⟨st,hs,hl⟩
  have hc:=zCn xs _ _ hs
  match st,hl with
  | [x],_=>
   obtain ⟨e,f,hf,hr⟩:=hc
   have hf0:f = 0:=hr
   subst hf0
   have:xs.length - 1 = x:=by omega
   rw [this]; exact hf
def ZL (xs:List zD):Prop:=1 <= xs.length /\ xs.length <= 20000 /\ frS xs (xs.length - 1) = some 0 /\ ∀ i,i < xs.length -> zAL (atN xs i)
theorem ZL.stkS {xs:List zD} (h:ZL xs) {k:Nat} (hk:k <= xs.length):∃ st,stk xs k = some st:=by
 obtain ⟨st,hs,_⟩:=(zEh h.1).1 h.2.2.1
 cases e:stk xs k with
 | some st'=>exact ⟨st',rfl⟩
 | none=>rw [zId e _ hk] at hs; cases hs
def zOK (xs:List zD) (k:Nat):Prop:=
 (zR (atN xs k).k = 0 /\ (atN xs k).a = 0 /\ (atN xs k).b = 0) \/
 (zR (atN xs k).k = 1 /\ 1 <= k /\ (atN xs k).a = (k:Int) - 1 /\ (atN xs k).b = 0) \/
 (zR (atN xs k).k = 2 /\ 2 <= k /\ (atN xs k).b = (k:Int) - 1 /\ 0 <= (atN xs k).a /\ (atN xs k).a < (k:Int) - 1)
theorem ZL.kidsAt {xs:List zD} (h:ZL xs) {k:Nat} (hk:k < xs.length):zOK xs k:=by
 obtain ⟨st,hs⟩:=h.stkS (k:=k + 1) (by omega)
 have hc:=zCn xs _ _ hs
 match st,hc with
 | [],hc=>cases hc
 | s :: r,hc=>
  obtain ⟨e,f,hf,_⟩:=hc
  obtain rfl:s = k:=by omega
  rcases zBt hf with ⟨hk,ha,hb,rfl⟩ | ⟨hk,h1,ha,hb,hf⟩ | ⟨hk,h1,hb,f2,hf2,h2,ha,hf⟩
  ·exact Or.inl ⟨hk,ha,hb⟩
  ·exact Or.inr (Or.inl ⟨hk,h1,ha,hb⟩)
  ·have:=zAM hf2
   exact Or.inr (Or.inr ⟨hk,by omega,hb,by omega,by omega⟩)
theorem ZL.first {xs:List zD} (h:ZL xs):zR (atN xs 0).k = 0:=by
 rcases h.kidsAt (k:=0) (by have:=h.1; omega) with h | h | h
 ·exact h.1
 ·omega
 ·omega
def cnt (xs:List zD):Nat -> Nat
 | 0=>0
 | k + 1=>if (atN xs k).k = 6 then cnt xs k else cnt xs k + 1
theorem zDp (xs:List zD):∀ k,cnt xs k <= k
 | 0=>Nat.le_refl _
 | k + 1=>by
  have:=zDp xs k
  unfold cnt
  split <;> omega
theorem zIe (xs:List zD):∀ j k,j <= k -> cnt xs j <= cnt xs k
 | j,0,h=>by
  obtain rfl:j = 0:=by omega
  exact Nat.le_refl _
 | j,k + 1,h=>by
  by_cases e:j = k + 1
  ·subst e; exact Nat.le_refl _
  ·have:=zIe xs j k (by omega)
   have h2:cnt xs (k + 1) = if (atN xs k).k = 6 then cnt xs k else cnt xs k + 1:=rfl
   rw [h2]
   split <;> omega
def mvd (xs:List zD) (a:Int):Int:=(cnt xs (a.toNat + 1):Int) - 1
def erN (xs:List zD) (o:zD):zD:=⟨o.k,o.t,if zR o.k = 0 then 0 else mvd xs o.a,if zR o.k = 2 then mvd xs o.b else 0⟩
def er (xs:List zD):Nat -> List zD
 | 0=>[]
 | k + 1=>if (atN xs k).k = 6 then er xs k else er xs k ++ [erN xs (atN xs k)]
theorem zBd (xs:List zD):∀ k,(er xs k).length = cnt xs k
 | 0=>rfl
 | k + 1=>by
  unfold er cnt
  split
  ·exact zBd xs k
  ·simp [zBd xs k]
theorem zIf {xs:List zD} {k:Nat} (h:(atN xs k).k = 6):er xs (k + 1) = er xs k:=by
 show (if (atN xs k).k = 6 then er xs k else er xs k ++ [erN xs (atN xs k)]) = _
 rw [if_pos h]
theorem zDB {xs:List zD} {k:Nat} (h:(atN xs k).k ≠ 6):er xs (k + 1) = er xs k ++ [erN xs (atN xs k)]:=by
 show (if (atN xs k).k = 6 then er xs k else er xs k ++ [erN xs (atN xs k)]) = _
 rw [if_neg h]
theorem zKv {xs:List zD} (h:ZL xs):cnt xs 1 = 1:=by
 have:=h.first
 unfold cnt cnt
 rw [if_neg]
 intro e
 rw [e] at this
 simp [zR] at this
def zNH (xs us:List zD) (v:Bool):Prop:=(ZL xs /\ v = true /\ us = er xs xs.length) \/ (¬ ZL xs /\ v = false /\ us = [])
end Go.Proofs.YtfboipappaonhaaGreat
