import Derived.Deep.MidRow
import Derived.Deep.RegionHeld
import Derived.Laws.MakeOwn
import Derived.OwnWalk
import Derived.Laws.OwnMore
import Derived.Test.YtgiemobdmbijiaaGreatDoorN00
import Derived.Test.YtgiemobdmbijiaaGreatDoorN01
namespace Go.Proofs.YtgiemobdmbijiaaGreatDoor
set_option maxHeartbeats 16000000
set_option maxRecDepth 100000
open Go.RowKit
def sub (s:ByteArray) (i n:Nat):ByteArray:=s.extract i (i + n)
theorem zBG {s:ByteArray} {i n:Nat} (h:i + n <= s.size):(sub s i n).size = n:=by
 unfold sub
 rw [ByteArray.size_extract]
 omega
theorem zCB {s:ByteArray} {i n j:Nat} (h:i + n <= s.size) (hj:j < n):bt (sub s i n) j = bt s (i + j):=by
 have h':i + n <= s.data.size:=h
 unfold bt sub
 rw [ByteArray.data_extract,Array.getElem?_extract,if_pos (by omega)]
theorem zBH {t:ByteArray} {c:UInt8} (h:t.size = 1):t = ⟨#[c]⟩ ↔ bt t 0 = c:=by
 obtain ⟨⟨l⟩⟩:=t
 match l,h with
 | [x],_=>simp [bt]
def opT (xs:List OpR) (t:ByteArray):Prop:=∃ j,j < xs.length /\ (atO xs j).s = t
def zIR (xs:List OpR) (s:ByteArray) (i n k:Nat):Prop:=
 1 <= n /\ i + n <= s.size /\
 (
  (cls (bt s i) = 2 /\ k = 1 /\ (∀ j,j < n -> cls (bt s (i + j)) = 2) /\ (i + n < s.size -> cls (bt s (i + n)) ≠ 2)) \/
  (cls (bt s i) = 3 /\ k = 2 /\ (∀ j,j < n -> (cls (bt s (i + j)) = 2 \/ cls (bt s (i + j)) = 3)) /\ (i + n < s.size -> ¬ (cls (bt s (i + n)) = 2 \/ cls (bt s (i + n)) = 3))) \/
  (cls (bt s i) = 4 /\ k = 4 /\ n = 1) \/ (cls (bt s i) = 5 /\ k = 5 /\ n = 1) \/
  (cls (bt s i) = 6 /\ ((k = 3 /\ opT xs (sub s i n) /\ ∀ m,n < m -> i + m <= s.size -> ¬ opT xs (sub s i m)) \/ (k = 6 /\ n = 1 /\ ∀ m,1 <= m -> i + m <= s.size -> ¬ opT xs (sub s i m)))) \/
  (cls (bt s i) = 0 /\ k = 6 /\ n = 1))
def zCg (s:ByteArray) (i j:Nat):Prop:=∀ q,i <= q -> q < j -> cls (bt s q) = 1
def zAx (xs:List OpR) (s:ByteArray):Nat -> List zT -> Prop
 | _,[]=>False
 | i,t :: out=>(out = [] /\ i <= s.size /\ zCg s i s.size /\ t = ⟨7,s.extract i s.size,⟨#[]⟩⟩) \/
   ∃ j n k:Nat,i <= j /\ j < s.size /\ zCg s i j /\ cls (bt s j) ≠ 1 /\ zIR xs s j n k /\ t = ⟨(k:Int),s.extract i j,s.extract j (j + n)⟩ /\ zAx xs s (j + n) out
theorem zAx.fin {xs:List OpR} {s:ByteArray} {i:Nat} (h1:i <= s.size) (h2:zCg s i s.size):zAx xs s i [⟨7,s.extract i s.size,⟨#[]⟩⟩]:=Or.inl ⟨rfl,h1,h2,rfl⟩
theorem zAx.tok {xs:List OpR} {s:ByteArray} {i j n k:Nat} {out:List zT} (a:i <= j) (b:j < s.size) (c:zCg s i j) (d:cls (bt s j) ≠ 1) (e:zIR xs s j n k) (f:zAx xs s (j + n) out) :
  zAx xs s i (⟨(k:Int),s.extract i j,s.extract j (j + n)⟩ :: out):=Or.inr ⟨j,n,k,a,b,c,d,e,rfl,f⟩
def opB (xs:List OpR) (t:ByteArray):Bool:=(List.range xs.length).any fun j=>(atO xs j).s.data == t.data
theorem zC4 (xs:List OpR) (t:ByteArray):opB xs t = true ↔ opT xs t:=by
 have e:∀ a b:ByteArray,(a.data = b.data) ↔ a = b:=fun a b=>⟨fun h=>by cases a; cases b; simp_all,fun h=>by rw [h]⟩
 simp [opB,opT,List.any_eq_true,e]
def ZR (xs:List OpR) (t:ByteArray):Nat:=
 if zNO t = true then 1 else if zLh t = true then 2 else if t.data = #[40] then 4 else if t.data = #[41] then 5 else if opB xs t = true then 3 else 6
def zAm (xs:List OpR):Prop:=∀ j,j < xs.length -> 1 <= (atO xs j).s.size /\ (atO xs j).s.size <= 16 /\ ∀ q,q < (atO xs j).s.size -> cls (bt (atO xs j).s q) = 6
theorem zDm {xs:List OpR} (h:zDR xs xs.length):zAm xs:=by
 intro j hj
 have hk:=h j hj
 unfold OpR.ok okB zFW at hk
 simp only [Bool.and_eq_true,decide_eq_true_eq] at hk
 obtain ⟨⟨⟨⟨⟨h1,h2⟩,h3⟩,_⟩,_⟩,_⟩:=hk
 refine ⟨h2,h3,fun q hq=>?_⟩
 have hm:bt (atO xs j).s q ∈ (atO xs j).s.data.toList:=by
  have hq':q < (atO xs j).s.data.size:=hq
  unfold bt
  rw [Array.getElem?_eq_getElem hq']
  simp
 have:=List.all_eq_true.1 h1 _ hm
 rw [zHT] at this
 simpa using this
theorem zHa {xs:List OpR} {s:ByteArray} {i n:Nat} (hv:zAm xs) (_h1:1 <= n) (h:i + n <= s.size) (ho:opT xs (sub s i n)):n <= 16 /\ cls (bt s i) = 6:=by
 obtain ⟨j,hj,e⟩:=ho
 obtain ⟨a,b,c⟩:=hv j hj
 have hs:=zBG h
 rw [<- e] at hs
 have:=c 0 (by omega)
 rw [e,zCB h (by omega)] at this
 exact ⟨by omega,this⟩
theorem zLq {xs:List OpR} {s:ByteArray} {i n:Nat} (hv:zAm xs) (h1:1 <= n) (h:i + n <= s.size) (hc:cls (bt s i) = 2) :
  (ZR xs (sub s i n) = 1 /\ ∀ j,j < n -> cls (bt s (i + j)) = 2) \/ (ZR xs (sub s i n) = 6 /\ ¬ ∀ j,j < n -> cls (bt s (i + j)) = 2):=by
 have hs:=zBG h
 have h0:bt (sub s i n) 0 = bt s i:=by rw [zCB h (by omega)]; rfl
 by_cases hn:zDS (sub s i n)
 ·refine Or.inl ⟨by simp [ZR,Zb,hn],fun j hj=>?_⟩
  have:=hn.2 j (by omega)
  rwa [zCB h hj] at this
 ·refine Or.inr ⟨?_,fun ha=>hn ⟨by omega,fun j hj=>by rw [zCB h (by omega)]; exact ha j (by omega)⟩⟩
  have n2:¬ zBY (sub s i n):=fun hh=>by
   have:=hh.2 0 (by omega)
   rw [h0] at this
   omega
  have n3:¬ sub s i n = ⟨#[40]⟩:=fun e=>by
   have e1:n = 1:=by rw [e] at hs; exact hs.symm
   have:=(zBH (by omega)).1 e
   rw [h0] at this
   have:=(zDi _).2 this
   omega
  have n4:¬ sub s i n = ⟨#[41]⟩:=fun e=>by
   have e1:n = 1:=by rw [e] at hs; exact hs.symm
   have:=(zBH (by omega)).1 e
   rw [h0] at this
   have:=(zC1 _).2 this
   omega
  have n5:¬ opT xs (sub s i n):=fun e=>by
   have:=(zHa hv h1 h e).2
   omega
  simp [ZR,Zb,Zg,zC4,zBm,hn,n2,n3,n4,n5]
theorem zIS {xs:List OpR} {s:ByteArray} {i n:Nat} (h1:1 <= n) (h:i + n <= s.size) (hc:cls (bt s i) = 3) (ha:∀ j,j < n -> (cls (bt s (i + j)) = 2 \/ cls (bt s (i + j)) = 3)) :
  ZR xs (sub s i n) = 2:=by
 have hs:=zBG h
 have h0:bt (sub s i n) 0 = bt s i:=by rw [zCB h (by omega)]; rfl
 have n1:¬ zDS (sub s i n):=fun hh=>by
  have:=hh.2 0 (by omega)
  rw [h0] at this
  omega
 have n2:zBY (sub s i n):=by
  refine ⟨by omega,fun j hj=>?_⟩
  rw [hs] at hj
  rw [zCB h hj]
  by_cases e:j = 0
  ·subst e; exact Or.inl hc
  ·have:=ha j hj
   omega
 simp [ZR,Zb,Zg,n1,n2]
theorem zGt {xs:List OpR} {s:ByteArray} {i n:Nat} (h1:1 <= n) (h:i + n <= s.size) (hc:cls (bt s i) = 6) :
  (ZR xs (sub s i n) = 3 /\ opT xs (sub s i n)) \/ (ZR xs (sub s i n) = 6 /\ ¬ opT xs (sub s i n)):=by
 have hs:=zBG h
 have h0:bt (sub s i n) 0 = bt s i:=by rw [zCB h (by omega)]; rfl
 have n1:¬ zDS (sub s i n):=fun hh=>by
  have:=hh.2 0 (by omega)
  rw [h0] at this
  omega
 have n2:¬ zBY (sub s i n):=fun hh=>by
  have:=hh.2 0 (by omega)
  rw [h0] at this
  omega
 have n3:¬ sub s i n = ⟨#[40]⟩:=fun e=>by
  have e1:n = 1:=by rw [e] at hs; exact hs.symm
  have:=(zBH (by omega)).1 e
  rw [h0] at this
  have:=(zDi _).2 this
  omega
 have n4:¬ sub s i n = ⟨#[41]⟩:=fun e=>by
  have e1:n = 1:=by rw [e] at hs; exact hs.symm
  have:=(zBH (by omega)).1 e
  rw [h0] at this
  have:=(zC1 _).2 this
  omega
 by_cases n5:opT xs (sub s i n)
 ·exact Or.inl ⟨by simp [ZR,Zb,Zg,zC4,zBm,n1,n2,n3,n4,n5],n5⟩
 ·exact Or.inr ⟨by simp [ZR,Zb,Zg,zC4,zBm,n1,n2,n3,n4,n5],n5⟩
theorem zLr {xs:List OpR} {s:ByteArray} {i:Nat} (hv:zAm xs) (h:i + 1 <= s.size) (hc:cls (bt s i) = 4 \/ cls (bt s i) = 5 \/ cls (bt s i) = 0) :
  (cls (bt s i) = 4 /\ ZR xs (sub s i 1) = 4) \/ (cls (bt s i) = 5 /\ ZR xs (sub s i 1) = 5) \/ (cls (bt s i) = 0 /\ ZR xs (sub s i 1) = 6):=by
 have hs:=zBG h
 have h0:bt (sub s i 1) 0 = bt s i:=by rw [zCB h (by omega)]; rfl
 have n1:¬ zDS (sub s i 1):=fun hh=>by
  have:=hh.2 0 (by omega)
  rw [h0] at this
  omega
 have n2:¬ zBY (sub s i 1):=fun hh=>by
  have:=hh.2 0 (by omega)
  rw [h0] at this
  omega
 have n5:¬ opT xs (sub s i 1):=fun e=>by
  have:=(zHa hv (by omega) h e).2
  omega
 have e4:sub s i 1 = ⟨#[40]⟩ ↔ cls (bt s i) = 4:=by rw [zBH hs,h0,zDi]
 have e5:sub s i 1 = ⟨#[41]⟩ ↔ cls (bt s i) = 5:=by rw [zBH hs,h0,zC1]
 rcases hc with c | c | c
 ·exact Or.inl ⟨c,by simp [ZR,Zb,Zg,zBm,n1,n2,e4,c]⟩
 ·exact Or.inr (Or.inl ⟨c,by simp [ZR,Zb,Zg,zBm,n1,n2,e4,e5,c]⟩)
 ·exact Or.inr (Or.inr ⟨c,by simp [ZR,Zb,Zg,zC4,zBm,n1,n2,e4,e5,n5,c]⟩)
def zKX (s:ByteArray) (i r:Nat):Prop:=
 1 <= r /\ i + r <= s.size /\
 (
  (cls (bt s i) = 6 /\ r <= 16 /\ (r = 16 \/ i + r = s.size)) \/
  ((cls (bt s i) = 2 \/ cls (bt s i) = 3) /\ (∀ j,j < r -> (cls (bt s (i + j)) = 2 \/ cls (bt s (i + j)) = 3)) /\ (i + r < s.size -> ¬ (cls (bt s (i + r)) = 2 \/ cls (bt s (i + r)) = 3))) \/
  ((cls (bt s i) ≠ 6 /\ cls (bt s i) ≠ 2 /\ cls (bt s i) ≠ 3) /\ r = 1))
def zKY (xs:List OpR) (s:ByteArray) (i r:Nat):Prop:=
 1 <= r /\ (r = 1 \/ ZR xs (sub s i r) ≠ 6) /\ ∃ m,zKX s i m /\ r <= m /\ ∀ q,r < q -> q <= m -> ZR xs (sub s i q) = 6
theorem zIT {xs:List OpR} {s:ByteArray} {i r:Nat} (hv:zAm xs) (h:zKY xs s i r) (hb:cls (bt s i) ≠ 1):zIR xs s i r (ZR xs (sub s i r)):=by
 obtain ⟨h1,h2,m,⟨hm1,hms,hm⟩,hrm,hq⟩:=h
 refine ⟨h1,by omega,?_⟩
 have hc7:=zOh (bt s i)
 rcases hm with ⟨c,hm,hm'⟩ | ⟨c,ha,hm⟩ | ⟨⟨c1,c2,c3⟩,rfl⟩
 ·refine Or.inr (Or.inr (Or.inr (Or.inr (Or.inl ⟨c,?_⟩))))
  have hno:∀ q,r < q -> i + q <= s.size -> ¬ opT xs (sub s i q):=fun q hr hq2 ho=>by
   have:=(zHa hv (by omega) hq2 ho).1
   have hqm:q <= m:=by omega
   have:=hq q hr hqm
   rcases zGt (xs:=xs) (by omega) hq2 c with ⟨x,_⟩ | ⟨_,x⟩
   ·omega
   ·exact x ho
  rcases zGt (xs:=xs) h1 (by omega) c with ⟨x,y⟩ | ⟨x,y⟩
  ·exact Or.inl ⟨x,y,hno⟩
  ·have hr1:r = 1:=by omega
   refine Or.inr ⟨x,hr1,fun q h1q hq2=>?_⟩
   by_cases e:q = r
   ·subst e; exact y
   ·exact hno q (by omega) hq2
 ·rcases c with c | c
  ·refine Or.inl ?_
   have key:=fun q (a:1 <= q) (b:i + q <= s.size)=>zLq (xs:=xs) hv a b c
   have hall:ZR xs (sub s i r) = 1 /\ ∀ j,j < r -> cls (bt s (i + j)) = 2:=by
    rcases key r h1 (by omega) with x | ⟨x,y⟩
    ·exact x
    ·exfalso
     have hr1:r = 1:=by omega
     subst hr1
     exact y (fun j hj=>by
      have:j = 0:=by omega
      subst this; exact c)
   refine ⟨c,hall.1,hall.2,fun hlt hd=>?_⟩
   have hrm':r + 1 <= m:=by
    rcases Nat.lt_or_ge r m with x | x
    ·exact x
    ·have:r = m:=by omega
     subst this
     exact absurd (Or.inl hd) (hm hlt)
   have h6:=hq (r + 1) (by omega) hrm'
   rcases key (r + 1) (by omega) (by omega) with ⟨x,_⟩ | ⟨_,y⟩
   ·omega
   ·refine y (fun j hj=>?_)
    by_cases e:j = r
    ·subst e; exact hd
    ·exact hall.2 j (by omega)
  ·refine Or.inr (Or.inl ?_)
   have hrm':r = m:=by
    rcases Nat.lt_or_ge r m with x | x
    ·have:=hq m x (Nat.le_refl _)
     rw [zIS (xs:=xs) hm1 hms c ha] at this
     omega
    ·omega
   subst hrm'
   exact ⟨c,zIS hm1 hms c ha,ha,hm⟩
 ·have hr1:r = 1:=by omega
  subst hr1
  rcases zLr (xs:=xs) hv hms (by omega) with ⟨c,x⟩ | ⟨c,x⟩ | ⟨c,x⟩
  ·exact Or.inr (Or.inr (Or.inl ⟨c,x,rfl⟩))
  ·exact Or.inr (Or.inr (Or.inr (Or.inl ⟨c,x,rfl⟩)))
  ·exact Or.inr (Or.inr (Or.inr (Or.inr (Or.inr ⟨c,x,rfl⟩))))
structure zD where
 k:Int
 t:ByteArray
 a:Int
 b:Int
def zD.zero:zD:=⟨0,⟨#[]⟩,0,0⟩
def atN (xs:List zD) (i:Nat):zD:=xs.getD i zD.zero
def zFb (w:World) (b off:Nat) (xs:List zD) (i:Nat):Prop:=
 w.cell? ⟨b,off + i * 4,none⟩ = some (.int .i64 (atN xs i).k) /\ w.cell? ⟨b,off + i * 4 + 1,none⟩ = some (.string (atN xs i).t) /\ w.cell? ⟨b,off + i * 4 + 2,none⟩ = some (.int .i64 (atN xs i).a) /\ w.cell? ⟨b,off + i * 4 + 3,none⟩ = some (.int .i64 (atN xs i).b)
def zAs (w:World) (b off:Nat) (xs:List zD):Prop:=∀ i,i < xs.length -> zFb w b off xs i
def zEQ (xs:List zD):Prop:=∀ i,i < xs.length -> (atN xs i).t.size <= maxLen
theorem zFb.below {w w':World} {b off i:Nat} {xs:List zD} {B:Nat} (h:zFb w b off xs i) (hb:Below B w w') (hB:b < B):zFb w' b off xs i:=by
 obtain ⟨h0,h1,h2,h3⟩:=h
 exact ⟨(hb.cell (p:=⟨b,_,none⟩) hB).trans h0,(hb.cell (p:=⟨b,_,none⟩) hB).trans h1,(hb.cell (p:=⟨b,_,none⟩) hB).trans h2,(hb.cell (p:=⟨b,_,none⟩) hB).trans h3⟩
theorem zAs.below {w w':World} {b off:Nat} {xs:List zD} {B:Nat} (h:zAs w b off xs) (hb:Below B w w') (hB:b < B):zAs w' b off xs:=
 fun i hi=>(h i hi).below hb hB
def ZB (w:World) (g:Nat) (xs:List zD) (k:Nat):Prop:=
 g < w.heap.size /\ w.there g 0 (xs.length * 4) /\ ∀ i,i < k -> zFb w g 0 xs i
theorem ZB.grown {w w':World} {g k:Nat} {xs:List zD} {row:Option Nat} (h:ZB w g xs k) (hg:w.grownBy w' row) (hne:some g ≠ row):ZB w' g xs k:=by
 obtain ⟨h1,h2,h3⟩:=h
 have hb:=hg.block g h1 hne
 have e:∀ o,w'.cell? ⟨g,o,none⟩ = w.cell? ⟨g,o,none⟩:=fun o=>World.cell?_of_block (w:=w) hb
 have f:∀ o,w'.frozen? ⟨g,o,none⟩ = w.frozen? ⟨g,o,none⟩:=fun o=>World.frozen?_of_block (w:=w) hb
 refine ⟨Nat.lt_of_lt_of_le h1 hg.size,fun j hj=>⟨by rw [e]; exact (h2 j hj).1,by rw [f]; exact (h2 j hj).2⟩,fun i hi=>?_⟩
 obtain ⟨a0,a1,a2,a3⟩:=h3 i hi
 exact ⟨(e _).trans a0,(e _).trans a1,(e _).trans a2,(e _).trans a3⟩
theorem ZB.below {w w':World} {g k:Nat} {xs:List zD} {B:Nat} (h:ZB w g xs k) (hb:Below B w w') (hB:g < B):ZB w' g xs k:=by
 obtain ⟨h1,h2,h3⟩:=h
 refine ⟨Nat.lt_of_lt_of_le h1 hb.size,fun j hj=>?_,fun i hi=>(h3 i hi).below hb hB⟩
 have:=h2 j hj
 exact ⟨by rw [hb.cell (p:=⟨g,_,none⟩) hB]; exact this.1,by rw [hb.frozen (p:=⟨g,_,none⟩) hB]; exact this.2⟩
theorem ZB.setCell {w:World} {g k:Nat} {xs:List zD} (h:ZB w g xs k) (b o:Nat) (v:Value) (hp:b ≠ g):ZB (w.setCell ⟨b,o,none⟩ v) g xs k:=
 h.grown (row:=some b) ⟨rfl,rfl,rfl,by simp [World.setCell],fun i _ hi=>Below.heap_setCell _ _ _ _ (fun e=>hi (by rw [e]))⟩ (fun e=>hp (Option.some.inj e).symm)
theorem ZB.ops {w:World} {g:Nat} {xs:List zD} (h:ZB w g xs xs.length):zAs w g 0 xs:=fun i hi=>h.2.2 i hi
theorem zCW:(Tryz.prog.info? 120).map (fun i=>(i.zero,i.size,i.bytes)) = some (some (.agg #[.int .i64 0,.string ⟨#[]⟩,.int .i64 0,.int .i64 0]),4,40):=by kernel_rfl
def zY (k:Int):Nat:=if k = 4 then 2 else if k = 3 \/ k = 5 \/ k = 6 then 1 else 0
theorem zDT (k:Int):zY k = 0 \/ zY k = 1 \/ zY k = 2:=by
 unfold zY
 split
 ·exact Or.inr (Or.inr rfl)
 ·split
  ·exact Or.inr (Or.inl rfl)
  ·exact Or.inl rfl
def zBR (o:zD):Prop:=o.t.size <= 20000 /\ ((o.k = 1 /\ zDS o.t) \/ (o.k = 2 /\ zBY o.t) \/ (o.k = 6 /\ o.t.size = 0) \/ ((o.k = 3 \/ o.k = 4 \/ o.k = 5) /\ zFW o.t = true))
def frm (xs:List zD):Nat -> Nat -> Option Nat
 | 0,_=>none
 | n + 1,i=>
  if zY (atN xs i).k = 0 then (if (atN xs i).a = 0 /\ (atN xs i).b = 0 then some i else none)
  else if zY (atN xs i).k = 1 then (if 1 <= i /\ (atN xs i).a = (i:Int) - 1 /\ (atN xs i).b = 0 then frm xs n (i - 1) else none)
  else if 1 <= i /\ (atN xs i).b = (i:Int) - 1 then
   (match frm xs n (i - 1) with
   | none=>none
   | some f=>if 1 <= f /\ (atN xs i).a = (f:Int) - 1 then frm xs n (f - 1) else none)
  else none
theorem zFc (xs:List zD):∀ n i f,frm xs n i = some f -> f <= i
 | 0,i,f,h=>by simp [frm] at h
 | n + 1,i,f,h=>by
  unfold frm at h
  split at h
  ·split at h
   ·injection h with h; omega
   ·cases h
  ·split at h
   ·split at h
    ·have:=zFc xs n _ _ h; omega
    ·cases h
   ·split at h
    ·split at h
     ·cases h
     ·rename_i f' hf'
      have h1:=zFc xs n _ _ hf'
      split at h
      ·have:=zFc xs n _ _ h; omega
      ·cases h
    ·cases h
theorem zB1 (xs:List zD):∀ n m i,i < n -> i < m -> frm xs n i = frm xs m i
 | 0,_,_,h,_=>absurd h (Nat.not_lt_zero _)
 | _ + 1,0,_,_,h=>absurd h (Nat.not_lt_zero _)
 | n + 1,m + 1,i,h,h'=>by
  unfold frm
  by_cases h1:1 <= i
  ·have e:=zB1 xs n m (i - 1) (by omega) (by omega)
   rw [e]
   cases hf:frm xs m (i - 1) with
   | none=>rfl
   | some f=>
    have hle:=zFc xs _ _ _ hf
    have e':=zB1 xs n m (f - 1) (by omega) (by omega)
    simp only [e']
  ·simp [h1]
def frS (xs:List zD) (i:Nat):Option Nat:=frm xs (i + 1) i
theorem zAA {xs:List zD} {i f:Nat} (h:frS xs i = some f):f <= i:=zFc xs _ _ _ h
theorem zDn {xs:List zD} {i:Nat} (h:zY (atN xs i).k = 0):frS xs i = if (atN xs i).a = 0 /\ (atN xs i).b = 0 then some i else none:=by
 unfold frS frm
 rw [if_pos h]
theorem zFK {xs:List zD} {i:Nat} (h:zY (atN xs i).k = 1):frS xs i = if 1 <= i /\ (atN xs i).a = (i:Int) - 1 /\ (atN xs i).b = 0 then frS xs (i - 1) else none:=by
 have e:frS xs i = frm xs (i + 1) i:=rfl
 rw [e]
 unfold frm
 rw [if_neg (by omega),if_pos h]
 by_cases h1:1 <= i
 ·unfold frS
  rw [zB1 xs i (i - 1 + 1) (i - 1) (by omega) (by omega)]
 ·simp [h1]
theorem zFL {xs:List zD} {i:Nat} (h:zY (atN xs i).k = 2) (h1:1 <= i) (hb:(atN xs i).b = (i:Int) - 1) {f:Nat} (hf:frS xs (i - 1) = some f) (hf1:1 <= f) (ha:(atN xs i).a = (f:Int) - 1):frS xs i = frS xs (f - 1):=by
 have hle:=zAA hf
 have e:frS xs i = frm xs (i + 1) i:=rfl
 rw [e]
 unfold frm
 rw [if_neg (by omega),if_neg (by omega),if_pos ⟨h1,hb⟩]
 have e1:frm xs i (i - 1) = some f:=by rw [<- hf]; exact zB1 xs i (i - 1 + 1) (i - 1) (by omega) (by omega)
 rw [e1]
 simp only
 rw [if_pos ⟨hf1,ha⟩]
 exact zB1 xs i (f - 1 + 1) (f - 1) (by omega) (by omega)
theorem zDo {xs:List zD} {i:Nat} (h:zY (atN xs i).k = 2) (hn:¬ (1 <= i /\ (atN xs i).b = (i:Int) - 1 /\ ∃ f,frS xs (i - 1) = some f /\ 1 <= f /\ (atN xs i).a = (f:Int) - 1)):frS xs i = none:=by
 have e:frS xs i = frm xs (i + 1) i:=rfl
 rw [e]
 unfold frm
 rw [if_neg (by omega),if_neg (by omega)]
 by_cases hc:1 <= i /\ (atN xs i).b = (i:Int) - 1
 ·rw [if_pos hc]
  cases hf:frm xs i (i - 1) with
  | none=>rfl
  | some f=>
   have:frS xs (i - 1) = some f:=by rw [<- hf]; exact zB1 xs (i - 1 + 1) i (i - 1) (by omega) (by omega)
   simp only
   rw [if_neg]
   intro hc2
   exact hn ⟨hc.1,hc.2,f,this,hc2.1,hc2.2⟩
 ·rw [if_neg hc]
theorem zBa {xs:List zD} {i f:Nat} (h:frS xs i = some f) :
  (zY (atN xs i).k = 0 /\ (atN xs i).a = 0 /\ (atN xs i).b = 0 /\ f = i) \/
  (zY (atN xs i).k = 1 /\ 1 <= i /\ (atN xs i).a = (i:Int) - 1 /\ (atN xs i).b = 0 /\ frS xs (i - 1) = some f) \/
  (zY (atN xs i).k = 2 /\ 1 <= i /\ (atN xs i).b = (i:Int) - 1 /\ ∃ f2,frS xs (i - 1) = some f2 /\ 1 <= f2 /\ (atN xs i).a = (f2:Int) - 1 /\ frS xs (f2 - 1) = some f):=by
 rcases zDT (atN xs i).k with hk | hk | hk
 ·rw [zDn hk] at h
  split at h
  ·rename_i hc
   injection h with h
   exact Or.inl ⟨hk,hc.1,hc.2,h.symm⟩
  ·cases h
 ·rw [zFK hk] at h
  split at h
  ·rename_i hc
   exact Or.inr (Or.inl ⟨hk,hc.1,hc.2.1,hc.2.2,h⟩)
  ·cases h
 ·by_cases hn:1 <= i /\ (atN xs i).b = (i:Int) - 1 /\ ∃ f,frS xs (i - 1) = some f /\ 1 <= f /\ (atN xs i).a = (f:Int) - 1
  ·obtain ⟨h1,hb,f2,hf2,h2,ha⟩:=hn
   rw [zFL hk h1 hb hf2 h2 ha] at h
   exact Or.inr (Or.inr ⟨hk,h1,hb,f2,hf2,h2,ha,h⟩)
  ·rw [zDo hk hn] at h
   cases h
def zGu (o:zD) (k:Nat) (st:List Nat):Option (List Nat):=
 if zY o.k = 0 then (if o.a = 0 /\ o.b = 0 then some (k :: st) else none)
 else if zY o.k = 1 then (match st with
  | t :: r=>if o.a = (t:Int) /\ o.b = 0 then some (k :: r) else none
  | []=>none)
 else (match st with
  | t2 :: t1 :: r=>if o.a = (t1:Int) /\ o.b = (t2:Int) then some (k :: r) else none
  | _=>none)
def stk (xs:List zD):Nat -> Option (List Nat)
 | 0=>some []
 | k + 1=>(match stk xs k with
  | none=>none
  | some st=>zGu (atN xs k) k st)
theorem zDp {xs:List zD} {k:Nat} {st:List Nat} (h:stk xs k = some st):stk xs (k + 1) = zGu (atN xs k) k st:=by
 simp only [stk,h]
theorem zIU {xs:List zD} {k:Nat} (h:stk xs k = none):∀ m,k <= m -> stk xs m = none
 | 0,hm=>by
  obtain rfl:k = 0:=by omega
  exact h
 | m + 1,hm=>by
  by_cases e:k = m + 1
  ·subst e; exact h
  ·simp only [stk,zIU h m (by omega)]
theorem zCC (xs:List zD):∀ n i f st,i < n -> frS xs i = some f -> stk xs f = some st -> stk xs (i + 1) = some (i :: st)
 | 0,_,_,_,hi,_,_=>absurd hi (Nat.not_lt_zero _)
 | n + 1,i,f,st,hi,h,hs=>by
  rcases zBa h with ⟨hk,ha,hb,rfl⟩ | ⟨hk,h1,ha,hb,hf⟩ | ⟨hk,h1,hb,f2,hf2,h2,ha,hf⟩
  ·rw [zDp hs]
   simp [zGu,hk,ha,hb]
  ·have:=zCC xs n (i - 1) f st (by omega) hf hs
   rw [Nat.sub_add_cancel h1] at this
   rw [zDp this]
   unfold zGu
   rw [if_neg (by omega),if_pos hk]
   simp only
   rw [if_pos ⟨by rw [ha]; omega,hb⟩]
  ·have hle:=zAA hf2
   have s1:=zCC xs n (f2 - 1) f st (by omega) hf hs
   rw [Nat.sub_add_cancel h2] at s1
   have s2:=zCC xs n (i - 1) f2 ((f2 - 1) :: st) (by omega) hf2 s1
   rw [Nat.sub_add_cancel h1] at s2
   rw [zDp s2]
   unfold zGu
   rw [if_neg (by omega),if_neg (by omega)]
   simp only
   rw [if_pos ⟨by rw [ha]; omega,by rw [hb]; omega⟩]
def zOa (xs:List zD):Nat -> List Nat -> Prop
 | k,[]=>k = 0
 | k,s :: r=>s + 1 = k /\ ∃ f,frS xs s = some f /\ zOa xs f r
theorem zCD (xs:List zD):∀ k st,stk xs k = some st -> zOa xs k st
 | 0,st,h=>by
  simp only [stk,Option.some.injEq] at h
  subst h
  rfl
 | k + 1,st',h=>by
  cases hs:stk xs k with
  | none=>simp only [stk,hs] at h; cases h
  | some st=>
   have ih:=zCD xs k st hs
   rw [zDp hs] at h
   unfold zGu at h
   split at h
   ·rename_i hk
    split at h
    ·rename_i hc
     injection h with h
     subst h
     exact ⟨rfl,k,by rw [zDn hk,if_pos hc],ih⟩
    ·cases h
   ·split at h
    ·rename_i hk
     split at h
     ·rename_i t r
      obtain ⟨e,f,hf,hr⟩:=ih
      split at h
      ·rename_i hc
       injection h with h
       subst h
       refine ⟨rfl,f,?_,hr⟩
       rw [zFK hk,if_pos ⟨by omega,by rw [hc.1]; omega,hc.2⟩]
       have:k - 1 = t:=by omega
       rw [this]; exact hf
      ·cases h
     ·cases h
    ·rename_i hk0 hk1
     have hk:zY (atN xs k).k = 2:=by rcases zDT (atN xs k).k with h | h | h <;> omega
     split at h
     ·rename_i t2 t1 r
      obtain ⟨e,f2,hf2,e1,f1,hf1,hr⟩:=ih
      split at h
      ·rename_i hc
       injection h with h
       subst h
       refine ⟨rfl,f1,?_,hr⟩
       have e2:k - 1 = t2:=by omega
       rw [zFL hk (by omega) (by rw [hc.2]; omega) (f:=f2) (by rw [e2]; exact hf2) (by omega) (by rw [hc.1]; omega)]
       have:f2 - 1 = t1:=by omega
       rw [this]; exact hf1
      ·cases h
     ·cases h
theorem zLA {xs:List zD} (h:1 <= xs.length):frS xs (xs.length - 1) = some 0 ↔ ∃ st,stk xs xs.length = some st /\ st.length = 1:=by
 constructor
 ·intro hf
  have:=zCC xs xs.length (xs.length - 1) 0 [] (by omega) hf rfl
  rw [Nat.sub_add_cancel h] at this
  exact ⟨_,this,rfl⟩
 ·rintro ⟨st,hs,hl⟩
  have hc:=zCD xs _ _ hs
  match st,hl with
  | [x],_=>
   obtain ⟨e,f,hf,hr⟩:=hc
   have hf0:f = 0:=hr
   subst hf0
   have:xs.length - 1 = x:=by omega
   rw [this]; exact hf
def zAn (xs:List zD):Prop:=1 <= xs.length /\ xs.length <= 20000 /\ frS xs (xs.length - 1) = some 0 /\ ∀ i,i < xs.length -> zBR (atN xs i)
theorem zAn.stkS {xs:List zD} (h:zAn xs) {k:Nat} (hk:k <= xs.length):∃ st,stk xs k = some st:=by
 obtain ⟨st,hs,_⟩:=(zLA h.1).1 h.2.2.1
 cases e:stk xs k with
 | some st'=>exact ⟨st',rfl⟩
 | none=>rw [zIU e _ hk] at hs; cases hs
def zOk (xs:List zD) (k:Nat):Prop:=
 (zY (atN xs k).k = 0 /\ (atN xs k).a = 0 /\ (atN xs k).b = 0) \/
 (zY (atN xs k).k = 1 /\ 1 <= k /\ (atN xs k).a = (k:Int) - 1 /\ (atN xs k).b = 0) \/
 (zY (atN xs k).k = 2 /\ 2 <= k /\ (atN xs k).b = (k:Int) - 1 /\ 0 <= (atN xs k).a /\ (atN xs k).a < (k:Int) - 1)
theorem zAn.kidsAt {xs:List zD} (h:zAn xs) {k:Nat} (hk:k < xs.length):zOk xs k:=by
 obtain ⟨st,hs⟩:=h.stkS (k:=k + 1) (by omega)
 have hc:=zCD xs _ _ hs
 match st,hc with
 | [],hc=>cases hc
 | s :: r,hc=>
  obtain ⟨e,f,hf,_⟩:=hc
  obtain rfl:s = k:=by omega
  rcases zBa hf with ⟨hk,ha,hb,rfl⟩ | ⟨hk,h1,ha,hb,hf⟩ | ⟨hk,h1,hb,f2,hf2,h2,ha,hf⟩
  ·exact Or.inl ⟨hk,ha,hb⟩
  ·exact Or.inr (Or.inl ⟨hk,h1,ha,hb⟩)
  ·have:=zAA hf2
   exact Or.inr (Or.inr ⟨hk,by omega,hb,by omega,by omega⟩)
theorem zAn.first {xs:List zD} (h:zAn xs):zY (atN xs 0).k = 0:=by
 rcases h.kidsAt (k:=0) (by have:=h.1; omega) with h | h | h
 ·exact h.1
 ·omega
 ·omega
def cnt (xs:List zD):Nat -> Nat
 | 0=>0
 | k + 1=>if (atN xs k).k = 6 then cnt xs k else cnt xs k + 1
theorem zDU (xs:List zD):∀ k,cnt xs k <= k
 | 0=>Nat.le_refl _
 | k + 1=>by
  have:=zDU xs k
  unfold cnt
  split <;> omega
theorem zIV (xs:List zD):∀ j k,j <= k -> cnt xs j <= cnt xs k
 | j,0,h=>by
  obtain rfl:j = 0:=by omega
  exact Nat.le_refl _
 | j,k + 1,h=>by
  by_cases e:j = k + 1
  ·subst e; exact Nat.le_refl _
  ·have:=zIV xs j k (by omega)
   have h2:cnt xs (k + 1) = if (atN xs k).k = 6 then cnt xs k else cnt xs k + 1:=rfl
   rw [h2]
   split <;> omega
def mvd (xs:List zD) (a:Int):Int:=(cnt xs (a.toNat + 1):Int) - 1
def erN (xs:List zD) (o:zD):zD:=⟨o.k,o.t,if zY o.k = 0 then 0 else mvd xs o.a,if zY o.k = 2 then mvd xs o.b else 0⟩
def er (xs:List zD):Nat -> List zD
 | 0=>[]
 | k + 1=>if (atN xs k).k = 6 then er xs k else er xs k ++ [erN xs (atN xs k)]
theorem zBO (xs:List zD):∀ k,(er xs k).length = cnt xs k
 | 0=>rfl
 | k + 1=>by
  unfold er cnt
  split
  ·exact zBO xs k
  ·simp [zBO xs k]
theorem zIW {xs:List zD} {k:Nat} (h:(atN xs k).k = 6):er xs (k + 1) = er xs k:=by
 show (if (atN xs k).k = 6 then er xs k else er xs k ++ [erN xs (atN xs k)]) = _
 rw [if_pos h]
theorem zCh {xs:List zD} {k:Nat} (h:(atN xs k).k ≠ 6):er xs (k + 1) = er xs k ++ [erN xs (atN xs k)]:=by
 show (if (atN xs k).k = 6 then er xs k else er xs k ++ [erN xs (atN xs k)]) = _
 rw [if_neg h]
theorem zLB {xs:List zD} (h:zAn xs):cnt xs 1 = 1:=by
 have:=h.first
 unfold cnt cnt
 rw [if_neg]
 intro e
 rw [e] at this
 simp [zY] at this
def zNU (xs us:List zD) (v:Bool):Prop:=(zAn xs /\ v = true /\ us = er xs xs.length) \/ (¬ zAn xs /\ v = false /\ us = [])
theorem zBI (c:UInt8) (w:World) :
  Calls Tryz.prog 62 #[.int .u8 (c.toNat:Int)] w fun e w'=>e = .returned (.bool (decide (cls c = 2))) /\ w' = w:=by
 go_enter Tryz.func62,Tryz.ntmps62
 go_wp2
 all_goals (go_ret; refine ⟨ZA ?_,rfl⟩; go_light; rw [Bool.eq_iff_iff]; simp [zCA] <;> omega)
def zIX (v:Bool) (p:Prop):Prop:=v = true ↔ p
def zHb (e:Ending) (p:Prop):Prop:=∃ v:Bool,e = .returned (.bool v) /\ zIX v p
theorem zAB (s:ByteArray) (w:World) (hs:s.size <= maxLen) :
  Calls Tryz.prog 39 #[.string s] w fun e w'=>zHb e (zDS s) /\ w' = w:=by
 unfold maxLen at hs
 go_enter Tryz.func39,Tryz.ntmps39
 go_wp2
 go_loop [3] (fun i=>∃ k:Nat,k <= s.size /\ i = .int .i64 k /\ Hid (∀ j,j < k -> cls (bt s j) = 2)) (fun i=>s.size - (intOf i).toNat)
 case atStart=>exact ⟨0,Nat.zero_le _,rfl,zB (fun j h=>by omega)⟩
 case round=>
  obtain ⟨k,hk,rfl,hn⟩:=hrel
  by_cases hlt:k < s.size
  ·cases hb:decide (cls s[k] = 2)
   ·have Hb:=zB hb
    go_wp2_with (go_at_call 62; refine (zBI _ _).mono ?_; rintro e w' ⟨rfl,rfl⟩)
    go_ret
    refine ⟨⟨_,rfl,⟨fun h=>(by cases h),fun h=>?_⟩⟩,rfl⟩
    have h2:=h.2 k hlt
    have:=zA Hb
    rw [ZH hlt] at this
    simp at this
    exact absurd h2 this
   ·have Hb:=zB hb
    go_wp2_with (go_at_call 62; refine (zBI _ _).mono ?_; rintro e w' ⟨rfl,rfl⟩)
    refine ⟨⟨k + 1,by omega,by go_num,zB (fun j hj=>?_)⟩,by simp [intOf]; omega⟩
    by_cases e:j = k
    ·subst e
     have:=zA Hb
     rw [ZH hlt] at this
     simpa using this
    ·exact (zA hn) j (by omega)
  ·by_cases h1:1 <= s.size
   ·have h1':(1:Int) <= (s.size:Int):=by omega
    go_wp2
    go_ret
    exact ⟨⟨_,rfl,⟨fun _=>⟨h1,fun j hj=>(zA hn) j (by omega)⟩,fun _=>by simp; omega⟩⟩,rfl⟩
   ·go_wp2
    go_ret
    exact ⟨⟨decide (0 < s.size),rfl,⟨fun h=>absurd (of_decide_eq_true h) (by omega),fun h=>absurd h.1 h1⟩⟩,rfl⟩
theorem zB2 {a b:ByteArray} (h:a.toList = b.toList):a = b:=by
 rw [ByteArray.toList_eq,ByteArray.toList_eq] at h
 obtain ⟨⟨l⟩⟩:=a
 obtain ⟨⟨l'⟩⟩:=b
 simpa using h
theorem zAy (c:UInt8) (w:World) :
  Calls Tryz.prog 75 #[.int .u8 (c.toNat:Int)] w fun e w'=>e = .returned (.bool (decide (cls c = 3))) /\ w' = w:=by
 go_enter Tryz.func75,Tryz.ntmps75
 go_wp2
 all_goals (go_ret; refine ⟨ZA ?_,rfl⟩; go_light; rw [Bool.eq_iff_iff]; simp [zNN] <;> omega)
theorem zCE (s:ByteArray) (w:World) (hs:s.size <= maxLen) :
  Calls Tryz.prog 49 #[.string s] w fun e w'=>zHb e (zBY s) /\ w' = w:=by
 unfold maxLen at hs
 go_enter Tryz.func49,Tryz.ntmps49
 go_wp2
 go_loop [3] (fun i=>∃ k:Nat,k <= s.size /\ i = .int .i64 k /\ Hid (∀ j,j < k -> (cls (bt s j) = 3 \/ (j ≠ 0 /\ cls (bt s j) = 2)))) (fun i=>s.size - (intOf i).toNat)
 case atStart=>exact ⟨0,Nat.zero_le _,rfl,zB (fun j h=>by omega)⟩
 case round=>
  obtain ⟨k,hk,rfl,hn⟩:=hrel
  by_cases hlt:k < s.size
  ·have hbk:=zB (ZH hlt)
   have no:(¬ cls (bt s k) = 3) -> (k = 0 \/ ¬ cls (bt s k) = 2) -> ∀ v,v = false -> zIX v (zBY s):=fun h1 h2 v hv=>by
    subst hv
    refine ⟨fun h=>(by cases h),fun h=>?_⟩
    have:=h.2 k hlt
    omega
   have NO:=zB no
   clear no
   cases hb:decide (cls s[k] = 3)
   ·have hb3:=zB (show ¬ cls (bt s k) = 3 by rw [ZH hlt] at hb; simpa using hb)
    by_cases hk0:k = 0
    ·subst hk0
     go_wp2_with (go_at_call 75; refine (zAy _ _).mono ?_; rintro e w' ⟨rfl,rfl⟩)
     go_ret
     exact ⟨⟨_,rfl,(zA NO) (zA hb3) (Or.inl trivial) _ rfl⟩,rfl⟩
    ·have hk0':((k:Int) == 0) = false:=by simp; omega
     cases hd:decide (cls s[k] = 2)
     ·have hd2:=zB (show ¬ cls (bt s k) = 2 by rw [ZH hlt] at hd; simpa using hd)
      go_wp2_with (first | (go_at_call 75; refine (zAy _ _).mono ?_; rintro e w' ⟨rfl,rfl⟩) | (go_at_call 62; refine (zBI _ _).mono ?_; rintro e w' ⟨rfl,rfl⟩))
      go_ret
      exact ⟨⟨_,rfl,(zA NO) (zA hb3) (Or.inr (zA hd2)) _ rfl⟩,rfl⟩
     ·have hd2:=zB (show cls (bt s k) = 2 by rw [ZH hlt] at hd; simpa using hd)
      go_wp2_with (first | (go_at_call 75; refine (zAy _ _).mono ?_; rintro e w' ⟨rfl,rfl⟩) | (go_at_call 62; refine (zBI _ _).mono ?_; rintro e w' ⟨rfl,rfl⟩))
      refine ⟨⟨k + 1,by omega,by go_num,zB (fun j hj=>?_)⟩,by simp [intOf]; omega⟩
      by_cases e:j = k
      ·subst e
       exact Or.inr ⟨hk0,zA hd2⟩
      ·exact (zA hn) j (by omega)
   ·have hb3:=zB (show cls (bt s k) = 3 by rw [ZH hlt] at hb; simpa using hb)
    go_wp2_with (go_at_call 75; refine (zAy _ _).mono ?_; rintro e w' ⟨rfl,rfl⟩)
    refine ⟨⟨k + 1,by omega,by go_num,zB (fun j hj=>?_)⟩,by simp [intOf]; omega⟩
    by_cases e:j = k
    ·subst e
     exact Or.inl (zA hb3)
    ·exact (zA hn) j (by omega)
  ·by_cases h1:1 <= s.size
   ·have h1':(1:Int) <= (s.size:Int):=by omega
    go_wp2
    go_ret
    exact ⟨⟨_,rfl,⟨fun _=>⟨h1,fun j hj=>(zA hn) j (by omega)⟩,fun _=>by simp; omega⟩⟩,rfl⟩
   ·go_wp2
    go_ret
    exact ⟨⟨decide (0 < s.size),rfl,⟨fun h=>absurd (of_decide_eq_true h) (by omega),fun h=>absurd h.1 h1⟩⟩,rfl⟩
theorem zJf (c:UInt8) (w:World) :
  Calls Tryz.prog 120 #[.int .u8 (c.toNat:Int)] w fun e w'=>e = .returned (.bool (sgB c)) /\ w' = w:=by
 go_enter Tryz.func120,Tryz.ntmps120
 go_wp2
 rw [run_callFunc_extern Tryz.func89 (by kernel_rfl) (by kernel_rfl) (by kernel_rfl) (e:=Extern.BytealgIndexByte.indexByte) (by kernel_rfl),Lib.run_indexByteString]
 simp only [Result.andThen]
 rw [Oper.upon_value]
 go_wp2
 go_ret
 refine ⟨?_,rfl⟩
 exact congrArg (fun b=>Ending.returned (.bool b)) (zOg c)
theorem ZX (c:UInt8) (w:World) :
  Calls Tryz.prog 77 #[.int .u8 (c.toNat:Int)] w fun e w'=>e = .returned (.bool (sgB c)) /\ w' = w:=by
 go_enter Tryz.func77,Tryz.ntmps77
 go_wp2
 go_loop [4] (fun i=>∃ k:Nat,k <= 18 /\ i = .int .i64 k /\ ∀ j,j < k -> sgL.getD j 0 ≠ c) (fun i=>18 - (intOf i).toNat)
 case atStart=>exact ⟨0,by omega,rfl,fun j h=>by omega⟩
 case round=>
  obtain ⟨k,hk,rfl,hn⟩:=hrel
  by_cases hlt:k < 18
  ·go_wp2
   ·go_ret
    exact ⟨ZA (zLe c k hlt (by rw [<- zKQ k hlt (by exact hlt)]; exact zPS _ _ ‹_›)).symm,rfl⟩
   ·refine ⟨⟨k + 1,by omega,by go_num,?_⟩,by simp [intOf]; omega⟩
    intro j hj
    by_cases e:j = k
    ·subst e
     rw [<- zKQ j hlt (by exact hlt)]
     exact zPT _ _ ‹_›
    ·exact hn j (by omega)
  ·go_wp2
   go_ret
   exact ⟨ZA (zLd c (fun j hj=>hn j (by omega))).symm,rfl⟩
end Go.Proofs.YtgiemobdmbijiaaGreatDoor
