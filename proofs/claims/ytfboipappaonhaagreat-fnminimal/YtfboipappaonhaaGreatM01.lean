import Derived.Deep.MidRow
import Derived.Deep.RegionHeld
import Derived.Laws.MakeOwn
import Derived.OwnWalk
import Derived.Laws.OwnMore
import Derived.Test.YtfboipappaonhaaGreatM00
namespace Go.Proofs.YtfboipappaonhaaGreat
set_option maxHeartbeats 16000000
set_option maxRecDepth 100000
open Go.RowKit
structure zD where
 k:Int
 t:ByteArray
 a:Int
 b:Int
def zD.zero:zD:=⟨0,⟨#[]⟩,0,0⟩
def atN (xs:List zD) (i:Nat):zD:=xs.getD i zD.zero
def zCb (w:World) (b off:Nat) (xs:List zD) (i:Nat):Prop:=
 w.cell? ⟨b,off + i * 4,none⟩ = some (.int .i64 (atN xs i).k) /\ w.cell? ⟨b,off + i * 4 + 1,none⟩ = some (.string (atN xs i).t) /\ w.cell? ⟨b,off + i * 4 + 2,none⟩ = some (.int .i64 (atN xs i).a) /\ w.cell? ⟨b,off + i * 4 + 3,none⟩ = some (.int .i64 (atN xs i).b)
def Zs (w:World) (b off:Nat) (xs:List zD):Prop:=∀ i,i < xs.length -> zCb w b off xs i
def Zj (xs:List zD):Prop:=∀ i,i < xs.length -> (atN xs i).t.size <= maxLen
theorem zCb.below {w w':World} {b off i:Nat} {xs:List zD} {B:Nat} (h:zCb w b off xs i) (hb:Below B w w') (hB:b < B):zCb w' b off xs i:=by
 obtain ⟨h0,h1,h2,h3⟩:=h
 exact ⟨(hb.cell (p:=⟨b,_,none⟩) hB).trans h0,(hb.cell (p:=⟨b,_,none⟩) hB).trans h1,(hb.cell (p:=⟨b,_,none⟩) hB).trans h2,(hb.cell (p:=⟨b,_,none⟩) hB).trans h3⟩
theorem Zs.below {w w':World} {b off:Nat} {xs:List zD} {B:Nat} (h:Zs w b off xs) (hb:Below B w w') (hB:b < B):Zs w' b off xs:=
 fun i hi=>(h i hi).below hb hB
def zIV (w:World) (a:Option Addr) (xs:List zD):Prop:=xs.length = 0 \/ ∃ b off,a = some ⟨b,off,none⟩ /\ Zs w b off xs /\ b < w.heap.size
theorem zIV.below {w w':World} {a:Option Addr} {xs:List zD} (h:zIV w a xs) (hb:Below w.heap.size w w'):zIV w' a xs:=by
 rcases h with h | ⟨b,off,rfl,h1,h2⟩
 ·exact Or.inl h
 ·exact Or.inr ⟨b,off,rfl,h1.below hb h2,Nat.lt_of_lt_of_le h2 hb.size⟩
def zM (w:World) (g:Nat) (xs:List zD) (k:Nat):Prop:=
 g < w.heap.size /\ w.there g 0 (xs.length * 4) /\ ∀ i,i < k -> zCb w g 0 xs i
theorem zM.grown {w w':World} {g k:Nat} {xs:List zD} {row:Option Nat} (h:zM w g xs k) (hg:w.grownBy w' row) (hne:some g ≠ row):zM w' g xs k:=by
 obtain ⟨h1,h2,h3⟩:=h
 have hb:=hg.block g h1 hne
 have e:∀ o,w'.cell? ⟨g,o,none⟩ = w.cell? ⟨g,o,none⟩:=fun o=>World.cell?_of_block (w:=w) hb
 have f:∀ o,w'.frozen? ⟨g,o,none⟩ = w.frozen? ⟨g,o,none⟩:=fun o=>World.frozen?_of_block (w:=w) hb
 refine ⟨Nat.lt_of_lt_of_le h1 hg.size,fun j hj=>⟨by rw [e]; exact (h2 j hj).1,by rw [f]; exact (h2 j hj).2⟩,fun i hi=>?_⟩
 obtain ⟨a0,a1,a2,a3⟩:=h3 i hi
 exact ⟨(e _).trans a0,(e _).trans a1,(e _).trans a2,(e _).trans a3⟩
theorem zM.below {w w':World} {g k:Nat} {xs:List zD} {B:Nat} (h:zM w g xs k) (hb:Below B w w') (hB:g < B):zM w' g xs k:=by
 obtain ⟨h1,h2,h3⟩:=h
 refine ⟨Nat.lt_of_lt_of_le h1 hb.size,fun j hj=>?_,fun i hi=>(h3 i hi).below hb hB⟩
 have:=h2 j hj
 exact ⟨by rw [hb.cell (p:=⟨g,_,none⟩) hB]; exact this.1,by rw [hb.frozen (p:=⟨g,_,none⟩) hB]; exact this.2⟩
theorem zM.setCell {w:World} {g k:Nat} {xs:List zD} (h:zM w g xs k) (b o:Nat) (v:Value) (hp:b ≠ g):zM (w.setCell ⟨b,o,none⟩ v) g xs k:=
 h.grown (row:=some b) ⟨rfl,rfl,rfl,by simp [World.setCell],fun i _ hi=>Below.heap_setCell _ _ _ _ (fun e=>hi (by rw [e]))⟩ (fun e=>hp (Option.some.inj e).symm)
theorem zM.ops {w:World} {g:Nat} {xs:List zD} (h:zM w g xs xs.length):Zs w g 0 xs:=fun i hi=>h.2.2 i hi
theorem zBh:(Tryz.prog.info? 81).map (fun i=>(i.zero,i.size,i.bytes)) = some (some (.agg #[.int .i64 0,.string ⟨#[]⟩,.int .i64 0,.int .i64 0]),4,40):=by kernel_rfl
def zR (k:Int):Nat:=if k = 4 then 2 else if k = 3 \/ k = 5 \/ k = 6 then 1 else 0
theorem zAf (k:Int):zR k = 0 \/ zR k = 1 \/ zR k = 2:=by
 unfold zR
 split
 ·exact Or.inr (Or.inr rfl)
 ·split
  ·exact Or.inr (Or.inl rfl)
  ·exact Or.inl rfl
def Zk (o:zD):Prop:=o.t.size <= 20000 /\ ((o.k = 1 /\ zJ1 o.t) \/ (o.k = 2 /\ zE0 o.t) \/ (o.k = 6 /\ o.t.size = 0) \/ ((o.k = 3 \/ o.k = 4 \/ o.k = 5) /\ zDO o.t = true))
def frm (xs:List zD):Nat -> Nat -> Option Nat
 | 0,_=>none
 | n + 1,i=>
  if zR (atN xs i).k = 0 then (if (atN xs i).a = 0 /\ (atN xs i).b = 0 then some i else none)
  else if zR (atN xs i).k = 1 then (if 1 <= i /\ (atN xs i).a = (i:Int) - 1 /\ (atN xs i).b = 0 then frm xs n (i - 1) else none)
  else if 1 <= i /\ (atN xs i).b = (i:Int) - 1 then
   (match frm xs n (i - 1) with
   | none=>none
   | some f=>if 1 <= f /\ (atN xs i).a = (f:Int) - 1 then frm xs n (f - 1) else none)
  else none
theorem zE1 (xs:List zD):∀ n i f,frm xs n i = some f -> f <= i
 | 0,i,f,h=>by simp [frm] at h
 | n + 1,i,f,h=>by
  unfold frm at h
  split at h
  ·split at h
   ·injection h with h; omega
   ·cases h
  ·split at h
   ·split at h
    ·have:=zE1 xs n _ _ h; omega
    ·cases h
   ·split at h
    ·split at h
     ·cases h
     ·rename_i f' hf'
      have h1:=zE1 xs n _ _ hf'
      split at h
      ·have:=zE1 xs n _ _ h; omega
      ·cases h
    ·cases h
theorem zB1 (xs:List zD):∀ n m i,i < n -> i < m -> frm xs n i = frm xs m i
 | 0,_,_,h,_=>absurd h (Nat.not_lt_zero _)
 | _ + 1,0,_,_,h=>absurd h (Nat.not_lt_zero _)
 | n + 1,m + 1,i,h,h'=>by
  unfold frm
  by_cases h1:1 <= i
  ·have e:=zB1 xs n m (i - 1) (by omega) (by omega)
   rw [e]
   cases hf:frm xs m (i - 1) with
   | none=>rfl
   | some f=>
    have hle:=zE1 xs _ _ _ hf
    have e':=zB1 xs n m (f - 1) (by omega) (by omega)
    simp only [e']
  ·simp [h1]
def frS (xs:List zD) (i:Nat):Option Nat:=frm xs (i + 1) i
theorem ZU {xs:List zD} {i f:Nat} (h:frS xs i = some f):f <= i:=zE1 xs _ _ _ h
theorem zDQ {xs:List zD} {i:Nat} (h:zR (atN xs i).k = 0):frS xs i = if (atN xs i).a = 0 /\ (atN xs i).b = 0 then some i else none:=by
 unfold frS frm
 rw [if_pos h]
theorem zEh {xs:List zD} {i:Nat} (h:zR (atN xs i).k = 1):frS xs i = if 1 <= i /\ (atN xs i).a = (i:Int) - 1 /\ (atN xs i).b = 0 then frS xs (i - 1) else none:=by
 have e:frS xs i = frm xs (i + 1) i:=rfl
 rw [e]
 unfold frm
 rw [if_neg (by omega),if_pos h]
 by_cases h1:1 <= i
 ·unfold frS
  rw [zB1 xs i (i - 1 + 1) (i - 1) (by omega) (by omega)]
 ·simp [h1]
theorem zEi {xs:List zD} {i:Nat} (h:zR (atN xs i).k = 2) (h1:1 <= i) (hb:(atN xs i).b = (i:Int) - 1) {f:Nat} (hf:frS xs (i - 1) = some f) (hf1:1 <= f) (ha:(atN xs i).a = (f:Int) - 1):frS xs i = frS xs (f - 1):=by
 have hle:=ZU hf
 have e:frS xs i = frm xs (i + 1) i:=rfl
 rw [e]
 unfold frm
 rw [if_neg (by omega),if_neg (by omega),if_pos ⟨h1,hb⟩]
 have e1:frm xs i (i - 1) = some f:=by rw [<- hf]; exact zB1 xs i (i - 1 + 1) (i - 1) (by omega) (by omega)
 rw [e1]
 simp only
 rw [if_pos ⟨hf1,ha⟩]
 exact zB1 xs i (f - 1 + 1) (f - 1) (by omega) (by omega)
theorem zDR {xs:List zD} {i:Nat} (h:zR (atN xs i).k = 2) (hn:¬ (1 <= i /\ (atN xs i).b = (i:Int) - 1 /\ ∃ f,frS xs (i - 1) = some f /\ 1 <= f /\ (atN xs i).a = (f:Int) - 1)):frS xs i = none:=by
 have e:frS xs i = frm xs (i + 1) i:=rfl
 rw [e]
 unfold frm
 rw [if_neg (by omega),if_neg (by omega)]
 by_cases hc:1 <= i /\ (atN xs i).b = (i:Int) - 1
 ·rw [if_pos hc]
  cases hf:frm xs i (i - 1) with
  | none=>rfl
  | some f=>
   have:frS xs (i - 1) = some f:=by rw [<- hf]; exact zB1 xs (i - 1 + 1) i (i - 1) (by omega) (by omega)
   simp only
   rw [if_neg]
   intro hc2
   exact hn ⟨hc.1,hc.2,f,this,hc2.1,hc2.2⟩
 ·rw [if_neg hc]
theorem Z1 {xs:List zD} {i f:Nat} (h:frS xs i = some f) :
  (zR (atN xs i).k = 0 /\ (atN xs i).a = 0 /\ (atN xs i).b = 0 /\ f = i) \/
  (zR (atN xs i).k = 1 /\ 1 <= i /\ (atN xs i).a = (i:Int) - 1 /\ (atN xs i).b = 0 /\ frS xs (i - 1) = some f) \/
  (zR (atN xs i).k = 2 /\ 1 <= i /\ (atN xs i).b = (i:Int) - 1 /\ ∃ f2,frS xs (i - 1) = some f2 /\ 1 <= f2 /\ (atN xs i).a = (f2:Int) - 1 /\ frS xs (f2 - 1) = some f):=by
 rcases zAf (atN xs i).k with hk | hk | hk
 ·rw [zDQ hk] at h
  split at h
  ·rename_i hc
   injection h with h
   exact Or.inl ⟨hk,hc.1,hc.2,h.symm⟩
  ·cases h
 ·rw [zEh hk] at h
  split at h
  ·rename_i hc
   exact Or.inr (Or.inl ⟨hk,hc.1,hc.2.1,hc.2.2,h⟩)
  ·cases h
 ·by_cases hn:1 <= i /\ (atN xs i).b = (i:Int) - 1 /\ ∃ f,frS xs (i - 1) = some f /\ 1 <= f /\ (atN xs i).a = (f:Int) - 1
  ·obtain ⟨h1,hb,f2,hf2,h2,ha⟩:=hn
   rw [zEi hk h1 hb hf2 h2 ha] at h
   exact Or.inr (Or.inr ⟨hk,h1,hb,f2,hf2,h2,ha,h⟩)
  ·rw [zDR hk hn] at h
   cases h
def zA6 (o:zD) (k:Nat) (st:List Nat):Option (List Nat):=
 if zR o.k = 0 then (if o.a = 0 /\ o.b = 0 then some (k :: st) else none)
 else if zR o.k = 1 then (match st with
  | t :: r=>if o.a = (t:Int) /\ o.b = 0 then some (k :: r) else none
  | []=>none)
 else (match st with
  | t2 :: t1 :: r=>if o.a = (t1:Int) /\ o.b = (t2:Int) then some (k :: r) else none
  | _=>none)
def stk (xs:List zD):Nat -> Option (List Nat)
 | 0=>some []
 | k + 1=>(match stk xs k with
  | none=>none
  | some st=>zA6 (atN xs k) k st)
theorem zBK {xs:List zD} {k:Nat} {st:List Nat} (h:stk xs k = some st):stk xs (k + 1) = zA6 (atN xs k) k st:=by
 simp only [stk,h]
theorem zHe {xs:List zD} {k:Nat} (h:stk xs k = none):∀ m,k <= m -> stk xs m = none
 | 0,hm=>by
  obtain rfl:k = 0:=by omega
  exact h
 | m + 1,hm=>by
  by_cases e:k = m + 1
  ·subst e; exact h
  ·simp only [stk,zHe h m (by omega)]
theorem zCF (xs:List zD):∀ n i f st,i < n -> frS xs i = some f -> stk xs f = some st -> stk xs (i + 1) = some (i :: st)
 | 0,_,_,_,hi,_,_=>absurd hi (Nat.not_lt_zero _)
 | n + 1,i,f,st,hi,h,hs=>by
  rcases Z1 h with ⟨hk,ha,hb,rfl⟩ | ⟨hk,h1,ha,hb,hf⟩ | ⟨hk,h1,hb,f2,hf2,h2,ha,hf⟩
  ·rw [zBK hs]
   simp [zA6,hk,ha,hb]
  ·have:=zCF xs n (i - 1) f st (by omega) hf hs
   rw [Nat.sub_add_cancel h1] at this
   rw [zBK this]
   unfold zA6
   rw [if_neg (by omega),if_pos hk]
   simp only
   rw [if_pos ⟨by rw [ha]; omega,hb⟩]
  ·have hle:=ZU hf2
   have s1:=zCF xs n (f2 - 1) f st (by omega) hf hs
   rw [Nat.sub_add_cancel h2] at s1
   have s2:=zCF xs n (i - 1) f2 ((f2 - 1) :: st) (by omega) hf2 s1
   rw [Nat.sub_add_cancel h1] at s2
   rw [zBK s2]
   unfold zA6
   rw [if_neg (by omega),if_neg (by omega)]
   simp only
   rw [if_pos ⟨by rw [ha]; omega,by rw [hb]; omega⟩]
def zMq (xs:List zD):Nat -> List Nat -> Prop
 | k,[]=>k = 0
 | k,s :: r=>s + 1 = k /\ ∃ f,frS xs s = some f /\ zMq xs f r
theorem zCG (xs:List zD):∀ k st,stk xs k = some st -> zMq xs k st
 | 0,st,h=>by
  simp only [stk,Option.some.injEq] at h
  subst h
  rfl
 | k + 1,st',h=>by
  cases hs:stk xs k with
  | none=>simp only [stk,hs] at h; cases h
  | some st=>
   have ih:=zCG xs k st hs
   rw [zBK hs] at h
   unfold zA6 at h
   split at h
   ·rename_i hk
    split at h
    ·rename_i hc
     injection h with h
     subst h
     exact ⟨rfl,k,by rw [zDQ hk,if_pos hc],ih⟩
    ·cases h
   ·split at h
    ·rename_i hk
     split at h
     ·rename_i t r
      obtain ⟨e,f,hf,hr⟩:=ih
      split at h
      ·rename_i hc
       injection h with h
       subst h
       refine ⟨rfl,f,?_,hr⟩
       rw [zEh hk,if_pos ⟨by omega,by rw [hc.1]; omega,hc.2⟩]
       have:k - 1 = t:=by omega
       rw [this]; exact hf
      ·cases h
     ·cases h
    ·rename_i hk0 hk1
     have hk:zR (atN xs k).k = 2:=by rcases zAf (atN xs k).k with h | h | h <;> omega
     split at h
     ·rename_i t2 t1 r
      obtain ⟨e,f2,hf2,e1,f1,hf1,hr⟩:=ih
      split at h
      ·rename_i hc
       injection h with h
       subst h
       refine ⟨rfl,f1,?_,hr⟩
       have e2:k - 1 = t2:=by omega
       rw [zEi hk (by omega) (by rw [hc.2]; omega) (f:=f2) (by rw [e2]; exact hf2) (by omega) (by rw [hc.1]; omega)]
       have:f2 - 1 = t1:=by omega
       rw [this]; exact hf1
      ·cases h
     ·cases h
theorem zD1 {xs:List zD} (h:1 <= xs.length):frS xs (xs.length - 1) = some 0 ↔ ∃ st,stk xs xs.length = some st /\ st.length = 1:=by
 constructor
 ·intro hf
  have:=zCF xs xs.length (xs.length - 1) 0 [] (by omega) hf rfl
  rw [Nat.sub_add_cancel h] at this
  exact ⟨_,this,rfl⟩
 ·rintro ⟨st,hs,hl⟩
  have hc:=zCG xs _ _ hs
  match st,hl with
  | [x],_=>
   obtain ⟨e,f,hf,hr⟩:=hc
   have hf0:f = 0:=hr
   subst hf0
   have:xs.length - 1 = x:=by omega
   rw [this]; exact hf
def zu (xs:List zD):Prop:=1 <= xs.length /\ xs.length <= 20000 /\ frS xs (xs.length - 1) = some 0 /\ ∀ i,i < xs.length -> Zk (atN xs i)
theorem zu.stkS {xs:List zD} (h:zu xs) {k:Nat} (hk:k <= xs.length):∃ st,stk xs k = some st:=by
 obtain ⟨st,hs,_⟩:=(zD1 h.1).1 h.2.2.1
 cases e:stk xs k with
 | some st'=>exact ⟨st',rfl⟩
 | none=>rw [zHe e _ hk] at hs; cases hs
def zM1 (xs:List zD) (k:Nat):Prop:=
 (zR (atN xs k).k = 0 /\ (atN xs k).a = 0 /\ (atN xs k).b = 0) \/
 (zR (atN xs k).k = 1 /\ 1 <= k /\ (atN xs k).a = (k:Int) - 1 /\ (atN xs k).b = 0) \/
 (zR (atN xs k).k = 2 /\ 2 <= k /\ (atN xs k).b = (k:Int) - 1 /\ 0 <= (atN xs k).a /\ (atN xs k).a < (k:Int) - 1)
theorem zu.kidsAt {xs:List zD} (h:zu xs) {k:Nat} (hk:k < xs.length):zM1 xs k:=by
 obtain ⟨st,hs⟩:=h.stkS (k:=k + 1) (by omega)
 have hc:=zCG xs _ _ hs
 match st,hc with
 | [],hc=>cases hc
 | s :: r,hc=>
  obtain ⟨e,f,hf,_⟩:=hc
  obtain rfl:s = k:=by omega
  rcases Z1 hf with ⟨hk,ha,hb,rfl⟩ | ⟨hk,h1,ha,hb,hf⟩ | ⟨hk,h1,hb,f2,hf2,h2,ha,hf⟩
  ·exact Or.inl ⟨hk,ha,hb⟩
  ·exact Or.inr (Or.inl ⟨hk,h1,ha,hb⟩)
  ·have:=ZU hf2
   exact Or.inr (Or.inr ⟨hk,by omega,hb,by omega,by omega⟩)
theorem zu.first {xs:List zD} (h:zu xs):zR (atN xs 0).k = 0:=by
 rcases h.kidsAt (k:=0) (by have:=h.1; omega) with h | h | h
 ·exact h.1
 ·omega
 ·omega
def cnt (xs:List zD):Nat -> Nat
 | 0=>0
 | k + 1=>if (atN xs k).k = 6 then cnt xs k else cnt xs k + 1
theorem zCc (xs:List zD):∀ k,cnt xs k <= k
 | 0=>Nat.le_refl _
 | k + 1=>by
  have:=zCc xs k
  unfold cnt
  split <;> omega
theorem zHf (xs:List zD):∀ j k,j <= k -> cnt xs j <= cnt xs k
 | j,0,h=>by
  obtain rfl:j = 0:=by omega
  exact Nat.le_refl _
 | j,k + 1,h=>by
  by_cases e:j = k + 1
  ·subst e; exact Nat.le_refl _
  ·have:=zHf xs j k (by omega)
   have h2:cnt xs (k + 1) = if (atN xs k).k = 6 then cnt xs k else cnt xs k + 1:=rfl
   rw [h2]
   split <;> omega
def mvd (xs:List zD) (a:Int):Int:=(cnt xs (a.toNat + 1):Int) - 1
def erN (xs:List zD) (o:zD):zD:=⟨o.k,o.t,if zR o.k = 0 then 0 else mvd xs o.a,if zR o.k = 2 then mvd xs o.b else 0⟩
def er (xs:List zD):Nat -> List zD
 | 0=>[]
 | k + 1=>if (atN xs k).k = 6 then er xs k else er xs k ++ [erN xs (atN xs k)]
theorem zAg (xs:List zD):∀ k,(er xs k).length = cnt xs k
 | 0=>rfl
 | k + 1=>by
  unfold er cnt
  split
  ·exact zAg xs k
  ·simp [zAg xs k]
theorem zE2 {xs:List zD} {k:Nat} (h:(atN xs k).k = 6):er xs (k + 1) = er xs k:=by
 show (if (atN xs k).k = 6 then er xs k else er xs k ++ [erN xs (atN xs k)]) = _
 rw [if_pos h]
theorem zB2 {xs:List zD} {k:Nat} (h:(atN xs k).k ≠ 6):er xs (k + 1) = er xs k ++ [erN xs (atN xs k)]:=by
 show (if (atN xs k).k = 6 then er xs k else er xs k ++ [erN xs (atN xs k)]) = _
 rw [if_neg h]
theorem zJ2 {xs:List zD} (h:zu xs):cnt xs 1 = 1:=by
 have:=h.first
 unfold cnt cnt
 rw [if_neg]
 intro e
 rw [e] at this
 simp [zR] at this
def zBA (xs us:List zD) (v:Bool):Prop:=(zu xs /\ v = true /\ us = er xs xs.length) \/ (¬ zu xs /\ v = false /\ us = [])
theorem zBA.len {xs us:List zD} {v:Bool} (h:zBA xs us v):us.length <= 20000:=by
 rcases h with ⟨a,_,rfl⟩ | ⟨_,_,rfl⟩
 ·rw [zAg]
  have:=zCc xs xs.length
  have:=a.2.1
  omega
 ·simp
theorem zBi (c:UInt8) (w:World) :
  Calls Tryz.prog 165 #[.int .u8 (c.toNat:Int)] w fun e w'=>e = .returned (.bool (decide (cls c = 2))) /\ w' = w:=by
 go_enter Tryz.func165,Tryz.ntmps165
 go_wp2
 all_goals (go_ret; refine ⟨zk ?_,rfl⟩; go_light; rw [Bool.eq_iff_iff]; simp [zLx] <;> omega)
def zIW (v:Bool) (p:Prop):Prop:=v = true ↔ p
def zB3 (e:Ending) (p:Prop):Prop:=∃ v:Bool,e = .returned (.bool v) /\ zIW v p
theorem zE3 (s:ByteArray) (w:World) (hs:s.size <= maxLen) :
  Calls Tryz.prog 145 #[.string s] w fun e w'=>zB3 e (zJ1 s) /\ w' = w:=by
 unfold maxLen at hs
 go_enter Tryz.func145,Tryz.ntmps145
 go_wp2
 go_loop [3] (fun i=>∃ k:Nat,k <= s.size /\ i = .int .i64 k /\ Hid (∀ j,j < k -> cls (bt s j) = 2)) (fun i=>s.size - (intOf i).toNat)
 case atStart=>exact ⟨0,Nat.zero_le _,rfl,zB (fun j h=>by omega)⟩
 case round=>
  obtain ⟨k,hk,rfl,hn⟩:=hrel
  by_cases hlt:k < s.size
  ·cases hb:decide (cls s[k] = 2)
   ·have Hb:=zB hb
    go_wp2_with (go_at_call 165; refine (zBi _ _).mono ?_; rintro e w' ⟨rfl,rfl⟩)
    go_ret
    refine ⟨⟨_,rfl,⟨fun h=>(by cases h),fun h=>?_⟩⟩,rfl⟩
    have h2:=h.2 k hlt
    have:=zA Hb
    rw [Zx hlt] at this
    simp at this
    exact absurd h2 this
   ·have Hb:=zB hb
    go_wp2_with (go_at_call 165; refine (zBi _ _).mono ?_; rintro e w' ⟨rfl,rfl⟩)
    refine ⟨⟨k + 1,by omega,by go_num,zB (fun j hj=>?_)⟩,by simp [intOf]; omega⟩
    by_cases e:j = k
    ·subst e
     have:=zA Hb
     rw [Zx hlt] at this
     simpa using this
    ·exact (zA hn) j (by omega)
  ·by_cases h1:1 <= s.size
   ·have h1':(1:Int) <= (s.size:Int):=by omega
    go_wp2
    go_ret
    exact ⟨⟨_,rfl,⟨fun _=>⟨h1,fun j hj=>(zA hn) j (by omega)⟩,fun _=>by simp; omega⟩⟩,rfl⟩
   ·go_wp2
    go_ret
    exact ⟨⟨decide (0 < s.size),rfl,⟨fun h=>absurd (of_decide_eq_true h) (by omega),fun h=>absurd h.1 h1⟩⟩,rfl⟩
theorem zJ3 {a b:ByteArray} (h:a.toList = b.toList):a = b:=by
 rw [ByteArray.toList_eq,ByteArray.toList_eq] at h
 obtain ⟨⟨l⟩⟩:=a
 obtain ⟨⟨l'⟩⟩:=b
 simpa using h
theorem zBB (c:UInt8) (w:World) :
  Calls Tryz.prog 164 #[.int .u8 (c.toNat:Int)] w fun e w'=>e = .returned (.bool (decide (cls c = 3))) /\ w' = w:=by
 go_enter Tryz.func164,Tryz.ntmps164
 go_wp2
 all_goals (go_ret; refine ⟨zk ?_,rfl⟩; go_light; rw [Bool.eq_iff_iff]; simp [zLy] <;> omega)
theorem zGk (s:ByteArray) (w:World) (hs:s.size <= maxLen) :
  Calls Tryz.prog 146 #[.string s] w fun e w'=>zB3 e (zE0 s) /\ w' = w:=by
 unfold maxLen at hs
 go_enter Tryz.func146,Tryz.ntmps146
 go_wp2
 go_loop [3] (fun i=>∃ k:Nat,k <= s.size /\ i = .int .i64 k /\ Hid (∀ j,j < k -> (cls (bt s j) = 3 \/ (j ≠ 0 /\ cls (bt s j) = 2)))) (fun i=>s.size - (intOf i).toNat)
 case atStart=>exact ⟨0,Nat.zero_le _,rfl,zB (fun j h=>by omega)⟩
 case round=>
  obtain ⟨k,hk,rfl,hn⟩:=hrel
  by_cases hlt:k < s.size
  ·have hbk:=zB (Zx hlt)
   have no:(¬ cls (bt s k) = 3) -> (k = 0 \/ ¬ cls (bt s k) = 2) -> ∀ v,v = false -> zIW v (zE0 s):=fun h1 h2 v hv=>by
    subst hv
    refine ⟨fun h=>(by cases h),fun h=>?_⟩
    have:=h.2 k hlt
    omega
   have NO:=zB no
   clear no
   cases hb:decide (cls s[k] = 3)
   ·have hb3:=zB (show ¬ cls (bt s k) = 3 by rw [Zx hlt] at hb; simpa using hb)
    by_cases hk0:k = 0
    ·subst hk0
     go_wp2_with (go_at_call 164; refine (zBB _ _).mono ?_; rintro e w' ⟨rfl,rfl⟩)
     go_ret
     exact ⟨⟨_,rfl,(zA NO) (zA hb3) (Or.inl trivial) _ rfl⟩,rfl⟩
    ·have hk0':((k:Int) == 0) = false:=by simp; omega
     cases hd:decide (cls s[k] = 2)
     ·have hd2:=zB (show ¬ cls (bt s k) = 2 by rw [Zx hlt] at hd; simpa using hd)
      go_wp2_with (first | (go_at_call 164; refine (zBB _ _).mono ?_; rintro e w' ⟨rfl,rfl⟩) | (go_at_call 165; refine (zBi _ _).mono ?_; rintro e w' ⟨rfl,rfl⟩))
      go_ret
      exact ⟨⟨_,rfl,(zA NO) (zA hb3) (Or.inr (zA hd2)) _ rfl⟩,rfl⟩
     ·have hd2:=zB (show cls (bt s k) = 2 by rw [Zx hlt] at hd; simpa using hd)
      go_wp2_with (first | (go_at_call 164; refine (zBB _ _).mono ?_; rintro e w' ⟨rfl,rfl⟩) | (go_at_call 165; refine (zBi _ _).mono ?_; rintro e w' ⟨rfl,rfl⟩))
      refine ⟨⟨k + 1,by omega,by go_num,zB (fun j hj=>?_)⟩,by simp [intOf]; omega⟩
      by_cases e:j = k
      ·subst e
       exact Or.inr ⟨hk0,zA hd2⟩
      ·exact (zA hn) j (by omega)
   ·have hb3:=zB (show cls (bt s k) = 3 by rw [Zx hlt] at hb; simpa using hb)
    go_wp2_with (go_at_call 164; refine (zBB _ _).mono ?_; rintro e w' ⟨rfl,rfl⟩)
    refine ⟨⟨k + 1,by omega,by go_num,zB (fun j hj=>?_)⟩,by simp [intOf]; omega⟩
    by_cases e:j = k
    ·subst e
     exact Or.inl (zA hb3)
    ·exact (zA hn) j (by omega)
  ·by_cases h1:1 <= s.size
   ·have h1':(1:Int) <= (s.size:Int):=by omega
    go_wp2
    go_ret
    exact ⟨⟨_,rfl,⟨fun _=>⟨h1,fun j hj=>(zA hn) j (by omega)⟩,fun _=>by simp; omega⟩⟩,rfl⟩
   ·go_wp2
    go_ret
    exact ⟨⟨decide (0 < s.size),rfl,⟨fun h=>absurd (of_decide_eq_true h) (by omega),fun h=>absurd h.1 h1⟩⟩,rfl⟩
theorem zC8 (c:UInt8) (w:World) :
  Calls Tryz.prog 158 #[.int .u8 (c.toNat:Int)] w fun e w'=>e = .returned (.bool (sgB c)) /\ w' = w:=by
 go_enter Tryz.func158,Tryz.ntmps158
 go_wp2
 rw [run_callFunc_extern Tryz.func169 (by kernel_rfl) (by kernel_rfl) (by kernel_rfl) (e:=Extern.BytealgIndexByte.indexByte) (by kernel_rfl),Lib.run_indexByteString]
 simp only [Result.andThen]
 rw [Oper.upon_value]
 go_wp2
 go_ret
 refine ⟨?_,rfl⟩
 exact congrArg (fun b=>Ending.returned (.bool b)) (zMy c)
theorem zDS (c:UInt8) (w:World) :
  Calls Tryz.prog 154 #[.int .u8 (c.toNat:Int)] w fun e w'=>e = .returned (.bool (sgB c)) /\ w' = w:=by
 go_enter Tryz.func154,Tryz.ntmps154
 go_wp2
 go_loop [4] (fun i=>∃ k:Nat,k <= 18 /\ i = .int .i64 k /\ ∀ j,j < k -> sgL.getD j 0 ≠ c) (fun i=>18 - (intOf i).toNat)
 case atStart=>exact ⟨0,by omega,rfl,fun j h=>by omega⟩
 case round=>
  obtain ⟨k,hk,rfl,hn⟩:=hrel
  by_cases hlt:k < 18
  ·go_wp2
   ·go_ret
    exact ⟨zk (zKc c k hlt (by rw [<- zJF k hlt (by exact hlt)]; exact zNb _ _ ‹_›)).symm,rfl⟩
   ·refine ⟨⟨k + 1,by omega,by go_num,?_⟩,by simp [intOf]; omega⟩
    intro j hj
    by_cases e:j = k
    ·subst e
     rw [<- zJF j hlt (by exact hlt)]
     exact zNc _ _ ‹_›
    ·exact hn j (by omega)
  ·go_wp2
   go_ret
   exact ⟨zk (zKb c (fun j hj=>hn j (by omega))).symm,rfl⟩
theorem zDT (s:ByteArray) (k:Nat) (h:k < s.size) (hb:sgB s[k] = false):zDO s = false:=by
 simp [zDO,zJz s k h hb]
theorem zKl (s:ByteArray) (k:Nat) (hk:¬ k < s.size) (h:zEx (s.data.toList.take k) = true):zDO s = (decide (1 <= s.size) && decide (s.size <= 16)):=by
 rw [zKe s k hk] at h
 simp [zDO,h]
theorem zHg (s:ByteArray) (k:Nat) (h:k < s.size) (hs:zEx (s.data.toList.take k) = true) (hb:sgB s[k] = true):zEx (s.data.toList.take (k + 1)) = true:=by
 rw [zJy s k h,zKd,hs,hb]; rfl
theorem zCd (s:ByteArray) (w:World) (hs:s.size <= maxLen) :
  Calls Tryz.prog 142 #[.string s] w fun e w'=>e = .returned (.bool (zDO s)) /\ w' = w:=by
 unfold maxLen at hs
 go_enter Tryz.func142,Tryz.ntmps142
 go_wp2
 go_loop [3] (fun i=>∃ k:Nat,k <= s.size /\ i = .int .i64 k /\ Hid (zEx (s.data.toList.take k) = true)) (fun i=>s.size - (intOf i).toNat)
 case atStart=>exact ⟨0,Nat.zero_le _,rfl,zB rfl⟩
 case round=>
  obtain ⟨k,hk,rfl,hn⟩:=hrel
  by_cases hlt:k < s.size
  ·cases hb:sgB s[k]
   ·have Hb:=zB hb
    go_wp2_with (go_at_call 154; refine (zDS _ _).mono ?_; rintro e w' ⟨rfl,rfl⟩)
    go_ret
    exact ⟨zk (zDT s k hlt (zA Hb)).symm,rfl⟩
   ·have Hb:=zB hb
    go_wp2_with (go_at_call 154; refine (zDS _ _).mono ?_; rintro e w' ⟨rfl,rfl⟩)
    exact ⟨⟨k + 1,by omega,by go_num,zB (zHg s k hlt (zA hn) (zA Hb))⟩,by simp [intOf]; omega⟩
  ·have ht:=zB (zKl s k hlt (zA hn))
   by_cases h1:1 <= s.size
   ·have h1':(1:Int) <= (s.size:Int):=by omega
    go_wp2
    go_ret
    exact ⟨zk (by rw [zA ht]; simp [h1]; omega),rfl⟩
   ·go_wp2
    go_ret
    exact ⟨zk (by rw [zA ht]; simp [h1]),rfl⟩
theorem Zy (s:ByteArray) (w:World) (hs:s.size <= maxLen) :
  Calls Tryz.prog 140 #[.string s] w fun e w'=>e = .returned (.bool (zDO s)) /\ w' = w:=by
 unfold maxLen at hs
 by_cases h1:s.size < 1
 ·go_enter Tryz.func140,Tryz.ntmps140
  go_wp2
  go_ret
  exact ⟨zk (by simp [zDO]; omega),rfl⟩
 by_cases h2:16 < s.size
 ·go_enter Tryz.func140,Tryz.ntmps140
  go_wp2
  go_ret
  exact ⟨zk (by simp [zDO]; omega),rfl⟩
 go_enter Tryz.func140,Tryz.ntmps140
 go_wp2
 go_loop [14] (fun i=>∃ k:Nat,k <= s.size /\ i = .int .i64 k /\ Hid (zEx (s.data.toList.take k) = true)) (fun i=>s.size - (intOf i).toNat)
 case atStart=>exact ⟨0,Nat.zero_le _,rfl,zB rfl⟩
 case round=>
  obtain ⟨k,hk,rfl,hn⟩:=hrel
  by_cases hlt:k < s.size
  ·cases hb:sgB s[k]
   ·have Hb:=zB hb
    go_wp2_with (go_at_call 158; refine (zC8 _ _).mono ?_; rintro e w' ⟨rfl,rfl⟩)
    go_ret
    exact ⟨zk (zDT s k hlt (zA Hb)).symm,rfl⟩
   ·have Hb:=zB hb
    go_wp2_with (go_at_call 158; refine (zC8 _ _).mono ?_; rintro e w' ⟨rfl,rfl⟩)
    exact ⟨⟨k + 1,by omega,by go_num,zB (zHg s k hlt (zA hn) (zA Hb))⟩,by simp [intOf]; omega⟩
  ·have ht:=zB (zKl s k hlt (zA hn))
   go_wp2
   go_ret
   exact ⟨zk (by rw [zA ht]; simp; omega),rfl⟩
end Go.Proofs.YtfboipappaonhaaGreat
