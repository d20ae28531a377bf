import Derived.OwnWalk
import Derived.Laws.OwnMore
import Derived.Test.YtfboipappaonhaaGreatM00
import Derived.Test.YtfboipappaonhaaGreatM05
import Derived.Test.YtfboipappaonhaaGreatM07
import Derived.Test.YtfboipappaonhaaGreatM13
import Derived.Test.YtfboipappaonhaaGreatM15
import Derived.Test.YtfboipappaonhaaGreatM23
namespace Go.Proofs.YtfboipappaonhaaGreat
set_option linter.unusedSimpArgs false
set_option maxHeartbeats 16000000
set_option maxRecDepth 100000
open Go.RowKit
def zNg (xs:List OpR) (t:ByteArray) (k:Int):Prop:=∃ j,j < xs.length /\ (atO xs j).s = t /\ (atO xs j).k = k
def ZM (xs:List OpR) (t:ByteArray) (k:Int):Bool:=(List.range xs.length).any fun j=>(atO xs j).s.data == t.data && (atO xs j).k == k
theorem Z7 (xs:List OpR) (t:ByteArray) (k:Int):ZM xs t k = true ↔ zNg xs t k:=by
 have e:∀ a b:ByteArray,(a.data = b.data) ↔ a = b:=fun a b=>⟨fun h=>by cases a; cases b; simp_all,fun h=>by rw [h]⟩
 simp [ZM,zNg,List.any_eq_true,e]
def ZA (xs:List OpR) (last:Bool) (t:zS) (bh:Bool) (op:Nat):Int:=
 if bh = false then
  if t.k = 1 \/ t.k = 2 \/ t.k = 4 then 0 else if t.k = 3 /\ ZM xs t.t 1 = true then 1 else -1
 else
  if t.k = 3 /\ ZM xs t.t 2 = true then 2 else if t.k = 3 /\ ZM xs t.t 3 = true then 3
  else if t.k = 5 /\ 0 < op then 0 else if t.k = 7 /\ op = 0 /\ last = true then 0 else -1
def zBg (xs:List OpR) (t:zS) (bh:Bool):Bool:=
 if bh = false then (if t.k = 1 \/ t.k = 2 then true else false) else (if t.k = 3 /\ ZM xs t.t 2 = true then false else true)
def zBW (t:zS) (op:Nat):Nat:=if t.k = 4 then op + 1 else if t.k = 5 then op - 1 else op
def zA5 (xs:List OpR) (ts:List zS):Nat -> Bool
 | 0=>false
 | i + 1=>zBg xs (atT ts i) (zA5 xs ts i)
def zA0 (ts:List zS):Nat -> Nat
 | 0=>0
 | i + 1=>zBW (atT ts i) (zA0 ts i)
def ZG (xs:List OpR) (ts:List zS) (i:Nat):Int:=ZA xs (decide (i + 1 = ts.length)) (atT ts i) (zA5 xs ts i) (zA0 ts i)
def zAs (xs:List OpR) (ts:List zS) (k:Nat):List Int:=(List.range k).map (ZG xs ts)
theorem zG3 (xs:List OpR) (ts:List zS) (k:Nat):zAs xs ts (k + 1) = zAs xs ts k ++ [ZG xs ts k]:=by
 simp [zAs,List.range_succ]
theorem zH2 (xs:List OpR) (ts:List zS) (k:Nat):(zAs xs ts k).length = k:=by simp [zAs]
def zBo (xs:List OpR) (ts:List zS) (k:Nat):Prop:=∀ i,i < k -> 0 <= ZG xs ts i
def zMG (xs:List OpR) (ok:Prop) (ts:List zS) (us:List Int) (c:Int):Prop:=
 (¬ ok /\ us = [] /\ c = 0) \/
 (ok /\ ((∃ i,i < ts.length /\ zBo xs ts i /\ ZG xs ts i < 0 /\ us = [] /\ c = (i:Int)) \/
  (zBo xs ts ts.length /\ (((0 < ts.length /\ (atT ts (ts.length - 1)).k = 7) /\ us = zAs xs ts ts.length /\ c = -1) \/ (¬ (0 < ts.length /\ (atT ts (ts.length - 1)).k = 7) /\ us = [] /\ c = (ts.length:Int))))))
def zCu (xs:List OpR):Prop:=∀ t,¬ (ZM xs t 2 = true /\ ZM xs t 3 = true)
theorem zH3 {xs:List OpR} (h:¬ Pr 3 xs):zCu xs:=by
 rintro t ⟨h2,h3⟩
 obtain ⟨i,hi,e1,e2⟩:=(Z7 _ _ _).1 h2
 obtain ⟨j,hj,f1,f2⟩:=(Z7 _ _ _).1 h3
 have hne:i ≠ j:=fun e=>by subst e; omega
 apply h
 rcases Nat.lt_trichotomy i j with e | e | e
 ·exact ⟨j,i,e,hj,by simp [cl]; exact ⟨by rw [f1,e1],by omega⟩⟩
 ·exact absurd e hne
 ·exact ⟨i,j,e,hi,by simp [cl]; exact ⟨by rw [f1,e1],by omega⟩⟩
end Go.Proofs.YtfboipappaonhaaGreat
namespace Go.Proofs.YtfboipappaonhaaGreat
set_option maxHeartbeats 16000000
set_option maxRecDepth 100000
open Go.RowKit
def zAa (xs:List zS):Nat -> List UInt8
 | 0=>[]
 | k + 1=>zAa xs k ++ (atT xs k).g.data.toList ++ (atT xs k).t.data.toList
theorem zDi (xs:List zS):∀ k,(zAa xs k).length = Zn xs k
 | 0=>rfl
 | k + 1=>by
  have:=zDi xs k
  simp only [zAa,Zn,zM0,List.length_append,this]
  simp
  omega
theorem zFR (xs:List zS):∀ k n,k <= n -> Zn xs k <= Zn xs n
 | k,0,h=>by
  have:k = 0:=by omega
  subst this; exact Nat.le_refl _
 | k,n + 1,h=>by
  by_cases e:k = n + 1
  ·subst e; exact Nat.le_refl _
  ·have:=zFR xs k n (by omega)
   simp only [Zn]
   omega
theorem zt {w:World} {base n size:Nat} {e:TypeId} {v:Value} {xs:List Value} (h:w.ownsRow base e size v n xs) (hv:v ≠ .slice none 0 0):∃ g cap,v = .slice (some ⟨g,0,none⟩) n cap:=by
 obtain ⟨_,h | ⟨g,cap,cur,hv',_⟩⟩:=h
 ·exact absurd h.1 hv
 ·exact ⟨g,cap,hv'⟩
theorem zH4 {w:World} {base g cap n:Nat} {e:TypeId} {l:List UInt8} (h:w.ownsRow base e 1 (.slice (some ⟨g,0,none⟩) n cap) n (cellsB l)):∀ j u,(cellsB l)[j]? = some u -> w.cell? ((⟨g,0,none⟩:Addr).add j) = some u:=
 h.cells rfl
theorem zCv {w w':World} (h:Below w.heap.size w w') (row:Option Nat):w.grownBy w' row:=⟨h.os,h.tape,h.output,h.size,fun i hi _=>h.block i hi⟩
def zy (zs:List zS):List Value:=zs.flatMap fun o=>[.int .i64 o.k,.string o.g,.string o.t]
theorem zCh (xs ys:List zS):zy (xs ++ ys) = zy xs ++ zy ys:=by simp [zy]
theorem zEV:∀ zs:List zS,(zy zs).length = zs.length * 3
 | []=>rfl
 | o :: r=>by
  have:=zEV r
  simp only [zy,List.flatMap_cons,List.length_append,List.length_cons,List.length_nil] at *
  omega
theorem zFS:∀ (zs:List zS) (i:Nat),i < zs.length -> (zy zs)[i * 3]? = some (.int .i64 (atT zs i).k) /\ (zy zs)[i * 3 + 1]? = some (.string (atT zs i).g) /\ (zy zs)[i * 3 + 2]? = some (.string (atT zs i).t)
 | [],i,h=>absurd h (Nat.not_lt_zero i)
 | o :: r,0,_=>⟨rfl,rfl,rfl⟩
 | o :: r,i + 1,h=>by
  have ih:=zFS r i (by simpa using h)
  have e:∀ j,(zy (o :: r))[(i + 1) * 3 + j]? = (zy r)[i * 3 + j]?:=fun j=>by
   have:(i + 1) * 3 + j = (i * 3 + j) + 3:=by omega
   rw [this]
   rfl
  exact ⟨(e 0).trans ih.1,(e 1).trans ih.2.1,(e 2).trans ih.2.2⟩
theorem zDj (zs:List zS):∀ u ∈ zy zs,u.oneCell' = true:=by
 intro u hu
 simp only [zy,List.mem_flatMap] at hu
 obtain ⟨o,_,ho⟩:=hu
 simp at ho
 rcases ho with rfl | rfl | rfl <;> rfl
theorem zG4 {w:World} {base g cap:Nat} {e:TypeId} {zs:List zS} (h:w.ownsRow base e 3 (.slice (some ⟨g,0,none⟩) zs.length cap) zs.length (zy zs)):base <= g /\ zGj w g zs zs.length:=by
 have hlt:=h.lt g rfl
 refine ⟨hlt.1,hlt.2,fun j hj=>⟨?_,h.frozenAt _⟩,fun i hi=>?_⟩
 ·rw [h.cellAt (0 + j) (by omega)]
  have:0 + j < (zy zs).length:=by rw [zEV]; omega
  rw [List.getElem?_eq_getElem this]
  rfl
 ·obtain ⟨c0,c1,c2⟩:=zFS zs i hi
  have e:=fun j (hj:j < 3)=>h.cellAt (i * 3 + j) (by omega)
  exact ⟨by simpa using (e 0 (by omega)).trans c0,by simpa using (e 1 (by omega)).trans c1,by simpa using (e 2 (by omega)).trans c2⟩
theorem zGO (w:World) (o:zS):∀ j u,(zy [o])[j]? = some u -> (w.alloc (.cells #[.int .i64 o.k,.string o.g,.string o.t] 97)).cell? ((⟨w.heap.size,0,none⟩:Addr).add j) = some u:=by
 intro j u hj
 rw [Addr.add_mid]
 have:=World.rangeAt_of_block (w:=w.alloc (.cells #[.int .i64 o.k,.string o.g,.string o.t] 97)) (b:=w.heap.size) (heap_alloc_new w _) 0 3
 exact this j u (by simpa [zy] using hj)
def zG5 (xs:List OpR) (s:ByteArray) (i:Nat) (acc:List zS):Prop:=acc.length <= i /\ ∀ out,ZP xs s i out -> ZP xs s 0 (acc ++ out)
theorem zG5.start (xs:List OpR) (s:ByteArray):zG5 xs s 0 []:=⟨Nat.le_refl _,fun _ h=>h⟩
theorem zG5.step {xs:List OpR} {s:ByteArray} {i j n k:Nat} {acc:List zS} (h:zG5 xs s i acc) (h1:i <= j) (h2:j < s.size) (h3:zC7 s i j) (h4:cls (bt s j) ≠ 1) (h5:zAu xs s j n k) :
  zG5 xs s (j + n) (acc ++ [⟨(k:Int),s.extract i j,s.extract j (j + n)⟩]):=by
 refine ⟨?_,fun out ho=>?_⟩
 ·have:=h.1
  have:=h5.1
  simp
  omega
 ·rw [List.append_assoc]
  exact h.2 _ (ZP.tok h1 h2 h3 h4 h5 ho)
theorem zG5.done {xs:List OpR} {s:ByteArray} {i:Nat} {acc:List zS} (h:zG5 xs s i acc) (h1:i <= s.size) (h3:zC7 s i s.size):ZP xs s 0 (acc ++ [⟨7,s.extract i s.size,⟨#[]⟩⟩]):=
 h.2 _ (ZP.fin h1 h3)
end Go.Proofs.YtfboipappaonhaaGreat
namespace Go.Proofs.YtfboipappaonhaaGreat
set_option linter.unusedSimpArgs false
set_option maxHeartbeats 16000000
set_option maxRecDepth 100000
open Go.RowKit
def sgT (ns:List OpR) (ts:List zS) (i:Nat):SyR:=
 if (atT ts i).k = 3 then ((ZG ns ts i).toNat + 2,(atT ts i).t)
 else if (atT ts i).k = 4 then (6,opn) else if (atT ts i).k = 5 then (7,zAl) else if (atT ts i).k = 7 then eoS else ((atT ts i).k.toNat,(atT ts i).t)
def sgs (ns:List OpR) (ts:List zS) (a n:Nat):List SyR:=(List.range' a n).map (sgT ns ts)
theorem zBH (ns:List OpR) (ts:List zS) (a n:Nat):(sgs ns ts a n).length = n:=by simp [sgs]
theorem zFT (ns:List OpR) (ts:List zS) (a n:Nat):sgs ns ts a (n + 1) = sgT ns ts a :: sgs ns ts (a + 1) n:=by
 simp [sgs,List.range'_succ]
theorem zEs (ns:List OpR) (ts:List zS) (a m n:Nat):sgs ns ts a (m + n) = sgs ns ts a m ++ sgs ns ts (a + m) n:=by
 induction m generalizing a with
 | zero=>simp [sgs]
 | succ m ih=>
  have e:m + 1 + n = (m + n) + 1:=by omega
  rw [e,zFT,zFT,ih]
  have e2:a + 1 + m = a + (m + 1):=by omega
  rw [e2]; rfl
theorem zDk (ns:List OpR) (ts:List zS) (a n:Nat):sgs ns ts a (n + 1) = sgs ns ts a n ++ [sgT ns ts (a + n)]:=by
 rw [zEs]; rfl
def zGP (ns:List OpR) (t:zS):Prop:=
 ((t.k = 1 \/ t.k = 2) /\ ¬ opT ns t.t /\ t.t ≠ opn) \/ (t.k = 3 /\ opT ns t.t /\ t.t ≠ opn) \/ (t.k = 4 /\ t.t = opn /\ ¬ opT ns t.t) \/ (t.k = 5 /\ t.t = zAl /\ ¬ opT ns t.t) \/ t.k = 6 \/ (t.k = 7 /\ t.t = ⟨#[]⟩ /\ ¬ opT ns t.t)
theorem zEF {t:ByteArray} {ns:List OpR} (hv:ZZ ns) (ho:opT ns t):cls (bt t 0) = 6 /\ 1 <= t.size:=by
 obtain ⟨j,hj,rfl⟩:=ho
 have:=hv j hj
 exact ⟨this.2.2 0 (by omega),this.1⟩
theorem zLC {ns:List OpR} (hv:ZZ ns) {s:ByteArray} {i n k:Nat} (g:ByteArray) (h:zAu ns s i n k):zGP ns ⟨(k:Int),g,s.extract i (i + n)⟩:=by
 obtain ⟨h1,h2,h⟩:=h
 have hb:bt (sub s i n) 0 = bt s i:=by simpa using zKk (s:=s) (i:=i) (n:=n) (j:=0) h2 (by omega)
 have hsz:(sub s i n).size = n:=zDP h2
 have hno:cls (bt s i) ≠ 6 -> ¬ opT ns (sub s i n):=fun hc ho=>hc (by rw [<- hb]; exact (zEF hv ho).1)
 have hnp:cls (bt s i) ≠ 4 -> sub s i n ≠ opn:=fun hc e=>hc (by rw [<- hb,e]; decide)
 change zGP ns ⟨(k:Int),g,sub s i n⟩
 rcases h with ⟨c,rfl,_⟩ | ⟨c,rfl,_⟩ | ⟨c,rfl,rfl⟩ | ⟨c,rfl,rfl⟩ | ⟨c,⟨rfl,a,_⟩ | ⟨rfl,_⟩⟩ | ⟨c,rfl,_⟩
 ·exact Or.inl ⟨Or.inl rfl,hno (by omega),hnp (by omega)⟩
 ·exact Or.inl ⟨Or.inr rfl,hno (by omega),hnp (by omega)⟩
 ·refine Or.inr (Or.inr (Or.inl ⟨rfl,?_,hno (by omega)⟩))
  exact (zHd hsz).2 (by rw [hb]; exact (zKi _).1 c)
 ·refine Or.inr (Or.inr (Or.inr (Or.inl ⟨rfl,?_,hno (by omega)⟩)))
  exact (zHd hsz).2 (by rw [hb]; exact (zJ0 _).1 c)
 ·exact Or.inr (Or.inl ⟨rfl,a,hnp (by omega)⟩)
 ·exact Or.inr (Or.inr (Or.inr (Or.inr (Or.inl rfl))))
 ·exact Or.inr (Or.inr (Or.inr (Or.inr (Or.inl rfl))))
theorem zJf {ns:List OpR} (hv:ZZ ns) {s:ByteArray}:∀ (ts:List zS) (i:Nat),ZP ns s i ts -> ∀ j,j < ts.length -> zGP ns (atT ts j)
 | [],i,h,j,hj=>by simp at hj
 | t :: out,i,h,j,hj=>by
  rcases h with ⟨rfl,_,_,rfl⟩ | ⟨p,n,k,_,_,_,_,ht,rfl,hr⟩
  ·have:j = 0:=by simp at hj; omega
   subst this
   refine Or.inr (Or.inr (Or.inr (Or.inr (Or.inr ⟨rfl,rfl,fun ho=>?_⟩))))
   have h1:=(zEF hv ho).2
   simp [atT] at h1
   have h0:(⟨#[]⟩:ByteArray).size = 0:=rfl
   omega
  ·cases j with
   | zero=>exact zLC hv _ ht
   | succ j=>exact zJf hv out _ hr j (by simpa using hj)
theorem zCi {ns:List OpR} {t:ByteArray} {q:Nat} {k:Int} (h:ZM ns t k = true) (hq:(q:Int) - 2 = k):knB ns (q,t) = true:=by
 unfold knB
 simp only [hq]
 cases hf:fnd ns t k with
 | some j=>rfl
 | none=>
  obtain ⟨j,hj,e1,e2⟩:=(Z7 _ _ _).1 h
  exact absurd ⟨e1,e2⟩ (zHo hf hj)
theorem zFU (xs:List OpR) (last:Bool) (t:zS) (op:Nat):ZA xs last t false op = if t.k = 1 \/ t.k = 2 \/ t.k = 4 then 0 else if t.k = 3 /\ ZM xs t.t 1 = true then 1 else -1:=by
 unfold ZA; rw [if_pos rfl]
theorem zDl (xs:List OpR) (last:Bool) (t:zS) (op:Nat):ZA xs last t true op = if t.k = 3 /\ ZM xs t.t 2 = true then 2 else if t.k = 3 /\ ZM xs t.t 3 = true then 3
  else if t.k = 5 /\ 0 < op then 0 else if t.k = 7 /\ op = 0 /\ last = true then 0 else -1:=by
 unfold ZA; rw [if_neg (by decide)]
theorem zLD {ns:List OpR} {ts:List zS} {i:Nat} (hl:i + 1 < ts.length) (hr:0 <= ZG ns ts i) :
  auS ns (zA5 ns ts i,zA0 ts i) (sgT ns ts i) = some (zA5 ns ts (i + 1),zA0 ts (i + 1)):=by
 have hlast:decide (i + 1 = ts.length) = false:=by simp; omega
 simp only [zA5,zA0]
 unfold sgT
 unfold ZG at hr ⊢
 rw [hlast] at hr ⊢
 generalize atT ts i = t at hr ⊢
 generalize zA0 ts i = op at hr ⊢
 generalize zA5 ns ts i = bh at hr ⊢
 cases bh
 ·rw [zFU] at hr ⊢
  by_cases k1:t.k = 1 \/ t.k = 2
  ·rw [if_neg (by omega),if_neg (by omega),if_neg (by omega),if_neg (by omega),zJc (by rcases k1 with e | e <;> simp [e])]
   simp only [zBg,zBW,if_true,if_pos k1]
   rw [if_neg (by omega),if_neg (by omega)]
  ·by_cases k4:t.k = 4
   ·rw [if_neg (by omega),if_pos k4,zJd]
    simp [zBg,zBW,k4]
   ·rw [if_neg (by omega)] at hr
    by_cases c:t.k = 3 /\ ZM ns t.t 1 = true
    ·rw [if_pos c.1,if_neg (by omega),if_pos c,zLA (s:=((1:Int).toNat + 2,t.t)) rfl (zCi c.2 (by decide))]
     simp [zBg,zBW,c.1]
    ·rw [if_neg c] at hr; omega
 ·rw [zDl] at hr ⊢
  by_cases c2:t.k = 3 /\ ZM ns t.t 2 = true
  ·rw [if_pos c2.1,if_pos c2,zLB (s:=((2:Int).toNat + 2,t.t)) rfl (zCi c2.2 (by decide))]
   simp [zBg,zBW,c2.1,c2.2]
  ·rw [if_neg c2] at hr
   by_cases c3:t.k = 3 /\ ZM ns t.t 3 = true
   ·rw [if_pos c3.1,if_neg c2,if_pos c3,zJe (s:=((3:Int).toNat + 2,t.t)) rfl (zCi c3.2 (by decide))]
    simp only [zBg,zBW,Bool.true_eq_false,if_false,if_neg c2]
    rw [if_neg (by omega),if_neg (by omega)]
   ·rw [if_neg c3] at hr
    by_cases c5:t.k = 5 /\ 0 < op
    ·rw [if_neg (by omega),if_neg (by omega),if_pos c5.1]
     obtain ⟨m,rfl⟩:∃ m,op = m + 1:=⟨op - 1,by omega⟩
     rw [zH1]
     simp [zBg,zBW,c5.1]
    ·rw [if_neg c5] at hr
     simp at hr
theorem zG6 {ns:List OpR} {ts:List zS}:∀ n,n < ts.length -> zBo ns ts n -> zAo ns (false,0) (sgs ns ts 0 n) = some (zA5 ns ts n,zA0 ts n)
 | 0,_,_=>rfl
 | n + 1,hn,hf=>by
  rw [zDk,zAz,zG6 n (by omega) (fun i hi=>hf i (by omega))]
  simp only [Nat.zero_add,zAo]
  rw [zLD (by omega) (hf n (by omega))]
theorem zMH {ns:List OpR} {ts:List zS} (hf:zBo ns ts ts.length) (h0:0 < ts.length) (h7:(atT ts (ts.length - 1)).k = 7) :
  Seg ns (sgs ns ts 0 (ts.length - 1)) /\ sgs ns ts 0 ts.length = sgs ns ts 0 (ts.length - 1) ++ [eoS]:=by
 have hr:=hf (ts.length - 1) (by omega)
 have hb:zA5 ns ts (ts.length - 1) = true /\ zA0 ts (ts.length - 1) = 0:=by
  unfold ZG ZA at hr
  have hl:decide (ts.length - 1 + 1 = ts.length) = true:=by simp; omega
  rw [hl] at hr
  cases hb:zA5 ns ts (ts.length - 1)
  ·rw [hb] at hr
   simp only [if_true] at hr
   rw [if_neg (by omega),if_neg (by omega)] at hr
   omega
  ·rw [hb] at hr
   simp only [Bool.true_eq_false,if_false] at hr
   rw [if_neg (by omega),if_neg (by omega),if_neg (by omega)] at hr
   by_cases c:(atT ts (ts.length - 1)).k = 7 /\ zA0 ts (ts.length - 1) = 0 /\ True
   ·exact ⟨rfl,c.2.1⟩
   ·rw [if_neg c] at hr; omega
 refine ⟨?_,?_⟩
 ·unfold Seg
  rw [zG6 _ (by omega) (fun i hi=>hf i (by omega)),hb.1,hb.2]
 ·have e:ts.length = ts.length - 1 + 1:=by omega
  have:=zDk ns ts 0 (ts.length - 1)
  rw [<- e] at this
  rw [this]
  have e2:sgT ns ts (0 + (ts.length - 1)) = eoS:=by
   rw [Nat.zero_add]
   unfold sgT
   rw [if_neg (by omega),if_neg (by omega),if_neg (by omega),if_pos h7]
  rw [e2]
theorem zKE {ns:List OpR} {ts:List zS} {i:Nat} (hr:0 <= ZG ns ts i) (hb:zA5 ns ts i = false) (ht:zGP ns (atT ts i)) :
  (((atT ts i).k = 1 \/ (atT ts i).k = 2) /\ ¬ opT ns (atT ts i).t /\ (atT ts i).t ≠ opn /\ sgT ns ts i = ((atT ts i).k.toNat,(atT ts i).t)) \/
  ((atT ts i).k = 3 /\ ZM ns (atT ts i).t 1 = true /\ (atT ts i).t ≠ opn /\ sgT ns ts i = (3,(atT ts i).t)) \/
  ((atT ts i).k = 4 /\ (atT ts i).t = opn /\ sgT ns ts i = (6,opn)):=by
 unfold sgT
 unfold ZG at hr ⊢
 rw [hb,zFU] at hr ⊢
 by_cases k:(atT ts i).k = 1 \/ (atT ts i).k = 2 \/ (atT ts i).k = 4
 ·rcases ht with ⟨a,b,c⟩ | ⟨a,b,c⟩ | ⟨a,b,c⟩ | ⟨a,b,c⟩ | a | ⟨a,b,c⟩
  ·refine Or.inl ⟨a,b,c,?_⟩
   rw [if_neg (by omega),if_neg (by omega),if_neg (by omega),if_neg (by omega)]
  ·omega
  ·refine Or.inr (Or.inr ⟨a,b,?_⟩)
   rw [if_neg (by omega),if_pos a]
  ·omega
  ·omega
  ·omega
 ·rw [if_neg k] at hr ⊢
  by_cases c:(atT ts i).k = 3 /\ ZM ns (atT ts i).t 1 = true
  ·rw [if_pos c.1,if_pos c]
   refine Or.inr (Or.inl ⟨c.1,c.2,?_,rfl⟩)
   rcases ht with ⟨a,b,c'⟩ | ⟨a,b,c'⟩ | ⟨a,b,c'⟩ | ⟨a,b,c'⟩ | a | ⟨a,b,c'⟩
   ·exact c'
   ·exact c'
   all_goals omega
  ·rw [if_neg c] at hr; omega
theorem zIm {ns:List OpR} {ts:List zS} {i:Nat} (hr:0 <= ZG ns ts i) (hb:zA5 ns ts i = true) (ht:zGP ns (atT ts i)) :
  ((atT ts i).k = 3 /\ ZM ns (atT ts i).t 2 = true /\ sgT ns ts i = (4,(atT ts i).t)) \/
  ((atT ts i).k = 3 /\ ZM ns (atT ts i).t 3 = true /\ sgT ns ts i = (5,(atT ts i).t)) \/
  (¬ opT ns (atT ts i).t /\ (sgT ns ts i).1 ≠ 4 /\ (sgT ns ts i).1 ≠ 5):=by
 unfold sgT
 unfold ZG at hr ⊢
 rw [hb,zDl] at hr ⊢
 by_cases c2:(atT ts i).k = 3 /\ ZM ns (atT ts i).t 2 = true
 ·rw [if_pos c2.1,if_pos c2]
  exact Or.inl ⟨c2.1,c2.2,rfl⟩
 ·rw [if_neg c2] at hr ⊢
  by_cases c3:(atT ts i).k = 3 /\ ZM ns (atT ts i).t 3 = true
  ·rw [if_pos c3.1,if_pos c3]
   exact Or.inr (Or.inl ⟨c3.1,c3.2,rfl⟩)
  ·rw [if_neg c3] at hr
   have k57:(atT ts i).k = 5 \/ (atT ts i).k = 7:=by
    by_cases c5:(atT ts i).k = 5 /\ 0 < zA0 ts i
    ·exact Or.inl c5.1
    ·rw [if_neg c5] at hr
     by_cases c7:(atT ts i).k = 7 /\ zA0 ts i = 0 /\ decide (i + 1 = ts.length) = true
     ·exact Or.inr c7.1
     ·rw [if_neg c7] at hr; omega
   have hno:¬ opT ns (atT ts i).t:=by
    rcases ht with ⟨a,b,c'⟩ | ⟨a,b,c'⟩ | ⟨a,b,c'⟩ | ⟨a,b,c'⟩ | a | ⟨a,b,c'⟩
    ·exact b
    ·omega
    ·exact c'
    ·exact c'
    ·omega
    ·exact c'
   refine Or.inr (Or.inr ⟨hno,?_⟩)
   rw [if_neg (by omega),if_neg (by omega)]
   by_cases k5:(atT ts i).k = 5
   ·rw [if_pos k5]; exact ⟨by decide,by decide⟩
   ·rw [if_neg k5,if_pos (by omega)]; exact ⟨by decide,by decide⟩
end Go.Proofs.YtfboipappaonhaaGreat
namespace Go.Proofs.YtfboipappaonhaaGreat
set_option linter.unusedSimpArgs false
set_option linter.unusedVariables false
set_option maxHeartbeats 16000000
set_option maxRecDepth 100000
open Go.RowKit
def hT:ET -> Nat
 | .nil=>0
 | .node _ _ _ l r=>1 + max (hT l) (hT r)
theorem zLE:∀ T:ET,hT T <= tsz T
 | .nil=>Nat.le_refl _
 | .node _ _ _ l r=>by
  have:=zLE l
  have:=zLE r
  simp only [hT,tsz]
  omega
def zBX (e:Value) (h:Nat):Prop:=∃ T v f r,e = .iface T v /\ (∀ w,(method 342 T v "loop.example/s0059/impl.height").run Tryz.prog w = .ok (f,r) w) /\ (∀ a w,(callFunc f a).run Tryz.prog w = .ok (.enter f a) w) /\
 ∀ w,Calls Tryz.prog f #[r] w fun x w'=>x = .returned (.int .i64 (h:Int)) /\ Below w.heap.size w w'
theorem zEW (t:ByteArray) (w:World):Calls Tryz.prog 186 #[.agg #[.string t]] w fun x w'=>x = .returned (.int .i64 ((1:Nat):Int)) /\ Below w.heap.size w w':=by
 go_enter Tryz.func186,Tryz.ntmps186
 go_wp2_with fail
 go_ret
 exact ⟨rfl,by first | exact zC _ _ | exact Below.refl _ _⟩
theorem zBy {e:Value} {h:Nat} (he:zBX e h) (hh:h <= 100000) (w:World):Calls Tryz.prog 190 #[.agg #[e]] w fun x w'=>x = .returned (.int .i64 ((1 + h:Nat):Int)) /\ Below w.heap.size w w':=by
 obtain ⟨T,v,f,r,rfl,hme,hcf,hcall⟩:=he
 have HC:=zB hcall
 have e1:((1 + h:Nat):Int) = 1 + (h:Int):=by omega
 clear hcall
 go_enter Tryz.func190,Tryz.ntmps190
 go_wp2_with fail
 refine ((zA HC) _).mono ?_
 rintro x w1 ⟨rfl,hb1⟩
 go_wp2_with fail
 go_ret
 rw [e1]
 exact ⟨rfl,(zC _ _).trans (hb1.mono (by simp))⟩
theorem zG7 {e e':Value} {h h':Nat} (p:OpR) (he:zBX e h) (he':zBX e' h') (hh:h <= 100000) (hh':h' <= 100000) (w:World):Calls Tryz.prog 194 #[.agg #[.string p.s,.int .i64 p.k,.int .i64 p.l,.int .i64 p.sd,e,e']] w fun x w'=>x = .returned (.int .i64 ((1 + max h h':Nat):Int)) /\ Below w.heap.size w w':=by
 obtain ⟨T,v,f,r,rfl,hme,hcf,hcall⟩:=he
 obtain ⟨T',v',f',r',rfl,hme',hcf',hcall'⟩:=he'
 have HC:=zB hcall
 have HC':=zB hcall'
 clear hcall hcall'
 go_enter Tryz.func194,Tryz.ntmps194
 go_wp2_with fail
 have HBC:=zB ((zC w (.cells #[.string p.s,.int .i64 p.k,.int .i64 p.l,.int .i64 p.sd,.iface T v,.iface T' v'] 131)).drew)
 have HSC:=zB (show Cs [(w.heap.size,4,.iface T v),(w.heap.size,5,.iface T' v')] ((w.alloc (.cells #[.string p.s,.int .i64 p.k,.int .i64 p.l,.int .i64 p.sd,.iface T v,.iface T' v'] 131)).drew) from by
  intro x hx
  simp only [List.mem_cons,List.not_mem_nil,or_false] at hx
  rcases hx with rfl | rfl
  ·simp [go_sem]
  ·simp [go_sem])
 go_region_held (fun w'=>w'.cell? ⟨w.heap.size,4,none⟩ = some (.iface T v) /\ w'.cell? ⟨w.heap.size,5,none⟩ = some (.iface T' v')) (first | (go_keep; done) | exact ⟨(zA HSC) (w.heap.size,4,.iface T v) (by simp),(zA HSC) (w.heap.size,5,.iface T' v') (by simp)⟩)
  (first | ((with_reducible refine ((zA HC) _).mono ?_); rintro x w1 ⟨rfl,hb1⟩; replace HSC:=zB ((zA HSC).below hb1); replace HBC:=zB ((zA HBC).trans (hb1.mono (zA HBC).size)); clear hb1 HC) | ((with_reducible refine ((zA HC') _).mono ?_); rintro x w1 ⟨rfl,hb1⟩; replace HSC:=zB ((zA HSC).below hb1); replace HBC:=zB ((zA HBC).trans (hb1.mono (zA HBC).size)); clear hb1 HC'))
 have e1:IntKind.i64.wrap (1 + max (h:Int) (h':Int)) = ((1 + max h h':Nat):Int):=by
  rw [IntKind.wrap_i64]
  omega
 rw [e1]
 go_wp2_with fail
 go_ret
 exact ⟨rfl,zA HBC⟩
theorem zMI (t:ByteArray):zBX (zIZ t) 1:=⟨_,_,186,.agg #[.string t],rfl,fun w=>by kernel_rfl,fun a w=>by kernel_rfl,zEW t⟩
theorem zLF (t:ByteArray):zBX (zFJ t) 1:=⟨_,_,186,.agg #[.string t],rfl,fun w=>by kernel_rfl,fun a w=>by kernel_rfl,zEW t⟩
theorem zMJ {e:Value} {h:Nat} (he:zBX e h) (hh:h <= 100000):zBX (zEd e) (1 + h):=⟨_,_,190,.agg #[e],rfl,fun w=>by kernel_rfl,fun a w=>by kernel_rfl,zBy he hh⟩
theorem zMK (p:OpR) {e:Value} {h:Nat} (he:zBX e h) (hh:h <= 100000):zBX (zD7 p e) (1 + h):=⟨_,_,190,.agg #[e],rfl,fun w=>by kernel_rfl,fun a w=>by kernel_rfl,zBy he hh⟩
theorem zLG (p:OpR) {e:Value} {h:Nat} (he:zBX e h) (hh:h <= 100000):zBX (zBk p e) (1 + h):=⟨_,_,190,.agg #[e],rfl,fun w=>by kernel_rfl,fun a w=>by kernel_rfl,zBy he hh⟩
theorem zML (p:OpR) {e e':Value} {h h':Nat} (he:zBX e h) (he':zBX e' h') (hh:h <= 100000) (hh':h' <= 100000):zBX (zDC p e e') (1 + max h h'):=⟨_,_,194,_,rfl,fun w=>by kernel_rfl,fun a w=>by kernel_rfl,zG7 p he he' hh hh'⟩
theorem zCj {ns:List OpR} {b:Nat} {t:ByteArray} (hb:b = 3 \/ b = 4 \/ b = 5) (hk:knB ns (b,t) = true):sLv ns (b,t) = (opA ns (rt b t)).l:=by
 unfold knB at hk
 unfold sLv ZI opA
 have hbk:3 <= (rt b t).k /\ (rt b t).k <= 5:=by simp only [rt]; omega
 simp only [if_pos hbk]
 have e:fnd ns (rt b t).t ((rt b t).k - 2) = fnd ns t ((b:Int) - 2):=rfl
 rw [e]
 cases h:fnd ns t ((b:Int) - 2) with
 | none=>simp only [h] at hk; cases hk
 | some j=>rfl
theorem zLH (ns:List OpR):∀ T:ET,zl ns T -> hT T <= 100000 -> zBX (exT ns T) (hT T):=by
 intro T
 induction T with
 | nil=>intro h; exact h.elim
 | node b o t l r ihl ihr=>
  intro hg hh
  simp only [hT] at hh
  rcases hg with ⟨rfl,⟨hb,rfl,rfl⟩ | ⟨rfl,rfl,hl,rfl⟩ | ⟨hb,hk,hl,rfl,_⟩ | ⟨rfl,hk,hl,hr,_⟩⟩
  ·rcases hb with rfl | rfl
   ·exact zMI t
   ·exact zLF t
  ·have:=zMJ (ihl hl (by omega)) (by omega)
   have e:hT (.node 6 0 ByteArray.empty l .nil) = 1 + hT l:=by simp [hT]
   rw [e]; exact this
  ·have e:∀ b,hT (.node b 0 t l .nil) = 1 + hT l:=fun b=>by simp [hT]
   rw [e]
   rcases hb with rfl | rfl
   ·exact zMK _ (ihl hl (by omega)) (by omega)
   ·exact zLG _ (ihl hl (by omega)) (by omega)
  ·exact zML _ (ihl hl (by omega)) (ihr hr (by omega)) (by omega) (by omega)
theorem zH5 (ns:List OpR):∀ T:ET,zl ns T -> zC4 (exT ns T) (lvT ns T):=by
 intro T hg
 cases T with
 | nil=>exact hg.elim
 | node b o t l r=>
  rcases hg with ⟨rfl,⟨hb,rfl,rfl⟩ | ⟨rfl,rfl,hl,rfl⟩ | ⟨hb,hk,hl,rfl,_⟩ | ⟨rfl,hk,hl,hr,_⟩⟩
  ·have e:lvT ns (.node b 0 t .nil .nil) = 1001:=Z2 ns b t (by omega)
   rw [e]
   rcases hb with rfl | rfl
   ·exact zJY t
   ·exact zHx t
  ·have e:lvT ns (.node 6 0 ByteArray.empty l .nil) = 1001:=Z2 ns 6 _ (by omega)
   rw [e]
   exact zL9 _
  ·have e:lvT ns (.node b 0 t l .nil) = (opA ns (rt b t)).l:=zCj (by omega) hk
   rw [e]
   rcases hb with rfl | rfl
   ·exact zJZ _ _
   ·exact zHy _ _
  ·have e:lvT ns (.node 4 0 t l r) = (opA ns (rt 4 t)).l:=zCj (by omega) hk
   rw [e]
   exact zJa _ _ _
theorem zH6 {ns:List OpR} {b:Nat} {t:ByteArray} (hk:knB ns (b,t) = true):(opA ns (rt b t)).s = t:=by
 obtain ⟨j,_,hj,_,e⟩:=zDe hk
 rw [e]
 exact (Ze hj).2.1
theorem zLI (ns:List OpR):∀ T:ET,zl ns T -> zA8 (exT ns T) (nd T):=by
 intro T
 induction T with
 | nil=>intro h; exact h.elim
 | node b o t l r ihl ihr=>
  intro hg
  rcases hg with ⟨rfl,⟨hb,rfl,rfl⟩ | ⟨rfl,rfl,hl,rfl⟩ | ⟨hb,hk,hl,rfl,_⟩ | ⟨rfl,hk,hl,hr,_⟩⟩
  ·rcases hb with rfl | rfl
   ·exact zJQ t
   ·exact zHp t
  ·have e:nd (.node 6 0 ByteArray.empty l .nil) = zAZ (nd l) 6 ByteArray.empty:=by
    funext s
    simp [nd,zAZ,tN,zj,zR,tsz]
   rw [e]
   exact zJR (ihl hl)
  ·have hs:=zH6 hk
   rcases hb with rfl | rfl
   ·have e:nd (.node 3 0 t l .nil) = zAZ (nd l) 3 (opA ns (rt 3 t)).s:=by
     funext s
     simp [nd,zAZ,tN,zj,zR,tsz,hs]
    rw [e]
    exact zJS (ihl hl) _
   ·have e:nd (.node 5 0 t l .nil) = zAZ (nd l) 5 (opA ns (rt 5 t)).s:=by
     funext s
     simp [nd,zAZ,tN,zj,zR,tsz,hs]
    rw [e]
    exact zHq (ihl hl) _
  ·have hs:=zH6 hk
   have e:nd (.node 4 0 t l r) = zFK (nd l) (nd r) (opA ns (rt 4 t)).s:=by
    funext s
    simp [nd,zFK,tN,zj,zR,tsz,hs]
   rw [e]
   exact zJT (ihl hl) (ihr hr) _
end Go.Proofs.YtfboipappaonhaaGreat
