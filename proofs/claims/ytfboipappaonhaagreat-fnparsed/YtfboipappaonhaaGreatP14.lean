import Derived.OwnWalk
import Derived.Laws.OwnMore
import Derived.Test.YtfboipappaonhaaGreatP00
import Derived.Test.YtfboipappaonhaaGreatP01
import Derived.Test.YtfboipappaonhaaGreatP08
import Derived.Test.YtfboipappaonhaaGreatP13
namespace Go.Proofs.YtfboipappaonhaaGreat
set_option maxHeartbeats 16000000
set_option maxRecDepth 100000
open Go.RowKit
def ZZ (xs:List zI):Nat -> List UInt8
 | 0=>[]
 | k + 1=>ZZ xs k ++ (atT xs k).g.data.toList ++ (atT xs k).t.data.toList
theorem zB3 (xs:List zI):∀ k,(ZZ xs k).length = ZF xs k
 | 0=>rfl
 | k + 1=>by
  have:=zB3 xs k
  simp only [ZZ,ZF,zLi,List.length_append,this]
  simp
  omega
theorem zDI (xs:List zI):∀ k n,k <= n -> ZF xs k <= ZF xs n
 | k,0,h=>by
  have:k = 0:=by omega
  subst this; exact Nat.le_refl _
 | k,n + 1,h=>by
  by_cases e:k = n + 1
  ·subst e; exact Nat.le_refl _
  ·have:=zDI xs k n (by omega)
   simp only [ZF]
   omega
theorem ZQ {w:World} {base n size:Nat} {e:TypeId} {v:Value} {xs:List Value} (h:w.ownsRow base e size v n xs) (hv:v ≠ .slice none 0 0):∃ g cap,v = .slice (some ⟨g,0,none⟩) n cap:=by
 obtain ⟨_,h | ⟨g,cap,cur,hv',_⟩⟩:=h
 ·exact absurd h.1 hv
 ·exact ⟨g,cap,hv'⟩
theorem zAv {w:World} {base g cap n:Nat} {e:TypeId} {l:List UInt8} (h:w.ownsRow base e 1 (.slice (some ⟨g,0,none⟩) n cap) n (cellsB l)):∀ j u,(cellsB l)[j]? = some u -> w.cell? ((⟨g,0,none⟩:Addr).add j) = some u:=
 h.cells rfl
theorem zAH {w w':World} (h:Below w.heap.size w w') (row:Option Nat):w.grownBy w' row:=⟨h.os,h.tape,h.output,h.size,fun i hi _=>h.block i hi⟩
def zY (zs:List zI):List Value:=zs.flatMap fun o=>[.int .i64 o.k,.string o.g,.string o.t]
theorem zBC (xs ys:List zI):zY (xs ++ ys) = zY xs ++ zY ys:=by simp [zY]
theorem zFB:∀ zs:List zI,(zY zs).length = zs.length * 3
 | []=>rfl
 | o :: r=>by
  have:=zFB r
  simp only [zY,List.flatMap_cons,List.length_append,List.length_cons,List.length_nil] at *
  omega
theorem zF3:∀ (zs:List zI) (i:Nat),i < zs.length -> (zY zs)[i * 3]? = some (.int .i64 (atT zs i).k) /\ (zY zs)[i * 3 + 1]? = some (.string (atT zs i).g) /\ (zY zs)[i * 3 + 2]? = some (.string (atT zs i).t)
 | [],i,h=>absurd h (Nat.not_lt_zero i)
 | o :: r,0,_=>⟨rfl,rfl,rfl⟩
 | o :: r,i + 1,h=>by
  have ih:=zF3 r i (by simpa using h)
  have e:∀ j,(zY (o :: r))[(i + 1) * 3 + j]? = (zY r)[i * 3 + j]?:=fun j=>by
   have:(i + 1) * 3 + j = (i * 3 + j) + 3:=by omega
   rw [this]
   rfl
  exact ⟨(e 0).trans ih.1,(e 1).trans ih.2.1,(e 2).trans ih.2.2⟩
theorem zBl (zs:List zI):∀ u ∈ zY zs,u.oneCell' = true:=by
 intro u hu
 simp only [zY,List.mem_flatMap] at hu
 obtain ⟨o,_,ho⟩:=hu
 simp at ho
 rcases ho with rfl | rfl | rfl <;> rfl
theorem zBm {w:World} {base g cap:Nat} {e:TypeId} {zs:List zI} (h:w.ownsRow base e 3 (.slice (some ⟨g,0,none⟩) zs.length cap) zs.length (zY zs)):base <= g /\ zFQ w g zs zs.length:=by
 have hlt:=h.lt g rfl
 refine ⟨hlt.1,hlt.2,fun j hj=>⟨?_,h.frozenAt _⟩,fun i hi=>?_⟩
 ·rw [h.cellAt (0 + j) (by omega)]
  have:0 + j < (zY zs).length:=by rw [zFB]; omega
  rw [List.getElem?_eq_getElem this]
  rfl
 ·obtain ⟨c0,c1,c2⟩:=zF3 zs i hi
  have e:=fun j (hj:j < 3)=>h.cellAt (i * 3 + j) (by omega)
  exact ⟨by simpa using (e 0 (by omega)).trans c0,by simpa using (e 1 (by omega)).trans c1,by simpa using (e 2 (by omega)).trans c2⟩
theorem zDY (w:World) (o:zI):∀ j u,(zY [o])[j]? = some u -> (w.alloc (.cells #[.int .i64 o.k,.string o.g,.string o.t] 97)).cell? ((⟨w.heap.size,0,none⟩:Addr).add j) = some u:=by
 intro j u hj
 rw [Addr.add_mid]
 have:=World.rangeAt_of_block (w:=w.alloc (.cells #[.int .i64 o.k,.string o.g,.string o.t] 97)) (b:=w.heap.size) (heap_alloc_new w _) 0 3
 exact this j u (by simpa [zY] using hj)
def zOr (xs:List OpR) (ok:Prop) (s:ByteArray) (us:List zI) (v:Bool):Prop:=
 ((ok /\ s.size <= 20000) /\ v = true /\ ZK xs s 0 us) \/ (¬ (ok /\ s.size <= 20000) /\ v = false /\ us = [])
def zF4 (xs:List OpR) (s:ByteArray) (i:Nat) (acc:List zI):Prop:=acc.length <= i /\ ∀ out,ZK xs s i out -> ZK xs s 0 (acc ++ out)
theorem zF4.start (xs:List OpR) (s:ByteArray):zF4 xs s 0 []:=⟨Nat.le_refl _,fun _ h=>h⟩
theorem zF4.step {xs:List OpR} {s:ByteArray} {i j n k:Nat} {acc:List zI} (h:zF4 xs s i acc) (h1:i <= j) (h2:j < s.size) (h3:zCl s i j) (h4:cls (bt s j) ≠ 1) (h5:zBI xs s j n k) :
  zF4 xs s (j + n) (acc ++ [⟨(k:Int),s.extract i j,s.extract j (j + n)⟩]):=by
 refine ⟨?_,fun out ho=>?_⟩
 ·have:=h.1
  have:=h5.1
  simp
  omega
 ·rw [List.append_assoc]
  exact h.2 _ (ZK.tok h1 h2 h3 h4 h5 ho)
theorem zF4.done {xs:List OpR} {s:ByteArray} {i:Nat} {acc:List zI} (h:zF4 xs s i acc) (h1:i <= s.size) (h3:zCl s i s.size):ZK xs s 0 (acc ++ [⟨7,s.extract i s.size,⟨#[]⟩⟩]):=
 h.2 _ (ZK.fin h1 h3)
end Go.Proofs.YtfboipappaonhaaGreat
namespace Go.Proofs.YtfboipappaonhaaGreat
set_option linter.unusedSimpArgs false
set_option maxHeartbeats 16000000
set_option maxRecDepth 100000
open Go.RowKit
def sgT (ns:List OpR) (ts:List zI) (i:Nat):SyR:=
 if (atT ts i).k = 3 then ((zP ns ts i).toNat + 2,(atT ts i).t)
 else if (atT ts i).k = 4 then (6,opn) else if (atT ts i).k = 5 then (7,zA7) else if (atT ts i).k = 7 then eoS else ((atT ts i).k.toNat,(atT ts i).t)
def sgs (ns:List OpR) (ts:List zI) (a n:Nat):List SyR:=(List.range' a n).map (sgT ns ts)
theorem zAA (ns:List OpR) (ts:List zI) (a n:Nat):(sgs ns ts a n).length = n:=by simp [sgs]
theorem zDJ (ns:List OpR) (ts:List zI) (a n:Nat):sgs ns ts a (n + 1) = sgT ns ts a :: sgs ns ts (a + 1) n:=by
 simp [sgs,List.range'_succ]
theorem zEL (ns:List OpR) (ts:List zI) (a m n:Nat):sgs ns ts a (m + n) = sgs ns ts a m ++ sgs ns ts (a + m) n:=by
 induction m generalizing a with
 | zero=>simp [sgs]
 | succ m ih=>
  have e:m + 1 + n = (m + n) + 1:=by omega
  rw [e,zDJ,zDJ,ih]
  have e2:a + 1 + m = a + (m + 1):=by omega
  rw [e2]; rfl
theorem zB4 (ns:List OpR) (ts:List zI) (a n:Nat):sgs ns ts a (n + 1) = sgs ns ts a n ++ [sgT ns ts (a + n)]:=by
 rw [zEL]; rfl
def zHA (ns:List OpR) (t:zI):Prop:=
 ((t.k = 1 \/ t.k = 2) /\ ¬ opT ns t.t /\ t.t ≠ opn) \/ (t.k = 3 /\ opT ns t.t /\ t.t ≠ opn) \/ (t.k = 4 /\ t.t = opn /\ ¬ opT ns t.t) \/ (t.k = 5 /\ t.t = zA7 /\ ¬ opT ns t.t) \/ t.k = 6 \/ (t.k = 7 /\ t.t = ⟨#[]⟩ /\ ¬ opT ns t.t)
theorem zEp {t:ByteArray} {ns:List OpR} (hv:zi ns) (ho:opT ns t):cls (bt t 0) = 6 /\ 1 <= t.size:=by
 obtain ⟨j,hj,rfl⟩:=ho
 have:=hv j hj
 exact ⟨this.2.2 0 (by omega),this.1⟩
theorem zMB {ns:List OpR} (hv:zi ns) {s:ByteArray} {i n k:Nat} (g:ByteArray) (h:zBI ns s i n k):zHA ns ⟨(k:Int),g,s.extract i (i + n)⟩:=by
 obtain ⟨h1,h2,h⟩:=h
 have hb:bt (sub s i n) 0 = bt s i:=by simpa using zBs (s:=s) (i:=i) (n:=n) (j:=0) h2 (by omega)
 have hsz:(sub s i n).size = n:=zAF h2
 have hno:cls (bt s i) ≠ 6 -> ¬ opT ns (sub s i n):=fun hc ho=>hc (by rw [<- hb]; exact (zEp hv ho).1)
 have hnp:cls (bt s i) ≠ 4 -> sub s i n ≠ opn:=fun hc e=>hc (by rw [<- hb,e]; decide)
 change zHA ns ⟨(k:Int),g,sub s i n⟩
 rcases h with ⟨c,rfl,_⟩ | ⟨c,rfl,_⟩ | ⟨c,rfl,rfl⟩ | ⟨c,rfl,rfl⟩ | ⟨c,⟨rfl,a,_⟩ | ⟨rfl,_⟩⟩ | ⟨c,rfl,_⟩
 ·exact Or.inl ⟨Or.inl rfl,hno (by omega),hnp (by omega)⟩
 ·exact Or.inl ⟨Or.inr rfl,hno (by omega),hnp (by omega)⟩
 ·refine Or.inr (Or.inr (Or.inl ⟨rfl,?_,hno (by omega)⟩))
  exact (zBR hsz).2 (by rw [hb]; exact (zD3 _).1 c)
 ·refine Or.inr (Or.inr (Or.inr (Or.inl ⟨rfl,?_,hno (by omega)⟩)))
  exact (zBR hsz).2 (by rw [hb]; exact (zDR _).1 c)
 ·exact Or.inr (Or.inl ⟨rfl,a,hnp (by omega)⟩)
 ·exact Or.inr (Or.inr (Or.inr (Or.inr (Or.inl rfl))))
 ·exact Or.inr (Or.inr (Or.inr (Or.inr (Or.inl rfl))))
theorem zHt {ns:List OpR} (hv:zi ns) {s:ByteArray}:∀ (ts:List zI) (i:Nat),ZK ns s i ts -> ∀ j,j < ts.length -> zHA ns (atT ts j)
 | [],i,h,j,hj=>by simp at hj
 | t :: out,i,h,j,hj=>by
  rcases h with ⟨rfl,_,_,rfl⟩ | ⟨p,n,k,_,_,_,_,ht,rfl,hr⟩
  ·have:j = 0:=by simp at hj; omega
   subst this
   refine Or.inr (Or.inr (Or.inr (Or.inr (Or.inr ⟨rfl,rfl,fun ho=>?_⟩))))
   have h1:=(zEp hv ho).2
   simp [atT] at h1
   have h0:(⟨#[]⟩:ByteArray).size = 0:=rfl
   omega
  ·cases j with
   | zero=>exact zMB hv _ ht
   | succ j=>exact zHt hv out _ hr j (by simpa using hj)
theorem zCy {ns:List OpR} {t:ByteArray} {q:Nat} {k:Int} (h:za ns t k = true) (hq:(q:Int) - 2 = k):knB ns (q,t) = true:=by
 unfold knB
 simp only [hq]
 cases hf:fnd ns t k with
 | some j=>rfl
 | none=>
  obtain ⟨j,hj,e1,e2⟩:=(ZJ _ _ _).1 h
  exact absurd ⟨e1,e2⟩ (zIn hf hj)
theorem zEM (xs:List OpR) (last:Bool) (t:zI) (op:Nat):zq xs last t false op = if t.k = 1 \/ t.k = 2 \/ t.k = 4 then 0 else if t.k = 3 /\ za xs t.t 1 = true then 1 else -1:=by
 unfold zq; rw [if_pos rfl]
theorem zDK (xs:List OpR) (last:Bool) (t:zI) (op:Nat):zq xs last t true op = if t.k = 3 /\ za xs t.t 2 = true then 2 else if t.k = 3 /\ za xs t.t 3 = true then 3
  else if t.k = 5 /\ 0 < op then 0 else if t.k = 7 /\ op = 0 /\ last = true then 0 else -1:=by
 unfold zq; rw [if_neg (by decide)]
theorem zMC {ns:List OpR} {ts:List zI} {i:Nat} (hl:i + 1 < ts.length) (hr:0 <= zP ns ts i) :
  auS ns (zBB ns ts i,zA1 ts i) (sgT ns ts i) = some (zBB ns ts (i + 1),zA1 ts (i + 1)):=by
 have hlast:decide (i + 1 = ts.length) = false:=by simp; omega
 simp only [zBB,zA1]
 unfold sgT
 unfold zP at hr ⊢
 rw [hlast] at hr ⊢
 generalize atT ts i = t at hr ⊢
 generalize zA1 ts i = op at hr ⊢
 generalize zBB ns ts i = bh at hr ⊢
 cases bh
 ·rw [zEM] at hr ⊢
  by_cases k1:t.k = 1 \/ t.k = 2
  ·rw [if_neg (by omega),if_neg (by omega),if_neg (by omega),if_neg (by omega),zHo (by rcases k1 with e | e <;> simp [e])]
   simp only [zB2,zBk,if_true,if_pos k1]
   rw [if_neg (by omega),if_neg (by omega)]
  ·by_cases k4:t.k = 4
   ·rw [if_neg (by omega),if_pos k4,zHp]
    simp [zB2,zBk,k4]
   ·rw [if_neg (by omega)] at hr
    by_cases c:t.k = 3 /\ za ns t.t 1 = true
    ·rw [if_pos c.1,if_neg (by omega),if_pos c,zJh (s:=((1:Int).toNat + 2,t.t)) rfl (zCy c.2 (by decide))]
     simp [zB2,zBk,c.1]
    ·rw [if_neg c] at hr; omega
 ·rw [zDK] at hr ⊢
  by_cases c2:t.k = 3 /\ za ns t.t 2 = true
  ·rw [if_pos c2.1,if_pos c2,zJi (s:=((2:Int).toNat + 2,t.t)) rfl (zCy c2.2 (by decide))]
   simp [zB2,zBk,c2.1,c2.2]
  ·rw [if_neg c2] at hr
   by_cases c3:t.k = 3 /\ za ns t.t 3 = true
   ·rw [if_pos c3.1,if_neg c2,if_pos c3,zHq (s:=((3:Int).toNat + 2,t.t)) rfl (zCy c3.2 (by decide))]
    simp only [zB2,zBk,Bool.true_eq_false,if_false,if_neg c2]
    rw [if_neg (by omega),if_neg (by omega)]
   ·rw [if_neg c3] at hr
    by_cases c5:t.k = 5 /\ 0 < op
    ·rw [if_neg (by omega),if_neg (by omega),if_pos c5.1]
     obtain ⟨m,rfl⟩:∃ m,op = m + 1:=⟨op - 1,by omega⟩
     rw [zF1]
     simp [zB2,zBk,c5.1]
    ·rw [if_neg c5] at hr
     simp at hr
theorem zHu {ns:List OpR} {ts:List zI}:∀ n,n < ts.length -> zAu ns ts n -> Zt ns (false,0) (sgs ns ts 0 n) = some (zBB ns ts n,zA1 ts n)
 | 0,_,_=>rfl
 | n + 1,hn,hf=>by
  rw [zB4,zBZ,zHu n (by omega) (fun i hi=>hf i (by omega))]
  simp only [Nat.zero_add,Zt]
  rw [zMC (by omega) (hf n (by omega))]
theorem zHv {ns:List OpR} {ts:List zI} (hf:zAu ns ts ts.length) (h0:0 < ts.length) (h7:(atT ts (ts.length - 1)).k = 7) :
  Seg ns (sgs ns ts 0 (ts.length - 1)) /\ sgs ns ts 0 ts.length = sgs ns ts 0 (ts.length - 1) ++ [eoS]:=by
 have hr:=hf (ts.length - 1) (by omega)
 have hb:zBB ns ts (ts.length - 1) = true /\ zA1 ts (ts.length - 1) = 0:=by
  unfold zP zq at hr
  have hl:decide (ts.length - 1 + 1 = ts.length) = true:=by simp; omega
  rw [hl] at hr
  cases hb:zBB ns ts (ts.length - 1)
  ·rw [hb] at hr
   simp only [if_true] at hr
   rw [if_neg (by omega),if_neg (by omega)] at hr
   omega
  ·rw [hb] at hr
   simp only [Bool.true_eq_false,if_false] at hr
   rw [if_neg (by omega),if_neg (by omega),if_neg (by omega)] at hr
   by_cases c:(atT ts (ts.length - 1)).k = 7 /\ zA1 ts (ts.length - 1) = 0 /\ True
   ·exact ⟨rfl,c.2.1⟩
   ·rw [if_neg c] at hr; omega
 refine ⟨?_,?_⟩
 ·unfold Seg
  rw [zHu _ (by omega) (fun i hi=>hf i (by omega)),hb.1,hb.2]
 ·have e:ts.length = ts.length - 1 + 1:=by omega
  have:=zB4 ns ts 0 (ts.length - 1)
  rw [<- e] at this
  rw [this]
  have e2:sgT ns ts (0 + (ts.length - 1)) = eoS:=by
   rw [Nat.zero_add]
   unfold sgT
   rw [if_neg (by omega),if_neg (by omega),if_neg (by omega),if_pos h7]
  rw [e2]
theorem zK6 {ns:List OpR} {ts:List zI} {i:Nat} (hr:0 <= zP ns ts i) (hb:zBB ns ts i = false) (ht:zHA ns (atT ts i)) :
  (((atT ts i).k = 1 \/ (atT ts i).k = 2) /\ ¬ opT ns (atT ts i).t /\ (atT ts i).t ≠ opn /\ sgT ns ts i = ((atT ts i).k.toNat,(atT ts i).t)) \/
  ((atT ts i).k = 3 /\ za ns (atT ts i).t 1 = true /\ (atT ts i).t ≠ opn /\ sgT ns ts i = (3,(atT ts i).t)) \/
  ((atT ts i).k = 4 /\ (atT ts i).t = opn /\ sgT ns ts i = (6,opn)):=by
 unfold sgT
 unfold zP at hr ⊢
 rw [hb,zEM] at hr ⊢
 by_cases k:(atT ts i).k = 1 \/ (atT ts i).k = 2 \/ (atT ts i).k = 4
 ·rcases ht with ⟨a,b,c⟩ | ⟨a,b,c⟩ | ⟨a,b,c⟩ | ⟨a,b,c⟩ | a | ⟨a,b,c⟩
  ·refine Or.inl ⟨a,b,c,?_⟩
   rw [if_neg (by omega),if_neg (by omega),if_neg (by omega),if_neg (by omega)]
  ·omega
  ·refine Or.inr (Or.inr ⟨a,b,?_⟩)
   rw [if_neg (by omega),if_pos a]
  ·omega
  ·omega
  ·omega
 ·rw [if_neg k] at hr ⊢
  by_cases c:(atT ts i).k = 3 /\ za ns (atT ts i).t 1 = true
  ·rw [if_pos c.1,if_pos c]
   refine Or.inr (Or.inl ⟨c.1,c.2,?_,rfl⟩)
   rcases ht with ⟨a,b,c'⟩ | ⟨a,b,c'⟩ | ⟨a,b,c'⟩ | ⟨a,b,c'⟩ | a | ⟨a,b,c'⟩
   ·exact c'
   ·exact c'
   all_goals omega
  ·rw [if_neg c] at hr; omega
theorem zJl {ns:List OpR} {ts:List zI} {i:Nat} (hr:0 <= zP ns ts i) (hb:zBB ns ts i = true) (ht:zHA ns (atT ts i)) :
  ((atT ts i).k = 3 /\ za ns (atT ts i).t 2 = true /\ sgT ns ts i = (4,(atT ts i).t)) \/
  ((atT ts i).k = 3 /\ za ns (atT ts i).t 3 = true /\ sgT ns ts i = (5,(atT ts i).t)) \/
  (¬ opT ns (atT ts i).t /\ (sgT ns ts i).1 ≠ 4 /\ (sgT ns ts i).1 ≠ 5):=by
 unfold sgT
 unfold zP at hr ⊢
 rw [hb,zDK] at hr ⊢
 by_cases c2:(atT ts i).k = 3 /\ za ns (atT ts i).t 2 = true
 ·rw [if_pos c2.1,if_pos c2]
  exact Or.inl ⟨c2.1,c2.2,rfl⟩
 ·rw [if_neg c2] at hr ⊢
  by_cases c3:(atT ts i).k = 3 /\ za ns (atT ts i).t 3 = true
  ·rw [if_pos c3.1,if_pos c3]
   exact Or.inr (Or.inl ⟨c3.1,c3.2,rfl⟩)
  ·rw [if_neg c3] at hr
   have k57:(atT ts i).k = 5 \/ (atT ts i).k = 7:=by
    by_cases c5:(atT ts i).k = 5 /\ 0 < zA1 ts i
    ·exact Or.inl c5.1
    ·rw [if_neg c5] at hr
     by_cases c7:(atT ts i).k = 7 /\ zA1 ts i = 0 /\ decide (i + 1 = ts.length) = true
     ·exact Or.inr c7.1
     ·rw [if_neg c7] at hr; omega
   have hno:¬ opT ns (atT ts i).t:=by
    rcases ht with ⟨a,b,c'⟩ | ⟨a,b,c'⟩ | ⟨a,b,c'⟩ | ⟨a,b,c'⟩ | a | ⟨a,b,c'⟩
    ·exact b
    ·omega
    ·exact c'
    ·exact c'
    ·omega
    ·exact c'
   refine Or.inr (Or.inr ⟨hno,?_⟩)
   rw [if_neg (by omega),if_neg (by omega)]
   by_cases k5:(atT ts i).k = 5
   ·rw [if_pos k5]; exact ⟨by decide,by decide⟩
   ·rw [if_neg k5,if_pos (by omega)]; exact ⟨by decide,by decide⟩
end Go.Proofs.YtfboipappaonhaaGreat
