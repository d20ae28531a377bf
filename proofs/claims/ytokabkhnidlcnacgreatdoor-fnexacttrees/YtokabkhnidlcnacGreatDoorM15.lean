import Derived.OwnWalk
import Derived.Laws.OwnMore
import Derived.Deep.RegionHeld
import Derived.BigQuiet
import Derived.Maps.AppendAt
import Derived.Test.YtokabkhnidlcnacGreatDoorM02
import Derived.Test.YtokabkhnidlcnacGreatDoorM03
import Derived.Test.YtokabkhnidlcnacGreatDoorM12
import Derived.Test.YtokabkhnidlcnacGreatDoorM14
namespace Go.Proofs.YtokabkhnidlcnacGreatDoor
set_option maxHeartbeats 16000000
set_option maxRecDepth 100000
open Go.RowKit
def zR (zs:List zK):List Value:=zs.flatMap fun o=>[.int .i64 o.k,.string o.g,.string o.t]
theorem zAt (xs ys:List zK):zR (xs ++ ys) = zR xs ++ zR ys:=by simp [zR]
theorem zFJ:∀ zs:List zK,(zR zs).length = zs.length * 3
 | []=>rfl
 | o :: r=>by
  have:=zFJ r
  simp only [zR,List.flatMap_cons,List.length_append,List.length_cons,List.length_nil] at *
  omega
theorem zGK:∀ (zs:List zK) (i:Nat),i < zs.length -> (zR zs)[i * 3]? = some (.int .i64 (atT zs i).k) /\ (zR zs)[i * 3 + 1]? = some (.string (atT zs i).g) /\ (zR zs)[i * 3 + 2]? = some (.string (atT zs i).t)
 | [],i,h=>absurd h (Nat.not_lt_zero i)
 | o :: r,0,_=>⟨rfl,rfl,rfl⟩
 | o :: r,i + 1,h=>by
  have ih:=zGK r i (by simpa using h)
  have e:∀ j,(zR (o :: r))[(i + 1) * 3 + j]? = (zR r)[i * 3 + j]?:=fun j=>by
   have:(i + 1) * 3 + j = (i * 3 + j) + 3:=by omega
   rw [this]
   rfl
  exact ⟨(e 0).trans ih.1,(e 1).trans ih.2.1,(e 2).trans ih.2.2⟩
theorem zBU (zs:List zK):∀ u ∈ zR zs,u.oneCell' = true:=by
 intro u hu
 simp only [zR,List.mem_flatMap] at hu
 obtain ⟨o,_,ho⟩:=hu
 simp at ho
 rcases ho with rfl | rfl | rfl <;> rfl
theorem zBV {w:World} {base g cap:Nat} {e:TypeId} {zs:List zK} (h:w.ownsRow base e 3 (.slice (some ⟨g,0,none⟩) zs.length cap) zs.length (zR zs)):base <= g /\ zFg w g zs zs.length:=by
 have hlt:=h.lt g rfl
 refine ⟨hlt.1,hlt.2,fun j hj=>⟨?_,h.frozenAt _⟩,fun i hi=>?_⟩
 ·rw [h.cellAt (0 + j) (by omega)]
  have:0 + j < (zR zs).length:=by rw [zFJ]; omega
  rw [List.getElem?_eq_getElem this]
  rfl
 ·obtain ⟨c0,c1,c2⟩:=zGK zs i hi
  have e:=fun j (hj:j < 3)=>h.cellAt (i * 3 + j) (by omega)
  exact ⟨by simpa using (e 0 (by omega)).trans c0,by simpa using (e 1 (by omega)).trans c1,by simpa using (e 2 (by omega)).trans c2⟩
theorem zDV (w:World) (o:zK):∀ j u,(zR [o])[j]? = some u -> (w.alloc (.cells #[.int .i64 o.k,.string o.g,.string o.t] 112)).cell? ((⟨w.heap.size,0,none⟩:Addr).add j) = some u:=by
 intro j u hj
 rw [Addr.add_mid]
 have:=World.rangeAt_of_block (w:=w.alloc (.cells #[.int .i64 o.k,.string o.g,.string o.t] 112)) (b:=w.heap.size) (heap_alloc_new w _) 0 3
 exact this j u (by simpa [zR] using hj)
def zQY (xs:List OpR) (ok:Prop) (s:ByteArray) (us:List zK) (v:Bool):Prop:=
 ((ok /\ s.size <= 20000) /\ v = true /\ Zd xs s 0 us) \/ (¬ (ok /\ s.size <= 20000) /\ v = false /\ us = [])
def zGL (xs:List OpR) (s:ByteArray) (i:Nat) (acc:List zK):Prop:=acc.length <= i /\ ∀ out,Zd xs s i out -> Zd xs s 0 (acc ++ out)
theorem zGL.start (xs:List OpR) (s:ByteArray):zGL xs s 0 []:=⟨Nat.le_refl _,fun _ h=>h⟩
theorem zGL.step {xs:List OpR} {s:ByteArray} {i j n k:Nat} {acc:List zK} (h:zGL xs s i acc) (h1:i <= j) (h2:j < s.size) (h3:zCm s i j) (h4:cls (bt s j) ≠ 1) (h5:zBF xs s j n k) :
  zGL xs s (j + n) (acc ++ [⟨(k:Int),s.extract i j,s.extract j (j + n)⟩]):=by
 refine ⟨?_,fun out ho=>?_⟩
 ·have:=h.1
  have:=h5.1
  simp
  omega
 ·rw [List.append_assoc]
  exact h.2 _ (Zd.tok h1 h2 h3 h4 h5 ho)
theorem zGL.done {xs:List OpR} {s:ByteArray} {i:Nat} {acc:List zK} (h:zGL xs s i acc) (h1:i <= s.size) (h3:zCm s i s.size):Zd xs s 0 (acc ++ [⟨7,s.extract i s.size,⟨#[]⟩⟩]):=
 h.2 _ (Zd.fin h1 h3)
end Go.Proofs.YtokabkhnidlcnacGreatDoor
namespace Go.Proofs.YtokabkhnidlcnacGreatDoor
set_option linter.unusedSimpArgs false
set_option maxHeartbeats 16000000
set_option maxRecDepth 100000
open Go.RowKit
def sgT (ns:List OpR) (ts:List zK) (i:Nat):SyR:=
 if (atT ts i).k = 3 then ((zN ns ts i).toNat + 2,(atT ts i).t)
 else if (atT ts i).k = 4 then (6,opn) else if (atT ts i).k = 5 then (7,zBh) else if (atT ts i).k = 7 then eoS else ((atT ts i).k.toNat,(atT ts i).t)
def sgs (ns:List OpR) (ts:List zK) (a n:Nat):List SyR:=(List.range' a n).map (sgT ns ts)
theorem Zt (ns:List OpR) (ts:List zK) (a n:Nat):(sgs ns ts a n).length = n:=by simp [sgs]
theorem zDD (ns:List OpR) (ts:List zK) (a n:Nat):sgs ns ts a (n + 1) = sgT ns ts a :: sgs ns ts (a + 1) n:=by
 simp [sgs,List.range'_succ]
theorem zEK (ns:List OpR) (ts:List zK) (a m n:Nat):sgs ns ts a (m + n) = sgs ns ts a m ++ sgs ns ts (a + m) n:=by
 induction m generalizing a with
 | zero=>simp [sgs]
 | succ m ih=>
  have e:m + 1 + n = (m + n) + 1:=by omega
  rw [e,zDD,zDD,ih]
  have e2:a + 1 + m = a + (m + 1):=by omega
  rw [e2]; rfl
theorem zDE (ns:List OpR) (ts:List zK) (a n:Nat):sgs ns ts a (n + 1) = sgs ns ts a n ++ [sgT ns ts (a + n)]:=by
 rw [zEK]; rfl
def zHb (ns:List OpR) (t:zK):Prop:=
 ((t.k = 1 \/ t.k = 2) /\ ¬ opT ns t.t /\ t.t ≠ opn) \/ (t.k = 3 /\ opT ns t.t /\ t.t ≠ opn) \/ (t.k = 4 /\ t.t = opn /\ ¬ opT ns t.t) \/ (t.k = 5 /\ t.t = zBh /\ ¬ opT ns t.t) \/ t.k = 6 \/ (t.k = 7 /\ t.t = ⟨#[]⟩ /\ ¬ opT ns t.t)
theorem zEo {t:ByteArray} {ns:List OpR} (hv:Z4 ns) (ho:opT ns t):cls (bt t 0) = 6 /\ 1 <= t.size:=by
 obtain ⟨j,hj,rfl⟩:=ho
 have:=hv j hj
 exact ⟨this.2.2 0 (by omega),this.1⟩
theorem zND {ns:List OpR} (hv:Z4 ns) {s:ByteArray} {i n k:Nat} (g:ByteArray) (h:zBF ns s i n k):zHb ns ⟨(k:Int),g,s.extract i (i + n)⟩:=by
 obtain ⟨h1,h2,h⟩:=h
 have hb:bt (sub s i n) 0 = bt s i:=by simpa using zCl (s:=s) (i:=i) (n:=n) (j:=0) h2 (by omega)
 have hsz:(sub s i n).size = n:=zAO h2
 have hno:cls (bt s i) ≠ 6 -> ¬ opT ns (sub s i n):=fun hc ho=>hc (by rw [<- hb]; exact (zEo hv ho).1)
 have hnp:cls (bt s i) ≠ 4 -> sub s i n ≠ opn:=fun hc e=>hc (by rw [<- hb,e]; decide)
 change zHb ns ⟨(k:Int),g,sub s i n⟩
 rcases h with ⟨c,rfl,_⟩ | ⟨c,rfl,_⟩ | ⟨c,rfl,rfl⟩ | ⟨c,rfl,rfl⟩ | ⟨c,⟨rfl,a,_⟩ | ⟨rfl,_⟩⟩ | ⟨c,rfl,_⟩
 ·exact Or.inl ⟨Or.inl rfl,hno (by omega),hnp (by omega)⟩
 ·exact Or.inl ⟨Or.inr rfl,hno (by omega),hnp (by omega)⟩
 ·refine Or.inr (Or.inr (Or.inl ⟨rfl,?_,hno (by omega)⟩))
  exact (zBE hsz).2 (by rw [hb]; exact (zDy _).1 c)
 ·refine Or.inr (Or.inr (Or.inr (Or.inl ⟨rfl,?_,hno (by omega)⟩)))
  exact (zBE hsz).2 (by rw [hb]; exact (zDO _).1 c)
 ·exact Or.inr (Or.inl ⟨rfl,a,hnp (by omega)⟩)
 ·exact Or.inr (Or.inr (Or.inr (Or.inr (Or.inl rfl))))
 ·exact Or.inr (Or.inr (Or.inr (Or.inr (Or.inl rfl))))
theorem zIB {ns:List OpR} (hv:Z4 ns) {s:ByteArray}:∀ (ts:List zK) (i:Nat),Zd ns s i ts -> ∀ j,j < ts.length -> zHb ns (atT ts j)
 | [],i,h,j,hj=>by simp at hj
 | t :: out,i,h,j,hj=>by
  rcases h with ⟨rfl,_,_,rfl⟩ | ⟨p,n,k,_,_,_,_,ht,rfl,hr⟩
  ·have:j = 0:=by simp at hj; omega
   subst this
   refine Or.inr (Or.inr (Or.inr (Or.inr (Or.inr ⟨rfl,rfl,fun ho=>?_⟩))))
   have h1:=(zEo hv ho).2
   simp [atT] at h1
   have h0:(⟨#[]⟩:ByteArray).size = 0:=rfl
   omega
  ·cases j with
   | zero=>exact zND hv _ ht
   | succ j=>exact zIB hv out _ hr j (by simpa using hj)
theorem zCs {ns:List OpR} {t:ByteArray} {q:Nat} {k:Int} (h:zZ ns t k = true) (hq:(q:Int) - 2 = k):knB ns (q,t) = true:=by
 unfold knB
 simp only [hq]
 cases hf:fnd ns t k with
 | some j=>rfl
 | none=>
  obtain ⟨j,hj,e1,e2⟩:=(ZD _ _ _).1 h
  exact absurd ⟨e1,e2⟩ (zJK hf hj)
theorem zGM (xs:List OpR) (last:Bool) (t:zK) (op:Nat):zn xs last t false op = if t.k = 1 \/ t.k = 2 \/ t.k = 4 then 0 else if t.k = 3 /\ zZ xs t.t 1 = true then 1 else -1:=by
 unfold zn; rw [if_pos rfl]
theorem zGN (xs:List OpR) (last:Bool) (t:zK) (op:Nat):zn xs last t true op = if t.k = 3 /\ zZ xs t.t 2 = true then 2 else if t.k = 3 /\ zZ xs t.t 3 = true then 3
  else if t.k = 5 /\ 0 < op then 0 else if t.k = 7 /\ op = 0 /\ last = true then 0 else -1:=by
 unfold zn; rw [if_neg (by decide)]
theorem zP5 {ns:List OpR} {ts:List zK} {i:Nat} (hl:i + 1 < ts.length) (hr:0 <= zN ns ts i) :
  auS ns (zBT ns ts i,zBM ts i) (sgT ns ts i) = some (zBT ns ts (i + 1),zBM ts (i + 1)):=by
 have hlast:decide (i + 1 = ts.length) = false:=by simp; omega
 simp only [zBT,zBM]
 unfold sgT
 unfold zN at hr ⊢
 rw [hlast] at hr ⊢
 generalize atT ts i = t at hr ⊢
 generalize zBM ts i = op at hr ⊢
 generalize zBT ns ts i = bh at hr ⊢
 cases bh
 ·rw [zGM] at hr ⊢
  by_cases k1:t.k = 1 \/ t.k = 2
  ·rw [if_neg (by omega),if_neg (by omega),if_neg (by omega),if_neg (by omega),zLN (by rcases k1 with e | e <;> simp [e])]
   simp only [zBm,zBS,if_true,if_pos k1]
   rw [if_neg (by omega),if_neg (by omega)]
  ·by_cases k4:t.k = 4
   ·rw [if_neg (by omega),if_pos k4,zLO]
    simp [zBm,zBS,k4]
   ·rw [if_neg (by omega)] at hr
    by_cases c:t.k = 3 /\ zZ ns t.t 1 = true
    ·rw [if_pos c.1,if_neg (by omega),if_pos c,zNA (s:=((1:Int).toNat + 2,t.t)) rfl (zCs c.2 (by decide))]
     simp [zBm,zBS,c.1]
    ·rw [if_neg c] at hr; omega
 ·rw [zGN] at hr ⊢
  by_cases c2:t.k = 3 /\ zZ ns t.t 2 = true
  ·rw [if_pos c2.1,if_pos c2,zNB (s:=((2:Int).toNat + 2,t.t)) rfl (zCs c2.2 (by decide))]
   simp [zBm,zBS,c2.1,c2.2]
  ·rw [if_neg c2] at hr
   by_cases c3:t.k = 3 /\ zZ ns t.t 3 = true
   ·rw [if_pos c3.1,if_neg c2,if_pos c3,zLP (s:=((3:Int).toNat + 2,t.t)) rfl (zCs c3.2 (by decide))]
    simp only [zBm,zBS,Bool.true_eq_false,if_false,if_neg c2]
    rw [if_neg (by omega),if_neg (by omega)]
   ·rw [if_neg c3] at hr
    by_cases c5:t.k = 5 /\ 0 < op
    ·rw [if_neg (by omega),if_neg (by omega),if_pos c5.1]
     obtain ⟨m,rfl⟩:∃ m,op = m + 1:=⟨op - 1,by omega⟩
     rw [zJM]
     simp [zBm,zBS,c5.1]
    ·rw [if_neg c5] at hr
     simp at hr
theorem zIC {ns:List OpR} {ts:List zK}:∀ n,n < ts.length -> zAs ns ts n -> zAE ns (false,0) (sgs ns ts 0 n) = some (zBT ns ts n,zBM ts n)
 | 0,_,_=>rfl
 | n + 1,hn,hf=>by
  rw [zDE,zB5,zIC n (by omega) (fun i hi=>hf i (by omega))]
  simp only [Nat.zero_add,zAE]
  rw [zP5 (by omega) (hf n (by omega))]
theorem zID {ns:List OpR} {ts:List zK} (hf:zAs ns ts ts.length) (h0:0 < ts.length) (h7:(atT ts (ts.length - 1)).k = 7) :
  Seg ns (sgs ns ts 0 (ts.length - 1)) /\ sgs ns ts 0 ts.length = sgs ns ts 0 (ts.length - 1) ++ [eoS]:=by
 have hr:=hf (ts.length - 1) (by omega)
 have hb:zBT ns ts (ts.length - 1) = true /\ zBM ts (ts.length - 1) = 0:=by
  unfold zN zn at hr
  have hl:decide (ts.length - 1 + 1 = ts.length) = true:=by simp; omega
  rw [hl] at hr
  cases hb:zBT ns ts (ts.length - 1)
  ·rw [hb] at hr
   simp only [if_true] at hr
   rw [if_neg (by omega),if_neg (by omega)] at hr
   omega
  ·rw [hb] at hr
   simp only [Bool.true_eq_false,if_false] at hr
   rw [if_neg (by omega),if_neg (by omega),if_neg (by omega)] at hr
   by_cases c:(atT ts (ts.length - 1)).k = 7 /\ zBM ts (ts.length - 1) = 0 /\ True
   ·exact ⟨rfl,c.2.1⟩
   ·rw [if_neg c] at hr; omega
 refine ⟨?_,?_⟩
 ·unfold Seg
  rw [zIC _ (by omega) (fun i hi=>hf i (by omega)),hb.1,hb.2]
 ·have e:ts.length = ts.length - 1 + 1:=by omega
  have:=zDE ns ts 0 (ts.length - 1)
  rw [<- e] at this
  rw [this]
  have e2:sgT ns ts (0 + (ts.length - 1)) = eoS:=by
   rw [Nat.zero_add]
   unfold sgT
   rw [if_neg (by omega),if_neg (by omega),if_neg (by omega),if_pos h7]
  rw [e2]
theorem zLy {ns:List OpR} {ts:List zK} {i:Nat} (hr:0 <= zN ns ts i) (hb:zBT ns ts i = false) (ht:zHb ns (atT ts i)) :
  (((atT ts i).k = 1 \/ (atT ts i).k = 2) /\ ¬ opT ns (atT ts i).t /\ (atT ts i).t ≠ opn /\ sgT ns ts i = ((atT ts i).k.toNat,(atT ts i).t)) \/
  ((atT ts i).k = 3 /\ zZ ns (atT ts i).t 1 = true /\ (atT ts i).t ≠ opn /\ sgT ns ts i = (3,(atT ts i).t)) \/
  ((atT ts i).k = 4 /\ (atT ts i).t = opn /\ sgT ns ts i = (6,opn)):=by
 unfold sgT
 unfold zN at hr ⊢
 rw [hb,zGM] at hr ⊢
 by_cases k:(atT ts i).k = 1 \/ (atT ts i).k = 2 \/ (atT ts i).k = 4
 ·rcases ht with ⟨a,b,c⟩ | ⟨a,b,c⟩ | ⟨a,b,c⟩ | ⟨a,b,c⟩ | a | ⟨a,b,c⟩
  ·refine Or.inl ⟨a,b,c,?_⟩
   rw [if_neg (by omega),if_neg (by omega),if_neg (by omega),if_neg (by omega)]
  ·omega
  ·refine Or.inr (Or.inr ⟨a,b,?_⟩)
   rw [if_neg (by omega),if_pos a]
  ·omega
  ·omega
  ·omega
 ·rw [if_neg k] at hr ⊢
  by_cases c:(atT ts i).k = 3 /\ zZ ns (atT ts i).t 1 = true
  ·rw [if_pos c.1,if_pos c]
   refine Or.inr (Or.inl ⟨c.1,c.2,?_,rfl⟩)
   rcases ht with ⟨a,b,c'⟩ | ⟨a,b,c'⟩ | ⟨a,b,c'⟩ | ⟨a,b,c'⟩ | a | ⟨a,b,c'⟩
   ·exact c'
   ·exact c'
   all_goals omega
  ·rw [if_neg c] at hr; omega
theorem zKP {ns:List OpR} {ts:List zK} {i:Nat} (hr:0 <= zN ns ts i) (hb:zBT ns ts i = true) (ht:zHb ns (atT ts i)) :
  ((atT ts i).k = 3 /\ zZ ns (atT ts i).t 2 = true /\ sgT ns ts i = (4,(atT ts i).t)) \/
  ((atT ts i).k = 3 /\ zZ ns (atT ts i).t 3 = true /\ sgT ns ts i = (5,(atT ts i).t)) \/
  (¬ opT ns (atT ts i).t /\ (sgT ns ts i).1 ≠ 4 /\ (sgT ns ts i).1 ≠ 5):=by
 unfold sgT
 unfold zN at hr ⊢
 rw [hb,zGN] at hr ⊢
 by_cases c2:(atT ts i).k = 3 /\ zZ ns (atT ts i).t 2 = true
 ·rw [if_pos c2.1,if_pos c2]
  exact Or.inl ⟨c2.1,c2.2,rfl⟩
 ·rw [if_neg c2] at hr ⊢
  by_cases c3:(atT ts i).k = 3 /\ zZ ns (atT ts i).t 3 = true
  ·rw [if_pos c3.1,if_pos c3]
   exact Or.inr (Or.inl ⟨c3.1,c3.2,rfl⟩)
  ·rw [if_neg c3] at hr
   have k57:(atT ts i).k = 5 \/ (atT ts i).k = 7:=by
    by_cases c5:(atT ts i).k = 5 /\ 0 < zBM ts i
    ·exact Or.inl c5.1
    ·rw [if_neg c5] at hr
     by_cases c7:(atT ts i).k = 7 /\ zBM ts i = 0 /\ decide (i + 1 = ts.length) = true
     ·exact Or.inr c7.1
     ·rw [if_neg c7] at hr; omega
   have hno:¬ opT ns (atT ts i).t:=by
    rcases ht with ⟨a,b,c'⟩ | ⟨a,b,c'⟩ | ⟨a,b,c'⟩ | ⟨a,b,c'⟩ | a | ⟨a,b,c'⟩
    ·exact b
    ·omega
    ·exact c'
    ·exact c'
    ·omega
    ·exact c'
   refine Or.inr (Or.inr ⟨hno,?_⟩)
   rw [if_neg (by omega),if_neg (by omega)]
   by_cases k5:(atT ts i).k = 5
   ·rw [if_pos k5]; exact ⟨by decide,by decide⟩
   ·rw [if_neg k5,if_pos (by omega)]; exact ⟨by decide,by decide⟩
end Go.Proofs.YtokabkhnidlcnacGreatDoor
namespace Go.Proofs.YtokabkhnidlcnacGreatDoor
set_option maxHeartbeats 16000000
set_option maxRecDepth 100000
open Go.RowKit
end Go.Proofs.YtokabkhnidlcnacGreatDoor
namespace Go.Proofs.YtokabkhnidlcnacGreatDoor
set_option linter.unusedSimpArgs false
set_option linter.unusedVariables false
set_option maxHeartbeats 16000000
set_option maxRecDepth 100000
open Go.RowKit
def zFK (e:Value) (l:Int):Prop:=∃ T v f r,e = .iface T v /\ (∀ w,(method 457 T v "loop.example/s0059/impl.level").run Tryz.prog w = .ok (f,r) w) /\ (∀ a w,(callFunc f a).run Tryz.prog w = .ok (.enter f a) w) /\
 ∀ w,Calls Tryz.prog f #[r] w fun x w'=>x = .returned (.int .i64 l) /\ Below w.heap.size w w'
theorem zCt (w:World):Calls Tryz.prog 278 #[.agg #[]] w fun x w'=>x = .returned (.int .i64 1001) /\ Below w.heap.size w w':=by
 go_enter Tryz.func278,Tryz.ntmps278
 go_wp2_with fail
 go_ret
 exact ⟨rfl,by first | exact zC _ _ | exact Below.refl _ _⟩
theorem zBp (p:OpR) (w:World):Calls Tryz.prog 281 #[.agg #[.string p.s,.int .i64 p.k,.int .i64 p.l,.int .i64 p.sd]] w fun x w'=>x = .returned (.int .i64 p.l) /\ Below w.heap.size w w':=by
 go_enter Tryz.func281,Tryz.ntmps281
 go_wp2_with fail
 go_ret
 exact ⟨rfl,by first | exact zC _ _ | exact Below.refl _ _⟩
theorem zOf (t:ByteArray):zFK (zOZ t) 1001:=⟨_,_,278,.agg #[],rfl,fun w=>by kernel_rfl,fun a w=>by kernel_rfl,zCt⟩
theorem zNE (t:ByteArray):zFK (zLL t) 1001:=⟨_,_,278,.agg #[],rfl,fun w=>by kernel_rfl,fun a w=>by kernel_rfl,zCt⟩
theorem zOg (e:Value):zFK (zM8 e) 1001:=⟨_,_,278,.agg #[],rfl,fun w=>by kernel_rfl,fun a w=>by kernel_rfl,zCt⟩
theorem zOh (p:OpR) (e:Value):zFK (zLw p e) p.l:=⟨_,_,281,.agg #[.string p.s,.int .i64 p.k,.int .i64 p.l,.int .i64 p.sd],rfl,fun w=>by kernel_rfl,fun a w=>by kernel_rfl,zBp p⟩
theorem zNF (p:OpR) (e:Value):zFK (zGF p e) p.l:=⟨_,_,281,.agg #[.string p.s,.int .i64 p.k,.int .i64 p.l,.int .i64 p.sd],rfl,fun w=>by kernel_rfl,fun a w=>by kernel_rfl,zBp p⟩
theorem zOi (p:OpR) (e e':Value):zFK (zJL p e e') p.l:=⟨_,_,281,.agg #[.string p.s,.int .i64 p.k,.int .i64 p.l,.int .i64 p.sd],rfl,fun w=>by kernel_rfl,fun a w=>by kernel_rfl,zBp p⟩
theorem zLz (p:OpR) (o:zD) (e e':Value):∃ T v,exN p o e e' = .iface T v:=by
 unfold exN
 split
 ·exact ⟨_,_,rfl⟩
 ·split
  ·exact ⟨_,_,rfl⟩
  ·split
   ·exact ⟨_,_,rfl⟩
   ·split
    ·exact ⟨_,_,rfl⟩
    ·split
     ·exact ⟨_,_,rfl⟩
     ·exact ⟨_,_,rfl⟩
end Go.Proofs.YtokabkhnidlcnacGreatDoor
namespace Go.Proofs.YtokabkhnidlcnacGreatDoor
set_option maxHeartbeats 16000000
set_option maxRecDepth 100000
open Go.RowKit
def zV (zs:List zD):List Value:=zs.flatMap fun o=>[.int .i64 o.k,.string o.t,.int .i64 o.a,.int .i64 o.b]
theorem zz (xs ys:List zD):zV (xs ++ ys) = zV xs ++ zV ys:=by simp [zV]
theorem zGO:∀ zs:List zD,(zV zs).length = zs.length * 4
 | []=>rfl
 | o :: r=>by
  have:=zGO r
  simp only [zV,List.flatMap_cons,List.length_append,List.length_cons,List.length_nil] at *
  omega
theorem zHc:∀ (zs:List zD) (i:Nat),i < zs.length -> (zV zs)[i * 4]? = some (.int .i64 (atN zs i).k) /\ (zV zs)[i * 4 + 1]? = some (.string (atN zs i).t) /\ (zV zs)[i * 4 + 2]? = some (.int .i64 (atN zs i).a) /\ (zV zs)[i * 4 + 3]? = some (.int .i64 (atN zs i).b)
 | [],i,h=>absurd h (Nat.not_lt_zero i)
 | o :: r,0,_=>⟨rfl,rfl,rfl,rfl⟩
 | o :: r,i + 1,h=>by
  have ih:=zHc r i (by simpa using h)
  have e:∀ j,(zV (o :: r))[(i + 1) * 4 + j]? = (zV r)[i * 4 + j]?:=fun j=>by
   have:(i + 1) * 4 + j = (i * 4 + j) + 4:=by omega
   rw [this]
   rfl
  exact ⟨(e 0).trans ih.1,(e 1).trans ih.2.1,(e 2).trans ih.2.2.1,(e 3).trans ih.2.2.2⟩
theorem ZV (zs:List zD):∀ u ∈ zV zs,u.oneCell' = true:=by
 intro u hu
 simp only [zV,List.mem_flatMap] at hu
 obtain ⟨o,_,ho⟩:=hu
 simp at ho
 rcases ho with rfl | rfl | rfl | rfl <;> rfl
theorem zIE {w:World} {base g cap:Nat} {e:TypeId} {zs:List zD} (h:w.ownsRow base e 4 (.slice (some ⟨g,0,none⟩) zs.length cap) zs.length (zV zs)):base <= g /\ zh w g zs zs.length:=by
 have hlt:=h.lt g rfl
 refine ⟨hlt.1,hlt.2,fun j hj=>⟨?_,h.frozenAt _⟩,fun i hi=>?_⟩
 ·rw [h.cellAt (0 + j) (by omega)]
  have:0 + j < (zV zs).length:=by rw [zGO]; omega
  rw [List.getElem?_eq_getElem this]
  rfl
 ·obtain ⟨c0,c1,c2,c3⟩:=zHc zs i hi
  have e:=fun j (hj:j < 4)=>h.cellAt (i * 4 + j) (by omega)
  exact ⟨by simpa using (e 0 (by omega)).trans c0,by simpa using (e 1 (by omega)).trans c1,by simpa using (e 2 (by omega)).trans c2,by simpa using (e 3 (by omega)).trans c3⟩
theorem zBY (w:World) (o:zD):∀ j u,(zV [o])[j]? = some u -> (w.alloc (.cells #[.int .i64 o.k,.string o.t,.int .i64 o.a,.int .i64 o.b] 123)).cell? ((⟨w.heap.size,0,none⟩:Addr).add j) = some u:=by
 intro j u hj
 rw [Addr.add_mid]
 have:=World.rangeAt_of_block (w:=w.alloc (.cells #[.int .i64 o.k,.string o.t,.int .i64 o.a,.int .i64 o.b] 123)) (b:=w.heap.size) (heap_alloc_new w _) 0 4
 exact this j u (by simpa [zV] using hj)
theorem zh.arg {w:World} {g:Nat} {us:List zD} (h:zh w g us us.length):zEl w (some ⟨g,0,none⟩) us:=Or.inr ⟨g,0,rfl,h.ops,h.1⟩
def zv (w:World) (n:Nat) (a:Option Addr) (us:List zD):Prop:=(us.length = 0 /\ a = none) \/ ∃ g,a = some ⟨g,0,none⟩ /\ n <= g /\ zh w g us us.length
theorem zv.arg {w:World} {n:Nat} {a:Option Addr} {us:List zD} (h:zv w n a us):zEl w a us:=by
 rcases h with ⟨h,_⟩ | ⟨g,rfl,_,hf⟩
 ·exact Or.inl h
 ·exact hf.arg
theorem zv.grown {w w':World} {n:Nat} {a:Option Addr} {us:List zD} {row:Option Nat} (h:zv w n a us) (hg:w.grownBy w' row) (hr:∀ k,row = some k -> k < n):zv w' n a us:=by
 rcases h with h | ⟨g,rfl,hn,hf⟩
 ·exact Or.inl h
 ·exact Or.inr ⟨g,rfl,hn,hf.grown hg (fun e=>by have:=hr g e.symm; omega)⟩
theorem zv.step {w w':World} {n:Nat} {a:Option Addr} {us:List zD} (h:zv w n a us) (hb:Below w.heap.size w w'):zv w' n a us:=
 h.grown (zF hb none) (fun k hk=>by cases hk)
theorem zv.lt {w:World} {n:Nat} {a:Option Addr} {us:List zD} (h:zv w n a us):∀ k,a.map (·.block) = some k -> n <= k /\ k < w.heap.size:=by
 rcases h with ⟨_,rfl⟩ | ⟨g,rfl,hn,hf⟩
 ·intro k hk; cases hk
 ·intro k hk; injection hk with hk; subst hk; exact ⟨hn,hf.1⟩
end Go.Proofs.YtokabkhnidlcnacGreatDoor
namespace Go.Proofs.YtokabkhnidlcnacGreatDoor
set_option linter.unusedSimpArgs false
set_option linter.unusedVariables false
set_option maxHeartbeats 16000000
set_option maxRecDepth 100000
open Go.RowKit
theorem ZZ {w:World} {B n:Nat} {e:TypeId} {u:Value} {xs:List Value} (h:w.ownsRow B e 4 u n xs):∃ a c,u = .slice a n c:=by
 obtain ⟨_,⟨rfl,rfl⟩ | ⟨g,cap,cur,rfl,_⟩⟩:=h
 ·exact ⟨none,0,rfl⟩
 ·exact ⟨_,_,rfl⟩
def ZI (w:World) (B:Nat) (u:Value) (us:List zD):Prop:=w.ownsRow B 123 4 u us.length (zV us)
theorem ZI.below {w w':World} {B:Nat} {u:Value} {us:List zD} (h:ZI w B u us) (hb:Below w.heap.size w w'):ZI w' B u us:=
 World.ownsRow.kept h (zF hb none) (by cases u.ownBlock with
 | none=>exact Or.inl rfl
 | some k=>exact Or.inr (by simp))
theorem ZI.lt {w:World} {B:Nat} {u:Value} {us:List zD} (h:ZI w B u us):∀ g,u.ownBlock = some g -> g < w.heap.size:=fun g hg=>(World.ownsRow.lt h g hg).2
def zFk (w:World) (B:Nat) (u:Value) (vs:List zD) (x:Ending) (w':World):Prop:=
 ∃ u',x = .returned u' /\ Hid (ZI w' B u' vs) /\ Hid (w.grownBy w' u.ownBlock) /\ Hid (u'.ownBlock = u.ownBlock \/ ∃ k,u'.ownBlock = some k /\ w.heap.size <= k)
def zCS (e:Value) (F:Nat -> List zD):Prop:=∃ T v f,e = .iface T v /\ (∀ w,(method 457 T v "loop.example/s0059/impl.appendTo").run Tryz.prog w = .ok (f,v) w) /\ (∀ a w,(callFunc f a).run Tryz.prog w = .ok (.enter f a) w) /\
 ∀ (B:Nat) (u:Value) (us vs:List zD) (w:World),ZI w B u us -> B <= w.heap.size -> us.length + (F us.length).length <= 100000 -> vs = us ++ F us.length -> Calls Tryz.prog f #[v,u] w (zFk w B u vs)
theorem zOj (t:ByteArray):zCS (zOZ t) (fun _=>[⟨1,t,0,0⟩]):=by
 refine ⟨_,_,287,rfl,fun w=>by kernel_rfl,fun a w=>by kernel_rfl,?_⟩
 intro B u us vs w hrow hB hlen hvs
 obtain ⟨i0,hi0,hz0,hz1,hz2⟩:∃ i,Tryz.prog.info? 123 = some i /\ i.zero = some (.agg #[.int .i64 0,.string ⟨#[]⟩,.int .i64 0,.int .i64 0]) /\ i.size = 4 /\ i.bytes = 40:=by
  obtain ⟨i,hi,hz⟩:=Option.map_eq_some_iff.1 zEC
  simp only [Prod.mk.injEq] at hz
  exact ⟨i,hi,hz.1,hz.2.1,hz.2.2⟩
 have HI:=zB hi0
 have HZ:=zB (And.intro hz0 (And.intro hz1 hz2))
 clear hi0 hz0 hz1 hz2
 obtain ⟨a,c,rfl⟩:=ZZ hrow
 have HR:=zB hrow
 have HV:=zB hvs
 simp only [List.length_cons,List.length_nil] at hlen
 clear hrow hvs
 go_enter Tryz.func287,Tryz.ntmps287
 go_wp2_with (at_builtin; refine wpList_append_own_at _ rfl (.tmp 5) (.tmp 10) 54 rfl B 123 i0 _ 4 40 Tryz.underlying54 (zA HI) (zA HZ).1 (zA HZ).2.1 (zA HZ).2.2 rfl (by decide) _ us.length (zV us) rfl (((zA HR).below (zC _ _)).below (zC _ _)) ⟨w.heap.size + 1,0,none⟩ 1 1 (zV [⟨1,t,0,0⟩]) rfl rfl (by simpa using zBY (w.alloc _) ⟨1,t,0,0⟩) (ZV _) ?b1 ?b2 ?b3 ?next)
 case b1=>unfold maxLen; omega
 case b2=>omega
 case b3=>first | omega | (simp; omega)
 case next=>
  intro v4 w4 hown4 hgrow4 hnil4 hat4
  have HO:=zB (show ZI w4 B v4 vs by
   rw [zA HV]
   unfold ZI
   rw [zz,List.length_append]
   exact hown4)
  have HG:=zB (zT ((zC _ _).alloc (by simp) _) hgrow4)
  have HA:=zB (show v4.ownBlock = (Value.slice a us.length c).ownBlock \/ ∃ k,v4.ownBlock = some k /\ w.heap.size <= k from hat4.imp id (fun h=>⟨_,h,by first | omega | (simp; omega)⟩))
  clear hown4 hgrow4 hnil4 hat4
  go_wp2_with fail
  go_ret
  exact ⟨v4,rfl,HO,HG,HA⟩
theorem zNG (t:ByteArray):zCS (zLL t) (fun _=>[⟨2,t,0,0⟩]):=by
 refine ⟨_,_,288,rfl,fun w=>by kernel_rfl,fun a w=>by kernel_rfl,?_⟩
 intro B u us vs w hrow hB hlen hvs
 obtain ⟨i0,hi0,hz0,hz1,hz2⟩:∃ i,Tryz.prog.info? 123 = some i /\ i.zero = some (.agg #[.int .i64 0,.string ⟨#[]⟩,.int .i64 0,.int .i64 0]) /\ i.size = 4 /\ i.bytes = 40:=by
  obtain ⟨i,hi,hz⟩:=Option.map_eq_some_iff.1 zEC
  simp only [Prod.mk.injEq] at hz
  exact ⟨i,hi,hz.1,hz.2.1,hz.2.2⟩
 have HI:=zB hi0
 have HZ:=zB (And.intro hz0 (And.intro hz1 hz2))
 clear hi0 hz0 hz1 hz2
 obtain ⟨a,c,rfl⟩:=ZZ hrow
 have HR:=zB hrow
 have HV:=zB hvs
 simp only [List.length_cons,List.length_nil] at hlen
 clear hrow hvs
 go_enter Tryz.func288,Tryz.ntmps288
 go_wp2_with (at_builtin; refine wpList_append_own_at _ rfl (.tmp 5) (.tmp 10) 54 rfl B 123 i0 _ 4 40 Tryz.underlying54 (zA HI) (zA HZ).1 (zA HZ).2.1 (zA HZ).2.2 rfl (by decide) _ us.length (zV us) rfl (((zA HR).below (zC _ _)).below (zC _ _)) ⟨w.heap.size + 1,0,none⟩ 1 1 (zV [⟨2,t,0,0⟩]) rfl rfl (by simpa using zBY (w.alloc _) ⟨2,t,0,0⟩) (ZV _) ?b1 ?b2 ?b3 ?next)
 case b1=>unfold maxLen; omega
 case b2=>omega
 case b3=>first | omega | (simp; omega)
 case next=>
  intro v4 w4 hown4 hgrow4 hnil4 hat4
  have HO:=zB (show ZI w4 B v4 vs by
   rw [zA HV]
   unfold ZI
   rw [zz,List.length_append]
   exact hown4)
  have HG:=zB (zT ((zC _ _).alloc (by simp) _) hgrow4)
  have HA:=zB (show v4.ownBlock = (Value.slice a us.length c).ownBlock \/ ∃ k,v4.ownBlock = some k /\ w.heap.size <= k from hat4.imp id (fun h=>⟨_,h,by first | omega | (simp; omega)⟩))
  clear hown4 hgrow4 hnil4 hat4
  go_wp2_with fail
  go_ret
  exact ⟨v4,rfl,HO,HG,HA⟩
def zCT (F:Nat -> List zD) (k:Int) (t:ByteArray) (s:Nat):List zD:=F s ++ [⟨k,t,((s + (F s).length:Nat):Int) - 1,0⟩]
theorem zBq {e:Value} {F:Nat -> List zD} (h:zCS e F) (k:Int) (t:ByteArray) (B:Nat) (u:Value) (us vs:List zD) (w:World) (hrow:ZI w B u us) (hB:B <= w.heap.size) (hlen:us.length + (zCT F k t us.length).length <= 100000) (hvs:vs = us ++ zCT F k t us.length) :
  Calls Tryz.prog 280 #[.agg #[e],u,.int .i64 k,.string t] w (zFk w B u vs):=by
 obtain ⟨i0,hi0,hz0,hz1,hz2⟩:∃ i,Tryz.prog.info? 123 = some i /\ i.zero = some (.agg #[.int .i64 0,.string ⟨#[]⟩,.int .i64 0,.int .i64 0]) /\ i.size = 4 /\ i.bytes = 40:=by
  obtain ⟨i,hi,hz⟩:=Option.map_eq_some_iff.1 zEC
  simp only [Prod.mk.injEq] at hz
  exact ⟨i,hi,hz.1,hz.2.1,hz.2.2⟩
 have HI:=zB hi0
 have HZ:=zB (And.intro hz0 (And.intro hz1 hz2))
 clear hi0 hz0 hz1 hz2
 obtain ⟨T,v,f,rfl,hm,hcf,hcall⟩:=h
 have HC:=zB hcall
 obtain ⟨a,c,rfl⟩:=ZZ hrow
 have HR:=zB hrow
 obtain ⟨us1,HU1⟩:∃ us1,Hid (us1 = us ++ F us.length):=⟨_,zB rfl⟩
 have hl1:us1.length = us.length + (F us.length).length:=by rw [zA HU1,List.length_append]
 have hlen1:us1.length + 1 <= 100000:=by
  simp only [zCT,List.length_append,List.length_cons,List.length_nil] at hlen
  omega
 have HL0:=zB (show us.length + (F us.length).length <= 100000 by omega)
 have HV:=zB (show vs = us1 ++ [⟨k,t,(us1.length:Int) - 1,0⟩] by
  rw [hvs,zA HU1,zCT,List.length_append,List.append_assoc])
 clear hcall hrow hvs hlen hl1
 go_enter Tryz.func280,Tryz.ntmps280
 go_wp2_with fail
 refine ((zA HC) B _ us us1 _ ((zA HR).below (zC _ _)) (by simp; omega) (zA HL0) (zA HU1)).mono ?_
 rintro x w1 ⟨u1,rfl,hr1,hg1,ho1⟩
 obtain ⟨a1,c1,rfl⟩:=ZZ (zA hr1)
 have HG1:=zB (zT (zC _ _) (zA hg1))
 have HA1:=zB (show (Value.slice a1 us1.length c1).ownBlock = (Value.slice a us.length c).ownBlock \/ ∃ k,(Value.slice a1 us1.length c1).ownBlock = some k /\ w.heap.size <= k from (zA ho1).imp id (fun ⟨k,h1,h2⟩=>⟨k,h1,by simp at h2; omega⟩))
 have hz:=(zA HG1).size
 clear hg1 ho1 hm hcf
 go_wp2_with (at_builtin; refine wpList_append_own_at _ rfl (.tmp 13) (.tmp 20) 54 rfl B 123 i0 _ 4 40 Tryz.underlying54 (zA HI) (zA HZ).1 (zA HZ).2.1 (zA HZ).2.2 rfl (by decide) _ us1.length (zV us1) rfl ((zA hr1).below (zC _ _)) ⟨w1.heap.size,0,none⟩ 1 1 (zV [⟨k,t,(us1.length:Int) - 1,0⟩]) rfl rfl (by simpa using zBY w1 ⟨k,t,(us1.length:Int) - 1,0⟩) (ZV _) ?b1 ?b2 ?b3 ?next)
 case b1=>unfold maxLen; omega
 case b2=>omega
 case b3=>first | omega | (simp; omega)
 case next=>
  intro v4 w4 hown4 hgrow4 hnil4 hat4
  have HO:=zB (show ZI w4 B v4 vs by
   rw [zA HV]
   unfold ZI
   rw [zz,List.length_append]
   exact hown4)
  have HG2:=zB (zT (zC _ _) hgrow4)
  have HG:=zB (zl (zA HG1) (zA HG2) (zA HA1))
  have HA:=zB (zBA (zA HG1) (zA HA1) v4.ownBlock (hat4.imp id (fun h=>⟨_,h,by first | omega | simp⟩)))
  clear hown4 hgrow4 hnil4 hat4 HG1 HG2 HA1
  go_wp2_with fail
  go_ret
  exact ⟨v4,rfl,HO,HG,HA⟩
theorem zIF {w w1:World} {B:Nat} {u:Value} {vs:List zD} (h:Below w.heap.size w w1) {x:Ending} {w':World} (hp:zFk w1 B u vs x w'):zFk w B u vs x w':=by
 obtain ⟨u',rfl,hr,hg,ho⟩:=hp
 have:=h.size
 exact ⟨u',rfl,hr,zB (zT h (zA hg)),zB ((zA ho).imp id (fun ⟨k,h1,h2⟩=>⟨k,h1,by omega⟩))⟩
theorem zOk {e:Value} {F:Nat -> List zD} (h:zCS e F):zCS (zM8 e) (zCT F 6 ByteArray.empty):=by
 refine ⟨_,_,279,rfl,fun w=>by kernel_rfl,fun a w=>by kernel_rfl,?_⟩
 intro B u us vs w hrow hB hlen hvs
 have HH:=zB h
 obtain ⟨T,v,f,rfl,hm,hcf,hcall⟩:=h
 have HR:=zB hrow
 have HV:=zB hvs
 clear hcall hrow hvs hm hcf
 go_enter Tryz.func279,Tryz.ntmps279
 go_wp2_with fail
 refine (zBq (zA HH) 6 ByteArray.empty B _ us vs _ ((zA HR).below (zC _ _)) (by simp; omega) hlen (zA HV)).mono ?_
 intro x w1 hp
 obtain ⟨u',rfl,hr,hg,ho⟩:=zIF (zC _ _) hp
 go_wp2_with fail
 go_ret
 exact ⟨u',rfl,hr,hg,ho⟩
theorem zOl {e:Value} {F:Nat -> List zD} (h:zCS e F) (p:OpR):zCS (zLw p e) (zCT F 3 p.s):=by
 refine ⟨_,_,282,rfl,fun w=>by kernel_rfl,fun a w=>by kernel_rfl,?_⟩
 intro B u us vs w hrow hB hlen hvs
 have HH:=zB h
 obtain ⟨T,v,f,rfl,hm,hcf,hcall⟩:=h
 have HR:=zB hrow
 have HV:=zB hvs
 clear hcall hrow hvs hm hcf
 go_enter Tryz.func282,Tryz.ntmps282
 go_wp2_with fail
 refine (zBq (zA HH) 3 p.s B _ us vs _ ((zA HR).below (zC _ _)) (by simp; omega) hlen (zA HV)).mono ?_
 intro x w1 hp
 obtain ⟨u',rfl,hr,hg,ho⟩:=zIF (zC _ _) hp
 go_wp2_with fail
 go_ret
 exact ⟨u',rfl,hr,hg,ho⟩
theorem zNH {e:Value} {F:Nat -> List zD} (h:zCS e F) (p:OpR):zCS (zGF p e) (zCT F 5 p.s):=by
 refine ⟨_,_,285,rfl,fun w=>by kernel_rfl,fun a w=>by kernel_rfl,?_⟩
 intro B u us vs w hrow hB hlen hvs
 have HH:=zB h
 obtain ⟨T,v,f,rfl,hm,hcf,hcall⟩:=h
 have HR:=zB hrow
 have HV:=zB hvs
 clear hcall hrow hvs hm hcf
 go_enter Tryz.func285,Tryz.ntmps285
 go_wp2_with fail
 refine (zBq (zA HH) 5 p.s B _ us vs _ ((zA HR).below (zC _ _)) (by simp; omega) hlen (zA HV)).mono ?_
 intro x w1 hp
 obtain ⟨u',rfl,hr,hg,ho⟩:=zIF (zC _ _) hp
 go_wp2_with fail
 go_ret
 exact ⟨u',rfl,hr,hg,ho⟩
def zJT (F G:Nat -> List zD) (t:ByteArray) (s:Nat):List zD:=(F s ++ G (s + (F s).length)) ++ [⟨4,t,((s + (F s).length:Nat):Int) - 1,((s + (F s).length + (G (s + (F s).length)).length:Nat):Int) - 1⟩]
theorem zOm {e e':Value} {F G:Nat -> List zD} (h:zCS e F) (h':zCS e' G) (p:OpR):zCS (zJL p e e') (zJT F G p.s):=by
 refine ⟨_,_,283,rfl,fun w=>by kernel_rfl,fun a w=>by kernel_rfl,?_⟩
 intro B u us vs w hrow hB hlen hvs
 obtain ⟨i0,hi0,hz0,hz1,hz2⟩:∃ i,Tryz.prog.info? 123 = some i /\ i.zero = some (.agg #[.int .i64 0,.string ⟨#[]⟩,.int .i64 0,.int .i64 0]) /\ i.size = 4 /\ i.bytes = 40:=by
  obtain ⟨i,hi,hz⟩:=Option.map_eq_some_iff.1 zEC
  simp only [Prod.mk.injEq] at hz
  exact ⟨i,hi,hz.1,hz.2.1,hz.2.2⟩
 have HI:=zB hi0
 have HZ:=zB (And.intro hz0 (And.intro hz1 hz2))
 clear hi0 hz0 hz1 hz2
 obtain ⟨T,v,f,rfl,hm,hcf,hcall⟩:=h
 obtain ⟨T',v',f',rfl,hm',hcf',hcall'⟩:=h'
 have HC:=zB hcall
 have HC':=zB hcall'
 obtain ⟨a,c,rfl⟩:=ZZ hrow
 have HR:=zB hrow
 obtain ⟨us1,HU1⟩:∃ us1,Hid (us1 = us ++ F us.length):=⟨_,zB rfl⟩
 have hl1:us1.length = us.length + (F us.length).length:=by rw [zA HU1,List.length_append]
 obtain ⟨us2,HU2⟩:∃ us2,Hid (us2 = us1 ++ G us1.length):=⟨_,zB rfl⟩
 have hl2:us2.length = us1.length + (G us1.length).length:=by rw [zA HU2,List.length_append]
 have hlen1:us2.length + 1 <= 100000:=by
  simp only [zJT,List.length_append,List.length_cons,List.length_nil,<- hl1] at hlen
  omega
 have HL0:=zB (show us.length + (F us.length).length <= 100000 by omega)
 have HL1:=zB (show us1.length + (G us1.length).length <= 100000 by omega)
 have hlen2:us1.length <= 100000:=by omega
 have HV:=zB (show vs = us2 ++ [⟨4,p.s,(us1.length:Int) - 1,(us2.length:Int) - 1⟩] by
  have e:us2 = us ++ (F us.length ++ G us1.length):=(zA HU2).trans ((congrArg (· ++ G us1.length) (zA HU1)).trans (List.append_assoc _ _ _))
  rw [hvs]
  unfold zJT
  rw [<- hl1,<- hl2,<- List.append_assoc,<- e])
 clear hcall hrow hvs hlen hcall' hl1 hl2
 go_enter Tryz.func283,Tryz.ntmps283
 go_wp2_with fail
 refine ((zA HC) B _ us us1 _ ((zA HR).below (zC _ _)) (by simp; omega) (zA HL0) (zA HU1)).mono ?_
 rintro x w1 ⟨u1,rfl,hr1,hg1,ho1⟩
 obtain ⟨a1,c1,rfl⟩:=ZZ (zA hr1)
 have hnb:(Value.slice a us.length c).ownBlock ≠ some w.heap.size:=fun e=>by have:=(zA HR).lt _ e; omega
 have q0:w1.cell? ⟨w.heap.size,0,none⟩ = some (.string p.s):=(zE (zA hg1) (b:=w.heap.size) (by simp) hnb 0).trans (by simp [go_sem])
 have q5:w1.cell? ⟨w.heap.size,5,none⟩ = some (.iface T' v'):=(zE (zA hg1) (b:=w.heap.size) (by simp) hnb 5).trans (by simp [go_sem])
 have HG1:=zB (zT (zC _ _) (zA hg1))
 have HA0:=zB (zA ho1)
 have HA1:=zB (show (Value.slice a1 us1.length c1).ownBlock = (Value.slice a us.length c).ownBlock \/ ∃ k,(Value.slice a1 us1.length c1).ownBlock = some k /\ w.heap.size <= k from (zA ho1).imp id (fun ⟨k,h1,h2⟩=>⟨k,h1,by simp at h2; omega⟩))
 have hz:=(zA HG1).size
 have hz1:w.heap.size + 1 <= w1.heap.size:=by have:=(zA hg1).size; simp at this; omega
 have hnb1:(Value.slice a1 us1.length c1).ownBlock ≠ some w.heap.size:=fun e=>by
  rcases zA HA0 with h | ⟨k,h1,h2⟩
  ·exact hnb (h.symm.trans e)
  ·rw [h1] at e; injection e with e; simp at h2; omega
 clear hg1 ho1 hm hcf HA0
 go_wp2_with fail
 refine ((zA HC') B _ us1 us2 _ (zA hr1) (by omega) (zA HL1) (zA HU2)).mono ?_
 rintro x w2 ⟨u2,rfl,hr2,hg2,ho2⟩
 obtain ⟨a2,c2,rfl⟩:=ZZ (zA hr2)
 have r0:w2.cell? ⟨w.heap.size,0,none⟩ = some (.string p.s):=(zE (zA hg2) (b:=w.heap.size) (by omega) hnb1 0).trans q0
 have HG2:=zB (zl (zA HG1) (zA hg2) (zA HA1))
 have HA2:=zB (zBA (zA HG1) (zA HA1) _ (zA ho2))
 have hz2:=(zA HG2).size
 clear hg2 ho2 hm' hcf' HG1 HA1 q0 q5 hr1
 go_wp2_with (at_builtin; refine wpList_append_own_at _ rfl (.tmp 17) (.tmp 27) 54 rfl B 123 i0 _ 4 40 Tryz.underlying54 (zA HI) (zA HZ).1 (zA HZ).2.1 (zA HZ).2.2 rfl (by decide) _ us2.length (zV us2) rfl ((zA hr2).below (zC _ _)) ⟨w2.heap.size,0,none⟩ 1 1 (zV [⟨4,p.s,(us1.length:Int) - 1,(us2.length:Int) - 1⟩]) rfl rfl (by simpa using zBY w2 ⟨4,p.s,(us1.length:Int) - 1,(us2.length:Int) - 1⟩) (ZV _) ?b1 ?b2 ?b3 ?next)
 case b1=>unfold maxLen; omega
 case b2=>omega
 case b3=>first | omega | (simp; omega)
 case next=>
  intro v4 w4 hown4 hgrow4 hnil4 hat4
  have HO:=zB (show ZI w4 B v4 vs by
   rw [zA HV]
   unfold ZI
   rw [zz,List.length_append]
   exact hown4)
  have HG3:=zB (zT (zC _ _) hgrow4)
  have HG:=zB (zl (zA HG2) (zA HG3) (zA HA2))
  have HA:=zB (zBA (zA HG2) (zA HA2) v4.ownBlock (hat4.imp id (fun h=>⟨_,h,by first | omega | simp⟩)))
  clear hown4 hgrow4 hnil4 hat4 HG2 HG3 HA2
  go_wp2_with fail
  go_ret
  exact ⟨v4,rfl,HO,HG,HA⟩
end Go.Proofs.YtokabkhnidlcnacGreatDoor
