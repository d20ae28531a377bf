import Derived.OwnWalk
import Derived.Laws.OwnMore
import Derived.Maps.OwnSet
import Derived.DeepKeys4
import Derived.Test.YtfboipappaonhaaGreatV00
import Derived.Test.YtfboipappaonhaaGreatV06
import Derived.Test.YtfboipappaonhaaGreatV13
import Derived.Test.YtfboipappaonhaaGreatV14
import Derived.Test.YtfboipappaonhaaGreatV23
namespace Go.Proofs.YtfboipappaonhaaGreat
set_option maxHeartbeats 16000000
set_option maxRecDepth 100000
open Go.RowKit
def zj (zs:List zN):List Value:=zs.flatMap fun o=>[.int .i64 o.k,.string o.g,.string o.t]
theorem zCZ (xs ys:List zN):zj (xs ++ ys) = zj xs ++ zj ys:=by simp [zj]
theorem zEY:∀ zs:List zN,(zj zs).length = zs.length * 3
 | []=>rfl
 | o :: r=>by
  have:=zEY r
  simp only [zj,List.flatMap_cons,List.length_append,List.length_cons,List.length_nil] at *
  omega
theorem zFX:∀ (zs:List zN) (i:Nat),i < zs.length -> (zj zs)[i * 3]? = some (.int .i64 (atT zs i).k) /\ (zj zs)[i * 3 + 1]? = some (.string (atT zs i).g) /\ (zj zs)[i * 3 + 2]? = some (.string (atT zs i).t)
 | [],i,h=>absurd h (Nat.not_lt_zero i)
 | o :: r,0,_=>⟨rfl,rfl,rfl⟩
 | o :: r,i + 1,h=>by
  have ih:=zFX r i (by simpa using h)
  have e:∀ j,(zj (o :: r))[(i + 1) * 3 + j]? = (zj r)[i * 3 + j]?:=fun j=>by
   have:(i + 1) * 3 + j = (i * 3 + j) + 3:=by omega
   rw [this]
   rfl
  exact ⟨(e 0).trans ih.1,(e 1).trans ih.2.1,(e 2).trans ih.2.2⟩
theorem zDh (zs:List zN):∀ u ∈ zj zs,u.oneCell' = true:=by
 intro u hu
 simp only [zj,List.mem_flatMap] at hu
 obtain ⟨o,_,ho⟩:=hu
 simp at ho
 rcases ho with rfl | rfl | rfl <;> rfl
theorem zHD {w:World} {base g cap:Nat} {e:TypeId} {zs:List zN} (h:w.ownsRow base e 3 (.slice (some ⟨g,0,none⟩) zs.length cap) zs.length (zj zs)):base <= g /\ zGr w g zs zs.length:=by
 have hlt:=h.lt g rfl
 refine ⟨hlt.1,hlt.2,fun j hj=>⟨?_,h.frozenAt _⟩,fun i hi=>?_⟩
 ·rw [h.cellAt (0 + j) (by omega)]
  have:0 + j < (zj zs).length:=by rw [zEY]; omega
  rw [List.getElem?_eq_getElem this]
  rfl
 ·obtain ⟨c0,c1,c2⟩:=zFX zs i hi
  have e:=fun j (hj:j < 3)=>h.cellAt (i * 3 + j) (by omega)
  exact ⟨by simpa using (e 0 (by omega)).trans c0,by simpa using (e 1 (by omega)).trans c1,by simpa using (e 2 (by omega)).trans c2⟩
theorem zGY (w:World) (o:zN):∀ j u,(zj [o])[j]? = some u -> (w.alloc (.cells #[.int .i64 o.k,.string o.g,.string o.t] 97)).cell? ((⟨w.heap.size,0,none⟩:Addr).add j) = some u:=by
 intro j u hj
 rw [Addr.add_mid]
 have:=World.rangeAt_of_block (w:=w.alloc (.cells #[.int .i64 o.k,.string o.g,.string o.t] 97)) (b:=w.heap.size) (heap_alloc_new w _) 0 3
 exact this j u (by simpa [zj] using hj)
def zHE (xs:List OpR) (s:ByteArray) (i:Nat) (acc:List zN):Prop:=acc.length <= i /\ ∀ out,ZD xs s i out -> ZD xs s 0 (acc ++ out)
theorem zHE.start (xs:List OpR) (s:ByteArray):zHE xs s 0 []:=⟨Nat.le_refl _,fun _ h=>h⟩
theorem zHE.step {xs:List OpR} {s:ByteArray} {i j n k:Nat} {acc:List zN} (h:zHE xs s i acc) (h1:i <= j) (h2:j < s.size) (h3:zC0 s i j) (h4:cls (bt s j) ≠ 1) (h5:zAc xs s j n k) :
  zHE xs s (j + n) (acc ++ [⟨(k:Int),s.extract i j,s.extract j (j + n)⟩]):=by
 refine ⟨?_,fun out ho=>?_⟩
 ·have:=h.1
  have:=h5.1
  simp
  omega
 ·rw [List.append_assoc]
  exact h.2 _ (ZD.tok h1 h2 h3 h4 h5 ho)
theorem zHE.done {xs:List OpR} {s:ByteArray} {i:Nat} {acc:List zN} (h:zHE xs s i acc) (h1:i <= s.size) (h3:zC0 s i s.size):ZD xs s 0 (acc ++ [⟨7,s.extract i s.size,⟨#[]⟩⟩]):=
 h.2 _ (ZD.fin h1 h3)
end Go.Proofs.YtfboipappaonhaaGreat
namespace Go.Proofs.YtfboipappaonhaaGreat
set_option linter.unusedSimpArgs false
set_option maxHeartbeats 16000000
set_option maxRecDepth 100000
open Go.RowKit
def sgT (ns:List OpR) (ts:List zN) (i:Nat):SyR:=
 if (atT ts i).k = 3 then ((zx ns ts i).toNat + 2,(atT ts i).t)
 else if (atT ts i).k = 4 then (6,opn) else if (atT ts i).k = 5 then (7,zA5) else if (atT ts i).k = 7 then eoS else ((atT ts i).k.toNat,(atT ts i).t)
def sgs (ns:List OpR) (ts:List zN) (a n:Nat):List SyR:=(List.range' a n).map (sgT ns ts)
theorem zBT (ns:List OpR) (ts:List zN) (a n:Nat):(sgs ns ts a n).length = n:=by simp [sgs]
theorem zFY (ns:List OpR) (ts:List zN) (a n:Nat):sgs ns ts a (n + 1) = sgT ns ts a :: sgs ns ts (a + 1) n:=by
 simp [sgs,List.range'_succ]
theorem zE0 (ns:List OpR) (ts:List zN) (a m n:Nat):sgs ns ts a (m + n) = sgs ns ts a m ++ sgs ns ts (a + m) n:=by
 induction m generalizing a with
 | zero=>simp [sgs]
 | succ m ih=>
  have e:m + 1 + n = (m + n) + 1:=by omega
  rw [e,zFY,zFY,ih]
  have e2:a + 1 + m = a + (m + 1):=by omega
  rw [e2]; rfl
theorem zDi (ns:List OpR) (ts:List zN) (a n:Nat):sgs ns ts a (n + 1) = sgs ns ts a n ++ [sgT ns ts (a + n)]:=by
 rw [zE0]; rfl
def zGZ (ns:List OpR) (t:zN):Prop:=
 ((t.k = 1 \/ t.k = 2) /\ ¬ opT ns t.t /\ t.t ≠ opn) \/ (t.k = 3 /\ opT ns t.t /\ t.t ≠ opn) \/ (t.k = 4 /\ t.t = opn /\ ¬ opT ns t.t) \/ (t.k = 5 /\ t.t = zA5 /\ ¬ opT ns t.t) \/ t.k = 6 \/ (t.k = 7 /\ t.t = ⟨#[]⟩ /\ ¬ opT ns t.t)
theorem zEI {t:ByteArray} {ns:List OpR} (hv:ZA ns) (ho:opT ns t):cls (bt t 0) = 6 /\ 1 <= t.size:=by
 obtain ⟨j,hj,rfl⟩:=ho
 have:=hv j hj
 exact ⟨this.2.2 0 (by omega),this.1⟩
theorem zLS {ns:List OpR} (hv:ZA ns) {s:ByteArray} {i n k:Nat} (g:ByteArray) (h:zAc ns s i n k):zGZ ns ⟨(k:Int),g,s.extract i (i + n)⟩:=by
 obtain ⟨h1,h2,h⟩:=h
 have hb:bt (sub s i n) 0 = bt s i:=by simpa using zKl (s:=s) (i:=i) (n:=n) (j:=0) h2 (by omega)
 have hsz:(sub s i n).size = n:=zDJ h2
 have hno:cls (bt s i) ≠ 6 -> ¬ opT ns (sub s i n):=fun hc ho=>hc (by rw [<- hb]; exact (zEI hv ho).1)
 have hnp:cls (bt s i) ≠ 4 -> sub s i n ≠ opn:=fun hc e=>hc (by rw [<- hb,e]; decide)
 change zGZ ns ⟨(k:Int),g,sub s i n⟩
 rcases h with ⟨c,rfl,_⟩ | ⟨c,rfl,_⟩ | ⟨c,rfl,rfl⟩ | ⟨c,rfl,rfl⟩ | ⟨c,⟨rfl,a,_⟩ | ⟨rfl,_⟩⟩ | ⟨c,rfl,_⟩
 ·exact Or.inl ⟨Or.inl rfl,hno (by omega),hnp (by omega)⟩
 ·exact Or.inl ⟨Or.inr rfl,hno (by omega),hnp (by omega)⟩
 ·refine Or.inr (Or.inr (Or.inl ⟨rfl,?_,hno (by omega)⟩))
  exact (zHm hsz).2 (by rw [hb]; exact (zKj _).1 c)
 ·refine Or.inr (Or.inr (Or.inr (Or.inl ⟨rfl,?_,hno (by omega)⟩)))
  exact (zHm hsz).2 (by rw [hb]; exact (zJz _).1 c)
 ·exact Or.inr (Or.inl ⟨rfl,a,hnp (by omega)⟩)
 ·exact Or.inr (Or.inr (Or.inr (Or.inr (Or.inl rfl))))
 ·exact Or.inr (Or.inr (Or.inr (Or.inr (Or.inl rfl))))
theorem zJi {ns:List OpR} (hv:ZA ns) {s:ByteArray}:∀ (ts:List zN) (i:Nat),ZD ns s i ts -> ∀ j,j < ts.length -> zGZ ns (atT ts j)
 | [],i,h,j,hj=>by simp at hj
 | t :: out,i,h,j,hj=>by
  rcases h with ⟨rfl,_,_,rfl⟩ | ⟨p,n,k,_,_,_,_,ht,rfl,hr⟩
  ·have:j = 0:=by simp at hj; omega
   subst this
   refine Or.inr (Or.inr (Or.inr (Or.inr (Or.inr ⟨rfl,rfl,fun ho=>?_⟩))))
   have h1:=(zEI hv ho).2
   simp [atT] at h1
   have h0:(⟨#[]⟩:ByteArray).size = 0:=rfl
   omega
  ·cases j with
   | zero=>exact zLS hv _ ht
   | succ j=>exact zJi hv out _ hr j (by simpa using hj)
theorem zCa {ns:List OpR} {t:ByteArray} {q:Nat} {k:Int} (h:ZB ns t k = true) (hq:(q:Int) - 2 = k):knB ns (q,t) = true:=by
 unfold knB
 simp only [hq]
 cases hf:fnd ns t k with
 | some j=>rfl
 | none=>
  obtain ⟨j,hj,e1,e2⟩:=(Zv _ _ _).1 h
  exact absurd ⟨e1,e2⟩ (zHx hf hj)
theorem zFZ (xs:List OpR) (last:Bool) (t:zN) (op:Nat):zm xs last t false op = if t.k = 1 \/ t.k = 2 \/ t.k = 4 then 0 else if t.k = 3 /\ ZB xs t.t 1 = true then 1 else -1:=by
 unfold zm; rw [if_pos rfl]
theorem zDj (xs:List OpR) (last:Bool) (t:zN) (op:Nat):zm xs last t true op = if t.k = 3 /\ ZB xs t.t 2 = true then 2 else if t.k = 3 /\ ZB xs t.t 3 = true then 3
  else if t.k = 5 /\ 0 < op then 0 else if t.k = 7 /\ op = 0 /\ last = true then 0 else -1:=by
 unfold zm; rw [if_neg (by decide)]
theorem zLT {ns:List OpR} {ts:List zN} {i:Nat} (hl:i + 1 < ts.length) (hr:0 <= zx ns ts i) :
  auS ns (zAm ns ts i,zAf ts i) (sgT ns ts i) = some (zAm ns ts (i + 1),zAf ts (i + 1)):=by
 have hlast:decide (i + 1 = ts.length) = false:=by simp; omega
 simp only [zAm,zAf]
 unfold sgT
 unfold zx at hr ⊢
 rw [hlast] at hr ⊢
 generalize atT ts i = t at hr ⊢
 generalize zAf ts i = op at hr ⊢
 generalize zAm ns ts i = bh at hr ⊢
 cases bh
 ·rw [zFZ] at hr ⊢
  by_cases k1:t.k = 1 \/ t.k = 2
  ·rw [if_neg (by omega),if_neg (by omega),if_neg (by omega),if_neg (by omega),zJf (by rcases k1 with e | e <;> simp [e])]
   simp only [zBI,zBA,if_true,if_pos k1]
   rw [if_neg (by omega),if_neg (by omega)]
  ·by_cases k4:t.k = 4
   ·rw [if_neg (by omega),if_pos k4,zJg]
    simp [zBI,zBA,k4]
   ·rw [if_neg (by omega)] at hr
    by_cases c:t.k = 3 /\ ZB ns t.t 1 = true
    ·rw [if_pos c.1,if_neg (by omega),if_pos c,zLO (s:=((1:Int).toNat + 2,t.t)) rfl (zCa c.2 (by decide))]
     simp [zBI,zBA,c.1]
    ·rw [if_neg c] at hr; omega
 ·rw [zDj] at hr ⊢
  by_cases c2:t.k = 3 /\ ZB ns t.t 2 = true
  ·rw [if_pos c2.1,if_pos c2,zLP (s:=((2:Int).toNat + 2,t.t)) rfl (zCa c2.2 (by decide))]
   simp [zBI,zBA,c2.1,c2.2]
  ·rw [if_neg c2] at hr
   by_cases c3:t.k = 3 /\ ZB ns t.t 3 = true
   ·rw [if_pos c3.1,if_neg c2,if_pos c3,zJh (s:=((3:Int).toNat + 2,t.t)) rfl (zCa c3.2 (by decide))]
    simp only [zBI,zBA,Bool.true_eq_false,if_false,if_neg c2]
    rw [if_neg (by omega),if_neg (by omega)]
   ·rw [if_neg c3] at hr
    by_cases c5:t.k = 5 /\ 0 < op
    ·rw [if_neg (by omega),if_neg (by omega),if_pos c5.1]
     obtain ⟨m,rfl⟩:∃ m,op = m + 1:=⟨op - 1,by omega⟩
     rw [zH7]
     simp [zBI,zBA,c5.1]
    ·rw [if_neg c5] at hr
     simp at hr
theorem zHF {ns:List OpR} {ts:List zN}:∀ n,n < ts.length -> zBS ns ts n -> zAl ns (false,0) (sgs ns ts 0 n) = some (zAm ns ts n,zAf ts n)
 | 0,_,_=>rfl
 | n + 1,hn,hf=>by
  rw [zDi,zBR,zHF n (by omega) (fun i hi=>hf i (by omega))]
  simp only [Nat.zero_add,zAl]
  rw [zLT (by omega) (hf n (by omega))]
theorem zMb {ns:List OpR} {ts:List zN} (hf:zBS ns ts ts.length) (h0:0 < ts.length) (h7:(atT ts (ts.length - 1)).k = 7) :
  Seg ns (sgs ns ts 0 (ts.length - 1)) /\ sgs ns ts 0 ts.length = sgs ns ts 0 (ts.length - 1) ++ [eoS]:=by
 have hr:=hf (ts.length - 1) (by omega)
 have hb:zAm ns ts (ts.length - 1) = true /\ zAf ts (ts.length - 1) = 0:=by
  unfold zx zm at hr
  have hl:decide (ts.length - 1 + 1 = ts.length) = true:=by simp; omega
  rw [hl] at hr
  cases hb:zAm ns ts (ts.length - 1)
  ·rw [hb] at hr
   simp only [if_true] at hr
   rw [if_neg (by omega),if_neg (by omega)] at hr
   omega
  ·rw [hb] at hr
   simp only [Bool.true_eq_false,if_false] at hr
   rw [if_neg (by omega),if_neg (by omega),if_neg (by omega)] at hr
   by_cases c:(atT ts (ts.length - 1)).k = 7 /\ zAf ts (ts.length - 1) = 0 /\ True
   ·exact ⟨rfl,c.2.1⟩
   ·rw [if_neg c] at hr; omega
 refine ⟨?_,?_⟩
 ·unfold Seg
  rw [zHF _ (by omega) (fun i hi=>hf i (by omega)),hb.1,hb.2]
 ·have e:ts.length = ts.length - 1 + 1:=by omega
  have:=zDi ns ts 0 (ts.length - 1)
  rw [<- e] at this
  rw [this]
  have e2:sgT ns ts (0 + (ts.length - 1)) = eoS:=by
   rw [Nat.zero_add]
   unfold sgT
   rw [if_neg (by omega),if_neg (by omega),if_neg (by omega),if_pos h7]
  rw [e2]
theorem zKD {ns:List OpR} {ts:List zN} {i:Nat} (hr:0 <= zx ns ts i) (hb:zAm ns ts i = false) (ht:zGZ ns (atT ts i)) :
  (((atT ts i).k = 1 \/ (atT ts i).k = 2) /\ ¬ opT ns (atT ts i).t /\ (atT ts i).t ≠ opn /\ sgT ns ts i = ((atT ts i).k.toNat,(atT ts i).t)) \/
  ((atT ts i).k = 3 /\ ZB ns (atT ts i).t 1 = true /\ (atT ts i).t ≠ opn /\ sgT ns ts i = (3,(atT ts i).t)) \/
  ((atT ts i).k = 4 /\ (atT ts i).t = opn /\ sgT ns ts i = (6,opn)):=by
 unfold sgT
 unfold zx at hr ⊢
 rw [hb,zFZ] at hr ⊢
 by_cases k:(atT ts i).k = 1 \/ (atT ts i).k = 2 \/ (atT ts i).k = 4
 ·rcases ht with ⟨a,b,c⟩ | ⟨a,b,c⟩ | ⟨a,b,c⟩ | ⟨a,b,c⟩ | a | ⟨a,b,c⟩
  ·refine Or.inl ⟨a,b,c,?_⟩
   rw [if_neg (by omega),if_neg (by omega),if_neg (by omega),if_neg (by omega)]
  ·omega
  ·refine Or.inr (Or.inr ⟨a,b,?_⟩)
   rw [if_neg (by omega),if_pos a]
  ·omega
  ·omega
  ·omega
 ·rw [if_neg k] at hr ⊢
  by_cases c:(atT ts i).k = 3 /\ ZB ns (atT ts i).t 1 = true
  ·rw [if_pos c.1,if_pos c]
   refine Or.inr (Or.inl ⟨c.1,c.2,?_,rfl⟩)
   rcases ht with ⟨a,b,c'⟩ | ⟨a,b,c'⟩ | ⟨a,b,c'⟩ | ⟨a,b,c'⟩ | a | ⟨a,b,c'⟩
   ·exact c'
   ·exact c'
   all_goals omega
  ·rw [if_neg c] at hr; omega
theorem zIq {ns:List OpR} {ts:List zN} {i:Nat} (hr:0 <= zx ns ts i) (hb:zAm ns ts i = true) (ht:zGZ ns (atT ts i)) :
  ((atT ts i).k = 3 /\ ZB ns (atT ts i).t 2 = true /\ sgT ns ts i = (4,(atT ts i).t)) \/
  ((atT ts i).k = 3 /\ ZB ns (atT ts i).t 3 = true /\ sgT ns ts i = (5,(atT ts i).t)) \/
  (¬ opT ns (atT ts i).t /\ (sgT ns ts i).1 ≠ 4 /\ (sgT ns ts i).1 ≠ 5):=by
 unfold sgT
 unfold zx at hr ⊢
 rw [hb,zDj] at hr ⊢
 by_cases c2:(atT ts i).k = 3 /\ ZB ns (atT ts i).t 2 = true
 ·rw [if_pos c2.1,if_pos c2]
  exact Or.inl ⟨c2.1,c2.2,rfl⟩
 ·rw [if_neg c2] at hr ⊢
  by_cases c3:(atT ts i).k = 3 /\ ZB ns (atT ts i).t 3 = true
  ·rw [if_pos c3.1,if_pos c3]
   exact Or.inr (Or.inl ⟨c3.1,c3.2,rfl⟩)
  ·rw [if_neg c3] at hr
   have k57:(atT ts i).k = 5 \/ (atT ts i).k = 7:=by
    by_cases c5:(atT ts i).k = 5 /\ 0 < zAf ts i
    ·exact Or.inl c5.1
    ·rw [if_neg c5] at hr
     by_cases c7:(atT ts i).k = 7 /\ zAf ts i = 0 /\ decide (i + 1 = ts.length) = true
     ·exact Or.inr c7.1
     ·rw [if_neg c7] at hr; omega
   have hno:¬ opT ns (atT ts i).t:=by
    rcases ht with ⟨a,b,c'⟩ | ⟨a,b,c'⟩ | ⟨a,b,c'⟩ | ⟨a,b,c'⟩ | a | ⟨a,b,c'⟩
    ·exact b
    ·omega
    ·exact c'
    ·exact c'
    ·omega
    ·exact c'
   refine Or.inr (Or.inr ⟨hno,?_⟩)
   rw [if_neg (by omega),if_neg (by omega)]
   by_cases k5:(atT ts i).k = 5
   ·rw [if_pos k5]; exact ⟨by decide,by decide⟩
   ·rw [if_neg k5,if_pos (by omega)]; exact ⟨by decide,by decide⟩
end Go.Proofs.YtfboipappaonhaaGreat
namespace Go.Proofs.YtfboipappaonhaaGreat
set_option linter.unusedSimpArgs false
set_option linter.unusedVariables false
set_option maxHeartbeats 16000000
set_option maxRecDepth 100000
open Go.RowKit
def hT:ET -> Nat
 | .nil=>0
 | .node _ _ _ l r=>1 + max (hT l) (hT r)
theorem zIB:∀ T:ET,hT T <= tsz T
 | .nil=>Nat.le_refl _
 | .node _ _ _ l r=>by
  have:=zIB l
  have:=zIB r
  simp only [hT,tsz]
  omega
def zBB (e:Value) (h:Nat):Prop:=∃ T v f r,e = .iface T v /\ (∀ w,(method 342 T v "loop.example/s0059/impl.height").run Tryz.prog w = .ok (f,r) w) /\ (∀ a w,(callFunc f a).run Tryz.prog w = .ok (.enter f a) w) /\
 ∀ w,Calls Tryz.prog f #[r] w fun x w'=>x = .returned (.int .i64 (h:Int)) /\ Below w.heap.size w w'
theorem zEZ (t:ByteArray) (w:World):Calls Tryz.prog 186 #[.agg #[.string t]] w fun x w'=>x = .returned (.int .i64 ((1:Nat):Int)) /\ Below w.heap.size w w':=by
 go_enter Tryz.func186,Tryz.ntmps186
 go_wp2_with fail
 go_ret
 exact ⟨rfl,by first | exact zC _ _ | exact Below.refl _ _⟩
theorem zBd {e:Value} {h:Nat} (he:zBB e h) (hh:h <= 100000) (w:World):Calls Tryz.prog 190 #[.agg #[e]] w fun x w'=>x = .returned (.int .i64 ((1 + h:Nat):Int)) /\ Below w.heap.size w w':=by
 obtain ⟨T,v,f,r,rfl,hme,hcf,hcall⟩:=he
 have HC:=zB hcall
 have e1:((1 + h:Nat):Int) = 1 + (h:Int):=by omega
 clear hcall
 go_enter Tryz.func190,Tryz.ntmps190
 go_wp2_with fail
 refine ((zA HC) _).mono ?_
 rintro x w1 ⟨rfl,hb1⟩
 go_wp2_with fail
 go_ret
 rw [e1]
 exact ⟨rfl,(zC _ _).trans (hb1.mono (by simp))⟩
theorem zHG {e e':Value} {h h':Nat} (p:OpR) (he:zBB e h) (he':zBB e' h') (hh:h <= 100000) (hh':h' <= 100000) (w:World):Calls Tryz.prog 194 #[.agg #[.string p.s,.int .i64 p.k,.int .i64 p.l,.int .i64 p.sd,e,e']] w fun x w'=>x = .returned (.int .i64 ((1 + max h h':Nat):Int)) /\ Below w.heap.size w w':=by
 obtain ⟨T,v,f,r,rfl,hme,hcf,hcall⟩:=he
 obtain ⟨T',v',f',r',rfl,hme',hcf',hcall'⟩:=he'
 have HC:=zB hcall
 have HC':=zB hcall'
 clear hcall hcall'
 go_enter Tryz.func194,Tryz.ntmps194
 go_wp2_with fail
 have HBC:=zB ((zC w (.cells #[.string p.s,.int .i64 p.k,.int .i64 p.l,.int .i64 p.sd,.iface T v,.iface T' v'] 131)).drew)
 have HSC:=zB (show Cs [(w.heap.size,4,.iface T v),(w.heap.size,5,.iface T' v')] ((w.alloc (.cells #[.string p.s,.int .i64 p.k,.int .i64 p.l,.int .i64 p.sd,.iface T v,.iface T' v'] 131)).drew) from by
  intro x hx
  simp only [List.mem_cons,List.not_mem_nil,or_false] at hx
  rcases hx with rfl | rfl
  ·simp [go_sem]
  ·simp [go_sem])
 go_region_held (fun w'=>w'.cell? ⟨w.heap.size,4,none⟩ = some (.iface T v) /\ w'.cell? ⟨w.heap.size,5,none⟩ = some (.iface T' v')) (first | (go_keep; done) | exact ⟨(zA HSC) (w.heap.size,4,.iface T v) (by simp),(zA HSC) (w.heap.size,5,.iface T' v') (by simp)⟩)
  (first | ((with_reducible refine ((zA HC) _).mono ?_); rintro x w1 ⟨rfl,hb1⟩; replace HSC:=zB ((zA HSC).below hb1); replace HBC:=zB ((zA HBC).trans (hb1.mono (zA HBC).size)); clear hb1 HC) | ((with_reducible refine ((zA HC') _).mono ?_); rintro x w1 ⟨rfl,hb1⟩; replace HSC:=zB ((zA HSC).below hb1); replace HBC:=zB ((zA HBC).trans (hb1.mono (zA HBC).size)); clear hb1 HC'))
 have e1:IntKind.i64.wrap (1 + max (h:Int) (h':Int)) = ((1 + max h h':Nat):Int):=by
  rw [IntKind.wrap_i64]
  omega
 rw [e1]
 go_wp2_with fail
 go_ret
 exact ⟨rfl,zA HBC⟩
theorem zMc (t:ByteArray):zBB (zG1 t) 1:=⟨_,_,186,.agg #[.string t],rfl,fun w=>by kernel_rfl,fun a w=>by kernel_rfl,zEZ t⟩
theorem zLU (t:ByteArray):zBB (zDY t) 1:=⟨_,_,186,.agg #[.string t],rfl,fun w=>by kernel_rfl,fun a w=>by kernel_rfl,zEZ t⟩
theorem zMd {e:Value} {h:Nat} (he:zBB e h) (hh:h <= 100000):zBB (zDZ e) (1 + h):=⟨_,_,190,.agg #[e],rfl,fun w=>by kernel_rfl,fun a w=>by kernel_rfl,zBd he hh⟩
theorem zMe (p:OpR) {e:Value} {h:Nat} (he:zBB e h) (hh:h <= 100000):zBB (zC5 p e) (1 + h):=⟨_,_,190,.agg #[e],rfl,fun w=>by kernel_rfl,fun a w=>by kernel_rfl,zBd he hh⟩
theorem zLV (p:OpR) {e:Value} {h:Nat} (he:zBB e h) (hh:h <= 100000):zBB (zAo p e) (1 + h):=⟨_,_,190,.agg #[e],rfl,fun w=>by kernel_rfl,fun a w=>by kernel_rfl,zBd he hh⟩
theorem zMf (p:OpR) {e e':Value} {h h':Nat} (he:zBB e h) (he':zBB e' h') (hh:h <= 100000) (hh':h' <= 100000):zBB (zCV p e e') (1 + max h h'):=⟨_,_,194,_,rfl,fun w=>by kernel_rfl,fun a w=>by kernel_rfl,zHG p he he' hh hh'⟩
theorem zCb {ns:List OpR} {b:Nat} {t:ByteArray} (hb:b = 3 \/ b = 4 \/ b = 5) (hk:knB ns (b,t) = true):sLv ns (b,t) = (opA ns (rt b t)).l:=by
 unfold knB at hk
 unfold sLv ZF opA
 have hbk:3 <= (rt b t).k /\ (rt b t).k <= 5:=by simp only [rt]; omega
 simp only [if_pos hbk]
 have e:fnd ns (rt b t).t ((rt b t).k - 2) = fnd ns t ((b:Int) - 2):=rfl
 rw [e]
 cases h:fnd ns t ((b:Int) - 2) with
 | none=>simp only [h] at hk; cases hk
 | some j=>rfl
theorem zLW (ns:List OpR):∀ T:ET,zh ns T -> hT T <= 100000 -> zBB (exT ns T) (hT T):=by
 intro T
 induction T with
 | nil=>intro h; exact h.elim
 | node b o t l r ihl ihr=>
  intro hg hh
  simp only [hT] at hh
  rcases hg with ⟨rfl,⟨hb,rfl,rfl⟩ | ⟨rfl,rfl,hl,rfl⟩ | ⟨hb,hk,hl,rfl,_⟩ | ⟨rfl,hk,hl,hr,_⟩⟩
  ·rcases hb with rfl | rfl
   ·exact zMc t
   ·exact zLU t
  ·have:=zMd (ihl hl (by omega)) (by omega)
   have e:hT (.node 6 0 ByteArray.empty l .nil) = 1 + hT l:=by simp [hT]
   rw [e]; exact this
  ·have e:∀ b,hT (.node b 0 t l .nil) = 1 + hT l:=fun b=>by simp [hT]
   rw [e]
   rcases hb with rfl | rfl
   ·exact zMe _ (ihl hl (by omega)) (by omega)
   ·exact zLV _ (ihl hl (by omega)) (by omega)
  ·exact zMf _ (ihl hl (by omega)) (ihr hr (by omega)) (by omega) (by omega)
theorem zIC (ns:List OpR):∀ T:ET,zh ns T -> zCx (exT ns T) (lvT ns T):=by
 intro T hg
 cases T with
 | nil=>exact hg.elim
 | node b o t l r=>
  rcases hg with ⟨rfl,⟨hb,rfl,rfl⟩ | ⟨rfl,rfl,hl,rfl⟩ | ⟨hb,hk,hl,rfl,_⟩ | ⟨rfl,hk,hl,hr,_⟩⟩
  ·have e:lvT ns (.node b 0 t .nil .nil) = 1001:=Zz ns b t (by omega)
   rw [e]
   rcases hb with rfl | rfl
   ·exact zJZ t
   ·exact zH3 t
  ·have e:lvT ns (.node 6 0 ByteArray.empty l .nil) = 1001:=Zz ns 6 _ (by omega)
   rw [e]
   exact zMU _
  ·have e:lvT ns (.node b 0 t l .nil) = (opA ns (rt b t)).l:=zCb (by omega) hk
   rw [e]
   rcases hb with rfl | rfl
   ·exact zJa _ _
   ·exact zH4 _ _
  ·have e:lvT ns (.node 4 0 t l r) = (opA ns (rt 4 t)).l:=zCb (by omega) hk
   rw [e]
   exact zJb _ _ _
theorem zID {ns:List OpR} {b:Nat} {t:ByteArray} (hk:knB ns (b,t) = true):(opA ns (rt b t)).s = t:=by
 obtain ⟨j,_,hj,_,e⟩:=zDb hk
 rw [e]
 exact (Zg hj).2.1
theorem zLX (ns:List OpR):∀ T:ET,zh ns T -> zBl (exT ns T) (nd T):=by
 intro T
 induction T with
 | nil=>intro h; exact h.elim
 | node b o t l r ihl ihr=>
  intro hg
  rcases hg with ⟨rfl,⟨hb,rfl,rfl⟩ | ⟨rfl,rfl,hl,rfl⟩ | ⟨hb,hk,hl,rfl,_⟩ | ⟨rfl,hk,hl,hr,_⟩⟩
  ·rcases hb with rfl | rfl
   ·exact zML t
   ·exact zK3 t
  ·have e:nd (.node 6 0 ByteArray.empty l .nil) = zBm (nd l) 6 ByteArray.empty:=by
    funext s
    simp [nd,zBm,tN,zg,zM,tsz]
   rw [e]
   exact zMM (ihl hl)
  ·have hs:=zID hk
   rcases hb with rfl | rfl
   ·have e:nd (.node 3 0 t l .nil) = zBm (nd l) 3 (opA ns (rt 3 t)).s:=by
     funext s
     simp [nd,zBm,tN,zg,zM,tsz,hs]
    rw [e]
    exact zMN (ihl hl) _
   ·have e:nd (.node 5 0 t l .nil) = zBm (nd l) 5 (opA ns (rt 5 t)).s:=by
     funext s
     simp [nd,zBm,tN,zg,zM,tsz,hs]
    rw [e]
    exact zK4 (ihl hl) _
  ·have hs:=zID hk
   have e:nd (.node 4 0 t l r) = zHy (nd l) (nd r) (opA ns (rt 4 t)).s:=by
    funext s
    simp [nd,zHy,tN,zg,zM,tsz,hs]
   rw [e]
   exact zMO (ihl hl) (ihr hr) _
end Go.Proofs.YtfboipappaonhaaGreat
namespace Go.Proofs.YtfboipappaonhaaGreat
set_option maxHeartbeats 16000000
set_option maxRecDepth 100000
open Go.RowKit Go.Maps
theorem zLY:laidOutB Tryz.prog = true:=by kernel_rfl
theorem zON:(161:TypeId) < Tryz.prog.types.size:=of_decide_eq_true (by kernel_rfl)
theorem zOC:(match Tryz.prog.underlying 161 with | some (.array _ _) | some (.struct _)=>true | _=>false) = true:=by kernel_rfl
theorem zF5:Keyed Tryz.prog 161:=Keyed.of_law (deep_law_laid zLY (m:=3) (by omega) zON (by kernel_rfl) zOC)
theorem zLZ:Keyed Tryz.prog 3:=int_keyed Tryz.underlying3
theorem zLa:Tryz.prog.keyType 161 = true:=by kernel_rfl
theorem zGa:Tryz.prog.types.size + 1 = (Tryz.prog.types.size - 1) + 1 + 1:=by
 have h:decide (1 <= Tryz.prog.types.size) = true:=by kernel_rfl
 have:=of_decide_eq_true h
 omega
theorem zEJ:Tryz.prog.cellsOf 161 = 2:=by kernel_rfl
theorem zHH:Tryz.prog.cellsOf 9 = 1:=by kernel_rfl
theorem zHI:Tryz.prog.cellsOf 3 = 1:=by kernel_rfl
def klO (s:ByteArray) (k:Int):Lit:=.string (keyBytes [.string s.data.toList,.int .i64 k])
theorem zOD {s:ByteArray} (hs:s.size <= maxLen) (d:Nat):Tryz.prog.keyLits (d + 1) 9 [.string s] = some [.string s.data.toList]:=by
 unfold Program.keyLits
 rw [Tryz.underlying9]
 exact if_pos hs
theorem zOE {k:Int} (hk:(Lit.int .i64 k).wf = true) (d:Nat):Tryz.prog.keyLits (d + 1) 3 [.int .i64 k] = some [.int .i64 k]:=by
 unfold Program.keyLits
 rw [Tryz.underlying3]
 exact if_pos ⟨rfl,hk⟩
theorem zOF {s:ByteArray} {k:Int} (hs:s.size <= maxLen) (hk:(Lit.int .i64 k).wf = true) (d:Nat) :
  Tryz.prog.keyLits (d + 1 + 1) 161 [.string s,.int .i64 k] = some [.string s.data.toList,.int .i64 k]:=by
 conv=>lhs; unfold Program.keyLits
 rw [Tryz.underlying161]
 simp [zEJ,zHH,zHI,zOD hs d,zOE hk d]
theorem zHJ {s:ByteArray} {k:Int} (hs:s.size <= maxLen) (hk:(Lit.int .i64 k).wf = true):keyOf Tryz.prog 161 (.agg #[.string s,.int .i64 k]) = some (klO s k):=by
 unfold keyOf
 rw [Tryz.underlying161]
 have hf:(Value.agg #[.string s,.int .i64 k]).formed Tryz.prog 161 = true:=by simp [Value.formed,Tryz.underlying161,zEJ]
 have hl:=zOF hs hk (Tryz.prog.types.size - 1)
 rw [<- zGa] at hl
 simp only [zLa,hf,Bool.and_self,if_true]
 show (Tryz.prog.keyLits (Tryz.prog.types.size + 1) 161 [.string s,.int .i64 k]).map _ = _
 rw [hl]
 rfl
theorem zHK {s t:ByteArray} {k k':Int} (hs:s.size <= maxLen) (ht:t.size <= maxLen) (hk:(Lit.int .i64 k).wf = true) (hk':(Lit.int .i64 k').wf = true) (h:klO s k = klO t k'):s = t /\ k = k':=by
 have a:=zHJ hs hk
 have b:=zHJ ht hk'
 rw [<- h] at b
 have:=zF5.inj a b
 simpa using this
theorem zMg {l:Int} (h:(Lit.int .i64 l).wf = true):keyOf Tryz.prog 3 (.int .i64 l) = some (.int .i64 l):=keyOf_int_mk Tryz.underlying3 h
def Zo (s:ByteArray) (k l sd:Int):DataW Unit:=.agg [.lit (.string s.data.toList),.lit (.int .i64 k),.lit (.int .i64 l),.lit (.int .i64 sd)]
def ZY (v:Value):Option (DataW Unit × List MemPlace):=
 match v with
 | .agg cs=>match cs.toList with
  | [.string s,.int .i64 k,.int .i64 l,.int .i64 sd]=>some (Zo s k l sd,[])
  | _=>none
 | _=>none
theorem zBr (s:ByteArray) (k l sd:Int):ZY (.agg #[.string s,.int .i64 k,.int .i64 l,.int .i64 sd]) = some (Zo s k l sd,[]):=rfl
theorem zCH {v:Value} {z:DataW Unit × List MemPlace} (h:ZY v = some z):∃ s k l sd,v = .agg #[.string s,.int .i64 k,.int .i64 l,.int .i64 sd]:=by
 unfold ZY at h
 split at h
 ·rename_i cs
  split at h
  ·rename_i a b c d e
   obtain ⟨cs⟩:=cs
   simp only at e
   subst e
   exact ⟨_,_,_,_,rfl⟩
  ·cases h
 ·cases h
theorem zKE {s s':ByteArray} {k k' l l' sd sd':Int} (h:Zo s k l sd = Zo s' k' l' sd'):s = s' /\ k = k' /\ l = l' /\ sd = sd':=by
 unfold Zo at h
 simp only [DataW.agg.injEq,List.cons.injEq,DataW.lit.injEq,Lit.string.injEq,Lit.int.injEq,true_and,and_true] at h
 obtain ⟨h1,h2,h3,h4⟩:=h
 refine ⟨?_,h2,h3,h4⟩
 obtain ⟨⟨a⟩⟩:=s
 obtain ⟨⟨b⟩⟩:=s'
 simp only at h1
 rw [h1]
theorem zIr {v:Value} {s:ByteArray} {k l sd:Int} {ps:List MemPlace} (h:ZY v = some (Zo s k l sd,ps)):v = .agg #[.string s,.int .i64 k,.int .i64 l,.int .i64 sd]:=by
 obtain ⟨s',k',l',sd',rfl⟩:=zCH h
 rw [zBr] at h
 simp only [Option.some.injEq,Prod.mk.injEq] at h
 obtain ⟨rfl,rfl,rfl,rfl⟩:=zKE h.1
 rfl
theorem zLb (w:World):(zeroValue 123).run Tryz.prog w = .ok (.agg #[.string ⟨#[]⟩,.int .i64 0,.int .i64 0,.int .i64 0]) w:=by kernel_rfl
theorem zJj (w:World):(zeroValue 3).run Tryz.prog w = .ok (.int .i64 0) w:=by kernel_rfl
end Go.Proofs.YtfboipappaonhaaGreat
