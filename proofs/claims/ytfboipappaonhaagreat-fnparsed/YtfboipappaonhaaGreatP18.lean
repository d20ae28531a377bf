import Derived.Test.YtfboipappaonhaaGreatP10
import Derived.Test.YtfboipappaonhaaGreatP11
import Derived.Test.YtfboipappaonhaaGreatP15
import Derived.Test.YtfboipappaonhaaGreatP17
namespace Go.Proofs.YtfboipappaonhaaGreat
set_option linter.unusedSimpArgs false
set_option linter.unusedVariables false
set_option maxHeartbeats 16000000
set_option maxRecDepth 100000
def zEs (ns:List OpR) (ts:List zI) (us:List zD) (c p:Int):Prop:=
 (RD ns 0 none (sgs ns ts 0 ts.length) = none /\ us = [] /\ c = 5 /\ p = 0) \/
 ∃ T r,RD ns 0 none (sgs ns ts 0 ts.length) = some (T,r) /\ ((1000 < hT T /\ us = [] /\ c = 6 /\ p = 0) \/ (hT T <= 1000 /\ us = nd T 0 /\ c = 0 /\ p = 0))
def zH5 (ns:List OpR) (ts:List zI) (us:List zD) (c p:Int):Prop:=
 (∃ i,i < ts.length /\ (atT ts i).k = 6 /\ (∀ j,j < i -> (atT ts j).k ≠ 6) /\ us = [] /\ c = 3 /\ p = (zFJ ts i:Int)) \/
 ((∀ j,j < ts.length -> (atT ts j).k ≠ 6) /\
  ((∃ i,i < ts.length /\ zAu ns ts i /\ zP ns ts i < 0 /\ us = [] /\ c = 4 /\ p = (zFJ ts i:Int)) \/ (zAu ns ts ts.length /\ zEs ns ts us c p)))
def zAi (ns:List OpR) (s:ByteArray) (us:List zD) (c p:Int):Prop:=
 (¬ zM ns 0 /\ us = [] /\ c = 1 /\ p = 0) \/
 (zM ns 0 /\ ((20000 < s.size /\ us = [] /\ c = 2 /\ p = 0) \/ (s.size <= 20000 /\ ∃ ts,ZK ns s 0 ts /\ zH5 ns ts us c p)))
theorem zEs.one {ns:List OpR} {ts:List zI} {us us':List zD} {c c' p p':Int} (h:zEs ns ts us c p) (h':zEs ns ts us' c' p'):us = us' /\ c = c' /\ p = p':=by
 rcases h with ⟨h1,rfl,rfl,rfl⟩ | ⟨T,r,h1,h⟩
 ·rcases h' with ⟨h2,rfl,rfl,rfl⟩ | ⟨T',r',h2,h'⟩
  ·exact ⟨rfl,rfl,rfl⟩
  ·rw [h1] at h2; cases h2
 ·rcases h' with ⟨h2,rfl,rfl,rfl⟩ | ⟨T',r',h2,h'⟩
  ·rw [h1] at h2; cases h2
  ·rw [h1] at h2
   injection h2 with h2
   injection h2 with h2 _
   subst h2
   rcases h with ⟨a,rfl,rfl,rfl⟩ | ⟨a,rfl,rfl,rfl⟩ <;> rcases h' with ⟨b,rfl,rfl,rfl⟩ | ⟨b,rfl,rfl,rfl⟩
   ·exact ⟨rfl,rfl,rfl⟩
   ·omega
   ·omega
   ·exact ⟨rfl,rfl,rfl⟩
theorem zH5.one {ns:List OpR} {ts:List zI} {us us':List zD} {c c' p p':Int} (h:zH5 ns ts us c p) (h':zH5 ns ts us' c' p'):us = us' /\ c = c' /\ p = p':=by
 rcases h with ⟨i,hi,a1,a2,rfl,rfl,rfl⟩ | ⟨a,h⟩
 ·rcases h' with ⟨j,hj,b1,b2,rfl,rfl,rfl⟩ | ⟨b,h'⟩
  ·rcases (by omega:i = j \/ i < j \/ j < i) with e | e | e
   ·subst e; exact ⟨rfl,rfl,rfl⟩
   ·exact absurd a1 (b2 i e)
   ·exact absurd b1 (a2 j e)
  ·exact absurd a1 (b i hi)
 ·rcases h' with ⟨j,hj,b1,b2,rfl,rfl,rfl⟩ | ⟨b,h'⟩
  ·exact absurd b1 (a j hj)
  ·rcases h with ⟨i,hi,f,n,rfl,rfl,rfl⟩ | ⟨f,h⟩
   ·rcases h' with ⟨j,hj,f',n',rfl,rfl,rfl⟩ | ⟨f',h'⟩
    ·rcases (by omega:i = j \/ i < j \/ j < i) with e | e | e
     ·subst e; exact ⟨rfl,rfl,rfl⟩
     ·have:=f' i e; omega
     ·have:=f j e; omega
    ·have:=f' i hi; omega
   ·rcases h' with ⟨j,hj,f',n',rfl,rfl,rfl⟩ | ⟨f',h'⟩
    ·have:=f j hj; omega
    ·exact h.one h'
theorem zAi.one {ns:List OpR} {s:ByteArray} {us us':List zD} {c c' p p':Int} (h:zAi ns s us c p) (h':zAi ns s us' c' p'):us = us' /\ c = c' /\ p = p':=by
 rcases h with ⟨n,rfl,rfl,rfl⟩ | ⟨n,h⟩
 ·rcases h' with ⟨n',rfl,rfl,rfl⟩ | ⟨n',h'⟩
  ·exact ⟨rfl,rfl,rfl⟩
  ·exact absurd n' n
 ·rcases h' with ⟨n',rfl,rfl,rfl⟩ | ⟨n',h'⟩
  ·exact absurd n n'
  ·rcases h with ⟨b,rfl,rfl,rfl⟩ | ⟨b,ts,hx,h⟩
   ·rcases h' with ⟨b',rfl,rfl,rfl⟩ | ⟨b',ts',hx',h'⟩
    ·exact ⟨rfl,rfl,rfl⟩
    ·omega
   ·rcases h' with ⟨b',rfl,rfl,rfl⟩ | ⟨b',ts',hx',h'⟩
    ·omega
    ·have e:=ZK.one _ _ _ hx hx'
     subst e
     exact h.one h'
end Go.Proofs.YtfboipappaonhaaGreat
namespace Go.Proofs.YtfboipappaonhaaGreat
set_option linter.unusedSimpArgs false
set_option linter.unusedVariables false
set_option maxHeartbeats 16000000
set_option maxRecDepth 100000
open Go.RowKit
open Go.Deep (BT)
def trF (xs:List zD):Nat -> Nat -> ET
 | 0,_=>.nil
 | n + 1,i=>if zR (atN xs i).k = 0 then .node (atN xs i).k.toNat 0 (atN xs i).t .nil .nil
  else if zR (atN xs i).k = 1 then .node (atN xs i).k.toNat 0 (atN xs i).t (trF xs n (i - 1)) .nil
  else .node (atN xs i).k.toNat 0 (atN xs i).t (trF xs n (atN xs i).a.toNat) (trF xs n (i - 1))
theorem zMV {xs:List zD}:∀ (T:ET) (s:Nat),Sh T -> zDG xs T s -> ∀ n,tsz T <= n -> trF xs n (s + tsz T - 1) = T:=by
 intro T
 induction T with
 | nil=>intro s h; exact h.elim
 | node b o t l r ihl ihr=>
  rintro s ⟨rfl,hsh⟩ ⟨h1,h2,h3⟩ n hn
  simp only [tsz] at hn
  obtain ⟨n,rfl⟩:∃ m,n = m + 1:=⟨n - 1,by omega⟩
  have e:s + tsz (.node b 0 t l r) - 1 = s + tsz l + tsz r:=by simp only [tsz]; omega
  rw [e]
  have hK:(atN xs (s + tsz l + tsz r)).k = (b:Int):=by rw [h3]; rfl
  have hT:(atN xs (s + tsz l + tsz r)).t = t:=by rw [h3]; rfl
  have hb:((b:Int)).toNat = b:=by omega
  rcases hsh with ⟨hk,rfl,rfl⟩ | ⟨hk,hl,rfl⟩ | ⟨hk,hl,hr⟩
  ·simp only [trF,hK,hT,hk,if_true,hb]
  ·have hp:=hl.pos
   have e2:s + tsz l + tsz (BT.nil:ET) - 1 = s + tsz l - 1:=by simp [tsz]
   simp only [trF,hK,hT,hk,hb,e2,ihl s hl h1 n (by omega)]
   simp
  ·have hp:=hl.pos
   have hq:=hr.pos
   have ha:(atN xs (s + tsz l + tsz r)).a.toNat = s + tsz l - 1:=by
    rw [h3]
    simp [tN,hk]
    omega
   simp only [trF,hK,hT,hk,hb,ha,ihl s hl h1 n (by omega),ihr (s + tsz l) hr h2 n (by omega)]
   simp
def zMW (xs:List zD):ET:=trF xs xs.length (xs.length - 1)
theorem zHF {T:ET} (h:Sh T):zMW (nd T 0) = T:=by
 have:=zMV T 0 h (zAb T) (tsz T) (Nat.le_refl _)
 unfold zMW
 rw [ze]
 simpa using this
def TxB:ET -> Prop
 | .nil=>True
 | .node _ _ t l r=>t.size <= 20000 /\ TxB l /\ TxB r
theorem zLC:∀ (T:ET),TxB T -> ∀ s ∈ ySy T,s.2.size <= 20000:=by
 intro T
 induction T with
 | nil=>intro _ s hs; simp [ySy] at hs
 | node b o t l r ihl ihr=>
  rintro ⟨h1,h2,h3⟩ s hs
  have e1:opn.size <= 20000:=by decide
  have e2:zA7.size <= 20000:=by decide
  simp only [ySy] at hs
  split at hs
  ·simp only [List.mem_cons,List.mem_append,List.not_mem_nil,or_false] at hs
   rcases hs with rfl | hs | rfl
   ·exact e1
   ·exact ihl h2 s hs
   ·exact e2
  ·split at hs
   ·simp only [List.mem_cons] at hs
    rcases hs with rfl | hs
    ·exact h1
    ·exact ihl h2 s hs
   ·split at hs
    ·simp only [List.mem_cons,List.mem_append,List.not_mem_nil,or_false] at hs
     rcases hs with hs | rfl
     ·exact ihl h2 s hs
     ·exact h1
    ·split at hs
     ·simp only [List.mem_cons,List.mem_append] at hs
      rcases hs with hs | rfl | hs
      ·exact ihl h2 s hs
      ·exact h1
      ·exact ihr h3 s hs
     ·simp only [List.mem_cons,List.not_mem_nil,or_false] at hs
      subst hs
      exact h1
end Go.Proofs.YtfboipappaonhaaGreat
namespace Go.Proofs.YtfboipappaonhaaGreat
set_option linter.unusedSimpArgs false
set_option linter.unusedVariables false
set_option maxHeartbeats 16000000
set_option maxRecDepth 100000
open Go.RowKit
theorem zC2 {ns:List OpR} {st st':Bool × Nat} {s:SyR} {r:List SyR} (h:auS ns st s = some st'):Zt ns st (s :: r) = Zt ns st' r:=by
 simp only [Zt,h]
theorem zET {ns:List OpR} {a b:List SyR} {st st':Bool × Nat} (h:Zt ns st a = some st'):Zt ns st (a ++ b) = Zt ns st' b:=by
 rw [zBZ,h]
theorem zMX {ns:List OpR}:∀ (T:ET),zBY ns T -> ∀ d,Zt ns (false,d) (ySy T) = some (true,d):=by
 intro T
 induction T with
 | nil=>intro h; exact h.elim
 | node b o t l r ihl ihr=>
  intro h d
  obtain ⟨rfl,⟨hb,rfl,rfl⟩ | ⟨rfl,rfl,hl,rfl⟩ | ⟨hb,hk,hl,rfl⟩ | ⟨rfl,hk,hl,hr⟩⟩:=h
  ·rw [zAS hb,zC2 (zHo (s:=(b,t)) hb)]; rfl
  ·rw [zBA,zC2 zHp,zET (ihl hl (d + 1)),zC2 zF1]; rfl
  ·rcases hb with rfl | rfl
   ·rw [zAh,zC2 (zJh (s:=(3,t)) rfl hk),ihl hl d]
   ·rw [zAT,zET (ihl hl d),zC2 (zHq (s:=(5,t)) rfl hk)]; rfl
  ·rw [zBP,zET (ihl hl d),zC2 (zJi (s:=(4,t)) rfl hk),ihr hr d]
def tkK (b:Nat):Nat:=if b = 1 then 1 else if b = 2 then 2 else if b = 6 then 4 else if b = 7 then 5 else 3
theorem zJr {ns:List OpR} {s:SyR} {k:Int} (h:knB ns s = true) (hk:k = (s.1:Int) - 2):za ns s.2 k = true:=by
 obtain ⟨j,hj,_,h2,h3⟩:=zEI h
 have ht:=zKW (b:=s.1) (t:=s.2) h
 rw [h3] at ht
 rw [ZJ]
 exact ⟨j,hj,ht,by rw [h2,hk]⟩
def zH6 (ss:List SyR) (ts:List zI):Prop:=ts.length = ss.length + 1 /\ (atT ts ss.length).k = 7 /\ ∀ i (h:i < ss.length),(atT ts i).k = (tkK ss[i].1:Int) /\ (atT ts i).t = ss[i].2
theorem zI2 {ns:List OpR} (ha:zCK ns) {ss:List SyR} {ts:List zI} (ht:zH6 ss ts) (hs:Seg ns ss):∀ i,i <= ss.length -> Zt ns (false,0) (ss.take i) = some (zBB ns ts i,zA1 ts i) /\ zAu ns ts i /\ sgs ns ts 0 i = ss.take i
 | 0,_=>⟨rfl,fun j hj=>absurd hj (Nat.not_lt_zero j),rfl⟩
 | i + 1,hi=>by
  obtain ⟨h1,h2,h3⟩:=zI2 ha ht hs i (by omega)
  obtain ⟨hl,h7,hk⟩:=ht
  have hlt:i < ss.length:=by omega
  obtain ⟨k1,k2⟩:=hk i hlt
  have e:ss.take (i + 1) = ss.take i ++ [ss[i]]:=by rw [List.take_add_one,List.getElem?_eq_getElem hlt]; rfl
  have hrun:∃ st',auS ns (zBB ns ts i,zA1 ts i) ss[i] = some st':=by
   have h:=hs
   unfold Seg at h
   have e2:ss = ss.take i ++ ss[i] :: ss.drop (i + 1):=by rw [List.getElem_cons_drop,List.take_append_drop]
   rw [e2,zET h1] at h
   simp only [Zt] at h
   cases ha':auS ns (zBB ns ts i,zA1 ts i) ss[i] with
   | none=>rw [ha'] at h; cases h
   | some st'=>exact ⟨st',rfl⟩
  obtain ⟨st',hst⟩:=hrun
  have hlast:decide (i + 1 = ts.length) = false:=by simp; omega
  generalize hs':ss[i] = s at *
  have key:0 <= zP ns ts i /\ sgT ns ts i = s:=by
   unfold sgT zP
   rw [hlast]
   generalize atT ts i = t at *
   generalize zA1 ts i = op at *
   generalize zBB ns ts i = bh at *
   cases bh
   ·rw [zEM]
    rcases zCe hst with ⟨c,_⟩ | ⟨c,hkn,_⟩ | ⟨rfl,_⟩
    ·have hkk:t.k = (s.1:Int):=by rw [k1]; rcases c with c | c <;> simp [tkK,c]
     rw [if_pos (by omega),if_neg (by omega),if_neg (by omega),if_neg (by omega),if_neg (by omega)]
     exact ⟨by decide,by rw [hkk,k2]; rfl⟩
    ·have hkk:t.k = 3:=by rw [k1,c]; rfl
     have hh:za ns t.t 1 = true:=by rw [k2]; exact zJr hkn (by rw [c]; rfl)
     rw [if_neg (by omega),if_pos ⟨hkk,hh⟩,if_pos hkk]
     refine ⟨by decide,?_⟩
     rw [k2]
     obtain ⟨s1,s2⟩:=s
     simp only at c
     rw [c]
     rfl
    ·have hkk:t.k = 4:=by rw [k1]; rfl
     rw [if_pos (by omega),if_neg (by omega),if_pos hkk]
     exact ⟨by decide,rfl⟩
   ·rw [zDK]
    rcases zDV hst with ⟨c,hkn,_⟩ | ⟨c,hkn,_⟩ | ⟨rfl,hop,_⟩
    ·have hkk:t.k = 3:=by rw [k1,c]; rfl
     have hh:za ns t.t 2 = true:=by rw [k2]; exact zJr hkn (by rw [c]; rfl)
     rw [if_pos ⟨hkk,hh⟩,if_pos hkk]
     refine ⟨by decide,?_⟩
     rw [k2]
     obtain ⟨s1,s2⟩:=s
     simp only at c
     rw [c]
     rfl
    ·have hkk:t.k = 3:=by rw [k1,c]; rfl
     have hh:za ns t.t 3 = true:=by rw [k2]; exact zJr hkn (by rw [c]; rfl)
     have hn:¬ (t.k = 3 /\ za ns t.t 2 = true):=fun x=>ha t.t ⟨x.2,hh⟩
     rw [if_neg hn,if_pos ⟨hkk,hh⟩,if_pos hkk]
     refine ⟨by decide,?_⟩
     rw [k2]
     obtain ⟨s1,s2⟩:=s
     simp only at c
     rw [c]
     rfl
    ·have hkk:t.k = 5:=by rw [k1]; rfl
     rw [if_neg (by omega),if_neg (by omega),if_pos ⟨hkk,hop⟩,if_neg (by omega),if_neg (by omega),if_pos hkk]
     exact ⟨by decide,rfl⟩
  have hau:=zMC (ns:=ns) (ts:=ts) (i:=i) (by omega) key.1
  rw [key.2] at hau
  refine ⟨?_,fun j hj=>?_,?_⟩
  ·rw [e,zET h1,zC2 hau]; rfl
  ·by_cases x:j = i
   ·rw [x]; exact key.1
   ·exact h2 j (by omega)
  ·rw [zB4,h3,e,Nat.zero_add,key.2]
theorem zMY {ns:List OpR} (ha:zCK ns) {ss:List SyR} {ts:List zI} (ht:zH6 ss ts) (hs:Seg ns ss):zAu ns ts ts.length /\ sgs ns ts 0 ts.length = ss ++ [eoS] /\ ∀ j,j < ts.length -> (atT ts j).k ≠ 6:=by
 obtain ⟨h1,h2,h3⟩:=zI2 ha ht hs ss.length (Nat.le_refl _)
 obtain ⟨hl,h7,hk⟩:=ht
 rw [List.take_length] at h1 h3
 unfold Seg at hs
 rw [hs] at h1
 injection h1 with h1
 have hb:zBB ns ts ss.length = true:=(congrArg Prod.fst h1).symm
 have ho:zA1 ts ss.length = 0:=(congrArg Prod.snd h1).symm
 have hr:0 <= zP ns ts ss.length:=by
  unfold zP
  rw [hb,ho,zDK,show decide (ss.length + 1 = ts.length) = true by simp [hl],h7]
  simp
 refine ⟨fun j hj=>?_,?_,fun j hj=>?_⟩
 ·by_cases x:j = ss.length
  ·rw [x]; exact hr
  ·exact h2 j (by omega)
 ·rw [hl,zB4,h3,Nat.zero_add]
  have:sgT ns ts ss.length = eoS:=by
   unfold sgT
   rw [if_neg (by omega),if_neg (by omega),if_neg (by omega),if_pos h7]
  rw [this]
 ·by_cases x:j = ss.length
  ·rw [x,h7]; decide
  ·rw [(hk j (by omega)).1]
   unfold tkK
   split
   ·decide
   ·split
    ·decide
    ·split
     ·decide
     ·split
      ·decide
      ·decide
theorem zOT {ns:List OpR} (h:zM ns 0):¬ Pr 3 ns:=by
 rcases h with ⟨h,_⟩ | ⟨_,⟨h,_⟩ | ⟨_,⟨h,_⟩ | ⟨h,_⟩⟩⟩
 ·cases h
 ·cases h
 ·cases h
 ·exact h
theorem zMZ {T T':ET} (h:Sh T) (h':Sh T') (e:nd T 0 = nd T' 0):T = T':=by
 rw [<- zHF h,<- zHF h',e]
theorem zI3 {ns:List OpR} (hv:zM ns 0) {s:ByteArray} (hs:s.size <= 20000) {T:ET} (hw:zBY ns T) {ts:List zI} (hl:ZK ns s 0 ts) (ht:zH6 (ySy T) ts) {us:List zD} {c p:Int} (h:zAi ns s us c p) :
  (zX ns T -> hT T <= 1000 -> c = 0 /\ us = nd T 0) /\ (¬ zX ns T -> c ≠ 0 \/ us ≠ nd T 0):=by
 have hseg:Seg ns (ySy T):=zMX T hw 0
 have hap:zCK ns:=zIx (zOT hv)
 obtain ⟨f1,f2,f3⟩:=zMY hap ht hseg
 have hr:zEs ns ts us c p:=by
  rcases h with ⟨h,_⟩ | ⟨_,⟨h,_⟩ | ⟨_,ts',hl',h⟩⟩
  ·exact absurd hv h
  ·omega
  ·have e:=ZK.one _ _ 0 hl' hl
   subst e
   rcases h with ⟨i,hi,h6,_⟩ | ⟨_,⟨i,hi,_,hneg,_⟩ | ⟨_,h⟩⟩
   ·exact absurd h6 (f3 i hi)
   ·exact absurd (f1 i hi) (by omega)
   ·exact h
 unfold zEs at hr
 rw [f2] at hr
 refine ⟨fun hg hh=>?_,fun hg=>?_⟩
 ·have e:=(zJj hv hseg T).1 ⟨hg,rfl⟩
  rw [e] at hr
  rcases hr with ⟨x,_⟩ | ⟨T',r,x,y⟩
  ·cases x
  ·injection x with x
   injection x with x1 x2
   subst x1
   rcases y with ⟨y,_⟩ | ⟨_,y1,y2,_⟩
   ·omega
   ·exact ⟨y2,y1⟩
 ·rcases hr with ⟨_,_,rfl,_⟩ | ⟨T',r,x,⟨_,_,rfl,_⟩ | ⟨_,rfl,rfl,_⟩⟩
  ·exact Or.inl (by decide)
  ·exact Or.inl (by decide)
  ·refine Or.inr fun e=>hg ?_
   have hr2:=zMA hv hseg x
   simp only at hr2
   subst hr2
   have hg':=((zJj hv hseg T').2 x).1
   have:T' = T:=zMZ hg'.sh hw.sh e
   rw [<- this]
   exact hg'
end Go.Proofs.YtfboipappaonhaaGreat
namespace Go.Proofs.YtfboipappaonhaaGreat
set_option linter.unusedSimpArgs false
set_option linter.unusedVariables false
set_option maxHeartbeats 16000000
set_option maxRecDepth 100000
open Go.RowKit
open Go.Deep (BT)
def moT (bs:List UInt8):ET -> Nat -> Nat × ET
 | .nil,p=>(p,.nil)
 | .node b _ t l r,p=>
  (adv bs (moT bs r (moT bs l p).1).1,
   if nxt bs (moT bs r (moT bs l p).1).1 % 6 = 5 then .node 6 0 ByteArray.empty (.node b 0 t (moT bs l p).2 (moT bs r (moT bs l p).1).2) .nil
   else .node b 0 t (moT bs l p).2 (moT bs r (moT bs l p).1).2)
theorem zGB (bs:List UInt8):∀ (T:ET) (p:Nat),tsz T <= tsz (moT bs T p).2 /\ tsz (moT bs T p).2 <= 2 * tsz T
 | .nil,p=>⟨Nat.le_refl _,Nat.zero_le _⟩
 | .node b o t l r,p=>by
  have h1:=zGB bs l p
  have h2:=zGB bs r (moT bs l p).1
  simp only [moT]
  split <;> simp only [tsz] <;> omega
theorem zH7 (bs:List UInt8):∀ (T:ET) (p:Nat),Sh T -> Sh (moT bs T p).2
 | .nil,p,h=>h.elim
 | .node b o t l r,p,⟨_,h⟩=>by
  have hn:Sh (.node b 0 t (moT bs l p).2 (moT bs r (moT bs l p).1).2):=by
   refine ⟨rfl,?_⟩
   rcases h with ⟨hk,rfl,rfl⟩ | ⟨hk,hl,rfl⟩ | ⟨hk,hl,hr⟩
   ·exact Or.inl ⟨hk,rfl,rfl⟩
   ·exact Or.inr (Or.inl ⟨hk,zH7 bs l p hl,rfl⟩)
   ·exact Or.inr (Or.inr ⟨hk,zH7 bs l p hl,zH7 bs r _ hr⟩)
  simp only [moT]
  split
  ·exact ⟨rfl,Or.inr (Or.inl ⟨by decide,hn,rfl⟩)⟩
  ·exact hn
def TxL (n:Nat):ET -> Prop
 | .nil=>True
 | .node _ _ t l r=>t.size <= n /\ TxL n l /\ TxL n r
theorem zH8 (bs:List UInt8) (n:Nat):∀ (T:ET) (p:Nat),TxL n T -> TxL n (moT bs T p).2
 | .nil,p,h=>trivial
 | .node b o t l r,p,⟨h0,h1,h2⟩=>by
  have hn:TxL n (.node b 0 t (moT bs l p).2 (moT bs r (moT bs l p).1).2):=⟨h0,zH8 bs n l p h1,zH8 bs n r _ h2⟩
  simp only [moT]
  split
  ·exact ⟨Nat.zero_le _,hn,trivial⟩
  ·exact hn
theorem zEt (n:Nat):∀ (T:ET) (s:Nat),(∀ o ∈ nd T s,o.t.size <= n) -> TxL n T
 | .nil,s,h=>trivial
 | .node b o t l r,s,h=>by
  simp only [nd,List.mem_append,List.mem_singleton] at h
  refine ⟨?_,zEt n l s fun x hx=>h x (Or.inl (Or.inl hx)),zEt n r _ fun x hx=>h x (Or.inl (Or.inr hx))⟩
  have:=h (tN b t l r s) (Or.inr rfl)
  simpa [tN] using this
theorem zFY (ns:List OpR) (n b:Nat) (t:ByteArray) (l:Int) (T:ET) (h:TxL n T):TxL n (clT ns b t l T):=by
 unfold clT
 split
 ·exact ⟨Nat.zero_le _,h,trivial⟩
 ·exact h
def wdT (T:ET):List ByteArray:=(ySy T).map (·.2)
theorem zFZ:∀ (T:ET),(wdT T).length <= 2 * tsz T
 | .nil=>Nat.zero_le _
 | .node b o t l r=>by
  have h1:=zFZ l
  have h2:=zFZ r
  simp only [wdT,List.length_map] at h1 h2 ⊢
  simp only [ySy,tsz]
  split
  ·simp; omega
  ·split
   ·simp; omega
   ·split
    ·simp; omega
    ·split
     ·simp; omega
     ·simp; omega
theorem zJs {n:Nat} (hn:1 <= n):∀ (T:ET),TxL n T -> ∀ s ∈ wdT T,s.size <= n
 | .nil,h=>fun s hs=>by simp [wdT,ySy] at hs
 | .node b o t l r,⟨h0,h1,h2⟩=>by
  have i1:=zJs hn l h1
  have i2:=zJs hn r h2
  have c1:opn.size <= n:=hn
  have c2:zA7.size <= n:=hn
  simp only [wdT] at i1 i2 ⊢
  simp only [ySy]
  intro s hs
  split at hs
  ·simp only [List.map_cons,List.map_append,List.map_nil,List.mem_cons,List.mem_append,List.mem_singleton,List.not_mem_nil,or_false] at hs
   rcases hs with rfl | hs | rfl
   ·exact c1
   ·exact i1 s hs
   ·exact c2
  ·split at hs
   ·simp only [List.map_cons,List.mem_cons] at hs
    rcases hs with rfl | hs
    ·exact h0
    ·exact i1 s hs
   ·split at hs
    ·simp only [List.map_cons,List.map_append,List.map_nil,List.mem_cons,List.mem_append,List.mem_singleton,List.not_mem_nil,or_false] at hs
     rcases hs with hs | rfl
     ·exact i1 s hs
     ·exact h0
    ·split at hs
     ·simp only [List.map_cons,List.map_append,List.map_nil,List.mem_cons,List.mem_append] at hs
      rcases hs with hs | rfl | hs
      ·exact i1 s hs
      ·exact h0
      ·exact i2 s hs
     ·simp only [List.map_cons,List.map_nil,List.mem_singleton] at hs
      subst hs
      exact h0
def lnF (bs:List UInt8) (ns:List OpR):Nat -> Nat -> Bool -> Nat -> Nat -> Nat × Nat
 | 0,n,_,_,p=>(n,p)
 | f + 1,n,bh,op,p=>
  if ¬ ((n < 30 /\ p < bs.length) \/ bh = false \/ 0 < op) then (n,p)
  else if bh = false then
   if nxt bs p % 8 = 1 /\ n < 30 then lnF bs ns f (n + 1) false (op + 1) (adv bs p)
   else if 4 < nxt bs p % 8 /\ (atO ns (nxt bs p / 8 % ns.length)).k = 1 then lnF bs ns f (n + 1) false op (adv bs p)
   else lnF bs ns f (n + 1) true op (adv bs p)
  else if 0 < op /\ (nxt bs p % 8 = 0 \/ 30 <= n \/ bs.length <= adv bs p) then lnF bs ns f (n + 1) true (op - 1) (adv bs p)
  else if (atO ns (nxt bs p / 8 % ns.length)).k = 3 then lnF bs ns f (n + 1) true op (adv bs p)
  else if (atO ns (nxt bs p / 8 % ns.length)).k = 2 then lnF bs ns f (n + 1) false op (adv bs p)
  else if bs.length <= adv bs p then (n,adv bs p)
  else lnF bs ns f n true op (adv bs p)
def lnM (bs:List UInt8) (bh:Bool) (op p:Nat):Nat:=3 * (bs.length - p) + op + (if bh = true then 0 else 1)
def gnW (bs:List UInt8) (ns:List OpR) (p:Nat):Nat × List zD:=gen bs ns false (2 + nxt bs p % 5) (adv bs p) []
def zMa (bs:List UInt8) (ns:List OpR) (p n q:Nat):Prop:=
 (nxt bs p % 4 = 3 /\ lnF bs ns 3601 0 false 0 (adv bs p) = (n,q)) \/
 (nxt bs p % 4 ≠ 3 /\ ∃ gs v,zDU ns (gnW bs ns (adv bs p)).2 gs v /\ ((v = false /\ n = 1 /\ q = (gnW bs ns (adv bs p)).1) \/
  (v = true /\ ∃ T,Sh T /\ gs = nd T 0 /\ n = (wdT (moT bs T (gnW bs ns (adv bs p)).1).2).length /\ q = (moT bs T (gnW bs ns (adv bs p)).1).1)))
theorem zMa.one {bs:List UInt8} {ns:List OpR} {p n q n' q':Nat} (h:zMa bs ns p n q) (h':zMa bs ns p n' q'):n = n' /\ q = q':=by
 rcases h with ⟨a,e⟩ | ⟨a,gs,v,hg,h⟩ <;> rcases h' with ⟨a',e'⟩ | ⟨a',gs',v',hg',h'⟩
 ·rw [e] at e'; injection e' with e1 e2; exact ⟨e1,e2⟩
 ·exact absurd a a'
 ·exact absurd a' a
 ·obtain ⟨rfl,rfl⟩:=hg.one hg'
  rcases h with ⟨rfl,rfl,rfl⟩ | ⟨rfl,T,hT,hgs,rfl,rfl⟩ <;> rcases h' with ⟨b',rfl,rfl⟩ | ⟨b',T',hT',hgs',rfl,rfl⟩
  ·exact ⟨rfl,rfl⟩
  ·cases b'
  ·cases b'
  ·obtain rfl:=zMZ hT hT' (hgs.symm.trans hgs')
   exact ⟨rfl,rfl⟩
theorem zJt {ns:List OpR} {xs gs:List zD} (hx:xs.length <= 127) (h16:∀ o ∈ xs,o.t.size <= 16) (h:zDU ns xs gs true):∃ T,Sh T /\ gs = nd T 0 /\ tsz T <= 254 /\ TxL 16 T:=by
 rcases h with ⟨⟨⟨_,ho,_⟩,_⟩,_,rfl⟩ | ⟨_,hv,_⟩
 ·obtain ⟨T,hs,hz,hxs⟩:=zIq ho
  have hp:=hs.pos
  have hl:zDG xs T 0:=by rw [hxs]; exact zAb T
  have e:=zNL ns xs T 0 hs hl 0 0
  have e0:0 + tsz T - 1 = xs.length - 1:=by omega
  rw [e0] at e
  have hf:=zBW T 0 hs hl
  rw [e0] at hf
  have hg:=zCu ns xs (xs.length) (xs.length - 1) 0 (by omega) hf 0 0
  rw [e,ze] at hg
  refine ⟨grT ns T 0,zON ns T 0 hs,e,by omega,?_⟩
  have h0:TxL 16 T:=zEt 16 T 0 (by rw [<- hxs]; exact h16)
  have:∀ (T:ET) (l:Int),TxL 16 T -> TxL 16 (grT ns T l):=by
   intro T
   induction T with
   | nil=>intro l _; exact trivial
   | node b o t l r ihl ihr=>
    rintro k ⟨a0,a1,a2⟩
    simp only [grT]
    split
    ·first | exact ihl _ a1 | exact ihl k a1
    ·first | exact zFY _ _ _ _ _ _ ⟨a0,ihl _ a1,ihr _ a2⟩ | (split <;> first | exact zFY _ _ _ _ _ _ ⟨a0,trivial,trivial⟩ | exact zFY _ _ _ _ _ _ ⟨a0,ihl _ a1,trivial⟩ | exact zFY _ _ _ _ _ _ ⟨a0,ihl _ a1,ihr _ a2⟩)
  exact this T 0 h0
 ·cases hv
theorem zMb:∀ {T:ET},Sh T -> 1 <= (ySy T).length
 | .nil,h=>h.elim
 | .node b o t l r,⟨_,h⟩=>by
  simp only [ySy]
  split
  ·simp
  ·split
   ·simp
   ·split
    ·simp
    ·split
     ·simp; omega
     ·simp
end Go.Proofs.YtfboipappaonhaaGreat
namespace Go.Proofs.YtfboipappaonhaaGreat
set_option linter.unusedSimpArgs false
set_option linter.unusedVariables false
set_option maxHeartbeats 16000000
set_option maxRecDepth 100000
open Go.RowKit
structure LnP (bs:List UInt8) (ns:List OpR) (p0 n:Nat) (bh:Bool) (op p f:Nat):Prop where
 me:lnM bs bh op p <= f
 eq:lnF bs ns 3601 0 false 0 p0 = lnF bs ns f n bh op p
 one:bh = true -> 1 <= n
 nf:n + f <= 3601
 opn:op <= n
theorem LnP.start (bs:List UInt8) (ns:List OpR) (p0:Nat) (hl:bs.length <= 1200):LnP bs ns p0 0 false 0 p0 3601:=
 ⟨by unfold lnM; simp; omega,rfl,(fun h=>by cases h),by omega,Nat.le_refl _⟩
theorem LnP.len {bs:List UInt8} {ns:List OpR} {p0 n:Nat} {bh:Bool} {op p f:Nat} (h:LnP bs ns p0 n bh op p f):n <= 3601 /\ op <= 3601:=by have:=h.nf; have:=h.opn; omega
theorem LnP.fin {bs:List UInt8} {ns:List OpR} {p0 n:Nat} {bh:Bool} {op p f:Nat} (h:LnP bs ns p0 n bh op p f) (hc:¬ ((n < 30 /\ p < bs.length) \/ bh = false \/ 0 < op)):lnF bs ns 3601 0 false 0 p0 = (n,p):=by
 rw [h.eq]
 cases f with
 | zero=>rfl
 | succ f=>simp only [lnF]; rw [if_pos hc]
theorem zFa {bs:List UInt8} {p:Nat} (h:nxt bs p ≠ 0):p < bs.length:=by
 by_cases hp:p < bs.length
 ·exact hp
 ·exact absurd (by simp [nxt,hp]) h
theorem LnP.go {bs:List UInt8} {ns:List OpR} {p0 n:Nat} {bh:Bool} {op p f:Nat} (h:LnP bs ns p0 n bh op p f) {n':Nat} {bh':Bool} {op' p':Nat}
  (hs:∀ f,lnF bs ns (f + 1) n bh op p = lnF bs ns f n' bh' op' p') (hm:lnM bs bh' op' p' < lnM bs bh op p) (hn:n' <= n + 1) (hop:op' <= n') (ho:bh' = true -> 1 <= n') :
  ∃ f',f' < f /\ LnP bs ns p0 n' bh' op' p' f':=by
 have h1:=h.me
 have h2:=h.nf
 cases f with
 | zero=>omega
 | succ f=>exact ⟨f,by omega,by omega,h.eq.trans (hs f),ho,by omega,hop⟩
theorem LnP.stepA {bs:List UInt8} {ns:List OpR} {p0 n:Nat} {op p f k:Nat} (h:LnP bs ns p0 n false op p f) (hk:k = nxt bs p) (h1:k % 8 = 1) (hn:n < 30) :
  ∃ f',f' < f /\ LnP bs ns p0 (n + 1) false (op + 1) (adv bs p) f':=by
 subst hk
 have hp:p < bs.length:=zFa (by omega)
 have ha:adv bs p = p + 1:=by simp [adv,hp]
 have ho:=h.opn
 refine h.go (fun f=>?_) ?_ (Nat.le_refl _) (by omega) (fun h=>by cases h)
 ·simp only [lnF]
  rw [if_neg (by simp),if_pos trivial,if_pos ⟨h1,hn⟩]
 ·unfold lnM; rw [ha]; simp; omega
theorem LnP.stepB {bs:List UInt8} {ns:List OpR} {p0 n:Nat} {op p f k:Nat} (h:LnP bs ns p0 n false op p f) (hk:k = nxt bs p) (h1:¬ (k % 8 = 1 /\ n < 30)) (h2:4 < k % 8) (h3:(atO ns (k / 8 % ns.length)).k = 1) :
  ∃ f',f' < f /\ LnP bs ns p0 (n + 1) false op (adv bs p) f':=by
 subst hk
 have hp:p < bs.length:=zFa (by omega)
 have ha:adv bs p = p + 1:=by simp [adv,hp]
 have ho:=h.opn
 refine h.go (fun f=>?_) ?_ (Nat.le_refl _) (by omega) (fun h=>by cases h)
 ·simp only [lnF]
  rw [if_neg (by simp),if_pos trivial,if_neg h1,if_pos ⟨h2,h3⟩]
 ·unfold lnM; rw [ha]; simp; omega
theorem LnP.stepC {bs:List UInt8} {ns:List OpR} {p0 n:Nat} {op p f k:Nat} (h:LnP bs ns p0 n false op p f) (hk:k = nxt bs p) (h1:¬ (k % 8 = 1 /\ n < 30)) (h2:¬ (4 < k % 8 /\ (atO ns (k / 8 % ns.length)).k = 1)) :
  ∃ f',f' < f /\ LnP bs ns p0 (n + 1) true op (adv bs p) f':=by
 subst hk
 have ha:p <= adv bs p:=by unfold adv; split <;> omega
 have ho:=h.opn
 refine h.go (fun f=>?_) ?_ (Nat.le_refl _) (by omega) (fun _=>by omega)
 ·simp only [lnF]
  rw [if_neg (by simp),if_pos trivial,if_neg h1,if_neg h2]
 ·unfold lnM; simp; omega
theorem LnP.stepD {bs:List UInt8} {ns:List OpR} {p0 n:Nat} {op p f k:Nat} (h:LnP bs ns p0 n true op p f) (hk:k = nxt bs p) (h1:0 < op) (h2:k % 8 = 0 \/ 30 <= n \/ bs.length <= adv bs p) :
  ∃ f',f' < f /\ LnP bs ns p0 (n + 1) true (op - 1) (adv bs p) f':=by
 subst hk
 have ha:p <= adv bs p:=by unfold adv; split <;> omega
 have ho:=h.opn
 refine h.go (fun f=>?_) ?_ (Nat.le_refl _) (by omega) (fun _=>by omega)
 ·simp only [lnF]
  rw [if_neg (fun h=>h (Or.inr (Or.inr h1))),if_neg (by simp),if_pos ⟨h1,h2⟩]
 ·unfold lnM; simp; omega
theorem LnP.stepE {bs:List UInt8} {ns:List OpR} {p0 n:Nat} {op p f k:Nat} (h:LnP bs ns p0 n true op p f) (hk:k = nxt bs p) (hp:p < bs.length) (hn:n < 30) (h2:¬ (0 < op /\ (k % 8 = 0 \/ 30 <= n \/ bs.length <= adv bs p))) :
  ((atO ns (k / 8 % ns.length)).k = 3 -> ∃ f',f' < f /\ LnP bs ns p0 (n + 1) true op (adv bs p) f') /\
  ((atO ns (k / 8 % ns.length)).k = 2 -> ∃ f',f' < f /\ LnP bs ns p0 (n + 1) false op (adv bs p) f') /\
  ((atO ns (k / 8 % ns.length)).k ≠ 3 -> (atO ns (k / 8 % ns.length)).k ≠ 2 -> ¬ bs.length <= adv bs p -> ∃ f',f' < f /\ LnP bs ns p0 n true op (adv bs p) f') /\
  ((atO ns (k / 8 % ns.length)).k ≠ 3 -> (atO ns (k / 8 % ns.length)).k ≠ 2 -> bs.length <= adv bs p -> lnF bs ns 3601 0 false 0 p0 = (n,adv bs p)):=by
 subst hk
 have ha:adv bs p = p + 1:=by simp [adv,hp]
 have ho:=h.opn
 have h1:=h.one rfl
 have hcn:¬ ¬ ((n < 30 /\ p < bs.length) \/ (true:Bool) = false \/ 0 < op):=fun h=>h (Or.inl ⟨hn,hp⟩)
 have hme:=h.me
 refine ⟨fun h3=>h.go (fun f=>?_) ?_ (Nat.le_refl _) (by omega) (fun _=>by omega),fun h3=>h.go (fun f=>?_) ?_ (Nat.le_refl _) (by omega) (fun h=>by cases h),fun h3 h4 h5=>h.go (fun f=>?_) ?_ (by omega) (by omega) (fun _=>h1),fun h3 h4 h5=>?_⟩
 ·simp only [lnF]
  rw [if_neg hcn,if_neg (by simp),if_neg h2,if_pos h3]
 ·unfold lnM; rw [ha]; simp; omega
 ·simp only [lnF]
  rw [if_neg hcn,if_neg (by simp),if_neg h2,if_neg (by rw [h3]; decide),if_pos h3]
 ·unfold lnM; rw [ha]; simp; omega
 ·simp only [lnF]
  rw [if_neg hcn,if_neg (by simp),if_neg h2,if_neg h3,if_neg h4,if_neg h5]
 ·unfold lnM; rw [ha]; simp; omega
 ·rw [h.eq]
  cases f with
  | zero=>unfold lnM at hme; simp at hme; omega
  | succ f=>
   simp only [lnF]
   rw [if_neg hcn,if_neg (by simp),if_neg h2,if_neg h3,if_neg h4,if_pos h5]
end Go.Proofs.YtfboipappaonhaaGreat
