import Derived.Test.YtfboipappaonhaaGreatM01
import Derived.Test.YtfboipappaonhaaGreatM24
import Derived.Test.YtfboipappaonhaaGreatM28
namespace Go.Proofs.YtfboipappaonhaaGreat
set_option linter.unusedSimpArgs false
set_option linter.unusedVariables false
set_option maxHeartbeats 16000000
set_option maxRecDepth 100000
open Go.RowKit
open Go.Deep (BT)
def nbB (s:SyR):Bool:=decide (s.1 ≠ 6 /\ s.1 ≠ 7)
def nb:List SyR -> Nat
 | []=>0
 | s :: r=>(if nbB s = true then 1 else 0) + nb r
theorem zHK:∀ (a b:List SyR),nb (a ++ b) = nb a + nb b
 | [],b=>by simp [nb]
 | s :: r,b=>by simp only [List.cons_append,nb,zHK r b]; omega
theorem zJl {ns:List OpR}:∀ (T:ET),ZS ns T -> nb (ySy T) = tsz (erT T):=by
 intro T
 induction T with
 | nil=>intro h; exact h.elim
 | node b o t l r ihl ihr=>
  rintro ⟨_,h⟩
  rcases h with ⟨hb,rfl,rfl⟩ | ⟨rfl,_,hl,rfl⟩ | ⟨hb,_,hl,rfl⟩ | ⟨rfl,_,hl,hr⟩
  ·have e:ySy (.node b o t .nil .nil:ET) = [(b,t)]:=by
    simp only [ySy]; rw [if_neg (by omega),if_neg (by omega),if_neg (by omega),if_neg (by omega)]
   rw [e]
   have hb':nbB (b,t) = true:=by simp only [nbB,decide_eq_true_eq]; omega
   simp only [nb,hb',if_true,erT,if_neg (show ¬ b = 6 by omega),tsz]
  ·have e:ySy (.node 6 o t l .nil:ET) = (6,opn) :: (ySy l ++ [(7,zAl)]):=by simp [ySy]
   rw [e]
   have h6:nbB (6,opn) = false:=by simp [nbB]
   have h7:nbB (7,zAl) = false:=by simp [nbB]
   simp only [nb,zHK,h6,h7,erT,if_true,ihl hl]
   simp
  ·have hb':nbB (b,t) = true:=by simp only [nbB,decide_eq_true_eq]; omega
   rcases hb with rfl | rfl
   ·have e:ySy (.node 3 o t l .nil:ET) = (3,t) :: ySy l:=by simp [ySy]
    rw [e]
    simp only [nb,hb',if_true,ihl hl,erT,tsz]
    simp [tsz]; omega
   ·have e:ySy (.node 5 o t l .nil:ET) = ySy l ++ [(5,t)]:=by simp [ySy]
    rw [e]
    simp only [nb,zHK,hb',if_true,ihl hl,erT,tsz]
    simp [tsz]
  ·have hb':nbB (4,t) = true:=by simp [nbB]
   have e:ySy (.node 4 o t l r:ET) = ySy l ++ ((4,t) :: ySy r):=by simp [ySy]
   rw [e]
   simp only [nb,zHK,hb',if_true,ihl hl,ihr hr,erT]
   simp [tsz]; omega
theorem zIC:∀ (a a' b b':List SyR) (x x':SyR),a ++ x :: b = a' ++ x' :: b' -> nbB x = true -> nbB x' = true -> nb a = nb a' -> a = a' /\ b = b'
 | [],[],b,b',x,x',h,_,_,_=>by
  simp at h
  exact ⟨rfl,h.2⟩
 | [],s :: r,b,b',x,x',h,hx,_,hn=>by
  simp at h
  obtain ⟨rfl,_⟩:=h
  simp [nb,hx] at hn
  omega
 | s :: r,[],b,b',x,x',h,_,hx',hn=>by
  simp at h
  obtain ⟨rfl,_⟩:=h
  simp [nb,hx'] at hn
 | s :: r,s' :: r',b,b',x,x',h,hx,hx',hn=>by
  simp only [List.cons_append,List.cons.injEq] at h
  obtain ⟨rfl,h⟩:=h
  simp only [nb] at hn
  obtain ⟨e1,e2⟩:=zIC r r' b b' x x' h hx hx' (by omega)
  exact ⟨by rw [e1],e2⟩
theorem zLe {ns:List OpR} {q q':Bool} {d e:Nat} {s:SyR} (h:auS ns (q,d) s = some (q',e)):auS ns (q,d + 1) s = some (q',e + 1):=by
 unfold auS at h ⊢
 by_cases hq:q = false
 ·simp only [hq,if_true] at h ⊢
  by_cases h1:s.1 = 1 \/ s.1 = 2
  ·rw [if_pos h1] at h ⊢
   injection h with h; injection h with h1 h2; subst h1; subst h2; rfl
  ·rw [if_neg h1] at h ⊢
   by_cases h2:s.1 = 3 /\ knB ns s = true
   ·rw [if_pos h2] at h ⊢
    injection h with h; injection h with h1 h2; subst h1; subst h2; rfl
   ·rw [if_neg h2] at h ⊢
    by_cases h3:zKD s = true
    ·rw [if_pos h3] at h ⊢
     injection h with h; injection h with h1 h2; subst h1; subst h2; rfl
    ·rw [if_neg h3] at h; cases h
 ·simp only [hq,if_false] at h ⊢
  by_cases h1:s.1 = 4 /\ knB ns s = true
  ·rw [if_pos h1] at h ⊢
   injection h with h; injection h with h1 h2; subst h1; subst h2; rfl
  ·rw [if_neg h1] at h ⊢
   by_cases h2:s.1 = 5 /\ knB ns s = true
   ·rw [if_pos h2] at h ⊢
    injection h with h; injection h with h1 h2; subst h1; subst h2; rfl
   ·rw [if_neg h2] at h ⊢
    by_cases h3:zK9 s = true /\ 0 < d
    ·rw [if_pos h3] at h
     injection h with h; injection h with h4 h5; subst h4; subst h5
     simp [h3.1]
     omega
    ·rw [if_neg h3] at h; cases h
theorem zGW {ns:List OpR}:∀ (ss:List SyR) {q q':Bool} {d e:Nat},zAo ns (q,d) ss = some (q',e) -> zAo ns (q,d + 1) ss = some (q',e + 1)
 | [],q,q',d,e,h=>by
  simp only [zAo] at h ⊢
  injection h with h; injection h with h1 h2; subst h1; subst h2; rfl
 | s :: r,q,q',d,e,h=>by
  simp only [zAo] at h ⊢
  cases hs:auS ns (q,d) s with
  | none=>rw [hs] at h; cases h
  | some st=>
   rw [hs] at h
   obtain ⟨q1,d1⟩:=st
   rw [zLe hs]
   exact zGW r h
theorem zNS {ns:List OpR} (d:Nat):auS ns (false,d) (6,opn) = some (false,d + 1):=by
 have h:zKD (6,opn) = true:=by decide
 simp [auS,h]
theorem zLf {ns:List OpR} {l1 l2 r2:ET} {b2:Nat} {t2:ByteArray} (h1:ZS ns l1) (h2:ZS ns (.node b2 0 t2 l2 r2)) (h6:b2 ≠ 6):(6,opn) :: (ySy l1 ++ [(7,zAl)]) ≠ ySy (.node b2 0 t2 l2 r2:ET):=by
 intro e
 obtain ⟨_,h⟩:=h2
 rcases h with ⟨hb,rfl,rfl⟩ | ⟨hb,_⟩ | ⟨hb,_,hl,rfl⟩ | ⟨rfl,_,hl,hr⟩
 ·have e2:ySy (.node b2 0 t2 .nil .nil:ET) = [(b2,t2)]:=by
   simp only [ySy]; rw [if_neg (by omega),if_neg (by omega),if_neg (by omega),if_neg (by omega)]
  rw [e2] at e
  injection e with e _
  injection e with e _
  omega
 ·exact h6 hb
 ·rcases hb with rfl | rfl
  ·have e2:ySy (.node 3 0 t2 l2 .nil:ET) = (3,t2) :: ySy l2:=by simp [ySy]
   rw [e2] at e
   injection e with e _
   injection e with e _
   omega
  ·have e2:ySy (.node 5 0 t2 l2 .nil:ET) = ySy l2 ++ [(5,t2)]:=by simp [ySy]
   rw [e2,<- List.cons_append] at e
   have:=(List.append_inj' e rfl).2
   injection this with e _
   injection e with e _
   omega
 ·have e2:ySy (.node 4 0 t2 l2 r2:ET) = ySy l2 ++ ((4,t2) :: ySy r2):=by simp [ySy]
  rw [e2] at e
  have hp:=zGy hl.sh
  have hq:=zGy hr.sh
  have hrun:=zFY l2 hl 0
  have hrun1:=zFY l1 h1 0
  cases hP:ySy l2 with
  | nil=>rw [hP] at hp; simp at hp
  | cons x P=>
   rw [hP] at e hrun
   simp only [List.cons_append,List.cons.injEq] at e
   obtain ⟨rfl,e⟩:=e
   obtain ⟨Q,z,hz⟩:∃ Q z,ySy r2 = Q ++ [z]:=by
    rcases List.eq_nil_or_concat (ySy r2) with h | ⟨Q,z,h⟩
    ·rw [h] at hq; simp at hq
    ·exact ⟨Q,z,by simpa using h⟩
   rw [hz,<- List.cons_append,<- List.append_assoc] at e
   have e3:=(List.append_inj' e rfl).1
   rw [e3,zAz] at hrun1
   rw [zBp (zNS 0)] at hrun
   cases hP1:zAo ns (false,0) P with
   | none=>rw [hP1] at hrun1; cases hrun1
   | some st=>
    obtain ⟨q1,d1⟩:=st
    have:=zGW P hP1
    rw [this] at hrun
    injection hrun with hrun
    injection hrun with _ hrun
    omega
theorem zCA {ns:List OpR}:∀ (n:Nat) (T1 T2:ET),tsz T1 + tsz T2 < n -> ZS ns T1 -> ZS ns T2 -> ySy T1 = ySy T2 -> erT T1 = erT T2 -> T1 = T2
 | 0,_,_,h,_,_,_,_=>by omega
 | n + 1,.nil,_,_,h1,_,_,_=>h1.elim
 | n + 1,.node _ _ _ _ _,.nil,_,_,h2,_,_=>h2.elim
 | n + 1,.node b1 o1 t1 l1 r1,.node b2 o2 t2 l2 r2,hn,h1,h2,hy,he=>by
  have o1':=h1.1
  have o2':=h2.1
  subst o1'
  subst o2'
  simp only [tsz] at hn
  have w1:=h1.2
  have w2:=h2.2
  by_cases e1:b1 = 6
  ·subst e1
   obtain ⟨ht1,hl1,rfl⟩:t1 = ByteArray.empty /\ ZS ns l1 /\ r1 = .nil:=by
    rcases w1 with ⟨h | h,_⟩ | ⟨_,a,b,c⟩ | ⟨h | h,_⟩ | ⟨h,_⟩
    ·omega
    ·omega
    ·exact ⟨a,b,c⟩
    ·omega
    ·omega
    ·omega
   have y1:ySy (.node 6 0 t1 l1 .nil:ET) = (6,opn) :: (ySy l1 ++ [(7,zAl)]):=by simp [ySy]
   rw [y1] at hy
   by_cases e2:b2 = 6
   ·subst e2
    obtain ⟨ht2,hl2,rfl⟩:t2 = ByteArray.empty /\ ZS ns l2 /\ r2 = .nil:=by
     rcases w2 with ⟨h | h,_⟩ | ⟨_,a,b,c⟩ | ⟨h | h,_⟩ | ⟨h,_⟩
     ·omega
     ·omega
     ·exact ⟨a,b,c⟩
     ·omega
     ·omega
     ·omega
    have y2:ySy (.node 6 0 t2 l2 .nil:ET) = (6,opn) :: (ySy l2 ++ [(7,zAl)]):=by simp [ySy]
    rw [y2] at hy
    injection hy with _ hy
    have hy:=(List.append_inj' hy rfl).1
    simp only [erT,if_true] at he
    rw [zCA n l1 l2 (by omega) hl1 hl2 hy he,ht1,ht2]
   ·exact absurd hy (zLf hl1 h2 e2)
  ·by_cases e2:b2 = 6
   ·subst e2
    obtain ⟨ht2,hl2,rfl⟩:t2 = ByteArray.empty /\ ZS ns l2 /\ r2 = .nil:=by
     rcases w2 with ⟨h | h,_⟩ | ⟨_,a,b,c⟩ | ⟨h | h,_⟩ | ⟨h,_⟩
     ·omega
     ·omega
     ·exact ⟨a,b,c⟩
     ·omega
     ·omega
     ·omega
    have y2:ySy (.node 6 0 t2 l2 .nil:ET) = (6,opn) :: (ySy l2 ++ [(7,zAl)]):=by simp [ySy]
    rw [y2] at hy
    exact absurd hy.symm (zLf hl2 h1 e1)
   ·simp only [erT,if_neg e1,if_neg e2] at he
    injection he with hb _ ht hl hr
    subst hb
    subst ht
    rcases w1 with ⟨hb,rfl,rfl⟩ | ⟨h,_⟩ | ⟨hb,_,hl1,rfl⟩ | ⟨hb,_,hl1,hr1⟩
    ·rcases w2 with ⟨_,rfl,rfl⟩ | ⟨h,_⟩ | ⟨h,_⟩ | ⟨h,_⟩
     ·rfl
     ·omega
     ·omega
     ·omega
    ·exact absurd h e1
    ·rcases w2 with ⟨h,_⟩ | ⟨h,_⟩ | ⟨_,_,hl2,rfl⟩ | ⟨h,_⟩
     ·omega
     ·omega
     ·rcases hb with rfl | rfl
      ·have y1:ySy (.node 3 0 t1 l1 .nil:ET) = (3,t1) :: ySy l1:=by simp [ySy]
       have y2:ySy (.node 3 0 t1 l2 .nil:ET) = (3,t1) :: ySy l2:=by simp [ySy]
       rw [y1,y2] at hy
       injection hy with _ hy
       rw [zCA n l1 l2 (by omega) hl1 hl2 hy hl]
      ·have y1:ySy (.node 5 0 t1 l1 .nil:ET) = ySy l1 ++ [(5,t1)]:=by simp [ySy]
       have y2:ySy (.node 5 0 t1 l2 .nil:ET) = ySy l2 ++ [(5,t1)]:=by simp [ySy]
       rw [y1,y2] at hy
       rw [zCA n l1 l2 (by omega) hl1 hl2 (List.append_inj' hy rfl).1 hl]
     ·omega
    ·rcases w2 with ⟨h,_⟩ | ⟨h,_⟩ | ⟨h,_⟩ | ⟨_,_,hl2,hr2⟩
     ·omega
     ·omega
     ·omega
     ·subst hb
      have y1:ySy (.node 4 0 t1 l1 r1:ET) = ySy l1 ++ ((4,t1) :: ySy r1):=by simp [ySy]
      have y2:ySy (.node 4 0 t1 l2 r2:ET) = ySy l2 ++ ((4,t1) :: ySy r2):=by simp [ySy]
      rw [y1,y2] at hy
      have h4:nbB (4,t1) = true:=by simp [nbB]
      obtain ⟨e3,e4⟩:=zIC _ _ _ _ _ _ hy h4 h4 (by rw [zJl l1 hl1,zJl l2 hl2,hl])
      rw [zCA n l1 l2 (by omega) hl1 hl2 e3 hl,zCA n r1 r2 (by omega) hr1 hr2 e4 hr]
theorem zu.sizedN {xs:List zD} (h:zu xs):Zj xs:=fun i hi=>by have:=(h.2.2.2 i hi).1; unfold maxLen; omega
theorem zHL {ns:List OpR} (hv:zO ns 0) {s:ByteArray} (hs:s.size <= 20000) {T:ET} (hw:ZS ns T) {ts:List zS} (hl:ZP ns s 0 ts) (ht:zHH (ySy T) ts) {us:List zD} {p:Int} (h:zCw ns s us 0 p) :
  ∃ T',zl ns T' /\ ySy T' = ySy T /\ us = nd T' 0:=by
 have hseg:Seg ns (ySy T):=zFY T hw 0
 have hap:zCu ns:=zH3 (zNN hv)
 obtain ⟨f1,f2,f3⟩:=zLX hap ht hseg
 have hr:zIt ns ts us 0 p:=by
  rcases h with ⟨h,_⟩ | ⟨_,⟨h,_⟩ | ⟨_,ts',hl',h⟩⟩
  ·exact absurd hv h
  ·omega
  ·have e:=ZP.one _ _ 0 hl' hl
   subst e
   rcases h with ⟨i,hi,h6,_⟩ | ⟨_,⟨i,hi,_,hneg,_⟩ | ⟨_,h⟩⟩
   ·exact absurd h6 (f3 i hi)
   ·exact absurd (f1 i hi) (by omega)
   ·exact h
 unfold zIt at hr
 rw [f2] at hr
 rcases hr with ⟨_,_,h0,_⟩ | ⟨T',r,x,⟨_,_,h0,_⟩ | ⟨_,rfl,_,_⟩⟩
 ·cases h0
 ·cases h0
 ·have hr2:=zNI hv hseg x
  simp only at hr2
  subst hr2
  obtain ⟨a,b⟩:=(zNH hv hseg T').2 x
  exact ⟨T',a,b,rfl⟩
structure LsT (ns:List OpR) (L B:ET):Prop where
 w:ZS ns L
 z:tsz L <= 20000
 tx:TxB L
 sz:Zj (nd L 0)
 ok:∀ c,zAy ns (nd L 0) c -> c = 3
 par:∀ vs p,zCw ns (yTx (ySy L)) vs 0 p -> ∀ ws v,zBA vs ws v -> ws ≠ nd B 0
structure MnT (ns:List OpR) (us gs:List zD) (T G:ET):Prop where
 sh:Sh (erT T)
 z:tsz (erT T) <= 20000
 bare:∀ vs v,zBA us vs v -> vs = nd (erT T) 0
 x:gs = nd G 0
 gsh:Sh G
 ord:zu gs
 ok:∀ c,zAy ns gs c -> c = 0
 er:∀ vs v,zBA gs vs v -> vs = nd (erT T) 0
 cnt:gs.length = tsz (erT T) + gc G
 less:∀ stay:Nat -> Bool,(∃ i,i < gc G /\ stay i = false) -> LsT ns (rmT stay G 0) (erT T)
theorem zNT:∀ (T:ET),Sh T -> tsz T = tsz (erT T) + gc T:=by
 intro T
 induction T with
 | nil=>intro h; exact h.elim
 | node b o t l r ihl ihr=>
  rintro ⟨_,h⟩
  have hl:tsz l = tsz (erT l) + gc l:=by
   rcases h with ⟨_,rfl,_⟩ | ⟨_,hl,_⟩ | ⟨_,hl,_⟩
   ·rfl
   ·exact ihl hl
   ·exact ihl hl
  have hr:tsz r = tsz (erT r) + gc r:=by
   rcases h with ⟨_,_,rfl⟩ | ⟨_,_,rfl⟩ | ⟨_,_,hr⟩
   ·rfl
   ·rfl
   ·exact ihr hr
  by_cases e:b = 6
  ·subst e
   have hr0:r = .nil:=by
    rcases h with ⟨h,_⟩ | ⟨_,_,h⟩ | ⟨h,_⟩
    ·exact absurd h (by decide)
    ·exact h
    ·exact absurd h (by decide)
   subst hr0
   simp only [erT,gc,if_true,tsz]
   omega
  ·simp only [erT,gc,if_neg e,tsz]
   omega
theorem zNU:∀ (T:ET),TxT T -> TxB T:=by
 intro T
 induction T with
 | nil=>intro _; trivial
 | node b o t l r ihl ihr=>
  rintro ⟨h1,h2,h3⟩
  exact ⟨h1.1,ihl h2,ihr h3⟩
theorem zKL {ns:List OpR} (hv:zO ns 0) {T:ET} (h:ZS ns T):(0:Int) <= lvT ns T:=by
 cases T with
 | nil=>exact h.elim
 | node b o t l r=>
  simp only [lvT]
  by_cases hb:b = 3 \/ b = 4 \/ b = 5
  ·have hkn:knB ns (b,t) = true:=by
    rcases h.2 with ⟨h | h,_⟩ | ⟨h,_⟩ | ⟨_,hk,_⟩ | ⟨_,hk,_⟩
    ·omega
    ·omega
    ·omega
    ·exact hk
    ·exact hk
   have f:=opF hv (s:=(b,t)) (by omega) hkn
   have:=f.lo
   omega
  ·rw [Z2 ns b t hb]
   omega
theorem zNl {ns:List OpR} {us gs:List zD} (h:zBE ns us gs true):∃ T G,MnT ns us gs T G:=by
 rcases h with ⟨hh,_,hgs⟩ | ⟨_,h,_⟩
 case inr=>cases h
 obtain ⟨G,hG,hgd,_,hz,hgS,_⟩:=zIu hh
 obtain ⟨⟨hv,hord,hkn⟩,_⟩:=hh
 obtain ⟨T,hw,htz,hx⟩:=zEU hord hkn
 have hto:zEI us = T:=by rw [hx]; exact zCx hw.sh
 rw [hto] at hG
 rw [hgS] at hgs
 have hli:zBR us T 0:=by rw [hx]; exact Zu T
 have htx:TxT T:=zLa hord.2.2.2 T 0 hli (by omega)
 have htg:TxT G:=by rw [hG]; exact zMT ns T 0 htx
 have hog:zu (nd G 0):=zIw hgd.well.sh hz htg
 have hsv:ZZ ns:=zA9 (zCe hv).1
 have hz2:=zHJ T
 have heg:erT G = erT T:=by rw [hG,zMU]
 refine ⟨T,G,zHI T hw.sh,by have:=hord.2.1; omega,fun vs v he=>?_,hgs,hgd.well.sh,by rw [hgs]; exact hog,fun c hc=>?_,fun vs v he=>?_,?_,fun stay hst=>?_⟩
 ·rcases he with ⟨_,_,rfl⟩ | ⟨hno,_,_⟩
  ·have:=zLc hw.sh
   rw [<- hx] at this
   exact this
  ·exact absurd hord hno
 ·rw [hgs] at hc
  exact hc.one (zKK hv hgd hz htg)
 ·rw [hgs] at he
  rcases he with ⟨_,_,rfl⟩ | ⟨hno,_,_⟩
  ·rw [zLc hgd.well.sh,heg]
  ·exact absurd hog hno
 ·rw [hgs,zj,<- heg]
  exact zNT G hgd.well.sh
 ·have hwl:ZS ns (rmT stay G 0):=zLd stay G 0 hgd.well
  have htl:TxT (rmT stay G 0):=zMX stay G 0 htg
  have hzl:tsz (rmT stay G 0) <= 20000:=by have:=zMY stay G 0; omega
  have hol:zu (nd (rmT stay G 0) 0):=zIw hwl.sh hzl htl
  have hbad:¬ zl ns (rmT stay G 0):=by
   intro hg
   obtain ⟨i,hi,hs⟩:=hst
   have:=zNR (ns:=ns) stay T 0 0 hw ⟨i,Nat.zero_le _,by rw [<- hG]; omega,hs⟩
   rw [<- hG] at this
   exact this ⟨hg,zKL hv hwl⟩
  refine ⟨hwl,hzl,zNU _ htl,hol.sizedN,fun c hc=>?_,fun vs p hp ws v hws heq=>?_⟩
  ·rcases hc with ⟨h,_⟩ | ⟨_,⟨h,_⟩ | ⟨_,⟨_,h⟩ | ⟨h,_⟩⟩⟩
   ·exact absurd hv h
   ·exact absurd ⟨hol,zIB hwl⟩ h
   ·exact h
   ·exact absurd ((zIA (ns:=ns) (rmT stay G 0) 0 hwl (Zu _)).1 (fun i _ hi=>h i (by rw [zj]; omega))) hbad
  ·have hwd:=zLY (ns:=ns) (xs:=nd (rmT stay G 0) 0) hol.2.2.2 (rmT stay G 0) 0 hwl (Zu _) (by rw [zj]; omega)
   by_cases h20:(yTx (ySy (rmT stay G 0))).size <= 20000
   ·have hlx:=zHw hsv (gwF ByteArray.empty (ySy (rmT stay G 0))) ByteArray.empty (zGV (ySy (rmT stay G 0)) ByteArray.empty (fun i hi=>by simp at hi) hwd)
    obtain ⟨T',hg',hy',rfl⟩:=zHL hv h20 hwl hlx (zMS _ _ _) hp
    rcases hws with ⟨_,_,rfl⟩ | ⟨_,_,rfl⟩
    ·rw [zLc hg'.well.sh] at heq
     have e1:erT T' = erT T:=zNO (zHI T' hg'.well.sh) (zHI T hw.sh) heq
     have e2:erT T' = erT (rmT stay G 0):=by rw [e1,zMW,heg]
     have:=zCA (ns:=ns) _ T' (rmT stay G 0) (Nat.lt_succ_self _) hg'.well hwl hy' e2
     rw [this] at hg'
     exact hbad hg'
    ·have:=congrArg List.length heq
     rw [zj] at this
     have:=Sh.pos (zHI T hw.sh)
     simp at *
     omega
   ·rcases hp with ⟨_,_,h,_⟩ | ⟨_,⟨_,_,h,_⟩ | ⟨h,_⟩⟩
    ·cases h
    ·cases h
    ·omega
def gcn (xs:List zD):Nat -> Nat
 | 0=>0
 | k + 1=>if (atN xs k).k = 6 then gcn xs k + 1 else gcn xs k
def kp (xs:List zD) (stay:Nat -> Bool):Nat -> Nat
 | 0=>0
 | k + 1=>if (atN xs k).k = 6 /\ stay (gcn xs k) = false then kp xs stay k else kp xs stay k + 1
def woN (xs:List zD) (stay:Nat -> Bool) (o:zD):zD:=
 ⟨o.k,o.t,if zR o.k = 0 then o.a else (kp xs stay (o.a.toNat + 1):Int) - 1,if zR o.k = 2 then (kp xs stay (o.b.toNat + 1):Int) - 1 else o.b⟩
def wo (xs:List zD) (stay:Nat -> Bool):Nat -> List zD
 | 0=>[]
 | k + 1=>if (atN xs k).k = 6 /\ stay (gcn xs k) = false then wo xs stay k else wo xs stay k ++ [woN xs stay (atN xs k)]
theorem Zz (xs:List zD) (stay:Nat -> Bool):∀ k,(wo xs stay k).length = kp xs stay k
 | 0=>rfl
 | k + 1=>by
  have:=Zz xs stay k
  simp only [wo,kp]
  split
  ·exact this
  ·simp [this]
theorem zCZ (xs:List zD) (stay:Nat -> Bool):∀ k,kp xs stay k <= k
 | 0=>Nat.le_refl _
 | k + 1=>by
  have:=zCZ xs stay k
  simp only [kp]
  split <;> omega
theorem zDs (xs:List zD):∀ j k,j <= k -> gcn xs j <= gcn xs k
 | j,0,h=>by
  have:j = 0:=by omega
  subst this; exact Nat.le_refl _
 | j,k + 1,h=>by
  by_cases e:j = k + 1
  ·subst e; exact Nat.le_refl _
  ·have:=zDs xs j k (by omega)
   simp only [gcn]
   split <;> omega
theorem zMZ {xs:List zD} (stay:Nat -> Bool):∀ (T:ET) (s:Nat),Sh T -> zBR xs T s -> wo xs stay (s + tsz T) = wo xs stay s ++ nd (rmT stay T (gcn xs s)) (kp xs stay s) /\ kp xs stay (s + tsz T) = kp xs stay s + tsz (rmT stay T (gcn xs s)) /\ gcn xs (s + tsz T) = gcn xs s + gc T:=by
 intro T
 induction T with
 | nil=>intro s h; exact h.elim
 | node b o t l r ihl ihr=>
  rintro s ⟨_,h⟩ ⟨h1,h2,h3⟩
  have ez:s + tsz (.node b o t l r:ET) = (s + tsz l + tsz r) + 1:=by simp only [tsz]; omega
  have hk:(atN xs (s + tsz l + tsz r)).k = (b:Int):=by rw [h3]; rfl
  have hL:wo xs stay (s + tsz l) = wo xs stay s ++ nd (rmT stay l (gcn xs s)) (kp xs stay s) /\ kp xs stay (s + tsz l) = kp xs stay s + tsz (rmT stay l (gcn xs s)) /\ gcn xs (s + tsz l) = gcn xs s + gc l:=by
   rcases h with ⟨_,rfl,_⟩ | ⟨_,hl,_⟩ | ⟨_,hl,_⟩
   ·exact ⟨by simp [tsz,rmT,nd],by simp [tsz,rmT],by simp [tsz,gc]⟩
   ·exact ihl s hl h1
   ·exact ihl s hl h1
  have hR:wo xs stay (s + tsz l + tsz r) = wo xs stay (s + tsz l) ++ nd (rmT stay r (gcn xs (s + tsz l))) (kp xs stay (s + tsz l)) /\ kp xs stay (s + tsz l + tsz r) = kp xs stay (s + tsz l) + tsz (rmT stay r (gcn xs (s + tsz l))) /\ gcn xs (s + tsz l + tsz r) = gcn xs (s + tsz l) + gc r:=by
   rcases h with ⟨_,_,rfl⟩ | ⟨_,_,rfl⟩ | ⟨_,_,hr⟩
   ·exact ⟨by simp [tsz,rmT,nd],by simp [tsz,rmT],by simp [tsz,gc]⟩
   ·exact ⟨by simp [tsz,rmT,nd],by simp [tsz,rmT],by simp [tsz,gc]⟩
   ·exact ihr _ hr h2
  obtain ⟨L1,L2,L3⟩:=hL
  obtain ⟨R1,R2,R3⟩:=hR
  rw [ez]
  by_cases e:b = 6
  ·subst e
   have hr0:r = .nil:=by
    rcases h with ⟨h,_⟩ | ⟨_,_,h⟩ | ⟨h,_⟩
    ·exact absurd h (by decide)
    ·exact h
    ·exact absurd h (by decide)
   have hl:Sh l:=by
    rcases h with ⟨h,_⟩ | ⟨_,h,_⟩ | ⟨h,_⟩
    ·exact absurd h (by decide)
    ·exact h
    ·exact absurd h (by decide)
   subst hr0
   have hp:=hl.pos
   have e0:s + tsz l + tsz (BT.nil:ET) = s + tsz l:=by simp [tsz]
   rw [e0] at hk h3 ⊢
   have e6:(atN xs (s + tsz l)).k = 6:=hk
   simp only [wo,kp,gcn,e6,true_and,if_true,gc,rmT,L3]
   by_cases hs:stay (gcn xs s + gc l) = true
   ·have hs':¬ stay (gcn xs s + gc l) = false:=by rw [hs]; decide
    rw [if_pos hs,if_neg hs',if_neg hs',L1,L2]
    simp only [nd,tsz]
    refine ⟨?_,by omega,by omega⟩
    rw [List.append_assoc (wo xs stay s)]
    simp only [List.append_nil]
    congr 2
    rw [h3]
    unfold woN tN
    have ea:(((s + tsz l:Nat):Int) - 1).toNat + 1 = s + tsz l:=by omega
    have hk6:zR ((6:Nat):Int) = 1:=rfl
    simp only [hk6,Nat.one_ne_zero,if_false]
    rw [ea,L2]
    simp
   ·have hs':stay (gcn xs s + gc l) = false:=by cases h:stay (gcn xs s + gc l); rfl; exact absurd h hs
    rw [if_neg hs,if_pos hs',if_pos hs',L1,L2]
    exact ⟨rfl,rfl,by omega⟩
  ·have e6:¬ ((atN xs (s + tsz l + tsz r)).k = 6 /\ stay (gcn xs (s + tsz l + tsz r)) = false):=by rw [hk]; intro h; omega
   have e6':¬ (atN xs (s + tsz l + tsz r)).k = 6:=by rw [hk]; omega
   simp only [wo,kp,gcn,if_neg e6,if_neg e6',gc,if_neg e,rmT]
   rw [R1,R2,R3,L1,L2,L3,h3]
   simp only [nd,tsz]
   refine ⟨?_,by omega,by omega⟩
   rw [List.append_assoc (wo xs stay s),List.append_assoc (wo xs stay s)]
   congr 2
   have hx:woN xs stay (tN b t l r s) = tN b t (rmT stay l (gcn xs s)) (rmT stay r (gcn xs s + gc l)) (kp xs stay s):=by
    unfold woN tN
    rcases h with ⟨hk0,rfl,rfl⟩ | ⟨hk1,hl,rfl⟩ | ⟨hk2,hl,hr⟩
    ·simp [hk0]
    ·have hp:=hl.pos
     have ea:(((s + tsz l:Nat):Int) - 1).toNat + 1 = s + tsz l:=by omega
     simp only [hk1,Nat.one_ne_zero,if_false]
     rw [ea,L2]
     simp
    ·have hp:=hl.pos
     have hq:=hr.pos
     have ea:(((s + tsz l:Nat):Int) - 1).toNat + 1 = s + tsz l:=by omega
     have eb:(((s + tsz l + tsz r:Nat):Int) - 1).toNat + 1 = s + tsz l + tsz r:=by omega
     simp only [hk2,if_true,show ¬ (2 = 0) by decide,if_false]
     rw [ea,eb,R2,L2,L3]
   rw [hx]
theorem zMv {T:ET} (h:Sh T) (stay:Nat -> Bool):wo (nd T 0) stay (nd T 0).length = nd (rmT stay T 0) 0 /\ gcn (nd T 0) (nd T 0).length = gc T:=by
 obtain ⟨a,_,c⟩:=zMZ (xs:=nd T 0) stay T 0 h (Zu T)
 rw [Nat.zero_add,<- zj T 0] at a c
 exact ⟨by simpa [wo,kp,gcn] using a,by simpa [gcn] using c⟩
end Go.Proofs.YtfboipappaonhaaGreat
namespace Go.Proofs.YtfboipappaonhaaGreat
set_option maxHeartbeats 16000000
set_option maxRecDepth 100000
open Go.RowKit
def atI (xs:List Int) (i:Nat):Int:=xs.getD i 0
def zN (l:List Int):List Value:=l.map fun n=>.int .i64 n
theorem zDI (l:List Int):(zN l).length = l.length:=by simp [zN]
theorem zg (l l':List Int):zN (l ++ l') = zN l ++ zN l':=by simp [zN]
theorem ZB (l:List Int):∀ u ∈ zN l,u.oneCell' = true:=by
 intro u hu
 simp only [zN,List.mem_map] at hu
 obtain ⟨b,_,rfl⟩:=hu
 rfl
theorem Za (l:List Int) (i:Nat) (h:i < l.length):(zN l)[i]? = some (.int .i64 (atI l i)):=by
 simp [zN,atI,h]
def zJm (w:World) (g:Nat) (xs:List Int) (k:Nat):Prop:=
 g < w.heap.size /\ w.there g 0 xs.length /\ ∀ i,i < k -> w.cell? ⟨g,i,none⟩ = some (.int .i64 (atI xs i))
theorem zHM {w:World} {base g cap:Nat} {e:TypeId} {zs:List Int} (h:w.ownsRow base e 1 (.slice (some ⟨g,0,none⟩) zs.length cap) zs.length (zN zs)):base <= g /\ zJm w g zs zs.length:=by
 have hlt:=h.lt g rfl
 refine ⟨hlt.1,hlt.2,fun j hj=>⟨?_,h.frozenAt _⟩,fun i hi=>?_⟩
 ·rw [h.cellAt (0 + j) (by omega)]
  have:0 + j < (zN zs).length:=by rw [zDI]; omega
  rw [List.getElem?_eq_getElem this]
  rfl
 ·exact (h.cellAt i (by omega)).trans (Za zs i hi)
def zNV (w:World) (n:Nat) (a:Option Addr) (us:List Int):Prop:=(us.length = 0 /\ a = none) \/ ∃ g,a = some ⟨g,0,none⟩ /\ n <= g /\ zJm w g us us.length
def zJn (xs:List OpR):Prop:=∀ j,j < xs.length -> ((atO xs j).k = 1 \/ (atO xs j).k = 2 \/ (atO xs j).k = 3)
theorem zLg {xs:List OpR} (h:zAD xs xs.length):zJn xs:=fun j hj=>by
 obtain ⟨_,h⟩:=zAX _ _ _ _ (h j hj)
 omega
theorem zKM {xs:List OpR} {t:ByteArray} (h:zJn xs):opT xs t ↔ ((∃ j,j < xs.length /\ (atO xs j).s = t /\ (atO xs j).k = 1) \/ (∃ j,j < xs.length /\ (atO xs j).s = t /\ (atO xs j).k = 2) \/ (∃ j,j < xs.length /\ (atO xs j).s = t /\ (atO xs j).k = 3)):=by
 constructor
 ·rintro ⟨j,hj,e⟩
  rcases h j hj with k | k | k
  ·exact Or.inl ⟨j,hj,e,k⟩
  ·exact Or.inr (Or.inl ⟨j,hj,e,k⟩)
  ·exact Or.inr (Or.inr ⟨j,hj,e,k⟩)
 ·rintro (⟨j,hj,e,_⟩ | ⟨j,hj,e,_⟩ | ⟨j,hj,e,_⟩)
  ·exact ⟨j,hj,e⟩
  ·exact ⟨j,hj,e⟩
  ·exact ⟨j,hj,e⟩
end Go.Proofs.YtfboipappaonhaaGreat
