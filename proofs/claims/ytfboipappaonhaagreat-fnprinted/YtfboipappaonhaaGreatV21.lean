import Derived.Deep.Trees
import Derived.Test.YtfboipappaonhaaGreatV00
import Derived.Test.YtfboipappaonhaaGreatV12
namespace Go.Proofs.YtfboipappaonhaaGreat
set_option linter.unusedSimpArgs false
set_option linter.unusedVariables false
set_option maxHeartbeats 16000000
set_option maxRecDepth 100000
open Go.RowKit
open Go.Deep (BT)
abbrev ET:=BT ByteArray
def tsz:ET -> Nat
 | .nil=>0
 | .node _ _ _ l r=>tsz l + tsz r + 1
def tN (b:Nat) (t:ByteArray) (l r:ET) (s:Nat):zD:=
 ⟨(b:Int),t,if zM (b:Int) = 0 then 0 else ((s + tsz l:Nat):Int) - 1,if zM (b:Int) = 2 then ((s + tsz l + tsz r:Nat):Int) - 1 else 0⟩
def nd:ET -> Nat -> List zD
 | .nil,_=>[]
 | .node b _ t l r,s=>nd l s ++ nd r (s + tsz l) ++ [tN b t l r s]
theorem zg:∀ (T:ET) (s:Nat),(nd T s).length = tsz T
 | .nil,_=>rfl
 | .node b o t l r,s=>by simp [nd,tsz,zg l,zg r]; omega
def Sh:ET -> Prop
 | .nil=>False
 | .node b o _ l r=>o = 0 /\ ((zM (b:Int) = 0 /\ l = .nil /\ r = .nil) \/ (zM (b:Int) = 1 /\ Sh l /\ r = .nil) \/ (zM (b:Int) = 2 /\ Sh l /\ Sh r))
theorem Sh.pos:∀ {T:ET},Sh T -> 1 <= tsz T
 | .nil,h=>h.elim
 | .node _ _ _ _ _,_=>by simp [tsz]
def zBc (xs:List zD):ET -> Nat -> Prop
 | .nil,_=>True
 | .node b _ t l r,s=>zBc xs l s /\ zBc xs r (s + tsz l) /\ atN xs (s + tsz l + tsz r) = tN b t l r s
theorem zAj {xs ys:List zD} {i:Nat} (h:i < xs.length):atN (xs ++ ys) i = atN xs i:=by
 simp [atN,List.getD,List.getElem?_append,h]
theorem Zx {xs ys:List zD} {i:Nat} (h:xs.length <= i):atN (xs ++ ys) i = atN ys (i - xs.length):=by
 simp [atN,List.getD,List.getElem?_append_right h]
theorem zMQ (pre post:List zD):∀ (T:ET) (s:Nat),s = pre.length -> zBc (pre ++ (nd T s ++ post)) T s:=by
 intro T
 induction T generalizing pre post with
 | nil=>intro _ _; trivial
 | node b o t l r ihl ihr=>
  intro s hs
  subst hs
  refine ⟨?_,?_,?_⟩
  ·have:=ihl pre (nd r (pre.length + tsz l) ++ [tN b t l r pre.length] ++ post) pre.length rfl
   simpa [nd,List.append_assoc] using this
  ·have:=ihr (pre ++ nd l pre.length) ([tN b t l r pre.length] ++ post) (pre.length + tsz l) (by simp [zg])
   simpa [nd,List.append_assoc] using this
  ·rw [Zx (by omega)]
   have e:pre.length + tsz l + tsz r - pre.length = tsz l + tsz r:=by omega
   rw [e,zAj (by simp [nd,zg])]
   simp only [nd]
   rw [Zx (by simp [zg])]
   simp [zg,atN]
theorem Zy (T:ET):zBc (nd T 0) T 0:=by
 have:=zMQ [] [] T 0 rfl
 simpa using this
theorem zHz {xs:List zD}:∀ (T:ET) (s:Nat),zBc xs T s -> ∀ j,j < tsz T -> atN xs (s + j) = atN (nd T s) j:=by
 intro T
 induction T with
 | nil=>intro s _ j hj; simp [tsz] at hj
 | node b o t l r ihl ihr=>
  rintro s ⟨h1,h2,h3⟩ j hj
  simp only [tsz] at hj
  simp only [nd]
  by_cases c1:j < tsz l
  ·rw [ihl s h1 j c1,List.append_assoc,zAj (by rw [zg]; exact c1)]
  ·by_cases c2:j < tsz l + tsz r
   ·have:=ihr (s + tsz l) h2 (j - tsz l) (by omega)
    have e:s + tsz l + (j - tsz l) = s + j:=by omega
    rw [e] at this
    rw [this,zAj (by simp [zg]; omega),Zx (by rw [zg]; omega),zg]
   ·have e:j = tsz l + tsz r:=by omega
    subst e
    rw [<- Nat.add_assoc,h3,Zx (by simp [zg])]
    simp [zg,atN]
theorem zIl {xs:List zD} {T:ET} (h:zBc xs T 0) (hl:xs.length = tsz T):xs = nd T 0:=by
 apply List.ext_getElem (by rw [zg,hl])
 intro i h1 h2
 have:=zHz T 0 h i (by omega)
 rw [Nat.zero_add] at this
 simpa [atN,List.getD,h1,h2] using this
theorem Zu {xs:List zD}:∀ (T:ET) (s:Nat),Sh T -> zBc xs T s -> frS xs (s + tsz T - 1) = some s:=by
 intro T
 induction T with
 | nil=>intro s h; exact h.elim
 | node b o t l r ihl ihr=>
  rintro s ⟨_,hsh⟩ ⟨h1,h2,h3⟩
  have e:s + tsz (.node b o t l r) - 1 = s + tsz l + tsz r:=by simp only [tsz]; omega
  rw [e]
  rcases hsh with ⟨hk,rfl,rfl⟩ | ⟨hk,hl,rfl⟩ | ⟨hk,hl,hr⟩
  ·simp only [tsz,Nat.add_zero] at h3 ⊢
   have hk':zM (atN xs s).k = 0:=by rw [h3]; exact hk
   rw [zDK hk',if_pos]
   rw [h3]
   simp [tN,hk]
  ·simp only [tsz,Nat.add_zero] at h3 ⊢
   have hp:=hl.pos
   have hk':zM (atN xs (s + tsz l)).k = 1:=by rw [h3]; exact hk
   rw [zEm hk',if_pos]
   ·exact ihl s hl h1
   ·rw [h3]
    simp [tN,hk]
    omega
  ·have hp:=hl.pos
   have hq:=hr.pos
   have hk':zM (atN xs (s + tsz l + tsz r)).k = 2:=by rw [h3]; exact hk
   have f2:=ihr (s + tsz l) hr h2
   rw [zEn hk' (by omega) (by rw [h3]; simp [tN,hk]) f2 (by omega) (by rw [h3]; simp [tN,hk])]
   exact ihl s hl h1
theorem zBO (xs:List zD) (htx:∀ i,i < xs.length -> 0 <= (atN xs i).k):∀ n i f,i < n -> i < xs.length -> frS xs i = some f -> ∃ T,Sh T /\ f + tsz T = i + 1 /\ zBc xs T f
 | 0,_,_,h,_,_=>absurd h (Nat.not_lt_zero _)
 | n + 1,i,f,h,hi,hf=>by
  have hkk:(((atN xs i).k.toNat:Nat):Int) = (atN xs i).k:=Int.toNat_of_nonneg (htx i hi)
  rcases Zq hf with ⟨hk,ha,hb,hfi⟩ | ⟨hk,h1i,ha,hbb,hf1⟩ | ⟨hk,h1i,hbb,f2,hf2,h2f,ha,hf1⟩
  ·refine ⟨.node (atN xs i).k.toNat 0 (atN xs i).t .nil .nil,⟨rfl,Or.inl ⟨by rw [hkk]; exact hk,rfl,rfl⟩⟩,by simp [tsz]; omega,trivial,trivial,?_⟩
   simp only [tsz,Nat.add_zero,tN,hkk,hk]
   rw [hfi]
   generalize atN xs i = o at *
   cases o
   simp_all
  ·have hle:=ZM hf1
   obtain ⟨T,hs,hz,hl⟩:=zBO xs htx n (i - 1) f (by omega) (by omega) hf1
   have hp:=hs.pos
   refine ⟨.node (atN xs i).k.toNat 0 (atN xs i).t T .nil,⟨rfl,Or.inr (Or.inl ⟨by rw [hkk]; exact hk,hs,rfl⟩)⟩,by simp [tsz]; omega,hl,trivial,?_⟩
   have e:f + tsz T + tsz (BT.nil:ET) = i:=by simp [tsz]; omega
   rw [e]
   simp only [tN,hkk,hk]
   have e2:((f + tsz T:Nat):Int) - 1 = (i:Int) - 1:=by omega
   rw [e2]
   generalize atN xs i = o at *
   cases o
   simp_all
  ·have hle:=ZM hf2
   have hle1:=ZM hf1
   obtain ⟨T1,hs1,hz1,hl1⟩:=zBO xs htx n (f2 - 1) f (by omega) (by omega) hf1
   obtain ⟨T2,hs2,hz2,hl2⟩:=zBO xs htx n (i - 1) f2 (by omega) (by omega) hf2
   have hp:=hs1.pos
   have hq:=hs2.pos
   have ef:f + tsz T1 = f2:=by omega
   refine ⟨.node (atN xs i).k.toNat 0 (atN xs i).t T1 T2,⟨rfl,Or.inr (Or.inr ⟨by rw [hkk]; exact hk,hs1,hs2⟩)⟩,by simp [tsz]; omega,hl1,by rw [ef]; exact hl2,?_⟩
   have e:f + tsz T1 + tsz T2 = i:=by omega
   rw [e]
   simp only [tN,hkk,hk]
   have e2:((f + tsz T1:Nat):Int) - 1 = (f2:Int) - 1:=by omega
   have e3:((f + tsz T1 + tsz T2:Nat):Int) - 1 = (i:Int) - 1:=by omega
   rw [e2,e3]
   generalize atN xs i = o at *
   cases o
   simp_all
theorem Za.nonneg {o:zD} (h:Za o):0 <= o.k:=by
 rcases h.2 with ⟨h,_⟩ | ⟨h,_⟩ | ⟨h,_⟩ | ⟨h | h | h,_⟩ <;> omega
theorem zH0 {xs:List zD} (h:zl xs):∃ T,Sh T /\ tsz T = xs.length /\ xs = nd T 0:=by
 obtain ⟨T,hs,hz,hl⟩:=zBO xs (fun i hi=>(h.2.2.2 i hi).nonneg) xs.length (xs.length - 1) 0 (by have:=h.1; omega) (by have:=h.1; omega) h.2.2.1
 have e:tsz T = xs.length:=by have:=h.1; omega
 exact ⟨T,hs,e,zIl hl e.symm⟩
def rt (b:Nat) (t:ByteArray):zD:=⟨(b:Int),t,0,0⟩
def clT (ns:List OpR) (b:Nat) (t:ByteArray) (least:Int) (T:ET):ET:=if ZF ns (rt b t) < least then .node 6 0 ByteArray.empty T .nil else T
def grT (ns:List OpR):ET -> Int -> ET
 | .nil,_=>.nil
 | .node b _ t l r,least=>if b = 6 then grT ns l least else clT ns b t least (.node b 0 t (grT ns l (zR ns (rt b t) false)) (grT ns r (zR ns (rt b t) true)))
def exT (ns:List OpR):ET -> Value
 | .nil=>.nilIface
 | .node b _ t l r=>exN (opA ns (rt b t)) (rt b t) (exT ns l) (exT ns r)
theorem zG5 (ns:List OpR) (o:zD) (b:Nat) (t:ByteArray) (h1:o.k = (b:Int)) (h2:o.t = t):ZF ns o = ZF ns (rt b t):=by
 unfold ZF rt; rw [h1,h2]
theorem zBn (ns:List OpR) (o:zD) (b:Nat) (t:ByteArray) (h1:o.k = (b:Int)) (h2:o.t = t) (c:Bool):zR ns o c = zR ns (rt b t) c:=by
 unfold zR rt; rw [h1,h2]
theorem zIm (ns:List OpR) (o:zD) (b:Nat) (t:ByteArray) (h1:o.k = (b:Int)) (h2:o.t = t):opA ns o = opA ns (rt b t):=by
 unfold opA rt; rw [h1,h2]
theorem zIn (p:OpR) (o:zD) (b:Nat) (t:ByteArray) (h1:o.k = (b:Int)) (h2:o.t = t) (e e':Value):exN p o e e' = exN p (rt b t) e e':=by
 unfold exN rt; rw [h1,h2]
theorem zG6 (ns:List OpR) (o:zD) (b:Nat) (t:ByteArray) (h1:o.k = (b:Int)) (h2:o.t = t) (least:Int) (s:Nat) (T:ET) (u:List zD) (hu:u = nd T s):zAs ns o least s u = nd (clT ns b t least T) s:=by
 subst hu
 unfold zAs clT
 rw [zG5 ns o b t h1 h2]
 split
 ·simp only [nd,tN,zg,tsz]
  simp [show zM 6 = 1 from rfl,show zM ((6:Nat):Int) = 1 from rfl]
 ·rfl
theorem zMR (ns:List OpR) (xs:List zD):∀ (T:ET) (s:Nat),Sh T -> zBc xs T s -> ∀ (l:Int) (p:Nat),gS ns xs (s + tsz T - 1) l p = nd (grT ns T l) p:=by
 intro T
 induction T with
 | nil=>intro s h; exact h.elim
 | node b o t l r ihl ihr=>
  rintro s ⟨h0,hsh⟩ ⟨h1,h2,h3⟩ least p
  have e:s + tsz (.node b o t l r) - 1 = s + tsz l + tsz r:=by simp only [tsz]; omega
  rw [e]
  have hK:(atN xs (s + tsz l + tsz r)).k = (b:Int):=by rw [h3]; rfl
  have hT:(atN xs (s + tsz l + tsz r)).t = t:=by rw [h3]; rfl
  have hb6:((atN xs (s + tsz l + tsz r)).k = 6) ↔ b = 6:=by rw [hK]; omega
  rcases hsh with ⟨hk,rfl,rfl⟩ | ⟨hk,hl,rfl⟩ | ⟨hk,hl,hr⟩
  ·have hk':zM (atN xs (s + tsz (BT.nil:ET) + tsz (BT.nil:ET))).k = 0:=by rw [hK]; exact hk
   have h6:¬ b = 6:=fun e=>by subst e; exact absurd hk (by decide)
   rw [zCC hk']
   simp only [grT,if_neg h6]
   refine zG6 ns _ b t hK hT least p _ _ ?_
   rw [hK,hT]
   simp [nd,tN,hk,tsz,grT]
  ·have hp:=hl.pos
   simp only [tsz,Nat.add_zero] at hK hT hb6 h3 ⊢
   have hk':zM (atN xs (s + tsz l)).k = 1:=by rw [hK]; exact hk
   have hfr:=Zu l s hl h1
   by_cases h6:b = 6
   ·rw [zBk (hb6.2 h6) (by omega) hfr,ihl s hl h1]
    simp only [grT,if_pos h6]
   ·rw [zC4 hk' (fun x=>h6 (hb6.1 x)) (by omega) hfr least p (ihl s hl h1 _ p).symm]
    simp only [grT,if_neg h6]
    rw [zBn ns _ b t hK hT]
    refine zG6 ns _ b t hK hT least p _ _ ?_
    simp [nd,tN,hK,hT,hk,tsz,zg,grT]
  ·have hp:=hl.pos
   have hq:=hr.pos
   have hk':zM (atN xs (s + tsz l + tsz r)).k = 2:=by rw [hK]; exact hk
   have h6:¬ b = 6:=fun e=>by subst e; exact absurd hk (by decide)
   have f2:=Zu r (s + tsz l) hr h2
   have f1:=Zu l s hl h1
   rw [zD8 hk' (by omega) f2 (by omega) (by rw [h3]; simp [tN,hk]) f1 least p (ihl s hl h1 _ p).symm (ihr (s + tsz l) hr h2 _ _).symm]
   simp only [grT,if_neg h6]
   rw [zBn ns _ b t hK hT,zBn ns _ b t hK hT]
   refine zG6 ns _ b t hK hT least p _ _ ?_
   rw [hK,hT]
   simp [nd,tN,hk,tsz,zg,Nat.add_assoc]
theorem zFT (ns:List OpR) (o:zD) (b:Nat) (t:ByteArray) (h1:o.k = (b:Int)) (h2:o.t = t) (least:Int) (T:ET) (e:Value) (he:e = exT ns T):zBN ns o least e = exT ns (clT ns b t least T):=by
 subst he
 unfold zBN clT
 rw [zG5 ns o b t h1 h2]
 split
 ·simp [exT,exN,rt]
 ·rfl
theorem zMS (ns:List OpR) (xs:List zD):∀ (T:ET) (s:Nat),Sh T -> zBc xs T s -> ∀ (l:Int),fS ns xs (s + tsz T - 1) l = exT ns (grT ns T l):=by
 intro T
 induction T with
 | nil=>intro s h; exact h.elim
 | node b o t l r ihl ihr=>
  rintro s ⟨h0,hsh⟩ ⟨h1,h2,h3⟩ least
  have e:s + tsz (.node b o t l r) - 1 = s + tsz l + tsz r:=by simp only [tsz]; omega
  rw [e]
  have hK:(atN xs (s + tsz l + tsz r)).k = (b:Int):=by rw [h3]; rfl
  have hT:(atN xs (s + tsz l + tsz r)).t = t:=by rw [h3]; rfl
  have hb6:((atN xs (s + tsz l + tsz r)).k = 6) ↔ b = 6:=by rw [hK]; omega
  rcases hsh with ⟨hk,rfl,rfl⟩ | ⟨hk,hl,rfl⟩ | ⟨hk,hl,hr⟩
  ·have hk':zM (atN xs (s + tsz (BT.nil:ET) + tsz (BT.nil:ET))).k = 0:=by rw [hK]; exact hk
   have h6:¬ b = 6:=fun e=>by subst e; exact absurd hk (by decide)
   rw [zEs hk']
   simp only [grT,if_neg h6]
   refine zFT ns _ b t hK hT least _ _ ?_
   rw [zIm ns _ b t hK hT,zIn _ _ b t hK hT]
   simp [exT,grT]
  ·have hp:=hl.pos
   simp only [tsz,Nat.add_zero] at hK hT hb6 h3 ⊢
   have hk':zM (atN xs (s + tsz l)).k = 1:=by rw [hK]; exact hk
   have hfr:=Zu l s hl h1
   by_cases h6:b = 6
   ·rw [zFO (hb6.2 h6) (by omega) hfr,ihl s hl h1]
    simp only [grT,if_pos h6]
   ·rw [zG2 hk' (fun x=>h6 (hb6.1 x)) (by omega) hfr,ihl s hl h1]
    simp only [grT,if_neg h6]
    rw [zBn ns _ b t hK hT]
    refine zFT ns _ b t hK hT least _ _ ?_
    rw [zIm ns _ b t hK hT,zIn _ _ b t hK hT]
    simp [exT,grT]
  ·have hp:=hl.pos
   have hq:=hr.pos
   have hk':zM (atN xs (s + tsz l + tsz r)).k = 2:=by rw [hK]; exact hk
   have h6:¬ b = 6:=fun e=>by subst e; exact absurd hk (by decide)
   have f2:=Zu r (s + tsz l) hr h2
   have f1:=Zu l s hl h1
   rw [zIf hk' (by omega) f2 (by omega) (by rw [h3]; simp [tN,hk]) f1,ihl s hl h1,ihr (s + tsz l) hr h2]
   simp only [grT,if_neg h6]
   rw [zBn ns _ b t hK hT,zBn ns _ b t hK hT]
   refine zFT ns _ b t hK hT least _ _ ?_
   rw [zIm ns _ b t hK hT,zIn _ _ b t hK hT]
   simp [exT]
structure ze where
 t:ByteArray
 o:Bool
 i:Bool
def ze.zero:ze:=⟨⟨#[]⟩,false,false⟩
def atW (xs:List ze) (i:Nat):ze:=xs.getD i ze.zero
def opn:ByteArray:=⟨#[40]⟩
def zA5:ByteArray:=⟨#[41]⟩
def blk:ByteArray:=⟨#[32]⟩
abbrev SyR:=Nat × ByteArray
def ySy:ET -> List SyR
 | .nil=>[]
 | .node b _ t l r=>
  if b = 6 then (6,opn) :: (ySy l ++ [(7,zA5)])
  else if b = 3 then (3,t) :: ySy l
  else if b = 5 then ySy l ++ [(5,t)]
  else if b = 4 then ySy l ++ ((4,t) :: ySy r)
  else [(b,t)]
def wS (s:SyR):ze:=⟨s.2,decide (3 <= s.1 /\ s.1 <= 5),decide (s.1 = 4)⟩
def yT (T:ET):List ze:=(ySy T).map wS
theorem zDa:∀ {T:ET},Sh T -> 1 <= (ySy T).length
 | .nil,h=>h.elim
 | .node b o t l r,h=>by
  simp only [ySy]
  split
  ·simp
  ·split
   ·simp
   ·split
    ·simp
    ·split
     ·simp; omega
     ·simp
theorem zKA:∀ {T:ET},Sh T -> ∀ s r,ySy T = s :: r -> s.1 ≠ 4 /\ s.1 ≠ 5 /\ s.1 ≠ 7 \/ s.1 > 6 \/ s.1 = 0:=by
 intro T
 induction T with
 | nil=>intro h; exact h.elim
 | node b o t l r ihl ihr=>
  rintro ⟨_,h⟩ s q hq
  have app:∀ ys:List SyR,Sh l -> ySy l ++ ys = s :: q -> s.1 ≠ 4 /\ s.1 ≠ 5 /\ s.1 ≠ 7 \/ s.1 > 6 \/ s.1 = 0:=fun ys hl he=>by
   have hp:=zDa hl
   cases e:ySy l with
   | nil=>rw [e] at hp; simp at hp
   | cons a c=>
    rw [e,List.cons_append] at he
    injection he with h1 h2
    subst h1
    exact ihl hl a c e
  simp only [ySy] at hq
  split at hq
  ·injection hq with h1 h2; subst h1; exact Or.inl ⟨by simp,by simp,by simp⟩
  ·split at hq
   ·injection hq with h1 h2; subst h1; exact Or.inl ⟨by simp,by simp,by simp⟩
   ·split at hq
    ·rename_i h5
     subst h5
     rcases h with ⟨hk,_⟩ | ⟨_,hl,_⟩ | ⟨hk,_⟩
     ·exact absurd hk (by decide)
     ·exact app _ hl hq
     ·exact absurd hk (by decide)
    ·split at hq
     ·rename_i h4
      subst h4
      rcases h with ⟨hk,_⟩ | ⟨hk,_⟩ | ⟨_,hl,_⟩
      ·exact absurd hk (by decide)
      ·exact absurd hk (by decide)
      ·exact app _ hl hq
     ·injection hq with h1 h2
      subst h1
      show b ≠ 4 /\ b ≠ 5 /\ b ≠ 7 \/ b > 6 \/ b = 0
      omega
theorem zK9 {T:ET} (h:Sh T):1 <= (yT T).length:=by
 rw [yT,List.length_map]
 exact zDa h
theorem zLA {T:ET} (h:Sh T):(atW (yT T) 0).i = false:=by
 cases e:ySy T with
 | nil=>have:=zDa h; rw [e] at this; simp at this
 | cons s r=>
  have h1:s.1 ≠ 4:=by
   rcases zKA h s r e with ⟨h1,_⟩ | h1 | h1 <;> omega
  simp [yT,e,atW,wS,h1]
def zCt (a b:ze):Bool:=b.i || a.i || (b.o && a.o)
def zAR (ws:List ze):Nat -> List UInt8
 | 0=>[]
 | k + 1=>zAR ws k ++ ((if k ≠ 0 /\ zCt (atW ws (k - 1)) (atW ws k) = true then [32] else []) ++ (atW ws k).t.data.toList)
def kW (x:ze):Int:=if x.i then 3 else if x.o then 2 else 1
def Zn (a b:Int):Bool:=decide (a = 3 \/ b = 3 \/ (a = 2 /\ b = 2))
def put1 (st:List ByteArray × Int) (x:ze):List ByteArray × Int:=(st.1 ++ ((if Zn st.2 (kW x) then [blk] else []) ++ [x.t]),kW x)
def zEh (ps:List ByteArray):List UInt8:=(ps.map (fun s=>s.data.toList)).flatten
theorem zH1 (a b:List ByteArray):zEh (a ++ b) = zEh a ++ zEh b:=by simp [zEh]
theorem zLB (a b:ze):Zn (kW a) (kW b) = zCt a b:=by
 unfold kW Zn zCt
 cases a.i <;> cases b.i <;> cases a.o <;> cases b.o <;> decide
theorem zLC (x:ze) (h:x.i = false):Zn 0 (kW x) = false:=by
 unfold kW Zn
 rw [h]
 cases x.o <;> decide
theorem zIo (ws:List ze) (k:Nat) (h:k < ws.length):ws.take (k + 1) = ws.take k ++ [atW ws k]:=by
 rw [List.take_succ_eq_append_getElem h]
 simp [atW,List.getD,h]
theorem zEU (ws:List ze) (h0:(atW ws 0).i = false):∀ k,k <= ws.length -> zEh ((ws.take k).foldl put1 ([],0)).1 = zAR ws k /\ ((ws.take k).foldl put1 ([],0)).2 = (if k = 0 then 0 else kW (atW ws (k - 1)))
 | 0,_=>by simp [zEh,zAR]
 | k + 1,hk=>by
  obtain ⟨e1,e2⟩:=zEU ws h0 k (by omega)
  rw [zIo ws k (by omega),List.foldl_append]
  simp only [List.foldl_cons,List.foldl_nil,put1,zH1,e1,e2,zAR]
  refine ⟨?_,by simp⟩
  congr 1
  by_cases hk0:k = 0
  ·subst hk0
   simp [zLC _ h0,zEh]
  ·have hb:=zLB (atW ws (k - 1)) (atW ws k)
   simp only [if_neg hk0,hk0,ne_eq,not_false_eq_true,true_and]
   by_cases hg:zCt (atW ws (k - 1)) (atW ws k) = true
   ·simp [hg,hb,zEh,blk]
   ·simp [hg,hb,zEh]
end Go.Proofs.YtfboipappaonhaaGreat
namespace Go.Proofs.YtfboipappaonhaaGreat
set_option linter.unusedSimpArgs false
set_option linter.unusedVariables false
set_option maxHeartbeats 16000000
set_option maxRecDepth 100000
theorem zCX {a b:ByteArray} {i:Nat} (h:i < a.size):bt (a ++ b) i = bt a i:=by
 unfold bt
 rw [ByteArray.data_append,Array.getElem?_append_left (by simpa using h)]
theorem zBo {a b:ByteArray} (i:Nat):bt (a ++ b) (a.size + i) = bt b i:=by
 unfold bt
 rw [ByteArray.data_append,Array.getElem?_append_right (show a.data.size <= a.size + i from Nat.le_add_right _ _)]
 have e:a.size + i - a.data.size = i:=by show a.data.size + i - a.data.size = i; omega
 rw [e]
theorem zFU (a b c:ByteArray):a ++ b ++ c = a ++ (b ++ c):=by
 apply ByteArray.ext
 simp [ByteArray.data_append,Array.append_assoc]
theorem zAY (a b:ByteArray):(a ++ b).size = a.size + b.size:=by simp
theorem zG7 (a:ByteArray):a.size = a.data.toList.length:=rfl
theorem zLD {a b:ByteArray} (h:a.data.toList = b.data.toList):a = b:=by
 apply ByteArray.ext
 exact Array.ext' h
theorem zLE (s:ByteArray) (i j:Nat):(s.extract i j).data.toList = (s.data.toList.drop i).take (j - i):=by
 rw [ByteArray.data_extract,Array.toList_extract,List.extract_eq_take_drop]
theorem zEH (a b:ByteArray):(a ++ b).data.toList = a.data.toList ++ b.data.toList:=by rw [ByteArray.data_append,Array.toList_append]
theorem zG8 (a l r:ByteArray):(a ++ (l ++ r)).extract a.size (a.size + l.size) = l:=by
 apply zLD
 rw [zLE,zEH,zEH,zG7 a,zG7 l,List.drop_left,Nat.add_sub_cancel_left,List.take_left]
theorem zMT (a r:ByteArray):(a ++ r).extract a.size (a ++ r).size = r:=by
 apply zLD
 rw [zLE,zEH,zAY,zG7 a,zG7 r,List.drop_left,Nat.add_sub_cancel_left,List.take_length]
def one (c:UInt8):ByteArray:=⟨#[c]⟩
theorem zLF (c:UInt8):(one c).size = 1:=rfl
theorem zNc (c:UInt8):bt (one c) 0 = c:=rfl
end Go.Proofs.YtfboipappaonhaaGreat
namespace Go.Proofs.YtfboipappaonhaaGreat
set_option linter.unusedSimpArgs false
set_option linter.unusedVariables false
set_option maxHeartbeats 16000000
set_option maxRecDepth 100000
open Go.RowKit
def WdK (ns:List OpR) (t:ByteArray) (k:Nat):Prop:=(k = 1 /\ zJ0 t) \/ (k = 2 /\ zE7 t) \/ (k = 3 /\ opT ns t) \/ (k = 4 /\ t = opn) \/ (k = 5 /\ t = zA5)
def Sep (k:Nat) (R:ByteArray):Prop:=0 < R.size -> ((k = 1 \/ k = 2) -> cls (bt R 0) ≠ 2 /\ cls (bt R 0) ≠ 3) /\ (k = 3 -> cls (bt R 0) ≠ 6)
theorem zC9 {ns:List OpR} (hv:ZA ns) {t:ByteArray} (h:opT ns t):1 <= t.size /\ ∀ q,q < t.size -> cls (bt t q) = 6:=by
 obtain ⟨j,hj,rfl⟩:=h
 exact ⟨(hv j hj).1,(hv j hj).2.2⟩
theorem zEu {ns:List OpR} (hv:ZA ns) {t:ByteArray} {k:Nat} (h:WdK ns t k):1 <= t.size:=by
 rcases h with ⟨_,h⟩ | ⟨_,h⟩ | ⟨_,h⟩ | ⟨_,rfl⟩ | ⟨_,rfl⟩
 ·exact h.1
 ·exact h.1
 ·exact (zC9 hv h).1
 ·decide
 ·decide
theorem zKB {ns:List OpR} (hv:ZA ns) {t:ByteArray} {k:Nat} (h:WdK ns t k):cls (bt t 0) ≠ 1:=by
 rcases h with ⟨_,h⟩ | ⟨_,h⟩ | ⟨_,h⟩ | ⟨_,rfl⟩ | ⟨_,rfl⟩
 ·rw [h.2 0 h.1]; decide
 ·rcases h.2 0 h.1 with e | ⟨e,_⟩
  ·rw [e]; decide
  ·exact absurd rfl e
 ·rw [(zC9 hv h).2 0 (zC9 hv h).1]; decide
 ·decide
 ·decide
theorem zIp {ns:List OpR} (hv:ZA ns) (P w R:ByteArray) {k:Nat} (h:WdK ns w k) (hs:Sep k R):zAc ns (P ++ (w ++ R)) P.size w.size k:=by
 have h1:=zEu hv h
 have hz:(P ++ (w ++ R)).size = P.size + (w.size + R.size):=by rw [zAY,zAY]
 have b1:∀ j,j < w.size -> bt (P ++ (w ++ R)) (P.size + j) = bt w j:=fun j hj=>by rw [zBo,zCX hj]
 have b0:bt (P ++ (w ++ R)) P.size = bt w 0:=b1 0 h1
 have b2:bt (P ++ (w ++ R)) (P.size + w.size) = bt R 0:=by
  rw [zBo]
  have:=zBo (a:=w) (b:=R) 0
  rw [Nat.add_zero] at this
  exact this
 have hR:P.size + w.size < (P ++ (w ++ R)).size -> 0 < R.size:=fun x=>by omega
 refine ⟨h1,by omega,?_⟩
 rcases h with ⟨rfl,h⟩ | ⟨rfl,h⟩ | ⟨rfl,h⟩ | ⟨rfl,rfl⟩ | ⟨rfl,rfl⟩
 ·exact Or.inl ⟨by rw [b0]; exact h.2 0 h1,rfl,fun j hj=>by rw [b1 j hj]; exact h.2 j hj,fun x=>by rw [b2]; exact ((hs (hR x)).1 (Or.inl rfl)).1⟩
 ·refine Or.inr (Or.inl ⟨?_,rfl,fun j hj=>?_,fun x=>?_⟩)
  ·rw [b0]
   rcases h.2 0 h1 with e | ⟨e,_⟩
   ·exact e
   ·exact absurd rfl e
  ·rw [b1 j hj]
   rcases h.2 j hj with e | ⟨_,e⟩
   ·exact Or.inr e
   ·exact Or.inl e
  ·rw [b2]
   have:=(hs (hR x)).1 (Or.inr rfl)
   exact fun y=>y.elim this.1 this.2
 ·have hc:=zC9 hv h
  have e:sub (P ++ (w ++ R)) P.size w.size = w:=zG8 P w R
  refine Or.inr (Or.inr (Or.inr (Or.inr (Or.inl ⟨by rw [b0]; exact hc.2 0 h1,Or.inl ⟨rfl,by rw [e]; exact h,fun m hm hms ho=>?_⟩⟩))))
  have hcm:=zC9 hv ho
  have hR':0 < R.size:=by omega
  have:=hcm.2 w.size (by rw [zDJ hms]; exact hm)
  rw [zKl hms hm,b2] at this
  exact (hs hR').2 rfl this
 ·exact Or.inr (Or.inr (Or.inl ⟨by rw [b0]; decide,rfl,rfl⟩))
 ·exact Or.inr (Or.inr (Or.inr (Or.inl ⟨by rw [b0]; decide,rfl,rfl⟩)))
structure GwR where
 g:ByteArray
 w:ByteArray
 k:Nat
def spr:List GwR -> ByteArray -> ByteArray
 | [],e=>e
 | x :: r,e=>x.g ++ (x.w ++ spr r e)
def Bl (g:ByteArray):Prop:=∀ i,i < g.size -> cls (bt g i) = 1
def zG9 (ns:List OpR):List GwR -> ByteArray -> Prop
 | [],e=>Bl e
 | x :: r,e=>Bl x.g /\ WdK ns x.w x.k /\ Sep x.k (spr r e) /\ zG9 ns r e
def zLG (x:GwR):zN:=⟨(x.k:Int),x.g,x.w⟩
theorem zGT {ns:List OpR} (hv:ZA ns):∀ (xs:List GwR) (e a:ByteArray),zG9 ns xs e -> ZD ns (a ++ spr xs e) a.size (xs.map zLG ++ [⟨7,e,⟨#[]⟩⟩])
 | [],e,a,h=>by
  have hz:=zAY a e
  have:=ZD.fin (xs:=ns) (s:=a ++ e) (i:=a.size) (by omega) (fun q h1 h2=>by
   obtain ⟨j,rfl⟩:=Nat.exists_eq_add_of_le h1
   rw [zBo]
   exact h j (by omega))
  rw [zMT] at this
  exact this
 | x :: r,e,a,h=>by
  obtain ⟨h1,h2,h3,h4⟩:=h
  have ih:=zGT hv r e (a ++ x.g ++ x.w) h4
  have hp:=zEu hv h2
  have e1:a ++ x.g ++ x.w ++ spr r e = a ++ (x.g ++ (x.w ++ spr r e)):=by rw [zFU,zFU]
  have e2:(a ++ x.g ++ x.w).size = a.size + x.g.size + x.w.size:=by rw [zAY,zAY]
  have e3:(a ++ x.g) ++ (x.w ++ spr r e) = a ++ (x.g ++ (x.w ++ spr r e)):=by rw [zFU]
  have e4:(a ++ x.g).size = a.size + x.g.size:=zAY _ _
  have hz:(a ++ (x.g ++ (x.w ++ spr r e))).size = a.size + (x.g.size + (x.w.size + (spr r e).size)):=by rw [zAY,zAY,zAY]
  rw [e1,e2] at ih
  have ht:=zIp hv (a ++ x.g) x.w (spr r e) h2 h3
  have hx:=zG8 (a ++ x.g) x.w (spr r e)
  have hb:=zBo (a:=a ++ x.g) (b:=x.w ++ spr r e) 0
  rw [e3,e4] at ht hx hb
  have hg:=zG8 a x.g (x.w ++ spr r e)
  have:=ZD.tok (xs:=ns) (s:=a ++ (x.g ++ (x.w ++ spr r e))) (i:=a.size) (j:=a.size + x.g.size) (n:=x.w.size) (k:=x.k) (by omega) (by omega) (fun q q1 q2=>by
   obtain ⟨j,rfl⟩:=Nat.exists_eq_add_of_le q1
   rw [zBo,zCX (by omega)]
   exact h1 j (by omega)) (by
   rw [Nat.add_zero] at hb
   rw [hb,zCX hp]
   exact zKB hv h2) ht ih
  rw [hg,hx] at this
  exact this
theorem zH2 {ns:List OpR} (hv:ZA ns) (xs:List GwR) (e:ByteArray) (h:zG9 ns xs e):ZD ns (spr xs e) 0 (xs.map zLG ++ [⟨7,e,⟨#[]⟩⟩]):=by
 have:=zGT hv xs e ByteArray.empty h
 have e1:ByteArray.empty ++ spr xs e = spr xs e:=by apply ByteArray.ext; simp [ByteArray.data_append]
 rw [e1] at this
 exact this
end Go.Proofs.YtfboipappaonhaaGreat
