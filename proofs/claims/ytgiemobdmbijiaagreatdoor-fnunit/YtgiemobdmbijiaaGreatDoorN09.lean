import Derived.Deep.Trees
import Derived.Deep.RegionHeld
import Derived.BigQuiet
import Derived.Maps.AppendAt
import Derived.Test.YtgiemobdmbijiaaGreatDoorN00
import Derived.Test.YtgiemobdmbijiaaGreatDoorN01
import Derived.Test.YtgiemobdmbijiaaGreatDoorN02
import Derived.Test.YtgiemobdmbijiaaGreatDoorN03
import Derived.Test.YtgiemobdmbijiaaGreatDoorN08
namespace Go.Proofs.YtgiemobdmbijiaaGreatDoor
set_option linter.unusedSimpArgs false
set_option linter.unusedVariables false
set_option maxHeartbeats 16000000
set_option maxRecDepth 100000
open Go.RowKit
open Go.Deep (BT)
abbrev ET:=BT ByteArray
def tsz:ET -> Nat
 | .nil=>0
 | .node _ _ _ l r=>tsz l + tsz r + 1
def tN (b:Nat) (t:ByteArray) (l r:ET) (s:Nat):zD:=
 ⟨(b:Int),t,if zY (b:Int) = 0 then 0 else ((s + tsz l:Nat):Int) - 1,if zY (b:Int) = 2 then ((s + tsz l + tsz r:Nat):Int) - 1 else 0⟩
def nd:ET -> Nat -> List zD
 | .nil,_=>[]
 | .node b _ t l r,s=>nd l s ++ nd r (s + tsz l) ++ [tN b t l r s]
theorem ZI:∀ (T:ET) (s:Nat),(nd T s).length = tsz T
 | .nil,_=>rfl
 | .node b o t l r,s=>by simp [nd,tsz,ZI l,ZI r]; omega
def Sh:ET -> Prop
 | .nil=>False
 | .node b o _ l r=>o = 0 /\ ((zY (b:Int) = 0 /\ l = .nil /\ r = .nil) \/ (zY (b:Int) = 1 /\ Sh l /\ r = .nil) \/ (zY (b:Int) = 2 /\ Sh l /\ Sh r))
theorem Sh.pos:∀ {T:ET},Sh T -> 1 <= tsz T
 | .nil,h=>h.elim
 | .node _ _ _ _ _,_=>by simp [tsz]
def zFA (xs:List zD):ET -> Nat -> Prop
 | .nil,_=>True
 | .node b _ t l r,s=>zFA xs l s /\ zFA xs r (s + tsz l) /\ atN xs (s + tsz l + tsz r) = tN b t l r s
theorem zBQ {xs ys:List zD} {i:Nat} (h:i < xs.length):atN (xs ++ ys) i = atN xs i:=by
 simp [atN,List.getD,List.getElem?_append,h]
theorem zAQ {xs ys:List zD} {i:Nat} (h:xs.length <= i):atN (xs ++ ys) i = atN ys (i - xs.length):=by
 simp [atN,List.getD,List.getElem?_append_right h]
theorem zNb (pre post:List zD):∀ (T:ET) (s:Nat),s = pre.length -> zFA (pre ++ (nd T s ++ post)) T s:=by
 intro T
 induction T generalizing pre post with
 | nil=>intro _ _; trivial
 | node b o t l r ihl ihr=>
  intro s hs
  subst hs
  refine ⟨?_,?_,?_⟩
  ·have:=ihl pre (nd r (pre.length + tsz l) ++ [tN b t l r pre.length] ++ post) pre.length rfl
   simpa [nd,List.append_assoc] using this
  ·have:=ihr (pre ++ nd l pre.length) ([tN b t l r pre.length] ++ post) (pre.length + tsz l) (by simp [ZI])
   simpa [nd,List.append_assoc] using this
  ·rw [zAQ (by omega)]
   have e:pre.length + tsz l + tsz r - pre.length = tsz l + tsz r:=by omega
   rw [e,zBQ (by simp [nd,ZI])]
   simp only [nd]
   rw [zAQ (by simp [ZI])]
   simp [ZI,atN]
theorem zEU (T:ET):zFA (nd T 0) T 0:=by
 have:=zNb [] [] T 0 rfl
 simpa using this
theorem zId {xs:List zD}:∀ (T:ET) (s:Nat),zFA xs T s -> ∀ j,j < tsz T -> atN xs (s + j) = atN (nd T s) j:=by
 intro T
 induction T with
 | nil=>intro s _ j hj; simp [tsz] at hj
 | node b o t l r ihl ihr=>
  rintro s ⟨h1,h2,h3⟩ j hj
  simp only [tsz] at hj
  simp only [nd]
  by_cases c1:j < tsz l
  ·rw [ihl s h1 j c1,List.append_assoc,zBQ (by rw [ZI]; exact c1)]
  ·by_cases c2:j < tsz l + tsz r
   ·have:=ihr (s + tsz l) h2 (j - tsz l) (by omega)
    have e:s + tsz l + (j - tsz l) = s + j:=by omega
    rw [e] at this
    rw [this,zBQ (by simp [ZI]; omega),zAQ (by rw [ZI]; omega),ZI]
   ·have e:j = tsz l + tsz r:=by omega
    subst e
    rw [<- Nat.add_assoc,h3,zAQ (by simp [ZI])]
    simp [ZI,atN]
theorem zJk {xs:List zD} {T:ET} (h:zFA xs T 0) (hl:xs.length = tsz T):xs = nd T 0:=by
 apply List.ext_getElem (by rw [ZI,hl])
 intro i h1 h2
 have:=zId T 0 h i (by omega)
 rw [Nat.zero_add] at this
 simpa [atN,List.getD,h1,h2] using this
theorem zBo {xs:List zD}:∀ (T:ET) (s:Nat),Sh T -> zFA xs T s -> frS xs (s + tsz T - 1) = some s:=by
 intro T
 induction T with
 | nil=>intro s h; exact h.elim
 | node b o t l r ihl ihr=>
  rintro s ⟨_,hsh⟩ ⟨h1,h2,h3⟩
  have e:s + tsz (.node b o t l r) - 1 = s + tsz l + tsz r:=by simp only [tsz]; omega
  rw [e]
  rcases hsh with ⟨hk,rfl,rfl⟩ | ⟨hk,hl,rfl⟩ | ⟨hk,hl,hr⟩
  ·simp only [tsz,Nat.add_zero] at h3 ⊢
   have hk':zY (atN xs s).k = 0:=by rw [h3]; exact hk
   rw [zDn hk',if_pos]
   rw [h3]
   simp [tN,hk]
  ·simp only [tsz,Nat.add_zero] at h3 ⊢
   have hp:=hl.pos
   have hk':zY (atN xs (s + tsz l)).k = 1:=by rw [h3]; exact hk
   rw [zFK hk',if_pos]
   ·exact ihl s hl h1
   ·rw [h3]
    simp [tN,hk]
    omega
  ·have hp:=hl.pos
   have hq:=hr.pos
   have hk':zY (atN xs (s + tsz l + tsz r)).k = 2:=by rw [h3]; exact hk
   have f2:=ihr (s + tsz l) hr h2
   rw [zFL hk' (by omega) (by rw [h3]; simp [tN,hk]) f2 (by omega) (by rw [h3]; simp [tN,hk])]
   exact ihl s hl h1
theorem zBp (xs:List zD) (htx:∀ i,i < xs.length -> 0 <= (atN xs i).k):∀ n i f,i < n -> i < xs.length -> frS xs i = some f -> ∃ T,Sh T /\ f + tsz T = i + 1 /\ zFA xs T f
 | 0,_,_,h,_,_=>absurd h (Nat.not_lt_zero _)
 | n + 1,i,f,h,hi,hf=>by
  have hkk:(((atN xs i).k.toNat:Nat):Int) = (atN xs i).k:=Int.toNat_of_nonneg (htx i hi)
  rcases zBa hf with ⟨hk,ha,hb,hfi⟩ | ⟨hk,h1i,ha,hbb,hf1⟩ | ⟨hk,h1i,hbb,f2,hf2,h2f,ha,hf1⟩
  ·refine ⟨.node (atN xs i).k.toNat 0 (atN xs i).t .nil .nil,⟨rfl,Or.inl ⟨by rw [hkk]; exact hk,rfl,rfl⟩⟩,by simp [tsz]; omega,trivial,trivial,?_⟩
   simp only [tsz,Nat.add_zero,tN,hkk,hk]
   rw [hfi]
   generalize atN xs i = o at *
   cases o
   simp_all
  ·have hle:=zAA hf1
   obtain ⟨T,hs,hz,hl⟩:=zBp xs htx n (i - 1) f (by omega) (by omega) hf1
   have hp:=hs.pos
   refine ⟨.node (atN xs i).k.toNat 0 (atN xs i).t T .nil,⟨rfl,Or.inr (Or.inl ⟨by rw [hkk]; exact hk,hs,rfl⟩)⟩,by simp [tsz]; omega,hl,trivial,?_⟩
   have e:f + tsz T + tsz (BT.nil:ET) = i:=by simp [tsz]; omega
   rw [e]
   simp only [tN,hkk,hk]
   have e2:((f + tsz T:Nat):Int) - 1 = (i:Int) - 1:=by omega
   rw [e2]
   generalize atN xs i = o at *
   cases o
   simp_all
  ·have hle:=zAA hf2
   have hle1:=zAA hf1
   obtain ⟨T1,hs1,hz1,hl1⟩:=zBp xs htx n (f2 - 1) f (by omega) (by omega) hf1
   obtain ⟨T2,hs2,hz2,hl2⟩:=zBp xs htx n (i - 1) f2 (by omega) (by omega) hf2
   have hp:=hs1.pos
   have hq:=hs2.pos
   have ef:f + tsz T1 = f2:=by omega
   refine ⟨.node (atN xs i).k.toNat 0 (atN xs i).t T1 T2,⟨rfl,Or.inr (Or.inr ⟨by rw [hkk]; exact hk,hs1,hs2⟩)⟩,by simp [tsz]; omega,hl1,by rw [ef]; exact hl2,?_⟩
   have e:f + tsz T1 + tsz T2 = i:=by omega
   rw [e]
   simp only [tN,hkk,hk]
   have e2:((f + tsz T1:Nat):Int) - 1 = (f2:Int) - 1:=by omega
   have e3:((f + tsz T1 + tsz T2:Nat):Int) - 1 = (i:Int) - 1:=by omega
   rw [e2,e3]
   generalize atN xs i = o at *
   cases o
   simp_all
theorem zBR.nonneg {o:zD} (h:zBR o):0 <= o.k:=by
 rcases h.2 with ⟨h,_⟩ | ⟨h,_⟩ | ⟨h,_⟩ | ⟨h | h | h,_⟩ <;> omega
theorem zIe {xs:List zD} (h:zAn xs):∃ T,Sh T /\ tsz T = xs.length /\ xs = nd T 0:=by
 obtain ⟨T,hs,hz,hl⟩:=zBp xs (fun i hi=>(h.2.2.2 i hi).nonneg) xs.length (xs.length - 1) 0 (by have:=h.1; omega) (by have:=h.1; omega) h.2.2.1
 have e:tsz T = xs.length:=by have:=h.1; omega
 exact ⟨T,hs,e,zJk hl e.symm⟩
def rt (b:Nat) (t:ByteArray):zD:=⟨(b:Int),t,0,0⟩
def clT (ns:List OpR) (b:Nat) (t:ByteArray) (least:Int) (T:ET):ET:=if Z2 ns (rt b t) < least then .node 6 0 ByteArray.empty T .nil else T
def grT (ns:List OpR):ET -> Int -> ET
 | .nil,_=>.nil
 | .node b _ t l r,least=>if b = 6 then grT ns l least else clT ns b t least (.node b 0 t (grT ns l (ZC ns (rt b t) false)) (grT ns r (ZC ns (rt b t) true)))
theorem zNc (ns:List OpR) (o:zD) (b:Nat) (t:ByteArray) (h1:o.k = (b:Int)) (h2:o.t = t):Z2 ns o = Z2 ns (rt b t):=by
 unfold Z2 rt; rw [h1,h2]
theorem zFm (ns:List OpR) (o:zD) (b:Nat) (t:ByteArray) (h1:o.k = (b:Int)) (h2:o.t = t) (c:Bool):ZC ns o c = ZC ns (rt b t) c:=by
 unfold ZC rt; rw [h1,h2]
theorem zOm (ns:List OpR):∀ (T:ET) (l:Int),Sh T -> Sh (grT ns T l):=by
 intro T
 induction T with
 | nil=>intro l h; exact h.elim
 | node b o t l r ihl ihr=>
  rintro least ⟨h0,h⟩
  simp only [grT]
  split
  ·rename_i h6
   subst h6
   rcases h with ⟨hk,_⟩ | ⟨_,hl,_⟩ | ⟨hk,_⟩
   ·exact absurd hk (by decide)
   ·exact ihl _ hl
   ·exact absurd hk (by decide)
  ·have:Sh (.node b 0 t (grT ns l (ZC ns (rt b t) false)) (grT ns r (ZC ns (rt b t) true))):=by
    refine ⟨rfl,?_⟩
    rcases h with ⟨hk,rfl,rfl⟩ | ⟨hk,hl,rfl⟩ | ⟨hk,hl,hr⟩
    ·exact Or.inl ⟨hk,rfl,rfl⟩
    ·exact Or.inr (Or.inl ⟨hk,ihl _ hl,rfl⟩)
    ·exact Or.inr (Or.inr ⟨hk,ihl _ hl,ihr _ hr⟩)
   unfold clT
   split
   ·exact ⟨rfl,Or.inr (Or.inl ⟨by decide,this,rfl⟩)⟩
   ·exact this
theorem zHj (ns:List OpR) (o:zD) (b:Nat) (t:ByteArray) (h1:o.k = (b:Int)) (h2:o.t = t) (least:Int) (s:Nat) (T:ET) (u:List zD) (hu:u = nd T s):zCk ns o least s u = nd (clT ns b t least T) s:=by
 subst hu
 unfold zCk clT
 rw [zNc ns o b t h1 h2]
 split
 ·simp only [nd,tN,ZI,tsz]
  simp [show zY 6 = 1 from rfl,show zY ((6:Nat):Int) = 1 from rfl]
 ·rfl
theorem zNd (ns:List OpR) (xs:List zD):∀ (T:ET) (s:Nat),Sh T -> zFA xs T s -> ∀ (l:Int) (p:Nat),gS ns xs (s + tsz T - 1) l p = nd (grT ns T l) p:=by
 intro T
 induction T with
 | nil=>intro s h; exact h.elim
 | node b o t l r ihl ihr=>
  rintro s ⟨h0,hsh⟩ ⟨h1,h2,h3⟩ least p
  have e:s + tsz (.node b o t l r) - 1 = s + tsz l + tsz r:=by simp only [tsz]; omega
  rw [e]
  have hK:(atN xs (s + tsz l + tsz r)).k = (b:Int):=by rw [h3]; rfl
  have hT:(atN xs (s + tsz l + tsz r)).t = t:=by rw [h3]; rfl
  have hb6:((atN xs (s + tsz l + tsz r)).k = 6) ↔ b = 6:=by rw [hK]; omega
  rcases hsh with ⟨hk,rfl,rfl⟩ | ⟨hk,hl,rfl⟩ | ⟨hk,hl,hr⟩
  ·have hk':zY (atN xs (s + tsz (BT.nil:ET) + tsz (BT.nil:ET))).k = 0:=by rw [hK]; exact hk
   have h6:¬ b = 6:=fun e=>by subst e; exact absurd hk (by decide)
   rw [zHg hk']
   simp only [grT,if_neg h6]
   refine zHj ns _ b t hK hT least p _ _ ?_
   rw [hK,hT]
   simp [nd,tN,hk,tsz,grT]
  ·have hp:=hl.pos
   simp only [tsz,Nat.add_zero] at hK hT hb6 h3 ⊢
   have hk':zY (atN xs (s + tsz l)).k = 1:=by rw [hK]; exact hk
   have hfr:=zBo l s hl h1
   by_cases h6:b = 6
   ·rw [zFj (hb6.2 h6) (by omega) hfr,ihl s hl h1]
    simp only [grT,if_pos h6]
   ·rw [zJi hk' (fun x=>h6 (hb6.1 x)) (by omega) hfr least p (ihl s hl h1 _ p).symm]
    simp only [grT,if_neg h6]
    rw [zFm ns _ b t hK hT]
    refine zHj ns _ b t hK hT least p _ _ ?_
    simp [nd,tN,hK,hT,hk,tsz,ZI,grT]
  ·have hp:=hl.pos
   have hq:=hr.pos
   have hk':zY (atN xs (s + tsz l + tsz r)).k = 2:=by rw [hK]; exact hk
   have h6:¬ b = 6:=fun e=>by subst e; exact absurd hk (by decide)
   have f2:=zBo r (s + tsz l) hr h2
   have f1:=zBo l s hl h1
   rw [zJj hk' (by omega) f2 (by omega) (by rw [h3]; simp [tN,hk]) f1 least p (ihl s hl h1 _ p).symm (ihr (s + tsz l) hr h2 _ _).symm]
   simp only [grT,if_neg h6]
   rw [zFm ns _ b t hK hT,zFm ns _ b t hK hT]
   refine zHj ns _ b t hK hT least p _ _ ?_
   rw [hK,hT]
   simp [nd,tN,hk,tsz,ZI,Nat.add_assoc]
def opn:ByteArray:=⟨#[40]⟩
def zBw:ByteArray:=⟨#[41]⟩
abbrev SyR:=Nat × ByteArray
def ySy:ET -> List SyR
 | .nil=>[]
 | .node b _ t l r=>
  if b = 6 then (6,opn) :: (ySy l ++ [(7,zBw)])
  else if b = 3 then (3,t) :: ySy l
  else if b = 5 then ySy l ++ [(5,t)]
  else if b = 4 then ySy l ++ ((4,t) :: ySy r)
  else [(b,t)]
end Go.Proofs.YtgiemobdmbijiaaGreatDoor
namespace Go.Proofs.YtgiemobdmbijiaaGreatDoor
set_option linter.unusedSimpArgs false
set_option linter.unusedVariables false
set_option maxHeartbeats 16000000
set_option maxRecDepth 100000
open Go.RowKit
end Go.Proofs.YtgiemobdmbijiaaGreatDoor
namespace Go.Proofs.YtgiemobdmbijiaaGreatDoor
set_option linter.unusedSimpArgs false
set_option linter.unusedVariables false
set_option maxHeartbeats 16000000
set_option maxRecDepth 100000
open Go.RowKit
open Go.Deep (BT)
def sLv (ns:List OpR) (s:SyR):Int:=Z2 ns (rt s.1 s.2)
def sH (ns:List OpR) (s:SyR) (b:Bool):Int:=ZC ns (rt s.1 s.2) b
def sSo (ns:List OpR) (s:SyR):Int:=srt (opA ns (rt s.1 s.2)).k (opA ns (rt s.1 s.2)).sd
def knB (ns:List OpR) (s:SyR):Bool:=(fnd ns s.2 ((s.1:Int) - 2)).isSome
structure OpF (ns:List OpR) (s:SyR):Prop where
 lo:1 <= sLv ns s
 hi:sLv ns s <= 1000
 pre:s.1 = 3 -> sH ns s false = sLv ns s /\ sSo ns s = 2
 post:s.1 = 5 -> sH ns s false = sLv ns s /\ sSo ns s = 1
 mid:s.1 = 4 -> (sSo ns s = 1 /\ sH ns s false = sLv ns s /\ sH ns s true = sLv ns s + 1) \/ (sSo ns s = 2 /\ sH ns s false = sLv ns s + 1 /\ sH ns s true = sLv ns s) \/ (sSo ns s = 3 /\ sH ns s false = sLv ns s + 1 /\ sH ns s true = sLv ns s + 1)
theorem zEt {ns:List OpR} (h:zZ ns 0):zDR ns ns.length /\ ¬ Pr 4 ns:=by
 rcases h with ⟨h,_⟩ | ⟨_,⟨h,_⟩ | ⟨hok,⟨h,_⟩ | ⟨_,⟨h,_⟩ | ⟨_,h4⟩⟩⟩⟩
 ·exact absurd h (by decide)
 ·exact absurd h (by decide)
 ·exact absurd h (by decide)
 ·exact absurd h (by decide)
 ·exact ⟨hok,h4⟩
theorem zL6 {ns:List OpR} {s:SyR} (hk:knB ns s = true):∃ j,j < ns.length /\ fnd ns s.2 ((s.1:Int) - 2) = some j /\ (atO ns j).k = (s.1:Int) - 2 /\ opA ns (rt s.1 s.2) = atO ns j:=by
 unfold knB at hk
 obtain ⟨j,hj⟩:=Option.isSome_iff_exists.1 hk
 have:=zA0 hj
 refine ⟨j,this.1,hj,this.2.2,?_⟩
 unfold opA rt
 simp only
 rw [hj]
theorem opF {ns:List OpR} (h:zZ ns 0) {s:SyR} (hs:s.1 = 3 \/ s.1 = 4 \/ s.1 = 5) (hk:knB ns s = true):OpF ns s:=by
 obtain ⟨j,hj,hf,hkk,ho⟩:=zL6 hk
 have hok:=(zEt h).1 j hj
 have hlv:sLv ns s = (atO ns j).l:=by
  unfold sLv Z2 rt
  simp only
  rw [if_pos (by omega),hf]
 have hh:∀ b,sH ns s b = zAu (atO ns j).s (atO ns j).k (atO ns j).l (atO ns j).sd b:=fun b=>by
  unfold sH ZC rt
  simp only
  rw [hf]
  rfl
 have hso:sSo ns s = srt (atO ns j).k (atO ns j).sd:=by unfold sSo; rw [ho]
 have hok':okB (atO ns j).s (atO ns j).k (atO ns j).l (atO ns j).sd = true:=hok
 have hok2:=hok'
 unfold okB zGl at hok2
 simp only [Bool.and_eq_true,Bool.or_eq_true,decide_eq_true_eq,beq_iff_eq] at hok2
 obtain ⟨⟨⟨_,h1⟩,h2⟩,h3⟩:=hok2
 refine ⟨by omega,by omega,fun e=>?_,fun e=>?_,fun e=>?_⟩
 ·have k1:(atO ns j).k = 1:=by omega
  rw [hh,hlv,hso,zAu,srt,k1]
  simp_all
 ·have k1:(atO ns j).k = 3:=by omega
  rw [hh,hlv,hso,zAu,srt,k1]
  simp_all
 ·have k1:(atO ns j).k = 2:=by omega
  rw [hh,hh,hlv,hso,zAu,zAu,srt,k1]
  rw [k1] at hok' h3
  rw [hok']
  have h3':(atO ns j).sd = 1 \/ (atO ns j).sd = 2 \/ (atO ns j).sd = 3:=by simp at h3; omega
  rcases h3' with e | e | e <;> simp [zOf,e]
theorem zEV {ns:List OpR} (h:zZ ns 0) {s s':SyR} (hs:s.1 = 3 \/ s.1 = 4 \/ s.1 = 5) (hs':s'.1 = 3 \/ s'.1 = 4 \/ s'.1 = 5) (hk:knB ns s = true) (hk':knB ns s' = true) (he:sLv ns s = sLv ns s'):sSo ns s = sSo ns s':=by
 obtain ⟨j,hj,hf,hkk,ho⟩:=zL6 hk
 obtain ⟨j',hj',hf',hkk',ho'⟩:=zL6 hk'
 have hlv:sLv ns s = (atO ns j).l:=by unfold sLv Z2 rt; simp only; rw [if_pos (by omega),hf]
 have hlv':sLv ns s' = (atO ns j').l:=by unfold sLv Z2 rt; simp only; rw [if_pos (by omega),hf']
 unfold sSo
 rw [ho,ho']
 by_cases hd:srt (atO ns j).k (atO ns j).sd = srt (atO ns j').k (atO ns j').sd
 ·exact hd
 ·exfalso
  apply (zEt h).2
  rcases Nat.lt_trichotomy j j' with e | e | e
  ·exact ⟨j',j,e,hj',by simp [cl]; exact ⟨by omega,fun x=>hd x.symm⟩⟩
  ·subst e; exact absurd rfl hd
  ·exact ⟨j,j',e,hj,by simp [cl]; exact ⟨by omega,hd⟩⟩
def lvT (ns:List OpR):ET -> Int
 | .nil=>1001
 | .node b _ t _ _=>sLv ns (b,t)
def Zk (ns:List OpR):ET -> Prop
 | .nil=>False
 | .node b o t l r=>o = 0 /\ (((b = 1 \/ b = 2) /\ l = .nil /\ r = .nil) \/
   (b = 6 /\ t = ByteArray.empty /\ Zk ns l /\ r = .nil) \/
   ((b = 3 \/ b = 5) /\ knB ns (b,t) = true /\ Zk ns l /\ r = .nil /\ sH ns (b,t) false <= lvT ns l) \/
   (b = 4 /\ knB ns (b,t) = true /\ Zk ns l /\ Zk ns r /\ sH ns (b,t) false <= lvT ns l /\ sH ns (b,t) true <= lvT ns r))
theorem zC6 (ns:List OpR) (b:Nat) (t:ByteArray) (h:¬ (b = 3 \/ b = 4 \/ b = 5)):sLv ns (b,t) = 1001:=by
 unfold sLv Z2 rt
 simp only
 rw [if_neg (by omega)]
theorem Zk.sh {ns:List OpR}:∀ {T:ET},Zk ns T -> Sh T
 | .nil,h=>h.elim
 | .node b o t l r,⟨h0,h⟩=>by
  refine ⟨h0,?_⟩
  rcases h with ⟨h | h,rfl,rfl⟩ | ⟨rfl,_,hl,rfl⟩ | ⟨h | h,_,hl,rfl,_⟩ | ⟨rfl,_,hl,hr,_⟩
  ·subst h; exact Or.inl ⟨by decide,rfl,rfl⟩
  ·subst h; exact Or.inl ⟨by decide,rfl,rfl⟩
  ·exact Or.inr (Or.inl ⟨by decide,hl.sh,rfl⟩)
  ·subst h; exact Or.inr (Or.inl ⟨by decide,hl.sh,rfl⟩)
  ·subst h; exact Or.inr (Or.inl ⟨by decide,hl.sh,rfl⟩)
  ·exact Or.inr (Or.inr ⟨by decide,hl.sh,hr.sh⟩)
def rd (ns:List OpR):Nat -> Int -> Option ET -> List SyR -> Option (ET × List SyR)
 | 0,_,_,_=>none
 | _ + 1,_,none,[]=>none
 | n + 1,least,none,s :: r=>
  if s.1 = 3 then (if sLv ns s < least then none else (match rd ns n (sH ns s false) none r with
   | none=>none
   | some x=>rd ns n least (some (.node 3 0 s.2 x.1 .nil)) x.2))
  else if s.1 = 6 then (match rd ns n 0 none r with
   | none=>none
   | some x=>rd ns n least (some (.node 6 0 ByteArray.empty x.1 .nil)) x.2.tail)
  else rd ns n least (some (.node s.1 0 s.2 .nil .nil)) r
 | _ + 1,_,some T,[]=>some (T,[])
 | n + 1,least,some T,s :: r=>
  if s.1 = 4 /\ least <= sLv ns s then (if lvT ns T < sH ns s false then none else (match rd ns n (sH ns s true) none r with
   | none=>none
   | some x=>rd ns n least (some (.node 4 0 s.2 T x.1)) x.2))
  else if s.1 = 5 /\ least <= sLv ns s then (if lvT ns T < sH ns s false then none else rd ns n least (some (.node 5 0 s.2 T .nil)) r)
  else some (T,s :: r)
theorem zA1 (ns:List OpR):∀ n least md ss x,rd ns n least md ss = some x -> x.2.length <= ss.length
 | 0,_,_,_,_,h=>by simp [rd] at h
 | n + 1,least,none,[],x,h=>by simp [rd] at h
 | n + 1,least,none,s :: r,x,h=>by
  simp only [rd] at h
  split at h
  ·split at h
   ·cases h
   ·split at h
    ·cases h
    ·rename_i y hy
     have h1:=zA1 ns n _ _ _ _ hy
     have h2:=zA1 ns n _ _ _ _ h
     simp only [List.length_cons]; omega
  ·split at h
   ·split at h
    ·cases h
    ·rename_i y hy
     have h1:=zA1 ns n _ _ _ _ hy
     have h2:=zA1 ns n _ _ _ _ h
     have h3:y.2.tail.length <= y.2.length:=by simp
     simp only [List.length_cons]; omega
   ·have h2:=zA1 ns n _ _ _ _ h
    simp only [List.length_cons]; omega
 | n + 1,least,some T,[],x,h=>by
  simp only [rd,Option.some.injEq] at h
  subst h; simp
 | n + 1,least,some T,s :: r,x,h=>by
  simp only [rd] at h
  split at h
  ·split at h
   ·cases h
   ·split at h
    ·cases h
    ·rename_i y hy
     have h1:=zA1 ns n _ _ _ _ hy
     have h2:=zA1 ns n _ _ _ _ h
     simp only [List.length_cons]; omega
  ·split at h
   ·split at h
    ·cases h
    ·have h2:=zA1 ns n _ _ _ _ h
     simp only [List.length_cons]; omega
   ·simp only [Option.some.injEq] at h
    subst h; simp
theorem zDz (ns:List OpR):∀ n m least md ss,ss.length < n -> ss.length < m -> rd ns n least md ss = rd ns m least md ss
 | 0,_,_,_,_,h,_=>absurd h (Nat.not_lt_zero _)
 | _ + 1,0,_,_,_,_,h=>absurd h (Nat.not_lt_zero _)
 | n + 1,m + 1,least,none,[],_,_=>by simp [rd]
 | n + 1,m + 1,least,some T,[],_,_=>by simp [rd]
 | n + 1,m + 1,least,none,s :: r,h,h'=>by
  simp only [List.length_cons] at h h'
  have e1:=fun l=>zDz ns n m l none r (by omega) (by omega)
  have e2:=fun l md q=>fun (hq:q.length <= r.length)=>zDz ns n m l md q (by omega) (by omega)
  simp only [rd,e1]
  split
  ·split
   ·rfl
   ·cases hy:rd ns m (sH ns s false) none r with
    | none=>rfl
    | some y=>exact e2 _ _ _ (zA1 ns m _ _ _ _ hy)
  ·split
   ·cases hy:rd ns m 0 none r with
    | none=>rfl
    | some y=>exact e2 _ _ _ (by have:=zA1 ns m _ _ _ _ hy; simp; omega)
   ·exact e2 _ _ _ (Nat.le_refl _)
 | n + 1,m + 1,least,some T,s :: r,h,h'=>by
  simp only [List.length_cons] at h h'
  have e1:=fun l=>zDz ns n m l none r (by omega) (by omega)
  have e2:=fun l md q=>fun (hq:q.length <= r.length)=>zDz ns n m l md q (by omega) (by omega)
  simp only [rd,e1]
  split
  ·split
   ·rfl
   ·cases hy:rd ns m (sH ns s true) none r with
    | none=>rfl
    | some y=>exact e2 _ _ _ (zA1 ns m _ _ _ _ hy)
  ·split
   ·split
    ·rfl
    ·exact e2 _ _ _ (Nat.le_refl _)
   ·rfl
def RD (ns:List OpR) (least:Int) (md:Option ET) (ss:List SyR):Option (ET × List SyR):=rd ns (ss.length + 1) least md ss
theorem zOb (ns:List OpR) (n:Nat) (least:Int) (md:Option ET) (ss:List SyR) (h:ss.length < n):rd ns n least md ss = RD ns least md ss:=
 zDz ns _ _ _ _ _ h (Nat.lt_succ_self _)
theorem zHk (ns:List OpR) (least:Int) (s:SyR) (r:List SyR):RD ns least none (s :: r) =
  if s.1 = 3 then (if sLv ns s < least then none else (match RD ns (sH ns s false) none r with
   | none=>none
   | some x=>RD ns least (some (.node 3 0 s.2 x.1 .nil)) x.2))
  else if s.1 = 6 then (match RD ns 0 none r with
   | none=>none
   | some x=>RD ns least (some (.node 6 0 ByteArray.empty x.1 .nil)) x.2.tail)
  else RD ns least (some (.node s.1 0 s.2 .nil .nil)) r:=by
 have e:RD ns least none (s :: r) = rd ns (r.length + 1 + 1) least none (s :: r):=rfl
 have e1:∀ l,rd ns (r.length + 1) l none r = RD ns l none r:=fun l=>rfl
 have e2:∀ l md q,q.length <= r.length -> rd ns (r.length + 1) l md q = RD ns l md q:=fun l md q hq=>zOb ns _ l md q (by omega)
 rw [e]
 simp only [rd,e1]
 split
 ·split
  ·rfl
  ·cases hy:RD ns (sH ns s false) none r with
   | none=>rfl
   | some y=>exact e2 _ _ _ (zA1 ns _ _ _ _ _ hy)
 ·split
  ·cases hy:RD ns 0 none r with
   | none=>rfl
   | some y=>exact e2 _ _ _ (by have:=zA1 ns _ _ _ _ _ hy; simp; omega)
  ·rfl
theorem zHl (ns:List OpR) (least:Int) (T:ET) (s:SyR) (r:List SyR):RD ns least (some T) (s :: r) =
  if s.1 = 4 /\ least <= sLv ns s then (if lvT ns T < sH ns s false then none else (match RD ns (sH ns s true) none r with
   | none=>none
   | some x=>RD ns least (some (.node 4 0 s.2 T x.1)) x.2))
  else if s.1 = 5 /\ least <= sLv ns s then (if lvT ns T < sH ns s false then none else RD ns least (some (.node 5 0 s.2 T .nil)) r)
  else some (T,s :: r):=by
 have e:RD ns least (some T) (s :: r) = rd ns (r.length + 1 + 1) least (some T) (s :: r):=rfl
 have e1:∀ l,rd ns (r.length + 1) l none r = RD ns l none r:=fun l=>rfl
 have e2:∀ l md q,q.length <= r.length -> rd ns (r.length + 1) l md q = RD ns l md q:=fun l md q hq=>zOb ns _ l md q (by omega)
 rw [e]
 simp only [rd,e1]
 split
 ·split
  ·rfl
  ·cases hy:RD ns (sH ns s true) none r with
   | none=>rfl
   | some y=>exact e2 _ _ _ (zA1 ns _ _ _ _ _ hy)
 ·split
  ·split
   ·rfl
   ·rfl
  ·rfl
def zEu (ns:List OpR) (least:Int) (ss:List SyR):Prop:=∀ s r,ss = s :: r -> (s.1 = 4 \/ s.1 = 5) -> sLv ns s < least
theorem zFM {ns:List OpR} {least:Int} {ss:List SyR} (h:zEu ns least ss) (T:ET):RD ns least (some T) ss = some (T,ss):=by
 cases ss with
 | nil=>rfl
 | cons s r=>
  have hs:=h s r rfl
  rw [zHl,if_neg (fun x=>by have:=hs (Or.inl x.1); omega),if_neg (fun x=>by have:=hs (Or.inr x.1); omega)]
def zGy (ns:List OpR):ET -> List SyR -> Prop
 | .nil,_=>True
 | .node b _ t l r,ss=>(b = 3 -> zEu ns (sH ns (b,t) false) ss /\ zGy ns l ss) /\ (b = 4 -> zEu ns (sH ns (b,t) true) ss /\ zGy ns r ss)
theorem zCI {ns:List OpR} {least:Int} {s:SyR} {r:List SyR} (h:¬ (s.1 = 4 \/ s.1 = 5)):zEu ns least (s :: r):=fun s' r' e hs=>by
 injection e with e1 e2
 subst e1
 exact absurd hs h
theorem zBq {ns:List OpR} {s:SyR} {r:List SyR} (h:¬ (s.1 = 4 \/ s.1 = 5)):∀ T:ET,zGy ns T (s :: r)
 | .nil=>trivial
 | .node b o t l q=>⟨fun _=>⟨zCI h,zBq h l⟩,fun _=>⟨zCI h,zBq h q⟩⟩
theorem zEv {ns:List OpR} (hv:zZ ns 0) {q:SyR} {r:List SyR}:∀ T:ET,Zk ns T -> sLv ns q < lvT ns T -> zGy ns T (q :: r):=by
 intro T
 induction T with
 | nil=>intro h; exact h.elim
 | node b o t l rr ihl ihr=>
  rintro ⟨_,h⟩ hq
  have st:∀ m:Int,sLv ns q < m -> zEu ns m (q :: r):=fun m hm s' r' e _=>by
   injection e with e1 e2
   subst e1
   exact hm
  refine ⟨fun e=>?_,fun e=>?_⟩
  ·subst e
   rcases h with ⟨h | h,_⟩ | ⟨h,_⟩ | ⟨_,hk,hl,_,hh⟩ | ⟨h,_⟩
   ·omega
   ·omega
   ·omega
   ·have f:=(opF hv (Or.inl rfl) hk).pre rfl
    simp only [lvT] at hq
    exact ⟨st _ (by omega),ihl hl (by omega)⟩
   ·omega
  ·subst e
   rcases h with ⟨h | h,_⟩ | ⟨h,_⟩ | ⟨h | h,_⟩ | ⟨_,hk,hl,hr,h1,h2⟩
   ·omega
   ·omega
   ·omega
   ·omega
   ·omega
   ·have f:=(opF hv (Or.inr (Or.inl rfl)) hk).mid rfl
    simp only [lvT] at hq
    exact ⟨st _ (by omega),ihr hr (by omega)⟩
theorem zGz {ns:List OpR} (hv:zZ ns 0) {q:SyR} {r:List SyR} (hq:q.1 = 4 \/ q.1 = 5) (hkq:knB ns q = true):∀ T:ET,Zk ns T -> sH ns q false <= lvT ns T -> zGy ns T (q :: r):=by
 intro T hT hle
 have fq:=opF hv (by omega) hkq
 have hh:sH ns q false = sLv ns q + 1 \/ (sH ns q false = sLv ns q /\ sSo ns q = 1):=by
  rcases hq with e | e
  ·rcases fq.mid e with h | h | h
   ·exact Or.inr ⟨h.2.1,h.1⟩
   ·exact Or.inl h.2.1
   ·exact Or.inl h.2.1
  ·exact Or.inr (fq.post e)
 by_cases hlt:sLv ns q < lvT ns T
 ·exact zEv hv T hT hlt
 ·have heq:lvT ns T = sLv ns q /\ sSo ns q = 1:=by
   rcases hh with h | ⟨h,h'⟩
   ·omega
   ·exact ⟨by omega,h'⟩
  cases T with
  | nil=>exact hT.elim
  | node b o t l rr=>
   obtain ⟨_,h⟩:=hT
   simp only [lvT] at heq
   have st:∀ m:Int,sLv ns q < m -> zEu ns m (q :: r):=fun m hm s' r' e _=>by
    injection e with e1 e2
    subst e1
    exact hm
   refine ⟨fun e=>?_,fun e=>?_⟩
   ·subst e
    rcases h with ⟨h | h,_⟩ | ⟨h,_⟩ | ⟨_,hk,hl,_,hh⟩ | ⟨h,_⟩
    ·omega
    ·omega
    ·omega
    ·have f:=(opF hv (Or.inl rfl) hk).pre rfl
     have:=zEV hv (s:=(3,t)) (s':=q) (Or.inl rfl) (by omega) hk hkq heq.1
     omega
    ·omega
   ·subst e
    rcases h with ⟨h | h,_⟩ | ⟨h,_⟩ | ⟨h | h,_⟩ | ⟨_,hk,hl,hr,h1,h2⟩
    ·omega
    ·omega
    ·omega
    ·omega
    ·omega
    ·have f:=(opF hv (Or.inr (Or.inl rfl)) hk).mid rfl
     have:=zEV hv (s:=(4,t)) (s':=q) (Or.inr (Or.inl rfl)) (by omega) hk hkq heq.1
     have e2:sH ns (4,t) true = sLv ns (4,t) + 1:=by
      rcases f with h | h | h
      ·exact h.2.2
      ·omega
      ·omega
     exact ⟨st _ (by omega),zEv hv rr hr (by omega)⟩
theorem zL7 {ns:List OpR} (hv:zZ ns 0):∀ (T:ET),Zk ns T -> ∀ (least:Int) (rest:List SyR),least <= lvT ns T -> zGy ns T rest -> RD ns least none (ySy T ++ rest) = RD ns least (some T) rest:=by
 intro T
 induction T with
 | nil=>intro h; exact h.elim
 | node b o t l r ihl ihr=>
  rintro ⟨rfl,h⟩ least rest hle hst
  simp only [lvT] at hle
  rcases h with ⟨h12,rfl,rfl⟩ | ⟨rfl,rfl,hl,rfl⟩ | ⟨h35,hk,hl,rfl,hh⟩ | ⟨rfl,hk,hl,hr,h1,h2⟩
  ·have e:ySy (.node b 0 t .nil .nil) = [(b,t)]:=by
    simp only [ySy]
    rw [if_neg (by omega),if_neg (by omega),if_neg (by omega),if_neg (by omega)]
   rw [e]
   show RD ns least none ((b,t) :: rest) = _
   rw [zHk]
   simp only
   rw [if_neg (by omega),if_neg (by omega)]
  ·have e:ySy (.node 6 0 ByteArray.empty l .nil) ++ rest = (6,opn) :: (ySy l ++ ((7,zBw) :: rest)):=by
    simp [ySy]
   rw [e,zHk]
   simp only
   rw [if_neg (by decide),if_pos trivial]
   have hs:¬ ((7,zBw):SyR).1 = 4 /\ ¬ ((7,zBw):SyR).1 = 5:=⟨by decide,by decide⟩
   have h0:(0:Int) <= lvT ns l:=by
    cases l with
    | nil=>exact hl.elim
    | node bb oo tt ll rr=>
     simp only [lvT]
     by_cases hb:bb = 3 \/ bb = 4 \/ bb = 5
     ·have hkn:knB ns (bb,tt) = true:=by
       rcases hl.2 with ⟨h | h,_⟩ | ⟨h,_⟩ | ⟨_,hk,_⟩ | ⟨_,hk,_⟩
       ·omega
       ·omega
       ·omega
       ·exact hk
       ·exact hk
      have:=(opF hv (s:=(bb,tt)) hb hkn).lo
      omega
     ·rw [zC6 ns bb tt hb]; omega
   rw [ihl hl 0 _ h0 (zBq (by omega) l),zFM (zCI (by omega))]
   rfl
  ·rcases h35 with rfl | rfl
   ·have f:=(opF hv (Or.inl rfl) hk).pre rfl
    have e:ySy (.node 3 0 t l .nil) ++ rest = (3,t) :: (ySy l ++ rest):=by simp [ySy]
    obtain ⟨hst1,hst2⟩:=hst.1 rfl
    rw [e,zHk]
    simp only
    rw [if_pos trivial,if_neg (by omega),ihl hl _ rest hh hst2,zFM hst1]
   ·have f:=(opF hv (Or.inr (Or.inr rfl)) hk).post rfl
    have e:ySy (.node 5 0 t l .nil) ++ rest = ySy l ++ ((5,t) :: rest):=by simp [ySy]
    rw [e,ihl hl least _ (by omega) (zGz hv (q:=(5,t)) (Or.inr rfl) hk l hl hh),zHl]
    simp only
    rw [if_neg (by omega),if_pos ⟨trivial,hle⟩,if_neg (by omega)]
  ·have f:=(opF hv (Or.inr (Or.inl rfl)) hk).mid rfl
   have e:ySy (.node 4 0 t l r) ++ rest = ySy l ++ ((4,t) :: (ySy r ++ rest)):=by simp [ySy]
   obtain ⟨hst1,hst2⟩:=hst.2 rfl
   rw [e,ihl hl least _ (by omega) (zGz hv (q:=(4,t)) (Or.inl rfl) hk l hl h1),zHl]
   simp only
   rw [if_pos ⟨trivial,hle⟩,if_neg (by omega),ihr hr _ rest h2 hst2,zFM hst1]
end Go.Proofs.YtgiemobdmbijiaaGreatDoor
namespace Go.Proofs.YtgiemobdmbijiaaGreatDoor
set_option linter.unusedSimpArgs false
set_option linter.unusedVariables false
set_option maxHeartbeats 16000000
set_option maxRecDepth 100000
open Go.RowKit
theorem ZJ {w:World} {B n:Nat} {e:TypeId} {u:Value} {xs:List Value} (h:w.ownsRow B e 4 u n xs):∃ a c,u = .slice a n c:=by
 obtain ⟨_,⟨rfl,rfl⟩ | ⟨g,cap,cur,rfl,_⟩⟩:=h
 ·exact ⟨none,0,rfl⟩
 ·exact ⟨_,_,rfl⟩
def zr (w:World) (B:Nat) (u:Value) (us:List zD):Prop:=w.ownsRow B 120 4 u us.length (zM us)
theorem zr.below {w w':World} {B:Nat} {u:Value} {us:List zD} (h:zr w B u us) (hb:Below w.heap.size w w'):zr w' B u us:=
 World.ownsRow.kept h (zO hb none) (by cases u.ownBlock with
 | none=>exact Or.inl rfl
 | some k=>exact Or.inr (by simp))
theorem zr.lt {w:World} {B:Nat} {u:Value} {us:List zD} (h:zr w B u us):∀ g,u.ownBlock = some g -> g < w.heap.size:=fun g hg=>(World.ownsRow.lt h g hg).2
def zAR (w:World) (B:Nat) (u:Value) (vs:List zD) (x:Ending) (w':World):Prop:=
 ∃ u',x = .returned u' /\ Hid (zr w' B u' vs) /\ Hid (w.grownBy w' u.ownBlock) /\ Hid (u'.ownBlock = u.ownBlock \/ ∃ k,u'.ownBlock = some k /\ w.heap.size <= k)
end Go.Proofs.YtgiemobdmbijiaaGreatDoor
