import Derived.Deep.Trees
import Derived.Test.YtfboipappaonhaaGreatF00
import Derived.Test.YtfboipappaonhaaGreatF01
import Derived.Test.YtfboipappaonhaaGreatF08
namespace Go.Proofs.YtfboipappaonhaaGreat
set_option linter.unusedSimpArgs false
set_option linter.unusedVariables false
set_option maxHeartbeats 16000000
set_option maxRecDepth 100000
open Go.RowKit
def zIu (t:ByteArray):Value:=.iface 119 (.agg #[.string t])
def zE5 (t:ByteArray):Value:=.iface 121 (.agg #[.string t])
def zEd (p:OpR) (e:Value):Value:=.iface 129 (.agg #[.string p.s,.int .i64 p.k,.int .i64 p.l,.int .i64 p.sd,e])
def zBw (p:OpR) (e:Value):Value:=.iface 132 (.agg #[.string p.s,.int .i64 p.k,.int .i64 p.l,.int .i64 p.sd,e])
def zDt (p:OpR) (e e':Value):Value:=.iface 131 (.agg #[.string p.s,.int .i64 p.k,.int .i64 p.l,.int .i64 p.sd,e,e'])
def zE6 (e:Value):Value:=.iface 134 (.agg #[e])
def opA (ns:List OpR) (o:zD):OpR:=match fnd ns o.t (o.k-2) with
 | some j=>atO ns j
 | none=>⟨ByteArray.empty,0,0,0⟩
def exN (p:OpR) (o:zD) (e e':Value):Value:=
 if o.k=1 then zIu o.t else if o.k=2 then zE5 o.t else if o.k=3 then zEd p e else if o.k=4 then zDt p e e' else if o.k=5 then zBw p e else zE6 e
def exL (ns:List OpR) (xs:List zD):Nat->List Value
 | 0=>[]
 | k+1=>exL ns xs k++[exN (opA ns (atN xs k)) (atN xs k) ((exL ns xs k).getD (atN xs k).a.toNat .nilIface) ((exL ns xs k).getD (atN xs k).b.toNat .nilIface)]
theorem zGV (ns:List OpR) (xs:List zD):∀ k,(exL ns xs k).length=k
 | 0=>rfl
 | k+1=>by simp [exL,zGV ns xs k]
def exS (ns:List OpR) (xs:List zD) (i:Nat):Value:=(exL ns xs (i+1)).getD i .nilIface
theorem zEe (ns:List OpR) (xs:List zD) (i:Nat):exS ns xs i=exN (opA ns (atN xs i)) (atN xs i) ((exL ns xs i).getD (atN xs i).a.toNat .nilIface) ((exL ns xs i).getD (atN xs i).b.toNat .nilIface):=by
 have h:=zGV ns xs i
 unfold exS
 show (exL ns xs i++[_]).getD i .nilIface=_
 simp [List.getD,List.getElem?_append,h]
theorem zBy (ns:List OpR) (xs:List zD):∀ k i,i<k->(exL ns xs k).getD i .nilIface=exS ns xs i
 | 0,_,h=>absurd h (Nat.not_lt_zero _)
 | k+1,i,h=>by
  by_cases e:i=k
  ·subst e; rfl
  ·have hl:=zGV ns xs k
   rw [<- zBy ns xs k i (by omega)]
   show (exL ns xs k++[_]).getD i .nilIface=_
   simp [List.getD,List.getElem?_append,hl,(by omega:i<k)]
theorem zOn {ns:List OpR} {xs:List zD} {i:Nat} (h1:1<=i) (ha:(atN xs i).a=(i:Int)-1) (e':Value) (hk:zU (atN xs i).k=1):exS ns xs i=exN (opA ns (atN xs i)) (atN xs i) (exS ns xs (i-1)) e':=by
 rw [zEe,ha]
 have:((i:Int)-1).toNat=i-1:=by omega
 rw [this,zBy ns xs i (i-1) (by omega)]
 have h4:(atN xs i).k≠4:=fun e=>by rw [e] at hk; simp [zU] at hk
 simp only [exN,if_neg h4]
theorem zOo {ns:List OpR} {xs:List zD} {i j:Nat} (h1:1<=i) (ha:(atN xs i).a=(j:Int)) (hj:j<i) (hb:(atN xs i).b=(i:Int)-1):exS ns xs i=exN (opA ns (atN xs i)) (atN xs i) (exS ns xs j) (exS ns xs (i-1)):=by
 rw [zEe,ha,hb]
 have:((i:Int)-1).toNat=i-1:=by omega
 rw [this,zBy ns xs i (i-1) (by omega),Int.toNat_natCast,zBy ns xs i j hj]
def zCW (ns:List OpR) (o:zD) (least:Int) (e:Value):Value:=if Zd ns o<least then zE6 e else e
def ft (ns:List OpR) (xs:List zD):Nat->Nat->Int->Value
 | 0,_,_=>.nilIface
 | n+1,i,least=>
  if (atN xs i).k=6 then ft ns xs n (i-1) least
  else if zU (atN xs i).k=0 then zCW ns (atN xs i) least (exN (opA ns (atN xs i)) (atN xs i) .nilIface .nilIface)
  else if zU (atN xs i).k=1 then zCW ns (atN xs i) least (exN (opA ns (atN xs i)) (atN xs i) (ft ns xs n (i-1) (zY ns (atN xs i) false)) .nilIface)
  else zCW ns (atN xs i) least (exN (opA ns (atN xs i)) (atN xs i) (ft ns xs n (atN xs i).a.toNat (zY ns (atN xs i) false)) (ft ns xs n (i-1) (zY ns (atN xs i) true)))
theorem zDT (ns:List OpR) (xs:List zD):∀ n m i f,i<n->i<m->frS xs i=some f->∀ l,ft ns xs n i l=ft ns xs m i l
 | 0,_,_,_,h,_,_=>absurd h (Nat.not_lt_zero _)
 | _+1,0,_,_,_,h,_=>absurd h (Nat.not_lt_zero _)
 | n+1,m+1,i,f,h,h',hf=>by
  intro l
  rcases zAe hf with ⟨hk,ha,hb,hfi⟩ | ⟨hk,h1i,ha,hbb,hf1⟩ | ⟨hk,h1i,hbb,f2,hf2,h2f,ha,hf1⟩
  ·have h6:(atN xs i).k≠6:=fun e=>by rw [e] at hk; simp [zU] at hk
   simp only [ft,if_neg h6,hk,if_true]
  ·have e:=zDT ns xs n m (i-1) f (by omega) (by omega) hf1
   simp only [ft,e]
   by_cases h6:(atN xs i).k=6
   ·rw [if_pos h6,if_pos h6]
   ·simp only [if_neg h6,hk,if_true,Nat.one_ne_zero,if_false]
  ·have h6:(atN xs i).k≠6:=fun e=>by rw [e] at hk; simp [zU] at hk
   have hle:=Zl hf2
   have e1:=zDT ns xs n m (i-1) f2 (by omega) (by omega) hf2
   have e2:=zDT ns xs n m (f2-1) f (by omega) (by omega) hf1
   have ea:(atN xs i).a.toNat=f2-1:=by omega
   simp only [ft,if_neg h6,ea,e1,e2]
def fS (ns:List OpR) (xs:List zD) (i:Nat) (l:Int):Value:=ft ns xs (i+1) i l
theorem zGW {ns:List OpR} {xs:List zD} {i:Nat} (hk:zU (atN xs i).k=0) (l:Int):fS ns xs i l=zCW ns (atN xs i) l (exN (opA ns (atN xs i)) (atN xs i) .nilIface .nilIface):=by
 have h6:(atN xs i).k≠6:=fun e=>by rw [e] at hk; simp [zU] at hk
 simp only [fS,ft,if_neg h6,hk,if_true]
theorem zG1 {ns:List OpR} {xs:List zD} {i f:Nat} (hk:(atN xs i).k=6) (h1:1<=i) (hf:frS xs (i-1)=some f) (l:Int):fS ns xs i l=fS ns xs (i-1) l:=by
 have e:fS ns xs i l=ft ns xs i (i-1) l:=by simp only [fS,ft,if_pos hk]
 rw [e]
 exact zDT ns xs _ _ _ f (by omega) (by omega) hf l
theorem zIv {ns:List OpR} {xs:List zD} {i f:Nat} (hk:zU (atN xs i).k=1) (h6:(atN xs i).k≠6) (h1:1<=i) (hf:frS xs (i-1)=some f) (l:Int) :
  fS ns xs i l=zCW ns (atN xs i) l (exN (opA ns (atN xs i)) (atN xs i) (fS ns xs (i-1) (zY ns (atN xs i) false)) .nilIface):=by
 have e:=zDT ns xs i (i-1+1) (i-1) f (by omega) (by omega) hf
 unfold fS
 conv=>lhs; unfold ft
 simp only [if_neg h6,hk,if_true,Nat.one_ne_zero,if_false,e]
theorem zKv {ns:List OpR} {xs:List zD} {i f f2:Nat} (hk:zU (atN xs i).k=2) (h1:1<=i) (hf2:frS xs (i-1)=some f2) (h2:1<=f2) (ha:(atN xs i).a=(f2:Int)-1) (hf:frS xs (f2-1)=some f) (l:Int) :
  fS ns xs i l=zCW ns (atN xs i) l (exN (opA ns (atN xs i)) (atN xs i) (fS ns xs (f2-1) (zY ns (atN xs i) false)) (fS ns xs (i-1) (zY ns (atN xs i) true))):=by
 have h6:(atN xs i).k≠6:=fun e=>by rw [e] at hk; simp [zU] at hk
 have hle:=Zl hf2
 have e1:=zDT ns xs i (i-1+1) (i-1) f2 (by omega) (by omega) hf2
 have e2:=zDT ns xs i (f2-1+1) (f2-1) f (by omega) (by omega) hf
 have ea:(atN xs i).a.toNat=f2-1:=by omega
 unfold fS
 conv=>lhs; unfold ft
 simp only [if_neg h6,ea,e1,e2,hk]
 rfl
end Go.Proofs.YtfboipappaonhaaGreat
namespace Go.Proofs.YtfboipappaonhaaGreat
set_option linter.unusedSimpArgs false
set_option linter.unusedVariables false
set_option maxHeartbeats 16000000
set_option maxRecDepth 100000
open Go.RowKit
open Go.Deep (BT)
abbrev ET:=BT ByteArray
def tsz:ET->Nat
 | .nil=>0
 | .node _ _ _ l r=>tsz l+tsz r+1
def tN (b:Nat) (t:ByteArray) (l r:ET) (s:Nat):zD:=
 ⟨(b:Int),t,if zU (b:Int)=0 then 0 else ((s+tsz l:Nat):Int)-1,if zU (b:Int)=2 then ((s+tsz l+tsz r:Nat):Int)-1 else 0⟩
def nd:ET->Nat->List zD
 | .nil,_=>[]
 | .node b _ t l r,s=>nd l s++nd r (s+tsz l)++[tN b t l r s]
theorem zi:∀ (T:ET) (s:Nat),(nd T s).length=tsz T
 | .nil,_=>rfl
 | .node b o t l r,s=>by simp [nd,tsz,zi l,zi r]; omega
def Sh:ET->Prop
 | .nil=>False
 | .node b o _ l r=>o=0/\((zU (b:Int)=0/\l = .nil/\r = .nil)\/(zU (b:Int)=1/\Sh l/\r = .nil)\/(zU (b:Int)=2/\Sh l/\Sh r))
theorem Sh.pos:∀ {T:ET},Sh T->1<=tsz T
 | .nil,h=>h.elim
 | .node _ _ _ _ _,_=>by simp [tsz]
def zBr (xs:List zD):ET->Nat->Prop
 | .nil,_=>True
 | .node b _ t l r,s=>zBr xs l s/\zBr xs r (s+tsz l)/\atN xs (s+tsz l+tsz r)=tN b t l r s
theorem zBs {xs ys:List zD} {i:Nat} (h:i<xs.length):atN (xs++ys) i=atN xs i:=by
 simp [atN,List.getD,List.getElem?_append,h]
theorem zAq {xs ys:List zD} {i:Nat} (h:xs.length<=i):atN (xs++ys) i=atN ys (i-xs.length):=by
 simp [atN,List.getD,List.getElem?_append_right h]
theorem zOp (pre post:List zD):∀ (T:ET) (s:Nat),s=pre.length->zBr (pre++(nd T s++post)) T s:=by
 intro T
 induction T generalizing pre post with
 | nil=>intro _ _; trivial
 | node b o t l r ihl ihr=>
  intro s hs
  subst hs
  refine ⟨?_,?_,?_⟩
  ·have:=ihl pre (nd r (pre.length+tsz l)++[tN b t l r pre.length]++post) pre.length rfl
   simpa [nd,List.append_assoc] using this
  ·have:=ihr (pre++nd l pre.length) ([tN b t l r pre.length]++post) (pre.length+tsz l) (by simp [zi])
   simpa [nd,List.append_assoc] using this
  ·rw [zAq (by omega)]
   have e:pre.length+tsz l+tsz r-pre.length=tsz l+tsz r:=by omega
   rw [e,zBs (by simp [nd,zi])]
   simp only [nd]
   rw [zAq (by simp [zi])]
   simp [zi,atN]
theorem ZW (T:ET):zBr (nd T 0) T 0:=by
 have:=zOp [] [] T 0 rfl
 simpa using this
theorem zJ5 {xs:List zD}:∀ (T:ET) (s:Nat),zBr xs T s->∀ j,j<tsz T->atN xs (s+j)=atN (nd T s) j:=by
 intro T
 induction T with
 | nil=>intro s _ j hj; simp [tsz] at hj
 | node b o t l r ihl ihr=>
  rintro s ⟨h1,h2,h3⟩ j hj
  simp only [tsz] at hj
  simp only [nd]
  by_cases c1:j<tsz l
  ·rw [ihl s h1 j c1,List.append_assoc,zBs (by rw [zi]; exact c1)]
  ·by_cases c2:j<tsz l+tsz r
   ·have:=ihr (s+tsz l) h2 (j-tsz l) (by omega)
    have e:s+tsz l+(j-tsz l)=s+j:=by omega
    rw [e] at this
    rw [this,zBs (by simp [zi]; omega),zAq (by rw [zi]; omega),zi]
   ·have e:j=tsz l+tsz r:=by omega
    subst e
    rw [<- Nat.add_assoc,h3,zAq (by simp [zi])]
    simp [zi,atN]
theorem zKw {xs:List zD} {T:ET} (h:zBr xs T 0) (hl:xs.length=tsz T):xs=nd T 0:=by
 apply List.ext_getElem (by rw [zi,hl])
 intro i h1 h2
 have:=zJ5 T 0 h i (by omega)
 rw [Nat.zero_add] at this
 simpa [atN,List.getD,h1,h2] using this
theorem zAH {xs:List zD}:∀ (T:ET) (s:Nat),Sh T->zBr xs T s->frS xs (s+tsz T-1)=some s:=by
 intro T
 induction T with
 | nil=>intro s h; exact h.elim
 | node b o t l r ihl ihr=>
  rintro s ⟨_,hsh⟩ ⟨h1,h2,h3⟩
  have e:s+tsz (.node b o t l r)-1=s+tsz l+tsz r:=by simp only [tsz]; omega
  rw [e]
  rcases hsh with ⟨hk,rfl,rfl⟩ | ⟨hk,hl,rfl⟩ | ⟨hk,hl,hr⟩
  ·simp only [tsz,Nat.add_zero] at h3 ⊢
   have hk':zU (atN xs s).k=0:=by rw [h3]; exact hk
   rw [zEs hk',if_pos]
   rw [h3]
   simp [tN,hk]
  ·simp only [tsz,Nat.add_zero] at h3 ⊢
   have hp:=hl.pos
   have hk':zU (atN xs (s+tsz l)).k=1:=by rw [h3]; exact hk
   rw [zGS hk',if_pos]
   ·exact ihl s hl h1
   ·rw [h3]
    simp [tN,hk]
    omega
  ·have hp:=hl.pos
   have hq:=hr.pos
   have hk':zU (atN xs (s+tsz l+tsz r)).k=2:=by rw [h3]; exact hk
   have f2:=ihr (s+tsz l) hr h2
   rw [zGT hk' (by omega) (by rw [h3]; simp [tN,hk]) f2 (by omega) (by rw [h3]; simp [tN,hk])]
   exact ihl s hl h1
theorem zCX (xs:List zD) (htx:∀ i,i<xs.length->0<=(atN xs i).k):∀ n i f,i<n->i<xs.length->frS xs i=some f->∃ T,Sh T/\f+tsz T=i+1/\zBr xs T f
 | 0,_,_,h,_,_=>absurd h (Nat.not_lt_zero _)
 | n+1,i,f,h,hi,hf=>by
  have hkk:(((atN xs i).k.toNat:Nat):Int)=(atN xs i).k:=Int.toNat_of_nonneg (htx i hi)
  rcases zAe hf with ⟨hk,ha,hb,hfi⟩ | ⟨hk,h1i,ha,hbb,hf1⟩ | ⟨hk,h1i,hbb,f2,hf2,h2f,ha,hf1⟩
  ·refine ⟨.node (atN xs i).k.toNat 0 (atN xs i).t .nil .nil,⟨rfl,Or.inl ⟨by rw [hkk]; exact hk,rfl,rfl⟩⟩,by simp [tsz]; omega,trivial,trivial,?_⟩
   simp only [tsz,Nat.add_zero,tN,hkk,hk]
   rw [hfi]
   generalize atN xs i=o at *
   cases o
   simp_all
  ·have hle:=Zl hf1
   obtain ⟨T,hs,hz,hl⟩:=zCX xs htx n (i-1) f (by omega) (by omega) hf1
   have hp:=hs.pos
   refine ⟨.node (atN xs i).k.toNat 0 (atN xs i).t T .nil,⟨rfl,Or.inr (Or.inl ⟨by rw [hkk]; exact hk,hs,rfl⟩)⟩,by simp [tsz]; omega,hl,trivial,?_⟩
   have e:f+tsz T+tsz (BT.nil:ET)=i:=by simp [tsz]; omega
   rw [e]
   simp only [tN,hkk,hk]
   have e2:((f+tsz T:Nat):Int)-1=(i:Int)-1:=by omega
   rw [e2]
   generalize atN xs i=o at *
   cases o
   simp_all
  ·have hle:=Zl hf2
   have hle1:=Zl hf1
   obtain ⟨T1,hs1,hz1,hl1⟩:=zCX xs htx n (f2-1) f (by omega) (by omega) hf1
   obtain ⟨T2,hs2,hz2,hl2⟩:=zCX xs htx n (i-1) f2 (by omega) (by omega) hf2
   have hp:=hs1.pos
   have hq:=hs2.pos
   have ef:f+tsz T1=f2:=by omega
   refine ⟨.node (atN xs i).k.toNat 0 (atN xs i).t T1 T2,⟨rfl,Or.inr (Or.inr ⟨by rw [hkk]; exact hk,hs1,hs2⟩)⟩,by simp [tsz]; omega,hl1,by rw [ef]; exact hl2,?_⟩
   have e:f+tsz T1+tsz T2=i:=by omega
   rw [e]
   simp only [tN,hkk,hk]
   have e2:((f+tsz T1:Nat):Int)-1=(f2:Int)-1:=by omega
   have e3:((f+tsz T1+tsz T2:Nat):Int)-1=(i:Int)-1:=by omega
   rw [e2,e3]
   generalize atN xs i=o at *
   cases o
   simp_all
theorem zAA.nonneg {o:zD} (h:zAA o):0<=o.k:=by
 rcases h.2 with ⟨h,_⟩ | ⟨h,_⟩ | ⟨h,_⟩ | ⟨h | h | h,_⟩ <;> omega
theorem zF3 {xs:List zD} (h:ZE xs):∃ T,Sh T/\tsz T=xs.length/\xs=nd T 0:=by
 obtain ⟨T,hs,hz,hl⟩:=zCX xs (fun i hi=>(h.2.2.2 i hi).nonneg) xs.length (xs.length-1) 0 (by have:=h.1; omega) (by have:=h.1; omega) h.2.2.1
 have e:tsz T=xs.length:=by have:=h.1; omega
 exact ⟨T,hs,e,zKw hl e.symm⟩
def rt (b:Nat) (t:ByteArray):zD:=⟨(b:Int),t,0,0⟩
def clT (ns:List OpR) (b:Nat) (t:ByteArray) (least:Int) (T:ET):ET:=if Zd ns (rt b t)<least then .node 6 0 ByteArray.empty T .nil else T
def grT (ns:List OpR):ET->Int->ET
 | .nil,_=>.nil
 | .node b _ t l r,least=>if b=6 then grT ns l least else clT ns b t least (.node b 0 t (grT ns l (zY ns (rt b t) false)) (grT ns r (zY ns (rt b t) true)))
def exT (ns:List OpR):ET->Value
 | .nil=>.nilIface
 | .node b _ t l r=>exN (opA ns (rt b t)) (rt b t) (exT ns l) (exT ns r)
theorem zIw (ns:List OpR) (o:zD) (b:Nat) (t:ByteArray) (h1:o.k=(b:Int)) (h2:o.t=t):Zd ns o=Zd ns (rt b t):=by
 unfold Zd rt; rw [h1,h2]
theorem zC1 (ns:List OpR) (o:zD) (b:Nat) (t:ByteArray) (h1:o.k=(b:Int)) (h2:o.t=t) (c:Bool):zY ns o c=zY ns (rt b t) c:=by
 unfold zY rt; rw [h1,h2]
theorem zKx (ns:List OpR) (o:zD) (b:Nat) (t:ByteArray) (h1:o.k=(b:Int)) (h2:o.t=t):opA ns o=opA ns (rt b t):=by
 unfold opA rt; rw [h1,h2]
theorem zKy (p:OpR) (o:zD) (b:Nat) (t:ByteArray) (h1:o.k=(b:Int)) (h2:o.t=t) (e e':Value):exN p o e e'=exN p (rt b t) e e':=by
 unfold exN rt; rw [h1,h2]
theorem zP4 (ns:List OpR):∀ (T:ET) (l:Int),Sh T->Sh (grT ns T l):=by
 intro T
 induction T with
 | nil=>intro l h; exact h.elim
 | node b o t l r ihl ihr=>
  rintro least ⟨h0,h⟩
  simp only [grT]
  split
  ·rename_i h6
   subst h6
   rcases h with ⟨hk,_⟩ | ⟨_,hl,_⟩ | ⟨hk,_⟩
   ·exact absurd hk (by decide)
   ·exact ihl _ hl
   ·exact absurd hk (by decide)
  ·have:Sh (.node b 0 t (grT ns l (zY ns (rt b t) false)) (grT ns r (zY ns (rt b t) true))):=by
    refine ⟨rfl,?_⟩
    rcases h with ⟨hk,rfl,rfl⟩ | ⟨hk,hl,rfl⟩ | ⟨hk,hl,hr⟩
    ·exact Or.inl ⟨hk,rfl,rfl⟩
    ·exact Or.inr (Or.inl ⟨hk,ihl _ hl,rfl⟩)
    ·exact Or.inr (Or.inr ⟨hk,ihl _ hl,ihr _ hr⟩)
   unfold clT
   split
   ·exact ⟨rfl,Or.inr (Or.inl ⟨by decide,this,rfl⟩)⟩
   ·exact this
theorem zIx (ns:List OpR) (o:zD) (b:Nat) (t:ByteArray) (h1:o.k=(b:Int)) (h2:o.t=t) (least:Int) (s:Nat) (T:ET) (u:List zD) (hu:u=nd T s):zCT ns o least s u=nd (clT ns b t least T) s:=by
 subst hu
 unfold zCT clT
 rw [zIw ns o b t h1 h2]
 split
 ·simp only [nd,tN,zi,tsz]
  simp [show zU 6=1 from rfl,show zU ((6:Nat):Int)=1 from rfl]
 ·rfl
theorem zGX (ns:List OpR) (xs:List zD):∀ (T:ET) (s:Nat),Sh T->zBr xs T s->∀ (l:Int) (p:Nat),gS ns xs (s+tsz T-1) l p=nd (grT ns T l) p:=by
 intro T
 induction T with
 | nil=>intro s h; exact h.elim
 | node b o t l r ihl ihr=>
  rintro s ⟨h0,hsh⟩ ⟨h1,h2,h3⟩ least p
  have e:s+tsz (.node b o t l r)-1=s+tsz l+tsz r:=by simp only [tsz]; omega
  rw [e]
  have hK:(atN xs (s+tsz l+tsz r)).k=(b:Int):=by rw [h3]; rfl
  have hT:(atN xs (s+tsz l+tsz r)).t=t:=by rw [h3]; rfl
  have hb6:((atN xs (s+tsz l+tsz r)).k=6)↔b=6:=by rw [hK]; omega
  rcases hsh with ⟨hk,rfl,rfl⟩ | ⟨hk,hl,rfl⟩ | ⟨hk,hl,hr⟩
  ·have hk':zU (atN xs (s+tsz (BT.nil:ET)+tsz (BT.nil:ET))).k=0:=by rw [hK]; exact hk
   have h6:¬ b=6:=fun e=>by subst e; exact absurd hk (by decide)
   rw [zDS hk']
   simp only [grT,if_neg h6]
   refine zIx ns _ b t hK hT least p _ _ ?_
   rw [hK,hT]
   simp [nd,tN,hk,tsz,grT]
  ·have hp:=hl.pos
   simp only [tsz,Nat.add_zero] at hK hT hb6 h3 ⊢
   have hk':zU (atN xs (s+tsz l)).k=1:=by rw [hK]; exact hk
   have hfr:=zAH l s hl h1
   by_cases h6:b=6
   ·rw [zC0 (hb6.2 h6) (by omega) hfr,ihl s hl h1]
    simp only [grT,if_pos h6]
   ·rw [zEc hk' (fun x=>h6 (hb6.1 x)) (by omega) hfr least p (ihl s hl h1 _ p).symm]
    simp only [grT,if_neg h6]
    rw [zC1 ns _ b t hK hT]
    refine zIx ns _ b t hK hT least p _ _ ?_
    simp [nd,tN,hK,hT,hk,tsz,zi,grT]
  ·have hp:=hl.pos
   have hq:=hr.pos
   have hk':zU (atN xs (s+tsz l+tsz r)).k=2:=by rw [hK]; exact hk
   have h6:¬ b=6:=fun e=>by subst e; exact absurd hk (by decide)
   have f2:=zAH r (s+tsz l) hr h2
   have f1:=zAH l s hl h1
   rw [zFf hk' (by omega) f2 (by omega) (by rw [h3]; simp [tN,hk]) f1 least p (ihl s hl h1 _ p).symm (ihr (s+tsz l) hr h2 _ _).symm]
   simp only [grT,if_neg h6]
   rw [zC1 ns _ b t hK hT,zC1 ns _ b t hK hT]
   refine zIx ns _ b t hK hT least p _ _ ?_
   rw [hK,hT]
   simp [nd,tN,hk,tsz,zi,Nat.add_assoc]
theorem zG2 (ns:List OpR) (o:zD) (b:Nat) (t:ByteArray) (h1:o.k=(b:Int)) (h2:o.t=t) (least:Int) (T:ET) (e:Value) (he:e=exT ns T):zCW ns o least e=exT ns (clT ns b t least T):=by
 subst he
 unfold zCW clT
 rw [zIw ns o b t h1 h2]
 split
 ·simp [exT,exN,rt]
 ·rfl
theorem zOq (ns:List OpR) (xs:List zD):∀ (T:ET) (s:Nat),Sh T->zBr xs T s->∀ (l:Int),fS ns xs (s+tsz T-1) l=exT ns (grT ns T l):=by
 intro T
 induction T with
 | nil=>intro s h; exact h.elim
 | node b o t l r ihl ihr=>
  rintro s ⟨h0,hsh⟩ ⟨h1,h2,h3⟩ least
  have e:s+tsz (.node b o t l r)-1=s+tsz l+tsz r:=by simp only [tsz]; omega
  rw [e]
  have hK:(atN xs (s+tsz l+tsz r)).k=(b:Int):=by rw [h3]; rfl
  have hT:(atN xs (s+tsz l+tsz r)).t=t:=by rw [h3]; rfl
  have hb6:((atN xs (s+tsz l+tsz r)).k=6)↔b=6:=by rw [hK]; omega
  rcases hsh with ⟨hk,rfl,rfl⟩ | ⟨hk,hl,rfl⟩ | ⟨hk,hl,hr⟩
  ·have hk':zU (atN xs (s+tsz (BT.nil:ET)+tsz (BT.nil:ET))).k=0:=by rw [hK]; exact hk
   have h6:¬ b=6:=fun e=>by subst e; exact absurd hk (by decide)
   rw [zGW hk']
   simp only [grT,if_neg h6]
   refine zG2 ns _ b t hK hT least _ _ ?_
   rw [zKx ns _ b t hK hT,zKy _ _ b t hK hT]
   simp [exT,grT]
  ·have hp:=hl.pos
   simp only [tsz,Nat.add_zero] at hK hT hb6 h3 ⊢
   have hk':zU (atN xs (s+tsz l)).k=1:=by rw [hK]; exact hk
   have hfr:=zAH l s hl h1
   by_cases h6:b=6
   ·rw [zG1 (hb6.2 h6) (by omega) hfr,ihl s hl h1]
    simp only [grT,if_pos h6]
   ·rw [zIv hk' (fun x=>h6 (hb6.1 x)) (by omega) hfr,ihl s hl h1]
    simp only [grT,if_neg h6]
    rw [zC1 ns _ b t hK hT]
    refine zG2 ns _ b t hK hT least _ _ ?_
    rw [zKx ns _ b t hK hT,zKy _ _ b t hK hT]
    simp [exT,grT]
  ·have hp:=hl.pos
   have hq:=hr.pos
   have hk':zU (atN xs (s+tsz l+tsz r)).k=2:=by rw [hK]; exact hk
   have h6:¬ b=6:=fun e=>by subst e; exact absurd hk (by decide)
   have f2:=zAH r (s+tsz l) hr h2
   have f1:=zAH l s hl h1
   rw [zKv hk' (by omega) f2 (by omega) (by rw [h3]; simp [tN,hk]) f1,ihl s hl h1,ihr (s+tsz l) hr h2]
   simp only [grT,if_neg h6]
   rw [zC1 ns _ b t hK hT,zC1 ns _ b t hK hT]
   refine zG2 ns _ b t hK hT least _ _ ?_
   rw [zKx ns _ b t hK hT,zKy _ _ b t hK hT]
   simp [exT]
structure zu where
 t:ByteArray
 o:Bool
 i:Bool
def zu.zero:zu:=⟨⟨#[]⟩,false,false⟩
def atW (xs:List zu) (i:Nat):zu:=xs.getD i zu.zero
def opn:ByteArray:=⟨#[40]⟩
def zA1:ByteArray:=⟨#[41]⟩
def blk:ByteArray:=⟨#[32]⟩
abbrev SyR:=Nat×ByteArray
def ySy:ET->List SyR
 | .nil=>[]
 | .node b _ t l r=>
  if b=6 then (6,opn)::(ySy l++[(7,zA1)])
  else if b=3 then (3,t)::ySy l
  else if b=5 then ySy l++[(5,t)]
  else if b=4 then ySy l++((4,t)::ySy r)
  else [(b,t)]
def wS (s:SyR):zu:=⟨s.2,decide (3<=s.1/\s.1<=5),decide (s.1=4)⟩
def yT (T:ET):List zu:=(ySy T).map wS
theorem zE7:∀ {T:ET},Sh T->1<=(ySy T).length
 | .nil,h=>h.elim
 | .node b o t l r,h=>by
  simp only [ySy]
  split
  ·simp
  ·split
   ·simp
   ·split
    ·simp
    ·split
     ·simp; omega
     ·simp
theorem zMP:∀ {T:ET},Sh T->∀ s r,ySy T=s::r->s.1≠4/\s.1≠5/\s.1≠7\/s.1>6\/s.1=0:=by
 intro T
 induction T with
 | nil=>intro h; exact h.elim
 | node b o t l r ihl ihr=>
  rintro ⟨_,h⟩ s q hq
  have app:∀ ys:List SyR,Sh l->ySy l++ys=s::q->s.1≠4/\s.1≠5/\s.1≠7\/s.1>6\/s.1=0:=fun ys hl he=>by
   have hp:=zE7 hl
   cases e:ySy l with
   | nil=>rw [e] at hp; simp at hp
   | cons a c=>
    rw [e,List.cons_append] at he
    injection he with h1 h2
    subst h1
    exact ihl hl a c e
  simp only [ySy] at hq
  split at hq
  ·injection hq with h1 h2; subst h1; exact Or.inl ⟨by simp,by simp,by simp⟩
  ·split at hq
   ·injection hq with h1 h2; subst h1; exact Or.inl ⟨by simp,by simp,by simp⟩
   ·split at hq
    ·rename_i h5
     subst h5
     rcases h with ⟨hk,_⟩ | ⟨_,hl,_⟩ | ⟨hk,_⟩
     ·exact absurd hk (by decide)
     ·exact app _ hl hq
     ·exact absurd hk (by decide)
    ·split at hq
     ·rename_i h4
      subst h4
      rcases h with ⟨hk,_⟩ | ⟨hk,_⟩ | ⟨_,hl,_⟩
      ·exact absurd hk (by decide)
      ·exact absurd hk (by decide)
      ·exact app _ hl hq
     ·injection hq with h1 h2
      subst h1
      show b≠4/\b≠5/\b≠7\/b>6\/b=0
      omega
theorem zNP {T:ET} (h:Sh T):1<=(yT T).length:=by
 rw [yT,List.length_map]
 exact zE7 h
theorem zNQ {T:ET} (h:Sh T):(atW (yT T) 0).i=false:=by
 cases e:ySy T with
 | nil=>have:=zE7 h; rw [e] at this; simp at this
 | cons s r=>
  have h1:s.1≠4:=by
   rcases zMP h s r e with ⟨h1,_⟩ | h1 | h1 <;> omega
  simp [yT,e,atW,wS,h1]
def zEO (a b:zu):Bool:=b.i||a.i||(b.o&&a.o)
def zBP (ws:List zu):Nat->List UInt8
 | 0=>[]
 | k+1=>zBP ws k++((if k≠0/\zEO (atW ws (k-1)) (atW ws k)=true then [32] else [])++(atW ws k).t.data.toList)
def kW (x:zu):Int:=if x.i then 3 else if x.o then 2 else 1
def zAY (a b:Int):Bool:=decide (a=3\/b=3\/(a=2/\b=2))
def put1 (st:List ByteArray×Int) (x:zu):List ByteArray×Int:=(st.1++((if zAY st.2 (kW x) then [blk] else [])++[x.t]),kW x)
def zGI (ps:List ByteArray):List UInt8:=(ps.map (fun s=>s.data.toList)).flatten
theorem zJ6 (a b:List ByteArray):zGI (a++b)=zGI a++zGI b:=by simp [zGI]
theorem zNR (a b:zu):zAY (kW a) (kW b)=zEO a b:=by
 unfold kW zAY zEO
 cases a.i <;> cases b.i <;> cases a.o <;> cases b.o <;> decide
theorem zNS (x:zu) (h:x.i=false):zAY 0 (kW x)=false:=by
 unfold kW zAY
 rw [h]
 cases x.o <;> decide
theorem zKz (ws:List zu) (k:Nat) (h:k<ws.length):ws.take (k+1)=ws.take k++[atW ws k]:=by
 rw [List.take_succ_eq_append_getElem h]
 simp [atW,List.getD,h]
theorem zF4 (ws:List zu) (h0:(atW ws 0).i=false):∀ k,k<=ws.length->zGI ((ws.take k).foldl put1 ([],0)).1=zBP ws k/\((ws.take k).foldl put1 ([],0)).2=(if k=0 then 0 else kW (atW ws (k-1)))
 | 0,_=>by simp [zGI,zBP]
 | k+1,hk=>by
  obtain ⟨e1,e2⟩:=zF4 ws h0 k (by omega)
  rw [zKz ws k (by omega),List.foldl_append]
  simp only [List.foldl_cons,List.foldl_nil,put1,zJ6,e1,e2,zBP]
  refine ⟨?_,by simp⟩
  congr 1
  by_cases hk0:k=0
  ·subst hk0
   simp [zNS _ h0,zGI]
  ·have hb:=zNR (atW ws (k-1)) (atW ws k)
   simp only [if_neg hk0,hk0,ne_eq,not_false_eq_true,true_and]
   by_cases hg:zEO (atW ws (k-1)) (atW ws k)=true
   ·simp [hg,hb,zGI,blk]
   ·simp [hg,hb,zGI]
end Go.Proofs.YtfboipappaonhaaGreat
namespace Go.Proofs.YtfboipappaonhaaGreat
set_option linter.unusedSimpArgs false
set_option linter.unusedVariables false
set_option maxHeartbeats 16000000
set_option maxRecDepth 100000
theorem zDu {a b:ByteArray} {i:Nat} (h:i<a.size):bt (a++b) i=bt a i:=by
 unfold bt
 rw [ByteArray.data_append,Array.getElem?_append_left (by simpa using h)]
theorem zC2 {a b:ByteArray} (i:Nat):bt (a++b) (a.size+i)=bt b i:=by
 unfold bt
 rw [ByteArray.data_append,Array.getElem?_append_right (show a.data.size<=a.size+i from Nat.le_add_right _ _)]
 have e:a.size+i-a.data.size=i:=by show a.data.size+i-a.data.size=i; omega
 rw [e]
theorem zG3 (a b c:ByteArray):a++b++c=a++(b++c):=by
 apply ByteArray.ext
 simp [ByteArray.data_append,Array.append_assoc]
theorem zBb (a b:ByteArray):(a++b).size=a.size+b.size:=by simp
theorem zIy (a:ByteArray):a.size=a.data.toList.length:=rfl
theorem zNT {a b:ByteArray} (h:a.data.toList=b.data.toList):a=b:=by
 apply ByteArray.ext
 exact Array.ext' h
theorem zNU (s:ByteArray) (i j:Nat):(s.extract i j).data.toList=(s.data.toList.drop i).take (j-i):=by
 rw [ByteArray.data_extract,Array.toList_extract,List.extract_eq_take_drop]
theorem zFg (a b:ByteArray):(a++b).data.toList=a.data.toList++b.data.toList:=by rw [ByteArray.data_append,Array.toList_append]
theorem zIz (a l r:ByteArray):(a++(l++r)).extract a.size (a.size+l.size)=l:=by
 apply zNT
 rw [zNU,zFg,zFg,zIy a,zIy l,List.drop_left,Nat.add_sub_cancel_left,List.take_left]
theorem zOr (a r:ByteArray):(a++r).extract a.size (a++r).size=r:=by
 apply zNT
 rw [zNU,zFg,zBb,zIy a,zIy r,List.drop_left,Nat.add_sub_cancel_left,List.take_length]
def one (c:UInt8):ByteArray:=⟨#[c]⟩
theorem zNV (c:UInt8):(one c).size=1:=rfl
theorem zP5 (c:UInt8):bt (one c) 0=c:=rfl
end Go.Proofs.YtfboipappaonhaaGreat
namespace Go.Proofs.YtfboipappaonhaaGreat
set_option linter.unusedSimpArgs false
set_option linter.unusedVariables false
set_option maxHeartbeats 16000000
set_option maxRecDepth 100000
open Go.RowKit
def WdK (ns:List OpR) (t:ByteArray) (k:Nat):Prop:=(k=1/\zDo t)\/(k=2/\zBR t)\/(k=3/\opT ns t)\/(k=4/\t=opn)\/(k=5/\t=zA1)
def Sep (k:Nat) (R:ByteArray):Prop:=0<R.size->((k=1\/k=2)->cls (bt R 0)≠2/\cls (bt R 0)≠3)/\(k=3->cls (bt R 0)≠6)
theorem zEf {ns:List OpR} (hv:ZA ns) {t:ByteArray} (h:opT ns t):1<=t.size/\∀ q,q<t.size->cls (bt t q)=6:=by
 obtain ⟨j,hj,rfl⟩:=h
 exact ⟨(hv j hj).1,(hv j hj).2.2⟩
theorem zGY {ns:List OpR} (hv:ZA ns) {t:ByteArray} {k:Nat} (h:WdK ns t k):1<=t.size:=by
 rcases h with ⟨_,h⟩ | ⟨_,h⟩ | ⟨_,h⟩ | ⟨_,rfl⟩ | ⟨_,rfl⟩
 ·exact h.1
 ·exact h.1
 ·exact (zEf hv h).1
 ·decide
 ·decide
theorem zMQ {ns:List OpR} (hv:ZA ns) {t:ByteArray} {k:Nat} (h:WdK ns t k):cls (bt t 0)≠1:=by
 rcases h with ⟨_,h⟩ | ⟨_,h⟩ | ⟨_,h⟩ | ⟨_,rfl⟩ | ⟨_,rfl⟩
 ·rw [h.2 0 h.1]; decide
 ·rcases h.2 0 h.1 with e | ⟨e,_⟩
  ·rw [e]; decide
  ·exact absurd rfl e
 ·rw [(zEf hv h).2 0 (zEf hv h).1]; decide
 ·decide
 ·decide
theorem zK0 {ns:List OpR} (hv:ZA ns) (P w R:ByteArray) {k:Nat} (h:WdK ns w k) (hs:Sep k R):zBS ns (P++(w++R)) P.size w.size k:=by
 have h1:=zGY hv h
 have hz:(P++(w++R)).size=P.size+(w.size+R.size):=by rw [zBb,zBb]
 have b1:∀ j,j<w.size->bt (P++(w++R)) (P.size+j)=bt w j:=fun j hj=>by rw [zC2,zDu hj]
 have b0:bt (P++(w++R)) P.size=bt w 0:=b1 0 h1
 have b2:bt (P++(w++R)) (P.size+w.size)=bt R 0:=by
  rw [zC2]
  have:=zC2 (a:=w) (b:=R) 0
  rw [Nat.add_zero] at this
  exact this
 have hR:P.size+w.size<(P++(w++R)).size->0<R.size:=fun x=>by omega
 refine ⟨h1,by omega,?_⟩
 rcases h with ⟨rfl,h⟩ | ⟨rfl,h⟩ | ⟨rfl,h⟩ | ⟨rfl,rfl⟩ | ⟨rfl,rfl⟩
 ·exact Or.inl ⟨by rw [b0]; exact h.2 0 h1,rfl,fun j hj=>by rw [b1 j hj]; exact h.2 j hj,fun x=>by rw [b2]; exact ((hs (hR x)).1 (Or.inl rfl)).1⟩
 ·refine Or.inr (Or.inl ⟨?_,rfl,fun j hj=>?_,fun x=>?_⟩)
  ·rw [b0]
   rcases h.2 0 h1 with e | ⟨e,_⟩
   ·exact e
   ·exact absurd rfl e
  ·rw [b1 j hj]
   rcases h.2 j hj with e | ⟨_,e⟩
   ·exact Or.inr e
   ·exact Or.inl e
  ·rw [b2]
   have:=(hs (hR x)).1 (Or.inr rfl)
   exact fun y=>y.elim this.1 this.2
 ·have hc:=zEf hv h
  have e:sub (P++(w++R)) P.size w.size=w:=zIz P w R
  refine Or.inr (Or.inr (Or.inr (Or.inr (Or.inl ⟨by rw [b0]; exact hc.2 0 h1,Or.inl ⟨rfl,by rw [e]; exact h,fun m hm hms ho=>?_⟩⟩))))
  have hcm:=zEf hv ho
  have hR':0<R.size:=by omega
  have:=hcm.2 w.size (by rw [zAU hms]; exact hm)
  rw [zB6 hms hm,b2] at this
  exact (hs hR').2 rfl this
 ·exact Or.inr (Or.inr (Or.inl ⟨by rw [b0]; decide,rfl,rfl⟩))
 ·exact Or.inr (Or.inr (Or.inr (Or.inl ⟨by rw [b0]; decide,rfl,rfl⟩)))
structure GwR where
 g:ByteArray
 w:ByteArray
 k:Nat
def spr:List GwR->ByteArray->ByteArray
 | [],e=>e
 | x::r,e=>x.g++(x.w++spr r e)
def Bl (g:ByteArray):Prop:=∀ i,i<g.size->cls (bt g i)=1
def zI0 (ns:List OpR):List GwR->ByteArray->Prop
 | [],e=>Bl e
 | x::r,e=>Bl x.g/\WdK ns x.w x.k/\Sep x.k (spr r e)/\zI0 ns r e
def zNW (x:GwR):zK:=⟨(x.k:Int),x.g,x.w⟩
theorem zIG {ns:List OpR} (hv:ZA ns):∀ (xs:List GwR) (e a:ByteArray),zI0 ns xs e->ZR ns (a++spr xs e) a.size (xs.map zNW++[⟨7,e,⟨#[]⟩⟩])
 | [],e,a,h=>by
  have hz:=zBb a e
  have:=ZR.fin (xs:=ns) (s:=a++e) (i:=a.size) (by omega) (fun q h1 h2=>by
   obtain ⟨j,rfl⟩:=Nat.exists_eq_add_of_le h1
   rw [zC2]
   exact h j (by omega))
  rw [zOr] at this
  exact this
 | x::r,e,a,h=>by
  obtain ⟨h1,h2,h3,h4⟩:=h
  have ih:=zIG hv r e (a++x.g++x.w) h4
  have hp:=zGY hv h2
  have e1:a++x.g++x.w++spr r e=a++(x.g++(x.w++spr r e)):=by rw [zG3,zG3]
  have e2:(a++x.g++x.w).size=a.size+x.g.size+x.w.size:=by rw [zBb,zBb]
  have e3:(a++x.g)++(x.w++spr r e)=a++(x.g++(x.w++spr r e)):=by rw [zG3]
  have e4:(a++x.g).size=a.size+x.g.size:=zBb _ _
  have hz:(a++(x.g++(x.w++spr r e))).size=a.size+(x.g.size+(x.w.size+(spr r e).size)):=by rw [zBb,zBb,zBb]
  rw [e1,e2] at ih
  have ht:=zK0 hv (a++x.g) x.w (spr r e) h2 h3
  have hx:=zIz (a++x.g) x.w (spr r e)
  have hb:=zC2 (a:=a++x.g) (b:=x.w++spr r e) 0
  rw [e3,e4] at ht hx hb
  have hg:=zIz a x.g (x.w++spr r e)
  have:=ZR.tok (xs:=ns) (s:=a++(x.g++(x.w++spr r e))) (i:=a.size) (j:=a.size+x.g.size) (n:=x.w.size) (k:=x.k) (by omega) (by omega) (fun q q1 q2=>by
   obtain ⟨j,rfl⟩:=Nat.exists_eq_add_of_le q1
   rw [zC2,zDu (by omega)]
   exact h1 j (by omega)) (by
   rw [Nat.add_zero] at hb
   rw [hb,zDu hp]
   exact zMQ hv h2) ht ih
  rw [hg,hx] at this
  exact this
theorem zF5 {ns:List OpR} (hv:ZA ns) (xs:List GwR) (e:ByteArray) (h:zI0 ns xs e):ZR ns (spr xs e) 0 (xs.map zNW++[⟨7,e,⟨#[]⟩⟩]):=by
 have:=zIG hv xs e ByteArray.empty h
 have e1:ByteArray.empty++spr xs e=spr xs e:=by apply ByteArray.ext; simp [ByteArray.data_append]
 rw [e1] at this
 exact this
end Go.Proofs.YtfboipappaonhaaGreat
