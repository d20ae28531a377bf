import Derived.Deep.Trees
import Derived.Test.YtgbkgkdpdfdokaaGreatDoorQ04
namespace Go.Proofs.YtgbkgkdpdfdokaaGreatDoor
set_option linter.all false
set_option maxHeartbeats 16000000
set_option maxRecDepth 100000
open Go.RowKit
open Go.Deep (BT)
variable {d:Nat} {ns:List OpR} {st:Bool × Nat} {xs:List zD}
abbrev ET:=BT ByteArray
def tsz:ET->Nat
 | .nil=>0
 | .node _ _ _ l r=>tsz l+tsz r+1
def tN (b:Nat) (t:JZ) (l r:ET) (s:Nat):zD:=
 ⟨(b:Int),t,if ze (b:Int)=0 then 0 else ((s+tsz l:Nat):Int)-1,if ze (b:Int)=2 then ((s+tsz l+tsz r:Nat):Int)-1 else 0⟩
def nd:ET->Nat->List zD
 | .nil,_=>[]
 | .node b _ t l r,s=>nd l s++nd r (s+tsz l)++[tN b t l r s]
theorem ZO:∀ (T:ET) (s:Nat),(nd T s).length=tsz T
 | .nil,_=>rfl
 | .node b o t l r,s=>by simp [nd,tsz,ZO l,ZO r]; omega
def Sh:ET->Prop
 | .nil=>False
 | .node b o _ l r=>o=0/\((ze (b:Int)=0/\l = .nil/\r = .nil)\/(ze (b:Int)=1/\Sh l/\r = .nil)\/(ze (b:Int)=2/\Sh l/\Sh r))
theorem Sh.pos:∀ {T:ET},Sh T->1<=tsz T
 | .nil,h=>h.elim
 | .node _ _ _ _ _,_=>by simp [tsz]
def zFG (xs:List zD):ET->Nat->Prop
 | .nil,_=>True
 | .node b _ t l r,s=>zFG xs l s/\zFG xs r (s+tsz l)/\atN xs (s+tsz l+tsz r)=tN b t l r s
theorem zBl {ys:List zD} {i:Nat} (h:i<xs.length):atN (xs++ys) i=atN xs i:=by
 simp [atN,List.getD,List.getElem?_append,h]
theorem zAl {ys:List zD} {i:Nat} (h:xs.length<=i):atN (xs++ys) i=atN ys (i-xs.length):=by
 simp [atN,List.getD,List.getElem?_append_right h]
theorem zPb (pre post:List zD):∀ (T:ET) (s:Nat),s=pre.length->zFG (pre++(nd T s++post)) T s:=by
 intro T
 induction T generalizing pre post with
 | nil=>intro _ _; trivial
 | node b o t l r ihl ihr=>
  intro s hs
  subst hs
  refine ⟨?_,?_,?_⟩
  ·have:=ihl pre (nd r (pre.length+tsz l)++[tN b t l r pre.length]++post) pre.length rfl
   simpa [nd,yx] using this
  ·have:=ihr (pre++nd l pre.length) ([tN b t l r pre.length]++post) (pre.length+tsz l) (by simp [ZO])
   simpa [nd,yx] using this
  ·rw [zAl (by omega)]
   have e:pre.length+tsz l+tsz r-pre.length=tsz l+tsz r:=by omega
   rw [e,zBl (by simp [nd,ZO])]
   simp only [nd]
   rw [zAl (by simp [ZO])]
   simp [ZO,atN]
theorem zDk (T:ET):zFG (nd T 0) T 0:=by
 have:=zPb [] [] T 0 rfl
 simpa using this
theorem zJr:∀ (T:ET) (s:Nat),zFG xs T s->∀ j,j<tsz T->atN xs (s+j)=atN (nd T s) j:=by
 intro T
 induction T with
 | nil=>intro s _ j hj; simp [tsz] at hj
 | node b o t l r ihl ihr=>
  rintro s ⟨h1,h2,h3⟩ j hj
  simp only [tsz] at hj
  simp only [nd]
  by_cases c1:j<tsz l
  ·rw [ihl s h1 j c1,yx,zBl (by rw [ZO]; exact c1)]
  ·by_cases c2:j<tsz l+tsz r
   ·have:=ihr (s+tsz l) h2 (j-tsz l) (by omega)
    have e:s+tsz l+(j-tsz l)=s+j:=by omega
    rw [e] at this
    rw [this,zBl (by simp [ZO]; omega),zAl (by rw [ZO]; omega),ZO]
   ·have e:j=tsz l+tsz r:=by omega
    subst e
    rw [<- Nat.add_assoc,h3,zAl (by simp [ZO])]
    simp [ZO,atN]
theorem zLA {T:ET} (h:zFG xs T 0) (hl:xs.length=tsz T):xs=nd T 0:=by
 apply List.ext_getElem (by rw [ZO,hl])
 intro i h1 h2
 have:=zJr T 0 h i (by omega)
 rw [yV] at this
 simpa [atN,List.getD,h1,h2] using this
theorem zCI:∀ (T:ET) (s:Nat),Sh T->zFG xs T s->frS xs (s+tsz T-1)=some s:=by
 intro T
 induction T with
 | nil=>intro s h; exact h.elim
 | node b o t l r ihl ihr=>
  rintro s ⟨_,hsh⟩ ⟨h1,h2,h3⟩
  have e:s+tsz (.node b o t l r)-1=s+tsz l+tsz r:=by simp only [tsz]; omega
  rw [e]
  rcases hsh with ⟨hk,rfl,rfl⟩ | ⟨hk,hl,rfl⟩ | ⟨hk,hl,hr⟩
  ·simp only [tsz,Nat.add_zero] at h3 ⊢
   have H:ze (atN xs s).k=0:=by rw [h3]; exact hk
   rw [zEY H,yO]
   rw [h3]
   simp [tN,hk]
  ·simp only [tsz,Nat.add_zero] at h3 ⊢
   have hp:=hl.pos
   have H:ze (atN xs (s+tsz l)).k=1:=by rw [h3]; exact hk
   rw [zGC H,yO]
   ·exact ihl s hl h1
   ·rw [h3]
    simp [tN,hk]
    omega
  ·have hp:=hl.pos
   have hq:=hr.pos
   have H:ze (atN xs (s+tsz l+tsz r)).k=2:=by rw [h3]; exact hk
   have f2:=ihr (s+tsz l) hr h2
   rw [zGD H (by omega) (by rw [h3]; simp [tN,hk]) f2 (by omega) (by rw [h3]; simp [tN,hk])]
   exact ihl s hl h1
theorem zCJ (xs:List zD) (q:∀ i,i<xs.length->0<=(atN xs i).k):∀ n i f,i<n->i<xs.length->frS xs i=some f->∃ T,Sh T/\f+tsz T=i+1/\zFG xs T f
 | 0,_,_,h,_,_=>yP h (yt _)
 | n+1,i,f,h,hi,hf=>by
  have H:(((atN xs i).k.toNat:Nat):Int)=(atN xs i).k:=Int.toNat_of_nonneg (q i hi)
  rcases zB4 hf with ⟨hk,ha,hb,p⟩ | ⟨hk,P,ha,j,K⟩ | ⟨hk,P,j,f2,x,u,ha,K⟩
  ·refine ⟨.node (atN xs i).k.toNat 0 (atN xs i).t .nil .nil,⟨rfl,yQ ⟨by rw [H]; exact hk,rfl,rfl⟩⟩,by simp [tsz]; omega,trivial,trivial,?_⟩
   simp only [tsz,Nat.add_zero,tN,H,hk]
   rw [p]
   generalize atN xs i=o at *
   cases o
   simp_all
  ·have y:=zAV K
   obtain ⟨T,hs,hz,hl⟩:=zCJ xs q n (i-1) f (by omega) (by omega) K
   have hp:=hs.pos
   refine ⟨.node (atN xs i).k.toNat 0 (atN xs i).t T .nil,⟨rfl,yR (yQ ⟨by rw [H]; exact hk,hs,rfl⟩)⟩,by simp [tsz]; omega,hl,trivial,?_⟩
   have e:f+tsz T+tsz (BT.nil:ET)=i:=by simp [tsz]; omega
   rw [e]
   simp only [tN,H,hk]
   have e2:((f+tsz T:Nat):Int)-1=(i:Int)-1:=by omega
   rw [e2]
   generalize atN xs i=o at *
   cases o
   simp_all
  ·have y:=zAV x
   have v:=zAV K
   obtain ⟨T1,Q,U,J⟩:=zCJ xs q n (f2-1) f (by omega) (by omega) K
   obtain ⟨T2,X,V,Y⟩:=zCJ xs q n (i-1) f2 (by omega) (by omega) x
   have hp:=Q.pos
   have hq:=X.pos
   have ef:f+tsz T1=f2:=by omega
   refine ⟨.node (atN xs i).k.toNat 0 (atN xs i).t T1 T2,⟨rfl,yR (yR ⟨by rw [H]; exact hk,Q,X⟩)⟩,by simp [tsz]; omega,J,by rw [ef]; exact Y,?_⟩
   have e:f+tsz T1+tsz T2=i:=by omega
   rw [e]
   simp only [tN,H,hk]
   have e2:((f+tsz T1:Nat):Int)-1=(f2:Int)-1:=by omega
   have e3:((f+tsz T1+tsz T2:Nat):Int)-1=(i:Int)-1:=by omega
   rw [e2,e3]
   generalize atN xs i=o at *
   cases o
   simp_all
theorem zBn.nonneg {o:zD} (h:zBn o):0<=o.k:=by
 rcases h.2 with ⟨h,_⟩ | ⟨h,_⟩ | ⟨h,_⟩ | ⟨h | h | h,_⟩ <;> omega
theorem zJs (h:zA6 xs):∃ T,Sh T/\tsz T=xs.length/\xs=nd T 0:=by
 obtain ⟨T,hs,hz,hl⟩:=zCJ xs (fun i hi=>(h.2.2.2 i hi).nonneg) xs.length (xs.length-1) 0 (by have:=h.1; omega) (by have:=h.1; omega) h.2.2.1
 have e:tsz T=xs.length:=by have:=h.1; omega
 exact ⟨T,hs,e,zLA hl e.symm⟩
def rt (b:Nat) (t:JZ):zD:=⟨(b:Int),t,0,0⟩
def clT (ns:List OpR) (b:Nat) (t:JZ) (h:Int) (T:ET):ET:=if zAN ns (rt b t)<h then .node 6 0 ByteArray.empty T .nil else T
def grT (ns:List OpR):ET->Int->ET
 | .nil,_=>.nil
 | .node b _ t l r,least=>if b=6 then grT ns l least else clT ns b t least (.node b 0 t (grT ns l (ZM ns (rt b t) false)) (grT ns r (ZM ns (rt b t) true)))
theorem zPc (ns:List OpR) (o:zD) (b:Nat) (t:JZ) (h1:o.k=(b:Int)) (h2:o.t=t):zAN ns o=zAN ns (rt b t):=by
 unfold zAN rt; rw [h1,h2]
theorem zGk (ns:List OpR) (o:zD) (b:Nat) (t:JZ) (h1:o.k=(b:Int)) (h2:o.t=t) (c:Bool):ZM ns o c=ZM ns (rt b t) c:=by
 unfold ZM rt; rw [h1,h2]
theorem zQ5 (ns:List OpR):∀ (T:ET) (l:Int),Sh T->Sh (grT ns T l):=by
 intro T
 induction T with
 | nil=>intro l h; exact h.elim
 | node b o t l r ihl ihr=>
  rintro H ⟨h0,h⟩
  simp only [grT]
  split
  ·rename_i h6
   subst h6
   rcases h with ⟨hk,_⟩ | ⟨_,hl,_⟩ | ⟨hk,_⟩
   ·exact yP hk (by decide)
   ·exact ihl _ hl
   ·exact yP hk (by decide)
  ·have:Sh (.node b 0 t (grT ns l (ZM ns (rt b t) false)) (grT ns r (ZM ns (rt b t) true))):=by
    refine ⟨rfl,?_⟩
    rcases h with ⟨hk,rfl,rfl⟩ | ⟨hk,hl,rfl⟩ | ⟨hk,hl,hr⟩
    ·exact yQ ⟨hk,rfl,rfl⟩
    ·exact yR (yQ ⟨hk,ihl _ hl,rfl⟩)
    ·exact yR (yR ⟨hk,ihl _ hl,ihr _ hr⟩)
   unfold clT
   split
   ·exact ⟨rfl,yR (yQ ⟨by decide,this,rfl⟩)⟩
   ·exact this
theorem zIv (ns:List OpR) (o:zD) (b:Nat) (t:JZ) (h1:o.k=(b:Int)) (h2:o.t=t) (h:Int) (s:Nat) (T:ET) (u:List zD) (hu:u=nd T s):zDK ns o h s u=nd (clT ns b t h T) s:=by
 subst hu
 unfold zDK clT
 rw [zPc ns o b t h1 h2]
 split
 ·simp only [nd,tN,ZO,tsz]
  simp [show ze 6=1 from rfl,show ze ((6:Nat):Int)=1 from rfl]
 ·rfl
theorem zPd (ns:List OpR) (xs:List zD):∀ (T:ET) (s:Nat),Sh T->zFG xs T s->∀ (l:Int) (p:Nat),gS ns xs (s+tsz T-1) l p=nd (grT ns T l) p:=by
 intro T
 induction T with
 | nil=>intro s h; exact h.elim
 | node b o t l r ihl ihr=>
  rintro s ⟨h0,hsh⟩ ⟨h1,h2,h3⟩ least p
  have e:s+tsz (.node b o t l r)-1=s+tsz l+tsz r:=by simp only [tsz]; omega
  rw [e]
  have hK:(atN xs (s+tsz l+tsz r)).k=(b:Int):=by rw [h3]; rfl
  have hT:(atN xs (s+tsz l+tsz r)).t=t:=by rw [h3]; rfl
  have K:((atN xs (s+tsz l+tsz r)).k=6)↔b=6:=by rw [hK]; omega
  rcases hsh with ⟨hk,rfl,rfl⟩ | ⟨hk,hl,rfl⟩ | ⟨hk,hl,hr⟩
  ·have H:ze (atN xs (s+tsz (BT.nil:ET)+tsz (BT.nil:ET))).k=0:=by rw [hK]; exact hk
   have h6:¬ b=6:=fun e=>by subst e; exact yP hk (by decide)
   rw [zIt H]
   simp only [grT,yN h6]
   refine zIv ns _ b t hK hT least p _ _ ?_
   rw [hK,hT]
   simp [nd,tN,hk,tsz,grT]
  ·have hp:=hl.pos
   simp only [tsz,Nat.add_zero] at hK hT K h3 ⊢
   have H:ze (atN xs (s+tsz l)).k=1:=by rw [hK]; exact hk
   have q:=zCI l s hl h1
   by_cases h6:b=6
   ·rw [zGh (K.2 h6) (by omega) q,ihl s hl h1]
    simp only [grT,yO h6]
   ·rw [zK8 H (fun x=>h6 (K.1 x)) (by omega) q least p (ihl s hl h1 _ p).symm]
    simp only [grT,yN h6]
    rw [zGk ns _ b t hK hT]
    refine zIv ns _ b t hK hT least p _ _ ?_
    simp [nd,tN,hK,hT,hk,tsz,ZO,grT]
  ·have hp:=hl.pos
   have hq:=hr.pos
   have H:ze (atN xs (s+tsz l+tsz r)).k=2:=by rw [hK]; exact hk
   have h6:¬ b=6:=fun e=>by subst e; exact yP hk (by decide)
   have f2:=zCI r (s+tsz l) hr h2
   have f1:=zCI l s hl h1
   rw [zK9 H (by omega) f2 (by omega) (by rw [h3]; simp [tN,hk]) f1 least p (ihl s hl h1 _ p).symm (ihr (s+tsz l) hr h2 _ _).symm]
   simp only [grT,yN h6]
   rw [zGk ns _ b t hK hT,zGk ns _ b t hK hT]
   refine zIv ns _ b t hK hT least p _ _ ?_
   rw [hK,hT]
   simp [nd,tN,hk,tsz,ZO,Nat.add_assoc]
def opn:ByteArray:=⟨#[40]⟩
def zCR:ByteArray:=⟨#[41]⟩
def blk:ByteArray:=⟨#[32]⟩
abbrev SyR:=Nat×ByteArray
def ySy:ET->List SyR
 | .nil=>[]
 | .node b _ t l r=>
  if b=6 then (6,opn)::(ySy l++[(7,zCR)])
  else if b=3 then (3,t)::ySy l
  else if b=5 then ySy l++[(5,t)]
  else if b=4 then ySy l++((4,t)::ySy r)
  else [(b,t)]
def sLv (ns:List OpR) (s:SyR):Int:=zAN ns (rt s.1 s.2)
def sH (ns:List OpR) (s:SyR) (b:Bool):Int:=ZM ns (rt s.1 s.2) b
def sSo (ns:List OpR) (s:SyR):Int:=srt (opA ns (rt s.1 s.2)).k (opA ns (rt s.1 s.2)).sd
def knB (ns:List OpR) (s:SyR):Bool:=(fnd ns s.2 ((s.1:Int)-2)).isSome
structure OpF (ns:List OpR) (s:SyR):Prop where
 lo:1<=sLv ns s
 hi:sLv ns s<=1000
 pre:s.1=3->sH ns s false=sLv ns s/\sSo ns s=2
 post:s.1=5->sH ns s false=sLv ns s/\sSo ns s=1
 mid:s.1=4->(sSo ns s=1/\sH ns s false=sLv ns s/\sH ns s true=sLv ns s+1)\/(sSo ns s=2/\sH ns s false=sLv ns s+1/\sH ns s true=sLv ns s)\/(sSo ns s=3/\sH ns s false=sLv ns s+1/\sH ns s true=sLv ns s+1)
theorem zFi (h:zR ns 0):zB1 ns ns.length/\¬ Pr 4 ns:=by
 rcases h with ⟨h,_⟩ | ⟨_,⟨h,_⟩ | ⟨H,⟨h,_⟩ | ⟨_,⟨h,_⟩ | ⟨_,h4⟩⟩⟩⟩
 ·exact yP h (by decide)
 ·exact yP h (by decide)
 ·exact yP h (by decide)
 ·exact yP h (by decide)
 ·exact ⟨H,h4⟩
theorem zNl {s:SyR} (hk:knB ns s=true):∃ j,j<ns.length/\fnd ns s.2 ((s.1:Int)-2)=some j/\(atO ns j).k=(s.1:Int)-2/\opA ns (rt s.1 s.2)=atO ns j:=by
 unfold knB at hk
 obtain ⟨j,hj⟩:=Option.isSome_iff_exists.1 hk
 have:=zBK hj
 refine ⟨j,this.1,hj,this.2.2,?_⟩
 unfold opA rt
 simp only
 rw [hj]
theorem opF (h:zR ns 0) {s:SyR} (hs:s.1=3\/s.1=4\/s.1=5) (hk:knB ns s=true):OpF ns s:=by
 obtain ⟨j,hj,hf,y,ho⟩:=zNl hk
 have X:=(zFi h).1 j hj
 have Q:sLv ns s=(atO ns j).l:=by
  unfold sLv zAN rt
  simp only
  rw [yO (by omega),hf]
 have hh:∀ b,sH ns s b=zBF (atO ns j).s (atO ns j).k (atO ns j).l (atO ns j).sd b:=fun b=>by
  unfold sH ZM rt
  simp only
  rw [hf]
  rfl
 have q:sSo ns s=srt (atO ns j).k (atO ns j).sd:=by unfold sSo; rw [ho]
 have K:okB (atO ns j).s (atO ns j).k (atO ns j).l (atO ns j).sd=true:=X
 have H:=K
 unfold okB zEV at H
 simp only [Bool.and_eq_true,Bool.or_eq_true,decide_eq_true_eq,beq_iff_eq] at H
 obtain ⟨⟨⟨_,h1⟩,h2⟩,h3⟩:=H
 refine ⟨by omega,by omega,fun e=>?_,fun e=>?_,fun e=>?_⟩
 ·have k1:(atO ns j).k=1:=by omega
  rw [hh,Q,q,zBF,srt,k1]
  simp_all
 ·have k1:(atO ns j).k=3:=by omega
  rw [hh,Q,q,zBF,srt,k1]
  simp_all
 ·have k1:(atO ns j).k=2:=by omega
  rw [hh,hh,Q,q,zBF,zBF,srt,k1]
  rw [k1] at K h3
  rw [K]
  have x:(atO ns j).sd=1\/(atO ns j).sd=2\/(atO ns j).sd=3:=by simp at h3; omega
  rcases x with e | e | e <;> simp [zQy,e]
theorem zFH (h:zR ns 0) {s s':SyR} (hs:s.1=3\/s.1=4\/s.1=5) (Y:s'.1=3\/s'.1=4\/s'.1=5) (hk:knB ns s=true) (Q:knB ns s'=true) (he:sLv ns s=sLv ns s'):sSo ns s=sSo ns s':=by
 obtain ⟨j,hj,hf,J,ho⟩:=zNl hk
 obtain ⟨j',H,q,X,K⟩:=zNl Q
 have p:sLv ns s=(atO ns j).l:=by unfold sLv zAN rt; simp only; rw [yO (by omega),hf]
 have y:sLv ns s'=(atO ns j').l:=by unfold sLv zAN rt; simp only; rw [yO (by omega),q]
 unfold sSo
 rw [ho,K]
 by_cases hd:srt (atO ns j).k (atO ns j).sd=srt (atO ns j').k (atO ns j').sd
 ·exact hd
 ·exfalso
  apply (zFi h).2
  rcases Nat.lt_trichotomy j j' with e | e | e
  ·exact ⟨j',j,e,H,by simp [cl]; exact ⟨by omega,fun x=>hd x.symm⟩⟩
  ·subst e; exact yP rfl hd
  ·exact ⟨j,j',e,hj,by simp [cl]; exact ⟨by omega,hd⟩⟩
def lvT (ns:List OpR):ET->Int
 | .nil=>1001
 | .node b _ t _ _=>sLv ns (b,t)
def Zt (ns:List OpR):ET->Prop
 | .nil=>False
 | .node b o t l r=>o=0/\(((b=1\/b=2)/\l = .nil/\r = .nil) \/
   (b=6/\t=ByteArray.empty/\Zt ns l/\r = .nil) \/
   ((b=3\/b=5)/\knB ns (b,t)=true/\Zt ns l/\r = .nil/\sH ns (b,t) false<=lvT ns l) \/
   (b=4/\knB ns (b,t)=true/\Zt ns l/\Zt ns r/\sH ns (b,t) false<=lvT ns l/\sH ns (b,t) true<=lvT ns r))
theorem zDl (ns:List OpR) (b:Nat) (t:JZ) (h:¬ (b=3\/b=4\/b=5)):sLv ns (b,t)=1001:=by
 unfold sLv zAN rt
 simp only
 rw [yN (by omega)]
theorem Zt.sh {ns:List OpR}:∀ {T:ET},Zt ns T->Sh T
 | .nil,h=>h.elim
 | .node b o t l r,⟨h0,h⟩=>by
  refine ⟨h0,?_⟩
  rcases h with ⟨h | h,rfl,rfl⟩ | ⟨rfl,_,hl,rfl⟩ | ⟨h | h,_,hl,rfl,_⟩ | ⟨rfl,_,hl,hr,_⟩
  ·subst h; exact yQ ⟨by decide,rfl,rfl⟩
  ·subst h; exact yQ ⟨by decide,rfl,rfl⟩
  ·exact yR (yQ ⟨by decide,hl.sh,rfl⟩)
  ·subst h; exact yR (yQ ⟨by decide,hl.sh,rfl⟩)
  ·subst h; exact yR (yQ ⟨by decide,hl.sh,rfl⟩)
  ·exact yR (yR ⟨by decide,hl.sh,hr.sh⟩)
def rd (ns:List OpR):Nat->Int->Option ET->List SyR->Option (ET×List SyR)
 | 0,_,_,_=>none
 | _+1,_,none,[]=>none
 | n+1,least,none,s::r=>
  if s.1=3 then (if sLv ns s<least then none else (match rd ns n (sH ns s false) none r with
   | none=>none
   | some x=>rd ns n least (some (.node 3 0 s.2 x.1 .nil)) x.2))
  else if s.1=6 then (match rd ns n 0 none r with
   | none=>none
   | some x=>rd ns n least (some (.node 6 0 ByteArray.empty x.1 .nil)) x.2.tail)
  else rd ns n least (some (.node s.1 0 s.2 .nil .nil)) r
 | _+1,_,some T,[]=>some (T,[])
 | n+1,least,some T,s::r=>
  if s.1=4/\least<=sLv ns s then (if lvT ns T<sH ns s false then none else (match rd ns n (sH ns s true) none r with
   | none=>none
   | some x=>rd ns n least (some (.node 4 0 s.2 T x.1)) x.2))
  else if s.1=5/\least<=sLv ns s then (if lvT ns T<sH ns s false then none else rd ns n least (some (.node 5 0 s.2 T .nil)) r)
  else some (T,s::r)
theorem zBL (ns:List OpR):∀ n least md ss x,rd ns n least md ss=some x->x.2.length<=ss.length
 | 0,_,_,_,_,h=>by simp [rd] at h
 | n+1,least,none,[],x,h=>by simp [rd] at h
 | n+1,least,none,s::r,x,h=>by
  simp only [rd] at h
  split at h
  ·split at h
   ·cases h
   ·split at h
    ·cases h
    ·rename_i y hy
     have h1:=zBL ns n _ _ _ _ hy
     have h2:=zBL ns n _ _ _ _ h
     simp only [yv]; omega
  ·split at h
   ·split at h
    ·cases h
    ·rename_i y hy
     have h1:=zBL ns n _ _ _ _ hy
     have h2:=zBL ns n _ _ _ _ h
     have h3:y.2.tail.length<=y.2.length:=by simp
     simp only [yv]; omega
   ·have h2:=zBL ns n _ _ _ _ h
    simp only [yv]; omega
 | n+1,least,some T,[],x,h=>by
  simp only [rd,Option.some.injEq] at h
  subst h; simp
 | n+1,least,some T,s::r,x,h=>by
  simp only [rd] at h
  split at h
  ·split at h
   ·cases h
   ·split at h
    ·cases h
    ·rename_i y hy
     have h1:=zBL ns n _ _ _ _ hy
     have h2:=zBL ns n _ _ _ _ h
     simp only [yv]; omega
  ·split at h
   ·split at h
    ·cases h
    ·have h2:=zBL ns n _ _ _ _ h
     simp only [yv]; omega
   ·simp only [Option.some.injEq] at h
    subst h; simp
theorem zEk (ns:List OpR):∀ n m least md ss,ss.length<n->ss.length<m->rd ns n least md ss=rd ns m least md ss
 | 0,_,_,_,_,h,_=>yP h (yt _)
 | _+1,0,_,_,_,_,h=>yP h (yt _)
 | n+1,m+1,least,none,[],_,_=>by simp [rd]
 | n+1,m+1,least,some T,[],_,_=>by simp [rd]
 | n+1,m+1,least,none,s::r,h,h'=>by
  simp only [yv] at h h'
  have e1:=fun l=>zEk ns n m l none r (by omega) (by omega)
  have e2:=fun l md q=>fun (hq:q.length<=r.length)=>zEk ns n m l md q (by omega) (by omega)
  simp only [rd,e1]
  split
  ·split
   ·rfl
   ·cases hy:rd ns m (sH ns s false) none r with
    | none=>rfl
    | some y=>exact e2 _ _ _ (zBL ns m _ _ _ _ hy)
  ·split
   ·cases hy:rd ns m 0 none r with
    | none=>rfl
    | some y=>exact e2 _ _ _ (by have:=zBL ns m _ _ _ _ hy; simp; omega)
   ·exact e2 _ _ _ (yh _)
 | n+1,m+1,least,some T,s::r,h,h'=>by
  simp only [yv] at h h'
  have e1:=fun l=>zEk ns n m l none r (by omega) (by omega)
  have e2:=fun l md q=>fun (hq:q.length<=r.length)=>zEk ns n m l md q (by omega) (by omega)
  simp only [rd,e1]
  split
  ·split
   ·rfl
   ·cases hy:rd ns m (sH ns s true) none r with
    | none=>rfl
    | some y=>exact e2 _ _ _ (zBL ns m _ _ _ _ hy)
  ·split
   ·split
    ·rfl
    ·exact e2 _ _ _ (yh _)
   ·rfl
def RD (ns:List OpR) (h:Int) (md:Option ET) (ss:List SyR):Option (ET×List SyR):=rd ns (ss.length+1) h md ss
theorem zQr (ns:List OpR) (n:Nat) (H:Int) (md:Option ET) (ss:List SyR) (h:ss.length<n):rd ns n H md ss=RD ns H md ss:=
 zEk ns _ _ _ _ _ h (Nat.lt_succ_self _)
theorem zIw (ns:List OpR) (h:Int) (s:SyR) (r:List SyR):RD ns h none (s::r) =
  if s.1=3 then (if sLv ns s<h then none else (match RD ns (sH ns s false) none r with
   | none=>none
   | some x=>RD ns h (some (.node 3 0 s.2 x.1 .nil)) x.2))
  else if s.1=6 then (match RD ns 0 none r with
   | none=>none
   | some x=>RD ns h (some (.node 6 0 ByteArray.empty x.1 .nil)) x.2.tail)
  else RD ns h (some (.node s.1 0 s.2 .nil .nil)) r:=by
 have e:RD ns h none (s::r)=rd ns (r.length+1+1) h none (s::r):=rfl
 have e1:∀ l,rd ns (r.length+1) l none r=RD ns l none r:=fun l=>rfl
 have e2:∀ l md q,q.length<=r.length->rd ns (r.length+1) l md q=RD ns l md q:=fun l md q hq=>zQr ns _ l md q (by omega)
 rw [e]
 simp only [rd,e1]
 split
 ·split
  ·rfl
  ·cases hy:RD ns (sH ns s false) none r with
   | none=>rfl
   | some y=>exact e2 _ _ _ (zBL ns _ _ _ _ _ hy)
 ·split
  ·cases hy:RD ns 0 none r with
   | none=>rfl
   | some y=>exact e2 _ _ _ (by have:=zBL ns _ _ _ _ _ hy; simp; omega)
  ·rfl
theorem zIx (ns:List OpR) (h:Int) (T:ET) (s:SyR) (r:List SyR):RD ns h (some T) (s::r) =
  if s.1=4/\h<=sLv ns s then (if lvT ns T<sH ns s false then none else (match RD ns (sH ns s true) none r with
   | none=>none
   | some x=>RD ns h (some (.node 4 0 s.2 T x.1)) x.2))
  else if s.1=5/\h<=sLv ns s then (if lvT ns T<sH ns s false then none else RD ns h (some (.node 5 0 s.2 T .nil)) r)
  else some (T,s::r):=by
 have e:RD ns h (some T) (s::r)=rd ns (r.length+1+1) h (some T) (s::r):=rfl
 have e1:∀ l,rd ns (r.length+1) l none r=RD ns l none r:=fun l=>rfl
 have e2:∀ l md q,q.length<=r.length->rd ns (r.length+1) l md q=RD ns l md q:=fun l md q hq=>zQr ns _ l md q (by omega)
 rw [e]
 simp only [rd,e1]
 split
 ·split
  ·rfl
  ·cases hy:RD ns (sH ns s true) none r with
   | none=>rfl
   | some y=>exact e2 _ _ _ (zBL ns _ _ _ _ _ hy)
 ·split
  ·split
   ·rfl
   ·rfl
  ·rfl
def zFj (ns:List OpR) (h:Int) (ss:List SyR):Prop:=∀ s r,ss=s::r->(s.1=4\/s.1=5)->sLv ns s<h
theorem zGE {H:Int} {ss:List SyR} (h:zFj ns H ss) (T:ET):RD ns H (some T) ss=some (T,ss):=by
 cases ss with
 | nil=>rfl
 | cons s r=>
  have hs:=h s r rfl
  rw [zIx,yN (fun x=>by have:=hs (yQ x.1); omega),yN (fun x=>by have:=hs (yR x.1); omega)]
def zH7 (ns:List OpR):ET->List SyR->Prop
 | .nil,_=>True
 | .node b _ t l r,ss=>(b=3->zFj ns (sH ns (b,t) false) ss/\zH7 ns l ss)/\(b=4->zFj ns (sH ns (b,t) true) ss/\zH7 ns r ss)
theorem zCu {H:Int} {s:SyR} {r:List SyR} (h:¬ (s.1=4\/s.1=5)):zFj ns H (s::r):=fun s' r' e hs=>by
 injection e with e1 e2
 subst e1
 exact yP hs h
theorem zCK {ns:List OpR} {s:SyR} {r:List SyR} (h:¬ (s.1=4\/s.1=5)):∀ T:ET,zH7 ns T (s::r)
 | .nil=>trivial
 | .node b o t l q=>⟨fun _=>⟨zCu h,zCK h l⟩,fun _=>⟨zCu h,zCK h q⟩⟩
theorem zFk (hv:zR ns 0) {q:SyR} {r:List SyR}:∀ T:ET,Zt ns T->sLv ns q<lvT ns T->zH7 ns T (q::r):=by
 intro T
 induction T with
 | nil=>intro h; exact h.elim
 | node b o t l rr ihl ihr=>
  rintro ⟨_,h⟩ hq
  have st:∀ m:Int,sLv ns q<m->zFj ns m (q::r):=fun m hm s' r' e _=>by
   injection e with e1 e2
   subst e1
   exact hm
  refine ⟨fun e=>?_,fun e=>?_⟩
  ·subst e
   rcases h with ⟨h | h,_⟩ | ⟨h,_⟩ | ⟨_,hk,hl,_,hh⟩ | ⟨h,_⟩
   ·omega
   ·omega
   ·omega
   ·have f:=(opF hv (yQ rfl) hk).pre rfl
    simp only [lvT] at hq
    exact ⟨st _ (by omega),ihl hl (by omega)⟩
   ·omega
  ·subst e
   rcases h with ⟨h | h,_⟩ | ⟨h,_⟩ | ⟨h | h,_⟩ | ⟨_,hk,hl,hr,h1,h2⟩
   ·omega
   ·omega
   ·omega
   ·omega
   ·omega
   ·have f:=(opF hv (yR (yQ rfl)) hk).mid rfl
    simp only [lvT] at hq
    exact ⟨st _ (by omega),ihr hr (by omega)⟩
theorem zH8 (hv:zR ns 0) {q:SyR} {r:List SyR} (hq:q.1=4\/q.1=5) (k:knB ns q=true):∀ T:ET,Zt ns T->sH ns q false<=lvT ns T->zH7 ns T (q::r):=by
 intro T hT Q
 have fq:=opF hv (by omega) k
 have hh:sH ns q false=sLv ns q+1\/(sH ns q false=sLv ns q/\sSo ns q=1):=by
  rcases hq with e | e
  ·rcases fq.mid e with h | h | h
   ·exact yR ⟨h.2.1,h.1⟩
   ·exact yQ h.2.1
   ·exact yQ h.2.1
  ·exact yR (fq.post e)
 by_cases K:sLv ns q<lvT ns T
 ·exact zFk hv T hT K
 ·have H:lvT ns T=sLv ns q/\sSo ns q=1:=by
   rcases hh with h | ⟨h,h'⟩
   ·omega
   ·exact ⟨by omega,h'⟩
  cases T with
  | nil=>exact hT.elim
  | node b o t l rr=>
   obtain ⟨_,h⟩:=hT
   simp only [lvT] at H
   have st:∀ m:Int,sLv ns q<m->zFj ns m (q::r):=fun m hm s' r' e _=>by
    injection e with e1 e2
    subst e1
    exact hm
   refine ⟨fun e=>?_,fun e=>?_⟩
   ·subst e
    rcases h with ⟨h | h,_⟩ | ⟨h,_⟩ | ⟨_,hk,hl,_,hh⟩ | ⟨h,_⟩
    ·omega
    ·omega
    ·omega
    ·have f:=(opF hv (yQ rfl) hk).pre rfl
     have:=zFH hv (s:=(3,t)) (s':=q) (yQ rfl) (by omega) hk k H.1
     omega
    ·omega
   ·subst e
    rcases h with ⟨h | h,_⟩ | ⟨h,_⟩ | ⟨h | h,_⟩ | ⟨_,hk,hl,hr,h1,h2⟩
    ·omega
    ·omega
    ·omega
    ·omega
    ·omega
    ·have f:=(opF hv (yR (yQ rfl)) hk).mid rfl
     have:=zFH hv (s:=(4,t)) (s':=q) (yR (yQ rfl)) (by omega) hk k H.1
     have e2:sH ns (4,t) true=sLv ns (4,t)+1:=by
      rcases f with h | h | h
      ·exact h.2.2
      ·omega
      ·omega
     exact ⟨st _ (by omega),zFk hv rr hr (by omega)⟩
theorem zNm (hv:zR ns 0):∀ (T:ET),Zt ns T->∀ (H:Int) (rest:List SyR),H<=lvT ns T->zH7 ns T rest->RD ns H none (ySy T++rest)=RD ns H (some T) rest:=by
 intro T
 induction T with
 | nil=>intro h; exact h.elim
 | node b o t l r ihl ihr=>
  rintro ⟨rfl,h⟩ H rest Q hst
  simp only [lvT] at Q
  rcases h with ⟨y,rfl,rfl⟩ | ⟨rfl,rfl,hl,rfl⟩ | ⟨X,hk,hl,rfl,hh⟩ | ⟨rfl,hk,hl,hr,h1,h2⟩
  ·have e:ySy (.node b 0 t .nil .nil)=[(b,t)]:=by
    simp only [ySy]
    rw [yN (by omega),yN (by omega),yN (by omega),yN (by omega)]
   rw [e]
   show RD ns H none ((b,t)::rest)=_
   rw [zIw]
   simp only
   rw [yN (by omega),yN (by omega)]
  ·have e:ySy (.node 6 0 ByteArray.empty l .nil)++rest=(6,opn)::(ySy l++((7,zCR)::rest)):=by
    simp [ySy]
   rw [e,zIw]
   simp only
   rw [yN (by decide),yO trivial]
   have hs:¬ ((7,zCR):SyR).1=4/\¬ ((7,zCR):SyR).1=5:=⟨by decide,by decide⟩
   have h0:(0:Int)<=lvT ns l:=by
    cases l with
    | nil=>exact hl.elim
    | node bb oo tt ll rr=>
     simp only [lvT]
     by_cases hb:bb=3\/bb=4\/bb=5
     ·have x:knB ns (bb,tt)=true:=by
       rcases hl.2 with ⟨h | h,_⟩ | ⟨h,_⟩ | ⟨_,hk,_⟩ | ⟨_,hk,_⟩
       ·omega
       ·omega
       ·omega
       ·exact hk
       ·exact hk
      have:=(opF hv (s:=(bb,tt)) hb x).lo
      omega
     ·rw [zDl ns bb tt hb]; omega
   rw [ihl hl 0 _ h0 (zCK (by omega) l),zGE (zCu (by omega))]
   rfl
  ·rcases X with rfl | rfl
   ·have f:=(opF hv (yQ rfl) hk).pre rfl
    have e:ySy (.node 3 0 t l .nil)++rest=(3,t)::(ySy l++rest):=by simp [ySy]
    obtain ⟨K,k⟩:=hst.1 rfl
    rw [e,zIw]
    simp only
    rw [yO trivial,yN (by omega),ihl hl _ rest hh k,zGE K]
   ·have f:=(opF hv (yR (yR rfl)) hk).post rfl
    have e:ySy (.node 5 0 t l .nil)++rest=ySy l++((5,t)::rest):=by simp [ySy]
    rw [e,ihl hl H _ (by omega) (zH8 hv (q:=(5,t)) (yR rfl) hk l hl hh),zIx]
    simp only
    rw [yN (by omega),yO ⟨trivial,Q⟩,yN (by omega)]
  ·have f:=(opF hv (yR (yQ rfl)) hk).mid rfl
   have e:ySy (.node 4 0 t l r)++rest=ySy l++((4,t)::(ySy r++rest)):=by simp [ySy]
   obtain ⟨K,k⟩:=hst.2 rfl
   rw [e,ihl hl H _ (by omega) (zH8 hv (q:=(4,t)) (yQ rfl) hk l hl h1),zIx]
   simp only
   rw [yO ⟨trivial,Q⟩,yN (by omega),ihr hr _ rest h2 k,zGE K]
theorem ZQ {w:JY} {B n:Nat} {e:TypeId} {u:Value} {xs:List Value} (h:w.ownsRow B e 4 u n xs):∃ a c,u = .slice a n c:=by
 obtain ⟨_,⟨rfl,rfl⟩ | ⟨g,cap,H,rfl,_⟩⟩:=h
 ·exact ⟨none,0,rfl⟩
 ·exact ⟨_,_,rfl⟩
def ZD (w:JY) (B:Nat) (u:Value) (us:List zD):Prop:=w.ownsRow B 144 4 u us.length (zL us)
theorem ZD.below {w w':JY} {B:Nat} {u:Value} {us:List zD} (h:ZD w B u us) (hb:Below w.heap.size w w'):ZD w' B u us:=
 World.ownsRow.kept h (zH hb none) (by cases u.ownBlock with
 | none=>exact yQ rfl
 | some k=>exact yR (by simp))
theorem ZD.lt {w:JY} {B:Nat} {u:Value} {us:List zD} (h:ZD w B u us):∀ g,u.ownBlock=some g->g<w.heap.size:=fun g hg=>(World.ownsRow.lt h g hg).2
def zAm (w:JY) (B:Nat) (u:Value) (vs:List zD) (x:Ending) (w':JY):Prop:=
 ∃ u',x = .returned u'/\Hid (ZD w' B u' vs)/\Hid (w.grownBy w' u.ownBlock)/\Hid (u'.ownBlock=u.ownBlock\/∃ k,u'.ownBlock=some k/\w.heap.size<=k)
def zPe (s:SyR):Bool:=decide (s.1=6/\s.2.data=opn.data)
def zPf (s:SyR):Bool:=decide (s.1=7/\s.2.data=zCR.data)
theorem zQs {a b:JZ} (h:a.data=b.data):a=b:=by cases a; cases b; simp_all
theorem zPg {s:SyR} (h:zPe s=true):s=(6,opn):=by
 unfold zPe at h
 have:=of_decide_eq_true h
 obtain ⟨a,b⟩:=s
 exact Prod.ext this.1 (zQs this.2)
theorem zPh {s:SyR} (h:zPf s=true):s=(7,zCR):=by
 unfold zPf at h
 have:=of_decide_eq_true h
 obtain ⟨a,b⟩:=s
 exact Prod.ext this.1 (zQs this.2)
def auS (ns:List OpR) (st:Bool×Nat) (s:SyR):Option (Bool×Nat):=
 if st.1=false then
  (if s.1=1\/s.1=2 then some (true,st.2) else if s.1=3/\knB ns s=true then some (false,st.2) else if zPe s=true then some (false,st.2+1) else none)
 else
  (if s.1=4/\knB ns s=true then some (false,st.2) else if s.1=5/\knB ns s=true then some (true,st.2) else if zPf s=true/\0<st.2 then some (true,st.2-1) else none)
def zAZ (ns:List OpR):Bool×Nat->List SyR->Option (Bool×Nat)
 | st,[]=>some st
 | st,s::r=>(match auS ns st s with
  | none=>none
  | some st'=>zAZ ns st' r)
theorem zDL (ns:List OpR):∀ (a b:List SyR) (st:Bool×Nat),zAZ ns st (a++b)=(match zAZ ns st a with
  | none=>none
  | some st'=>zAZ ns st' b)
 | [],b,st=>rfl
 | s::r,b,st=>by
  simp only [List.cons_append,zAZ]
  cases auS ns st s with
  | none=>rfl
  | some st'=>exact zDL ns r b st'
theorem zDM {s:SyR} (h:auS ns (false,d) s=some st) :
  ((s.1=1\/s.1=2)/\st=(true,d))\/(s.1=3/\knB ns s=true/\st=(false,d))\/(s=(6,opn)/\st=(false,d+1)):=by
 unfold auS at h
 simp only [if_true] at h
 split at h
 ·injection h with h; exact yQ ⟨by assumption,h.symm⟩
 ·split at h
  ·rename_i hc; injection h with h; exact yR (yQ ⟨hc.1,hc.2,h.symm⟩)
  ·split at h
   ·rename_i hc; injection h with h; exact yR (yR ⟨zPg hc,h.symm⟩)
   ·cases h
theorem zEl {s:SyR} (h:auS ns (true,d) s=some st) :
  (s.1=4/\knB ns s=true/\st=(false,d))\/(s.1=5/\knB ns s=true/\st=(true,d))\/(s=(7,zCR)/\0<d/\st=(true,d-1)):=by
 unfold auS at h
 simp only [Bool.true_eq_false,if_false] at h
 split at h
 ·rename_i hc; injection h with h; exact yQ ⟨hc.1,hc.2,h.symm⟩
 ·split at h
  ·rename_i hc; injection h with h; exact yR (yQ ⟨hc.1,hc.2,h.symm⟩)
  ·split at h
   ·rename_i hc; injection h with h; exact yR (yR ⟨zPh hc.1,hc.2,h.symm⟩)
   ·cases h
theorem zL6 {s:SyR} (h:s.1=1\/s.1=2):auS ns (false,d) s=some (true,d):=by
 unfold auS
 simp only [if_true]
 rw [yO h]
theorem zNn {s:SyR} (h:s.1=3) (hk:knB ns s=true):auS ns (false,d) s=some (false,d):=by
 unfold auS
 simp only [if_true]
 rw [yN (by omega),yO ⟨h,hk⟩]
theorem zL7:auS ns (false,d) (6,opn)=some (false,d+1):=by
 unfold auS
 simp [zPe]
theorem zNo {s:SyR} (h:s.1=4) (hk:knB ns s=true):auS ns (true,d) s=some (false,d):=by
 unfold auS
 simp only [Bool.true_eq_false,if_false]
 rw [yO ⟨h,hk⟩]
theorem zL8 {s:SyR} (h:s.1=5) (hk:knB ns s=true):auS ns (true,d) s=some (true,d):=by
 unfold auS
 simp only [Bool.true_eq_false,if_false]
 rw [yN (by omega),yO ⟨h,hk⟩]
theorem zJt:auS ns (true,d+1) (7,zCR)=some (true,d):=by
 unfold auS
 simp [zPf]
def eoS:SyR:=(8,ByteArray.empty)
def zDN (ns:List OpR) (st:Bool×Nat) (ss:List SyR):Prop:=∃ q,ss=q++[eoS]/\zAZ ns st q=some (true,0)
theorem zEm (h:zDN ns st []):False:=by
 obtain ⟨q,h,_⟩:=h
 simp at h
theorem zH9 {s:SyR} {r:List SyR} (h:zDN ns st (s::r)):(s=eoS/\r=[]/\st=(true,0))\/∃ st',auS ns st s=some st'/\zDN ns st' r:=by
 obtain ⟨q,h,hr⟩:=h
 cases q with
 | nil=>
  simp only [List.nil_append] at h
  injection h with h1 h2
  simp only [zAZ,Option.some.injEq] at hr
  exact yQ ⟨h1,h2,hr⟩
 | cons a q=>
  rw [List.cons_append] at h
  injection h with h1 h2
  subst h1
  simp only [zAZ] at hr
  cases e:auS ns st s with
  | none=>rw [e] at hr; cases hr
  | some st'=>rw [e] at hr; exact yR ⟨st',rfl,q,h2,hr⟩
theorem zLB {s:SyR} {r:List SyR} (h:zDN ns (false,d) (s::r)) :
  ((s.1=1\/s.1=2)/\zDN ns (true,d) r)\/(s.1=3/\knB ns s=true/\zDN ns (false,d) r)\/(s=(6,opn)/\zDN ns (false,d+1) r):=by
 rcases zH9 h with ⟨_,_,h⟩ | ⟨st',h1,h2⟩
 ·cases h
 ·rcases zDM h1 with ⟨a,rfl⟩ | ⟨a,b,rfl⟩ | ⟨a,rfl⟩
  ·exact yQ ⟨a,h2⟩
  ·exact yR (yQ ⟨a,b,h2⟩)
  ·exact yR (yR ⟨a,h2⟩)
theorem zDm {s:SyR} {r:List SyR} (h:zDN ns (true,d) (s::r)) :
  (s=eoS/\r=[]/\d=0)\/(s.1=4/\knB ns s=true/\zDN ns (false,d) r)\/(s.1=5/\knB ns s=true/\zDN ns (true,d) r)\/(s=(7,zCR)/\0<d/\zDN ns (true,d-1) r):=by
 rcases zH9 h with ⟨h1,h2,h3⟩ | ⟨st',h1,h2⟩
 ·simp only [Prod.mk.injEq,true_and] at h3
  exact yQ ⟨h1,h2,h3⟩
 ·rcases zEl h1 with ⟨a,b,rfl⟩ | ⟨a,b,rfl⟩ | ⟨a,b,rfl⟩
  ·exact yR (yQ ⟨a,b,h2⟩)
  ·exact yR (yR (yQ ⟨a,b,h2⟩))
  ·exact yR (yR (yR ⟨a,b,h2⟩))
def yM:Option ET->List SyR
 | none=>[]
 | some T=>ySy T
theorem zAq {ns:List OpR} (hv:zR ns 0):∀ (n:Nat) (H:Int) (md:Option ET) (ss:List SyR) (d:Nat) (x:ET×List SyR),H<=1001->zDN ns (md.isSome,d) ss->(∀ L,md=some L->Zt ns L/\H<=lvT ns L)->rd ns n H md ss=some x ->
  zDN ns (true,d) x.2/\Zt ns x.1/\H<=lvT ns x.1/\zFj ns H x.2/\yM md++ss=ySy x.1++x.2
 | 0,_,_,_,_,_,_,_,_,h=>by simp [rd] at h
 | n+1,H,none,[],d,x,_,hf,_,h=>(zEm hf).elim
 | n+1,H,some T,[],d,x,_,hf,_,h=>(zEm hf).elim
 | n+1,H,none,s::r,d,x,hl,hf,hm,h=>by
  simp only [rd] at h
  rcases zLB hf with ⟨hs,k⟩ | ⟨hs,hk,k⟩ | ⟨hs,k⟩
  ·rw [yN (by omega),yN (by omega)] at h
   have K:lvT ns (.node s.1 0 s.2 .nil .nil)=1001:=zDl ns _ _ (by omega)
   have:=zAq hv n H (some (.node s.1 0 s.2 .nil .nil)) r d x hl k (fun L e=>by
    injection e with e; subst e
    exact ⟨⟨rfl,yQ ⟨hs,rfl,rfl⟩⟩,by omega⟩) h
   refine ⟨this.1,this.2.1,this.2.2.1,this.2.2.2.1,?_⟩
   rw [<- this.2.2.2.2]
   simp only [yM,ySy]
   rw [yN (by omega),yN (by omega),yN (by omega),yN (by omega)]
   rfl
  ·rw [yO hs] at h
   have f:=(opF hv (s:=s) (yQ hs) hk)
   have fp:=f.pre hs
   have fh:=f.hi
   split at h
   ·cases h
   ·rename_i Y
    split at h
    ·cases h
    ·rename_i y hy
     obtain ⟨a1,a2,a3,a4,a5⟩:=zAq hv n _ none r d y (by omega) k (fun L e=>by cases e) hy
     have es:((3,s.2):SyR)=s:=Prod.ext hs.symm rfl
     have K:lvT ns (.node 3 0 s.2 y.1 .nil)=sLv ns s:=by simp only [lvT,es]
     have:=zAq hv n H (some (.node 3 0 s.2 y.1 .nil)) y.2 d x hl a1 (fun L e=>by
      injection e with e; subst e
      exact ⟨⟨rfl,yR (yR (yQ ⟨yQ rfl,by rw [es]; exact hk,a2,rfl,by rw [es]; exact a3⟩))⟩,by omega⟩) h
     refine ⟨this.1,this.2.1,this.2.2.1,this.2.2.2.1,?_⟩
     rw [<- this.2.2.2.2]
     simp only [yM,List.nil_append] at a5 ⊢
     rw [a5]
     simp [ySy,es]
  ·subst hs
   simp only at h
   rw [yN (by decide),yO trivial] at h
   split at h
   ·cases h
   ·rename_i y hy
    obtain ⟨a1,a2,a3,a4,a5⟩:=zAq hv n 0 none r (d+1) y (by omega) k (fun L e=>by cases e) hy
    obtain ⟨T,q⟩:=y
    simp only at a1 a2 a3 a4 a5 h
    cases q with
    | nil=>exact (zEm a1).elim
    | cons z q=>
     have hz:z=(7,zCR)/\zDN ns (true,d) q:=by
      rcases zDm a1 with ⟨_,_,h0⟩ | ⟨h4,X,_⟩ | ⟨h5,X,_⟩ | ⟨h7,_,h8⟩
      ·omega
      ·have:=a4 z q rfl (yQ h4)
       have:=(opF hv (s:=z) (yR (yQ h4)) X).lo
       omega
      ·have:=a4 z q rfl (yR h5)
       have:=(opF hv (s:=z) (yR (yR h5)) X).lo
       omega
      ·exact ⟨h7,h8⟩
     obtain ⟨rfl,hq⟩:=hz
     simp only [List.tail_cons] at h
     have K:lvT ns (.node 6 0 ByteArray.empty T .nil)=1001:=zDl ns _ _ (by omega)
     have:=zAq hv n H (some (.node 6 0 ByteArray.empty T .nil)) q d x hl hq (fun L e=>by
      injection e with e; subst e
      exact ⟨⟨rfl,yR (yQ ⟨rfl,rfl,a2,rfl⟩)⟩,by omega⟩) h
     refine ⟨this.1,this.2.1,this.2.2.1,this.2.2.2.1,?_⟩
     rw [<- this.2.2.2.2]
     simp only [yM,List.nil_append] at a5 ⊢
     rw [a5]
     simp [ySy]
 | n+1,H,some T,s::r,d,x,hl,hf,hm,h=>by
  obtain ⟨hT,j⟩:=hm T rfl
  simp only [rd] at h
  have stop:(¬ (s.1=4/\H<=sLv ns s))->(¬ (s.1=5/\H<=sLv ns s))->zDN ns (true,d) x.2/\Zt ns x.1/\H<=lvT ns x.1/\zFj ns H x.2/\yM (some T)++s::r=ySy x.1++x.2:=fun c1 c2=>by
   rw [yN c1,yN c2] at h
   injection h with h
   subst h
   refine ⟨hf,hT,j,fun s' r' e hs=>?_,rfl⟩
   injection e with e1 e2
   subst e1
   omega
  by_cases c1:s.1=4/\H<=sLv ns s
  ·rw [yO c1] at h
   have Q:knB ns s=true/\zDN ns (false,d) r:=by
    rcases zDm hf with ⟨h1,_⟩ | ⟨_,h1,h2⟩ | ⟨h1,_⟩ | ⟨h1,_⟩
    ·rw [h1] at c1; exact yP c1.1 (by decide)
    ·exact ⟨h1,h2⟩
    ·omega
    ·rw [h1] at c1; exact yP c1.1 (by decide)
   obtain ⟨hk,k⟩:=Q
   have f:=(opF hv (s:=s) (yR (yQ c1.1)) hk)
   have fp:=f.mid c1.1
   have fh:=f.hi
   split at h
   ·cases h
   ·rename_i Y
    split at h
    ·cases h
    ·rename_i y hy
     obtain ⟨a1,a2,a3,a4,a5⟩:=zAq hv n _ none r d y (by omega) k (fun L e=>by cases e) hy
     have es:((4,s.2):SyR)=s:=Prod.ext c1.1.symm rfl
     have K:lvT ns (.node 4 0 s.2 T y.1)=sLv ns s:=by simp only [lvT,es]
     have:=zAq hv n H (some (.node 4 0 s.2 T y.1)) y.2 d x hl a1 (fun L e=>by
      injection e with e; subst e
      exact ⟨⟨rfl,yR (yR (yR ⟨rfl,by rw [es]; exact hk,hT,a2,by rw [es]; omega,by rw [es]; exact a3⟩))⟩,by omega⟩) h
     refine ⟨this.1,this.2.1,this.2.2.1,this.2.2.2.1,?_⟩
     rw [<- this.2.2.2.2]
     simp only [yM,List.nil_append] at a5 ⊢
     rw [a5]
     simp [ySy,es]
  ·by_cases c2:s.1=5/\H<=sLv ns s
   ·rw [yN c1,yO c2] at h
    have Q:knB ns s=true/\zDN ns (true,d) r:=by
     rcases zDm hf with ⟨h1,_⟩ | ⟨h1,_⟩ | ⟨_,h1,h2⟩ | ⟨h1,_⟩
     ·rw [h1] at c2; exact yP c2.1 (by decide)
     ·omega
     ·exact ⟨h1,h2⟩
     ·rw [h1] at c2; exact yP c2.1 (by decide)
    obtain ⟨hk,k⟩:=Q
    have f:=(opF hv (s:=s) (yR (yR c2.1)) hk)
    split at h
    ·cases h
    ·rename_i Y
     have es:((5,s.2):SyR)=s:=Prod.ext c2.1.symm rfl
     have K:lvT ns (.node 5 0 s.2 T .nil)=sLv ns s:=by simp only [lvT,es]
     have:=zAq hv n H (some (.node 5 0 s.2 T .nil)) r d x hl k (fun L e=>by
      injection e with e; subst e
      exact ⟨⟨rfl,yR (yR (yQ ⟨yR rfl,by rw [es]; exact hk,hT,rfl,by rw [es]; omega⟩))⟩,by omega⟩) h
     refine ⟨this.1,this.2.1,this.2.2.1,this.2.2.2.1,?_⟩
     rw [<- this.2.2.2.2]
     simp [yM,ySy,es]
   ·exact stop c1 c2
theorem zQ6 (hv:zR ns 0) {ss:List SyR} (hf:zAZ ns (false,0) ss=some (true,0)) (T:ET):(Zt ns T/\ySy T=ss)↔RD ns 0 none (ss++[eoS])=some (T,[eoS]):=by
 constructor
 ·rintro ⟨hT,rfl⟩
  have h0:(0:Int)<=lvT ns T:=by
   cases T with
   | nil=>exact hT.elim
   | node bb oo tt ll rr=>
    simp only [lvT]
    by_cases hb:bb=3\/bb=4\/bb=5
    ·have H:knB ns (bb,tt)=true:=by
      rcases hT.2 with ⟨h | h,_⟩ | ⟨h,_⟩ | ⟨_,hk,_⟩ | ⟨_,hk,_⟩
      ·omega
      ·omega
      ·omega
      ·exact hk
      ·exact hk
     have:=(opF hv (s:=(bb,tt)) hb H).lo
     omega
    ·rw [zDl ns bb tt hb]; omega
  have hn:¬ (eoS.1=4\/eoS.1=5):=by decide
  rw [zNm hv T hT 0 [eoS] h0 (zCK hn T),zGE (zCu hn)]
 ·intro h
  obtain ⟨_,a2,_,_,a5⟩:=zAq hv _ 0 none (ss++[eoS]) 0 (T,[eoS]) (by omega) ⟨ss,rfl,hf⟩ (fun L e=>by cases e) h
  refine ⟨a2,?_⟩
  simp only [yM,List.nil_append] at a5
  exact (List.append_cancel_right a5).symm
theorem zQ7 (hv:zR ns 0) {ss:List SyR} (hf:zAZ ns (false,0) ss=some (true,0)) {x:ET×List SyR} (h:RD ns 0 none (ss++[eoS])=some x):x.2=[eoS]:=by
 obtain ⟨a1,_,_,a4,_⟩:=zAq hv _ 0 none (ss++[eoS]) 0 x (by omega) ⟨ss,rfl,hf⟩ (fun L e=>by cases e) h
 obtain ⟨T,q⟩:=x
 simp only at a1 a4 ⊢
 cases q with
 | nil=>exact (zEm a1).elim
 | cons z q=>
  rcases zDm a1 with ⟨h1,h2,_⟩ | ⟨h4,H,_⟩ | ⟨h5,H,_⟩ | ⟨_,h7,_⟩
  ·rw [h1,h2]
  ·have:=a4 z q rfl (yQ h4)
   have:=(opF hv (s:=z) (yR (yQ h4)) H).lo
   omega
  ·have:=a4 z q rfl (yR h5)
   have:=(opF hv (s:=z) (yR (yR h5)) H).lo
   omega
  ·omega
end Go.Proofs.YtgbkgkdpdfdokaaGreatDoor
