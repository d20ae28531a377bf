import Derived.OwnWalk
import Derived.Laws.OwnMore
import Derived.Test.YtfboipappaonhaaGreatF00
import Derived.Test.YtfboipappaonhaaGreatF01
import Derived.Test.YtfboipappaonhaaGreatF05
import Derived.Test.YtfboipappaonhaaGreatF07
import Derived.Test.YtfboipappaonhaaGreatF11
namespace Go.Proofs.YtfboipappaonhaaGreat
set_option linter.unusedSimpArgs false
set_option linter.unusedVariables false
set_option maxHeartbeats 16000000
set_option maxRecDepth 100000
open Go.RowKit
open Go.Deep (BT)
def opS (op:Int) (s:SyR):Int:=op+(if s.1=6 then 1 else 0)-(if s.1=7 then 1 else 0)
def opL (op:Int) (ss:List SyR):Int:=ss.foldl opS op
def zBJ (ns:List OpR) (best:Option (Nat×SyR)) (x:Nat×SyR):Option (Nat×SyR):=match best with
 | none=>some x
 | some b=>if sLv ns x.2<sLv ns b.2\/(sLv ns x.2=sLv ns b.2/\sSo ns x.2≠2) then some x else some b
def rtF (ns:List OpR):List SyR->Nat->Int->Option (Nat×SyR)->Option (Nat×SyR)
 | [],_,_,best=>best
 | s::r,i,op,best=>rtF ns r (i+1) (opS op s) (if opS op s≠0\/¬ (3<=s.1/\s.1<=5) then best else zBJ ns best (i,s))
theorem zCF (op:Int) (a b:List SyR):opL op (a++b)=opL (opL op a) b:=by simp [opL]
theorem Zq (op:Int) (s:SyR) (r:List SyR):opL op (s::r)=opL (opS op s) r:=rfl
theorem ZM (ns:List OpR):∀ (a b:List SyR) (i:Nat) (op:Int) (best:Option (Nat×SyR)),rtF ns (a++b) i op best=rtF ns b (i+a.length) (opL op a) (rtF ns a i op best)
 | [],b,i,op,best=>rfl
 | s::r,b,i,op,best=>by
  simp only [List.cons_append,rtF,List.length_cons,Zq]
  rw [ZM ns r b]
  congr 1
  omega
theorem zo {op:Int} {s:SyR} (h:s.1≠6/\s.1≠7):opS op s=op:=by
 unfold opS
 rw [if_neg h.1,if_neg h.2]
 omega
theorem zBn {op:Int}:opS op (6,opn)=op+1:=by simp [opS]
theorem zEF {op:Int}:opS op (7,zA1)=op-1:=by simp [opS]
theorem zAV {b:Nat} {t:ByteArray} (h:b=1\/b=2):ySy (.node b 0 t .nil .nil)=[(b,t)]:=by
 simp only [ySy]
 rw [if_neg (by omega),if_neg (by omega),if_neg (by omega),if_neg (by omega)]
theorem zAy {t:ByteArray} {l r:ET}:ySy (.node 6 0 t l r)=(6,opn)::(ySy l++[(7,zA1)]):=by simp [ySy]
theorem zAZ {t:ByteArray} {l r:ET}:ySy (.node 3 0 t l r)=(3,t)::ySy l:=by simp [ySy]
theorem zAF {t:ByteArray} {l r:ET}:ySy (.node 5 0 t l r)=ySy l++[(5,t)]:=by simp [ySy]
theorem zBK {t:ByteArray} {l r:ET}:ySy (.node 4 0 t l r)=ySy l++((4,t)::ySy r):=by simp [ySy]
theorem zBo {ns:List OpR}:∀ (T:ET),zf ns T->∀ op,opL op (ySy T)=op:=by
 intro T
 induction T with
 | nil=>intro h; exact h.elim
 | node b o t l r ihl ihr=>
  rintro ⟨rfl,h⟩ op
  rcases h with ⟨h12,rfl,rfl⟩ | ⟨rfl,rfl,hl,rfl⟩ | ⟨h35,hk,hl,rfl,hh⟩ | ⟨rfl,hk,hl,hr,h1,h2⟩
  ·rw [zAV h12,Zq,zo ⟨by simp; omega,by simp; omega⟩]
   rfl
  ·rw [zAy,Zq,zBn,zCF,ihl hl,Zq,zEF]
   show op+1-1=op
   omega
  ·rcases h35 with rfl | rfl
   ·rw [zAZ,Zq,zo ⟨by simp,by simp⟩,ihl hl]
   ·rw [zAF,zCF,ihl hl,Zq,zo ⟨by simp,by simp⟩]
    rfl
  ·rw [zBK,zCF,ihl hl,Zq,zo ⟨by simp,by simp⟩,ihr hr]
theorem zEg {ns:List OpR}:∀ (T:ET),zf ns T->∀ (i:Nat) (op:Int) best,0<op->rtF ns (ySy T) i op best=best:=by
 intro T
 induction T with
 | nil=>intro h; exact h.elim
 | node b o t l r ihl ihr=>
  rintro ⟨rfl,h⟩ i op best hop
  rcases h with ⟨h12,rfl,rfl⟩ | ⟨rfl,rfl,hl,rfl⟩ | ⟨h35,hk,hl,rfl,hh⟩ | ⟨rfl,hk,hl,hr,h1,h2⟩
  ·rw [zAV h12]
   simp only [rtF]
   rw [if_pos]
   exact Or.inr (by simp; omega)
  ·rw [zAy]
   simp only [rtF]
   rw [zBn,if_pos (Or.inl (by omega)),ZM,ihl hl _ _ _ (by omega)]
   simp [rtF]
  ·rcases h35 with rfl | rfl
   ·rw [zAZ]
    simp only [rtF]
    rw [zo ⟨by simp,by simp⟩,if_pos (Or.inl (by omega)),ihl hl _ _ _ hop]
   ·rw [zAF,ZM,ihl hl _ _ _ hop,zBo l hl]
    simp only [rtF]
    rw [zo ⟨by simp,by simp⟩,if_pos (Or.inl (by omega))]
  ·rw [zBK,ZM,ihl hl _ _ _ hop,zBo l hl]
   simp only [rtF]
   rw [zo ⟨by simp,by simp⟩,if_pos (Or.inl (by omega)),ihr hr _ _ _ hop]
theorem zKC {ns:List OpR} (hv:zM ns 0) (b0:Nat×SyR) (hb:b0.2.1=3\/b0.2.1=4\/b0.2.1=5) (hkb:knB ns b0.2=true):∀ (T:ET),zf ns T->∀ (i:Nat),(sLv ns b0.2<lvT ns T\/(sLv ns b0.2<=lvT ns T/\sSo ns b0.2=2))->rtF ns (ySy T) i 0 (some b0)=some b0:=by
 intro T
 induction T with
 | nil=>intro h; exact h.elim
 | node b o t l r ihl ihr=>
  rintro ⟨rfl,h⟩ i hlv
  simp only [lvT] at hlv
  have pk:∀ (j:Nat) (s:SyR),(s.1=3\/s.1=4\/s.1=5)->knB ns s=true->(sLv ns b0.2<sLv ns s\/(sLv ns b0.2<=sLv ns s/\sSo ns b0.2=2))->zBJ ns (some b0) (j,s)=some b0:=fun j s hs hk hc=>by
   simp only [zBJ]
   rw [if_neg]
   rintro (h | ⟨h1,h2⟩)
   ·omega
   ·have:=zFh hv hs hb hk hkb h1
    omega
  rcases h with ⟨h12,rfl,rfl⟩ | ⟨rfl,rfl,hl,rfl⟩ | ⟨h35,hk,hl,rfl,hh⟩ | ⟨rfl,hk,hl,hr,h1,h2⟩
  ·rw [zAV h12]
   simp only [rtF]
   rw [if_pos (Or.inr (by simp; omega))]
  ·rw [zAy]
   simp only [rtF]
   rw [zBn,if_pos (Or.inl (by omega)),ZM,zEg l hl _ _ _ (by omega)]
   simp [rtF]
  ·rcases h35 with rfl | rfl
   ·have f:=(opF hv (Or.inl rfl) hk).pre rfl
    rw [zAZ]
    simp only [rtF]
    rw [zo ⟨by simp,by simp⟩,if_neg (by simp),pk _ _ (Or.inl rfl) hk hlv]
    exact ihl hl _ (by omega)
   ·have f:=(opF hv (Or.inr (Or.inr rfl)) hk).post rfl
    rw [zAF,ZM,ihl hl _ (by omega),zBo l hl]
    simp only [rtF]
    rw [zo ⟨by simp,by simp⟩,if_neg (by simp),pk _ _ (Or.inr (Or.inr rfl)) hk hlv]
  ·have f:=(opF hv (Or.inr (Or.inl rfl)) hk).mid rfl
   rw [zBK,ZM,ihl hl _ (by omega),zBo l hl]
   simp only [rtF]
   rw [zo ⟨by simp,by simp⟩,if_neg (by simp),pk _ _ (Or.inr (Or.inl rfl)) hk hlv]
   exact ihr hr _ (by omega)
def zEG (ns:List OpR) (m:Int) (best:Option (Nat×SyR)):Prop:=∀ b,best=some b->m<=sLv ns b.2
theorem zLt {ns:List OpR} (hv:zM ns 0) (m:Int):∀ (T:ET),zf ns T->∀ (i:Nat) best,m<=lvT ns T->zEG ns m best->zEG ns m (rtF ns (ySy T) i 0 best):=by
 intro T
 induction T with
 | nil=>intro h; exact h.elim
 | node b o t l r ihl ihr=>
  rintro ⟨rfl,h⟩ i best hlv hb
  simp only [lvT] at hlv
  have pk:∀ (j:Nat) (s:SyR) best,m<=sLv ns s->zEG ns m best->zEG ns m (zBJ ns best (j,s)):=fun j s best hs hb x hx=>by
   cases best with
   | none=>simp only [zBJ,Option.some.injEq] at hx; subst hx; exact hs
   | some y=>
    simp only [zBJ] at hx
    split at hx
    ·simp only [Option.some.injEq] at hx; subst hx; exact hs
    ·exact hb x hx
  rcases h with ⟨h12,rfl,rfl⟩ | ⟨rfl,rfl,hl,rfl⟩ | ⟨h35,hk,hl,rfl,hh⟩ | ⟨rfl,hk,hl,hr,h1,h2⟩
  ·rw [zAV h12]
   simp only [rtF]
   rw [if_pos (Or.inr (by simp; omega))]
   exact hb
  ·rw [zAy]
   simp only [rtF]
   rw [zBn,if_pos (Or.inl (by omega)),ZM,zEg l hl _ _ _ (by omega)]
   simpa [rtF] using hb
  ·rcases h35 with rfl | rfl
   ·have f:=(opF hv (Or.inl rfl) hk).pre rfl
    rw [zAZ]
    simp only [rtF]
    rw [zo ⟨by simp,by simp⟩,if_neg (by simp)]
    exact ihl hl _ _ (by omega) (pk _ _ _ hlv hb)
   ·have f:=(opF hv (Or.inr (Or.inr rfl)) hk).post rfl
    rw [zAF,ZM,zBo l hl]
    simp only [rtF]
    rw [zo ⟨by simp,by simp⟩,if_neg (by simp)]
    exact pk _ _ _ hlv (ihl hl _ _ (by omega) hb)
  ·have f:=(opF hv (Or.inr (Or.inl rfl)) hk).mid rfl
   rw [zBK,ZM,zBo l hl]
   simp only [rtF]
   rw [zo ⟨by simp,by simp⟩,if_neg (by simp)]
   exact ihr hr _ _ (by omega) (pk _ _ _ hlv (ihl hl _ _ (by omega) hb))
def zBQ (ns:List OpR) (b:Nat) (t:ByteArray) (l r:ET):Bool:=decide (sH ns (b,t) false<=lvT ns l)&&(decide (b≠4)||decide (sH ns (b,t) true<=lvT ns r))
def bld (ns:List OpR):Nat->List SyR->Option ET
 | 0,_=>none
 | n+1,ss=>match rtF ns ss 0 0 none with
  | none=>(match ss with
   | []=>none
   | s::r=>if s.1=6 then (bld ns n r.dropLast).map (fun T=>.node 6 0 ByteArray.empty T .nil) else some (.node s.1 0 s.2 .nil .nil))
  | some x=>
   if (x.2.1=3/\x.1≠0)\/(x.2.1=5/\x.1+1≠ss.length) then none
   else if x.2.1=3 then (match bld ns n (ss.drop 1) with
    | none=>none
    | some T=>if zBQ ns 3 x.2.2 T .nil then some (.node 3 0 x.2.2 T .nil) else none)
   else if x.2.1=5 then (match bld ns n (ss.take x.1) with
    | none=>none
    | some T=>if zBQ ns 5 x.2.2 T .nil then some (.node 5 0 x.2.2 T .nil) else none)
   else (match bld ns n (ss.take x.1) with
    | none=>none
    | some T=>(match bld ns n (ss.drop (x.1+1)) with
     | none=>none
     | some T2=>if zBQ ns 4 x.2.2 T T2 then some (.node 4 0 x.2.2 T T2) else none))
theorem zKD {ns:List OpR} {m:Int}:zEG ns m none:=fun b e=>by cases e
theorem zIK {ns:List OpR} {m:Int} {best:Option (Nat×SyR)} {x:Nat×SyR} (h:zEG ns m best) (hc:sLv ns x.2<m\/(sLv ns x.2<=m/\sSo ns x.2≠2)):zBJ ns best x=some x:=by
 cases best with
 | none=>rfl
 | some b=>
  have:=h b rfl
  simp only [zBJ]
  rw [if_pos]
  by_cases e:sLv ns x.2<sLv ns b.2
  ·exact Or.inl e
  ·refine Or.inr ⟨by omega,?_⟩
   rcases hc with hc | hc
   ·omega
   ·exact hc.2
theorem zMS {ns:List OpR} (hv:zM ns 0):∀ (T:ET),zf ns T->∀ n,tsz T<=n->bld ns n (ySy T)=some T:=by
 intro T
 induction T with
 | nil=>intro h; exact h.elim
 | node b o t l r ihl ihr=>
  rintro ⟨rfl,h⟩ n hn
  simp only [tsz] at hn
  obtain ⟨n,rfl⟩:∃ m,n=m+1:=⟨n-1,by omega⟩
  rcases h with ⟨h12,rfl,rfl⟩ | ⟨rfl,rfl,hl,rfl⟩ | ⟨h35,hk,hl,rfl,hh⟩ | ⟨rfl,hk,hl,hr,h1,h2⟩
  ·have e:rtF ns [(b,t)] 0 0 none=none:=by
    simp only [rtF]
    rw [if_pos (Or.inr (by simp; omega))]
   rw [zAV h12]
   simp only [bld,e]
   rw [if_neg (by omega)]
  ·have e:rtF ns ((6,opn)::(ySy l++[(7,zA1)])) 0 0 none=none:=by
    simp only [rtF]
    rw [zBn,if_pos (Or.inl (by omega)),ZM,zEg l hl _ _ _ (by omega)]
    simp [rtF]
   rw [zAy]
   simp only [bld,e]
   rw [if_pos trivial,List.dropLast_concat,ihl hl n (by omega)]
   rfl
  ·rcases h35 with rfl | rfl
   ·have f:=(opF hv (Or.inl rfl) hk).pre rfl
    have e:rtF ns ((3,t)::ySy l) 0 0 none=some (0,(3,t)):=by
     simp only [rtF]
     rw [zo ⟨by simp,by simp⟩,if_neg (by simp)]
     exact zKC hv (0,(3,t)) (Or.inl rfl) hk l hl _ (Or.inr ⟨by show sLv ns (3,t)<=_; omega,f.2⟩)
    rw [zAZ]
    simp only [bld,e]
    rw [if_neg (by simp),if_pos trivial,List.drop_succ_cons,List.drop_zero,ihl hl n (by omega)]
    simp [zBQ,hh]
   ·have f:=(opF hv (Or.inr (Or.inr rfl)) hk).post rfl
    have e:rtF ns (ySy l++[(5,t)]) 0 0 none=some ((ySy l).length,(5,t)):=by
     rw [ZM,zBo l hl]
     simp only [rtF]
     rw [zo ⟨by simp,by simp⟩,if_neg (by simp),Nat.zero_add]
     exact zIK (zLt hv (sH ns (5,t) false) l hl 0 none hh zKD) (Or.inr ⟨by show sLv ns (5,t)<=_; omega,by show sSo ns (5,t)≠2; omega⟩)
    rw [zAF]
    simp only [bld,e]
    rw [if_neg (by simp),if_neg (by decide),if_pos trivial,List.take_left,ihl hl n (by omega)]
    simp [zBQ,hh]
  ·have f:=(opF hv (Or.inr (Or.inl rfl)) hk).mid rfl
   have e:rtF ns (ySy l++((4,t)::ySy r)) 0 0 none=some ((ySy l).length,(4,t)):=by
    rw [ZM,zBo l hl]
    simp only [rtF]
    rw [zo ⟨by simp,by simp⟩,if_neg (by simp),Nat.zero_add,zIK (zLt hv (sH ns (4,t) false) l hl 0 none h1 zKD) (by show sLv ns (4,t)<_\/(sLv ns (4,t)<=_/\sSo ns (4,t)≠2); omega)]
    exact zKC hv ((ySy l).length,(4,t)) (Or.inr (Or.inl rfl)) hk r hr _ (by show sLv ns (4,t)<_\/(sLv ns (4,t)<=_/\sSo ns (4,t)=2); omega)
   rw [zBK]
   simp only [bld,e]
   rw [if_neg (by simp),if_neg (by decide),if_neg (by decide),List.take_left,ihl hl n (by omega)]
   have ed:(ySy l++(4,t)::ySy r).drop ((ySy l).length+1)=ySy r:=by
    have:ySy l++(4,t)::ySy r=(ySy l++[(4,t)])++ySy r:=by simp
    rw [this]
    exact List.drop_left' (by simp)
   simp only [ed,ihr hr n (by omega)]
   simp [zBQ,h1,h2]
theorem zG5 {ns:List OpR}:∀ (ss:List SyR) (i:Nat) (op:Int) best x,rtF ns ss i op best=some x->best=some x\/∃ L R,ss=L++x.2::R/\x.1=i+L.length/\(3<=x.2.1/\x.2.1<=5)/\opL op L=0
 | [],i,op,best,x,h=>Or.inl h
 | s::r,i,op,best,x,h=>by
  simp only [rtF] at h
  have lift:(∃ L R,r=L++x.2::R/\x.1=i+1+L.length/\(3<=x.2.1/\x.2.1<=5)/\opL (opS op s) L=0)->∃ L R,s::r=L++x.2::R/\x.1=i+L.length/\(3<=x.2.1/\x.2.1<=5)/\opL op L=0:=by
   rintro ⟨L,R,rfl,h1,h2,h3⟩
   exact ⟨s::L,R,rfl,by simp; omega,h2,h3⟩
  rcases zG5 r _ _ _ x h with hb | h'
  ·split at hb
   ·exact Or.inl hb
   ·rename_i hc
    have hc1:3<=s.1/\s.1<=5:=Decidable.byContradiction fun h=>hc (Or.inr h)
    have hc2:opS op s=0:=Decidable.byContradiction fun h=>hc (Or.inl h)
    have here:x=(i,s)->∃ L R,s::r=L++x.2::R/\x.1=i+L.length/\(3<=x.2.1/\x.2.1<=5)/\opL op L=0:=by
     rintro rfl
     exact ⟨[],r,rfl,by simp,hc1,by rw [zo ⟨by omega,by omega⟩] at hc2; exact hc2⟩
    cases best with
    | none=>simp only [zBJ,Option.some.injEq] at hb; exact Or.inr (here hb.symm)
    | some y=>
     simp only [zBJ] at hb
     split at hb
     ·simp only [Option.some.injEq] at hb; exact Or.inr (here hb.symm)
     ·exact Or.inl hb
  ·exact Or.inr (lift h')
theorem zFi {ns:List OpR}:∀ (ss:List SyR) (i:Nat) (op:Int) b,rtF ns ss i op (some b)≠none
 | [],i,op,b,h=>by cases h
 | s::r,i,op,b,h=>by
  simp only [rtF] at h
  split at h
  ·exact zFi r _ _ _ h
  ·simp only [zBJ] at h
   split at h
   ·exact zFi r _ _ _ h
   ·exact zFi r _ _ _ h
theorem zK4 {ns:List OpR} {L R:List SyR} {s:SyR} (hs:3<=s.1/\s.1<=5) (ho:opL 0 L=0):rtF ns (L++s::R) 0 0 none≠none:=by
 rw [ZM,ho]
 simp only [rtF]
 rw [zo ⟨by omega,by omega⟩,if_neg (fun h=>by rcases h with h | h; exact h rfl; exact h hs)]
 cases rtF ns L 0 0 none with
 | none=>exact zFi _ _ _ _
 | some b=>
  simp only [zBJ]
  split
  ·exact zFi _ _ _ _
  ·exact zFi _ _ _ _
theorem zI6 {ns:List OpR}:∀ (ss:List SyR) (st st':Bool×Nat),Zp ns st ss=some st'->opL (st.2:Int) ss=(st'.2:Int)
 | [],st,st',h=>by simp only [Zp,Option.some.injEq] at h; subst h; rfl
 | s::r,(false,d),st',h=>by
  simp only [Zp] at h
  cases e:auS ns (false,d) s with
  | none=>rw [e] at h; cases h
  | some s1=>
   rw [e] at h
   have:=zI6 r s1 st' h
   rw [Zq]
   rcases zC6 e with ⟨a,rfl⟩ | ⟨a,_,rfl⟩ | ⟨rfl,rfl⟩
   ·rw [zo ⟨by omega,by omega⟩]; exact this
   ·rw [zo ⟨by omega,by omega⟩]; exact this
   ·rw [zBn]; simpa using this
 | s::r,(true,d),st',h=>by
  simp only [Zp] at h
  cases e:auS ns (true,d) s with
  | none=>rw [e] at h; cases h
  | some s1=>
   rw [e] at h
   have:=zI6 r s1 st' h
   rw [Zq]
   rcases zEE e with ⟨a,_,rfl⟩ | ⟨a,_,rfl⟩ | ⟨rfl,hd,rfl⟩
   ·rw [zo ⟨by omega,by omega⟩]; exact this
   ·rw [zo ⟨by omega,by omega⟩]; exact this
   ·rw [zEF]
    have e2:((d-1:Nat):Int)=(d:Int)-1:=by omega
    simpa [e2] using this
theorem zAj {ns:List OpR}:∀ (r:List SyR) (bh:Bool) (d j:Nat) (st:Bool×Nat),Zp ns (bh,d+1+j) r=some st->st.2<=d->∃ r1 r2,r=r1++(7,zA1)::r2/\Zp ns (bh,j) r1=some (true,0)/\Zp ns (true,d) r2=some st
 | [],bh,d,j,st,h,hd=>by
  simp only [Zp,Option.some.injEq] at h
  subst h
  simp only at hd
  omega
 | s::r,false,d,j,st,h,hd=>by
  simp only [Zp] at h
  cases e:auS ns (false,d+1+j) s with
  | none=>rw [e] at h; cases h
  | some s1=>
   rw [e] at h
   simp only at h
   rcases zC6 e with ⟨a,rfl⟩ | ⟨a,hk,rfl⟩ | ⟨rfl,rfl⟩
   ·obtain ⟨r1,r2,rfl,h1,h2⟩:=zAj r true d j st h hd
    exact ⟨s::r1,r2,rfl,by simp only [Zp,zI3 a]; exact h1,h2⟩
   ·obtain ⟨r1,r2,rfl,h1,h2⟩:=zAj r false d j st h hd
    exact ⟨s::r1,r2,rfl,by simp only [Zp,zK1 a hk]; exact h1,h2⟩
   ·obtain ⟨r1,r2,rfl,h1,h2⟩:=zAj r false d (j+1) st h hd
    exact ⟨(6,opn)::r1,r2,rfl,by simp only [Zp,zI4]; exact h1,h2⟩
 | s::r,true,d,j,st,h,hd=>by
  simp only [Zp] at h
  cases e:auS ns (true,d+1+j) s with
  | none=>rw [e] at h; cases h
  | some s1=>
   rw [e] at h
   simp only at h
   rcases zEE e with ⟨a,hk,rfl⟩ | ⟨a,hk,rfl⟩ | ⟨rfl,_,rfl⟩
   ·obtain ⟨r1,r2,rfl,h1,h2⟩:=zAj r false d j st h hd
    exact ⟨s::r1,r2,rfl,by simp only [Zp,zK2 a hk]; exact h1,h2⟩
   ·obtain ⟨r1,r2,rfl,h1,h2⟩:=zAj r true d j st h hd
    exact ⟨s::r1,r2,rfl,by simp only [Zp,zI5 a hk]; exact h1,h2⟩
   ·cases j with
    | zero=>exact ⟨[],r,rfl,rfl,by simpa using h⟩
    | succ j=>
     have e2:d+1+(j+1)-1=d+1+j:=by omega
     rw [e2] at h
     obtain ⟨r1,r2,rfl,h1,h2⟩:=zAj r true d j st h hd
     exact ⟨(7,zA1)::r1,r2,rfl,by simp only [Zp,zG4]; exact h1,h2⟩
def Seg (ns:List OpR) (ss:List SyR):Prop:=Zp ns (false,0) ss=some (true,0)
theorem Seg.ne {ns:List OpR} {ss:List SyR} (h:Seg ns ss):ss≠[]:=fun e=>by
 subst e
 unfold Seg at h
 simp [Zp] at h
theorem zKE {ns:List OpR} {ss:List SyR} (h:Seg ns ss) (hr:rtF ns ss 0 0 none=none):(∃ s,(s.1=1\/s.1=2)/\ss=[s])\/∃ q,ss=(6,opn)::(q++[(7,zA1)])/\Seg ns q:=by
 have tail:∀ (L R:List SyR),ss=L++R->opL 0 L=0->Zp ns (true,0) R=some (true,0)->R=[]:=fun L R e ho hR=>by
  cases R with
  | nil=>rfl
  | cons z R=>
   exfalso
   simp only [Zp] at hR
   cases ea:auS ns (true,0) z with
   | none=>rw [ea] at hR; cases hR
   | some st=>
    rcases zEE ea with ⟨a,_,_⟩ | ⟨a,_,_⟩ | ⟨_,hd,_⟩
    ·exact zK4 (ns:=ns) (L:=L) (R:=R) (s:=z) (by omega) ho (e ▸ hr)
    ·exact zK4 (ns:=ns) (L:=L) (R:=R) (s:=z) (by omega) ho (e ▸ hr)
    ·omega
 cases ss with
 | nil=>exact absurd rfl h.ne
 | cons s r=>
  unfold Seg at h
  simp only [Zp] at h
  cases e:auS ns (false,0) s with
  | none=>rw [e] at h; cases h
  | some st=>
   rw [e] at h
   simp only at h
   rcases zC6 e with ⟨a,rfl⟩ | ⟨a,hk,rfl⟩ | ⟨rfl,rfl⟩
   ·have:=tail [s] r rfl (by rw [Zq,zo ⟨by omega,by omega⟩]; rfl) h
    subst this
    exact Or.inl ⟨s,a,rfl⟩
   ·exact absurd hr (zK4 (ns:=ns) (L:=[]) (R:=r) (s:=s) (by omega) rfl)
   ·obtain ⟨r1,r2,rfl,h1,h2⟩:=zAj r false 0 0 (true,0) h (Nat.le_refl _)
    have ho:=zI6 r1 _ _ h1
    have:=tail ((6,opn)::(r1++[(7,zA1)])) r2 (by simp) (by
     rw [Zq,zBn,zCF]
     have sh:∀ (l:List SyR) (a b:Int),opL (a+b) l=opL a l+b:=fun l=>by
      induction l with
      | nil=>intro a b; rfl
      | cons z l ih=>
       intro a b
       rw [Zq,Zq]
       have:opS (a+b) z=opS a z+b:=by unfold opS; omega
       rw [this,ih]
     rw [sh r1 0 1]
     simp only at ho
     have ho':opL 0 r1=0:=by simpa using ho
     rw [ho',Zq,zEF]
     rfl) h2
    subst this
    exact Or.inr ⟨r1,by simp,h1⟩
theorem zKF {ns:List OpR} {ss:List SyR} (h:Seg ns ss) {x:Nat×SyR} (hr:rtF ns ss 0 0 none=some x):∃ L R,ss=L++x.2::R/\x.1=L.length/\knB ns x.2=true /\
  ((x.2.1=3/\(L=[]->Seg ns R))\/(x.2.1=5/\Seg ns L)\/(x.2.1=4/\Seg ns L/\Seg ns R)):=by
 rcases zG5 ss 0 0 none x hr with hb | ⟨L,R,rfl,h1,h2,h3⟩
 ·cases hb
 ·refine ⟨L,R,rfl,by omega,?_⟩
  unfold Seg at h
  rw [zBm] at h
  cases e:Zp ns (false,0) L with
  | none=>rw [e] at h; cases h
  | some st=>
   rw [e] at h
   have ho:=zI6 L _ _ e
   obtain ⟨bh,d⟩:=st
   simp only at ho h
   have hd:d=0:=by
    have h3':opL ((0:Nat):Int) L=0:=h3
    omega
   subst hd
   simp only [Zp] at h
   cases ea:auS ns (bh,0) x.2 with
   | none=>rw [ea] at h; cases h
   | some st'=>
    rw [ea] at h
    simp only at h
    cases bh with
    | false=>
     rcases zC6 ea with ⟨a,rfl⟩ | ⟨a,hk,rfl⟩ | ⟨a,rfl⟩
     ·omega
     ·exact ⟨hk,Or.inl ⟨a,fun _=>h⟩⟩
     ·rw [a] at h2; exact absurd h2.2 (by decide)
    | true=>
     rcases zEE ea with ⟨a,hk,rfl⟩ | ⟨a,hk,rfl⟩ | ⟨a,_,rfl⟩
     ·exact ⟨hk,Or.inr (Or.inr ⟨a,e,h⟩)⟩
     ·exact ⟨hk,Or.inr (Or.inl ⟨a,e⟩)⟩
     ·rw [a] at h2; exact absurd h2.2 (by decide)
theorem zAG {ns:List OpR} (hv:zM ns 0):∀ (n:Nat) (ss:List SyR) (T:ET),Seg ns ss->bld ns n ss=some T->zf ns T/\ySy T=ss
 | 0,_,_,_,h=>by simp [bld] at h
 | n+1,ss,T,hs,h=>by
  simp only [bld] at h
  split at h
  ·rename_i hr
   rcases zKE hs hr with ⟨s,hs12,rfl⟩ | ⟨q,rfl,hq⟩
   ·simp only at h
    rw [if_neg (by omega)] at h
    injection h with h
    subst h
    refine ⟨⟨rfl,Or.inl ⟨hs12,rfl,rfl⟩⟩,?_⟩
    rw [zAV hs12]
   ·simp only at h
    rw [if_pos trivial,List.dropLast_concat] at h
    obtain ⟨T1,h1,rfl⟩:=Option.map_eq_some_iff.1 h
    obtain ⟨g,e⟩:=zAG hv n q T1 hq h1
    exact ⟨⟨rfl,Or.inr (Or.inl ⟨rfl,rfl,g,rfl⟩)⟩,by rw [zAy,e]⟩
  ·rename_i x hr
   obtain ⟨L,R,rfl,hx,hk,hc⟩:=zKF hs hr
   split at h
   ·cases h
   ·rename_i hn
    have ed:∀ m,m=L.length+1->(L++x.2::R).drop m=R:=fun m hm=>by
     subst hm
     have:L++x.2::R=(L++[x.2])++R:=by simp
     rw [this]
     exact List.drop_left' (by simp)
    rcases hc with ⟨a,hR⟩ | ⟨a,hL⟩ | ⟨a,hL,hR⟩
    ·have hL0:L=[]:=by
      have:x.1=0:=Decidable.byContradiction fun h=>hn (Or.inl ⟨a,h⟩)
      exact List.eq_nil_of_length_eq_zero (by omega)
     subst hL0
     rw [if_pos a] at h
     simp only [List.nil_append,List.drop_succ_cons,List.drop_zero] at h
     split at h
     ·cases h
     ·rename_i T1 h1
      split at h
      ·rename_i hf
       injection h with h
       subst h
       obtain ⟨g,e⟩:=zAG hv n R T1 (hR rfl) h1
       have es:((3,x.2.2):SyR)=x.2:=Prod.ext a.symm rfl
       simp only [zBQ,Bool.and_eq_true,decide_eq_true_eq] at hf
       refine ⟨⟨rfl,Or.inr (Or.inr (Or.inl ⟨Or.inl rfl,by rw [es]; exact hk,g,rfl,hf.1⟩))⟩,?_⟩
       rw [zAZ,e,es]
       rfl
      ·cases h
    ·have hR0:R=[]:=by
      have:x.1+1=(L++x.2::R).length:=Decidable.byContradiction fun h=>hn (Or.inr ⟨a,h⟩)
      simp only [List.length_append,List.length_cons] at this
      exact List.eq_nil_of_length_eq_zero (by omega)
     subst hR0
     rw [if_neg (by omega),if_pos a,hx,List.take_left] at h
     split at h
     ·cases h
     ·rename_i T1 h1
      split at h
      ·rename_i hf
       injection h with h
       subst h
       obtain ⟨g,e⟩:=zAG hv n L T1 hL h1
       have es:((5,x.2.2):SyR)=x.2:=Prod.ext a.symm rfl
       simp only [zBQ,Bool.and_eq_true,decide_eq_true_eq] at hf
       refine ⟨⟨rfl,Or.inr (Or.inr (Or.inl ⟨Or.inr rfl,by rw [es]; exact hk,g,rfl,hf.1⟩))⟩,?_⟩
       rw [zAF,e,es]
      ·cases h
    ·rw [if_neg (by omega),if_neg (by omega),hx,List.take_left,ed _ rfl] at h
     split at h
     ·cases h
     ·rename_i T1 h1
      split at h
      ·cases h
      ·rename_i T2 h2
       split at h
       ·rename_i hf
        injection h with h
        subst h
        obtain ⟨g,e⟩:=zAG hv n L T1 hL h1
        obtain ⟨g2,e2⟩:=zAG hv n R T2 hR h2
        have es:((4,x.2.2):SyR)=x.2:=Prod.ext a.symm rfl
        simp only [zBQ,Bool.and_eq_true,Bool.or_eq_true,decide_eq_true_eq,ne_eq,not_true,false_or] at hf
        refine ⟨⟨rfl,Or.inr (Or.inr (Or.inr ⟨rfl,by rw [es]; exact hk,g,g2,hf.1,hf.2⟩))⟩,?_⟩
        rw [zBK,e,e2,es]
       ·cases h
theorem zG6 {ns:List OpR}:∀ (T:ET),zf ns T->tsz T<=(ySy T).length:=by
 intro T
 induction T with
 | nil=>intro h; exact h.elim
 | node b o t l r ihl ihr=>
  rintro ⟨rfl,h⟩
  rcases h with ⟨h12,rfl,rfl⟩ | ⟨rfl,rfl,hl,rfl⟩ | ⟨h35,hk,hl,rfl,hh⟩ | ⟨rfl,hk,hl,hr,h1,h2⟩
  ·rw [zAV h12]; simp [tsz]
  ·have:=ihl hl
   rw [zAy]; simp [tsz]; omega
  ·have:=ihl hl
   rcases h35 with rfl | rfl
   ·rw [zAZ]; simp [tsz]; omega
   ·rw [zAF]; simp [tsz]; omega
  ·have:=ihl hl
   have:=ihr hr
   rw [zBK]; simp [tsz]; omega
theorem zP8 {ns:List OpR} (hv:zM ns 0) {ss:List SyR} (hs:Seg ns ss) {n:Nat} (hn:ss.length<=n) (T:ET):bld ns n ss=some T↔RD ns 0 none (ss++[eoS])=some (T,[eoS]):=by
 rw [<- zK3 hv hs T]
 constructor
 ·exact zAG hv n ss T hs
 ·rintro ⟨g,rfl⟩
  exact zMS hv T g n (Nat.le_trans (zG6 T g) hn)
end Go.Proofs.YtfboipappaonhaaGreat
namespace Go.Proofs.YtfboipappaonhaaGreat
set_option linter.unusedSimpArgs false
set_option maxHeartbeats 16000000
set_option maxRecDepth 100000
open Go.RowKit
def zQk (xs:List OpR) (t:ByteArray) (k:Int):Prop:=∃ j,j<xs.length/\(atO xs j).s=t/\(atO xs j).k=k
def zn (xs:List OpR) (t:ByteArray) (k:Int):Bool:=(List.range xs.length).any fun j=>(atO xs j).s.data==t.data&&(atO xs j).k==k
theorem ZQ (xs:List OpR) (t:ByteArray) (k:Int):zn xs t k=true↔zQk xs t k:=by
 have e:∀ a b:ByteArray,(a.data=b.data)↔a=b:=fun a b=>⟨fun h=>by cases a; cases b; simp_all,fun h=>by rw [h]⟩
 simp [zn,zQk,List.any_eq_true,e]
def zz (xs:List OpR) (last:Bool) (t:zK) (bh:Bool) (op:Nat):Int:=
 if bh=false then
  if t.k=1\/t.k=2\/t.k=4 then 0 else if t.k=3/\zn xs t.t 1=true then 1 else -1
 else
  if t.k=3/\zn xs t.t 2=true then 2 else if t.k=3/\zn xs t.t 3=true then 3
  else if t.k=5/\0<op then 0 else if t.k=7/\op=0/\last=true then 0 else -1
def zCG (xs:List OpR) (t:zK) (bh:Bool):Bool:=
 if bh=false then (if t.k=1\/t.k=2 then true else false) else (if t.k=3/\zn xs t.t 2=true then false else true)
def zBz (t:zK) (op:Nat):Nat:=if t.k=4 then op+1 else if t.k=5 then op-1 else op
def zBL (xs:List OpR) (ts:List zK):Nat->Bool
 | 0=>false
 | i+1=>zCG xs (atT ts i) (zBL xs ts i)
def zBG (ts:List zK):Nat->Nat
 | 0=>0
 | i+1=>zBz (atT ts i) (zBG ts i)
def zV (xs:List OpR) (ts:List zK) (i:Nat):Int:=zz xs (decide (i+1=ts.length)) (atT ts i) (zBL xs ts i) (zBG ts i)
def Za (xs:List OpR) (ts:List zK) (k:Nat):List Int:=(List.range k).map (zV xs ts)
theorem zFC (xs:List OpR) (ts:List zK) (k:Nat):Za xs ts (k+1)=Za xs ts k++[zV xs ts k]:=by
 simp [Za,List.range_succ]
theorem Z4 (xs:List OpR) (ts:List zK) (k:Nat):(Za xs ts k).length=k:=by simp [Za]
def zBB (xs:List OpR) (ts:List zK) (k:Nat):Prop:=∀ i,i<k->0<=zV xs ts i
def zLu (xs:List OpR) (ok:Prop) (ts:List zK) (us:List Int) (c:Int):Prop:=
 (¬ ok/\us=[]/\c=0) \/
 (ok/\((∃ i,i<ts.length/\zBB xs ts i/\zV xs ts i<0/\us=[]/\c=(i:Int)) \/
  (zBB xs ts ts.length/\(((0<ts.length/\(atT ts (ts.length-1)).k=7)/\us=Za xs ts ts.length/\c = -1)\/(¬ (0<ts.length/\(atT ts (ts.length-1)).k=7)/\us=[]/\c=(ts.length:Int))))))
def zDW (xs:List OpR) (t:zK) (st:Bool):Bool:=decide (t.k=1\/t.k=2\/t.k=5)||(decide (t.k=3)&&st&&zn xs t.t 3)
def zAk (xs:List OpR) (ts:List zK):Nat->Bool
 | 0=>false
 | i+1=>zDW xs (atT ts i) (zAk xs ts i)
def opI (ts:List zK):Nat->Int
 | 0=>0
 | i+1=>opI ts i+(if (atT ts i).k=4 then 1 else 0)-(if (atT ts i).k=5 then 1 else 0)
def zAl (xs:List OpR) (ts:List zK) (i:Nat) (bh:Bool):Int:=
 if bh=false then
  if (atT ts i).k=1\/(atT ts i).k=2\/(atT ts i).k=4 then 0 else if (atT ts i).k=3/\zn xs (atT ts i).t 1=true then 1 else -1
 else
  if (atT ts i).k=3/\zn xs (atT ts i).t 2=true then 2 else if (atT ts i).k=3/\zn xs (atT ts i).t 3=true then 3
  else if (atT ts i).k=5/\0<opI ts i then 0 else if (atT ts i).k=7/\opI ts i=0/\i+1=ts.length then 0 else -1
def zCa (xs:List OpR):Prop:=∀ t,¬ (zn xs t 2=true/\zn xs t 3=true)
theorem zKG {xs:List OpR} (h:¬ Pr 3 xs):zCa xs:=by
 rintro t ⟨h2,h3⟩
 obtain ⟨i,hi,e1,e2⟩:=(ZQ _ _ _).1 h2
 obtain ⟨j,hj,f1,f2⟩:=(ZQ _ _ _).1 h3
 have hne:i≠j:=fun e=>by subst e; omega
 apply h
 rcases Nat.lt_trichotomy i j with e | e | e
 ·exact ⟨j,i,e,hj,by simp [cl]; exact ⟨by rw [f1,e1],by omega⟩⟩
 ·exact absurd e hne
 ·exact ⟨i,j,e,hi,by simp [cl]; exact ⟨by rw [f1,e1],by omega⟩⟩
theorem zIL {xs:List OpR} {ts:List zK} (ha:zCa xs):∀ i,i<ts.length->zBB xs ts i->zAk xs ts i=zBL xs ts i/\opI ts i=(zBG ts i:Int)
 | 0,_,_=>⟨rfl,rfl⟩
 | i+1,hi,hf=>by
  obtain ⟨h1,h2⟩:=zIL ha i (by omega) (fun j hj=>hf j (by omega))
  have hr:=hf i (by omega)
  unfold zV zz at hr
  have hl:decide (i+1=ts.length)=false:=by simp; omega
  rw [hl] at hr
  have h23:=ha (atT ts i).t
  simp only [zAk,zBL,opI,zBG,h1,h2,zDW,zCG,zBz]
  cases hb:zBL xs ts i
  ·rw [hb] at hr
   simp only [if_true] at hr
   by_cases k1:(atT ts i).k=1\/(atT ts i).k=2
   ·have k5:¬ (atT ts i).k=5:=by omega
    have k4:¬ (atT ts i).k=4:=by omega
    have k':(atT ts i).k=1\/(atT ts i).k=2\/(atT ts i).k=5:=by omega
    simp [k1,k4,k5,k']
   ·have k5:¬ (atT ts i).k=5:=by
     intro e
     rw [if_neg (by omega),if_neg (by omega)] at hr
     omega
    have k':¬ ((atT ts i).k=1\/(atT ts i).k=2\/(atT ts i).k=5):=by omega
    by_cases k4:(atT ts i).k=4
    ·simp [k1,k4,k5,k']
    ·simp [k1,k4,k5,k']
  ·rw [hb] at hr
   simp only [Bool.true_eq_false,if_false] at hr
   by_cases c2:(atT ts i).k=3/\zn xs (atT ts i).t 2=true
   ·have c3:zn xs (atT ts i).t 3=false:=by
     cases h:zn xs (atT ts i).t 3
     ·rfl
     ·exact absurd ⟨c2.2,h⟩ h23
    have k3:=c2.1
    simp [c2,c3,k3]
   ·rw [if_neg c2] at hr
    by_cases c3:(atT ts i).k=3/\zn xs (atT ts i).t 3=true
    ·have c2':zn xs (atT ts i).t 2=false:=by
      cases h:zn xs (atT ts i).t 2
      ·rfl
      ·exact absurd ⟨c3.1,h⟩ c2
     simp [c3,c2']
    ·rw [if_neg c3] at hr
     by_cases c5:(atT ts i).k=5/\0<zBG ts i
     ·have k5:=c5.1
      have k0:=c5.2
      simp [k5]
      omega
     ·rw [if_neg c5] at hr
      simp at hr
theorem zO2 {xs:List OpR} {ts:List zK} (ha:zCa xs) (i:Nat) (hi:i<ts.length) (hf:zBB xs ts i):zAl xs ts i (zAk xs ts i)=zV xs ts i:=by
 obtain ⟨h1,h2⟩:=zIL ha i hi hf
 rw [h1]
 unfold zAl zV zz
 rw [h2]
 simp
end Go.Proofs.YtfboipappaonhaaGreat
namespace Go.Proofs.YtfboipappaonhaaGreat
set_option maxHeartbeats 16000000
set_option maxRecDepth 100000
open Go.RowKit
def Zh (xs:List zK):Nat->List UInt8
 | 0=>[]
 | k+1=>Zh xs k++(atT xs k).g.data.toList++(atT xs k).t.data.toList
theorem zCH (xs:List zK):∀ k,(Zh xs k).length=ZO xs k
 | 0=>rfl
 | k+1=>by
  have:=zCH xs k
  simp only [Zh,ZO,zM5,List.length_append,this]
  simp
  omega
theorem zDv (xs:List zK):∀ k n,k<=n->ZO xs k<=ZO xs n
 | k,0,h=>by
  have:k=0:=by omega
  subst this; exact Nat.le_refl _
 | k,n+1,h=>by
  by_cases e:k=n+1
  ·subst e; exact Nat.le_refl _
  ·have:=zDv xs k n (by omega)
   simp only [ZO]
   omega
theorem ZL {w:World} {base n size:Nat} {e:TypeId} {v:Value} {xs:List Value} (h:w.ownsRow base e size v n xs) (hv:v ≠ .slice none 0 0):∃ g cap,v = .slice (some ⟨g,0,none⟩) n cap:=by
 obtain ⟨_,h | ⟨g,cap,cur,hv',_⟩⟩:=h
 ·exact absurd h.1 hv
 ·exact ⟨g,cap,hv'⟩
theorem zAm {w:World} {base g cap n:Nat} {e:TypeId} {l:List UInt8} (h:w.ownsRow base e 1 (.slice (some ⟨g,0,none⟩) n cap) n (cellsB l)):∀ j u,(cellsB l)[j]?=some u->w.cell? ((⟨g,0,none⟩:Addr).add j)=some u:=
 h.cells rfl
theorem Zb {w w':World} (h:Below w.heap.size w w') (row:Option Nat):w.grownBy w' row:=⟨h.os,h.tape,h.output,h.size,fun i hi _=>h.block i hi⟩
def zk (zs:List zK):List Value:=zs.flatMap fun o=>[.int .i64 o.k,.string o.g,.string o.t]
theorem zBM (xs ys:List zK):zk (xs++ys)=zk xs++zk ys:=by simp [zk]
theorem zF9:∀ zs:List zK,(zk zs).length=zs.length*3
 | []=>rfl
 | o::r=>by
  have:=zF9 r
  simp only [zk,List.flatMap_cons,List.length_append,List.length_cons,List.length_nil] at *
  omega
theorem zG7:∀ (zs:List zK) (i:Nat),i<zs.length->(zk zs)[i*3]?=some (.int .i64 (atT zs i).k)/\(zk zs)[i*3+1]?=some (.string (atT zs i).g)/\(zk zs)[i*3+2]?=some (.string (atT zs i).t)
 | [],i,h=>absurd h (Nat.not_lt_zero i)
 | o::r,0,_=>⟨rfl,rfl,rfl⟩
 | o::r,i+1,h=>by
  have ih:=zG7 r i (by simpa using h)
  have e:∀ j,(zk (o::r))[(i+1)*3+j]?=(zk r)[i*3+j]?:=fun j=>by
   have:(i+1)*3+j=(i*3+j)+3:=by omega
   rw [this]
   rfl
  exact ⟨(e 0).trans ih.1,(e 1).trans ih.2.1,(e 2).trans ih.2.2⟩
theorem zB0 (zs:List zK):∀ u∈zk zs,u.oneCell'=true:=by
 intro u hu
 simp only [zk,List.mem_flatMap] at hu
 obtain ⟨o,_,ho⟩:=hu
 simp at ho
 rcases ho with rfl | rfl | rfl <;> rfl
theorem zB1 {w:World} {base g cap:Nat} {e:TypeId} {zs:List zK} (h:w.ownsRow base e 3 (.slice (some ⟨g,0,none⟩) zs.length cap) zs.length (zk zs)):base<=g/\zGR w g zs zs.length:=by
 have hlt:=h.lt g rfl
 refine ⟨hlt.1,hlt.2,fun j hj=>⟨?_,h.frozenAt _⟩,fun i hi=>?_⟩
 ·rw [h.cellAt (0+j) (by omega)]
  have:0+j<(zk zs).length:=by rw [zF9]; omega
  rw [List.getElem?_eq_getElem this]
  rfl
 ·obtain ⟨c0,c1,c2⟩:=zG7 zs i hi
  have e:=fun j (hj:j<3)=>h.cellAt (i*3+j) (by omega)
  exact ⟨by simpa using (e 0 (by omega)).trans c0,by simpa using (e 1 (by omega)).trans c1,by simpa using (e 2 (by omega)).trans c2⟩
theorem zEH (w:World) (o:zK):∀ j u,(zk [o])[j]?=some u->(w.alloc (.cells #[.int .i64 o.k,.string o.g,.string o.t] 97)).cell? ((⟨w.heap.size,0,none⟩:Addr).add j)=some u:=by
 intro j u hj
 rw [Addr.add_mid]
 have:=World.rangeAt_of_block (w:=w.alloc (.cells #[.int .i64 o.k,.string o.g,.string o.t] 97)) (b:=w.heap.size) (heap_alloc_new w _) 0 3
 exact this j u (by simpa [zk] using hj)
def zQl (xs:List OpR) (ok:Prop) (s:ByteArray) (us:List zK) (v:Bool):Prop:=
 ((ok/\s.size<=20000)/\v=true/\ZR xs s 0 us)\/(¬ (ok/\s.size<=20000)/\v=false/\us=[])
def zG8 (xs:List OpR) (s:ByteArray) (i:Nat) (acc:List zK):Prop:=acc.length<=i/\∀ out,ZR xs s i out->ZR xs s 0 (acc++out)
theorem zG8.start (xs:List OpR) (s:ByteArray):zG8 xs s 0 []:=⟨Nat.le_refl _,fun _ h=>h⟩
theorem zG8.step {xs:List OpR} {s:ByteArray} {i j n k:Nat} {acc:List zK} (h:zG8 xs s i acc) (h1:i<=j) (h2:j<s.size) (h3:zDI s i j) (h4:cls (bt s j)≠1) (h5:zBS xs s j n k) :
  zG8 xs s (j+n) (acc++[⟨(k:Int),s.extract i j,s.extract j (j+n)⟩]):=by
 refine ⟨?_,fun out ho=>?_⟩
 ·have:=h.1
  have:=h5.1
  simp
  omega
 ·rw [List.append_assoc]
  exact h.2 _ (ZR.tok h1 h2 h3 h4 h5 ho)
theorem zG8.done {xs:List OpR} {s:ByteArray} {i:Nat} {acc:List zK} (h:zG8 xs s i acc) (h1:i<=s.size) (h3:zDI s i s.size):ZR xs s 0 (acc++[⟨7,s.extract i s.size,⟨#[]⟩⟩]):=
 h.2 _ (ZR.fin h1 h3)
end Go.Proofs.YtfboipappaonhaaGreat
