import Derived.Test.YtgbkgkdpdfdokaaGreatDoorQ05
namespace Go.Proofs.YtgbkgkdpdfdokaaGreatDoor
set_option linter.all false
set_option maxHeartbeats 16000000
set_option maxRecDepth 100000
open Go.RowKit
open Go.Deep (BT)
variable {e:TypeId} {i n:Nat} {ns xs:List OpR} {s t:ByteArray} {ts:List zX} {w:World}
def opS (op:Int) (s:SyR):Int:=op+(if s.1=6 then 1 else 0)-(if s.1=7 then 1 else 0)
def opL (op:Int) (ss:List SyR):Int:=ss.foldl opS op
def zBM (ns:List OpR) (h:Option (Nat×SyR)) (x:Nat×SyR):Option (Nat×SyR):=match h with
 | none=>some x
 | some b=>if sLv ns x.2<sLv ns b.2\/(sLv ns x.2=sLv ns b.2/\sSo ns x.2≠2) then some x else some b
def rtF (ns:List OpR):List SyR->Nat->Int->Option (Nat×SyR)->Option (Nat×SyR)
 | [],_,_,best=>best
 | s::r,i,op,best=>rtF ns r (i+1) (opS op s) (if opS op s≠0\/¬ (3<=s.1/\s.1<=5) then best else zBM ns best (i,s))
theorem zB6 (op:Int) (a b:List SyR):opL op (a++b)=opL (opL op a) b:=by simp [opL]
theorem Zm (op:Int) (s:SyR) (r:List SyR):opL op (s::r)=opL (opS op s) r:=rfl
theorem ZF (ns:List OpR):∀ (a b:List SyR) (i:Nat) (op:Int) (h:Option (Nat×SyR)),rtF ns (a++b) i op h=rtF ns b (i+a.length) (opL op a) (rtF ns a i op h)
 | [],b,i,op,h=>rfl
 | s::r,b,i,op,h=>by
  simp only [List.cons_append,rtF,yv,Zm]
  rw [ZF ns r b]
  congr 1
  omega
theorem zk {op:Int} {s:SyR} (h:s.1≠6/\s.1≠7):opS op s=op:=by
 unfold opS
 rw [yN h.1,yN h.2]
 omega
theorem zBf {op:Int}:opS op (6,opn)=op+1:=by simp [opS]
theorem zDn {op:Int}:opS op (7,zCR)=op-1:=by simp [opS]
theorem zB7 {b:Nat} (h:b=1\/b=2):ySy (.node b 0 t .nil .nil)=[(b,t)]:=by
 simp only [ySy]
 rw [yN (by omega),yN (by omega),yN (by omega),yN (by omega)]
theorem zCv {l r:ET}:ySy (.node 6 0 t l r)=(6,opn)::(ySy l++[(7,zCR)]):=by simp [ySy]
theorem zCw {l r:ET}:ySy (.node 3 0 t l r)=(3,t)::ySy l:=by simp [ySy]
theorem zB8 {l r:ET}:ySy (.node 5 0 t l r)=ySy l++[(5,t)]:=by simp [ySy]
theorem zCx {l r:ET}:ySy (.node 4 0 t l r)=ySy l++((4,t)::ySy r):=by simp [ySy]
theorem zBg:∀ (T:ET),Zt ns T->∀ op,opL op (ySy T)=op:=by
 intro T
 induction T with
 | nil=>intro h; exact h.elim
 | node b o t l r ihl ihr=>
  rintro ⟨rfl,h⟩ op
  rcases h with ⟨H,rfl,rfl⟩ | ⟨rfl,rfl,hl,rfl⟩ | ⟨k,hk,hl,rfl,hh⟩ | ⟨rfl,hk,hl,hr,h1,h2⟩
  ·rw [zB7 H,Zm,zk ⟨by simp; omega,by simp; omega⟩]
   rfl
  ·rw [zCv,Zm,zBf,zB6,ihl hl,Zm,zDn]
   show op+1-1=op
   omega
  ·rcases k with rfl | rfl
   ·rw [zCw,Zm,zk ⟨by simp,by simp⟩,ihl hl]
   ·rw [zB8,zB6,ihl hl,Zm,zk ⟨by simp,by simp⟩]
    rfl
  ·rw [zCx,zB6,ihl hl,Zm,zk ⟨by simp,by simp⟩,ihr hr]
theorem zEE:∀ (T:ET),Zt ns T->∀ (i:Nat) (op:Int) H,0<op->rtF ns (ySy T) i op H=H:=by
 intro T
 induction T with
 | nil=>intro h; exact h.elim
 | node b o t l r ihl ihr=>
  rintro ⟨rfl,h⟩ i op H hop
  rcases h with ⟨k,rfl,rfl⟩ | ⟨rfl,rfl,hl,rfl⟩ | ⟨K,hk,hl,rfl,hh⟩ | ⟨rfl,hk,hl,hr,h1,h2⟩
  ·rw [zB7 k]
   simp only [rtF]
   rw [yO]
   exact yR (by simp; omega)
  ·rw [zCv]
   simp only [rtF]
   rw [zBf,yO (yQ (by omega)),ZF,ihl hl _ _ _ (by omega)]
   simp [rtF]
  ·rcases K with rfl | rfl
   ·rw [zCw]
    simp only [rtF]
    rw [zk ⟨by simp,by simp⟩,yO (yQ (by omega)),ihl hl _ _ _ hop]
   ·rw [zB8,ZF,ihl hl _ _ _ hop,zBg l hl]
    simp only [rtF]
    rw [zk ⟨by simp,by simp⟩,yO (yQ (by omega))]
  ·rw [zCx,ZF,ihl hl _ _ _ hop,zBg l hl]
   simp only [rtF]
   rw [zk ⟨by simp,by simp⟩,yO (yQ (by omega)),ihr hr _ _ _ hop]
theorem zJu (hv:zR ns 0) (b0:Nat×SyR) (hb:b0.2.1=3\/b0.2.1=4\/b0.2.1=5) (K:knB ns b0.2=true):∀ (T:ET),Zt ns T->∀ (i:Nat),(sLv ns b0.2<lvT ns T\/(sLv ns b0.2<=lvT ns T/\sSo ns b0.2=2))->rtF ns (ySy T) i 0 (some b0)=some b0:=by
 intro T
 induction T with
 | nil=>intro h; exact h.elim
 | node b o t l r ihl ihr=>
  rintro ⟨rfl,h⟩ i hlv
  simp only [lvT] at hlv
  have pk:∀ (j:Nat) (s:SyR),(s.1=3\/s.1=4\/s.1=5)->knB ns s=true->(sLv ns b0.2<sLv ns s\/(sLv ns b0.2<=sLv ns s/\sSo ns b0.2=2))->zBM ns (some b0) (j,s)=some b0:=fun j s hs hk hc=>by
   simp only [zBM]
   rw [yN]
   rintro (h | ⟨h1,h2⟩)
   ·omega
   ·have:=zFH hv hs hb hk K h1
    omega
  rcases h with ⟨H,rfl,rfl⟩ | ⟨rfl,rfl,hl,rfl⟩ | ⟨k,hk,hl,rfl,hh⟩ | ⟨rfl,hk,hl,hr,h1,h2⟩
  ·rw [zB7 H]
   simp only [rtF]
   rw [yO (yR (by simp; omega))]
  ·rw [zCv]
   simp only [rtF]
   rw [zBf,yO (yQ (by omega)),ZF,zEE l hl _ _ _ (by omega)]
   simp [rtF]
  ·rcases k with rfl | rfl
   ·have f:=(opF hv (yQ rfl) hk).pre rfl
    rw [zCw]
    simp only [rtF]
    rw [zk ⟨by simp,by simp⟩,yN (by simp),pk _ _ (yQ rfl) hk hlv]
    exact ihl hl _ (by omega)
   ·have f:=(opF hv (yR (yR rfl)) hk).post rfl
    rw [zB8,ZF,ihl hl _ (by omega),zBg l hl]
    simp only [rtF]
    rw [zk ⟨by simp,by simp⟩,yN (by simp),pk _ _ (yR (yR rfl)) hk hlv]
  ·have f:=(opF hv (yR (yQ rfl)) hk).mid rfl
   rw [zCx,ZF,ihl hl _ (by omega),zBg l hl]
   simp only [rtF]
   rw [zk ⟨by simp,by simp⟩,yN (by simp),pk _ _ (yR (yQ rfl)) hk hlv]
   exact ihr hr _ (by omega)
def zDo (ns:List OpR) (m:Int) (h:Option (Nat×SyR)):Prop:=∀ b,h=some b->m<=sLv ns b.2
theorem zL9 (hv:zR ns 0) (m:Int):∀ (T:ET),Zt ns T->∀ (i:Nat) H,m<=lvT ns T->zDo ns m H->zDo ns m (rtF ns (ySy T) i 0 H):=by
 intro T
 induction T with
 | nil=>intro h; exact h.elim
 | node b o t l r ihl ihr=>
  rintro ⟨rfl,h⟩ i H k hb
  simp only [lvT] at k
  have pk:∀ (j:Nat) (s:SyR) H,m<=sLv ns s->zDo ns m H->zDo ns m (zBM ns H (j,s)):=fun j s H hs hb x hx=>by
   cases H with
   | none=>simp only [zBM,Option.some.injEq] at hx; subst hx; exact hs
   | some y=>
    simp only [zBM] at hx
    split at hx
    ·simp only [Option.some.injEq] at hx; subst hx; exact hs
    ·exact hb x hx
  rcases h with ⟨K,rfl,rfl⟩ | ⟨rfl,rfl,hl,rfl⟩ | ⟨q,hk,hl,rfl,hh⟩ | ⟨rfl,hk,hl,hr,h1,h2⟩
  ·rw [zB7 K]
   simp only [rtF]
   rw [yO (yR (by simp; omega))]
   exact hb
  ·rw [zCv]
   simp only [rtF]
   rw [zBf,yO (yQ (by omega)),ZF,zEE l hl _ _ _ (by omega)]
   simpa [rtF] using hb
  ·rcases q with rfl | rfl
   ·have f:=(opF hv (yQ rfl) hk).pre rfl
    rw [zCw]
    simp only [rtF]
    rw [zk ⟨by simp,by simp⟩,yN (by simp)]
    exact ihl hl _ _ (by omega) (pk _ _ _ k hb)
   ·have f:=(opF hv (yR (yR rfl)) hk).post rfl
    rw [zB8,ZF,zBg l hl]
    simp only [rtF]
    rw [zk ⟨by simp,by simp⟩,yN (by simp)]
    exact pk _ _ _ k (ihl hl _ _ (by omega) hb)
  ·have f:=(opF hv (yR (yQ rfl)) hk).mid rfl
   rw [zCx,ZF,zBg l hl]
   simp only [rtF]
   rw [zk ⟨by simp,by simp⟩,yN (by simp)]
   exact ihr hr _ _ (by omega) (pk _ _ _ k (ihl hl _ _ (by omega) hb))
def zBP (ns:List OpR) (b:Nat) (t:JZ) (l r:ET):Bool:=decide (sH ns (b,t) false<=lvT ns l)&&(decide (b≠4)||decide (sH ns (b,t) true<=lvT ns r))
def bld (ns:List OpR):Nat->List SyR->Option ET
 | 0,_=>none
 | n+1,ss=>match rtF ns ss 0 0 none with
  | none=>(match ss with
   | []=>none
   | s::r=>if s.1=6 then (bld ns n r.dropLast).map (fun T=>.node 6 0 ByteArray.empty T .nil) else some (.node s.1 0 s.2 .nil .nil))
  | some x=>
   if (x.2.1=3/\x.1≠0)\/(x.2.1=5/\x.1+1≠ss.length) then none
   else if x.2.1=3 then (match bld ns n (ss.drop 1) with
    | none=>none
    | some T=>if zBP ns 3 x.2.2 T .nil then some (.node 3 0 x.2.2 T .nil) else none)
   else if x.2.1=5 then (match bld ns n (ss.take x.1) with
    | none=>none
    | some T=>if zBP ns 5 x.2.2 T .nil then some (.node 5 0 x.2.2 T .nil) else none)
   else (match bld ns n (ss.take x.1) with
    | none=>none
    | some T=>(match bld ns n (ss.drop (x.1+1)) with
     | none=>none
     | some T2=>if zBP ns 4 x.2.2 T T2 then some (.node 4 0 x.2.2 T T2) else none))
theorem zJv {m:Int}:zDo ns m none:=fun b e=>by cases e
theorem zIA {m:Int} {H:Option (Nat×SyR)} {x:Nat×SyR} (h:zDo ns m H) (hc:sLv ns x.2<m\/(sLv ns x.2<=m/\sSo ns x.2≠2)):zBM ns H x=some x:=by
 cases H with
 | none=>rfl
 | some b=>
  have:=h b rfl
  simp only [zBM]
  rw [yO]
  by_cases e:sLv ns x.2<sLv ns b.2
  ·exact yQ e
  ·refine yR ⟨by omega,?_⟩
   rcases hc with hc | hc
   ·omega
   ·exact hc.2
theorem zMs (hv:zR ns 0):∀ (T:ET),Zt ns T->∀ n,tsz T<=n->bld ns n (ySy T)=some T:=by
 intro T
 induction T with
 | nil=>intro h; exact h.elim
 | node b o t l r ihl ihr=>
  rintro ⟨rfl,h⟩ n hn
  simp only [tsz] at hn
  obtain ⟨n,rfl⟩:∃ m,n=m+1:=⟨n-1,by omega⟩
  rcases h with ⟨H,rfl,rfl⟩ | ⟨rfl,rfl,hl,rfl⟩ | ⟨k,hk,hl,rfl,hh⟩ | ⟨rfl,hk,hl,hr,h1,h2⟩
  ·have e:rtF ns [(b,t)] 0 0 none=none:=by
    simp only [rtF]
    rw [yO (yR (by simp; omega))]
   rw [zB7 H]
   simp only [bld,e]
   rw [yN (by omega)]
  ·have e:rtF ns ((6,opn)::(ySy l++[(7,zCR)])) 0 0 none=none:=by
    simp only [rtF]
    rw [zBf,yO (yQ (by omega)),ZF,zEE l hl _ _ _ (by omega)]
    simp [rtF]
   rw [zCv]
   simp only [bld,e]
   rw [yO trivial,List.dropLast_concat,ihl hl n (by omega)]
   rfl
  ·rcases k with rfl | rfl
   ·have f:=(opF hv (yQ rfl) hk).pre rfl
    have e:rtF ns ((3,t)::ySy l) 0 0 none=some (0,(3,t)):=by
     simp only [rtF]
     rw [zk ⟨by simp,by simp⟩,yN (by simp)]
     exact zJu hv (0,(3,t)) (yQ rfl) hk l hl _ (yR ⟨by show sLv ns (3,t)<=_; omega,f.2⟩)
    rw [zCw]
    simp only [bld,e]
    rw [yN (by simp),yO trivial,List.drop_succ_cons,List.drop_zero,ihl hl n (by omega)]
    simp [zBP,hh]
   ·have f:=(opF hv (yR (yR rfl)) hk).post rfl
    have e:rtF ns (ySy l++[(5,t)]) 0 0 none=some ((ySy l).length,(5,t)):=by
     rw [ZF,zBg l hl]
     simp only [rtF]
     rw [zk ⟨by simp,by simp⟩,yN (by simp),yV]
     exact zIA (zL9 hv (sH ns (5,t) false) l hl 0 none hh zJv) (yR ⟨by show sLv ns (5,t)<=_; omega,by show sSo ns (5,t)≠2; omega⟩)
    rw [zB8]
    simp only [bld,e]
    rw [yN (by simp),yN (by decide),yO trivial,List.take_left,ihl hl n (by omega)]
    simp [zBP,hh]
  ·have f:=(opF hv (yR (yQ rfl)) hk).mid rfl
   have e:rtF ns (ySy l++((4,t)::ySy r)) 0 0 none=some ((ySy l).length,(4,t)):=by
    rw [ZF,zBg l hl]
    simp only [rtF]
    rw [zk ⟨by simp,by simp⟩,yN (by simp),yV,zIA (zL9 hv (sH ns (4,t) false) l hl 0 none h1 zJv) (by show sLv ns (4,t)<_\/(sLv ns (4,t)<=_/\sSo ns (4,t)≠2); omega)]
    exact zJu hv ((ySy l).length,(4,t)) (yR (yQ rfl)) hk r hr _ (by show sLv ns (4,t)<_\/(sLv ns (4,t)<=_/\sSo ns (4,t)=2); omega)
   rw [zCx]
   simp only [bld,e]
   rw [yN (by simp),yN (by decide),yN (by decide),List.take_left,ihl hl n (by omega)]
   have ed:(ySy l++(4,t)::ySy r).drop ((ySy l).length+1)=ySy r:=by
    have:ySy l++(4,t)::ySy r=(ySy l++[(4,t)])++ySy r:=by simp
    rw [this]
    exact List.drop_left' (by simp)
   simp only [ed,ihr hr n (by omega)]
   simp [zBP,h1,h2]
theorem zGl {ns:List OpR}:∀ (ss:List SyR) (i:Nat) (op:Int) best x,rtF ns ss i op best=some x->best=some x\/∃ L R,ss=L++x.2::R/\x.1=i+L.length/\(3<=x.2.1/\x.2.1<=5)/\opL op L=0
 | [],i,op,best,x,h=>yQ h
 | s::r,i,op,best,x,h=>by
  simp only [rtF] at h
  have lift:(∃ L R,r=L++x.2::R/\x.1=i+1+L.length/\(3<=x.2.1/\x.2.1<=5)/\opL (opS op s) L=0)->∃ L R,s::r=L++x.2::R/\x.1=i+L.length/\(3<=x.2.1/\x.2.1<=5)/\opL op L=0:=by
   rintro ⟨L,R,rfl,h1,h2,h3⟩
   exact ⟨s::L,R,rfl,by simp; omega,h2,h3⟩
  rcases zGl r _ _ _ x h with hb | h'
  ·split at hb
   ·exact yQ hb
   ·rename_i hc
    have k:3<=s.1/\s.1<=5:=Decidable.byContradiction fun h=>hc (yR h)
    have H:opS op s=0:=Decidable.byContradiction fun h=>hc (yQ h)
    have here:x=(i,s)->∃ L R,s::r=L++x.2::R/\x.1=i+L.length/\(3<=x.2.1/\x.2.1<=5)/\opL op L=0:=by
     rintro rfl
     exact ⟨[],r,rfl,by simp,k,by rw [zk ⟨by omega,by omega⟩] at H; exact H⟩
    cases best with
    | none=>simp only [zBM,Option.some.injEq] at hb; exact yR (here hb.symm)
    | some y=>
     simp only [zBM] at hb
     split at hb
     ·simp only [Option.some.injEq] at hb; exact yR (here hb.symm)
     ·exact yQ hb
  ·exact yR (lift h')
theorem zFI {ns:List OpR}:∀ (ss:List SyR) (i:Nat) (op:Int) b,rtF ns ss i op (some b)≠none
 | [],i,op,b,h=>by cases h
 | s::r,i,op,b,h=>by
  simp only [rtF] at h
  split at h
  ·exact zFI r _ _ _ h
  ·simp only [zBM] at h
   split at h
   ·exact zFI r _ _ _ h
   ·exact zFI r _ _ _ h
theorem zLC {L R:List SyR} {s:SyR} (hs:3<=s.1/\s.1<=5) (ho:opL 0 L=0):rtF ns (L++s::R) 0 0 none≠none:=by
 rw [ZF,ho]
 simp only [rtF]
 rw [zk ⟨by omega,by omega⟩,yN (fun h=>by rcases h with h | h; exact h rfl; exact h hs)]
 cases rtF ns L 0 0 none with
 | none=>exact zFI _ _ _ _
 | some b=>
  simp only [zBM]
  split
  ·exact zFI _ _ _ _
  ·exact zFI _ _ _ _
theorem zIy {ns:List OpR}:∀ (ss:List SyR) (st st':Bool×Nat),zAZ ns st ss=some st'->opL (st.2:Int) ss=(st'.2:Int)
 | [],st,st',h=>by simp only [zAZ,Option.some.injEq] at h; subst h; rfl
 | s::r,(false,d),st',h=>by
  simp only [zAZ] at h
  cases e:auS ns (false,d) s with
  | none=>rw [e] at h; cases h
  | some s1=>
   rw [e] at h
   have:=zIy r s1 st' h
   rw [Zm]
   rcases zDM e with ⟨a,rfl⟩ | ⟨a,_,rfl⟩ | ⟨rfl,rfl⟩
   ·rw [zk ⟨by omega,by omega⟩]; exact this
   ·rw [zk ⟨by omega,by omega⟩]; exact this
   ·rw [zBf]; simpa using this
 | s::r,(true,d),st',h=>by
  simp only [zAZ] at h
  cases e:auS ns (true,d) s with
  | none=>rw [e] at h; cases h
  | some s1=>
   rw [e] at h
   have:=zIy r s1 st' h
   rw [Zm]
   rcases zEl e with ⟨a,_,rfl⟩ | ⟨a,_,rfl⟩ | ⟨rfl,hd,rfl⟩
   ·rw [zk ⟨by omega,by omega⟩]; exact this
   ·rw [zk ⟨by omega,by omega⟩]; exact this
   ·rw [zDn]
    have e2:((d-1:Nat):Int)=(d:Int)-1:=by omega
    simpa [e2] using this
theorem zAa {ns:List OpR}:∀ (r:List SyR) (bh:Bool) (d j:Nat) (st:Bool×Nat),zAZ ns (bh,d+1+j) r=some st->st.2<=d->∃ r1 r2,r=r1++(7,zCR)::r2/\zAZ ns (bh,j) r1=some (true,0)/\zAZ ns (true,d) r2=some st
 | [],bh,d,j,st,h,hd=>by
  simp only [zAZ,Option.some.injEq] at h
  subst h
  simp only at hd
  omega
 | s::r,false,d,j,st,h,hd=>by
  simp only [zAZ] at h
  cases e:auS ns (false,d+1+j) s with
  | none=>rw [e] at h; cases h
  | some s1=>
   rw [e] at h
   simp only at h
   rcases zDM e with ⟨a,rfl⟩ | ⟨a,hk,rfl⟩ | ⟨rfl,rfl⟩
   ·obtain ⟨r1,r2,rfl,h1,h2⟩:=zAa r true d j st h hd
    exact ⟨s::r1,r2,rfl,by simp only [zAZ,zL6 a]; exact h1,h2⟩
   ·obtain ⟨r1,r2,rfl,h1,h2⟩:=zAa r false d j st h hd
    exact ⟨s::r1,r2,rfl,by simp only [zAZ,zNn a hk]; exact h1,h2⟩
   ·obtain ⟨r1,r2,rfl,h1,h2⟩:=zAa r false d (j+1) st h hd
    exact ⟨(6,opn)::r1,r2,rfl,by simp only [zAZ,zL7]; exact h1,h2⟩
 | s::r,true,d,j,st,h,hd=>by
  simp only [zAZ] at h
  cases e:auS ns (true,d+1+j) s with
  | none=>rw [e] at h; cases h
  | some s1=>
   rw [e] at h
   simp only at h
   rcases zEl e with ⟨a,hk,rfl⟩ | ⟨a,hk,rfl⟩ | ⟨rfl,_,rfl⟩
   ·obtain ⟨r1,r2,rfl,h1,h2⟩:=zAa r false d j st h hd
    exact ⟨s::r1,r2,rfl,by simp only [zAZ,zNo a hk]; exact h1,h2⟩
   ·obtain ⟨r1,r2,rfl,h1,h2⟩:=zAa r true d j st h hd
    exact ⟨s::r1,r2,rfl,by simp only [zAZ,zL8 a hk]; exact h1,h2⟩
   ·cases j with
    | zero=>exact ⟨[],r,rfl,rfl,by simpa using h⟩
    | succ j=>
     have e2:d+1+(j+1)-1=d+1+j:=by omega
     rw [e2] at h
     obtain ⟨r1,r2,rfl,h1,h2⟩:=zAa r true d j st h hd
     exact ⟨(7,zCR)::r1,r2,rfl,by simp only [zAZ,zJt]; exact h1,h2⟩
def Seg (ns:List OpR) (ss:List SyR):Prop:=zAZ ns (false,0) ss=some (true,0)
theorem Seg.ne {ss:List SyR} (h:Seg ns ss):ss≠[]:=fun e=>by
 subst e
 unfold Seg at h
 simp [zAZ] at h
theorem zJw {ss:List SyR} (h:Seg ns ss) (hr:rtF ns ss 0 0 none=none):(∃ s,(s.1=1\/s.1=2)/\ss=[s])\/∃ q,ss=(6,opn)::(q++[(7,zCR)])/\Seg ns q:=by
 have H:∀ (L R:List SyR),ss=L++R->opL 0 L=0->zAZ ns (true,0) R=some (true,0)->R=[]:=fun L R e ho hR=>by
  cases R with
  | nil=>rfl
  | cons z R=>
   exfalso
   simp only [zAZ] at hR
   cases ea:auS ns (true,0) z with
   | none=>rw [ea] at hR; cases hR
   | some st=>
    rcases zEl ea with ⟨a,_,_⟩ | ⟨a,_,_⟩ | ⟨_,hd,_⟩
    ·exact zLC (ns:=ns) (L:=L) (R:=R) (s:=z) (by omega) ho (e ▸ hr)
    ·exact zLC (ns:=ns) (L:=L) (R:=R) (s:=z) (by omega) ho (e ▸ hr)
    ·omega
 cases ss with
 | nil=>exact yP rfl h.ne
 | cons s r=>
  unfold Seg at h
  simp only [zAZ] at h
  cases e:auS ns (false,0) s with
  | none=>rw [e] at h; cases h
  | some st=>
   rw [e] at h
   simp only at h
   rcases zDM e with ⟨a,rfl⟩ | ⟨a,hk,rfl⟩ | ⟨rfl,rfl⟩
   ·have:=H [s] r rfl (by rw [Zm,zk ⟨by omega,by omega⟩]; rfl) h
    subst this
    exact yQ ⟨s,a,rfl⟩
   ·exact yP hr (zLC (ns:=ns) (L:=[]) (R:=r) (s:=s) (by omega) rfl)
   ·obtain ⟨r1,r2,rfl,h1,h2⟩:=zAa r false 0 0 (true,0) h (yh _)
    have ho:=zIy r1 _ _ h1
    have:=H ((6,opn)::(r1++[(7,zCR)])) r2 (by simp) (by
     rw [Zm,zBf,zB6]
     have sh:∀ (l:List SyR) (a b:Int),opL (a+b) l=opL a l+b:=fun l=>by
      induction l with
      | nil=>intro a b; rfl
      | cons z l ih=>
       intro a b
       rw [Zm,Zm]
       have:opS (a+b) z=opS a z+b:=by unfold opS; omega
       rw [this,ih]
     rw [sh r1 0 1]
     simp only at ho
     have k:opL 0 r1=0:=by simpa using ho
     rw [k,Zm,zDn]
     rfl) h2
    subst this
    exact yR ⟨r1,by simp,h1⟩
theorem zJx {ss:List SyR} (h:Seg ns ss) {x:Nat×SyR} (hr:rtF ns ss 0 0 none=some x):∃ L R,ss=L++x.2::R/\x.1=L.length/\knB ns x.2=true /\
  ((x.2.1=3/\(L=[]->Seg ns R))\/(x.2.1=5/\Seg ns L)\/(x.2.1=4/\Seg ns L/\Seg ns R)):=by
 rcases zGl ss 0 0 none x hr with hb | ⟨L,R,rfl,h1,h2,h3⟩
 ·cases hb
 ·refine ⟨L,R,rfl,by omega,?_⟩
  unfold Seg at h
  rw [zDL] at h
  cases e:zAZ ns (false,0) L with
  | none=>rw [e] at h; cases h
  | some st=>
   rw [e] at h
   have ho:=zIy L _ _ e
   obtain ⟨bh,d⟩:=st
   simp only at ho h
   have hd:d=0:=by
    have H:opL ((0:Nat):Int) L=0:=h3
    omega
   subst hd
   simp only [zAZ] at h
   cases ea:auS ns (bh,0) x.2 with
   | none=>rw [ea] at h; cases h
   | some st'=>
    rw [ea] at h
    simp only at h
    cases bh with
    | false=>
     rcases zDM ea with ⟨a,rfl⟩ | ⟨a,hk,rfl⟩ | ⟨a,rfl⟩
     ·omega
     ·exact ⟨hk,yQ ⟨a,fun _=>h⟩⟩
     ·rw [a] at h2; exact yP h2.2 (by decide)
    | true=>
     rcases zEl ea with ⟨a,hk,rfl⟩ | ⟨a,hk,rfl⟩ | ⟨a,_,rfl⟩
     ·exact ⟨hk,yR (yR ⟨a,e,h⟩)⟩
     ·exact ⟨hk,yR (yQ ⟨a,e⟩)⟩
     ·rw [a] at h2; exact yP h2.2 (by decide)
theorem Z4 {ns:List OpR} (hv:zR ns 0):∀ (n:Nat) (ss:List SyR) (T:ET),Seg ns ss->bld ns n ss=some T->Zt ns T/\ySy T=ss
 | 0,_,_,_,h=>by simp [bld] at h
 | n+1,ss,T,hs,h=>by
  simp only [bld] at h
  split at h
  ·rename_i hr
   rcases zJw hs hr with ⟨s,H,rfl⟩ | ⟨q,rfl,hq⟩
   ·simp only at h
    rw [yN (by omega)] at h
    injection h with h
    subst h
    refine ⟨⟨rfl,yQ ⟨H,rfl,rfl⟩⟩,?_⟩
    rw [zB7 H]
   ·simp only at h
    rw [yO trivial,List.dropLast_concat] at h
    obtain ⟨T1,h1,rfl⟩:=Option.map_eq_some_iff.1 h
    obtain ⟨g,e⟩:=Z4 hv n q T1 hq h1
    exact ⟨⟨rfl,yR (yQ ⟨rfl,rfl,g,rfl⟩)⟩,by rw [zCv,e]⟩
  ·rename_i x hr
   obtain ⟨L,R,rfl,hx,hk,hc⟩:=zJx hs hr
   split at h
   ·cases h
   ·rename_i hn
    have ed:∀ m,m=L.length+1->(L++x.2::R).drop m=R:=fun m hm=>by
     subst hm
     have:L++x.2::R=(L++[x.2])++R:=by simp
     rw [this]
     exact List.drop_left' (by simp)
    rcases hc with ⟨a,hR⟩ | ⟨a,hL⟩ | ⟨a,hL,hR⟩
    ·have K:L=[]:=by
      have:x.1=0:=Decidable.byContradiction fun h=>hn (yQ ⟨a,h⟩)
      exact List.eq_nil_of_length_eq_zero (by omega)
     subst K
     rw [yO a] at h
     simp only [List.nil_append,List.drop_succ_cons,List.drop_zero] at h
     split at h
     ·cases h
     ·rename_i T1 h1
      split at h
      ·rename_i hf
       injection h with h
       subst h
       obtain ⟨g,e⟩:=Z4 hv n R T1 (hR rfl) h1
       have es:((3,x.2.2):SyR)=x.2:=Prod.ext a.symm rfl
       simp only [zBP,Bool.and_eq_true,decide_eq_true_eq] at hf
       refine ⟨⟨rfl,yR (yR (yQ ⟨yQ rfl,by rw [es]; exact hk,g,rfl,hf.1⟩))⟩,?_⟩
       rw [zCw,e,es]
       rfl
      ·cases h
    ·have k:R=[]:=by
      have:x.1+1=(L++x.2::R).length:=Decidable.byContradiction fun h=>hn (yR ⟨a,h⟩)
      simp only [ym,yv] at this
      exact List.eq_nil_of_length_eq_zero (by omega)
     subst k
     rw [yN (by omega),yO a,hx,List.take_left] at h
     split at h
     ·cases h
     ·rename_i T1 h1
      split at h
      ·rename_i hf
       injection h with h
       subst h
       obtain ⟨g,e⟩:=Z4 hv n L T1 hL h1
       have es:((5,x.2.2):SyR)=x.2:=Prod.ext a.symm rfl
       simp only [zBP,Bool.and_eq_true,decide_eq_true_eq] at hf
       refine ⟨⟨rfl,yR (yR (yQ ⟨yR rfl,by rw [es]; exact hk,g,rfl,hf.1⟩))⟩,?_⟩
       rw [zB8,e,es]
      ·cases h
    ·rw [yN (by omega),yN (by omega),hx,List.take_left,ed _ rfl] at h
     split at h
     ·cases h
     ·rename_i T1 h1
      split at h
      ·cases h
      ·rename_i T2 h2
       split at h
       ·rename_i hf
        injection h with h
        subst h
        obtain ⟨g,e⟩:=Z4 hv n L T1 hL h1
        obtain ⟨g2,e2⟩:=Z4 hv n R T2 hR h2
        have es:((4,x.2.2):SyR)=x.2:=Prod.ext a.symm rfl
        simp only [zBP,Bool.and_eq_true,Bool.or_eq_true,decide_eq_true_eq,ne_eq,not_true,false_or] at hf
        refine ⟨⟨rfl,yR (yR (yR ⟨rfl,by rw [es]; exact hk,g,g2,hf.1,hf.2⟩))⟩,?_⟩
        rw [zCx,e,e2,es]
       ·cases h
theorem zQ8:∀ (T:ET),Zt ns T->tsz T<=(ySy T).length:=by
 intro T
 induction T with
 | nil=>intro h; exact h.elim
 | node b o t l r ihl ihr=>
  rintro ⟨rfl,h⟩
  rcases h with ⟨H,rfl,rfl⟩ | ⟨rfl,rfl,hl,rfl⟩ | ⟨k,hk,hl,rfl,hh⟩ | ⟨rfl,hk,hl,hr,h1,h2⟩
  ·rw [zB7 H]; simp [tsz]
  ·have:=ihl hl
   rw [zCv]; simp [tsz]; omega
  ·have:=ihl hl
   rcases k with rfl | rfl
   ·rw [zCw]; simp [tsz]; omega
   ·rw [zB8]; simp [tsz]; omega
  ·have:=ihl hl
   have:=ihr hr
   rw [zCx]; simp [tsz]; omega
theorem zQ9 (hv:zR ns 0) {ss:List SyR} (hs:Seg ns ss) (hn:ss.length<=n) (T:ET):bld ns n ss=some T↔RD ns 0 none (ss++[eoS])=some (T,[eoS]):=by
 rw [<- zQ6 hv hs T]
 constructor
 ·exact Z4 hv n ss T hs
 ·rintro ⟨g,rfl⟩
  exact zMs hv T g n (yr (zQ8 T g) hn)
def zRr (xs:List OpR) (t:JZ) (k:Int):Prop:=∃ j,j<xs.length/\(atO xs j).s=t/\(atO xs j).k=k
def Zu (xs:List OpR) (t:JZ) (k:Int):Bool:=(List.range xs.length).any fun j=>(atO xs j).s.data==t.data&&(atO xs j).k==k
theorem zAb (xs:List OpR) (t:JZ) (k:Int):Zu xs t k=true↔zRr xs t k:=by
 have e:∀ a b:JZ,(a.data=b.data)↔a=b:=fun a b=>⟨fun h=>by cases a; cases b; simp_all,fun h=>by rw [h]⟩
 simp [Zu,zRr,List.any_eq_true,e]
def zDO (xs:List OpR) (last:Bool) (t:zX) (bh:Bool) (op:Nat):Int:=
 if bh=false then
  if t.k=1\/t.k=2\/t.k=4 then 0 else if t.k=3/\Zu xs t.t 1=true then 1 else -1
 else
  if t.k=3/\Zu xs t.t 2=true then 2 else if t.k=3/\Zu xs t.t 3=true then 3
  else if t.k=5/\0<op then 0 else if t.k=7/\op=0/\last=true then 0 else -1
def zJy (xs:List OpR) (t:zX) (bh:Bool):Bool:=
 if bh=false then (if t.k=1\/t.k=2 then true else false) else (if t.k=3/\Zu xs t.t 2=true then false else true)
def zJz (t:zX) (op:Nat):Nat:=if t.k=4 then op+1 else if t.k=5 then op-1 else op
def zFJ (xs:List OpR) (ts:List zX):Nat->Bool
 | 0=>false
 | i+1=>zJy xs (atT ts i) (zFJ xs ts i)
def zFK (ts:List zX):Nat->Nat
 | 0=>0
 | i+1=>zJz (atT ts i) (zFK ts i)
def zi (xs:List OpR) (ts:List zX) (i:Nat):Int:=zDO xs (decide (i+1=ts.length)) (atT ts i) (zFJ xs ts i) (zFK ts i)
def Z0 (xs:List OpR) (ts:List zX) (k:Nat):List Int:=(List.range k).map (zi xs ts)
theorem zIz (xs:List OpR) (ts:List zX) (k:Nat):Z0 xs ts (k+1)=Z0 xs ts k++[zi xs ts k]:=by
 simp [Z0,List.range_succ]
theorem Z8 (xs:List OpR) (ts:List zX) (k:Nat):(Z0 xs ts k).length=k:=by simp [Z0]
def zC8 (xs:List OpR) (ts:List zX) (k:Nat):Prop:=∀ i,i<k->0<=zi xs ts i
def zPi (xs:List OpR) (ok:Prop) (ts:List zX) (us:List Int) (c:Int):Prop:=
 (¬ ok/\us=[]/\c=0) \/
 (ok/\((∃ i,i<ts.length/\zC8 xs ts i/\zi xs ts i<0/\us=[]/\c=(i:Int)) \/
  (zC8 xs ts ts.length/\(((0<ts.length/\(atT ts (ts.length-1)).k=7)/\us=Z0 xs ts ts.length/\c = -1)\/(¬ (0<ts.length/\(atT ts (ts.length-1)).k=7)/\us=[]/\c=(ts.length:Int))))))
def zCy (xs:List OpR) (t:zX) (st:Bool):Bool:=decide (t.k=1\/t.k=2\/t.k=5)||(decide (t.k=3)&&st&&Zu xs t.t 3)
def zAc (xs:List OpR) (ts:List zX):Nat->Bool
 | 0=>false
 | i+1=>zCy xs (atT ts i) (zAc xs ts i)
def opI (ts:List zX):Nat->Int
 | 0=>0
 | i+1=>opI ts i+(if (atT ts i).k=4 then 1 else 0)-(if (atT ts i).k=5 then 1 else 0)
def zAd (xs:List OpR) (ts:List zX) (i:Nat) (bh:Bool):Int:=
 if bh=false then
  if (atT ts i).k=1\/(atT ts i).k=2\/(atT ts i).k=4 then 0 else if (atT ts i).k=3/\Zu xs (atT ts i).t 1=true then 1 else -1
 else
  if (atT ts i).k=3/\Zu xs (atT ts i).t 2=true then 2 else if (atT ts i).k=3/\Zu xs (atT ts i).t 3=true then 3
  else if (atT ts i).k=5/\0<opI ts i then 0 else if (atT ts i).k=7/\opI ts i=0/\i+1=ts.length then 0 else -1
def zGF (xs:List OpR):Prop:=∀ t,¬ (Zu xs t 2=true/\Zu xs t 3=true)
theorem zNp (h:¬ Pr 3 xs):zGF xs:=by
 rintro t ⟨h2,h3⟩
 obtain ⟨i,hi,e1,e2⟩:=(zAb _ _ _).1 h2
 obtain ⟨j,hj,f1,f2⟩:=(zAb _ _ _).1 h3
 have H:i≠j:=fun e=>by subst e; omega
 apply h
 rcases Nat.lt_trichotomy i j with e | e | e
 ·exact ⟨j,i,e,hj,by simp [cl]; exact ⟨by rw [f1,e1],by omega⟩⟩
 ·exact yP e H
 ·exact ⟨i,j,e,hi,by simp [cl]; exact ⟨by rw [f1,e1],by omega⟩⟩
theorem zIB {xs:List OpR} {ts:List zX} (ha:zGF xs):∀ i,i<ts.length->zC8 xs ts i->zAc xs ts i=zFJ xs ts i/\opI ts i=(zFK ts i:Int)
 | 0,_,_=>⟨rfl,rfl⟩
 | i+1,hi,hf=>by
  obtain ⟨h1,h2⟩:=zIB ha i (by omega) (fun j hj=>hf j (by omega))
  have hr:=hf i (by omega)
  unfold zi zDO at hr
  have hl:decide (i+1=ts.length)=false:=by simp; omega
  rw [hl] at hr
  have H:=ha (atT ts i).t
  simp only [zAc,zFJ,opI,zFK,h1,h2,zCy,zJy,zJz]
  cases hb:zFJ xs ts i
  ·rw [hb] at hr
   simp only [if_true] at hr
   by_cases k1:(atT ts i).k=1\/(atT ts i).k=2
   ·have k5:¬ (atT ts i).k=5:=by omega
    have k4:¬ (atT ts i).k=4:=by omega
    have k':(atT ts i).k=1\/(atT ts i).k=2\/(atT ts i).k=5:=by omega
    simp [k1,k4,k5,k']
   ·have k5:¬ (atT ts i).k=5:=by
     intro e
     rw [yN (by omega),yN (by omega)] at hr
     omega
    have k':¬ ((atT ts i).k=1\/(atT ts i).k=2\/(atT ts i).k=5):=by omega
    by_cases k4:(atT ts i).k=4
    ·simp [k1,k4,k5,k']
    ·simp [k1,k4,k5,k']
  ·rw [hb] at hr
   simp only [Bool.true_eq_false,if_false] at hr
   by_cases c2:(atT ts i).k=3/\Zu xs (atT ts i).t 2=true
   ·have c3:Zu xs (atT ts i).t 3=false:=by
     cases h:Zu xs (atT ts i).t 3
     ·rfl
     ·exact yP ⟨c2.2,h⟩ H
    have k3:=c2.1
    simp [c2,c3,k3]
   ·rw [yN c2] at hr
    by_cases c3:(atT ts i).k=3/\Zu xs (atT ts i).t 3=true
    ·have c2':Zu xs (atT ts i).t 2=false:=by
      cases h:Zu xs (atT ts i).t 2
      ·rfl
      ·exact yP ⟨c3.1,h⟩ c2
     simp [c3,c2']
    ·rw [yN c3] at hr
     by_cases c5:(atT ts i).k=5/\0<zFK ts i
     ·have k5:=c5.1
      have k0:=c5.2
      simp [k5]
      omega
     ·rw [yN c5] at hr
      simp at hr
theorem zPj (ha:zGF xs) (i:Nat) (hi:i<ts.length) (hf:zC8 xs ts i):zAd xs ts i (zAc xs ts i)=zi xs ts i:=by
 obtain ⟨h1,h2⟩:=zIB ha i hi hf
 rw [h1]
 unfold zAd zi zDO
 rw [h2]
 simp
def cellsB (l:List UInt8):List Value:=l.map fun b=>.int .u8 (b.toNat:Int)
theorem ZR (l:List UInt8):(cellsB l).length=l.length:=by simp [cellsB]
theorem zBW (l l':List UInt8):cellsB (l++l')=cellsB l++cellsB l':=by simp [cellsB]
theorem zGm (l:List UInt8):∀ u∈cellsB l,u.oneCell'=true:=by
 intro u hu
 simp only [cellsB,List.mem_map] at hu
 obtain ⟨b,_,rfl⟩:=hu
 rfl
theorem zGn (W:JY) (s:JZ):∃ (c:Nat) (W':JY),(convert 9 22 (.string s)).run Tryz.prog W = .ok (.slice (some ⟨W.heap.size,0,none⟩) s.size c) W' /\
  (∀ j u,(cellsB s.data.toList)[j]?=some u->W'.cell? ((⟨W.heap.size,0,none⟩:Addr).add j)=some u)/\Below W.heap.size W W':=by
 refine ⟨_,_,run_bytes_of_string (P:=Tryz.prog) W 9 22 5 s Tryz.underlying9 Tryz.underlying22 Tryz.underlying5,?_,?_⟩
 ·intro j u hj
  rw [Addr.add_mid,yV]
  have h:j<s.size:=by
   have:=(yX.1 hj).1
   rw [ZR] at this
   simpa using this
  rw [cell_of_row _ W.heap.size j (bytesRow s (grownCap W s.size 0 5)) 5 _ (heap_alloc_new W.drew _)]
  have:j<s.data.size:=h
  simp only [bytesRow]
  rw [Array.getElem?_append_left (by simpa using this)]
  simp only [cellsB,List.getElem?_map] at hj
  simpa using hj
 ·exact (yG _ _).drew.alloc (yh _) _
theorem zFl (W:JY) (g n c:Nat) (l:List UInt8) (hn:n=l.length) (h:∀ j u,(cellsB l)[j]?=some u->W.cell? ((⟨g,0,none⟩:Addr).add j)=some u) :
  (convert 22 9 (.slice (some ⟨g,0,none⟩) n c)).run Tryz.prog W = .ok (.string ⟨l.toArray⟩) W:=by
 rw [run_convert_bytes_string _ 22 9 5 _ _ _ Tryz.underlying22 Tryz.underlying5 Tryz.underlying9]
 have hl:(loadCells ⟨g,0,none⟩ n).run Tryz.prog W = .ok ((l.map fun b=>(b.toNat:Int)).map (Value.int .u8)).toArray W:=by
  have:=run_loadCells_list (P:=Tryz.prog) W ⟨g,0,none⟩ (cellsB l) h
  rw [ZR,<- hn] at this
  rw [this]
  simp [cellsB]
 rw [run_bytesToString _ ⟨g,0,none⟩ n c _ hl]
 congr 2
 clear hl h hn
 have key:∀ (l:List UInt8) (H:JZ),List.foldl (fun (r:JZ) (n:Int)=>r.push (UInt8.ofNat n.toNat)) H (l.map fun b=>(b.toNat:Int))=⟨(H.data.toList++l).toArray⟩:=by
  intro l
  induction l with
  | nil=>intro H; simp
  | cons b r ih=>
   intro H
   rw [List.map_cons,List.foldl_cons,ih]
   congr 1
   simp [ByteArray.push]
 rw [key]
 simp
theorem zJ0:(Tryz.prog.info? 5).map (fun i=>(i.zero,i.size,i.bytes))=some (some (.int .u8 0),1,1):=by kernel_rfl
def zAe (xs:List zX):Nat->List UInt8
 | 0=>[]
 | k+1=>zAe xs k++(atT xs k).g.data.toList++(atT xs k).t.data.toList
theorem zDP (xs:List zX):∀ k,(zAe xs k).length=Z2 xs k
 | 0=>rfl
 | k+1=>by
  have:=zDP xs k
  simp only [zAe,Z2,zPU,ym,this]
  simp
  omega
theorem zGo (xs:List zX):∀ k n,k<=n->Z2 xs k<=Z2 xs n
 | k,0,h=>by
  have:k=0:=by omega
  subst this; exact yh _
 | k,n+1,h=>by
  by_cases e:k=n+1
  ·subst e; exact yh _
  ·have:=zGo xs k n (by omega)
   simp only [Z2]
   omega
theorem ZW {base size:Nat} {v:Value} {xs:List Value} (h:w.ownsRow base e size v n xs) (hv:v ≠ .slice none 0 0):∃ g cap,v = .slice (some ⟨g,0,none⟩) n cap:=by
 obtain ⟨_,h | ⟨g,cap,k,H,_⟩⟩:=h
 ·exact yP h.1 hv
 ·exact ⟨g,cap,H⟩
theorem zJ1 {base g cap:Nat} {l:List UInt8} (h:w.ownsRow base e 1 (.slice (some ⟨g,0,none⟩) n cap) n (cellsB l)):∀ j u,(cellsB l)[j]?=some u->w.cell? ((⟨g,0,none⟩:Addr).add j)=some u:=
 h.cells rfl
theorem zAn {w':JY} (h:Below w.heap.size w w') (row:Option Nat):w.grownBy w' row:=⟨h.os,h.tape,h.output,h.size,fun i hi _=>h.block i hi⟩
def ZI (zs:List zX):List Value:=zs.flatMap fun o=>[.int .i64 o.k,.string o.g,.string o.t]
theorem zDQ (xs ys:List zX):ZI (xs++ys)=ZI xs++ZI ys:=by simp [ZI]
theorem zFm:∀ zs:List zX,(ZI zs).length=zs.length*3
 | []=>rfl
 | o::r=>by
  have:=zFm r
  simp only [ZI,List.flatMap_cons,ym,yv,yW] at *
  omega
theorem zGp:∀ (zs:List zX) (i:Nat),i<zs.length->(ZI zs)[i*3]?=some (.int .i64 (atT zs i).k)/\(ZI zs)[i*3+1]?=some (.string (atT zs i).g)/\(ZI zs)[i*3+2]?=some (.string (atT zs i).t)
 | [],i,h=>yP h (yt i)
 | o::r,0,_=>⟨rfl,rfl,rfl⟩
 | o::r,i+1,h=>by
  have ih:=zGp r i (by simpa using h)
  have e:∀ j,(ZI (o::r))[(i+1)*3+j]?=(ZI r)[i*3+j]?:=fun j=>by
   have:(i+1)*3+j=(i*3+j)+3:=by omega
   rw [this]
   rfl
  exact ⟨(e 0).trans ih.1,(e 1).trans ih.2.1,(e 2).trans ih.2.2⟩
theorem zEn (zs:List zX):∀ u∈ZI zs,u.oneCell'=true:=by
 intro u hu
 simp only [ZI,List.mem_flatMap] at hu
 obtain ⟨o,_,ho⟩:=hu
 simp at ho
 rcases ho with rfl | rfl | rfl <;> rfl
theorem zCz {base g cap:Nat} {zs:List zX} (h:w.ownsRow base e 3 (.slice (some ⟨g,0,none⟩) zs.length cap) zs.length (ZI zs)):base<=g/\zL1 w g zs zs.length:=by
 have H:=h.lt g rfl
 refine ⟨H.1,H.2,fun j hj=>⟨?_,h.frozenAt _⟩,fun i hi=>?_⟩
 ·rw [h.cellAt (0+j) (by omega)]
  have:0+j<(ZI zs).length:=by rw [zFm]; omega
  rw [yn this]
  rfl
 ·obtain ⟨c0,c1,c2⟩:=zGp zs i hi
  have e:=fun j (hj:j<3)=>h.cellAt (i*3+j) (by omega)
  exact ⟨by simpa using (e 0 (by omega)).trans c0,by simpa using (e 1 (by omega)).trans c1,by simpa using (e 2 (by omega)).trans c2⟩
theorem zIC (w:JY) (o:zX):∀ j u,(ZI [o])[j]?=some u->(w.alloc (.cells #[.int .i64 o.k,.string o.g,.string o.t] 150)).cell? ((⟨w.heap.size,0,none⟩:Addr).add j)=some u:=by
 intro j u hj
 rw [Addr.add_mid]
 have:=yz (w:=w.alloc (.cells #[.int .i64 o.k,.string o.g,.string o.t] 150)) (b:=w.heap.size) (heap_alloc_new w _) 0 3
 exact this j u (by simpa [ZI] using hj)
def zRs (xs:List OpR) (ok:Prop) (s:JZ) (us:List zX) (v:Bool):Prop:=
 ((ok/\s.size<=20000)/\v=true/\zAQ xs s 0 us)\/(¬ (ok/\s.size<=20000)/\v=false/\us=[])
def zI0 (xs:List OpR) (s:JZ) (i:Nat) (h:List zX):Prop:=h.length<=i/\∀ out,zAQ xs s i out->zAQ xs s 0 (h++out)
theorem zI0.start (xs:List OpR) (s:JZ):zI0 xs s 0 []:=⟨yh _,fun _ h=>h⟩
theorem zI0.step {j k:Nat} {H:List zX} (h:zI0 xs s i H) (h1:i<=j) (h2:j<s.size) (h3:zDF s i j) (h4:cls (bt s j)≠1) (h5:zFf xs s j n k) :
  zI0 xs s (j+n) (H++[⟨(k:Int),s.extract i j,s.extract j (j+n)⟩]):=by
 refine ⟨?_,fun out ho=>?_⟩
 ·have:=h.1
  have:=h5.1
  simp
  omega
 ·rw [yx]
  exact h.2 _ (zAQ.tok h1 h2 h3 h4 h5 ho)
theorem zI0.done {H:List zX} (h:zI0 xs s i H) (h1:i<=s.size) (h3:zDF s i s.size):zAQ xs s 0 (H++[⟨7,s.extract i s.size,⟨#[]⟩⟩]):=
 h.2 _ (zAQ.fin h1 h3)
def sgT (ns:List OpR) (ts:List zX) (i:Nat):SyR:=
 if (atT ts i).k=3 then ((zi ns ts i).toNat+2,(atT ts i).t)
 else if (atT ts i).k=4 then (6,opn) else if (atT ts i).k=5 then (7,zCR) else if (atT ts i).k=7 then eoS else ((atT ts i).k.toNat,(atT ts i).t)
def sgs (ns:List OpR) (ts:List zX) (a n:Nat):List SyR:=(List.range' a n).map (sgT ns ts)
theorem zDp (ns:List OpR) (ts:List zX) (a n:Nat):(sgs ns ts a n).length=n:=by simp [sgs]
theorem zEo (ns:List OpR) (ts:List zX) (a n:Nat):sgs ns ts a (n+1)=sgT ns ts a::sgs ns ts (a+1) n:=by
 simp [sgs,List.range'_succ]
theorem zMA (ns:List OpR) (ts:List zX) (a m n:Nat):sgs ns ts a (m+n)=sgs ns ts a m++sgs ns ts (a+m) n:=by
 induction m generalizing a with
 | zero=>simp [sgs]
 | succ m ih=>
  have e:m+1+n=(m+n)+1:=by omega
  rw [e,zEo,zEo,ih]
  have e2:a+1+m=a+(m+1):=by omega
  rw [e2]; rfl
theorem zDR (ns:List OpR) (ts:List zX) (a n:Nat):sgs ns ts a (n+1)=sgs ns ts a n++[sgT ns ts (a+n)]:=by
 rw [zMA]; rfl
def zNq (ns:List OpR) (t:zX):Prop:=
 ((t.k=1\/t.k=2)/\¬ opT ns t.t/\t.t≠opn)\/(t.k=3/\opT ns t.t/\t.t≠opn)\/(t.k=4/\t.t=opn/\¬ opT ns t.t)\/(t.k=5/\t.t=zCR/\¬ opT ns t.t)\/t.k=6\/(t.k=7/\t.t=⟨#[]⟩/\¬ opT ns t.t)
theorem zID (hv:zA5 ns) (ho:opT ns t):cls (bt t 0)=6/\1<=t.size:=by
 obtain ⟨j,hj,rfl⟩:=ho
 have:=hv j hj
 exact ⟨this.2.2 0 (by omega),this.1⟩
theorem zNr (hv:zA5 ns) {k:Nat} (g:JZ) (h:zFf ns s i n k):zNq ns ⟨(k:Int),g,s.extract i (i+n)⟩:=by
 obtain ⟨h1,h2,h⟩:=h
 have hb:bt (sub s i n) 0=bt s i:=by simpa using zCl (s:=s) (i:=i) (n:=n) (j:=0) h2 (by omega)
 have q:(sub s i n).size=n:=zBb h2
 have H:cls (bt s i)≠6->¬ opT ns (sub s i n):=fun hc ho=>hc (by rw [<- hb]; exact (zID hv ho).1)
 have K:cls (bt s i)≠4->sub s i n≠opn:=fun hc e=>hc (by rw [<- hb,e]; decide)
 change zNq ns ⟨(k:Int),g,sub s i n⟩
 rcases h with ⟨c,rfl,_⟩ | ⟨c,rfl,_⟩ | ⟨c,rfl,rfl⟩ | ⟨c,rfl,rfl⟩ | ⟨c,⟨rfl,a,_⟩ | ⟨rfl,_⟩⟩ | ⟨c,rfl,_⟩
 ·exact yQ ⟨yQ rfl,H (by omega),K (by omega)⟩
 ·exact yQ ⟨yR rfl,H (by omega),K (by omega)⟩
 ·refine yR (yR (yQ ⟨rfl,?_,H (by omega)⟩))
  exact (zBc q).2 (by rw [hb]; exact (zEW _).1 c)
 ·refine yR (yR (yR (yQ ⟨rfl,?_,H (by omega)⟩)))
  exact (zBc q).2 (by rw [hb]; exact (zDg _).1 c)
 ·exact yR (yQ ⟨rfl,a,K (by omega)⟩)
 ·exact yR (yR (yR (yR (yQ rfl))))
 ·exact yR (yR (yR (yR (yQ rfl))))
theorem zMB {ns:List OpR} (hv:zA5 ns) {s:JZ}:∀ (ts:List zX) (i:Nat),zAQ ns s i ts->∀ j,j<ts.length->zNq ns (atT ts j)
 | [],i,h,j,hj=>by simp at hj
 | t::out,i,h,j,hj=>by
  rcases h with ⟨rfl,_,_,rfl⟩ | ⟨p,n,k,_,_,_,_,ht,rfl,hr⟩
  ·have:j=0:=by simp at hj; omega
   subst this
   refine yR (yR (yR (yR (yR ⟨rfl,rfl,fun ho=>?_⟩))))
   have h1:=(zID hv ho).2
   simp [atT] at h1
   have h0:(⟨#[]⟩:JZ).size=0:=rfl
   omega
  ·cases j with
   | zero=>exact zNr hv _ ht
   | succ j=>exact zMB hv out _ hr j (by simpa using hj)
theorem zI1 {q:Nat} {k:Int} (h:Zu ns t k=true) (hq:(q:Int)-2=k):knB ns (q,t)=true:=by
 unfold knB
 simp only [hq]
 cases hf:fnd ns t k with
 | some j=>rfl
 | none=>
  obtain ⟨j,hj,e1,e2⟩:=(zAb _ _ _).1 h
  exact yP ⟨e1,e2⟩ (zNk hf hj)
theorem zJ2 (xs:List OpR) (last:Bool) (t:zX) (op:Nat):zDO xs last t false op=if t.k=1\/t.k=2\/t.k=4 then 0 else if t.k=3/\Zu xs t.t 1=true then 1 else -1:=by
 unfold zDO; rw [yO rfl]
theorem zJ3 (xs:List OpR) (last:Bool) (t:zX) (op:Nat):zDO xs last t true op=if t.k=3/\Zu xs t.t 2=true then 2 else if t.k=3/\Zu xs t.t 3=true then 3
  else if t.k=5/\0<op then 0 else if t.k=7/\op=0/\last=true then 0 else -1:=by
 unfold zDO; rw [yN (by decide)]
theorem zRA (hl:i+1<ts.length) (hr:0<=zi ns ts i) :
  auS ns (zFJ ns ts i,zFK ts i) (sgT ns ts i)=some (zFJ ns ts (i+1),zFK ts (i+1)):=by
 have h:decide (i+1=ts.length)=false:=by simp; omega
 simp only [zFJ,zFK]
 unfold sgT
 unfold zi at hr ⊢
 rw [h] at hr ⊢
 generalize atT ts i=t at hr ⊢
 generalize zFK ts i=op at hr ⊢
 generalize zFJ ns ts i=bh at hr ⊢
 cases bh
 ·rw [zJ2] at hr ⊢
  by_cases k1:t.k=1\/t.k=2
  ·rw [yN (by omega),yN (by omega),yN (by omega),yN (by omega),zL6 (by rcases k1 with e | e <;> simp [e])]
   simp only [zJy,zJz,if_true,yO k1]
   rw [yN (by omega),yN (by omega)]
  ·by_cases k4:t.k=4
   ·rw [yN (by omega),yO k4,zL7]
    simp [zJy,zJz,k4]
   ·rw [yN (by omega)] at hr
    by_cases c:t.k=3/\Zu ns t.t 1=true
    ·rw [yO c.1,yN (by omega),yO c,zNn (s:=((1:Int).toNat+2,t.t)) rfl (zI1 c.2 (by decide))]
     simp [zJy,zJz,c.1]
    ·rw [yN c] at hr; omega
 ·rw [zJ3] at hr ⊢
  by_cases c2:t.k=3/\Zu ns t.t 2=true
  ·rw [yO c2.1,yO c2,zNo (s:=((2:Int).toNat+2,t.t)) rfl (zI1 c2.2 (by decide))]
   simp [zJy,zJz,c2.1,c2.2]
  ·rw [yN c2] at hr
   by_cases c3:t.k=3/\Zu ns t.t 3=true
   ·rw [yO c3.1,yN c2,yO c3,zL8 (s:=((3:Int).toNat+2,t.t)) rfl (zI1 c3.2 (by decide))]
    simp only [zJy,zJz,Bool.true_eq_false,if_false,yN c2]
    rw [yN (by omega),yN (by omega)]
   ·rw [yN c3] at hr
    by_cases c5:t.k=5/\0<op
    ·rw [yN (by omega),yN (by omega),yO c5.1]
     obtain ⟨m,rfl⟩:∃ m,op=m+1:=⟨op-1,by omega⟩
     rw [zJt]
     simp [zJy,zJz,c5.1]
    ·rw [yN c5] at hr
     simp at hr
theorem zMC {ns:List OpR} {ts:List zX}:∀ n,n<ts.length->zC8 ns ts n->zAZ ns (false,0) (sgs ns ts 0 n)=some (zFJ ns ts n,zFK ts n)
 | 0,_,_=>rfl
 | n+1,hn,hf=>by
  rw [zDR,zDL,zMC n (by omega) (fun i hi=>hf i (by omega))]
  simp only [yV,zAZ]
  rw [zRA (by omega) (hf n (by omega))]
theorem zMD (hf:zC8 ns ts ts.length) (h0:0<ts.length) (h7:(atT ts (ts.length-1)).k=7) :
  Seg ns (sgs ns ts 0 (ts.length-1))/\sgs ns ts 0 ts.length=sgs ns ts 0 (ts.length-1)++[eoS]:=by
 have hr:=hf (ts.length-1) (by omega)
 have hb:zFJ ns ts (ts.length-1)=true/\zFK ts (ts.length-1)=0:=by
  unfold zi zDO at hr
  have hl:decide (ts.length-1+1=ts.length)=true:=by simp; omega
  rw [hl] at hr
  cases hb:zFJ ns ts (ts.length-1)
  ·rw [hb] at hr
   simp only [if_true] at hr
   rw [yN (by omega),yN (by omega)] at hr
   omega
  ·rw [hb] at hr
   simp only [Bool.true_eq_false,if_false] at hr
   rw [yN (by omega),yN (by omega),yN (by omega)] at hr
   by_cases c:(atT ts (ts.length-1)).k=7/\zFK ts (ts.length-1)=0/\True
   ·exact ⟨rfl,c.2.1⟩
   ·rw [yN c] at hr; omega
 refine ⟨?_,?_⟩
 ·unfold Seg
  rw [zMC _ (by omega) (fun i hi=>hf i (by omega)),hb.1,hb.2]
 ·have e:ts.length=ts.length-1+1:=by omega
  have:=zDR ns ts 0 (ts.length-1)
  rw [<- e] at this
  rw [this]
  have e2:sgT ns ts (0+(ts.length-1))=eoS:=by
   rw [yV]
   unfold sgT
   rw [yN (by omega),yN (by omega),yN (by omega),yO h7]
  rw [e2]
end Go.Proofs.YtgbkgkdpdfdokaaGreatDoor
