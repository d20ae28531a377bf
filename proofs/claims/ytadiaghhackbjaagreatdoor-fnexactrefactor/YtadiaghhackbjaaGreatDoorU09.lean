import Derived.Test.YtadiaghhackbjaaGreatDoorU07
import Derived.Test.YtadiaghhackbjaaGreatDoorU08
namespace Go.Proofs.YtadiaghhackbjaaGreatDoor
set_option linter.all false
set_option maxHeartbeats 0
set_option maxRecDepth 100000
open Proofs.Tryz RowKit
open Go.Deep (BT)
variable{d h i n p:Nat}{e:Value}{least:Int}{ns:List OpR}{st:Bool × Nat}{t:ByteArray}{ts:List zU}{w:World}
def sLv(ns:List OpR)(s:SyR):Int:=zAN ns (rt s.1 s.2)
def sH(ns:List OpR)(s:SyR)(b:Bool):Int:=zh ns (rt s.1 s.2) b
def sSo(ns:List OpR)(s:SyR):Int:=srt (opA ns (rt s.1 s.2)).k (opA ns (rt s.1 s.2)).sd
def knB(ns:List OpR)(s:SyR):Bool:=(fnd ns s.2 ((s.1:Int)-2)).isSome
structure OpF(ns:List OpR)(s:SyR):Prop where
 lo:1<=sLv ns s
 hi:sLv ns s<=1000
 pre:s.1=3->sH ns s false=sLv ns s/\sSo ns s=2
 post:s.1=5->sH ns s false=sLv ns s/\sSo ns s=1
 mid:s.1=4->(sSo ns s=1/\sH ns s false=sLv ns s/\sH ns s true=sLv ns s+1)\/(sSo ns s=2/\sH ns s false=sLv ns s+1/\sH ns s true=sLv ns s)\/(sSo ns s=3/\sH ns s false=sLv ns s+1/\sH ns s true=sLv ns s+1)
theorem zIG(h:zO ns 0):zBi ns ns.length/\¬ Pr 4 ns:=by
 rcases h with⟨h,_⟩|⟨_,⟨h,_⟩|⟨H,⟨h,_⟩|⟨_,⟨h,_⟩|⟨_,h4⟩⟩⟩⟩
 ·exact yR h Jd
 ·exact yR h Jd
 ·exact yR h Jd
 ·exact yR h Jd
 ·exact⟨H,h4⟩
theorem zNh{s:SyR}(hk:knB ns s=true):∃j,j<ns.length/\fnd ns s.2 ((s.1:Int)-2)=some j/\(atO ns j).k=(s.1:Int)-2/\opA ns (rt s.1 s.2)=atO ns j:=by
 unfold knB at hk;obtain⟨j,hj⟩:=Option.isSome_iff_exists.1 hk;have:=zAg hj;refine⟨j,this.1,hj,this.2.2,?_⟩;unfold opA rt;simp only;rw[hj]
theorem opF(h:zO ns 0){s:SyR}(hs:s.1=3\/s.1=4\/s.1=5)(hk:knB ns s=true):OpF ns s:=by
 obtain⟨j,hj,hf,y,ho⟩:=zNh hk;have x:=(zIG h).1 j hj;have Q:sLv ns s=(atO ns j).l:=by
  unfold sLv zAN rt;simp only;rw[yQ Jo,hf]
 have hh:∀b,sH ns s b=ZU (atO ns j).s (atO ns j).k (atO ns j).l (atO ns j).sd b:=fun b=>by
  unfold sH zh rt;simp only;rw[hf];rfl
 have q:sSo ns s=srt (atO ns j).k (atO ns j).sd:=by unfold sSo;rw[ho]
 have H:okB (atO ns j).s (atO ns j).k (atO ns j).l (atO ns j).sd=true:=x;have K:=H;unfold okB zH2 at K;simp only[Bool.and_eq_true,Bool.or_eq_true,decide_eq_true_eq,beq_iff_eq] at K;obtain⟨⟨⟨_,h1⟩,h2⟩,h3⟩:=K;refine⟨Jo,Jo,fun e=>?_,fun e=>?_,fun e=>?_⟩
 ·have k1:(atO ns j).k=1:=Jo;rw[hh,Q,q,ZU,srt,k1];simp_all
 ·have k1:(atO ns j).k=3:=Jo;rw[hh,Q,q,ZU,srt,k1];simp_all
 ·have k1:(atO ns j).k=2:=Jo;rw[hh,hh,Q,q,ZU,ZU,srt,k1];rw[k1] at H h3;rw[H];have X:(atO ns j).sd=1\/(atO ns j).sd=2\/(atO ns j).sd=3:=by simp at h3;omega
  rcases X with e|e|e<;>simp[zMt,e]
theorem zHi(h:zO ns 0){s s':SyR}(hs:s.1=3\/s.1=4\/s.1=5)(p:s'.1=3\/s'.1=4\/s'.1=5)(hk:knB ns s=true)(H:knB ns s'=true)(he:sLv ns s=sLv ns s'):sSo ns s=sSo ns s':=by
 obtain⟨j,hj,hf,J,ho⟩:=zNh hk;obtain⟨j',K,Q,y,q⟩:=zNh H;have Y:sLv ns s=(atO ns j).l:=by unfold sLv zAN rt;simp only;rw[yQ Jo,hf]
 have X:sLv ns s'=(atO ns j').l:=by unfold sLv zAN rt;simp only;rw[yQ Jo,Q]
 unfold sSo;rw[ho,q];by_cases hd:srt (atO ns j).k (atO ns j).sd=srt (atO ns j').k (atO ns j').sd
 ·exact hd
 ·exfalso;apply(zIG h).2;rcases Nat.lt_trichotomy j j' with e|e|e
  ·exact⟨j',j,e,K,by simp[cl];exact⟨Jo,fun x=>hd x.symm⟩⟩
  ·subst e;exact yR rfl hd
  ·exact⟨j,j',e,hj,by simp[cl];exact⟨Jo,hd⟩⟩
def lvT(ns:List OpR):ET->Int
 |.nil=>1001
 |.node b _ t _ _=>sLv ns (b,t)
def zn(ns:List OpR):ET->Prop
 |.nil=>False
 |.node b o t l r=>o=0/\(((b=1\/b=2)/\l=.nil/\r=.nil) \/
   (b=6/\t=ByteArray.empty/\zn ns l/\r=.nil) \/
   ((b=3\/b=5)/\knB ns (b,t)=true/\zn ns l/\r=.nil/\sH ns (b,t) false<=lvT ns l) \/
   (b=4/\knB ns (b,t)=true/\zn ns l/\zn ns r/\sH ns (b,t) false<=lvT ns l/\sH ns (b,t) true<=lvT ns r))
theorem zBX(ns:List OpR)(b:Nat)(t:JZ)(h:¬ (b=3\/b=4\/b=5)):sLv ns (b,t)=1001:=by
 unfold sLv zAN rt;simp only;rw[yP Jo]
theorem zn.sh{ns:List OpR}:∀{T:ET},zn ns T->Sh T
 |.nil,h=>h.elim
 |.node b o t l r,⟨h0,h⟩=>by
  refine⟨h0,?_⟩;rcases h with⟨h|h,rfl,rfl⟩|⟨rfl,_,hl,rfl⟩|⟨h|h,_,hl,rfl,_⟩|⟨rfl,_,hl,hr,_⟩
  ·subst h;exact yS ⟨Jd,rfl,rfl⟩
  ·subst h;exact yS ⟨Jd,rfl,rfl⟩
  ·exact yU (yS ⟨Jd,hl.sh,rfl⟩)
  ·subst h;exact yU (yS ⟨Jd,hl.sh,rfl⟩)
  ·subst h;exact yU (yS ⟨Jd,hl.sh,rfl⟩)
  ·exact yU (yU ⟨Jd,hl.sh,hr.sh⟩)
def rd(ns:List OpR):Nat->Int->Option ET->List SyR->Option (ET×List SyR)
 |0,_,_,_=>none
 |_+1,_,none,[]=>none
 |n+1,least,none,s::r=>
  if s.1=3 then(if sLv ns s<least then none else(match rd ns n (sH ns s false) none r with
   |none=>none
   |some x=>rd ns n least (some (.node 3 0 s.2 x.1 .nil)) x.2))
  else if s.1=6 then(match rd ns n 0 none r with
   |none=>none
   |some x=>rd ns n least (some (.node 6 0 ByteArray.empty x.1 .nil)) x.2.tail)
  else rd ns n least (some (.node s.1 0 s.2 .nil .nil)) r
 |_+1,_,some T,[]=>some (T,[])
 |n+1,least,some T,s::r=>
  if s.1=4/\least<=sLv ns s then(if lvT ns T<sH ns s false then none else(match rd ns n (sH ns s true) none r with
   |none=>none
   |some x=>rd ns n least (some (.node 4 0 s.2 T x.1)) x.2))
  else if s.1=5/\least<=sLv ns s then(if lvT ns T<sH ns s false then none else rd ns n least (some (.node 5 0 s.2 T .nil)) r)
  else some (T,s::r)
theorem zBn(ns:List OpR):∀n least md ss x,rd ns n least md ss=some x->x.2.length<=ss.length
 |0,_,_,_,_,h=>by simp[rd] at h
 |n+1,least,none,[],x,h=>by simp[rd] at h
 |n+1,least,none,s::r,x,h=>by
  simp only[rd] at h;split at h
  ·split at h
   ·cases h
   ·split at h
    ·cases h
    ·rename_i y hy;have h1:=zBn ns n _ _ _ _ hy;have h2:=zBn ns n _ _ _ _ h;simp only[yy];omega
  ·split at h
   ·split at h
    ·cases h
    ·rename_i y hy;have h1:=zBn ns n _ _ _ _ hy;have h2:=zBn ns n _ _ _ _ h;have h3:y.2.tail.length<=y.2.length:=Js;simp only[yy];omega
   ·have h2:=zBn ns n _ _ _ _ h;simp only[yy];omega
 |n+1,least,some T,[],x,h=>by
  simp only[rd,Option.some.injEq] at h;subst h;simp
 |n+1,least,some T,s::r,x,h=>by
  simp only[rd] at h;split at h
  ·split at h
   ·cases h
   ·split at h
    ·cases h
    ·rename_i y hy;have h1:=zBn ns n _ _ _ _ hy;have h2:=zBn ns n _ _ _ _ h;simp only[yy];omega
  ·split at h
   ·split at h
    ·cases h
    ·have h2:=zBn ns n _ _ _ _ h;simp only[yy];omega
   ·simp only[Option.some.injEq] at h;subst h;simp
theorem zG8(ns:List OpR):∀n m least md ss,ss.length<n->ss.length<m->rd ns n least md ss=rd ns m least md ss
 |0,_,_,_,_,h,_=>yR h (yx _)
 |_+1,0,_,_,_,_,h=>yR h (yx _)
 |n+1,m+1,least,none,[],_,_=>by simp[rd]
 |n+1,m+1,least,some T,[],_,_=>by simp[rd]
 |n+1,m+1,least,none,s::r,h,h'=>by
  simp only[yy] at h h';have e1:=fun l=>zG8 ns n m l none r Jo Jo
  have e2:=fun l md q=>fun(hq:q.length<=r.length)=>zG8 ns n m l md q Jo Jo
  simp only[rd,e1];split
  ·split
   ·rfl
   ·cases hy:rd ns m (sH ns s false) none r with
    |none=>rfl
    |some y=>exact e2 _ _ _ (zBn ns m _ _ _ _ hy)
  ·split
   ·cases hy:rd ns m 0 none r with
    |none=>rfl
    |some y=>exact e2 _ _ _ (by have:=zBn ns m _ _ _ _ hy;simp;omega)
   ·exact e2 _ _ _ (yk _)
 |n+1,m+1,least,some T,s::r,h,h'=>by
  simp only[yy] at h h';have e1:=fun l=>zG8 ns n m l none r Jo Jo
  have e2:=fun l md q=>fun(hq:q.length<=r.length)=>zG8 ns n m l md q Jo Jo
  simp only[rd,e1];split
  ·split
   ·rfl
   ·cases hy:rd ns m (sH ns s true) none r with
    |none=>rfl
    |some y=>exact e2 _ _ _ (zBn ns m _ _ _ _ hy)
  ·split
   ·split
    ·rfl
    ·exact e2 _ _ _ (yk _)
   ·rfl
def RD(ns:List OpR)(least:Int)(md:Option ET)(ss:List SyR):Option (ET×List SyR):=rd ns (ss.length+1) least md ss
theorem zVz(ns:List OpR)(n:Nat)(least:Int)(md:Option ET)(ss:List SyR)(h:ss.length<n):rd ns n least md ss=RD ns least md ss:=
 zG8 ns _ _ _ _ _ h (Nat.lt_succ_self _)
theorem zIs(ns:List OpR)(least:Int)(s:SyR)(r:List SyR):RD ns least none (s::r) =
  if s.1=3 then(if sLv ns s<least then none else(match RD ns (sH ns s false) none r with
   |none=>none
   |some x=>RD ns least (some (.node 3 0 s.2 x.1 .nil)) x.2))
  else if s.1=6 then(match RD ns 0 none r with
   |none=>none
   |some x=>RD ns least (some (.node 6 0 ByteArray.empty x.1 .nil)) x.2.tail)
  else RD ns least (some (.node s.1 0 s.2 .nil .nil)) r:=by
 have e:RD ns least none (s::r)=rd ns (r.length+1+1) least none (s::r):=rfl;have e1:∀l,rd ns (r.length+1) l none r=RD ns l none r:=fun l=>rfl
 have e2:∀l md q,q.length<=r.length->rd ns (r.length+1) l md q=RD ns l md q:=fun l md q hq=>zVz ns _ l md q Jo
 rw[e];simp only[rd,e1];split
 ·split
  ·rfl
  ·cases hy:RD ns (sH ns s false) none r with
   |none=>rfl
   |some y=>exact e2 _ _ _ (zBn ns _ _ _ _ _ hy)
 ·split
  ·cases hy:RD ns 0 none r with
   |none=>rfl
   |some y=>exact e2 _ _ _ (by have:=zBn ns _ _ _ _ _ hy;simp;omega)
  ·rfl
theorem zIt(ns:List OpR)(least:Int)(T:ET)(s:SyR)(r:List SyR):RD ns least (some T) (s::r) =
  if s.1=4/\least<=sLv ns s then(if lvT ns T<sH ns s false then none else(match RD ns (sH ns s true) none r with
   |none=>none
   |some x=>RD ns least (some (.node 4 0 s.2 T x.1)) x.2))
  else if s.1=5/\least<=sLv ns s then(if lvT ns T<sH ns s false then none else RD ns least (some (.node 5 0 s.2 T .nil)) r)
  else some (T,s::r):=by
 have e:RD ns least (some T) (s::r)=rd ns (r.length+1+1) least (some T) (s::r):=rfl;have e1:∀l,rd ns (r.length+1) l none r=RD ns l none r:=fun l=>rfl
 have e2:∀l md q,q.length<=r.length->rd ns (r.length+1) l md q=RD ns l md q:=fun l md q hq=>zVz ns _ l md q Jo
 rw[e];simp only[rd,e1];split
 ·split
  ·rfl
  ·cases hy:RD ns (sH ns s true) none r with
   |none=>rfl
   |some y=>exact e2 _ _ _ (zBn ns _ _ _ _ _ hy)
 ·split
  ·split
   ·rfl
   ·rfl
  ·rfl
def zIH(ns:List OpR)(least:Int)(ss:List SyR):Prop:=∀s r,ss=s::r->(s.1=4\/s.1=5)->sLv ns s<least
theorem zIu{ss:List SyR}(h:zIH ns least ss)(T:ET):RD ns least (some T) ss=some (T,ss):=by
 cases ss with
 |nil=>rfl
 |cons s r=>
  have hs:=h s r rfl;rw[zIt,yP (fun x=>Jy (hs (yS x.1))),yP (fun x=>Jy (hs (yU x.1)))]
def zLB(ns:List OpR):ET->List SyR->Prop
 |.nil,_=>True
 |.node b _ t l r,ss=>(b=3->zIH ns (sH ns (b,t) false) ss/\zLB ns l ss)/\(b=4->zIH ns (sH ns (b,t) true) ss/\zLB ns r ss)
theorem zEx{s:SyR}{r:List SyR}(h:¬ (s.1=4\/s.1=5)):zIH ns least (s::r):=fun s' r' e hs=>by
 injection e with e1 e2;subst e1;exact yR hs h
theorem zDs{ns:List OpR}{s:SyR}{r:List SyR}(h:¬ (s.1=4\/s.1=5)):∀T:ET,zLB ns T (s::r)
 |.nil=>trivial
 |.node b o t l q=>⟨fun _=>⟨zEx h,zDs h l⟩,fun _=>⟨zEx h,zDs h q⟩⟩
theorem zII(hv:zO ns 0){q:SyR}{r:List SyR}:∀T:ET,zn ns T->sLv ns q<lvT ns T->zLB ns T (q::r):=by
 intro T;induction T with
 |nil=>intro h;exact h.elim
 |node b o t l rr ihl ihr=>
  rintro⟨_,h⟩ hq;have st:∀m:Int,sLv ns q<m->zIH ns m (q::r):=fun m hm s' r' e _=>by
   injection e with e1 e2;subst e1;exact hm
  refine⟨fun e=>?_,fun e=>?_⟩
  ·subst e;rcases h with⟨h|h,_⟩|⟨h,_⟩|⟨_,hk,hl,_,hh⟩|⟨h,_⟩
   ·omega
   ·omega
   ·omega
   ·have f:=(opF hv (yS rfl) hk).pre rfl;simp only[lvT] at hq;exact⟨st _ Jo,ihl hl Jo⟩
   ·omega
  ·subst e;rcases h with⟨h|h,_⟩|⟨h,_⟩|⟨h|h,_⟩|⟨_,hk,hl,hr,h1,h2⟩
   ·omega
   ·omega
   ·omega
   ·omega
   ·omega
   ·have f:=(opF hv (yU (yS rfl)) hk).mid rfl;simp only[lvT] at hq;exact⟨st _ Jo,ihr hr Jo⟩
theorem zLC(hv:zO ns 0){q:SyR}{r:List SyR}(hq:q.1=4\/q.1=5)(k:knB ns q=true):∀T:ET,zn ns T->sH ns q false<=lvT ns T->zLB ns T (q::r):=by
 intro T hT Q;have fq:=opF hv Jo k;have hh:sH ns q false=sLv ns q+1\/(sH ns q false=sLv ns q/\sSo ns q=1):=by
  rcases hq with e|e
  ·rcases fq.mid e with h|h|h
   ·exact yU ⟨h.2.1,h.1⟩
   ·exact yS h.2.1
   ·exact yS h.2.1
  ·exact yU (fq.post e)
 by_cases K:sLv ns q<lvT ns T
 ·exact zII hv T hT K
 ·have H:lvT ns T=sLv ns q/\sSo ns q=1:=by
   rcases hh with h|⟨h,h'⟩
   ·omega
   ·exact⟨Jo,h'⟩
  cases T with
  |nil=>exact hT.elim
  |node b o t l rr=>
   obtain⟨_,h⟩:=hT;simp only[lvT] at H;have st:∀m:Int,sLv ns q<m->zIH ns m (q::r):=fun m hm s' r' e _=>by
    injection e with e1 e2;subst e1;exact hm
   refine⟨fun e=>?_,fun e=>?_⟩
   ·subst e;rcases h with⟨h|h,_⟩|⟨h,_⟩|⟨_,hk,hl,_,hh⟩|⟨h,_⟩
    ·omega
    ·omega
    ·omega
    ·have f:=(opF hv (yS rfl) hk).pre rfl;have:=zHi hv (s:=(3,t)) (s':=q) (yS rfl) Jo hk k H.1;omega
    ·omega
   ·subst e;rcases h with⟨h|h,_⟩|⟨h,_⟩|⟨h|h,_⟩|⟨_,hk,hl,hr,h1,h2⟩
    ·omega
    ·omega
    ·omega
    ·omega
    ·omega
    ·have f:=(opF hv (yU (yS rfl)) hk).mid rfl;have:=zHi hv (s:=(4,t)) (s':=q) (yU (yS rfl)) Jo hk k H.1;have e2:sH ns (4,t) true=sLv ns (4,t)+1:=by
      rcases f with h|h|h
      ·exact h.2.2
      ·omega
      ·omega
     exact⟨st _ Jo,zII hv rr hr Jo⟩
theorem zSa(hv:zO ns 0):∀(T:ET),zn ns T->∀(least:Int)(rest:List SyR),least<=lvT ns T->zLB ns T rest->RD ns least none (ySy T++rest)=RD ns least (some T) rest:=by
 intro T;induction T with
 |nil=>intro h;exact h.elim
 |node b o t l r ihl ihr=>
  rintro⟨rfl,h⟩ least rest K hst;simp only[lvT] at K;rcases h with⟨X,rfl,rfl⟩|⟨rfl,rfl,hl,rfl⟩|⟨Q,hk,hl,rfl,hh⟩|⟨rfl,hk,hl,hr,h1,h2⟩
  ·have e:ySy (.node b 0 t .nil .nil)=[(b,t)]:=by
    simp only[ySy];rw[yP Jo,yP Jo,yP Jo,yP Jo]
   rw[e];show RD ns least none ((b,t)::rest)=_;rw[zIs];simp only;rw[yP Jo,yP Jo]
  ·have e:ySy (.node 6 0 ByteArray.empty l .nil)++rest=(6,opn)::(ySy l++((7,zCI)::rest)):=by
    simp[ySy]
   rw[e,zIs];simp only;rw[yP Jd,yQ trivial];have hs:¬ ((7,zCI):SyR).1=4/\¬ ((7,zCI):SyR).1=5:=⟨Jd,Jd⟩;have h0:(0:Int)<=lvT ns l:=by
    cases l with
    |nil=>exact hl.elim
    |node bb oo tt ll rr=>
     simp only[lvT];by_cases hb:bb=3\/bb=4\/bb=5
     ·have x:knB ns (bb,tt)=true:=by
       rcases hl.2 with⟨h|h,_⟩|⟨h,_⟩|⟨_,hk,_⟩|⟨_,hk,_⟩
       ·omega
       ·omega
       ·omega
       ·exact hk
       ·exact hk
      have:=(opF hv (s:=(bb,tt)) hb x).lo;omega
     ·rw[zBX ns bb tt hb];omega
   rw[ihl hl 0 _ h0 (zDs (by omega) l),zIu (zEx (by omega))];rfl
  ·rcases Q with rfl|rfl
   ·have f:=(opF hv (yS rfl) hk).pre rfl;have e:ySy (.node 3 0 t l .nil)++rest=(3,t)::(ySy l++rest):=by simp[ySy]
    obtain⟨H,k⟩:=hst.1 rfl;rw[e,zIs];simp only;rw[yQ trivial,yP Jo,ihl hl _ rest hh k,zIu H]
   ·have f:=(opF hv (yU (yU rfl)) hk).post rfl;have e:ySy (.node 5 0 t l .nil)++rest=ySy l++((5,t)::rest):=by simp[ySy]
    rw[e,ihl hl least _ (by omega) (zLC hv (q:=(5,t)) (yU rfl) hk l hl hh),zIt];simp only;rw[yP Jo,yQ ⟨trivial,K⟩,yP Jo]
  ·have f:=(opF hv (yU (yS rfl)) hk).mid rfl;have e:ySy (.node 4 0 t l r)++rest=ySy l++((4,t)::(ySy r++rest)):=by simp[ySy]
   obtain⟨H,k⟩:=hst.2 rfl;rw[e,ihl hl least _ (by omega) (zLC hv (q:=(4,t)) (yS rfl) hk l hl h1),zIt];simp only;rw[yQ ⟨trivial,K⟩,yP Jo,ihr hr _ rest h2 k,zIu H]
def zUf(s:SyR):Bool:=decide (s.1=6/\s.2.data=opn.data)
def zUg(s:SyR):Bool:=decide (s.1=7/\s.2.data=zCI.data)
theorem zV0{a b:JZ}(h:a.data=b.data):a=b:=by cases a;cases b;simp_all
theorem zUh{s:SyR}(h:zUf s=true):s=(6,opn):=by
 unfold zUf at h;have:=of_decide_eq_true h;obtain⟨a,b⟩:=s;exact Prod.ext this.1 (zV0 this.2)
theorem zUi{s:SyR}(h:zUg s=true):s=(7,zCI):=by
 unfold zUg at h;have:=of_decide_eq_true h;obtain⟨a,b⟩:=s;exact Prod.ext this.1 (zV0 this.2)
def auS(ns:List OpR)(st:Bool×Nat)(s:SyR):Option (Bool×Nat):=
 if st.1=false then
  (if s.1=1\/s.1=2 then some (true,st.2) else if s.1=3/\knB ns s=true then some (false,st.2) else if zUf s=true then some (false,st.2+1) else none)
 else
  (if s.1=4/\knB ns s=true then some (false,st.2) else if s.1=5/\knB ns s=true then some (true,st.2) else if zUg s=true/\0<st.2 then some (true,st.2-1) else none)
def zBM(ns:List OpR):Bool×Nat->List SyR->Option (Bool×Nat)
 |st,[]=>some st
 |st,s::r=>(match auS ns st s with
  |none=>none
  |some st'=>zBM ns st' r)
theorem zDt(ns:List OpR):∀(a b:List SyR)(st:Bool×Nat),zBM ns st (a++b)=(match zBM ns st a with
  |none=>none
  |some st'=>zBM ns st' b)
 |[],b,st=>rfl
 |s::r,b,st=>by
  simp only[List.cons_append,zBM];cases auS ns st s with
  |none=>rfl
  |some st'=>exact zDt ns r b st'
theorem zFV{s:SyR}(h:auS ns (false,d) s=some st):((s.1=1\/s.1=2)/\st=(true,d))\/(s.1=3/\knB ns s=true/\st=(false,d))\/(s=(6,opn)/\st=(false,d+1)):=by
 unfold auS at h;simp only[if_true] at h;split at h
 ·injection h with h;exact yS ⟨Ja,h.symm⟩
 ·split at h
  ·rename_i hc;injection h with h;exact yU (yS ⟨hc.1,hc.2,h.symm⟩)
  ·split at h
   ·rename_i hc;injection h with h;exact yU (yU ⟨zUh hc,h.symm⟩)
   ·cases h
theorem zG9{s:SyR}(h:auS ns (true,d) s=some st):(s.1=4/\knB ns s=true/\st=(false,d))\/(s.1=5/\knB ns s=true/\st=(true,d))\/(s=(7,zCI)/\0<d/\st=(true,d-1)):=by
 unfold auS at h;simp only[Bool.true_eq_false,if_false] at h;split at h
 ·rename_i hc;injection h with h;exact yS ⟨hc.1,hc.2,h.symm⟩
 ·split at h
  ·rename_i hc;injection h with h;exact yU (yS ⟨hc.1,hc.2,h.symm⟩)
  ·split at h
   ·rename_i hc;injection h with h;exact yU (yU ⟨zUi hc.1,hc.2,h.symm⟩)
   ·cases h
theorem zQK{s:SyR}(h:s.1=1\/s.1=2):auS ns (false,d) s=some (true,d):=by
 unfold auS;simp only[if_true];rw[yQ h]
theorem zSb{s:SyR}(h:s.1=3)(hk:knB ns s=true):auS ns (false,d) s=some (false,d):=by
 unfold auS;simp only[if_true];rw[yP Jo,yQ ⟨h,hk⟩]
theorem zQL:auS ns (false,d) (6,opn)=some (false,d+1):=by
 unfold auS;simp[zUf]
theorem zSc{s:SyR}(h:s.1=4)(hk:knB ns s=true):auS ns (true,d) s=some (false,d):=by
 unfold auS;simp only[Bool.true_eq_false,if_false];rw[yQ ⟨h,hk⟩]
theorem zQM{s:SyR}(h:s.1=5)(hk:knB ns s=true):auS ns (true,d) s=some (true,d):=by
 unfold auS;simp only[Bool.true_eq_false,if_false];rw[yP Jo,yQ ⟨h,hk⟩]
theorem zNi:auS ns (true,d+1) (7,zCI)=some (true,d):=by
 unfold auS;simp[zUg]
def eoS:SyR:=(8,ByteArray.empty)
def zAJ(ns:List OpR)(st:Bool×Nat)(ss:List SyR):Prop:=∃q,ss=q++[eoS]/\zBM ns st q=some (true,0)
theorem zDU(h:zAJ ns st []):False:=by
 obtain⟨q,h,_⟩:=h;simp at h
theorem zLD{s:SyR}{r:List SyR}(h:zAJ ns st (s::r)):(s=eoS/\r=[]/\st=(true,0))\/∃st',auS ns st s=some st'/\zAJ ns st' r:=by
 obtain⟨q,h,hr⟩:=h;cases q with
 |nil=>
  simp only[List.nil_append] at h;injection h with h1 h2;simp only[zBM,Option.some.injEq] at hr;exact yS ⟨h1,h2,hr⟩
 |cons a q=>
  rw[List.cons_append] at h;injection h with h1 h2;subst h1;simp only[zBM] at hr;cases e:auS ns st s with
  |none=>rw[e] at hr;cases hr
  |some st'=>rw[e] at hr;exact yU ⟨st',rfl,q,h2,hr⟩
theorem zDV{s:SyR}{r:List SyR}(h:zAJ ns (false,d) (s::r)):((s.1=1\/s.1=2)/\zAJ ns (true,d) r)\/(s.1=3/\knB ns s=true/\zAJ ns (false,d) r)\/(s=(6,opn)/\zAJ ns (false,d+1) r):=by
 rcases zLD h with⟨_,_,h⟩|⟨st',h1,h2⟩
 ·cases h
 ·rcases zFV h1 with⟨a,rfl⟩|⟨a,b,rfl⟩|⟨a,rfl⟩
  ·exact yS ⟨a,h2⟩
  ·exact yU (yS ⟨a,b,h2⟩)
  ·exact yU (yU ⟨a,h2⟩)
theorem zBw{s:SyR}{r:List SyR}(h:zAJ ns (true,d) (s::r)):(s=eoS/\r=[]/\d=0)\/(s.1=4/\knB ns s=true/\zAJ ns (false,d) r)\/(s.1=5/\knB ns s=true/\zAJ ns (true,d) r)\/(s=(7,zCI)/\0<d/\zAJ ns (true,d-1) r):=by
 rcases zLD h with⟨h1,h2,h3⟩|⟨st',h1,h2⟩
 ·simp only[Prod.mk.injEq,true_and] at h3;exact yS ⟨h1,h2,h3⟩
 ·rcases zG9 h1 with⟨a,b,rfl⟩|⟨a,b,rfl⟩|⟨a,b,rfl⟩
  ·exact yU (yS ⟨a,b,h2⟩)
  ·exact yU (yU (yS ⟨a,b,h2⟩))
  ·exact yU (yU (yU ⟨a,b,h2⟩))
def yM:Option ET->List SyR
 |none=>[]
 |some T=>ySy T
theorem zAG{ns:List OpR}(hv:zO ns 0):∀(n:Nat)(least:Int)(md:Option ET)(ss:List SyR)(d:Nat)(x:ET×List SyR),least<=1001->zAJ ns (md.isSome,d) ss->(∀L,md=some L->zn ns L/\least<=lvT ns L)->rd ns n least md ss=some x ->
  zAJ ns (true,d) x.2/\zn ns x.1/\least<=lvT ns x.1/\zIH ns least x.2/\yM md++ss=ySy x.1++x.2
 |0,_,_,_,_,_,_,_,_,h=>by simp[rd] at h
 |n+1,least,none,[],d,x,_,hf,_,h=>(zDU hf).elim
 |n+1,least,some T,[],d,x,_,hf,_,h=>(zDU hf).elim
 |n+1,least,none,s::r,d,x,hl,hf,hm,h=>by
  simp only[rd] at h;rcases zDV hf with⟨hs,H⟩|⟨hs,hk,H⟩|⟨hs,H⟩
  ·rw[yP Jo,yP Jo] at h;have k:lvT ns (.node s.1 0 s.2 .nil .nil)=1001:=zBX ns _ _ Jo;have:=zAG hv n least (some (.node s.1 0 s.2 .nil .nil)) r d x hl H (fun L e=>by
    injection e with e;subst e
    exact⟨⟨rfl,yS ⟨hs,rfl,rfl⟩⟩,Jo⟩) h
   refine⟨this.1,this.2.1,this.2.2.1,this.2.2.2.1,?_⟩;rw[<-this.2.2.2.2];simp only[yM,ySy];rw[yP Jo,yP Jo,yP Jo,yP Jo];rfl
  ·rw[yQ hs] at h;have f:=(opF hv (s:=s) (yS hs) hk);have fp:=f.pre hs;have fh:=f.hi;split at h
   ·cases h
   ·rename_i X;split at h
    ·cases h
    ·rename_i y hy;obtain⟨a1,a2,a3,a4,a5⟩:=zAG hv n _ none r d y Jo H (fun L e=>by cases e) hy;have es:((3,s.2):SyR)=s:=Prod.ext hs.symm rfl;have k:lvT ns (.node 3 0 s.2 y.1 .nil)=sLv ns s:=by simp only[lvT,es]
     have:=zAG hv n least (some (.node 3 0 s.2 y.1 .nil)) y.2 d x hl a1 (fun L e=>by
      injection e with e;subst e
      exact⟨⟨rfl,yU (yU (yS ⟨yS rfl,by rw[es];exact hk,a2,rfl,by rw[es];exact a3⟩))⟩,Jo⟩) h
     refine⟨this.1,this.2.1,this.2.2.1,this.2.2.2.1,?_⟩;rw[<-this.2.2.2.2];simp only[yM,List.nil_append] at a5 ⊢;rw[a5];simp[ySy,es]
  ·subst hs;simp only at h;rw[yP Jd,yQ trivial] at h;split at h
   ·cases h
   ·rename_i y hy;obtain⟨a1,a2,a3,a4,a5⟩:=zAG hv n 0 none r (d+1) y Jo H (fun L e=>by cases e) hy;obtain⟨T,q⟩:=y;simp only at a1 a2 a3 a4 a5 h;cases q with
    |nil=>exact(zDU a1).elim
    |cons z q=>
     have hz:z=(7,zCI)/\zAJ ns (true,d) q:=by
      rcases zBw a1 with⟨_,_,h0⟩|⟨h4,Q,_⟩|⟨h5,Q,_⟩|⟨h7,_,h8⟩
      ·omega
      ·have:=a4 z q rfl (yS h4);have:=(opF hv (s:=z) (yU (yS h4)) Q).lo;omega
      ·have:=a4 z q rfl (yU h5);have:=(opF hv (s:=z) (yU (yU h5)) Q).lo;omega
      ·exact⟨h7,h8⟩
     obtain⟨rfl,hq⟩:=hz;simp only[List.tail_cons] at h;have k:lvT ns (.node 6 0 ByteArray.empty T .nil)=1001:=zBX ns _ _ Jo;have:=zAG hv n least (some (.node 6 0 ByteArray.empty T .nil)) q d x hl hq (fun L e=>by
      injection e with e;subst e
      exact⟨⟨rfl,yU (yS ⟨rfl,rfl,a2,rfl⟩)⟩,Jo⟩) h
     refine⟨this.1,this.2.1,this.2.2.1,this.2.2.2.1,?_⟩;rw[<-this.2.2.2.2];simp only[yM,List.nil_append] at a5 ⊢;rw[a5];simp[ySy]
 |n+1,least,some T,s::r,d,x,hl,hf,hm,h=>by
  obtain⟨hT,Y⟩:=hm T rfl;simp only[rd] at h;have stop:(¬ (s.1=4/\least<=sLv ns s))->(¬ (s.1=5/\least<=sLv ns s))->zAJ ns (true,d) x.2/\zn ns x.1/\least<=lvT ns x.1/\zIH ns least x.2/\yM (some T)++s::r=ySy x.1++x.2:=fun c1 c2=>by
   rw[yP c1,yP c2] at h;injection h with h;subst h;refine⟨hf,hT,Y,fun s' r' e hs=>?_,rfl⟩;injection e with e1 e2;subst e1;omega
  by_cases c1:s.1=4/\least<=sLv ns s
  ·rw[yQ c1] at h;have K:knB ns s=true/\zAJ ns (false,d) r:=by
    rcases zBw hf with⟨h1,_⟩|⟨_,h1,h2⟩|⟨h1,_⟩|⟨h1,_⟩
    ·rw[h1] at c1;exact yR c1.1 Jd
    ·exact⟨h1,h2⟩
    ·omega
    ·rw[h1] at c1;exact yR c1.1 Jd
   obtain⟨hk,H⟩:=K;have f:=(opF hv (s:=s) (yU (yS c1.1)) hk);have fp:=f.mid c1.1;have fh:=f.hi;split at h
   ·cases h
   ·rename_i X;split at h
    ·cases h
    ·rename_i y hy;obtain⟨a1,a2,a3,a4,a5⟩:=zAG hv n _ none r d y Jo H (fun L e=>by cases e) hy;have es:((4,s.2):SyR)=s:=Prod.ext c1.1.symm rfl;have k:lvT ns (.node 4 0 s.2 T y.1)=sLv ns s:=by simp only[lvT,es]
     have:=zAG hv n least (some (.node 4 0 s.2 T y.1)) y.2 d x hl a1 (fun L e=>by
      injection e with e;subst e
      exact⟨⟨rfl,yU (yU (yU ⟨rfl,by rw[es];exact hk,hT,a2,by rw[es];omega,by rw[es];exact a3⟩))⟩,Jo⟩) h
     refine⟨this.1,this.2.1,this.2.2.1,this.2.2.2.1,?_⟩;rw[<-this.2.2.2.2];simp only[yM,List.nil_append] at a5 ⊢;rw[a5];simp[ySy,es]
  ·by_cases c2:s.1=5/\least<=sLv ns s
   ·rw[yP c1,yQ c2] at h;have K:knB ns s=true/\zAJ ns (true,d) r:=by
     rcases zBw hf with⟨h1,_⟩|⟨h1,_⟩|⟨_,h1,h2⟩|⟨h1,_⟩
     ·rw[h1] at c2;exact yR c2.1 Jd
     ·omega
     ·exact⟨h1,h2⟩
     ·rw[h1] at c2;exact yR c2.1 Jd
    obtain⟨hk,H⟩:=K;have f:=(opF hv (s:=s) (yU (yU c2.1)) hk);split at h
    ·cases h
    ·rename_i X;have es:((5,s.2):SyR)=s:=Prod.ext c2.1.symm rfl;have k:lvT ns (.node 5 0 s.2 T .nil)=sLv ns s:=by simp only[lvT,es]
     have:=zAG hv n least (some (.node 5 0 s.2 T .nil)) r d x hl H (fun L e=>by
      injection e with e;subst e
      exact⟨⟨rfl,yU (yU (yS ⟨yU rfl,by rw[es];exact hk,hT,rfl,by rw[es];omega⟩))⟩,Jo⟩) h
     refine⟨this.1,this.2.1,this.2.2.1,this.2.2.2.1,?_⟩;rw[<-this.2.2.2.2];simp[yM,ySy,es]
   ·exact stop c1 c2
theorem zWM(hv:zO ns 0){ss:List SyR}(hf:zBM ns (false,0) ss=some (true,0))(T:ET):(zn ns T/\ySy T=ss)↔RD ns 0 none (ss++[eoS])=some (T,[eoS]):=by
 constructor
 ·rintro⟨hT,rfl⟩;have h0:(0:Int)<=lvT ns T:=by
   cases T with
   |nil=>exact hT.elim
   |node bb oo tt ll rr=>
    simp only[lvT];by_cases hb:bb=3\/bb=4\/bb=5
    ·have H:knB ns (bb,tt)=true:=by
      rcases hT.2 with⟨h|h,_⟩|⟨h,_⟩|⟨_,hk,_⟩|⟨_,hk,_⟩
      ·omega
      ·omega
      ·omega
      ·exact hk
      ·exact hk
     have:=(opF hv (s:=(bb,tt)) hb H).lo;omega
    ·rw[zBX ns bb tt hb];omega
  have hn:¬ (eoS.1=4\/eoS.1=5):=Jd;rw[zSa hv T hT 0 [eoS] h0 (zDs hn T),zIu (zEx hn)]
 ·intro h;obtain⟨_,a2,_,_,a5⟩:=zAG hv _ 0 none (ss++[eoS]) 0 (T,[eoS]) Jo ⟨ss,rfl,hf⟩ (fun L e=>by cases e) h;refine⟨a2,?_⟩;simp only[yM,List.nil_append] at a5;exact(List.append_cancel_right a5).symm
theorem zWN(hv:zO ns 0){ss:List SyR}(hf:zBM ns (false,0) ss=some (true,0)){x:ET×List SyR}(h:RD ns 0 none (ss++[eoS])=some x):x.2=[eoS]:=by
 obtain⟨a1,_,_,a4,_⟩:=zAG hv _ 0 none (ss++[eoS]) 0 x Jo ⟨ss,rfl,hf⟩ (fun L e=>by cases e) h;obtain⟨T,q⟩:=x;simp only at a1 a4 ⊢;cases q with
 |nil=>exact(zDU a1).elim
 |cons z q=>
  rcases zBw a1 with⟨h1,h2,_⟩|⟨h4,H,_⟩|⟨h5,H,_⟩|⟨_,h7,_⟩
  ·rw[h1,h2]
  ·have:=a4 z q rfl (yS h4);have:=(opF hv (s:=z) (yU (yS h4)) H).lo;omega
  ·have:=a4 z q rfl (yU h5);have:=(opF hv (s:=z) (yU (yU h5)) H).lo;omega
  ·omega
def opS(op:Int)(s:SyR):Int:=op+(if s.1=6 then 1 else 0)-(if s.1=7 then 1 else 0)
def opL(op:Int)(ss:List SyR):Int:=ss.foldl opS op
def zB9(ns:List OpR)(h:Option (Nat×SyR))(x:Nat×SyR):Option (Nat×SyR):=match h with
 |none=>some x
 |some b=>if sLv ns x.2<sLv ns b.2\/(sLv ns x.2=sLv ns b.2/\sSo ns x.2≠2) then some x else some b
def rtF(ns:List OpR):List SyR->Nat->Int->Option (Nat×SyR)->Option (Nat×SyR)
 |[],_,_,best=>best
 |s::r,i,op,best=>rtF ns r (i+1) (opS op s) (if opS op s≠0\/¬ (3<=s.1/\s.1<=5) then best else zB9 ns best (i,s))
theorem zDW(op:Int)(a b:List SyR):opL op (a++b)=opL (opL op a) b:=by simp[opL]
theorem zAH(op:Int)(s:SyR)(r:List SyR):opL op (s::r)=opL (opS op s) r:=rfl
theorem ZY(ns:List OpR):∀(a b:List SyR)(i:Nat)(op:Int)(h:Option (Nat×SyR)),rtF ns (a++b) i op h=rtF ns b (i+a.length) (opL op a) (rtF ns a i op h)
 |[],b,i,op,h=>rfl
 |s::r,b,i,op,h=>by
  simp only[List.cons_append,rtF,yy,zAH];rw[ZY ns r b];congr 1;omega
theorem ZB{op:Int}{s:SyR}(h:s.1≠6/\s.1≠7):opS op s=op:=by
 unfold opS;rw[yP h.1,yP h.2];omega
theorem zCg{op:Int}:opS op (6,opn)=op+1:=by simp[opS]
theorem zFy{op:Int}:opS op (7,zCI)=op-1:=by simp[opS]
theorem zCA{b:Nat}(h:b=1\/b=2):ySy (.node b 0 t .nil .nil)=[(b,t)]:=by
 simp only[ySy];rw[yP Jo,yP Jo,yP Jo,yP Jo]
theorem zC5{l r:ET}:ySy (.node 6 0 t l r)=(6,opn)::(ySy l++[(7,zCI)]):=by simp[ySy]
theorem zCY{l r:ET}:ySy (.node 3 0 t l r)=(3,t)::ySy l:=by simp[ySy]
theorem zCB{l r:ET}:ySy (.node 5 0 t l r)=ySy l++[(5,t)]:=by simp[ySy]
theorem zDu{l r:ET}:ySy (.node 4 0 t l r)=ySy l++((4,t)::ySy r):=by simp[ySy]
theorem zCh:∀(T:ET),zn ns T->∀op,opL op (ySy T)=op:=by
 intro T;induction T with
 |nil=>intro h;exact h.elim
 |node b o t l r ihl ihr=>
  rintro⟨rfl,h⟩ op;rcases h with⟨k,rfl,rfl⟩|⟨rfl,rfl,hl,rfl⟩|⟨H,hk,hl,rfl,hh⟩|⟨rfl,hk,hl,hr,h1,h2⟩
  ·rw[zCA k,zAH,ZB ⟨Jq,Jq⟩];rfl
  ·rw[zC5,zAH,zCg,zDW,ihl hl,zAH,zFy];show op+1-1=op;omega
  ·rcases H with rfl|rfl
   ·rw[zCY,zAH,ZB ⟨Js,Js⟩,ihl hl]
   ·rw[zCB,zDW,ihl hl,zAH,ZB ⟨Js,Js⟩];rfl
  ·rw[zDu,zDW,ihl hl,zAH,ZB ⟨Js,Js⟩,ihr hr]
theorem zGZ:∀(T:ET),zn ns T->∀(i:Nat)(op:Int) H,0<op->rtF ns (ySy T) i op H=H:=by
 intro T;induction T with
 |nil=>intro h;exact h.elim
 |node b o t l r ihl ihr=>
  rintro⟨rfl,h⟩ i op H hop;rcases h with⟨K,rfl,rfl⟩|⟨rfl,rfl,hl,rfl⟩|⟨k,hk,hl,rfl,hh⟩|⟨rfl,hk,hl,hr,h1,h2⟩
  ·rw[zCA K];simp only[rtF];rw[yQ];exact yU Jq
  ·rw[zC5];simp only[rtF];rw[zCg,yQ (yS (by omega)),ZY,ihl hl _ _ _ (by omega)];simp[rtF]
  ·rcases k with rfl|rfl
   ·rw[zCY];simp only[rtF];rw[ZB ⟨Js,Js⟩,yQ (yS Jo),ihl hl _ _ _ hop]
   ·rw[zCB,ZY,ihl hl _ _ _ hop,zCh l hl];simp only[rtF];rw[ZB ⟨Js,Js⟩,yQ (yS Jo)]
  ·rw[zDu,ZY,ihl hl _ _ _ hop,zCh l hl];simp only[rtF];rw[ZB ⟨Js,Js⟩,yQ (yS Jo),ihr hr _ _ _ hop]
theorem zNj(hv:zO ns 0)(b0:Nat×SyR)(hb:b0.2.1=3\/b0.2.1=4\/b0.2.1=5)(k:knB ns b0.2=true):∀(T:ET),zn ns T->∀(i:Nat),(sLv ns b0.2<lvT ns T\/(sLv ns b0.2<=lvT ns T/\sSo ns b0.2=2))->rtF ns (ySy T) i 0 (some b0)=some b0:=by
 intro T;induction T with
 |nil=>intro h;exact h.elim
 |node b o t l r ihl ihr=>
  rintro⟨rfl,h⟩ i hlv;simp only[lvT] at hlv;have pk:∀(j:Nat)(s:SyR),(s.1=3\/s.1=4\/s.1=5)->knB ns s=true->(sLv ns b0.2<sLv ns s\/(sLv ns b0.2<=sLv ns s/\sSo ns b0.2=2))->zB9 ns (some b0) (j,s)=some b0:=fun j s hs hk hc=>by
   simp only[zB9];rw[yP];rintro(h|⟨h1,h2⟩)
   ·omega
   ·have:=zHi hv hs hb hk k h1;omega
  rcases h with⟨K,rfl,rfl⟩|⟨rfl,rfl,hl,rfl⟩|⟨H,hk,hl,rfl,hh⟩|⟨rfl,hk,hl,hr,h1,h2⟩
  ·rw[zCA K];simp only[rtF];rw[yQ (yU Jq)]
  ·rw[zC5];simp only[rtF];rw[zCg,yQ (yS (by omega)),ZY,zGZ l hl _ _ _ (by omega)];simp[rtF]
  ·rcases H with rfl|rfl
   ·have f:=(opF hv (yS rfl) hk).pre rfl;rw[zCY];simp only[rtF];rw[ZB ⟨Js,Js⟩,yP Js,pk _ _ (yS rfl) hk hlv];exact ihl hl _ Jo
   ·have f:=(opF hv (yU (yU rfl)) hk).post rfl;rw[zCB,ZY,ihl hl _ (by omega),zCh l hl];simp only[rtF];rw[ZB ⟨Js,Js⟩,yP Js,pk _ _ (yU (yU rfl)) hk hlv]
  ·have f:=(opF hv (yU (yS rfl)) hk).mid rfl;rw[zDu,ZY,ihl hl _ (by omega),zCh l hl];simp only[rtF];rw[ZB ⟨Js,Js⟩,yP Js,pk _ _ (yU (yS rfl)) hk hlv];exact ihr hr _ Jo
def zFz(ns:List OpR)(m:Int)(h:Option (Nat×SyR)):Prop:=∀b,h=some b->m<=sLv ns b.2
theorem zQN(hv:zO ns 0)(m:Int):∀(T:ET),zn ns T->∀(i:Nat) H,m<=lvT ns T->zFz ns m H->zFz ns m (rtF ns (ySy T) i 0 H):=by
 intro T;induction T with
 |nil=>intro h;exact h.elim
 |node b o t l r ihl ihr=>
  rintro⟨rfl,h⟩ i H k hb;simp only[lvT] at k;have pk:∀(j:Nat)(s:SyR) H,m<=sLv ns s->zFz ns m H->zFz ns m (zB9 ns H (j,s)):=fun j s H hs hb x hx=>by
   cases H with
   |none=>simp only[zB9,Option.some.injEq] at hx;subst hx;exact hs
   |some y=>
    simp only[zB9] at hx;split at hx
    ·simp only[Option.some.injEq] at hx;subst hx;exact hs
    ·exact hb x hx
  rcases h with⟨q,rfl,rfl⟩|⟨rfl,rfl,hl,rfl⟩|⟨K,hk,hl,rfl,hh⟩|⟨rfl,hk,hl,hr,h1,h2⟩
  ·rw[zCA q];simp only[rtF];rw[yQ (yU Jq)];exact hb
  ·rw[zC5];simp only[rtF];rw[zCg,yQ (yS (by omega)),ZY,zGZ l hl _ _ _ (by omega)];simpa[rtF] using hb
  ·rcases K with rfl|rfl
   ·have f:=(opF hv (yS rfl) hk).pre rfl;rw[zCY];simp only[rtF];rw[ZB ⟨Js,Js⟩,yP Js];exact ihl hl _ _ Jo (pk _ _ _ k hb)
   ·have f:=(opF hv (yU (yU rfl)) hk).post rfl;rw[zCB,ZY,zCh l hl];simp only[rtF];rw[ZB ⟨Js,Js⟩,yP Js];exact pk _ _ _ k (ihl hl _ _ Jo hb)
  ·have f:=(opF hv (yU (yS rfl)) hk).mid rfl;rw[zDu,ZY,zCh l hl];simp only[rtF];rw[ZB ⟨Js,Js⟩,yP Js];exact ihr hr _ _ Jo (pk _ _ _ k (ihl hl _ _ Jo hb))
def zCJ(ns:List OpR)(b:Nat)(t:JZ)(l r:ET):Bool:=decide (sH ns (b,t) false<=lvT ns l)&&(decide (b≠4)||decide (sH ns (b,t) true<=lvT ns r))
def bld(ns:List OpR):Nat->List SyR->Option ET
 |0,_=>none
 |n+1,ss=>match rtF ns ss 0 0 none with
  |none=>(match ss with
   |[]=>none
   |s::r=>if s.1=6 then(bld ns n r.dropLast).map (fun T=>.node 6 0 ByteArray.empty T .nil) else some (.node s.1 0 s.2 .nil .nil))
  |some x=>
   if(x.2.1=3/\x.1≠0)\/(x.2.1=5/\x.1+1≠ss.length) then none
   else if x.2.1=3 then(match bld ns n (ss.drop 1) with
    |none=>none
    |some T=>if zCJ ns 3 x.2.2 T .nil then some (.node 3 0 x.2.2 T .nil) else none)
   else if x.2.1=5 then(match bld ns n (ss.take x.1) with
    |none=>none
    |some T=>if zCJ ns 5 x.2.2 T .nil then some (.node 5 0 x.2.2 T .nil) else none)
   else(match bld ns n (ss.take x.1) with
    |none=>none
    |some T=>(match bld ns n (ss.drop (x.1+1)) with
     |none=>none
     |some T2=>if zCJ ns 4 x.2.2 T T2 then some (.node 4 0 x.2.2 T T2) else none))
theorem zNk{m:Int}:zFz ns m none:=fun b e=>by cases e
theorem zLE{m:Int}{H:Option (Nat×SyR)}{x:Nat×SyR}(h:zFz ns m H)(hc:sLv ns x.2<m\/(sLv ns x.2<=m/\sSo ns x.2≠2)):zB9 ns H x=some x:=by
 cases H with
 |none=>rfl
 |some b=>
  have:=h b rfl;simp only[zB9];rw[yQ];by_cases e:sLv ns x.2<sLv ns b.2
  ·exact yS e
  ·refine yU ⟨Jo,?_⟩;rcases hc with hc|hc
   ·omega
   ·exact hc.2
theorem zQ2(hv:zO ns 0):∀(T:ET),zn ns T->∀n,tsz T<=n->bld ns n (ySy T)=some T:=by
 intro T;induction T with
 |nil=>intro h;exact h.elim
 |node b o t l r ihl ihr=>
  rintro⟨rfl,h⟩ n hn;simp only[tsz] at hn;obtain⟨n,rfl⟩:∃m,n=m+1:=⟨n-1,Jo⟩;rcases h with⟨k,rfl,rfl⟩|⟨rfl,rfl,hl,rfl⟩|⟨H,hk,hl,rfl,hh⟩|⟨rfl,hk,hl,hr,h1,h2⟩
  ·have e:rtF ns [(b,t)] 0 0 none=none:=by
    simp only[rtF];rw[yQ (yU Jq)]
   rw[zCA k];simp only[bld,e];rw[yP Jo]
  ·have e:rtF ns ((6,opn)::(ySy l++[(7,zCI)])) 0 0 none=none:=by
    simp only[rtF];rw[zCg,yQ (yS (by omega)),ZY,zGZ l hl _ _ _ (by omega)];simp[rtF]
   rw[zC5];simp only[bld,e];rw[yQ trivial,List.dropLast_concat,ihl hl n Jo];rfl
  ·rcases H with rfl|rfl
   ·have f:=(opF hv (yS rfl) hk).pre rfl;have e:rtF ns ((3,t)::ySy l) 0 0 none=some (0,(3,t)):=by
     simp only[rtF];rw[ZB ⟨Js,Js⟩,yP Js];exact zNj hv (0,(3,t)) (yS rfl) hk l hl _ (yU ⟨by show sLv ns (3,t)<=_;omega,f.2⟩)
    rw[zCY];simp only[bld,e];rw[yP Js,yQ trivial,List.drop_succ_cons,List.drop_zero,ihl hl n Jo];simp[zCJ,hh]
   ·have f:=(opF hv (yU (yU rfl)) hk).post rfl;have e:rtF ns (ySy l++[(5,t)]) 0 0 none=some ((ySy l).length,(5,t)):=by
     rw[ZY,zCh l hl];simp only[rtF];rw[ZB ⟨Js,Js⟩,yP Js,yY];exact zLE (zQN hv (sH ns (5,t) false) l hl 0 none hh zNk) (yU ⟨by show sLv ns (5,t)<=_;omega,by show sSo ns (5,t)≠2;omega⟩)
    rw[zCB];simp only[bld,e];rw[yP Js,yP Jd,yQ trivial,List.take_left,ihl hl n Jo];simp[zCJ,hh]
  ·have f:=(opF hv (yU (yS rfl)) hk).mid rfl;have e:rtF ns (ySy l++((4,t)::ySy r)) 0 0 none=some ((ySy l).length,(4,t)):=by
    rw[ZY,zCh l hl];simp only[rtF];rw[ZB ⟨Js,Js⟩,yP Js,yY,zLE (zQN hv (sH ns (4,t) false) l hl 0 none h1 zNk) (by show sLv ns (4,t)<_\/(sLv ns (4,t)<=_/\sSo ns (4,t)≠2);omega)];exact zNj hv ((ySy l).length,(4,t)) (yU (yS rfl)) hk r hr _ (by show sLv ns (4,t)<_\/(sLv ns (4,t)<=_/\sSo ns (4,t)=2);omega)
   rw[zDu];simp only[bld,e];rw[yP Js,yP Jd,yP Jd,List.take_left,ihl hl n Jo];have ed:(ySy l++(4,t)::ySy r).drop ((ySy l).length+1)=ySy r:=by
    have:ySy l++(4,t)::ySy r=(ySy l++[(4,t)])++ySy r:=Js;rw[this];exact List.drop_left' Js
   simp only[ed,ihr hr n Jo];simp[zCJ,h1,h2]
theorem zJj{ns:List OpR}:∀(ss:List SyR)(i:Nat)(op:Int) best x,rtF ns ss i op best=some x->best=some x\/∃L R,ss=L++x.2::R/\x.1=i+L.length/\(3<=x.2.1/\x.2.1<=5)/\opL op L=0
 |[],i,op,best,x,h=>yS h
 |s::r,i,op,best,x,h=>by
  simp only[rtF] at h;have lift:(∃L R,r=L++x.2::R/\x.1=i+1+L.length/\(3<=x.2.1/\x.2.1<=5)/\opL (opS op s) L=0)->∃L R,s::r=L++x.2::R/\x.1=i+L.length/\(3<=x.2.1/\x.2.1<=5)/\opL op L=0:=by
   rintro⟨L,R,rfl,h1,h2,h3⟩;exact⟨s::L,R,rfl,Jq,h2,h3⟩
  rcases zJj r _ _ _ x h with hb|h'
  ·split at hb
   ·exact yS hb
   ·rename_i hc;have k:3<=s.1/\s.1<=5:=Decidable.byContradiction fun h=>hc (yU h)
    have H:opS op s=0:=Decidable.byContradiction fun h=>hc (yS h)
    have here:x=(i,s)->∃L R,s::r=L++x.2::R/\x.1=i+L.length/\(3<=x.2.1/\x.2.1<=5)/\opL op L=0:=by
     rintro rfl;exact⟨[],r,rfl,Js,k,by rw[ZB ⟨Jo,Jo⟩] at H;exact H⟩
    cases best with
    |none=>simp only[zB9,Option.some.injEq] at hb;exact yU (here hb.symm)
    |some y=>
     simp only[zB9] at hb;split at hb
     ·simp only[Option.some.injEq] at hb;exact yU (here hb.symm)
     ·exact yS hb
  ·exact yU (lift h')
theorem zHj{ns:List OpR}:∀(ss:List SyR)(i:Nat)(op:Int) b,rtF ns ss i op (some b)≠none
 |[],i,op,b,h=>by cases h
 |s::r,i,op,b,h=>by
  simp only[rtF] at h;split at h
  ·exact zHj r _ _ _ h
  ·simp only[zB9] at h;split at h
   ·exact zHj r _ _ _ h
   ·exact zHj r _ _ _ h
theorem zO9{L R:List SyR}{s:SyR}(hs:3<=s.1/\s.1<=5)(ho:opL 0 L=0):rtF ns (L++s::R) 0 0 none≠none:=by
 rw[ZY,ho];simp only[rtF];rw[ZB ⟨Jo,Jo⟩,yP (fun h=>by rcases h with h|h;exact h rfl;exact h hs)];cases rtF ns L 0 0 none with
 |none=>exact zHj _ _ _ _
 |some b=>
  simp only[zB9];split
  ·exact zHj _ _ _ _
  ·exact zHj _ _ _ _
theorem zL7{ns:List OpR}:∀(ss:List SyR)(st st':Bool×Nat),zBM ns st ss=some st'->opL (st.2:Int) ss=(st'.2:Int)
 |[],st,st',h=>by simp only[zBM,Option.some.injEq] at h;subst h;rfl
 |s::r,(false,d),st',h=>by
  simp only[zBM] at h;cases e:auS ns (false,d) s with
  |none=>rw[e] at h;cases h
  |some s1=>
   rw[e] at h;have:=zL7 r s1 st' h;rw[zAH];rcases zFV e with⟨a,rfl⟩|⟨a,_,rfl⟩|⟨rfl,rfl⟩
   ·rw[ZB ⟨Jo,Jo⟩];exact this
   ·rw[ZB ⟨Jo,Jo⟩];exact this
   ·rw[zCg];simpa using this
 |s::r,(true,d),st',h=>by
  simp only[zBM] at h;cases e:auS ns (true,d) s with
  |none=>rw[e] at h;cases h
  |some s1=>
   rw[e] at h;have:=zL7 r s1 st' h;rw[zAH];rcases zG9 e with⟨a,_,rfl⟩|⟨a,_,rfl⟩|⟨rfl,hd,rfl⟩
   ·rw[ZB ⟨Jo,Jo⟩];exact this
   ·rw[ZB ⟨Jo,Jo⟩];exact this
   ·rw[zFy];have e2:((d-1:Nat):Int)=(d:Int)-1:=Jo;simpa[e2] using this
theorem zBN{ns:List OpR}:∀(r:List SyR)(bh:Bool)(d j:Nat)(st:Bool×Nat),zBM ns (bh,d+1+j) r=some st->st.2<=d->∃r1 r2,r=r1++(7,zCI)::r2/\zBM ns (bh,j) r1=some (true,0)/\zBM ns (true,d) r2=some st
 |[],bh,d,j,st,h,hd=>by
  simp only[zBM,Option.some.injEq] at h;subst h;simp only at hd;omega
 |s::r,false,d,j,st,h,hd=>by
  simp only[zBM] at h;cases e:auS ns (false,d+1+j) s with
  |none=>rw[e] at h;cases h
  |some s1=>
   rw[e] at h;simp only at h;rcases zFV e with⟨a,rfl⟩|⟨a,hk,rfl⟩|⟨rfl,rfl⟩
   ·obtain⟨r1,r2,rfl,h1,h2⟩:=zBN r true d j st h hd;exact⟨s::r1,r2,rfl,by simp only[zBM,zQK a];exact h1,h2⟩
   ·obtain⟨r1,r2,rfl,h1,h2⟩:=zBN r false d j st h hd;exact⟨s::r1,r2,rfl,by simp only[zBM,zSb a hk];exact h1,h2⟩
   ·obtain⟨r1,r2,rfl,h1,h2⟩:=zBN r false d (j+1) st h hd;exact⟨(6,opn)::r1,r2,rfl,by simp only[zBM,zQL];exact h1,h2⟩
 |s::r,true,d,j,st,h,hd=>by
  simp only[zBM] at h;cases e:auS ns (true,d+1+j) s with
  |none=>rw[e] at h;cases h
  |some s1=>
   rw[e] at h;simp only at h;rcases zG9 e with⟨a,hk,rfl⟩|⟨a,hk,rfl⟩|⟨rfl,_,rfl⟩
   ·obtain⟨r1,r2,rfl,h1,h2⟩:=zBN r false d j st h hd;exact⟨s::r1,r2,rfl,by simp only[zBM,zSc a hk];exact h1,h2⟩
   ·obtain⟨r1,r2,rfl,h1,h2⟩:=zBN r true d j st h hd;exact⟨s::r1,r2,rfl,by simp only[zBM,zQM a hk];exact h1,h2⟩
   ·cases j with
    |zero=>exact⟨[],r,rfl,rfl,Ju h⟩
    |succ j=>
     have e2:d+1+(j+1)-1=d+1+j:=Jo;rw[e2] at h;obtain⟨r1,r2,rfl,h1,h2⟩:=zBN r true d j st h hd;exact⟨(7,zCI)::r1,r2,rfl,by simp only[zBM,zNi];exact h1,h2⟩
def Seg(ns:List OpR)(ss:List SyR):Prop:=zBM ns (false,0) ss=some (true,0)
theorem Seg.ne{ss:List SyR}(h:Seg ns ss):ss≠[]:=fun e=>by
 subst e;unfold Seg at h;simp[zBM] at h
theorem zNl{ss:List SyR}(h:Seg ns ss)(hr:rtF ns ss 0 0 none=none):(∃s,(s.1=1\/s.1=2)/\ss=[s])\/∃q,ss=(6,opn)::(q++[(7,zCI)])/\Seg ns q:=by
 have H:∀(L R:List SyR),ss=L++R->opL 0 L=0->zBM ns (true,0) R=some (true,0)->R=[]:=fun L R e ho hR=>by
  cases R with
  |nil=>rfl
  |cons z R=>
   exfalso;simp only[zBM] at hR;cases ea:auS ns (true,0) z with
   |none=>rw[ea] at hR;cases hR
   |some st=>
    rcases zG9 ea with⟨a,_,_⟩|⟨a,_,_⟩|⟨_,hd,_⟩
    ·exact zO9 (ns:=ns) (L:=L) (R:=R) (s:=z) Jo ho (e ▸ hr)
    ·exact zO9 (ns:=ns) (L:=L) (R:=R) (s:=z) Jo ho (e ▸ hr)
    ·omega
 cases ss with
 |nil=>exact yR rfl h.ne
 |cons s r=>
  unfold Seg at h;simp only[zBM] at h;cases e:auS ns (false,0) s with
  |none=>rw[e] at h;cases h
  |some st=>
   rw[e] at h;simp only at h;rcases zFV e with⟨a,rfl⟩|⟨a,hk,rfl⟩|⟨rfl,rfl⟩
   ·have:=H [s] r rfl (by rw[zAH,ZB ⟨Jo,Jo⟩];rfl) h;subst this;exact yS ⟨s,a,rfl⟩
   ·exact yR hr (zO9 (ns:=ns) (L:=[]) (R:=r) (s:=s) Jo rfl)
   ·obtain⟨r1,r2,rfl,h1,h2⟩:=zBN r false 0 0 (true,0) h (yk _);have ho:=zL7 r1 _ _ h1;have:=H ((6,opn)::(r1++[(7,zCI)])) r2 Js (by
     rw[zAH,zCg,zDW]
     have sh:∀(l:List SyR)(a b:Int),opL (a+b) l=opL a l+b:=fun l=>by
      induction l with
      |nil=>intro a b;rfl
      |cons z l ih=>
       intro a b
       rw[zAH,zAH]
       have:opS (a+b) z=opS a z+b:=by unfold opS;omega
       rw[this,ih]
     rw[sh r1 0 1]
     simp only at ho
     have k:opL 0 r1=0:=Ju ho
     rw[k,zAH,zFy]
     rfl) h2
    subst this;exact yU ⟨r1,Js,h1⟩
theorem zNm{ss:List SyR}(h:Seg ns ss){x:Nat×SyR}(hr:rtF ns ss 0 0 none=some x):∃L R,ss=L++x.2::R/\x.1=L.length/\knB ns x.2=true /\
  ((x.2.1=3/\(L=[]->Seg ns R))\/(x.2.1=5/\Seg ns L)\/(x.2.1=4/\Seg ns L/\Seg ns R)):=by
 rcases zJj ss 0 0 none x hr with hb|⟨L,R,rfl,h1,h2,h3⟩
 ·cases hb
 ·refine⟨L,R,rfl,Jo,?_⟩;unfold Seg at h;rw[zDt] at h;cases e:zBM ns (false,0) L with
  |none=>rw[e] at h;cases h
  |some st=>
   rw[e] at h;have ho:=zL7 L _ _ e;obtain⟨bh,d⟩:=st;simp only at ho h;have hd:d=0:=by
    have H:opL ((0:Nat):Int) L=0:=h3;omega
   subst hd;simp only[zBM] at h;cases ea:auS ns (bh,0) x.2 with
   |none=>rw[ea] at h;cases h
   |some st'=>
    rw[ea] at h;simp only at h;cases bh with
    |false=>
     rcases zFV ea with⟨a,rfl⟩|⟨a,hk,rfl⟩|⟨a,rfl⟩
     ·omega
     ·exact⟨hk,yS ⟨a,fun _=>h⟩⟩
     ·rw[a] at h2;exact yR h2.2 Jd
    |true=>
     rcases zG9 ea with⟨a,hk,rfl⟩|⟨a,hk,rfl⟩|⟨a,_,rfl⟩
     ·exact⟨hk,yU (yU ⟨a,e,h⟩)⟩
     ·exact⟨hk,yU (yS ⟨a,e⟩)⟩
     ·rw[a] at h2;exact yR h2.2 Jd
theorem zAh{ns:List OpR}(hv:zO ns 0):∀(n:Nat)(ss:List SyR)(T:ET),Seg ns ss->bld ns n ss=some T->zn ns T/\ySy T=ss
 |0,_,_,_,h=>by simp[bld] at h
 |n+1,ss,T,hs,h=>by
  simp only[bld] at h;split at h
  ·rename_i hr;rcases zNl hs hr with⟨s,H,rfl⟩|⟨q,rfl,hq⟩
   ·simp only at h;rw[yP Jo] at h;injection h with h;subst h;refine⟨⟨rfl,yS ⟨H,rfl,rfl⟩⟩,?_⟩;rw[zCA H]
   ·simp only at h;rw[yQ trivial,List.dropLast_concat] at h;obtain⟨T1,h1,rfl⟩:=Option.map_eq_some_iff.1 h;obtain⟨g,e⟩:=zAh hv n q T1 hq h1;exact⟨⟨rfl,yU (yS ⟨rfl,rfl,g,rfl⟩)⟩,by rw[zC5,e]⟩
  ·rename_i x hr;obtain⟨L,R,rfl,hx,hk,hc⟩:=zNm hs hr;split at h
   ·cases h
   ·rename_i hn;have ed:∀m,m=L.length+1->(L++x.2::R).drop m=R:=fun m hm=>by
     subst hm;have:L++x.2::R=(L++[x.2])++R:=Js;rw[this];exact List.drop_left' Js
    rcases hc with⟨a,hR⟩|⟨a,hL⟩|⟨a,hL,hR⟩
    ·have k:L=[]:=by
      have:x.1=0:=Decidable.byContradiction fun h=>hn (yS ⟨a,h⟩)
      exact List.eq_nil_of_length_eq_zero Jo
     subst k;rw[yQ a] at h;simp only[List.nil_append,List.drop_succ_cons,List.drop_zero] at h;split at h
     ·cases h
     ·rename_i T1 h1;split at h
      ·rename_i hf;injection h with h;subst h;obtain⟨g,e⟩:=zAh hv n R T1 (hR rfl) h1;have es:((3,x.2.2):SyR)=x.2:=Prod.ext a.symm rfl;simp only[zCJ,Bool.and_eq_true,decide_eq_true_eq] at hf;refine⟨⟨rfl,yU (yU (yS ⟨yS rfl,by rw[es];exact hk,g,rfl,hf.1⟩))⟩,?_⟩;rw[zCY,e,es];rfl
      ·cases h
    ·have K:R=[]:=by
      have:x.1+1=(L++x.2::R).length:=Decidable.byContradiction fun h=>hn (yU ⟨a,h⟩)
      simp only[yq,yy] at this;exact List.eq_nil_of_length_eq_zero Jo
     subst K;rw[yP Jo,yQ a,hx,List.take_left] at h;split at h
     ·cases h
     ·rename_i T1 h1;split at h
      ·rename_i hf;injection h with h;subst h;obtain⟨g,e⟩:=zAh hv n L T1 hL h1;have es:((5,x.2.2):SyR)=x.2:=Prod.ext a.symm rfl;simp only[zCJ,Bool.and_eq_true,decide_eq_true_eq] at hf;refine⟨⟨rfl,yU (yU (yS ⟨yU rfl,by rw[es];exact hk,g,rfl,hf.1⟩))⟩,?_⟩;rw[zCB,e,es]
      ·cases h
    ·rw[yP Jo,yP Jo,hx,List.take_left,ed _ rfl] at h;split at h
     ·cases h
     ·rename_i T1 h1;split at h
      ·cases h
      ·rename_i T2 h2;split at h
       ·rename_i hf;injection h with h;subst h;obtain⟨g,e⟩:=zAh hv n L T1 hL h1;obtain⟨g2,e2⟩:=zAh hv n R T2 hR h2;have es:((4,x.2.2):SyR)=x.2:=Prod.ext a.symm rfl;simp only[zCJ,Bool.and_eq_true,Bool.or_eq_true,decide_eq_true_eq,ne_eq,not_true,false_or] at hf;refine⟨⟨rfl,yU (yU (yU ⟨rfl,by rw[es];exact hk,g,g2,hf.1,hf.2⟩))⟩,?_⟩;rw[zDu,e,e2,es]
       ·cases h
theorem zL8:∀(T:ET),zn ns T->tsz T<=(ySy T).length:=by
 intro T;induction T with
 |nil=>intro h;exact h.elim
 |node b o t l r ihl ihr=>
  rintro⟨rfl,h⟩;rcases h with⟨k,rfl,rfl⟩|⟨rfl,rfl,hl,rfl⟩|⟨H,hk,hl,rfl,hh⟩|⟨rfl,hk,hl,hr,h1,h2⟩
  ·rw[zCA k];simp[tsz]
  ·have:=ihl hl;rw[zC5];simp[tsz];omega
  ·have:=ihl hl;rcases H with rfl|rfl
   ·rw[zCY];simp[tsz];omega
   ·rw[zCB];simp[tsz];omega
  ·have:=ihl hl;have:=ihr hr;rw[zDu];simp[tsz];omega
theorem zWO(hv:zO ns 0){ss:List SyR}(hs:Seg ns ss)(hn:ss.length<=n)(T:ET):bld ns n ss=some T↔RD ns 0 none (ss++[eoS])=some (T,[eoS]):=by
 rw[<-zWM hv hs T];constructor
 ·exact zAh hv n ss T hs
 ·rintro⟨g,rfl⟩;exact zQ2 hv T g n (yw (zL8 T g) hn)
def sgT(ns:List OpR)(ts:List zU)(i:Nat):SyR:=
 if(atT ts i).k=3 then((zZ ns ts i).toNat+2,(atT ts i).t)
 else if(atT ts i).k=4 then(6,opn) else if(atT ts i).k=5 then(7,zCI) else if(atT ts i).k=7 then eoS else((atT ts i).k.toNat,(atT ts i).t)
def sgs(ns:List OpR)(ts:List zU)(a n:Nat):List SyR:=(List.range' a n).map (sgT ns ts)
theorem zAq(ns:List OpR)(ts:List zU)(a n:Nat):(sgs ns ts a n).length=n:=by simp[sgs]
theorem zFW(ns:List OpR)(ts:List zU)(a n:Nat):sgs ns ts a (n+1)=sgT ns ts a::sgs ns ts (a+1) n:=by
 simp[sgs,List.range'_succ]
theorem zHA(ns:List OpR)(ts:List zU)(a m n:Nat):sgs ns ts a (m+n)=sgs ns ts a m++sgs ns ts (a+m) n:=by
 induction m generalizing a with
 |zero=>simp[sgs]
 |succ m ih=>
  have e:m+1+n=(m+n)+1:=Jo;rw[e,zFW,zFW,ih];have e2:a+1+m=a+(m+1):=Jo;rw[e2];rfl
theorem zFX(ns:List OpR)(ts:List zU)(a n:Nat):sgs ns ts a (n+1)=sgs ns ts a n++[sgT ns ts (a+n)]:=by
 rw[zHA];rfl
def zLF(ns:List OpR)(t:zU):Prop:=
 ((t.k=1\/t.k=2)/\¬ opT ns t.t/\t.t≠opn)\/(t.k=3/\opT ns t.t/\t.t≠opn)\/(t.k=4/\t.t=opn/\¬ opT ns t.t)\/(t.k=5/\t.t=zCI/\¬ opT ns t.t)\/t.k=6\/(t.k=7/\t.t=⟨#[]⟩/\¬ opT ns t.t)
theorem zHk(hv:zA0 ns)(ho:opT ns t):cls (bt t 0)=6/\1<=t.size:=by
 obtain⟨j,hj,rfl⟩:=ho;have:=hv j hj;exact⟨this.2.2 0 Jo,this.1⟩
theorem zSd(hv:zA0 ns){s:JZ}{k:Nat}(g:JZ)(h:zCd ns s i n k):zLF ns ⟨(k:Int),g,s.extract i (i+n)⟩:=by
 obtain⟨h1,h2,h⟩:=h;have hb:bt (sub s i n) 0=bt s i:=Ju (zEe (s:=s) (i:=i) (n:=n) (j:=0) h2 Jo)
 have q:(sub s i n).size=n:=zBc h2;have H:cls (bt s i)≠6->¬ opT ns (sub s i n):=fun hc ho=>hc (by rw[<-hb];exact(zHk hv ho).1)
 have K:cls (bt s i)≠4->sub s i n≠opn:=fun hc e=>hc (by rw[<-hb,e];decide)
 change zLF ns ⟨(k:Int),g,sub s i n⟩;rcases h with⟨c,rfl,_⟩|⟨c,rfl,_⟩|⟨c,rfl,rfl⟩|⟨c,rfl,rfl⟩|⟨c,⟨rfl,a,_⟩|⟨rfl,_⟩⟩|⟨c,rfl,_⟩
 ·exact yS ⟨yS rfl,H Jo,K Jo⟩
 ·exact yS ⟨yU rfl,H Jo,K Jo⟩
 ·refine yU (yU (yS ⟨rfl,?_,H Jo⟩));exact(zCc q).2 (by rw[hb];exact(zGi _).1 c)
 ·refine yU (yU (yU (yS ⟨rfl,?_,H Jo⟩)));exact(zCc q).2 (by rw[hb];exact(zFo _).1 c)
 ·exact yU (yS ⟨rfl,a,K Jo⟩)
 ·exact yU (yU (yU (yU (yS rfl))))
 ·exact yU (yU (yU (yU (yS rfl))))
theorem zL9{ns:List OpR}(hv:zA0 ns){s:JZ}:∀(ts:List zU)(i:Nat),zAA ns s i ts->∀j,j<ts.length->zLF ns (atT ts j)
 |[],i,h,j,hj=>by simp at hj
 |t::out,i,h,j,hj=>by
  rcases h with⟨rfl,_,_,rfl⟩|⟨p,n,k,_,_,_,_,ht,rfl,hr⟩
  ·have:j=0:=by simp at hj;omega
   subst this;refine yU (yU (yU (yU (yU ⟨rfl,rfl,fun ho=>?_⟩))));have h1:=(zHk hv ho).2;simp[atT] at h1;have h0:(⟨#[]⟩:JZ).size=0:=rfl;omega
  ·cases j with
   |zero=>exact zSd hv _ ht
   |succ j=>exact zL9 hv out _ hr j (Ju hj)
theorem zEy{q:Nat}{k:Int}(h:ZF ns t k=true)(hq:(q:Int)-2=k):knB ns (q,t)=true:=by
 unfold knB;simp only[hq];cases hf:fnd ns t k with
 |some j=>rfl
 |none=>
  obtain⟨j,hj,e1,e2⟩:=(Zl _ _ _).1 h;exact yR ⟨e1,e2⟩ (zNE hf hj)
theorem zJk(xs:List OpR)(last:Bool)(t:zU)(op:Nat):ZP xs last t false op=if t.k=1\/t.k=2\/t.k=4 then 0 else if t.k=3/\ZF xs t.t 1=true then 1 else -1:=by
 unfold ZP;rw[yQ rfl]
theorem zJl(xs:List OpR)(last:Bool)(t:zU)(op:Nat):ZP xs last t true op=if t.k=3/\ZF xs t.t 2=true then 2 else if t.k=3/\ZF xs t.t 3=true then 3
  else if t.k=5/\0<op then 0 else if t.k=7/\op=0/\last=true then 0 else -1:=by
 unfold ZP;rw[yP Jd]
theorem zWP(hl:i+1<ts.length)(hr:0<=zZ ns ts i):auS ns (zCm ns ts i,zCn ts i) (sgT ns ts i)=some (zCm ns ts (i+1),zCn ts (i+1)):=by
 have h:decide (i+1=ts.length)=false:=Jq;simp only[zCm,zCn];unfold sgT;unfold zZ at hr ⊢;rw[h] at hr ⊢;generalize atT ts i=t at hr ⊢;generalize zCn ts i=op at hr ⊢;generalize zCm ns ts i=bh at hr ⊢;cases bh
 ·rw[zJk] at hr ⊢;by_cases k1:t.k=1\/t.k=2
  ·rw[yP Jo,yP Jo,yP Jo,yP Jo,zQK (by rcases k1 with e|e<;>simp[e])];simp only[zDP,zC3,if_true,yQ k1];rw[yP Jo,yP Jo]
  ·by_cases k4:t.k=4
   ·rw[yP Jo,yQ k4,zQL];simp[zDP,zC3,k4]
   ·rw[yP Jo] at hr;by_cases c:t.k=3/\ZF ns t.t 1=true
    ·rw[yQ c.1,yP Jo,yQ c,zSb (s:=((1:Int).toNat+2,t.t)) rfl (zEy c.2 Jd)];simp[zDP,zC3,c.1]
    ·rw[yP c] at hr;omega
 ·rw[zJl] at hr ⊢;by_cases c2:t.k=3/\ZF ns t.t 2=true
  ·rw[yQ c2.1,yQ c2,zSc (s:=((2:Int).toNat+2,t.t)) rfl (zEy c2.2 Jd)];simp[zDP,zC3,c2.1,c2.2]
  ·rw[yP c2] at hr;by_cases c3:t.k=3/\ZF ns t.t 3=true
   ·rw[yQ c3.1,yP c2,yQ c3,zQM (s:=((3:Int).toNat+2,t.t)) rfl (zEy c3.2 Jd)];simp only[zDP,zC3,Bool.true_eq_false,if_false,yP c2];rw[yP Jo,yP Jo]
   ·rw[yP c3] at hr;by_cases c5:t.k=5/\0<op
    ·rw[yP Jo,yP Jo,yQ c5.1];obtain⟨m,rfl⟩:∃m,op=m+1:=⟨op-1,Jo⟩;rw[zNi];simp[zDP,zC3,c5.1]
    ·rw[yP c5] at hr;simp at hr
theorem zMA{ns:List OpR}{ts:List zU}:∀n,n<ts.length->zCL ns ts n->zBM ns (false,0) (sgs ns ts 0 n)=some (zCm ns ts n,zCn ts n)
 |0,_,_=>rfl
 |n+1,hn,hf=>by
  rw[zFX,zDt,zMA n Jo (fun i hi=>hf i Jo)];simp only[yY,zBM];rw[zWP Jo (hf n Jo)]
theorem zMB(hf:zCL ns ts ts.length)(h0:0<ts.length)(h7:(atT ts (ts.length-1)).k=7):Seg ns (sgs ns ts 0 (ts.length-1))/\sgs ns ts 0 ts.length=sgs ns ts 0 (ts.length-1)++[eoS]:=by
 have hr:=hf (ts.length-1) Jo;have hb:zCm ns ts (ts.length-1)=true/\zCn ts (ts.length-1)=0:=by
  unfold zZ ZP at hr;have hl:decide (ts.length-1+1=ts.length)=true:=Jq;rw[hl] at hr;cases hb:zCm ns ts (ts.length-1)
  ·rw[hb] at hr;simp only[if_true] at hr;rw[yP Jo,yP Jo] at hr;omega
  ·rw[hb] at hr;simp only[Bool.true_eq_false,if_false] at hr;rw[yP Jo,yP Jo,yP Jo] at hr;by_cases c:(atT ts (ts.length-1)).k=7/\zCn ts (ts.length-1)=0/\True
   ·exact⟨rfl,c.2.1⟩
   ·rw[yP c] at hr;omega
 refine⟨?_,?_⟩
 ·unfold Seg;rw[zMA _ (by omega) (fun i hi=>hf i (by omega)),hb.1,hb.2]
 ·have e:ts.length=ts.length-1+1:=Jo;have:=zFX ns ts 0 (ts.length-1);rw[<-e] at this;rw[this];have e2:sgT ns ts (0+(ts.length-1))=eoS:=by
   rw[yY];unfold sgT;rw[yP Jo,yP Jo,yP Jo,yQ h7]
  rw[e2]
theorem zQ3(hr:0<=zZ ns ts i)(hb:zCm ns ts i=false)(ht:zLF ns (atT ts i)):(((atT ts i).k=1\/(atT ts i).k=2)/\¬ opT ns (atT ts i).t/\(atT ts i).t≠opn/\sgT ns ts i=((atT ts i).k.toNat,(atT ts i).t)) \/
  ((atT ts i).k=3/\ZF ns (atT ts i).t 1=true/\(atT ts i).t≠opn/\sgT ns ts i=(3,(atT ts i).t)) \/
  ((atT ts i).k=4/\(atT ts i).t=opn/\sgT ns ts i=(6,opn)):=by
 unfold sgT;unfold zZ at hr ⊢;rw[hb,zJk] at hr ⊢;by_cases k:(atT ts i).k=1\/(atT ts i).k=2\/(atT ts i).k=4
 ·rcases ht with⟨a,b,c⟩|⟨a,b,c⟩|⟨a,b,c⟩|⟨a,b,c⟩|a|⟨a,b,c⟩
  ·refine yS ⟨a,b,c,?_⟩;rw[yP Jo,yP Jo,yP Jo,yP Jo]
  ·omega
  ·refine yU (yU ⟨a,b,?_⟩);rw[yP Jo,yQ a]
  ·omega
  ·omega
  ·omega
 ·rw[yP k] at hr ⊢;by_cases c:(atT ts i).k=3/\ZF ns (atT ts i).t 1=true
  ·rw[yQ c.1,yQ c];refine yU (yS ⟨c.1,c.2,?_,rfl⟩);rcases ht with⟨a,b,c'⟩|⟨a,b,c'⟩|⟨a,b,c'⟩|⟨a,b,c'⟩|a|⟨a,b,c'⟩
   ·exact c'
   ·exact c'
   all_goals omega
  ·rw[yP c] at hr;omega
theorem zPA(hr:0<=zZ ns ts i)(hb:zCm ns ts i=true)(ht:zLF ns (atT ts i)):((atT ts i).k=3/\ZF ns (atT ts i).t 2=true/\sgT ns ts i=(4,(atT ts i).t)) \/
  ((atT ts i).k=3/\ZF ns (atT ts i).t 3=true/\sgT ns ts i=(5,(atT ts i).t)) \/
  (¬ opT ns (atT ts i).t/\(sgT ns ts i).1≠4/\(sgT ns ts i).1≠5):=by
 unfold sgT;unfold zZ at hr ⊢;rw[hb,zJl] at hr ⊢;by_cases c2:(atT ts i).k=3/\ZF ns (atT ts i).t 2=true
 ·rw[yQ c2.1,yQ c2];exact yS ⟨c2.1,c2.2,rfl⟩
 ·rw[yP c2] at hr ⊢;by_cases c3:(atT ts i).k=3/\ZF ns (atT ts i).t 3=true
  ·rw[yQ c3.1,yQ c3];exact yU (yS ⟨c3.1,c3.2,rfl⟩)
  ·rw[yP c3] at hr;have k57:(atT ts i).k=5\/(atT ts i).k=7:=by
    by_cases c5:(atT ts i).k=5/\0<zCn ts i
    ·exact yS c5.1
    ·rw[yP c5] at hr;by_cases c7:(atT ts i).k=7/\zCn ts i=0/\decide (i+1=ts.length)=true
     ·exact yU c7.1
     ·rw[yP c7] at hr;omega
   have h:¬ opT ns (atT ts i).t:=by
    rcases ht with⟨a,b,c'⟩|⟨a,b,c'⟩|⟨a,b,c'⟩|⟨a,b,c'⟩|a|⟨a,b,c'⟩
    ·exact b
    ·omega
    ·exact c'
    ·exact c'
    ·omega
    ·exact c'
   refine yU (yU ⟨h,?_⟩);rw[yP Jo,yP Jo];by_cases k5:(atT ts i).k=5
   ·rw[yQ k5];exact⟨Jd,Jd⟩
   ·rw[yP k5,yQ Jo];exact⟨Jd,Jd⟩
def hT:ET->Nat
 |.nil=>0
 |.node _ _ _ l r=>1+max (hT l) (hT r)
theorem zNn:∀T:ET,hT T<=tsz T
 |.nil=>yk _
 |.node _ _ _ l r=>by
  have:=zNn l;have:=zNn r;simp only[hT,tsz];omega
def zDX(e:Value)(h:Nat):Prop:=∃T v f r,e=.iface T v/\(∀w,(method 451 T v "loop.example/s0059/impl.height").run prog w=.ok (f,r) w)/\(∀a w,(callFunc f a).run prog w=.ok (.enter f a) w) /\
 ∀w,Calls prog f #[r] w fun x w'=>x=.returned (Qi h)/\Qb w w'
theorem zIJ(t:JZ)(w:JY):Calls prog 277 #[.agg #[Qs t]] w fun x w'=>x=.returned (Qi ((1:Nat):Int))/\Qb w w':=by
 go_enter func277,ntmps277;go_wp2_with fail;go_ret;exact⟨rfl,by first|exact zC _ _|exact yJ _ _⟩
theorem zD2(he:zDX e h)(hh:h<=100000)(w:JY):Calls prog 268 #[.agg #[e]] w fun x w'=>x=.returned (Qi ((1+h:Nat):Int))/\Qb w w':=by
 obtain⟨T,v,f,r,rfl,K,k,H⟩:=he;have HC:=zB H;have e1:((1+h:Nat):Int)=1+(h:Int):=Jo;clear H;go_enter func268,ntmps268;go_wp2_with fail;go_call HC _ as x w1 ⟨rfl,hb1⟩;go_wp2_with fail;go_ret;rw[e1];exact⟨rfl,(zC _ _).trans (hb1.mono Js)⟩
theorem zMC{e':Value}{h':Nat}(p:OpR)(he:zDX e h)(y:zDX e' h')(hh:h<=100000)(V:h'<=100000)(w:JY):Calls prog 275 #[.agg #[Qs p.s,Qi p.k,Qi p.l,Qi p.sd,e,e']] w fun x w'=>x=.returned (Qi ((1+max h h':Nat):Int))/\Qb w w':=by
 obtain⟨T,v,f,r,rfl,P,J,Q⟩:=he;obtain⟨T',v',f',r',rfl,Y,j,K⟩:=y;have HC:=zB Q;have X:=zB K;clear Q K;go_enter func275,ntmps275;go_wp2_with fail;have H:=zB ((zC w (.cells #[Qs p.s,Qi p.k,Qi p.l,Qi p.sd,.iface T v,.iface T' v'] 267)).drew);have q:=zB (show Cs [(w.heap.size,4,.iface T v),(w.heap.size,5,.iface T' v')] ((w.alloc (.cells #[Qs p.s,Qi p.k,Qi p.l,Qi p.sd,.iface T v,.iface T' v'] 267)).drew) from by
  intro x hx
  simp only[List.mem_cons,List.not_mem_nil,or_false] at hx
  rcases hx with rfl|rfl
  ·simp[go_sem]
  ·simp[go_sem])
 go_region_held (fun w'=>w'.cell? (Qa w.heap.size 4)=some (.iface T v)/\w'.cell? (Qa w.heap.size 5)=some (.iface T' v')) (first|(go_keep;done)|exact⟨q (w.heap.size,4,.iface T v) Js,q (w.heap.size,5,.iface T' v') Js⟩)
  (first|((with_reducible refine((zA HC) _).mono ?_);rintro x w1 ⟨rfl,hb1⟩;replace q:=zB (q.below hb1);replace H:=zB (H.trans (hb1.mono H.size));clear hb1 HC)|((with_reducible refine((zA X) _).mono ?_);rintro x w1 ⟨rfl,hb1⟩;replace q:=zB (q.below hb1);replace H:=zB (H.trans (hb1.mono H.size));clear hb1 X))
 have e1:IntKind.i64.wrap (1+max (h:Int) (h':Int))=((1+max h h':Nat):Int):=by
  rw[IntKind.wrap_i64];omega
 rw[e1];go_wp2_with fail;go_ret;exact⟨rfl,H⟩
theorem zUj(t:JZ):zDX (zLz t) 1:=⟨_,_,277,.agg #[Qs t],rfl,fun w=>Jk,fun a w=>Jk,zIJ t⟩
theorem zSe(t:JZ):zDX (zG5 t) 1:=⟨_,_,277,.agg #[Qs t],rfl,fun w=>Jk,fun a w=>Jk,zIJ t⟩
theorem zUk(he:zDX e h)(hh:h<=100000):zDX (zG6 e) (1+h):=⟨_,_,268,.agg #[e],rfl,fun w=>Jk,fun a w=>Jk,zD2 he hh⟩
theorem zUl(p:OpR)(he:zDX e h)(hh:h<=100000):zDX (zGV p e) (1+h):=⟨_,_,268,.agg #[e],rfl,fun w=>Jk,fun a w=>Jk,zD2 he hh⟩
theorem zSf(p:OpR)(he:zDX e h)(hh:h<=100000):zDX (zCv p e) (1+h):=⟨_,_,268,.agg #[e],rfl,fun w=>Jk,fun a w=>Jk,zD2 he hh⟩
theorem zUm(p:OpR){e':Value}{h':Nat}(he:zDX e h)(H:zDX e' h')(hh:h<=100000)(k:h'<=100000):zDX (zFU p e e') (1+max h h'):=⟨_,_,275,_,rfl,fun w=>Jk,fun a w=>Jk,zMC p he H hh k⟩
theorem zEz{b:Nat}(hb:b=3\/b=4\/b=5)(hk:knB ns (b,t)=true):sLv ns (b,t)=(opA ns (rt b t)).l:=by
 unfold knB at hk;unfold sLv zAN opA;have H:3<=(rt b t).k/\(rt b t).k<=5:=by simp only[rt];omega
 simp only[yQ H];have e:fnd ns (rt b t).t ((rt b t).k-2)=fnd ns t ((b:Int)-2):=rfl;rw[e];cases h:fnd ns t ((b:Int)-2) with
 |none=>simp only[h] at hk;cases hk
 |some j=>rfl
theorem zSg(ns:List OpR):∀T:ET,zn ns T->hT T<=100000->zDX (exT ns T) (hT T):=by
 intro T;induction T with
 |nil=>intro h;exact h.elim
 |node b o t l r ihl ihr=>
  intro hg hh;simp only[hT] at hh;rcases hg with⟨rfl,⟨hb,rfl,rfl⟩|⟨rfl,rfl,hl,rfl⟩|⟨hb,hk,hl,rfl,_⟩|⟨rfl,hk,hl,hr,_⟩⟩
  ·rcases hb with rfl|rfl
   ·exact zUj t
   ·exact zSe t
  ·have:=zUk (ihl hl Jo) Jo;have e:hT (.node 6 0 ByteArray.empty l .nil)=1+hT l:=by simp[hT]
   rw[e];exact this
  ·have e:∀b,hT (.node b 0 t l .nil)=1+hT l:=fun b=>by simp[hT]
   rw[e];rcases hb with rfl|rfl
   ·exact zUl _ (ihl hl Jo) Jo
   ·exact zSf _ (ihl hl Jo) Jo
  ·exact zUm _ (ihl hl Jo) (ihr hr Jo) Jo Jo
theorem zNo(ns:List OpR):∀T:ET,zn ns T->zGA (exT ns T) (lvT ns T):=by
 intro T hg;cases T with
 |nil=>exact hg.elim
 |node b o t l r=>
  rcases hg with⟨rfl,⟨hb,rfl,rfl⟩|⟨rfl,rfl,hl,rfl⟩|⟨hb,hk,hl,rfl,_⟩|⟨rfl,hk,hl,hr,_⟩⟩
  ·have e:lvT ns (.node b 0 t .nil .nil)=1001:=zBX ns b t Jo;rw[e];rcases hb with rfl|rfl
   ·exact zQA t
   ·exact zNZ t
  ·have e:lvT ns (.node 6 0 ByteArray.empty l .nil)=1001:=zBX ns 6 _ Jo;rw[e];exact zUV _
  ·have e:lvT ns (.node b 0 t l .nil)=(opA ns (rt b t)).l:=zEz Jo hk;rw[e];rcases hb with rfl|rfl
   ·exact zQB _ _
   ·exact zNa _ _
  ·have e:lvT ns (.node 4 0 t l r)=(opA ns (rt 4 t)).l:=zEz Jo hk;rw[e];exact zQC _ _ _
theorem zNp{b:Nat}(hk:knB ns (b,t)=true):(opA ns (rt b t)).s=t:=by
 obtain⟨j,_,hj,_,e⟩:=zNh hk;rw[e];exact(zAg hj).2.1
theorem zSh(ns:List OpR):∀T:ET,zn ns T->zEL (exT ns T) (nd T):=by
 intro T;induction T with
 |nil=>intro h;exact h.elim
 |node b o t l r ihl ihr=>
  intro hg;rcases hg with⟨rfl,⟨hb,rfl,rfl⟩|⟨rfl,rfl,hl,rfl⟩|⟨hb,hk,hl,rfl,_⟩|⟨rfl,hk,hl,hr,_⟩⟩
  ·rcases hb with rfl|rfl
   ·exact zUY t
   ·exact zSU t
  ·have e:nd (.node 6 0 ByteArray.empty l .nil)=zEM (nd l) 6 ByteArray.empty:=by
    funext s;simp[nd,zEM,tN,ZX,zY,tsz]
   rw[e];exact zUZ (ihl hl)
  ·have hs:=zNp hk;rcases hb with rfl|rfl
   ·have e:nd (.node 3 0 t l .nil)=zEM (nd l) 3 (opA ns (rt 3 t)).s:=by
     funext s;simp[nd,zEM,tN,ZX,zY,tsz,hs]
    rw[e];exact zUa (ihl hl) _
   ·have e:nd (.node 5 0 t l .nil)=zEM (nd l) 5 (opA ns (rt 5 t)).s:=by
     funext s;simp[nd,zEM,tN,ZX,zY,tsz,hs]
    rw[e];exact zSV (ihl hl) _
  ·have hs:=zNp hk;have e:nd (.node 4 0 t l r)=zNc (nd l) (nd r) (opA ns (rt 4 t)).s:=by
    funext s;simp[nd,zNc,tN,ZX,zY,tsz,hs]
   rw[e];exact zUb (ihl hl) (ihr hr) _
open Go.Maps
def Z4(w:JY)(p:Nat)(g o n c:Nat)(i:Nat)(bf bb:Nat):Prop:=
 w.cell? (Qa p 0)=some (.slice (some (Qa g o)) n c)/\w.cell? (Qa p 1)=some (Qi i)/\w.cell? (Qa p 2)=some (.map (some bf))/\w.cell? (Qa p 3)=some (.map (some bb))/\w.frozen? (Qa p 1)=false
theorem Z4.below{w':JY}{g o c bf bb:Nat}(h:Z4 w p g o n c i bf bb)(hb:Qb w w'):Z4 w' p g o n c i bf bb:=
 have H:=block_lt_of_cell h.1
 ⟨Jc hb H h.1,Jc hb H h.2.1,Jc hb H h.2.2.1,Jc hb H h.2.2.2.1,(hb.frozen (p:=Qa p 1) H).trans h.2.2.2.2⟩
theorem Z4.set{g o c bf bb:Nat}(h:Z4 w p g o n c i bf bb)(j:Nat):Z4 (w.setCell ⟨p,1,none⟩ (Qi j)) p g o n c j bf bb:=
 ⟨(yj _ _ _ _ Js).trans h.1,yt _ _ _ h.2.1,(yj _ _ _ _ Js).trans h.2.2.1,(yj _ _ _ _ Js).trans h.2.2.2.1,(yv _ _ _ _).trans h.2.2.2.2⟩
theorem zJ.setP(v:Value):zJ w (w.setCell (Qa p 1) v) p:=⟨rfl,rfl,rfl,Jt,fun _ _ hi=>je _ _ _ _ hi⟩
def zMD:Ending:=.panicked [{ v:=.iface 195 (.agg #[Qi 5,Qi 0]),recovered:=false }]
def zSi(w:JY)(l h:Int)(p g o n c i bf bb:Nat)(x:Ending)(w':JY):Prop:=
 Hid (zJ w w' p)/\((l<h/\x=zMD)\/(h<=l/\x=.returned (.tuple #[])/\Hid (Z4 w' p g o n c (i+1) bf bb)))
theorem zNq{l:Int}(h:zGA e l)(p g o n c i bf bb:Nat)(H:Int)(w:JY)(hp:Z4 w p g o n c i bf bb)(hi:i<=100000):Calls prog 186 #[Qp p,e,Qi H] w (zSi w l H p g o n c i bf bb):=by
 obtain⟨T,v,f,r,rfl,y,X,k⟩:=h;have HC:=zB k;have HP:=zB hp;clear k hp;go_enter func186,ntmps186;go_wp2_with fail;go_call HC _ as x w1 ⟨rfl,hb1⟩;replace HP:=zB (HP.below hb1);have HK:=zB (zJ.of_below (g:=p) hb1);clear hb1;by_cases hl:l<H
 ·have HL:=zB hl;go_wp2_with fail;exact⟨rfl,HK,yS ⟨HL,rfl⟩⟩
 ·have Q:H<=l:=Jo;have HL:=zB Q;have c1:=HP.2.1;have c4:=HP.2.2.2.2;have e1:((i+1:Nat):Int)=(i:Int)+1:=Jo;have K:=zB (HP.set (i+1));rw[e1] at K;have q:=zB (HK.trans (zJ.setP (p:=p) (Qi ((i:Int)+1))));clear HP HK;go_wp2_with fail;go_end0;exact⟨q,yU ⟨HL,rfl,K⟩⟩
def zHl(ns:List OpR)(least:Int)(s:SyR)(r:List SyR):Option (ET×List SyR):=
 if s.1=3 then(if sLv ns s<least then none else(match RD ns (sH ns s false) none r with
  |none=>none
  |some x=>some (.node 3 0 s.2 x.1 .nil,x.2)))
 else if s.1=6 then(match RD ns 0 none r with
  |none=>none
  |some x=>some (.node 6 0 ByteArray.empty x.1 .nil,x.2.tail))
 else some (.node s.1 0 s.2 .nil .nil,r)
theorem zWQ(ns:List OpR)(least:Int)(s:SyR)(r:List SyR):RD ns least none (s::r)=(match zHl ns least s r with
  |none=>none
  |some x=>RD ns least (some x.1) x.2):=by
 rw[zIs];unfold zHl;by_cases h3:s.1=3
 ·rw[yQ h3,yQ h3];by_cases hl:sLv ns s<least
  ·rw[yQ hl,yQ hl]
  ·rw[yP hl,yP hl];cases RD ns (sH ns s false) none r with
   |none=>rfl
   |some x=>rfl
 ·rw[yP h3,yP h3];by_cases h6:s.1=6
  ·rw[yQ h6,yQ h6];cases RD ns 0 none r with
   |none=>rfl
   |some x=>rfl
  ·rw[yP h6,yP h6]
theorem zHB(hv:zO ns 0){s:SyR}(hs:s.1=3\/s.1=4\/s.1=5)(hk:knB ns s=true):sH ns s false<=1001/\(s.1=4->sH ns s true<=1001):=by
 have f:=opF hv hs hk;have fh:=f.hi;rcases hs with h|h|h
 ·have:=(f.pre h).1;exact⟨Jo,fun x=>Jo⟩
 ·rcases f.mid h with⟨_,a,c⟩|⟨_,a,c⟩|⟨_,a,c⟩<;>exact⟨Jo,fun _=>Jo⟩
 ·have:=(f.post h).1;exact⟨Jo,fun x=>Jo⟩
theorem zLG(hv:zO ns 0){r:List SyR}{y:ET×List SyR}(hf:zAJ ns (false,d+1) r)(hy:RD ns 0 none r=some y):∃q,y.2=(7,zCI)::q/\zAJ ns (true,d) q/\zn ns y.1/\r=ySy y.1++(7,zCI)::q:=by
 obtain⟨a1,a2,a3,a4,a5⟩:=zAG hv _ 0 none r (d+1) y Jo hf (fun L e=>by cases e) hy;obtain⟨T,q⟩:=y;simp only[yM,List.nil_append] at a1 a2 a3 a4 a5;cases q with
 |nil=>exact(zDU a1).elim
 |cons z q=>
  have hz:z=(7,zCI)/\zAJ ns (true,d) q:=by
   rcases zBw a1 with⟨_,_,h0⟩|⟨h4,h,_⟩|⟨h5,h,_⟩|⟨h7,_,h8⟩
   ·omega
   ·have:=a4 z q rfl (yS h4);have:=(opF hv (s:=z) (yU (yS h4)) h).lo;omega
   ·have:=a4 z q rfl (yU h5);have:=(opF hv (s:=z) (yU (yU h5)) h).lo;omega
   ·exact⟨h7,h8⟩
  obtain⟨rfl,hq⟩:=hz;exact⟨q,rfl,hq,a2,a5⟩
theorem zLH(hv:zO ns 0){s:SyR}{r:List SyR}{x:ET×List SyR}(hl:least<=1001)(hf:zAJ ns (false,d) (s::r))(h:zHl ns least s r=some x):zAJ ns (true,d) x.2/\zn ns x.1/\least<=lvT ns x.1/\s::r=ySy x.1++x.2:=by
 unfold zHl at h;rcases zDV hf with⟨hs,H⟩|⟨hs,hk,H⟩|⟨rfl,H⟩
 ·rw[yP Jo,yP Jo] at h;injection h with h;subst h;have k:lvT ns (.node s.1 0 s.2 .nil .nil)=1001:=zBX ns _ _ Jo;refine⟨H,⟨rfl,yS ⟨hs,rfl,rfl⟩⟩,by rw[k];exact hl,?_⟩;rw[zCA hs];rfl
 ·rw[yQ hs] at h;by_cases K:sLv ns s<least
  ·rw[yQ K] at h;cases h
  ·rw[yP K] at h;cases hy:RD ns (sH ns s false) none r with
   |none=>rw[hy] at h;cases h
   |some y=>
    rw[hy] at h;injection h with h;subst h;obtain⟨a1,a2,a3,_,a5⟩:=zAG hv _ _ none r d y (zHB hv (yS hs) hk).1 H (fun L e=>by cases e) hy;obtain⟨s1,s2⟩:=s;simp only at hs;subst hs;refine⟨a1,⟨rfl,yU (yU (yS ⟨yS rfl,hk,a2,rfl,a3⟩))⟩,by simp only[lvT];omega,?_⟩;rw[zCY];simp only[yM,List.nil_append] at a5;rw[a5];rfl
 ·rw[yP Jd,yQ rfl] at h;cases hy:RD ns 0 none r with
  |none=>rw[hy] at h;cases h
  |some y=>
   rw[hy] at h;injection h with h;subst h;obtain⟨q,e1,e2,e3,e4⟩:=zLG hv H hy;have k:lvT ns (.node 6 0 ByteArray.empty y.1 .nil)=1001:=zBX ns _ _ Jo;rw[e1];refine⟨e2,⟨rfl,yU (yS ⟨rfl,rfl,e3,rfl⟩)⟩,by rw[k];exact hl,?_⟩;rw[zC5,e4];simp
theorem zGa{m:Nat}{a r:List SyR}(h:sgs ns ts i m=a++r):r=sgs ns ts (i+m-r.length) r.length/\r.length<=m:=by
 have hl:=yV List.length h;rw[zAq,yq] at hl;have e:m=a.length+r.length:=hl;rw[e,zHA] at h;have h2:=List.append_inj' h (by rw[zAq]);refine⟨?_,Jo⟩;have e3:i+m-r.length=i+a.length:=Jo;rw[e3];exact h2.2.symm
theorem zQO{a b:Bool}{d':Nat}{ss:List SyR}(h:zAJ ns (a,d) ss)(h':zAJ ns (b,d') ss):a=b:=by
 cases ss with
 |nil=>exact(zDU h).elim
 |cons s r=>
  have key:∀{d d':Nat},zAJ ns (false,d) (s::r)->zAJ ns (true,d') (s::r)->False:=by
   intro d d' h h';have h1:s.1=1\/s.1=2\/s.1=3\/s.1=6:=by
    rcases zDV h with⟨hs,_⟩|⟨hs,_⟩|⟨hs,_⟩
    ·omega
    ·omega
    ·rw[hs];decide
   have h2:s.1=4\/s.1=5\/s.1=7\/s.1=8:=by
    rcases zBw h' with⟨x,_⟩|⟨x,_⟩|⟨x,_⟩|⟨x,_⟩
    ·rw[x];decide
    ·omega
    ·omega
    ·rw[x];decide
   omega
  cases a<;>cases b
  ·rfl
  ·exact(key h h').elim
  ·exact(key h' h).elim
  ·rfl
def zHC(ns:List OpR)(w:JY)(p g o n c bf bb:Nat)(res:Option (ET×List SyR))(x:Ending)(w':JY):Prop:=
 Hid (zJ w w' p)/\((res=none/\x=zMD)\/∃T r,res=some (T,r)/\x=.returned (exT ns T)/\Hid (zn ns T)/\Hid (Z4 w' p g o n c (n-r.length) bf bb))
theorem zEO{T:ET}(h:zn ns T):∃Ty v,exT ns T=.iface Ty v:=by
 cases T with
 |nil=>exact h.elim
 |node b o t l r=>exact zEK _ _ _ _
def OpC(w:JY)(a:Nat)(q:OpR):Prop:=
 w.cell? (Qa a 0)=some (Qs q.s)/\w.cell? (Qa a 1)=some (Qi q.k)/\w.cell? (Qa a 2)=some (Qi q.l)/\w.cell? (Qa a 3)=some (Qi q.sd)
theorem OpC.kept{w':JY}{a:Nat}{q:OpR}(h:OpC w a q)(hk:zJ w w' p)(H:a≠p):OpC w' a q:=
 have k:=block_lt_of_cell h.1
 ⟨(hk.cell k H 0).trans h.1,(hk.cell k H 1).trans h.2.1,(hk.cell k H 2).trans h.2.2.1,(hk.cell k H 3).trans h.2.2.2⟩
def zLI(ns:List OpR)(w0:JY)(p g o n c bf bb i:Nat)(least:Int)(ss:List SyR):Prop:=
 ∀w,zJ w0 w p->Z4 w p g o n c i bf bb->Calls prog 145 #[Qp p,Qi least] w (zHC ns w p g o n c bf bb (RD ns least none ss))
theorem zPB(hv:zO ns 0)(p g o n c bf bb i d:Nat)(ss:List SyR)(least:Int)(w:JY)(hr:zLI ns w p g o n c bf bb i 0 ss)(hp:Z4 w p g o n c i bf bb)(hn:n<=100000)(j:ss.length<=n)(hf:zAJ ns (false,d+1) ss)(res:Option (ET×List SyR))(H:res=(match RD ns 0 none ss with
   |none=>none
   |some x=>some (.node 6 0 ByteArray.empty x.1 .nil,x.2.tail))):Calls prog 141 #[Qp p,Qi least] w (zHC ns w p g o n c bf bb res):=by
 have HX:=hr w (zJ.refl _ _) hp;have HF:=zB hf;have HV:=zB hv;have h:=zB H;clear hr hp hf hv H;go_enter func141,ntmps141;go_wp2_with fail;refine HX.mono ?_;clear HX;rintro x w1 ⟨HK,⟨h0,rfl⟩|⟨T,r,h1,rfl,HG,HP⟩⟩
 ·rw[h0] at h;exact⟨rfl,HK,yS ⟨h,rfl⟩⟩
 ·have X:=zB h1;obtain⟨q,hq⟩:∃q,r=(7,zCI)::q:=by
   obtain⟨q,e,_⟩:=zLG HV HF h1;exact⟨q,e⟩
  have K:r.length<=ss.length:=zBn ns _ _ _ _ _ h1;have y:r.length=q.length+1:=by rw[hq];rfl
  obtain⟨m,hm⟩:=Jx (n-r.length);rw[<-hm] at HP;have c1:=HP.2.1;have c4:=HP.2.2.2.2;have e1:((m+1:Nat):Int)=(m:Int)+1:=Jo;have k:=zB (HP.set (m+1));rw[e1] at k;have Q:=zB (HK.trans (zJ.setP (p:=p) (Qi ((m:Int)+1))));have HM:=zB (Jo:m+1=n-q.length);have HQ:=zB hq;obtain⟨Ty,v,he⟩:=zEO HG;have HE:=zB (by rw[<-he];rfl:exT ns (.node 6 0 ByteArray.empty T .nil)=zG6 (.iface Ty v));rw[he];have Y:m<=100000:=Jo;clear HP HK hq K h1 y hm he;go_wp2_with fail;go_ret;refine⟨Q,yU ⟨.node 6 0 ByteArray.empty T .nil,q,?_,by rw[zA HE];rfl,zB ⟨rfl,yU (yS ⟨rfl,rfl,HG,rfl⟩)⟩,?_⟩⟩
  ·rw[zA h,zA X,zA HQ];rfl
  ·rw[<-zA HM];exact k
theorem zSj(p g o n c bf bb i:Nat)(t:JZ)(ss:List SyR)(least:Int)(w:JY)(ba bp bh:Nat)(na:ba≠p)(nb:bp≠p)(nh:bh≠p)(hk:knB ns (3,t)=true)(hr:zLI ns w p g o n c bf bb i (sH ns (3,t) false) ss)(hp:Z4 w p g o n c i bf bb)(h1:OpC w ba (opA ns (rt 3 t)))(h2:w.cell? (Qa bp 0)=some (Qp p))(h3:w.cell? (Qa bh 0)=some (Qi (sH ns (3,t) false)))(res:Option (ET×List SyR))(H:res=(if sLv ns (3,t)<least then none else(match RD ns (sH ns (3,t) false) none ss with
   |none=>none
   |some x=>some (.node 3 0 t x.1 .nil,x.2))))(j:∀T r,res=some (T,r)->zn ns T):Calls prog 184 #[Qi least,Qp ba,Qp bp,Qp bh] w (zHC ns w p g o n c bf bb res):=by
 have HX:=hr w.drew (zJ.of_below ((yJ _ _).drew)) (hp.below ((yJ _ _).drew));obtain⟨a0,a1,a2,a3⟩:=h1;rw[zEz (ns:=ns) (b:=3) (t:=t) (yS rfl) hk] at H;have h:=zB H;have J:=zB j;clear H j;have HL:=zB (zEz (ns:=ns) (b:=3) (t:=t) (yS rfl) hk);have HE:Hid (∀T,exT ns (.node 3 0 t T .nil)=zGV (opA ns (rt 3 t)) (exT ns T)):=fun T=>rfl
 generalize opA ns (rt 3 t)=q at a0 a1 a2 a3 HL HE h;generalize sH ns (3,t) false=hl at h3 HX h;clear hr hp;by_cases Q:q.l<least
 ·have HN:=zB Q;go_enter func184,ntmps184;go_wp2_with fail;exact⟨rfl,zB (zJ.refl _ _),yS ⟨by rw[zA h,yQ (zA HN)],rfl⟩⟩
 ·have V:least<=q.l:=Jo;have HN:=zB Q;clear Q;go_enter func184,ntmps184;go_wp2_with fail;go_region_held (fun w'=>(w'.cell? (Qa ba 0)=some (Qs q.s)/\w'.cell? (Qa ba 1)=some (Qi q.k)/\w'.cell? (Qa ba 2)=some (Qi q.l)/\w'.cell? (Qa ba 3)=some (Qi q.sd))/\w'.cell? (Qa bp 0)=some (Qp p)/\w'.cell? (Qa bh 0)=some (Qi hl)) (first|(go_keep;done)|exact⟨(show OpC w ba q from⟨a0,a1,a2,a3⟩).kept K na,(K.cell (block_lt_of_cell h2) nb 0).trans h2,(K.cell (block_lt_of_cell h3) nh 0).trans h3⟩)
   (first|(go_at_call 145;(refine HX.mono ?_;rintro x w1 ⟨HK,⟨h0,rfl⟩|⟨T,r,h1,rfl,HG,HP⟩⟩;(focus(have hn:res=none:=(by rw[zA h,h0];simp);exact⟨rfl,zB ((zJ.of_below ((yJ _ _).drew)).trans HK),yS ⟨hn,rfl⟩⟩));have K:=zB ((zJ.of_below (g:=p) ((yJ w.heap.size w).drew)).trans HK);have y:=zB h1;obtain⟨Ty,v,he⟩:=zEO HG;have Y:=zB he;rw[he];clear h1 he HX HK)))
  have P:=zB (by rw[zA HE,zA Y]:exT ns (.node 3 0 t T .nil)=zGV q (.iface Ty v));have X:=zB (show res=some (.node 3 0 t T .nil,r) by
   have:=zA HN
   rw[zA h,yP Jo,zA y])
  clear HE Y h y;go_wp2_with fail;go_ret;exact⟨K,yU ⟨_,_,X,by rw[zA P];rfl,zB (J _ _ X),HP⟩⟩
theorem zDA(h:i<n):atI (Zs ns ts n) i=zZ ns ts i:=by
 simp[atI,Zs,List.getD,h]
def TkF(ns:List OpR)(ts:List zU)(i:Nat):Prop:=
 ((atT ts i).k=3/\(1<=zZ ns ts i/\zZ ns ts i<=3)/\sgT ns ts i=((zZ ns ts i).toNat+2,(atT ts i).t)/\∃j,fnd ns (atT ts i).t (zZ ns ts i)=some j/\sLv ns (sgT ns ts i)=(atO ns j).l/\sSo ns (sgT ns ts i)=srt (atO ns j).k (atO ns j).sd) \/
 ((atT ts i).k≠3/\zZ ns ts i=0/\¬ (3<=(sgT ns ts i).1/\(sgT ns ts i).1<=5))
theorem zXK{r:Int}(h:ZF ns t r=true)(hr:1<=r/\r<=3):∃j,fnd ns t r=some j/\sLv ns (r.toNat+2,t)=(atO ns j).l/\sSo ns (r.toNat+2,t)=srt (atO ns j).k (atO ns j).sd:=by
 have e:((r.toNat+2:Nat):Int)-2=r:=Jo;have hk:=zEy h e;cases hf:fnd ns t r with
 |none=>
  unfold knB at hk;rw[e,hf] at hk;cases hk
 |some j=>
  have hA:opA ns (rt (r.toNat+2) t)=atO ns j:=by
   unfold opA;simp only[rt];rw[e,hf]
  refine⟨j,rfl,?_,?_⟩
  ·rw[zEz Jo hk,hA]
  ·unfold sSo;simp only;rw[hA]
theorem zWR(hr:0<=zZ ns ts i):TkF ns ts i:=by
 unfold TkF;have key:((atT ts i).k=3/\((zZ ns ts i=1/\ZF ns (atT ts i).t 1=true)\/(zZ ns ts i=2/\ZF ns (atT ts i).t 2=true)\/(zZ ns ts i=3/\ZF ns (atT ts i).t 3=true))) \/
   (((atT ts i).k=1\/(atT ts i).k=2\/(atT ts i).k=4\/(atT ts i).k=5\/(atT ts i).k=7)/\zZ ns ts i=0):=by
  unfold zZ at hr ⊢;generalize atT ts i=t at hr ⊢;generalize zCn ts i=op at hr ⊢;generalize decide (i+1=ts.length)=la at hr ⊢;generalize zCm ns ts i=bh at hr ⊢;cases bh
  ·rw[zJk] at hr ⊢;by_cases k1:t.k=1\/t.k=2\/t.k=4
   ·rw[yQ k1];exact yU ⟨Jo,rfl⟩
   ·rw[yP k1] at hr ⊢;by_cases c:t.k=3/\ZF ns t.t 1=true
    ·rw[yQ c];exact yS ⟨c.1,yS ⟨rfl,c.2⟩⟩
    ·rw[yP c] at hr;omega
  ·rw[zJl] at hr ⊢;by_cases c2:t.k=3/\ZF ns t.t 2=true
   ·rw[yQ c2];exact yS ⟨c2.1,yU (yS ⟨rfl,c2.2⟩)⟩
   ·rw[yP c2] at hr ⊢;by_cases c3:t.k=3/\ZF ns t.t 3=true
    ·rw[yQ c3];exact yS ⟨c3.1,yU (yU ⟨rfl,c3.2⟩)⟩
    ·rw[yP c3] at hr ⊢;by_cases c5:t.k=5/\0<op
     ·rw[yQ c5];exact yU ⟨Jo,rfl⟩
     ·rw[yP c5] at hr ⊢;by_cases c7:t.k=7/\op=0/\la=true
      ·rw[yQ c7];exact yU ⟨Jo,rfl⟩
      ·rw[yP c7] at hr;omega
 rcases key with⟨k3,h⟩|⟨hk,h0⟩
 ·left;have es:sgT ns ts i=((zZ ns ts i).toNat+2,(atT ts i).t):=by unfold sgT;rw[yQ k3]
  have hb:ZF ns (atT ts i).t (zZ ns ts i)=true/\1<=zZ ns ts i/\zZ ns ts i<=3:=by
   rcases h with⟨e,h⟩|⟨e,h⟩|⟨e,h⟩<;>rw[e]<;>exact⟨h,Jd,Jd⟩
  refine⟨k3,hb.2,es,?_⟩;rw[es];exact zXK hb.1 hb.2
 ·right;refine⟨Jo,h0,?_⟩;unfold sgT;rw[yP Jo];by_cases k4:(atT ts i).k=4
  ·rw[yQ k4];decide
  ·rw[yP k4];by_cases k5:(atT ts i).k=5
   ·rw[yQ k5];decide
   ·rw[yP k5];by_cases k7:(atT ts i).k=7
    ·rw[yQ k7];decide
    ·rw[yP k7];simp only;omega
theorem zWS(h:TkF ns ts i)(hk:1<=(atT ts i).k/\(atT ts i).k<=7/\(atT ts i).k≠6)(op:Int):opS op (sgT ns ts i)=op+(if(atT ts i).k=4 then 1 else 0)-(if(atT ts i).k=5 then 1 else 0):=by
 rcases h with⟨k3,hr,es,_⟩|⟨k3,h0,hn⟩
 ·rw[ZB (by rw[es];simp only;omega),yP Jo,yP Jo];omega
 ·unfold sgT;rw[yP k3];by_cases k4:(atT ts i).k=4
  ·rw[yQ k4,zCg,yQ k4,yP Jo];omega
  ·rw[yP k4];by_cases k5:(atT ts i).k=5
   ·rw[yQ k5,zFy,yP k4,yQ k5];omega
   ·rw[yP k5,yP k4,yP k5];by_cases k7:(atT ts i).k=7
    ·rw[yQ k7,ZB Jd];omega
    ·rw[yP k7,ZB Jr];omega
theorem zWT(op:Int)(s:SyR):op-1<=opS op s/\opS op s<=op+1:=by
 unfold opS;split<;>split<;>omega
theorem zSk:∀(ss:List SyR)(op:Int),op-(ss.length:Int)<=opL op ss/\opL op ss<=op+(ss.length:Int)
 |[],op=>by simp[opL]
 |s::r,op=>by
  rw[zAH];have h1:=zSk r (opS op s);have h2:=zWT op s;simp only[yy];omega
def zDv(x:Option (Nat×SyR)):Int:=match x with
 |none=>-1
 |some x=>(x.1:Int)
theorem zUn(ns:List OpR)(ts:List zU)(a n:Nat):rtF ns (sgs ns ts a (n+1)) a 0 none=(if opS (opL 0 (sgs ns ts a n)) (sgT ns ts (a+n))≠0\/¬ (3<=(sgT ns ts (a+n)).1/\(sgT ns ts (a+n)).1<=5) then rtF ns (sgs ns ts a n) a 0 none else zB9 ns (rtF ns (sgs ns ts a n) a 0 none) (a+n,sgT ns ts (a+n))):=by
 rw[zFX,ZY,zAq];rfl
theorem zQP(ns:List OpR)(ts:List zU)(a n:Nat):opL 0 (sgs ns ts a (n+1))=opS (opL 0 (sgs ns ts a n)) (sgT ns ts (a+n)):=by
 rw[zFX,zDW];rfl
theorem zQQ{a:Nat}{L R:List SyR}{s:SyR}(h:sgs ns ts a n=L++s::R):s=sgT ns ts (a+L.length)/\L.length<n/\L=sgs ns ts a L.length/\R=sgs ns ts (a+L.length+1) (n-L.length-1):=by
 have hl:=yV List.length h;rw[zAq,yq,yy] at hl;have e:n=L.length+(R.length+1):=Jo;rw[e,zHA,zFW] at h;have h2:=List.append_inj h (by rw[zAq]);injection h2.2 with h3 h4;refine⟨h3.symm,Jo,h2.1.symm,?_⟩;rw[<-h4];congr 1;omega
theorem zUo{a:Nat}{x:Nat×SyR}(h:rtF ns (sgs ns ts a n) a 0 none=some x):a<=x.1/\x.1<a+n/\x.2=sgT ns ts x.1/\(3<=x.2.1/\x.2.1<=5):=by
 rcases zJj _ _ _ _ _ h with h|⟨L,R,h1,h2,h3,_⟩
 ·cases h
 ·have:=zQQ h1;refine⟨Jo,Jo,?_,h3⟩;rw[h2];exact this.1
def shO(k:Nat)(x:Option (Nat×SyR)):Option (Nat×SyR):=x.map (fun x=>(x.1+k,x.2))
theorem zLJ(ns:List OpR)(k:Nat):∀(ss:List SyR)(i:Nat)(op:Int)(h:Option (Nat×SyR)),rtF ns ss (i+k) op (shO k h)=shO k (rtF ns ss i op h)
 |[],i,op,h=>rfl
 |s::r,i,op,h=>by
  simp only[rtF];have e:i+k+1=(i+1)+k:=Jo;rw[e];rw[<-zLJ ns k r];congr 1;split
  ·rfl
  ·cases h with
   |none=>rfl
   |some b=>
    simp only[zB9,shO,Option.map];split<;>rfl
theorem zSl(ns:List OpR)(ss:List SyR)(a:Nat):rtF ns ss a 0 none=shO a (rtF ns ss 0 0 none):=by
 have:=zLJ ns a ss 0 0 none;rw[yY] at this;exact this
end Go.Proofs.YtadiaghhackbjaaGreatDoor
