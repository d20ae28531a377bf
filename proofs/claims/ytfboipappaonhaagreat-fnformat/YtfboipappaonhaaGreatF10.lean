import Derived.Deep.RegionHeld
import Derived.BigQuiet
import Derived.Test.YtfboipappaonhaaGreatF00
import Derived.Test.YtfboipappaonhaaGreatF08
import Derived.Test.YtfboipappaonhaaGreatF09
namespace Go.Proofs.YtfboipappaonhaaGreat
set_option linter.unusedSimpArgs false
set_option linter.unusedVariables false
set_option maxHeartbeats 16000000
set_option maxRecDepth 100000
open Go.RowKit
open Go.Deep (BT)
def sLv (ns:List OpR) (s:SyR):Int:=Zd ns (rt s.1 s.2)
def sH (ns:List OpR) (s:SyR) (b:Bool):Int:=zY ns (rt s.1 s.2) b
def sSo (ns:List OpR) (s:SyR):Int:=srt (opA ns (rt s.1 s.2)).k (opA ns (rt s.1 s.2)).sd
def knB (ns:List OpR) (s:SyR):Bool:=(fnd ns s.2 ((s.1:Int)-2)).isSome
structure OpF (ns:List OpR) (s:SyR):Prop where
 lo:1<=sLv ns s
 hi:sLv ns s<=1000
 pre:s.1=3->sH ns s false=sLv ns s/\sSo ns s=2
 post:s.1=5->sH ns s false=sLv ns s/\sSo ns s=1
 mid:s.1=4->(sSo ns s=1/\sH ns s false=sLv ns s/\sH ns s true=sLv ns s+1)\/(sSo ns s=2/\sH ns s false=sLv ns s+1/\sH ns s true=sLv ns s)\/(sSo ns s=3/\sH ns s false=sLv ns s+1/\sH ns s true=sLv ns s+1)
theorem zBl {ns:List OpR} (h:zM ns 0):zBF ns ns.length/\¬ Pr 4 ns:=by
 rcases h with ⟨h,_⟩ | ⟨_,⟨h,_⟩ | ⟨hok,⟨h,_⟩ | ⟨_,⟨h,_⟩ | ⟨_,h4⟩⟩⟩⟩
 ·exact absurd h (by decide)
 ·exact absurd h (by decide)
 ·exact absurd h (by decide)
 ·exact absurd h (by decide)
 ·exact ⟨hok,h4⟩
theorem zE8 {ns:List OpR} {s:SyR} (hk:knB ns s=true):∃ j,j<ns.length/\fnd ns s.2 ((s.1:Int)-2)=some j/\(atO ns j).k=(s.1:Int)-2/\opA ns (rt s.1 s.2)=atO ns j:=by
 unfold knB at hk
 obtain ⟨j,hj⟩:=Option.isSome_iff_exists.1 hk
 have:=Z2 hj
 refine ⟨j,this.1,hj,this.2.2,?_⟩
 unfold opA rt
 simp only
 rw [hj]
theorem opF {ns:List OpR} (h:zM ns 0) {s:SyR} (hs:s.1=3\/s.1=4\/s.1=5) (hk:knB ns s=true):OpF ns s:=by
 obtain ⟨j,hj,hf,hkk,ho⟩:=zE8 hk
 have hok:=(zBl h).1 j hj
 have hlv:sLv ns s=(atO ns j).l:=by
  unfold sLv Zd rt
  simp only
  rw [if_pos (by omega),hf]
 have hh:∀ b,sH ns s b=ZJ (atO ns j).s (atO ns j).k (atO ns j).l (atO ns j).sd b:=fun b=>by
  unfold sH zY rt
  simp only
  rw [hf]
  rfl
 have hso:sSo ns s=srt (atO ns j).k (atO ns j).sd:=by unfold sSo; rw [ho]
 have hok':okB (atO ns j).s (atO ns j).k (atO ns j).l (atO ns j).sd=true:=hok
 have hok2:=hok'
 unfold okB zF0 at hok2
 simp only [Bool.and_eq_true,Bool.or_eq_true,decide_eq_true_eq,beq_iff_eq] at hok2
 obtain ⟨⟨⟨_,h1⟩,h2⟩,h3⟩:=hok2
 refine ⟨by omega,by omega,fun e=>?_,fun e=>?_,fun e=>?_⟩
 ·have k1:(atO ns j).k=1:=by omega
  rw [hh,hlv,hso,ZJ,srt,k1]
  simp_all
 ·have k1:(atO ns j).k=3:=by omega
  rw [hh,hlv,hso,ZJ,srt,k1]
  simp_all
 ·have k1:(atO ns j).k=2:=by omega
  rw [hh,hh,hlv,hso,ZJ,ZJ,srt,k1]
  rw [k1] at hok' h3
  rw [hok']
  have h3':(atO ns j).sd=1\/(atO ns j).sd=2\/(atO ns j).sd=3:=by simp at h3; omega
  rcases h3' with e | e | e <;> simp [zJs,e]
theorem zFh {ns:List OpR} (h:zM ns 0) {s s':SyR} (hs:s.1=3\/s.1=4\/s.1=5) (hs':s'.1=3\/s'.1=4\/s'.1=5) (hk:knB ns s=true) (hk':knB ns s'=true) (he:sLv ns s=sLv ns s'):sSo ns s=sSo ns s':=by
 obtain ⟨j,hj,hf,hkk,ho⟩:=zE8 hk
 obtain ⟨j',hj',hf',hkk',ho'⟩:=zE8 hk'
 have hlv:sLv ns s=(atO ns j).l:=by unfold sLv Zd rt; simp only; rw [if_pos (by omega),hf]
 have hlv':sLv ns s'=(atO ns j').l:=by unfold sLv Zd rt; simp only; rw [if_pos (by omega),hf']
 unfold sSo
 rw [ho,ho']
 by_cases hd:srt (atO ns j).k (atO ns j).sd=srt (atO ns j').k (atO ns j').sd
 ·exact hd
 ·exfalso
  apply (zBl h).2
  rcases Nat.lt_trichotomy j j' with e | e | e
  ·exact ⟨j',j,e,hj',by simp [cl]; exact ⟨by omega,fun x=>hd x.symm⟩⟩
  ·subst e; exact absurd rfl hd
  ·exact ⟨j,j',e,hj,by simp [cl]; exact ⟨by omega,hd⟩⟩
def lvT (ns:List OpR):ET->Int
 | .nil=>1001
 | .node b _ t _ _=>sLv ns (b,t)
def zf (ns:List OpR):ET->Prop
 | .nil=>False
 | .node b o t l r=>o=0/\(((b=1\/b=2)/\l = .nil/\r = .nil) \/
   (b=6/\t=ByteArray.empty/\zf ns l/\r = .nil) \/
   ((b=3\/b=5)/\knB ns (b,t)=true/\zf ns l/\r = .nil/\sH ns (b,t) false<=lvT ns l) \/
   (b=4/\knB ns (b,t)=true/\zf ns l/\zf ns r/\sH ns (b,t) false<=lvT ns l/\sH ns (b,t) true<=lvT ns r))
theorem zAW (ns:List OpR) (b:Nat) (t:ByteArray) (h:¬ (b=3\/b=4\/b=5)):sLv ns (b,t)=1001:=by
 unfold sLv Zd rt
 simp only
 rw [if_neg (by omega)]
theorem zf.sh {ns:List OpR}:∀ {T:ET},zf ns T->Sh T
 | .nil,h=>h.elim
 | .node b o t l r,⟨h0,h⟩=>by
  refine ⟨h0,?_⟩
  rcases h with ⟨h | h,rfl,rfl⟩ | ⟨rfl,_,hl,rfl⟩ | ⟨h | h,_,hl,rfl,_⟩ | ⟨rfl,_,hl,hr,_⟩
  ·subst h; exact Or.inl ⟨by decide,rfl,rfl⟩
  ·subst h; exact Or.inl ⟨by decide,rfl,rfl⟩
  ·exact Or.inr (Or.inl ⟨by decide,hl.sh,rfl⟩)
  ·subst h; exact Or.inr (Or.inl ⟨by decide,hl.sh,rfl⟩)
  ·subst h; exact Or.inr (Or.inl ⟨by decide,hl.sh,rfl⟩)
  ·exact Or.inr (Or.inr ⟨by decide,hl.sh,hr.sh⟩)
def rd (ns:List OpR):Nat->Int->Option ET->List SyR->Option (ET×List SyR)
 | 0,_,_,_=>none
 | _+1,_,none,[]=>none
 | n+1,least,none,s::r=>
  if s.1=3 then (if sLv ns s<least then none else (match rd ns n (sH ns s false) none r with
   | none=>none
   | some x=>rd ns n least (some (.node 3 0 s.2 x.1 .nil)) x.2))
  else if s.1=6 then (match rd ns n 0 none r with
   | none=>none
   | some x=>rd ns n least (some (.node 6 0 ByteArray.empty x.1 .nil)) x.2.tail)
  else rd ns n least (some (.node s.1 0 s.2 .nil .nil)) r
 | _+1,_,some T,[]=>some (T,[])
 | n+1,least,some T,s::r=>
  if s.1=4/\least<=sLv ns s then (if lvT ns T<sH ns s false then none else (match rd ns n (sH ns s true) none r with
   | none=>none
   | some x=>rd ns n least (some (.node 4 0 s.2 T x.1)) x.2))
  else if s.1=5/\least<=sLv ns s then (if lvT ns T<sH ns s false then none else rd ns n least (some (.node 5 0 s.2 T .nil)) r)
  else some (T,s::r)
theorem zA2 (ns:List OpR):∀ n least md ss x,rd ns n least md ss=some x->x.2.length<=ss.length
 | 0,_,_,_,_,h=>by simp [rd] at h
 | n+1,least,none,[],x,h=>by simp [rd] at h
 | n+1,least,none,s::r,x,h=>by
  simp only [rd] at h
  split at h
  ·split at h
   ·cases h
   ·split at h
    ·cases h
    ·rename_i y hy
     have h1:=zA2 ns n _ _ _ _ hy
     have h2:=zA2 ns n _ _ _ _ h
     simp only [List.length_cons]; omega
  ·split at h
   ·split at h
    ·cases h
    ·rename_i y hy
     have h1:=zA2 ns n _ _ _ _ hy
     have h2:=zA2 ns n _ _ _ _ h
     have h3:y.2.tail.length<=y.2.length:=by simp
     simp only [List.length_cons]; omega
   ·have h2:=zA2 ns n _ _ _ _ h
    simp only [List.length_cons]; omega
 | n+1,least,some T,[],x,h=>by
  simp only [rd,Option.some.injEq] at h
  subst h; simp
 | n+1,least,some T,s::r,x,h=>by
  simp only [rd] at h
  split at h
  ·split at h
   ·cases h
   ·split at h
    ·cases h
    ·rename_i y hy
     have h1:=zA2 ns n _ _ _ _ hy
     have h2:=zA2 ns n _ _ _ _ h
     simp only [List.length_cons]; omega
  ·split at h
   ·split at h
    ·cases h
    ·have h2:=zA2 ns n _ _ _ _ h
     simp only [List.length_cons]; omega
   ·simp only [Option.some.injEq] at h
    subst h; simp
theorem zE9 (ns:List OpR):∀ n m least md ss,ss.length<n->ss.length<m->rd ns n least md ss=rd ns m least md ss
 | 0,_,_,_,_,h,_=>absurd h (Nat.not_lt_zero _)
 | _+1,0,_,_,_,_,h=>absurd h (Nat.not_lt_zero _)
 | n+1,m+1,least,none,[],_,_=>by simp [rd]
 | n+1,m+1,least,some T,[],_,_=>by simp [rd]
 | n+1,m+1,least,none,s::r,h,h'=>by
  simp only [List.length_cons] at h h'
  have e1:=fun l=>zE9 ns n m l none r (by omega) (by omega)
  have e2:=fun l md q=>fun (hq:q.length<=r.length)=>zE9 ns n m l md q (by omega) (by omega)
  simp only [rd,e1]
  split
  ·split
   ·rfl
   ·cases hy:rd ns m (sH ns s false) none r with
    | none=>rfl
    | some y=>exact e2 _ _ _ (zA2 ns m _ _ _ _ hy)
  ·split
   ·cases hy:rd ns m 0 none r with
    | none=>rfl
    | some y=>exact e2 _ _ _ (by have:=zA2 ns m _ _ _ _ hy; simp; omega)
   ·exact e2 _ _ _ (Nat.le_refl _)
 | n+1,m+1,least,some T,s::r,h,h'=>by
  simp only [List.length_cons] at h h'
  have e1:=fun l=>zE9 ns n m l none r (by omega) (by omega)
  have e2:=fun l md q=>fun (hq:q.length<=r.length)=>zE9 ns n m l md q (by omega) (by omega)
  simp only [rd,e1]
  split
  ·split
   ·rfl
   ·cases hy:rd ns m (sH ns s true) none r with
    | none=>rfl
    | some y=>exact e2 _ _ _ (zA2 ns m _ _ _ _ hy)
  ·split
   ·split
    ·rfl
    ·exact e2 _ _ _ (Nat.le_refl _)
   ·rfl
def RD (ns:List OpR) (least:Int) (md:Option ET) (ss:List SyR):Option (ET×List SyR):=rd ns (ss.length+1) least md ss
theorem zPu (ns:List OpR) (n:Nat) (least:Int) (md:Option ET) (ss:List SyR) (h:ss.length<n):rd ns n least md ss=RD ns least md ss:=
 zE9 ns _ _ _ _ _ h (Nat.lt_succ_self _)
theorem zGZ (ns:List OpR) (least:Int) (s:SyR) (r:List SyR):RD ns least none (s::r) =
  if s.1=3 then (if sLv ns s<least then none else (match RD ns (sH ns s false) none r with
   | none=>none
   | some x=>RD ns least (some (.node 3 0 s.2 x.1 .nil)) x.2))
  else if s.1=6 then (match RD ns 0 none r with
   | none=>none
   | some x=>RD ns least (some (.node 6 0 ByteArray.empty x.1 .nil)) x.2.tail)
  else RD ns least (some (.node s.1 0 s.2 .nil .nil)) r:=by
 have e:RD ns least none (s::r)=rd ns (r.length+1+1) least none (s::r):=rfl
 have e1:∀ l,rd ns (r.length+1) l none r=RD ns l none r:=fun l=>rfl
 have e2:∀ l md q,q.length<=r.length->rd ns (r.length+1) l md q=RD ns l md q:=fun l md q hq=>zPu ns _ l md q (by omega)
 rw [e]
 simp only [rd,e1]
 split
 ·split
  ·rfl
  ·cases hy:RD ns (sH ns s false) none r with
   | none=>rfl
   | some y=>exact e2 _ _ _ (zA2 ns _ _ _ _ _ hy)
 ·split
  ·cases hy:RD ns 0 none r with
   | none=>rfl
   | some y=>exact e2 _ _ _ (by have:=zA2 ns _ _ _ _ _ hy; simp; omega)
  ·rfl
theorem zGa (ns:List OpR) (least:Int) (T:ET) (s:SyR) (r:List SyR):RD ns least (some T) (s::r) =
  if s.1=4/\least<=sLv ns s then (if lvT ns T<sH ns s false then none else (match RD ns (sH ns s true) none r with
   | none=>none
   | some x=>RD ns least (some (.node 4 0 s.2 T x.1)) x.2))
  else if s.1=5/\least<=sLv ns s then (if lvT ns T<sH ns s false then none else RD ns least (some (.node 5 0 s.2 T .nil)) r)
  else some (T,s::r):=by
 have e:RD ns least (some T) (s::r)=rd ns (r.length+1+1) least (some T) (s::r):=rfl
 have e1:∀ l,rd ns (r.length+1) l none r=RD ns l none r:=fun l=>rfl
 have e2:∀ l md q,q.length<=r.length->rd ns (r.length+1) l md q=RD ns l md q:=fun l md q hq=>zPu ns _ l md q (by omega)
 rw [e]
 simp only [rd,e1]
 split
 ·split
  ·rfl
  ·cases hy:RD ns (sH ns s true) none r with
   | none=>rfl
   | some y=>exact e2 _ _ _ (zA2 ns _ _ _ _ _ hy)
 ·split
  ·split
   ·rfl
   ·rfl
  ·rfl
def zF6 (ns:List OpR) (least:Int) (ss:List SyR):Prop:=∀ s r,ss=s::r->(s.1=4\/s.1=5)->sLv ns s<least
theorem zGb {ns:List OpR} {least:Int} {ss:List SyR} (h:zF6 ns least ss) (T:ET):RD ns least (some T) ss=some (T,ss):=by
 cases ss with
 | nil=>rfl
 | cons s r=>
  have hs:=h s r rfl
  rw [zGa,if_neg (fun x=>by have:=hs (Or.inl x.1); omega),if_neg (fun x=>by have:=hs (Or.inr x.1); omega)]
def zIH (ns:List OpR):ET->List SyR->Prop
 | .nil,_=>True
 | .node b _ t l r,ss=>(b=3->zF6 ns (sH ns (b,t) false) ss/\zIH ns l ss)/\(b=4->zF6 ns (sH ns (b,t) true) ss/\zIH ns r ss)
theorem zDU {ns:List OpR} {least:Int} {s:SyR} {r:List SyR} (h:¬ (s.1=4\/s.1=5)):zF6 ns least (s::r):=fun s' r' e hs=>by
 injection e with e1 e2
 subst e1
 exact absurd hs h
theorem zCY {ns:List OpR} {s:SyR} {r:List SyR} (h:¬ (s.1=4\/s.1=5)):∀ T:ET,zIH ns T (s::r)
 | .nil=>trivial
 | .node b o t l q=>⟨fun _=>⟨zDU h,zCY h l⟩,fun _=>⟨zDU h,zCY h q⟩⟩
theorem zF7 {ns:List OpR} (hv:zM ns 0) {q:SyR} {r:List SyR}:∀ T:ET,zf ns T->sLv ns q<lvT ns T->zIH ns T (q::r):=by
 intro T
 induction T with
 | nil=>intro h; exact h.elim
 | node b o t l rr ihl ihr=>
  rintro ⟨_,h⟩ hq
  have st:∀ m:Int,sLv ns q<m->zF6 ns m (q::r):=fun m hm s' r' e _=>by
   injection e with e1 e2
   subst e1
   exact hm
  refine ⟨fun e=>?_,fun e=>?_⟩
  ·subst e
   rcases h with ⟨h | h,_⟩ | ⟨h,_⟩ | ⟨_,hk,hl,_,hh⟩ | ⟨h,_⟩
   ·omega
   ·omega
   ·omega
   ·have f:=(opF hv (Or.inl rfl) hk).pre rfl
    simp only [lvT] at hq
    exact ⟨st _ (by omega),ihl hl (by omega)⟩
   ·omega
  ·subst e
   rcases h with ⟨h | h,_⟩ | ⟨h,_⟩ | ⟨h | h,_⟩ | ⟨_,hk,hl,hr,h1,h2⟩
   ·omega
   ·omega
   ·omega
   ·omega
   ·omega
   ·have f:=(opF hv (Or.inr (Or.inl rfl)) hk).mid rfl
    simp only [lvT] at hq
    exact ⟨st _ (by omega),ihr hr (by omega)⟩
theorem zII {ns:List OpR} (hv:zM ns 0) {q:SyR} {r:List SyR} (hq:q.1=4\/q.1=5) (hkq:knB ns q=true):∀ T:ET,zf ns T->sH ns q false<=lvT ns T->zIH ns T (q::r):=by
 intro T hT hle
 have fq:=opF hv (by omega) hkq
 have hh:sH ns q false=sLv ns q+1\/(sH ns q false=sLv ns q/\sSo ns q=1):=by
  rcases hq with e | e
  ·rcases fq.mid e with h | h | h
   ·exact Or.inr ⟨h.2.1,h.1⟩
   ·exact Or.inl h.2.1
   ·exact Or.inl h.2.1
  ·exact Or.inr (fq.post e)
 by_cases hlt:sLv ns q<lvT ns T
 ·exact zF7 hv T hT hlt
 ·have heq:lvT ns T=sLv ns q/\sSo ns q=1:=by
   rcases hh with h | ⟨h,h'⟩
   ·omega
   ·exact ⟨by omega,h'⟩
  cases T with
  | nil=>exact hT.elim
  | node b o t l rr=>
   obtain ⟨_,h⟩:=hT
   simp only [lvT] at heq
   have st:∀ m:Int,sLv ns q<m->zF6 ns m (q::r):=fun m hm s' r' e _=>by
    injection e with e1 e2
    subst e1
    exact hm
   refine ⟨fun e=>?_,fun e=>?_⟩
   ·subst e
    rcases h with ⟨h | h,_⟩ | ⟨h,_⟩ | ⟨_,hk,hl,_,hh⟩ | ⟨h,_⟩
    ·omega
    ·omega
    ·omega
    ·have f:=(opF hv (Or.inl rfl) hk).pre rfl
     have:=zFh hv (s:=(3,t)) (s':=q) (Or.inl rfl) (by omega) hk hkq heq.1
     omega
    ·omega
   ·subst e
    rcases h with ⟨h | h,_⟩ | ⟨h,_⟩ | ⟨h | h,_⟩ | ⟨_,hk,hl,hr,h1,h2⟩
    ·omega
    ·omega
    ·omega
    ·omega
    ·omega
    ·have f:=(opF hv (Or.inr (Or.inl rfl)) hk).mid rfl
     have:=zFh hv (s:=(4,t)) (s':=q) (Or.inr (Or.inl rfl)) (by omega) hk hkq heq.1
     have e2:sH ns (4,t) true=sLv ns (4,t)+1:=by
      rcases f with h | h | h
      ·exact h.2.2
      ·omega
      ·omega
     exact ⟨st _ (by omega),zF7 hv rr hr (by omega)⟩
theorem zNX {ns:List OpR} (hv:zM ns 0):∀ (T:ET),zf ns T->∀ (least:Int) (rest:List SyR),least<=lvT ns T->zIH ns T rest->RD ns least none (ySy T++rest)=RD ns least (some T) rest:=by
 intro T
 induction T with
 | nil=>intro h; exact h.elim
 | node b o t l r ihl ihr=>
  rintro ⟨rfl,h⟩ least rest hle hst
  simp only [lvT] at hle
  rcases h with ⟨h12,rfl,rfl⟩ | ⟨rfl,rfl,hl,rfl⟩ | ⟨h35,hk,hl,rfl,hh⟩ | ⟨rfl,hk,hl,hr,h1,h2⟩
  ·have e:ySy (.node b 0 t .nil .nil)=[(b,t)]:=by
    simp only [ySy]
    rw [if_neg (by omega),if_neg (by omega),if_neg (by omega),if_neg (by omega)]
   rw [e]
   show RD ns least none ((b,t)::rest)=_
   rw [zGZ]
   simp only
   rw [if_neg (by omega),if_neg (by omega)]
  ·have e:ySy (.node 6 0 ByteArray.empty l .nil)++rest=(6,opn)::(ySy l++((7,zA1)::rest)):=by
    simp [ySy]
   rw [e,zGZ]
   simp only
   rw [if_neg (by decide),if_pos trivial]
   have hs:¬ ((7,zA1):SyR).1=4/\¬ ((7,zA1):SyR).1=5:=⟨by decide,by decide⟩
   have h0:(0:Int)<=lvT ns l:=by
    cases l with
    | nil=>exact hl.elim
    | node bb oo tt ll rr=>
     simp only [lvT]
     by_cases hb:bb=3\/bb=4\/bb=5
     ·have hkn:knB ns (bb,tt)=true:=by
       rcases hl.2 with ⟨h | h,_⟩ | ⟨h,_⟩ | ⟨_,hk,_⟩ | ⟨_,hk,_⟩
       ·omega
       ·omega
       ·omega
       ·exact hk
       ·exact hk
      have:=(opF hv (s:=(bb,tt)) hb hkn).lo
      omega
     ·rw [zAW ns bb tt hb]; omega
   rw [ihl hl 0 _ h0 (zCY (by omega) l),zGb (zDU (by omega))]
   rfl
  ·rcases h35 with rfl | rfl
   ·have f:=(opF hv (Or.inl rfl) hk).pre rfl
    have e:ySy (.node 3 0 t l .nil)++rest=(3,t)::(ySy l++rest):=by simp [ySy]
    obtain ⟨hst1,hst2⟩:=hst.1 rfl
    rw [e,zGZ]
    simp only
    rw [if_pos trivial,if_neg (by omega),ihl hl _ rest hh hst2,zGb hst1]
   ·have f:=(opF hv (Or.inr (Or.inr rfl)) hk).post rfl
    have e:ySy (.node 5 0 t l .nil)++rest=ySy l++((5,t)::rest):=by simp [ySy]
    rw [e,ihl hl least _ (by omega) (zII hv (q:=(5,t)) (Or.inr rfl) hk l hl hh),zGa]
    simp only
    rw [if_neg (by omega),if_pos ⟨trivial,hle⟩,if_neg (by omega)]
  ·have f:=(opF hv (Or.inr (Or.inl rfl)) hk).mid rfl
   have e:ySy (.node 4 0 t l r)++rest=ySy l++((4,t)::(ySy r++rest)):=by simp [ySy]
   obtain ⟨hst1,hst2⟩:=hst.2 rfl
   rw [e,ihl hl least _ (by omega) (zII hv (q:=(4,t)) (Or.inl rfl) hk l hl h1),zGa]
   simp only
   rw [if_pos ⟨trivial,hle⟩,if_neg (by omega),ihr hr _ rest h2 hst2,zGb hst1]
def zA9 (ns:List OpR):ET->Prop
 | .nil=>False
 | .node b o t l r=>o=0/\(((b=1\/b=2)/\l = .nil/\r = .nil)\/(b=6/\t=ByteArray.empty/\zA9 ns l/\r = .nil)\/((b=3\/b=5)/\knB ns (b,t)=true/\zA9 ns l/\r = .nil)\/(b=4/\knB ns (b,t)=true/\zA9 ns l/\zA9 ns r))
theorem zf.well {ns:List OpR}:∀ {T:ET},zf ns T->zA9 ns T
 | .nil,h=>h
 | .node b o t l r,⟨h0,h⟩=>by
  refine ⟨h0,?_⟩
  rcases h with h | ⟨h1,h2,hl,h3⟩ | ⟨h1,h2,hl,h3,_⟩ | ⟨h1,h2,hl,hr,_⟩
  ·exact Or.inl h
  ·exact Or.inr (Or.inl ⟨h1,h2,hl.well,h3⟩)
  ·exact Or.inr (Or.inr (Or.inl ⟨h1,h2,hl.well,h3⟩))
  ·exact Or.inr (Or.inr (Or.inr ⟨h1,h2,hl.well,hr.well⟩))
theorem zA9.sh {ns:List OpR}:∀ {T:ET},zA9 ns T->Sh T
 | .nil,h=>h.elim
 | .node b o t l r,⟨h0,h⟩=>by
  refine ⟨h0,?_⟩
  rcases h with ⟨h | h,rfl,rfl⟩ | ⟨rfl,_,hl,rfl⟩ | ⟨h | h,_,hl,rfl⟩ | ⟨rfl,_,hl,hr⟩
  ·subst h; exact Or.inl ⟨by decide,rfl,rfl⟩
  ·subst h; exact Or.inl ⟨by decide,rfl,rfl⟩
  ·exact Or.inr (Or.inl ⟨by decide,hl.sh,rfl⟩)
  ·subst h; exact Or.inr (Or.inl ⟨by decide,hl.sh,rfl⟩)
  ·subst h; exact Or.inr (Or.inl ⟨by decide,hl.sh,rfl⟩)
  ·exact Or.inr (Or.inr ⟨by decide,hl.sh,hr.sh⟩)
theorem zFA {ns:List OpR} {b:Nat} {t:ByteArray} (h:knB ns (b,t)=true):(opA ns (rt b t)).s=t:=by
 obtain ⟨j,hj,hf,hk,ho⟩:=zE8 h
 rw [ho]
 exact (Z2 hf).2.1
theorem zMR {ns:List OpR} {xs:List zD} (htx:∀ i,i<xs.length->zAA (atN xs i)) (hkn:zAt ns xs):∀ (T:ET) (s:Nat),Sh T->zBr xs T s->s+tsz T<=xs.length->zA9 ns T:=by
 intro T
 induction T with
 | nil=>intro s h; exact h.elim
 | node b o t l r ihl ihr=>
  rintro s ⟨h0,hsh⟩ ⟨h1,h2,h3⟩ hz
  simp only [tsz] at hz
  have hi:s+tsz l+tsz r<xs.length:=by omega
  have ht:=htx _ hi
  have hk:=hkn _ hi
  rw [h3] at ht hk
  have hk':ZF (tN b t l r s)->knB ns (b,t)=true:=fun hop=>by
   have:=hk hop
   unfold knB
   cases e:fnd ns t ((b:Int)-2) with
   | none=>exact absurd e this
   | some j=>rfl
  refine ⟨h0,?_⟩
  rcases ht.2 with ⟨e,_⟩ | ⟨e,_⟩ | ⟨e,e2⟩ | ⟨e,_⟩
  ·have e':b=1:=by simp only [tN] at e; omega
   subst e'
   rcases hsh with ⟨_,hl,hr⟩ | ⟨hk,_⟩ | ⟨hk,_⟩
   ·exact Or.inl ⟨Or.inl rfl,hl,hr⟩
   ·exact absurd hk (by decide)
   ·exact absurd hk (by decide)
  ·have e':b=2:=by simp only [tN] at e; omega
   subst e'
   rcases hsh with ⟨_,hl,hr⟩ | ⟨hk,_⟩ | ⟨hk,_⟩
   ·exact Or.inl ⟨Or.inr rfl,hl,hr⟩
   ·exact absurd hk (by decide)
   ·exact absurd hk (by decide)
  ·have e':b=6:=by simp only [tN] at e; omega
   subst e'
   rcases hsh with ⟨hk,_⟩ | ⟨_,hl,hr⟩ | ⟨hk,_⟩
   ·exact absurd hk (by decide)
   ·subst hr
    refine Or.inr (Or.inl ⟨rfl,?_,ihl s hl h1 (by omega),rfl⟩)
    have:t.size=0:=e2
    exact ByteArray.size_eq_zero_iff.1 this
   ·exact absurd hk (by decide)
  ·rcases e with e | e | e
   ·have e':b=3:=by simp only [tN] at e; omega
    subst e'
    rcases hsh with ⟨hk,_⟩ | ⟨_,hl,hr⟩ | ⟨hk,_⟩
    ·exact absurd hk (by decide)
    ·subst hr
     exact Or.inr (Or.inr (Or.inl ⟨Or.inl rfl,hk' ⟨by simp [tN],by simp [tN]⟩,ihl s hl h1 (by omega),rfl⟩))
    ·exact absurd hk (by decide)
   ·have e':b=4:=by simp only [tN] at e; omega
    subst e'
    rcases hsh with ⟨hk,_⟩ | ⟨hk,_⟩ | ⟨_,hl,hr⟩
    ·exact absurd hk (by decide)
    ·exact absurd hk (by decide)
    ·exact Or.inr (Or.inr (Or.inr ⟨rfl,hk' ⟨by simp [tN],by simp [tN]⟩,ihl s hl h1 (by omega),ihr _ hr h2 (by omega)⟩))
   ·have e':b=5:=by simp only [tN] at e; omega
    subst e'
    rcases hsh with ⟨hk,_⟩ | ⟨_,hl,hr⟩ | ⟨hk,_⟩
    ·exact absurd hk (by decide)
    ·subst hr
     exact Or.inr (Or.inr (Or.inl ⟨Or.inr rfl,hk' ⟨by simp [tN],by simp [tN]⟩,ihl s hl h1 (by omega),rfl⟩))
    ·exact absurd hk (by decide)
theorem zF8 {ns:List OpR} {xs:List zD} (h:ZE xs) (hkn:zAt ns xs):∃ T,zA9 ns T/\tsz T=xs.length/\xs=nd T 0:=by
 obtain ⟨T,hs,hz,hx⟩:=zF3 h
 refine ⟨T,zMR h.2.2.2 hkn T 0 hs (by rw [hx]; exact ZW T) (by omega),hz,hx⟩
theorem zJ7 {ns:List OpR} (hv:zM ns 0):∀ (T:ET) (l:Int),zA9 ns T->l<=1001->zf ns (grT ns T l)/\l<=lvT ns (grT ns T l):=by
 intro T
 induction T with
 | nil=>intro l h; exact h.elim
 | node b o t l r ihl ihr=>
  rintro least ⟨h0,h⟩ hle
  simp only [grT]
  split
  ·rename_i h6
   subst h6
   rcases h with ⟨h | h,_⟩ | ⟨_,_,hl,_⟩ | ⟨h | h,_⟩ | ⟨h,_⟩
   ·omega
   ·omega
   ·exact ihl _ hl hle
   ·omega
   ·omega
   ·omega
  ·rename_i h6
   have:zf ns (.node b 0 t (grT ns l (zY ns (rt b t) false)) (grT ns r (zY ns (rt b t) true))):=by
    refine ⟨rfl,?_⟩
    rcases h with ⟨h,rfl,rfl⟩ | ⟨h,_⟩ | ⟨h,hk,hl,rfl⟩ | ⟨h,hk,hl,hr⟩
    ·exact Or.inl ⟨h,rfl,rfl⟩
    ·exact absurd h h6
    ·have f:=opF hv (s:=(b,t)) (by omega) hk
     have f1:=f.hi
     have f2:=f.pre
     have f3:=f.post
     have hh:zY ns (rt b t) false<=1001:=by
      show sH ns (b,t) false<=1001
      rcases h with h | h
      ·have:=f2 h; omega
      ·have:=f3 h; omega
     obtain ⟨g,hg⟩:=ihl _ hl hh
     exact Or.inr (Or.inr (Or.inl ⟨h,hk,g,rfl,hg⟩))
    ·have f:=opF hv (s:=(b,t)) (by omega) hk
     have f1:=f.hi
     have f2:=f.mid h
     have hh:zY ns (rt b t) false<=1001:=by show sH ns (b,t) false<=1001; omega
     have hh2:zY ns (rt b t) true<=1001:=by show sH ns (b,t) true<=1001; omega
     obtain ⟨g,hg⟩:=ihl _ hl hh
     obtain ⟨g2,hg2⟩:=ihr _ hr hh2
     exact Or.inr (Or.inr (Or.inr ⟨h,hk,g,g2,hg,hg2⟩))
   unfold clT
   split
   ·refine ⟨⟨rfl,Or.inr (Or.inl ⟨rfl,rfl,this,rfl⟩)⟩,?_⟩
    simp only [lvT]
    rw [zAW ns 6 _ (by omega)]
    exact hle
   ·rename_i hn
    refine ⟨this,?_⟩
    simp only [lvT]
    show least<=Zd ns (rt b t)
    omega
end Go.Proofs.YtfboipappaonhaaGreat
namespace Go.Proofs.YtfboipappaonhaaGreat
set_option linter.unusedSimpArgs false
set_option linter.unusedVariables false
set_option maxHeartbeats 16000000
set_option maxRecDepth 100000
open Go.RowKit
def zES (e:Value) (l:Int):Prop:=∃ T v f r,e = .iface T v/\(∀ w,(method 342 T v "loop.example/s0059/impl.level").run Tryz.prog w = .ok (f,r) w)/\(∀ a w,(callFunc f a).run Tryz.prog w = .ok (.enter f a) w) /\
 ∀ w,Calls Tryz.prog f #[r] w fun x w'=>x = .returned (.int .i64 l)/\Below w.heap.size w w'
theorem zDV (w:World):Calls Tryz.prog 185 #[.agg #[]] w fun x w'=>x = .returned (.int .i64 1001)/\Below w.heap.size w w':=by
 go_enter Tryz.func185,Tryz.ntmps185
 go_wp2_with fail
 go_ret
 exact ⟨rfl,by first | exact zC _ _ | exact Below.refl _ _⟩
theorem zCA (p:OpR) (w:World):Calls Tryz.prog 189 #[.agg #[.string p.s,.int .i64 p.k,.int .i64 p.l,.int .i64 p.sd]] w fun x w'=>x = .returned (.int .i64 p.l)/\Below w.heap.size w w':=by
 go_enter Tryz.func189,Tryz.ntmps189
 go_wp2_with fail
 go_ret
 exact ⟨rfl,by first | exact zC _ _ | exact Below.refl _ _⟩
theorem zLo (t:ByteArray):zES (zIu t) 1001:=⟨_,_,185,.agg #[],rfl,fun w=>by kernel_rfl,fun a w=>by kernel_rfl,zDV⟩
theorem zJ8 (t:ByteArray):zES (zE5 t) 1001:=⟨_,_,185,.agg #[],rfl,fun w=>by kernel_rfl,fun a w=>by kernel_rfl,zDV⟩
theorem zOs (e:Value):zES (zE6 e) 1001:=⟨_,_,185,.agg #[],rfl,fun w=>by kernel_rfl,fun a w=>by kernel_rfl,zDV⟩
theorem zLp (p:OpR) (e:Value):zES (zEd p e) p.l:=⟨_,_,189,.agg #[.string p.s,.int .i64 p.k,.int .i64 p.l,.int .i64 p.sd],rfl,fun w=>by kernel_rfl,fun a w=>by kernel_rfl,zCA p⟩
theorem zJ9 (p:OpR) (e:Value):zES (zBw p e) p.l:=⟨_,_,189,.agg #[.string p.s,.int .i64 p.k,.int .i64 p.l,.int .i64 p.sd],rfl,fun w=>by kernel_rfl,fun a w=>by kernel_rfl,zCA p⟩
theorem zLq (p:OpR) (e e':Value):zES (zDt p e e') p.l:=⟨_,_,189,.agg #[.string p.s,.int .i64 p.k,.int .i64 p.l,.int .i64 p.sd],rfl,fun w=>by kernel_rfl,fun a w=>by kernel_rfl,zCA p⟩
def zBt (w:World) (g m:Nat):Prop:=w.cell? ⟨g,0,none⟩=some (.int .i64 (m:Int))/\w.frozen? ⟨g,0,none⟩=false
theorem zBt.below {w w':World} {g m:Nat} (h:zBt w g m) (hb:Below w.heap.size w w'):zBt w' g m:=
 ⟨(hb.cell (p:=⟨g,0,none⟩) (block_lt_of_cell h.1)).trans h.1,(hb.frozen (p:=⟨g,0,none⟩) (block_lt_of_cell h.1)).trans h.2⟩
theorem zBt.set {w:World} {g m:Nat} (h:zBt w g m) (n:Nat):zBt (w.setCell ⟨g,0,none⟩ (.int .i64 (n:Int))) g n:=
 ⟨World.cell?_setCell_same _ _ _ h.1,(World.frozen?_setCell _ _ _ _).trans h.2⟩
theorem zE.setG {w:World} {g:Nat} (v:Value):zE w (w.setCell ⟨g,0,none⟩ v) g:=⟨rfl,rfl,rfl,by simp [World.setCell],fun _ _ hi=>Below.heap_setCell _ _ _ _ hi⟩
def zI1 (l least:Int):Nat:=if l<least then 2 else 1
def zFB (l least:Int) (e:Value):Value:=if l<least then zE6 e else e
theorem zCZ {e:Value} {l:Int} (h:zES e l) (g m:Nat) (least:Int) (w:World) (hg:zBt w g m) (hm:m<=100000) :
  Calls Tryz.prog 115 #[.pointer (some ⟨g,0,none⟩),e,.int .i64 least] w fun x w'=>x = .returned (zFB l least e)/\Hid (zBt w' g (m+zI1 l least))/\Hid (zE w w' g):=by
 obtain ⟨T,v,f,r,rfl,hme,hcf,hcall⟩:=h
 have HC:=zB hcall
 have c0:=hg.1
 have f0:=hg.2
 have hlt:=block_lt_of_cell hg.1
 have HG1:=zB (hg.set (m+1))
 have e1:((m+1:Nat):Int)=(m:Int)+1:=by omega
 have e2:((m+1+1:Nat):Int)=(m:Int)+1+1:=by omega
 rw [e1] at HG1
 clear hcall hg
 go_enter Tryz.func115,Tryz.ntmps115
 go_wp2_with fail
 refine ((zA HC) _).mono ?_
 rintro x w1 ⟨rfl,hb1⟩
 have HK1:=zB ((zE.setG (w:=w) (g:=g) (.int .i64 ((m:Int)+1))).trans (zE.of_below hb1))
 have HG2:=zB ((zA HG1).below hb1)
 have c1:=(zA HG2).1
 have f1:=(zA HG2).2
 rw [e1] at c1
 clear hb1 HG1 c0 f0 hme hcf
 by_cases hl:l<least
 ·have hl':¬ least<=l:=by omega
  have HN:=zB (show zI1 l least=2 from if_pos hl)
  have HV:=zB (show zFB l least (.iface T v)=zE6 (.iface T v) from if_pos hl)
  have HG3:=zB ((zA HG2).set (m+1+1))
  rw [e2] at HG3
  have HK3:=zB ((zA HK1).trans (zE.setG (w:=w1) (g:=g) (.int .i64 ((m:Int)+1+1))))
  clear HG2 HK1
  go_wp2_with fail
  go_ret
  exact ⟨by rw [zA HV]; rfl,by rw [zA HN]; exact HG3,HK3⟩
 ·have hl':least<=l:=by omega
  have HN:=zB (show zI1 l least=1 from if_neg hl)
  have HV:=zB (show zFB l least (.iface T v) = .iface T v from if_neg hl)
  clear hl
  go_wp2_with fail
  go_ret
  exact ⟨by rw [zA HV]; rfl,by rw [zA HN]; exact HG2,HK1⟩
theorem zC3 (p:OpR) (o:zD) (e e':Value):∃ T v,exN p o e e' = .iface T v:=by
 unfold exN
 split
 ·exact ⟨_,_,rfl⟩
 ·split
  ·exact ⟨_,_,rfl⟩
  ·split
   ·exact ⟨_,_,rfl⟩
   ·split
    ·exact ⟨_,_,rfl⟩
    ·split
     ·exact ⟨_,_,rfl⟩
     ·exact ⟨_,_,rfl⟩
theorem zBW (ns:List OpR) (xs:List zD) (i:Nat):∃ T v,exS ns xs i = .iface T v:=by
 rw [zEe]; exact zC3 _ _ _ _
theorem zCB (l least:Int) (T:TypeId) (v:Value):∃ T' v',zFB l least (.iface T v) = .iface T' v':=by
 unfold zFB
 split
 ·exact ⟨_,_,rfl⟩
 ·exact ⟨_,_,rfl⟩
def Zg (T:TypeId) (v:Value) (A:TypeId) (z:Value):Prop:=∀ w,(Instr.typeAssert (.iface T v) 56 A true).run Tryz.prog w = .ok (.tuple #[z,.bool false]) w
def zG:Value:=.agg #[.nilIface]
def zP:Value:=.agg #[.string ⟨#[]⟩,.int .i64 0,.int .i64 0,.int .i64 0,.nilIface]
def zI:Value:=.agg #[.string ⟨#[]⟩,.int .i64 0,.int .i64 0,.int .i64 0,.nilIface,.nilIface]
theorem zP6 (v:Value):Zg 119 v 134 zG/\Zg 119 v 129 zP/\Zg 119 v 131 zI/\Zg 119 v 132 zP:=
 ⟨fun w=>by kernel_rfl,fun w=>by kernel_rfl,fun w=>by kernel_rfl,fun w=>by kernel_rfl⟩
theorem zOt (v:Value):Zg 121 v 134 zG/\Zg 121 v 129 zP/\Zg 121 v 131 zI/\Zg 121 v 132 zP:=
 ⟨fun w=>by kernel_rfl,fun w=>by kernel_rfl,fun w=>by kernel_rfl,fun w=>by kernel_rfl⟩
theorem zP7 (v:Value):Zg 129 v 134 zG:=fun w=>by kernel_rfl
theorem zNY (v:Value):Zg 131 v 134 zG/\Zg 131 v 129 zP:=⟨fun w=>by kernel_rfl,fun w=>by kernel_rfl⟩
theorem zLr (v:Value):Zg 132 v 134 zG/\Zg 132 v 129 zP/\Zg 132 v 131 zI:=⟨fun w=>by kernel_rfl,fun w=>by kernel_rfl,fun w=>by kernel_rfl⟩
theorem zNZ (v:Value):∀ w,(Instr.typeAssert (.iface 134 v) 56 134 true).run Tryz.prog w = .ok (.tuple #[v,.bool true]) w:=fun w=>by kernel_rfl
theorem zNa (v:Value):∀ w,(Instr.typeAssert (.iface 129 v) 56 129 true).run Tryz.prog w = .ok (.tuple #[v,.bool true]) w:=fun w=>by kernel_rfl
theorem zNb (v:Value):∀ w,(Instr.typeAssert (.iface 131 v) 56 131 true).run Tryz.prog w = .ok (.tuple #[v,.bool true]) w:=fun w=>by kernel_rfl
theorem zLs (v:Value):∀ w,(Instr.typeAssert (.iface 132 v) 56 132 true).run Tryz.prog w = .ok (.tuple #[v,.bool true]) w:=fun w=>by kernel_rfl
def zAr (w:World) (g m:Nat) (e:Value) (x:Ending) (w':World):Prop:=x = .returned e/\Hid (zBt w' g m)/\Hid (zE w w' g)
theorem zKA {T:TypeId} {v:Value} (hn:Zg T v 134 zG/\Zg T v 129 zP/\Zg T v 131 zI/\Zg T v 132 zP) {l:Int} (h:zES (.iface T v) l) (g m:Nat) (least:Int) (w:World) (hg:zBt w g m) (hm:m<=100000) :
  Calls Tryz.prog 66 #[.pointer (some ⟨g,0,none⟩),.iface T v,.int .i64 least] w (zAr w g (m+zI1 l least) (zFB l least (.iface T v))):=by
 obtain ⟨n1,n2,n3,n4⟩:=hn
 unfold Zg zG at n1
 unfold Zg zP at n2 n4
 unfold Zg zI at n3
 have HG:=zB hg
 have HL:=zB h
 clear hg h
 go_enter Tryz.func66,Tryz.ntmps66
 go_wp2_with fail
 refine (zCZ (zA HL) g m least _ (zA HG) hm).mono ?_
 rintro x w1 ⟨rfl,h1,h2⟩
 obtain ⟨T',v',hTv⟩:=zCB l least T v
 rw [hTv]
 clear n1 n2 n3 n4
 go_wp2_with fail
 go_ret
 exact ⟨by rw [hTv]; rfl,h1,h2⟩
theorem zOu {T:TypeId} {v:Value} (g m:Nat) (least:Int) {e:Value} (w:World) (he:∃ T' v',e = .iface T' v')
  (hc:∀ o,Calls Tryz.prog 66 #[.pointer (some ⟨g,0,none⟩),.iface T v,.int .i64 least] (w.alloc o) (zAr (w.alloc o) g m e)) :
  Calls Tryz.prog 66 #[.pointer (some ⟨g,0,none⟩),zE6 (.iface T v),.int .i64 least] w (zAr w g m e):=by
 obtain ⟨T',v',rfl⟩:=he
 have i1:=zNZ (.agg #[.iface T v])
 have HC:=zB hc
 clear hc
 unfold zE6
 go_enter Tryz.func66,Tryz.ntmps66
 go_wp2_with fail
 refine ((zA HC) _).mono ?_
 rintro x w1 ⟨rfl,h1,h2⟩
 have h3:=zB ((zE.of_below (zC _ _)).trans (zA h2))
 clear i1
 go_wp2_with fail
 go_ret
 exact ⟨rfl,h1,h3⟩
end Go.Proofs.YtfboipappaonhaaGreat
