import Derived.Deep.RegionHeld
import Derived.BigQuiet
import Derived.Test.YtfboipappaonhaaGreatP00
import Derived.Test.YtfboipappaonhaaGreatP09
import Derived.Test.YtfboipappaonhaaGreatP10
namespace Go.Proofs.YtfboipappaonhaaGreat
set_option linter.unusedSimpArgs false
set_option linter.unusedVariables false
set_option maxHeartbeats 16000000
set_option maxRecDepth 100000
open Go.RowKit
open Go.Deep (BT)
def sLv (ns:List OpR) (s:SyR):Int:=ZX ns (rt s.1 s.2)
def sH (ns:List OpR) (s:SyR) (b:Bool):Int:=ZE ns (rt s.1 s.2) b
def sSo (ns:List OpR) (s:SyR):Int:=srt (opA ns (rt s.1 s.2)).k (opA ns (rt s.1 s.2)).sd
def knB (ns:List OpR) (s:SyR):Bool:=(fnd ns s.2 ((s.1:Int) - 2)).isSome
structure OpF (ns:List OpR) (s:SyR):Prop where
 lo:1 <= sLv ns s
 hi:sLv ns s <= 1000
 pre:s.1 = 3 -> sH ns s false = sLv ns s /\ sSo ns s = 2
 post:s.1 = 5 -> sH ns s false = sLv ns s /\ sSo ns s = 1
 mid:s.1 = 4 -> (sSo ns s = 1 /\ sH ns s false = sLv ns s /\ sH ns s true = sLv ns s + 1) \/ (sSo ns s = 2 /\ sH ns s false = sLv ns s + 1 /\ sH ns s true = sLv ns s) \/ (sSo ns s = 3 /\ sH ns s false = sLv ns s + 1 /\ sH ns s true = sLv ns s + 1)
theorem zBX {ns:List OpR} (h:zM ns 0):zBF ns ns.length /\ ¬ Pr 4 ns:=by
 rcases h with ⟨h,_⟩ | ⟨_,⟨h,_⟩ | ⟨hok,⟨h,_⟩ | ⟨_,⟨h,_⟩ | ⟨_,h4⟩⟩⟩⟩
 ·exact absurd h (by decide)
 ·exact absurd h (by decide)
 ·exact absurd h (by decide)
 ·exact absurd h (by decide)
 ·exact ⟨hok,h4⟩
theorem zEI {ns:List OpR} {s:SyR} (hk:knB ns s = true):∃ j,j < ns.length /\ fnd ns s.2 ((s.1:Int) - 2) = some j /\ (atO ns j).k = (s.1:Int) - 2 /\ opA ns (rt s.1 s.2) = atO ns j:=by
 unfold knB at hk
 obtain ⟨j,hj⟩:=Option.isSome_iff_exists.1 hk
 have:=ZW hj
 refine ⟨j,this.1,hj,this.2.2,?_⟩
 unfold opA rt
 simp only
 rw [hj]
theorem opF {ns:List OpR} (h:zM ns 0) {s:SyR} (hs:s.1 = 3 \/ s.1 = 4 \/ s.1 = 5) (hk:knB ns s = true):OpF ns s:=by
 obtain ⟨j,hj,hf,hkk,ho⟩:=zEI hk
 have hok:=(zBX h).1 j hj
 have hlv:sLv ns s = (atO ns j).l:=by
  unfold sLv ZX rt
  simp only
  rw [if_pos (by omega),hf]
 have hh:∀ b,sH ns s b = zz (atO ns j).s (atO ns j).k (atO ns j).l (atO ns j).sd b:=fun b=>by
  unfold sH ZE rt
  simp only
  rw [hf]
  rfl
 have hso:sSo ns s = srt (atO ns j).k (atO ns j).sd:=by unfold sSo; rw [ho]
 have hok':okB (atO ns j).s (atO ns j).k (atO ns j).l (atO ns j).sd = true:=hok
 have hok2:=hok'
 unfold okB zE5 at hok2
 simp only [Bool.and_eq_true,Bool.or_eq_true,decide_eq_true_eq,beq_iff_eq] at hok2
 obtain ⟨⟨⟨_,h1⟩,h2⟩,h3⟩:=hok2
 refine ⟨by omega,by omega,fun e=>?_,fun e=>?_,fun e=>?_⟩
 ·have k1:(atO ns j).k = 1:=by omega
  rw [hh,hlv,hso,zz,srt,k1]
  simp_all
 ·have k1:(atO ns j).k = 3:=by omega
  rw [hh,hlv,hso,zz,srt,k1]
  simp_all
 ·have k1:(atO ns j).k = 2:=by omega
  rw [hh,hh,hlv,hso,zz,zz,srt,k1]
  rw [k1] at hok' h3
  rw [hok']
  have h3':(atO ns j).sd = 1 \/ (atO ns j).sd = 2 \/ (atO ns j).sd = 3:=by simp at h3; omega
  rcases h3' with e | e | e <;> simp [zIZ,e]
theorem zEn {ns:List OpR} (h:zM ns 0) {s s':SyR} (hs:s.1 = 3 \/ s.1 = 4 \/ s.1 = 5) (hs':s'.1 = 3 \/ s'.1 = 4 \/ s'.1 = 5) (hk:knB ns s = true) (hk':knB ns s' = true) (he:sLv ns s = sLv ns s'):sSo ns s = sSo ns s':=by
 obtain ⟨j,hj,hf,hkk,ho⟩:=zEI hk
 obtain ⟨j',hj',hf',hkk',ho'⟩:=zEI hk'
 have hlv:sLv ns s = (atO ns j).l:=by unfold sLv ZX rt; simp only; rw [if_pos (by omega),hf]
 have hlv':sLv ns s' = (atO ns j').l:=by unfold sLv ZX rt; simp only; rw [if_pos (by omega),hf']
 unfold sSo
 rw [ho,ho']
 by_cases hd:srt (atO ns j).k (atO ns j).sd = srt (atO ns j').k (atO ns j').sd
 ·exact hd
 ·exfalso
  apply (zBX h).2
  rcases Nat.lt_trichotomy j j' with e | e | e
  ·exact ⟨j',j,e,hj',by simp [cl]; exact ⟨by omega,fun x=>hd x.symm⟩⟩
  ·subst e; exact absurd rfl hd
  ·exact ⟨j,j',e,hj,by simp [cl]; exact ⟨by omega,hd⟩⟩
def lvT (ns:List OpR):ET -> Int
 | .nil=>1001
 | .node b _ t _ _=>sLv ns (b,t)
def zX (ns:List OpR):ET -> Prop
 | .nil=>False
 | .node b o t l r=>o = 0 /\ (((b = 1 \/ b = 2) /\ l = .nil /\ r = .nil) \/
   (b = 6 /\ t = ByteArray.empty /\ zX ns l /\ r = .nil) \/
   ((b = 3 \/ b = 5) /\ knB ns (b,t) = true /\ zX ns l /\ r = .nil /\ sH ns (b,t) false <= lvT ns l) \/
   (b = 4 /\ knB ns (b,t) = true /\ zX ns l /\ zX ns r /\ sH ns (b,t) false <= lvT ns l /\ sH ns (b,t) true <= lvT ns r))
theorem zAs (ns:List OpR) (b:Nat) (t:ByteArray) (h:¬ (b = 3 \/ b = 4 \/ b = 5)):sLv ns (b,t) = 1001:=by
 unfold sLv ZX rt
 simp only
 rw [if_neg (by omega)]
theorem zX.sh {ns:List OpR}:∀ {T:ET},zX ns T -> Sh T
 | .nil,h=>h.elim
 | .node b o t l r,⟨h0,h⟩=>by
  refine ⟨h0,?_⟩
  rcases h with ⟨h | h,rfl,rfl⟩ | ⟨rfl,_,hl,rfl⟩ | ⟨h | h,_,hl,rfl,_⟩ | ⟨rfl,_,hl,hr,_⟩
  ·subst h; exact Or.inl ⟨by decide,rfl,rfl⟩
  ·subst h; exact Or.inl ⟨by decide,rfl,rfl⟩
  ·exact Or.inr (Or.inl ⟨by decide,hl.sh,rfl⟩)
  ·subst h; exact Or.inr (Or.inl ⟨by decide,hl.sh,rfl⟩)
  ·subst h; exact Or.inr (Or.inl ⟨by decide,hl.sh,rfl⟩)
  ·exact Or.inr (Or.inr ⟨by decide,hl.sh,hr.sh⟩)
def rd (ns:List OpR):Nat -> Int -> Option ET -> List SyR -> Option (ET × List SyR)
 | 0,_,_,_=>none
 | _ + 1,_,none,[]=>none
 | n + 1,least,none,s :: r=>
  if s.1 = 3 then (if sLv ns s < least then none else (match rd ns n (sH ns s false) none r with
   | none=>none
   | some x=>rd ns n least (some (.node 3 0 s.2 x.1 .nil)) x.2))
  else if s.1 = 6 then (match rd ns n 0 none r with
   | none=>none
   | some x=>rd ns n least (some (.node 6 0 ByteArray.empty x.1 .nil)) x.2.tail)
  else rd ns n least (some (.node s.1 0 s.2 .nil .nil)) r
 | _ + 1,_,some T,[]=>some (T,[])
 | n + 1,least,some T,s :: r=>
  if s.1 = 4 /\ least <= sLv ns s then (if lvT ns T < sH ns s false then none else (match rd ns n (sH ns s true) none r with
   | none=>none
   | some x=>rd ns n least (some (.node 4 0 s.2 T x.1)) x.2))
  else if s.1 = 5 /\ least <= sLv ns s then (if lvT ns T < sH ns s false then none else rd ns n least (some (.node 5 0 s.2 T .nil)) r)
  else some (T,s :: r)
theorem zAl (ns:List OpR):∀ n least md ss x,rd ns n least md ss = some x -> x.2.length <= ss.length
 | 0,_,_,_,_,h=>by simp [rd] at h
 | n + 1,least,none,[],x,h=>by simp [rd] at h
 | n + 1,least,none,s :: r,x,h=>by
  simp only [rd] at h
  split at h
  ·split at h
   ·cases h
   ·split at h
    ·cases h
    ·rename_i y hy
     have h1:=zAl ns n _ _ _ _ hy
     have h2:=zAl ns n _ _ _ _ h
     simp only [List.length_cons]; omega
  ·split at h
   ·split at h
    ·cases h
    ·rename_i y hy
     have h1:=zAl ns n _ _ _ _ hy
     have h2:=zAl ns n _ _ _ _ h
     have h3:y.2.tail.length <= y.2.length:=by simp
     simp only [List.length_cons]; omega
   ·have h2:=zAl ns n _ _ _ _ h
    simp only [List.length_cons]; omega
 | n + 1,least,some T,[],x,h=>by
  simp only [rd,Option.some.injEq] at h
  subst h; simp
 | n + 1,least,some T,s :: r,x,h=>by
  simp only [rd] at h
  split at h
  ·split at h
   ·cases h
   ·split at h
    ·cases h
    ·rename_i y hy
     have h1:=zAl ns n _ _ _ _ hy
     have h2:=zAl ns n _ _ _ _ h
     simp only [List.length_cons]; omega
  ·split at h
   ·split at h
    ·cases h
    ·have h2:=zAl ns n _ _ _ _ h
     simp only [List.length_cons]; omega
   ·simp only [Option.some.injEq] at h
    subst h; simp
theorem zEJ (ns:List OpR):∀ n m least md ss,ss.length < n -> ss.length < m -> rd ns n least md ss = rd ns m least md ss
 | 0,_,_,_,_,h,_=>absurd h (Nat.not_lt_zero _)
 | _ + 1,0,_,_,_,_,h=>absurd h (Nat.not_lt_zero _)
 | n + 1,m + 1,least,none,[],_,_=>by simp [rd]
 | n + 1,m + 1,least,some T,[],_,_=>by simp [rd]
 | n + 1,m + 1,least,none,s :: r,h,h'=>by
  simp only [List.length_cons] at h h'
  have e1:=fun l=>zEJ ns n m l none r (by omega) (by omega)
  have e2:=fun l md q=>fun (hq:q.length <= r.length)=>zEJ ns n m l md q (by omega) (by omega)
  simp only [rd,e1]
  split
  ·split
   ·rfl
   ·cases hy:rd ns m (sH ns s false) none r with
    | none=>rfl
    | some y=>exact e2 _ _ _ (zAl ns m _ _ _ _ hy)
  ·split
   ·cases hy:rd ns m 0 none r with
    | none=>rfl
    | some y=>exact e2 _ _ _ (by have:=zAl ns m _ _ _ _ hy; simp; omega)
   ·exact e2 _ _ _ (Nat.le_refl _)
 | n + 1,m + 1,least,some T,s :: r,h,h'=>by
  simp only [List.length_cons] at h h'
  have e1:=fun l=>zEJ ns n m l none r (by omega) (by omega)
  have e2:=fun l md q=>fun (hq:q.length <= r.length)=>zEJ ns n m l md q (by omega) (by omega)
  simp only [rd,e1]
  split
  ·split
   ·rfl
   ·cases hy:rd ns m (sH ns s true) none r with
    | none=>rfl
    | some y=>exact e2 _ _ _ (zAl ns m _ _ _ _ hy)
  ·split
   ·split
    ·rfl
    ·exact e2 _ _ _ (Nat.le_refl _)
   ·rfl
def RD (ns:List OpR) (least:Int) (md:Option ET) (ss:List SyR):Option (ET × List SyR):=rd ns (ss.length + 1) least md ss
theorem zOD (ns:List OpR) (n:Nat) (least:Int) (md:Option ET) (ss:List SyR) (h:ss.length < n):rd ns n least md ss = RD ns least md ss:=
 zEJ ns _ _ _ _ _ h (Nat.lt_succ_self _)
theorem zFU (ns:List OpR) (least:Int) (s:SyR) (r:List SyR):RD ns least none (s :: r) =
  if s.1 = 3 then (if sLv ns s < least then none else (match RD ns (sH ns s false) none r with
   | none=>none
   | some x=>RD ns least (some (.node 3 0 s.2 x.1 .nil)) x.2))
  else if s.1 = 6 then (match RD ns 0 none r with
   | none=>none
   | some x=>RD ns least (some (.node 6 0 ByteArray.empty x.1 .nil)) x.2.tail)
  else RD ns least (some (.node s.1 0 s.2 .nil .nil)) r:=by
 have e:RD ns least none (s :: r) = rd ns (r.length + 1 + 1) least none (s :: r):=rfl
 have e1:∀ l,rd ns (r.length + 1) l none r = RD ns l none r:=fun l=>rfl
 have e2:∀ l md q,q.length <= r.length -> rd ns (r.length + 1) l md q = RD ns l md q:=fun l md q hq=>zOD ns _ l md q (by omega)
 rw [e]
 simp only [rd,e1]
 split
 ·split
  ·rfl
  ·cases hy:RD ns (sH ns s false) none r with
   | none=>rfl
   | some y=>exact e2 _ _ _ (zAl ns _ _ _ _ _ hy)
 ·split
  ·cases hy:RD ns 0 none r with
   | none=>rfl
   | some y=>exact e2 _ _ _ (by have:=zAl ns _ _ _ _ _ hy; simp; omega)
  ·rfl
theorem zFV (ns:List OpR) (least:Int) (T:ET) (s:SyR) (r:List SyR):RD ns least (some T) (s :: r) =
  if s.1 = 4 /\ least <= sLv ns s then (if lvT ns T < sH ns s false then none else (match RD ns (sH ns s true) none r with
   | none=>none
   | some x=>RD ns least (some (.node 4 0 s.2 T x.1)) x.2))
  else if s.1 = 5 /\ least <= sLv ns s then (if lvT ns T < sH ns s false then none else RD ns least (some (.node 5 0 s.2 T .nil)) r)
  else some (T,s :: r):=by
 have e:RD ns least (some T) (s :: r) = rd ns (r.length + 1 + 1) least (some T) (s :: r):=rfl
 have e1:∀ l,rd ns (r.length + 1) l none r = RD ns l none r:=fun l=>rfl
 have e2:∀ l md q,q.length <= r.length -> rd ns (r.length + 1) l md q = RD ns l md q:=fun l md q hq=>zOD ns _ l md q (by omega)
 rw [e]
 simp only [rd,e1]
 split
 ·split
  ·rfl
  ·cases hy:RD ns (sH ns s true) none r with
   | none=>rfl
   | some y=>exact e2 _ _ _ (zAl ns _ _ _ _ _ hy)
 ·split
  ·split
   ·rfl
   ·rfl
  ·rfl
def zE8 (ns:List OpR) (least:Int) (ss:List SyR):Prop:=∀ s r,ss = s :: r -> (s.1 = 4 \/ s.1 = 5) -> sLv ns s < least
theorem zFW {ns:List OpR} {least:Int} {ss:List SyR} (h:zE8 ns least ss) (T:ET):RD ns least (some T) ss = some (T,ss):=by
 cases ss with
 | nil=>rfl
 | cons s r=>
  have hs:=h s r rfl
  rw [zFV,if_neg (fun x=>by have:=hs (Or.inl x.1); omega),if_neg (fun x=>by have:=hs (Or.inr x.1); omega)]
def zG5 (ns:List OpR):ET -> List SyR -> Prop
 | .nil,_=>True
 | .node b _ t l r,ss=>(b = 3 -> zE8 ns (sH ns (b,t) false) ss /\ zG5 ns l ss) /\ (b = 4 -> zE8 ns (sH ns (b,t) true) ss /\ zG5 ns r ss)
theorem zCv {ns:List OpR} {least:Int} {s:SyR} {r:List SyR} (h:¬ (s.1 = 4 \/ s.1 = 5)):zE8 ns least (s :: r):=fun s' r' e hs=>by
 injection e with e1 e2
 subst e1
 exact absurd hs h
theorem zCJ {ns:List OpR} {s:SyR} {r:List SyR} (h:¬ (s.1 = 4 \/ s.1 = 5)):∀ T:ET,zG5 ns T (s :: r)
 | .nil=>trivial
 | .node b o t l q=>⟨fun _=>⟨zCv h,zCJ h l⟩,fun _=>⟨zCv h,zCJ h q⟩⟩
theorem zE9 {ns:List OpR} (hv:zM ns 0) {q:SyR} {r:List SyR}:∀ T:ET,zX ns T -> sLv ns q < lvT ns T -> zG5 ns T (q :: r):=by
 intro T
 induction T with
 | nil=>intro h; exact h.elim
 | node b o t l rr ihl ihr=>
  rintro ⟨_,h⟩ hq
  have st:∀ m:Int,sLv ns q < m -> zE8 ns m (q :: r):=fun m hm s' r' e _=>by
   injection e with e1 e2
   subst e1
   exact hm
  refine ⟨fun e=>?_,fun e=>?_⟩
  ·subst e
   rcases h with ⟨h | h,_⟩ | ⟨h,_⟩ | ⟨_,hk,hl,_,hh⟩ | ⟨h,_⟩
   ·omega
   ·omega
   ·omega
   ·have f:=(opF hv (Or.inl rfl) hk).pre rfl
    simp only [lvT] at hq
    exact ⟨st _ (by omega),ihl hl (by omega)⟩
   ·omega
  ·subst e
   rcases h with ⟨h | h,_⟩ | ⟨h,_⟩ | ⟨h | h,_⟩ | ⟨_,hk,hl,hr,h1,h2⟩
   ·omega
   ·omega
   ·omega
   ·omega
   ·omega
   ·have f:=(opF hv (Or.inr (Or.inl rfl)) hk).mid rfl
    simp only [lvT] at hq
    exact ⟨st _ (by omega),ihr hr (by omega)⟩
theorem zG6 {ns:List OpR} (hv:zM ns 0) {q:SyR} {r:List SyR} (hq:q.1 = 4 \/ q.1 = 5) (hkq:knB ns q = true):∀ T:ET,zX ns T -> sH ns q false <= lvT ns T -> zG5 ns T (q :: r):=by
 intro T hT hle
 have fq:=opF hv (by omega) hkq
 have hh:sH ns q false = sLv ns q + 1 \/ (sH ns q false = sLv ns q /\ sSo ns q = 1):=by
  rcases hq with e | e
  ·rcases fq.mid e with h | h | h
   ·exact Or.inr ⟨h.2.1,h.1⟩
   ·exact Or.inl h.2.1
   ·exact Or.inl h.2.1
  ·exact Or.inr (fq.post e)
 by_cases hlt:sLv ns q < lvT ns T
 ·exact zE9 hv T hT hlt
 ·have heq:lvT ns T = sLv ns q /\ sSo ns q = 1:=by
   rcases hh with h | ⟨h,h'⟩
   ·omega
   ·exact ⟨by omega,h'⟩
  cases T with
  | nil=>exact hT.elim
  | node b o t l rr=>
   obtain ⟨_,h⟩:=hT
   simp only [lvT] at heq
   have st:∀ m:Int,sLv ns q < m -> zE8 ns m (q :: r):=fun m hm s' r' e _=>by
    injection e with e1 e2
    subst e1
    exact hm
   refine ⟨fun e=>?_,fun e=>?_⟩
   ·subst e
    rcases h with ⟨h | h,_⟩ | ⟨h,_⟩ | ⟨_,hk,hl,_,hh⟩ | ⟨h,_⟩
    ·omega
    ·omega
    ·omega
    ·have f:=(opF hv (Or.inl rfl) hk).pre rfl
     have:=zEn hv (s:=(3,t)) (s':=q) (Or.inl rfl) (by omega) hk hkq heq.1
     omega
    ·omega
   ·subst e
    rcases h with ⟨h | h,_⟩ | ⟨h,_⟩ | ⟨h | h,_⟩ | ⟨_,hk,hl,hr,h1,h2⟩
    ·omega
    ·omega
    ·omega
    ·omega
    ·omega
    ·have f:=(opF hv (Or.inr (Or.inl rfl)) hk).mid rfl
     have:=zEn hv (s:=(4,t)) (s':=q) (Or.inr (Or.inl rfl)) (by omega) hk hkq heq.1
     have e2:sH ns (4,t) true = sLv ns (4,t) + 1:=by
      rcases f with h | h | h
      ·exact h.2.2
      ·omega
      ·omega
     exact ⟨st _ (by omega),zE9 hv rr hr (by omega)⟩
theorem zL5 {ns:List OpR} (hv:zM ns 0):∀ (T:ET),zX ns T -> ∀ (least:Int) (rest:List SyR),least <= lvT ns T -> zG5 ns T rest -> RD ns least none (ySy T ++ rest) = RD ns least (some T) rest:=by
 intro T
 induction T with
 | nil=>intro h; exact h.elim
 | node b o t l r ihl ihr=>
  rintro ⟨rfl,h⟩ least rest hle hst
  simp only [lvT] at hle
  rcases h with ⟨h12,rfl,rfl⟩ | ⟨rfl,rfl,hl,rfl⟩ | ⟨h35,hk,hl,rfl,hh⟩ | ⟨rfl,hk,hl,hr,h1,h2⟩
  ·have e:ySy (.node b 0 t .nil .nil) = [(b,t)]:=by
    simp only [ySy]
    rw [if_neg (by omega),if_neg (by omega),if_neg (by omega),if_neg (by omega)]
   rw [e]
   show RD ns least none ((b,t) :: rest) = _
   rw [zFU]
   simp only
   rw [if_neg (by omega),if_neg (by omega)]
  ·have e:ySy (.node 6 0 ByteArray.empty l .nil) ++ rest = (6,opn) :: (ySy l ++ ((7,zA7) :: rest)):=by
    simp [ySy]
   rw [e,zFU]
   simp only
   rw [if_neg (by decide),if_pos trivial]
   have hs:¬ ((7,zA7):SyR).1 = 4 /\ ¬ ((7,zA7):SyR).1 = 5:=⟨by decide,by decide⟩
   have h0:(0:Int) <= lvT ns l:=by
    cases l with
    | nil=>exact hl.elim
    | node bb oo tt ll rr=>
     simp only [lvT]
     by_cases hb:bb = 3 \/ bb = 4 \/ bb = 5
     ·have hkn:knB ns (bb,tt) = true:=by
       rcases hl.2 with ⟨h | h,_⟩ | ⟨h,_⟩ | ⟨_,hk,_⟩ | ⟨_,hk,_⟩
       ·omega
       ·omega
       ·omega
       ·exact hk
       ·exact hk
      have:=(opF hv (s:=(bb,tt)) hb hkn).lo
      omega
     ·rw [zAs ns bb tt hb]; omega
   rw [ihl hl 0 _ h0 (zCJ (by omega) l),zFW (zCv (by omega))]
   rfl
  ·rcases h35 with rfl | rfl
   ·have f:=(opF hv (Or.inl rfl) hk).pre rfl
    have e:ySy (.node 3 0 t l .nil) ++ rest = (3,t) :: (ySy l ++ rest):=by simp [ySy]
    obtain ⟨hst1,hst2⟩:=hst.1 rfl
    rw [e,zFU]
    simp only
    rw [if_pos trivial,if_neg (by omega),ihl hl _ rest hh hst2,zFW hst1]
   ·have f:=(opF hv (Or.inr (Or.inr rfl)) hk).post rfl
    have e:ySy (.node 5 0 t l .nil) ++ rest = ySy l ++ ((5,t) :: rest):=by simp [ySy]
    rw [e,ihl hl least _ (by omega) (zG6 hv (q:=(5,t)) (Or.inr rfl) hk l hl hh),zFV]
    simp only
    rw [if_neg (by omega),if_pos ⟨trivial,hle⟩,if_neg (by omega)]
  ·have f:=(opF hv (Or.inr (Or.inl rfl)) hk).mid rfl
   have e:ySy (.node 4 0 t l r) ++ rest = ySy l ++ ((4,t) :: (ySy r ++ rest)):=by simp [ySy]
   obtain ⟨hst1,hst2⟩:=hst.2 rfl
   rw [e,ihl hl least _ (by omega) (zG6 hv (q:=(4,t)) (Or.inl rfl) hk l hl h1),zFV]
   simp only
   rw [if_pos ⟨trivial,hle⟩,if_neg (by omega),ihr hr _ rest h2 hst2,zFW hst1]
def zBY (ns:List OpR):ET -> Prop
 | .nil=>False
 | .node b o t l r=>o = 0 /\ (((b = 1 \/ b = 2) /\ l = .nil /\ r = .nil) \/ (b = 6 /\ t = ByteArray.empty /\ zBY ns l /\ r = .nil) \/ ((b = 3 \/ b = 5) /\ knB ns (b,t) = true /\ zBY ns l /\ r = .nil) \/ (b = 4 /\ knB ns (b,t) = true /\ zBY ns l /\ zBY ns r))
theorem zX.well {ns:List OpR}:∀ {T:ET},zX ns T -> zBY ns T
 | .nil,h=>h
 | .node b o t l r,⟨h0,h⟩=>by
  refine ⟨h0,?_⟩
  rcases h with h | ⟨h1,h2,hl,h3⟩ | ⟨h1,h2,hl,h3,_⟩ | ⟨h1,h2,hl,hr,_⟩
  ·exact Or.inl h
  ·exact Or.inr (Or.inl ⟨h1,h2,hl.well,h3⟩)
  ·exact Or.inr (Or.inr (Or.inl ⟨h1,h2,hl.well,h3⟩))
  ·exact Or.inr (Or.inr (Or.inr ⟨h1,h2,hl.well,hr.well⟩))
theorem zBY.sh {ns:List OpR}:∀ {T:ET},zBY ns T -> Sh T
 | .nil,h=>h.elim
 | .node b o t l r,⟨h0,h⟩=>by
  refine ⟨h0,?_⟩
  rcases h with ⟨h | h,rfl,rfl⟩ | ⟨rfl,_,hl,rfl⟩ | ⟨h | h,_,hl,rfl⟩ | ⟨rfl,_,hl,hr⟩
  ·subst h; exact Or.inl ⟨by decide,rfl,rfl⟩
  ·subst h; exact Or.inl ⟨by decide,rfl,rfl⟩
  ·exact Or.inr (Or.inl ⟨by decide,hl.sh,rfl⟩)
  ·subst h; exact Or.inr (Or.inl ⟨by decide,hl.sh,rfl⟩)
  ·subst h; exact Or.inr (Or.inl ⟨by decide,hl.sh,rfl⟩)
  ·exact Or.inr (Or.inr ⟨by decide,hl.sh,hr.sh⟩)
theorem zKW {ns:List OpR} {b:Nat} {t:ByteArray} (h:knB ns (b,t) = true):(opA ns (rt b t)).s = t:=by
 obtain ⟨j,hj,hf,hk,ho⟩:=zEI h
 rw [ho]
 exact (ZW hf).2.1
end Go.Proofs.YtfboipappaonhaaGreat
namespace Go.Proofs.YtfboipappaonhaaGreat
set_option linter.unusedSimpArgs false
set_option linter.unusedVariables false
set_option maxHeartbeats 16000000
set_option maxRecDepth 100000
open Go.RowKit
def zFA (e:Value) (l:Int):Prop:=∃ T v f r,e = .iface T v /\ (∀ w,(method 342 T v "loop.example/s0059/impl.level").run Tryz.prog w = .ok (f,r) w) /\ (∀ a w,(callFunc f a).run Tryz.prog w = .ok (.enter f a) w) /\
 ∀ w,Calls Tryz.prog f #[r] w fun x w'=>x = .returned (.int .i64 l) /\ Below w.heap.size w w'
theorem zCw (w:World):Calls Tryz.prog 185 #[.agg #[]] w fun x w'=>x = .returned (.int .i64 1001) /\ Below w.heap.size w w':=by
 go_enter Tryz.func185,Tryz.ntmps185
 go_wp2_with fail
 go_ret
 exact ⟨rfl,by first | exact zC _ _ | exact Below.refl _ _⟩
theorem zBx (p:OpR) (w:World):Calls Tryz.prog 189 #[.agg #[.string p.s,.int .i64 p.k,.int .i64 p.l,.int .i64 p.sd]] w fun x w'=>x = .returned (.int .i64 p.l) /\ Below w.heap.size w w':=by
 go_enter Tryz.func189,Tryz.ntmps189
 go_wp2_with fail
 go_ret
 exact ⟨rfl,by first | exact zC _ _ | exact Below.refl _ _⟩
theorem zNN (t:ByteArray):zFA (zNJ t) 1001:=⟨_,_,185,.agg #[],rfl,fun w=>by kernel_rfl,fun a w=>by kernel_rfl,zCw⟩
theorem zL6 (t:ByteArray):zFA (zKT t) 1001:=⟨_,_,185,.agg #[],rfl,fun w=>by kernel_rfl,fun a w=>by kernel_rfl,zCw⟩
theorem zNO (e:Value):zFA (zL1 e) 1001:=⟨_,_,185,.agg #[],rfl,fun w=>by kernel_rfl,fun a w=>by kernel_rfl,zCw⟩
theorem zNP (p:OpR) (e:Value):zFA (zK2 p e) p.l:=⟨_,_,189,.agg #[.string p.s,.int .i64 p.k,.int .i64 p.l,.int .i64 p.sd],rfl,fun w=>by kernel_rfl,fun a w=>by kernel_rfl,zBx p⟩
theorem zL7 (p:OpR) (e:Value):zFA (zFz p e) p.l:=⟨_,_,189,.agg #[.string p.s,.int .i64 p.k,.int .i64 p.l,.int .i64 p.sd],rfl,fun w=>by kernel_rfl,fun a w=>by kernel_rfl,zBx p⟩
theorem zNQ (p:OpR) (e e':Value):zFA (zIo p e e') p.l:=⟨_,_,189,.agg #[.string p.s,.int .i64 p.k,.int .i64 p.l,.int .i64 p.sd],rfl,fun w=>by kernel_rfl,fun a w=>by kernel_rfl,zBx p⟩
theorem zK4 (p:OpR) (o:zD) (e e':Value):∃ T v,exN p o e e' = .iface T v:=by
 unfold exN
 split
 ·exact ⟨_,_,rfl⟩
 ·split
  ·exact ⟨_,_,rfl⟩
  ·split
   ·exact ⟨_,_,rfl⟩
   ·split
    ·exact ⟨_,_,rfl⟩
    ·split
     ·exact ⟨_,_,rfl⟩
     ·exact ⟨_,_,rfl⟩
end Go.Proofs.YtfboipappaonhaaGreat
